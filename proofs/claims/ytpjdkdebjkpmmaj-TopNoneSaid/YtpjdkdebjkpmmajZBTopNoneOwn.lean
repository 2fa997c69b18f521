/- Several texts in one. -/
import Derived.Test.YtpjdkdebjkpmmajZTopNoneOwn
import Derived.Maps.OwnIn
import Derived.Maps.AppendAt
import Derived.Sort.LoopGhostIn
import Derived.Test.YtpjdkdebjkpmmajW8
import Derived.Deep.RegionHeld3
import Derived.Test.YtpjdkdebjkpmmajBnd
import Derived.Test.YtpjdkdebjkpmmajSrt
import Derived.Test.YtpjdkdebjkpmmajW6
import Derived.Test.YtpjdkdebjkpmmajK2
import Derived.Test.YtpjdkdebjkpmmajExQ
import Derived.Test.YtpjdkdebjkpmmajMapS
import Derived.Deep.LoopGhost
import Derived.Test.YtpjdkdebjkpmmajPrr
import Derived.Test.YtpjdkdebjkpmmajW9
import Derived.Test.YtpjdkdebjkpmmajMapT
import Derived.Test.YtpjdkdebjkpmmajW1
import Derived.Sort.KeysCollected
import Derived.Sort.Walk0
import Derived.Maps.Range
import Derived.Maps.Own
import Derived.StringKeys
import Derived.Shelf.SlIter.Nil
import Derived.Shelf.SortM.Plain
import Derived.Shelf.SortM.SortNone
import Derived.Shelf.SlGeneric
import Derived.Ground.GgzProg
import Derived.Ground.SlgmProg
import Derived.Test.YtpjdkdebjkpmmajProg
import Derived.Test.YtpjdkdebjkpmmajRows
import Derived.Test.YtpjdkdebjkpmmajOnM
import Derived.Test.YtpjdkdebjkpmmajBmE
import Derived.Test.YtpjdkdebjkpmmajU5
import Derived.Test.YtpjdkdebjkpmmajW17
/- Walks: solve. -/
namespace Go.Proofs.Ytpjdkdebjkpmmaj
open Go.RowKit Go.Shelf
attribute [local go_sem] Oper.semAt_some
set_option linter.unusedSimpArgs false
set_option linter.unusedVariables false
set_option maxRecDepth 8000

/-- What is handed on lies in old memory. -/
def OldY (w : World) (x : Yx) : Prop := Sl w (fun b => b < w.heap.size) x.2.2.1.1 x.2.1.l.args ∧ Sl w (fun b => b < w.heap.size) x.2.2.2.1 x.2.1.r.args
/-- What is known while equations are laid. -/
def LyI (w : World) (pre : List { x : Yx // OldY w x }) (W : World) : Prop :=
  ∃ (td : Value) (cs : List Ec), Blk W (w.heap.size + 1) #[td, .map (some w.heap.size), .bool false] 104 ∧ MapAt W w.heap.size [] ∧ W.ownsRow (w.heap.size + 3) 109 5 td cs.length (flat5 cs) ∧ (∀ x ∈ cs, Sl W (fun b => b < w.heap.size) x.1.2.1.1 x.1.1.l.args ∧ Sl W (fun b => b < w.heap.size) x.1.2.2.1 x.1.1.r.args) ∧ cs.map ecP = pre.map (fun x => (x.1.2.1, 0)) ∧ Below w.heap.size w W ∧ w.heap.size + 3 ≤ W.heap.size
theorem lyI_own (w : World) : OwnFrom (w.heap.size + 3) (LyI w) := by
  intro pre W W' row hI hg hr
  obtain ⟨td, cs, h1, h2, h3, h4, h5, h6, h7⟩ := hI
  have hgs := hg.size
  have hne : ∀ b, b < w.heap.size + 3 → some b ≠ row := fun b hb e => by have := (hr b e.symm).1; omega
  refine ⟨td, cs, h1.grown hg (hne _ (by omega)), h2.kept (hg.block _ (by omega) (hne _ (by omega))), ownsRow_at h3 fun g hg1 => ?_, fun x hx => ⟨(h4 x hx).1.kept fun b hb => hg.block b (by omega) (hne b (by omega)), (h4 x hx).2.kept fun b hb => hg.block b (by omega) (hne b (by omega))⟩, h5, ?_, by omega⟩
  · refine hg.block g (h3.lt g hg1).2 fun e => ?_
    obtain ⟨_, o, ho, hc⟩ := hr g e.symm
    rcases h3.2 with ⟨hv, _⟩ | ⟨g', cap, cur, hv, _, hh, _⟩
    · rw [hv] at hg1; simp [Value.ownBlock] at hg1
    · rw [hv] at hg1
      have e2 : g' = g := by simpa [Value.ownBlock] using hg1
      subst e2
      rw [ho] at hh
      cases hh
      simp [Obj.isCells] at hc
  · exact ⟨hg.os.trans h6.os, hg.tape.trans h6.tape, hg.output.trans h6.output, by have := h6.size; omega, fun b hb => (hg.block b (by omega) (hne b (by omega))).trans (h6.block b hb)⟩
theorem owns_shape {w : World} {N e s n : Nat} {v : Value} {xs : List Value} (h : w.ownsRow N e s v (n + 1) xs) : ∃ g cap, v = .slice (some ⟨g, 0, none⟩) (n + 1) cap := by
  rcases h.2 with h1 | ⟨g, cap, cur, hv, _⟩
  · exact absurd h1.2 (by omega)
  · exact ⟨g, cap, hv⟩
/-- What a round keeps. -/
def LyK (w : World) (A B : World) : Prop := ExQ (fun b => b = w.heap.size + 1 ∨ w.heap.size + 3 ≤ b) A B ∧ ∀ k, k < w.heap.size + 3 → k ≠ w.heap.size + 1 → B.heap[k]? = A.heap[k]?
theorem LyK.refl (w A : World) : LyK w A A := ⟨ExQ.refl _ _, fun _ _ _ => rfl⟩
theorem LyK.trans {w A B C : World} (h : LyK w A B) (k : LyK w B C) : LyK w A C := ⟨h.1.trans k.1, fun i h1 h2 => (k.2 i h1 h2).trans (h.2 i h1 h2)⟩
theorem lyK_c {w A B : World} {b : Nat} (hb : b ≤ w.heap.size) (h : LyK w A B) : B.heap[b]? = A.heap[b]? ∧ B.heap[w.heap.size + 1 + 1]? = A.heap[w.heap.size + 1 + 1]? :=
  ⟨h.2 b (by omega) (by omega), h.2 _ (by omega) (by omega)⟩
theorem lyK_b {w W : World} {l : Nat} {o' : Obj} (hl : w.heap.size + 3 ≤ l) : LyK w W (W.putObj l o') :=
  ⟨⟨rfl, rfl, rfl, by simp, fun k _ hn => World.putObj_heap_other (fun e => hn (Or.inr (by omega)))⟩, fun k h1 h2 => World.putObj_heap_other (by omega)⟩
theorem lyI_step {w W w3 : World} {pre : List { x : Yx // OldY w x }} {x : { x : Yx // OldY w x }} {td v' : Value} {cs : List Ec} {o : Obj} (i1 : Blk W (w.heap.size + 1) #[td, .map (some w.heap.size), .bool false] 104) (i2 : MapAt W w.heap.size []) (i3 : W.ownsRow (w.heap.size + 3) 109 5 td cs.length (flat5 cs)) (i4 : ∀ x ∈ cs, Sl W (fun b => b < w.heap.size) x.1.2.1.1 x.1.1.l.args ∧ Sl W (fun b => b < w.heap.size) x.1.2.2.1 x.1.1.r.args) (i5 : cs.map ecP = pre.map (fun x => (x.1.2.1, 0))) (i6 : Below w.heap.size w W) (i7 : w.heap.size + 3 ≤ W.heap.size)
    (ho : w3.ownsRow (w.heap.size + 3) 109 5 v' (cs.length + 1) (flat5 cs ++ enc5 (x.1.2, 0))) (hg : (W.alloc o).grownBy w3 td.ownBlock) :
    KeepsFrom (w.heap.size + 3) W (w3.setCell ⟨w.heap.size + 1, 0, none⟩ v') ∧ LyK w W (w3.setCell ⟨w.heap.size + 1, 0, none⟩ v') ∧ LyI w (pre ++ [x]) (w3.setCell ⟨w.heap.size + 1, 0, none⟩ v') := by
  have hgs := hg.size
  simp at hgs
  have hne : ∀ b, b < w.heap.size + 3 → some b ≠ td.ownBlock := fun b hb e => by have := (i3.lt b e.symm).1; omega
  have h3 : ∀ k, k < W.heap.size → some k ≠ td.ownBlock → w3.heap[k]? = W.heap[k]? := fun k h1 h2 => (hg.block k (by simp; omega) h2).trans (Below.heap_alloc _ _ _ h1)
  have h4 : ∀ k, k ≠ w.heap.size + 1 → (w3.setCell ⟨w.heap.size + 1, 0, none⟩ v').heap[k]? = w3.heap[k]? := fun k hk => Below.heap_setCell _ _ _ _ (by simpa using hk)
  have hz : (w3.setCell ⟨w.heap.size + 1, 0, none⟩ v').heap.size = w3.heap.size := by simp [World.setCell]
  refine ⟨⟨by omega, fun k ob hk hh hc => ?_⟩, ⟨⟨?_, ?_, ?_, by omega, fun k h1 h2 => ?_⟩, fun k h1 h2 => (h4 k h2).trans (h3 k (by omega) (hne k h1))⟩, ?_⟩
  · have hkl : k < W.heap.size := (Array.getElem?_eq_some_iff.1 hh).1
    rw [h4 k (by omega), h3 k hkl fun e => ?_, hh]
    rcases i3.2 with ⟨hv, _⟩ | ⟨g', cap, cur, hv, _, hh2, _⟩
    · rw [hv] at e; simp [Value.ownBlock] at e
    · rw [hv] at e
      have e2 : k = g' := by simpa [Value.ownBlock] using e
      subst e2
      rw [hh] at hh2
      cases hh2
      simp [Obj.isCells] at hc
  · exact hg.os
  · exact hg.tape
  · exact hg.output
  · have hk1 : k < w.heap.size + 3 := by
      apply Classical.byContradiction
      intro hn
      exact h2 (Or.inr (by omega))
    exact (h4 k (fun e => h2 (Or.inl e))).trans (h3 k h1 (hne k hk1))
  · refine ⟨v', cs ++ [(x.1.2, 0)], ?_, i2.kept ((h4 _ (by omega)).trans (h3 _ (by omega) (hne _ (by omega)))), ?_, fun y hy => ?_, ?_, ?_, by omega⟩
    · have := (((i1.alloc o).grown hg (hne _ (by omega))).set 0 v')
      simpa using this
    · rw [List.length_append, flat5_append]
      have e5 : flat5 [(x.1.2, 0)] = enc5 (x.1.2, 0) := by simp [flat5]
      rw [e5]
      exact ownsRow_at ho fun g hg1 => h4 g (by have := (ho.lt g hg1).1; omega)
    · rcases List.mem_append.1 hy with hy | hy
      · exact ⟨(i4 y hy).1.kept fun b hb => (h4 b (by omega)).trans (h3 b (by omega) (hne b (by omega))), (i4 y hy).2.kept fun b hb => (h4 b (by omega)).trans (h3 b (by omega) (hne b (by omega)))⟩
      · have e : y = (x.1.2, 0) := by simpa using hy
        subst e
        have hb2 : Below w.heap.size w (w3.setCell ⟨w.heap.size + 1, 0, none⟩ v') := ⟨hg.os.trans i6.os, hg.tape.trans i6.tape, hg.output.trans i6.output, by have := i6.size; omega, fun b hb => ((h4 b (by omega)).trans (h3 b (by omega) (hne b (by omega)))).trans (i6.block b hb)⟩
        exact ⟨x.2.1.later hb2, x.2.2.later hb2⟩
    · rw [List.map_append, List.map_append, i5]; rfl
    · exact ⟨hg.os.trans i6.os, hg.tape.trans i6.tape, hg.output.trans i6.output, by have := i6.size; omega, fun b hb => ((h4 b (by omega)).trans (h3 b (by omega) (hne b (by omega)))).trans (i6.block b hb)⟩
/-- The state when no equation is worked off any more. -/
def SvL (S q : Nat) (R : Int × List Bd) (ev : Value) (wr : World) : Prop :=
  ∃ (code : Int) (h : List (ByteArray × Tm)) (f : Bool) (Y : Nat → Prop) (td : Value), ev = .int .i64 code ∧ SolE S q td h f Y wr ∧ GoodH h ∧ NamesH h ∧ h.length ≤ 1000000 ∧ (R = (code, sAt h) ∨ (grtB (sAt h) = true ∧ grtB R.2 = true)) ∧ (code ≠ 0 ∨ (code = 0 ∧ ∃ a c, td = .slice a 0 c))
/-- The state when one is to come, perhaps. -/
def SvR (S q N : Nat) (V : List ByteArray) (R : Int × List Bd) (g : Nat) (wr : World) : Prop :=
  ∃ (h : List (ByteArray × Tm)) (cs : List Ec), SolT S q N h cs wr ∧ UI V h ((cs.map ecP).reverse.map (·.1)) ∧ (∀ y ∈ cs.map ecP, y.2 ≤ h.length ∧ (y.2 = h.length → onT (sAt h) y.1.l = y.1.l ∧ onT (sAt h) y.1.r = y.1.r)) ∧ uRun false g (sAt h) ((cs.map ecP).reverse.map (·.1)) = some R
def SvI (w : World) (S q N : Nat) (V : List ByteArray) (R : Int × List Bd) (D : Nat) (g : Nat) (ev : Value) (wr : World) : Prop :=
  wr.heap[D]? = some (.deferred (some [])) ∧ Below w.heap.size w wr ∧ ((ev = .int .i64 0 ∧ SvR S q N V R g wr) ∨ SvL S q R ev wr)
/-- One equation at least. -/
def SvN (S q N : Nat) (V : List ByteArray) (R : Int × List Bd) (g : Nat) (wr : World) : Prop :=
  ∃ (h : List (ByteArray × Tm)) (cs : List Ec) (x : Ec), SolT S q N h (cs ++ [x]) wr ∧ UI V h (x.1.1 :: (cs.map ecP).reverse.map (·.1)) ∧ (x.2 ≤ h.length ∧ (x.2 = h.length → onT (sAt h) x.1.1.l = x.1.1.l ∧ onT (sAt h) x.1.1.r = x.1.1.r)) ∧ (∀ y ∈ cs.map ecP, y.2 ≤ h.length ∧ (y.2 = h.length → onT (sAt h) y.1.l = y.1.l ∧ onT (sAt h) y.1.r = y.1.r)) ∧ uRun false g (sAt h) (x.1.1 :: (cs.map ecP).reverse.map (·.1)) = some R
theorem sv_cases {S q N : Nat} {V : List ByteArray} {R : Int × List Bd} {g : Nat} {ev : Value} {wr : World} (hV : V.length ≤ 400000) (h : (ev = .int .i64 0 ∧ SvR S q N V R g wr) ∨ SvL S q R ev wr) : SvL S q R ev wr ∨ (ev = .int .i64 0 ∧ SvN S q N V R g wr) := by
  rcases h with ⟨rfl, h, cs, hT, hU, hb, hr⟩ | h
  · rcases List.eq_nil_or_concat cs with rfl | ⟨cs, x, rfl⟩
    · left
      obtain ⟨td, Y, hE, hR, hY, _⟩ := hT
      refine ⟨0, h, false, Y, td, rfl, hE, hU.good, hU.names, by have := hU.hlen; omega, Or.inl ?_, Or.inr ⟨rfl, ?_⟩⟩
      · cases g with
        | zero => cases hr
        | succ g =>
          simp [uRun, uNext] at hr
          exact hr.symm
      · rcases hR.own.2 with ⟨h1, _⟩ | ⟨g, cap, cur, h1, _⟩
        · exact ⟨_, _, h1⟩
        · exact ⟨_, _, h1⟩
    · right
      rw [List.concat_eq_append] at *
      simp only [List.map_append, List.map_cons, List.map_nil, List.reverse_append, List.reverse_cons, List.reverse_nil, List.nil_append, List.singleton_append] at hU hr hb
      exact ⟨rfl, h, cs, x, hT, hU, hb (ecP x) (by simp), fun y hy => hb y (by simp [hy]), hr⟩
  · exact Or.inl h
/-- One equation less. -/
theorem row_pop {w : World} {N n g cap : Nat} {cs : List Ec} {x : Ec} (hn : cs.length = n) (h : w.ownsRow N 109 5 (.slice (some ⟨g, 0, none⟩) (n + 1) cap) (n + 1) (flat5 (cs ++ [x]))) : w.ownsRow N 109 5 (.slice (some ⟨g, 0, none⟩) n cap) n (flat5 cs) := by
  subst hn
  refine ⟨flat5_length cs, Or.inr ?_⟩
  rcases h.2 with ⟨h1, _⟩ | ⟨g', cap', cur, h1, h2, h3, h4, h5, h6, h7⟩
  · cases h1
  · simp at h1
    obtain ⟨rfl, rfl⟩ := h1
    refine ⟨g, cap, cur, rfl, h2, h3, by omega, h5, h6, ?_⟩
    have h8 : (cur.toList.take ((cs.length + 1) * 5)).take (cs.length * 5) = (flat5 (cs ++ [x])).take (cs.length * 5) := by rw [h7]
    rw [List.take_take, Nat.min_eq_left (by omega), flat5_append, List.take_append_of_le_length (by rw [flat5_length]; omega), List.take_of_length_le (l := flat5 cs) (by rw [flat5_length]; omega)] at h8
    exact h8
/-- What an equation worked off gives. -/
theorem sv_step {w wr w4 : World} {S q N : Nat} {V : List ByteArray} {R : Int × List Bd} {D g : Nat} {h : List (ByteArray × Tm)} {cs : List Ec} {x : Ec} {td0 : Value} {w3 : World} {e : Ending} (hV : V.length ≤ 400000) (hU : UI V h (x.1.1 :: (cs.map ecP).reverse.map (·.1))) (hb : ∀ y ∈ cs.map ecP, y.2 ≤ h.length ∧ (y.2 = h.length → onT (sAt h) y.1.l = y.1.l ∧ onT (sAt h) y.1.r = y.1.r)) (hr : uRun false g (sAt h) (x.1.1 :: (cs.map ecP).reverse.map (·.1)) = some R)
    (hD : w3.heap[D]? = some (.deferred (some []))) (hDS : D ≠ S) (hDq : D ≠ q) (hDt : some D ≠ td0.ownBlock) (hB : Below w.heap.size w w3) (hS : w.heap.size ≤ S) (hq : w.heap.size ≤ q) (ht : ∀ b, some b = td0.ownBlock → w.heap.size ≤ b)
    (hp : WoPost S q N h cs (onT (sAt h) x.1.1.l) (onT (sAt h) x.1.1.r) td0 w3 e w4) : ∃ (code : Int) (g1 : Nat), e = .returned (.int .i64 code) ∧ g1 < g ∧ SvI w S q N V R D g1 (.int .i64 code) w4 := by
  obtain ⟨code, rfl, hx, hout⟩ := hp
  have hDl : D < w3.heap.size := (Array.getElem?_eq_some_iff.1 hD).1
  cases g with
  | zero => cases hr
  | succ g =>
    refine ⟨code, g, rfl, Nat.lt_succ_self _, (hx.block D hDl (fun hh => ?_)).trans hD, ⟨hx.os.trans hB.os, hx.tape.trans hB.tape, hx.output.trans hB.output, Nat.le_trans hB.size hx.size, fun k hk => (hx.block k (Nat.lt_of_lt_of_le hk hB.size) (fun hh => ?_)).trans (hB.block k hk)⟩, ?_⟩
    · rcases hh with h1 | h1 | h1
      · exact hDS h1
      · exact hDq h1
      · exact hDt h1
    · rcases hh with h1 | h1 | h1
      · omega
      · omega
      · have := ht k h1; omega
    · have hr0 := hr
      rw [uRun, uNext_cons] at hr
      rcases hout with ⟨hne, f', Y', td', hE, hw⟩ | ⟨rfl, hza, hzb, h', cs', new, hT, hC, hgo, hcs⟩
      · right
        refine ⟨code, h, f', Y', td', rfl, hE, hU.good, hU.names, by have := hU.hlen; omega, ?_, Or.inl hne⟩
        rcases hw with rfl | hw
        · have hg := hE.2.2.2.2 rfl
          exact Or.inr ⟨hg, uRun_great _ _ _ R.1 R.2 (by rw [hr0]) hg⟩
        · rw [hw] at hr
          simp at hr
          exact Or.inl hr.symm
      · left
        rw [hgo] at hr
        have el : (cs'.map ecP).reverse.map (·.1) = new ++ (cs.map ecP).reverse.map (·.1) := by
          rw [hC]
          simp [List.map_reverse, Function.comp_def]
        refine ⟨rfl, h', cs', hT, ?_, ?_, by rw [el]; exact hr⟩
        · rw [el]
          rcases hcs with ⟨rfl, rfl⟩ | ⟨rfl, y, t, rfl, hv, hor, ho⟩ | ⟨rfl, rfl, hl⟩
          · exact hU.drop
          · exact (hU.bindV hv (by rcases hor with ⟨h1, h2⟩ | ⟨h1, h2⟩; exact Or.inl ⟨h1, h2⟩; exact Or.inr ⟨h1, h2⟩) ho).2
          · exact (hU.deep hza hzb hl).1
        · rw [hC]
          intro y hy
          rcases List.mem_append.1 hy with hy1 | hy
          · clear hy
            rcases hcs with ⟨rfl, rfl⟩ | ⟨rfl, z, t, rfl, hv, hor, ho⟩ | ⟨rfl, rfl, hl⟩
            · exact hb y hy1
            · have := (hb y hy1).1
              refine ⟨by simp; omega, fun e => ?_⟩
              simp at e; omega
            · exact hb y hy1
          · obtain ⟨p, hp, rfl⟩ := List.mem_map.1 hy
            rcases hcs with ⟨rfl, rfl⟩ | ⟨rfl, z, t, rfl, hv, hor, ho⟩ | ⟨rfl, rfl, hl⟩
            · simp at hp
            · simp at hp
            · exact ⟨Nat.le_refl _, fun _ => (hU.deep hza hzb hl).2 p (by simpa using hp)⟩
theorem lyI_solT {w W : World} {pre : List { x : Yx // OldY w x }} (h : LyI w pre W) : ∃ cs : List Ec, SolT (w.heap.size + 1) w.heap.size (w.heap.size + 3) [] cs W ∧ cs.map ecP = pre.map (fun x => (x.1.2.1, 0)) ∧ Below w.heap.size w W := by
  obtain ⟨td, cs, i1, i2, i3, i4, i5, i6, i7⟩ := h
  refine ⟨cs, ⟨td, fun b => b = w.heap.size + 1 ∨ b = w.heap.size, ⟨⟨[], i1, i2, by simp, fun i hi => by simp at hi⟩, Or.inl rfl, Or.inr rfl, fun b hb => by rcases hb with rfl | rfl <;> omega, by simp⟩, ⟨i3, fun x hx => ⟨(i4 x hx).1.mono fun b hb _ => Or.inl ⟨by omega, by omega, by omega⟩, (i4 x hx).2.mono fun b hb _ => Or.inl ⟨by omega, by omega, by omega⟩⟩⟩, fun b hb e => ?_, by omega, by omega, i7⟩, i5, i6⟩
  have := (i3.lt b e.symm).1
  rcases hb with rfl | rfl <;> omega
/-- What solving gives. -/
def SoPost (R : Int × List Bd) (w : World) (e : Ending) (w' : World) : Prop :=
  Below w.heap.size w w' ∧ ((grtB R.2 = true ∧ e = .returned (.tuple #[.slice none 0 0, .int .i64 8])) ∨ (grtB R.2 = false ∧ R.1 ≠ 0 ∧ e = .returned (.tuple #[.slice none 0 0, .int .i64 R.1])) ∨ (grtB R.2 = false ∧ R.1 = 0 ∧ ∃ v, e = .returned (.tuple #[v, .int .i64 0]) ∧ BV w' (fun b => w.heap.size ≤ b) v R.2))

theorem add_off (g n : Nat) : (⟨g, 0, none⟩ : Addr).add n = ⟨g, n, none⟩ := by
  unfold Addr.add
  simp
  intro e
  omega
theorem hB2 {w wr W : World} {v : Value} (h : Below w.heap.size w wr) (hz : (wr.setCell ⟨w.heap.size + 1, 0, none⟩ v).heap.size = wr.heap.size) (hb : Below (wr.setCell ⟨w.heap.size + 1, 0, none⟩ v).heap.size (wr.setCell ⟨w.heap.size + 1, 0, none⟩ v) W) : Below w.heap.size w W := by
  have hs := h.size
  have hs2 := hb.size
  exact ⟨hb.os.trans h.os, hb.tape.trans h.tape, hb.output.trans h.output, by omega, fun k hk => (hb.block k (by omega)).trans ((Below.heap_setCell _ _ _ _ (by simp; omega)).trans (h.block k hk))⟩
theorem so_def {w wr w5 : World} {D : Nat} (hD : w.heap.size + 3 ≤ D) (h : wr.heap[D]? = some (.deferred (some []))) (hx : ExQ (SolM (w.heap.size + 1) w.heap.size) wr w5) : w5.heap[D]? = some (.deferred (some [])) :=
  (hx.block D (Array.getElem?_eq_some_iff.1 h).1 (fun hh => by rcases hh with e | e <;> omega)).trans h
theorem so_below {w wr w5 : World} {D : Nat} (hD : w.heap.size + 3 ≤ D) (h : Below w.heap.size w wr) (hx : ExQ (SolM (w.heap.size + 1) w.heap.size) wr w5) (o : Obj) : Below w.heap.size w (w5.putObj D o) :=
  ⟨hx.os.trans h.os, hx.tape.trans h.tape, hx.output.trans h.output, by rw [World.putObj_size]; exact Nat.le_trans h.size hx.size, fun k hk => by
    rw [World.putObj_heap_other (by omega), hx.block k (Nat.lt_of_lt_of_le hk h.size) (fun hh => by rcases hh with e | e <;> omega), h.block k hk]⟩
theorem so_great {R : Int × List Bd} {code : Int} {s : List Bd} (h : R = (code, s) ∨ (grtB s = true ∧ grtB R.2 = true)) (hg : grtB s = true) : grtB R.2 = true := by
  rcases h with rfl | h
  · exact hg
  · exact h.2
theorem so_same {R : Int × List Bd} {code : Int} {s : List Bd} (h : R = (code, s) ∨ (grtB s = true ∧ grtB R.2 = true)) (hg : grtB s = false) : R = (code, s) ∧ grtB s = false := by
  rcases h with rfl | h
  · exact ⟨rfl, hg⟩
  · rw [hg] at h; cases h.1
theorem iu_shape {h : List (ByteArray × Tm)} {w : World} {e : Ending} {w' : World} (hc : (grtB (sAt h) = true ∧ e = .returned (.tuple #[.slice none 0 0, .bool false])) ∨ (grtB (sAt h) = false ∧ ∃ v, e = .returned (.tuple #[v, .bool true]) ∧ BV w' (fun b => w.heap.size ≤ b) v (sAt h))) :
    ∃ v ok, e = .returned (.tuple #[v, .bool ok]) ∧ ((grtB (sAt h) = true ∧ ok = false) ∨ (grtB (sAt h) = false ∧ ok = true ∧ BV w' (fun b => w.heap.size ≤ b) v (sAt h))) := by
  rcases hc with ⟨h1, rfl⟩ | ⟨h1, v, rfl, h2⟩
  · exact ⟨_, _, rfl, Or.inl ⟨h1, rfl⟩⟩
  · exact ⟨_, _, rfl, Or.inr ⟨h1, rfl, h2⟩⟩
set_option maxHeartbeats 1000000 in
theorem solve_in (HSK : Hid SortedKeys) (n : Nat) (hn : 6 ≤ n) (b o : Nat) (a : Option Addr) (xs : List Pc) (c : Nat) (ha : xs = [] ∨ a = some ⟨b, o, none⟩) (hxl : xs.length ≤ 40) (V : List ByteArray) (hV : V.length ≤ 400000) (hU : UI V [] (xs.map (·.1))) (R : Int × List Bd) (g0 : Nat) (hrun : uRun false g0 [] (xs.map (·.1)) = some R) (w : World) (hbw : b ≤ w.heap.size) (hbx : xs = [] ∨ b < w.heap.size) (hL : PcAt w b o xs) (hS : ∀ x ∈ xs, Sl w (fun b => b < w.heap.size) x.2.1.1 x.1.l.args ∧ Sl w (fun b => b < w.heap.size) x.2.2.1 x.1.r.args) :
    CallsIn Fence.wide n Try.prog 45 #[.slice a xs.length c] w fun e w' => SoPost R w e w' := by
  have h1 : 1 ≤ n := by omega
  have hmm := @run_makeMap Try.prog
  refine callsIn_of_wp_marks Try.func45 rfl trivial ?_ rfl
  simp only [Try.ntmps45, List.size_toArray, List.length_cons, List.length_nil, Nat.reduceAdd, Nat.reduceSub, Array.replicate_succ, Array.replicate_zero, List.push_toArray, List.append_toArray, List.nil_append, List.cons_append]
  have hfK : Fence.wide.fn 71 := trivial
  have hfI : Fence.wide.fn 73 := trivial
  have hfW : Fence.wide.fn 72 := trivial
  gi_wp2_with (gi_at_call 71; refine (backward_in Fence.wide (n - 1) trivial rfl _ _ ⟨_, _, _, rfl⟩).mono ?_; rintro e w' ⟨rfl, rfl⟩)
  have hP : ∀ k (h : k < xs.length), OldY w ((k : Int), xs[k]) := fun k h => hS _ (List.getElem_mem h)
  have hW0 : (((w.alloc (.map #[] 0)).alloc (.cells #[.slice none 0 0, .map (some w.heap.size), .bool false] 104)).alloc (.cells #[.slice a xs.length c] 47)).heap.size = w.heap.size + 3 := by simp
  have hB0 : Below w.heap.size w (((w.alloc (.map #[] 0)).alloc (.cells #[.slice none 0 0, .map (some w.heap.size), .bool false] 104)).alloc (.cells #[.slice a xs.length c] 47)) := ((((Below.refl _ w).alloc (Nat.le_refl _) _).alloc (by simp) _).alloc (by simp; omega) _)
  have hSB : Blk (((w.alloc (.map #[] 0)).alloc (.cells #[.slice none 0 0, .map (some w.heap.size), .bool false] 104)).alloc (.cells #[.slice a xs.length c] 47)) (w.heap.size + 1) #[.slice none 0 0, .map (some w.heap.size), .bool false] 104 := by
    have h1 := (Blk.new (w.alloc (.map #[] 0)) #[.slice none 0 0, .map (some w.heap.size), .bool false] 104).alloc (.cells #[.slice a xs.length c] 47)
    rw [World.size_alloc] at h1
    exact h1
  have hMA : MapAt (((w.alloc (.map #[] 0)).alloc (.cells #[.slice none 0 0, .map (some w.heap.size), .bool false] 104)).alloc (.cells #[.slice a xs.length c] 47)) w.heap.size [] := (MapAt.new w).kept (by rw [Below.heap_alloc _ _ _ (by simp; omega), Below.heap_alloc _ _ _ (by simp)])
  have hBox : (((w.alloc (.map #[] 0)).alloc (.cells #[.slice none 0 0, .map (some w.heap.size), .bool false] 104)).alloc (.cells #[.slice a xs.length c] 47)).cell? ⟨w.heap.size + 1 + 1, 0, none⟩ = some (.slice a xs.length c) := by
    have h1 := (Blk.new ((w.alloc (.map #[] 0)).alloc (.cells #[.slice none 0 0, .map (some w.heap.size), .bool false] 104)) #[.slice a xs.length c] 47).cell 0
    rw [World.size_alloc, World.size_alloc] at h1
    exact h1
  generalize (((w.alloc (.map #[] 0)).alloc (.cells #[.slice none 0 0, .map (some w.heap.size), .bool false] 104)).alloc (.cells #[.slice a xs.length c] 47)) = W0 at *
  refine wpIn_rangeFunc_ownH rfl h1 (gf := 95) (lb := #[.pointer (some ⟨w.heap.size + 1 + 1, 0, none⟩)]) rfl trivial (enters_of Try.func95 (by kernel_rfl) rfl)
    (back_stops Fence.wide (n - 1) trivial rfl (by omega) (P := OldY w) (Kp := LyK w) (fun A => LyK.refl _ _) (fun h k => LyK.trans h k) (w.heap.size + 1 + 1) b o c (fun {A B} h => lyK_c hbw h) a xs hP ha (by omega) W0 (by omega) (by omega) hBox (fun j u hj => by (rcases hbx with rfl | hbx); (simp [flat4] at hj); rw [hB0.cell (p := ⟨_, _, none⟩) (by simpa using hbx)]; exact hL j u hj))
    (fun h k => LyK.trans h k) (fun W l o o' hl ho _ _ => lyK_b (by omega)) (Below.refl _ _) (fun _ => rfl)
    (LyI w) (fun _ _ _ => False) (by rw [hW0]; exact lyI_own w) (fun _ _ _ _ _ hs _ _ => hs) ⟨.slice none 0 0, [], hSB, hMA, World.ownsRow_nil _ _ _ _, by simp, by simp, hB0, by omega⟩
    (fun x a' W => ∃ Bx, w.heap.size + 3 ≤ Bx ∧ Blk W Bx #[.string x.1.2.1.l.name, .slice x.1.2.2.1.1 x.1.2.1.l.args.length x.1.2.2.1.2, .string x.1.2.1.r.name, .slice x.1.2.2.2.1 x.1.2.1.r.args.length x.1.2.2.2.2] 49 ∧ a' = { tmps := #[.slice a xs.length c, undef, .slice none 0 0, .int .i64 0, .pointer (some ⟨w.heap.size + 1, 0, none⟩), undef, .pointer (some ⟨Bx, 0, none⟩), undef, undef, undef, undef, undef, .map (some w.heap.size), .agg #[.slice none 0 0, .map (some w.heap.size), .bool false], .slice a xs.length c, .func (.func 95) #[] #[.pointer (some ⟨w.heap.size + 1 + 1, 0, none⟩)], .int .i64 x.1.1, .agg #[.string x.1.2.1.l.name, .slice x.1.2.2.1.1 x.1.2.1.l.args.length x.1.2.2.1.2, .string x.1.2.1.r.name, .slice x.1.2.2.2.1 x.1.2.1.r.args.length x.1.2.2.2.2], undef, undef, undef, undef, undef, undef, undef, undef, undef, undef, undef, undef, undef, undef, undef, undef, undef, undef, undef, undef, undef, undef, undef, undef, undef, undef, undef, undef, undef, undef, undef, undef, undef, undef, undef, undef, undef, undef, undef, undef, undef, undef, undef, undef], defers := [] })
    (fun x a' _ X Y row hs hg hr => by
      obtain ⟨Bx, h1, h2, h3⟩ := hs
      refine ⟨Bx, h1, h2.grown hg (fun e => ?_), h3⟩
      obtain ⟨_, o, ho, hc⟩ := hr Bx e.symm
      unfold Blk at h2
      rw [ho] at h2
      cases h2
      simp [Obj.isCells] at hc) ?assign ?body ?done ?stop
  case assign =>
    rintro l pre x W K hI hK
    dsimp only [encY]
    gi_wp2
    obtain ⟨td, cs, i1, i2, i3, i4, i5, i6, i7⟩ := hI
    refine hK _ _ ((KeepsOthers.alloc _ _).from _) ⟨(ExQ.refl _ _).alloc _, fun k h1 h2 => Below.heap_alloc _ _ _ (by omega)⟩ ⟨td, cs, i1.alloc _, i2.kept (Below.heap_alloc _ _ _ (by omega)), i3.alloc _, fun y hy => ⟨(i4 y hy).1.later ((Below.refl _ _).alloc (Nat.le_refl _) _), (i4 y hy).2.later ((Below.refl _ _).alloc (Nat.le_refl _) _)⟩, i5, i6.alloc (by omega) _, by simp; omega⟩ ⟨W.heap.size, i7, Blk.new W _ _, rfl⟩
  case body =>
    rintro l pre x a' W hl hr hI ⟨Bx, hBx, bX, rfl⟩ hlt
    obtain ⟨td, cs, i1, i2, i3, i4, i5, i6, i7⟩ := hI
    obtain ⟨⟨xi, ⟨xp, ⟨xa, xc⟩, ⟨ya, yc⟩⟩⟩, hx1, hx2⟩ := x
    dsimp only at bX hx1 hx2 ⊢
    have s0 : W.cell? ⟨w.heap.size + 1, 0, none⟩ = some td := i1.cell 0
    have p0 : W.cell? ⟨Bx, 0, none⟩ = some (.string xp.l.name) := bX.cell 0
    have p1 : W.cell? ⟨Bx, 1, none⟩ = some (.slice xa xp.l.args.length xc) := bX.cell 1
    have p2 : W.cell? ⟨Bx, 2, none⟩ = some (.string xp.r.name) := bX.cell 2
    have p3 : W.cell? ⟨Bx, 3, none⟩ = some (.slice ya xp.r.args.length yc) := bX.cell 3
    obtain ⟨i0, hi0, hz0, hz1, hz2⟩ := info_parts Try.infoEq
    have hcl : cs.length ≤ 40 := by have := congrArg List.length i5; simp at this; omega
    gi_wp2_with (gi_at_builtin; go_loud (refine wpListIn_append_own_at _ rfl (.tmp 19) (.tmp 25) 102 rfl (w.heap.size + 3) 109 i0 _ 5 88 Try.underlying102 hi0 hz0 hz1 hz2 rfl (by decide) td cs.length (flat5 cs) rfl (i3.alloc _) ⟨W.heap.size, 0, none⟩ 1 1 [.string xp.l.name, .slice xa xp.l.args.length xc, .string xp.r.name, .slice ya xp.r.args.length yc, .int .i64 0] rfl rfl (cell_five_new _ _ _ _ _ _ _) (fun u hu => by simp at hu; rcases hu with rfl | rfl | rfl | rfl | rfl <;> rfl) (by unfold maxLen; omega) (by omega) (by simp; omega) ?_); intro v' w3 ho hg _ hob; obtain ⟨g', cap', rfl⟩ := owns_shape ho; have s3 : w3.cell? ⟨w.heap.size + 1, 0, none⟩ = some td := ((i1.alloc _).grown hg (fun e => by have := (i3.lt _ e.symm).1; omega)).cell 0; have f3 : w3.frozen? ⟨w.heap.size + 1, 0, none⟩ = false := ((i1.alloc _).grown hg (fun e => by have := (i3.lt _ e.symm).1; omega)).frozen 0)
    have hfin := lyI_step (x := ⟨(xi, xp, (xa, xc), ya, yc), hx1, hx2⟩) i1 i2 i3 i4 i5 i6 i7 ho hg
    rw [hW0]
    exact hfin
  case done =>
    rintro D ys W hD rfl hI hDD
    have hst : SvI w (w.heap.size + 1) w.heap.size (w.heap.size + 3) V R D g0 (.int .i64 0) W := by
      obtain ⟨cs, hT, hC, hB⟩ := lyI_solT hI
      have e1 : (cs.map ecP).reverse.map (·.1) = xs.map (·.1) := by
        have e2 := backA_map (P := OldY w) (xs := xs) (hP := hP) xs.length (Nat.le_refl _)
        rw [hC, ← List.map_reverse, List.map_map, List.map_reverse]
        have e3 : ((fun x : Pr × Nat => x.1) ∘ fun x : { x : Yx // OldY w x } => (x.1.2.1, 0)) = fun x => x.1.2.1 := rfl
        rw [e3, e2, List.take_length, List.reverse_reverse]
      refine ⟨hDD, hB, Or.inl ⟨rfl, [], cs, hT, by rw [e1]; exact hU, ?_, by rw [e1]; exact hrun⟩⟩
      rw [hC]
      intro y hy
      obtain ⟨z, _, rfl⟩ := List.mem_map.1 hy
      exact ⟨Nat.zero_le _, fun _ => ⟨onT_id (by simp [sAt]), onT_id (by simp [sAt])⟩⟩
    have HST := hide hst
    clear hst hI hDD
    gi_wp2
    gi_loopg [7] g0 (fun g ev wr => SvI w (w.heap.size + 1) w.heap.size (w.heap.size + 3) V R D g ev wr)
    case atStart => exact HST.out
    case round =>
      have hDl : w.heap.size + 3 ≤ D := by omega
      obtain ⟨hDr, hBr, hcr⟩ := hrel
      rcases sv_cases hV hcr with ⟨code, h, f, Y, td, rfl, hE, hgd, hnm, hhl, hR, hlast⟩ | ⟨rfl, h, cs, x, hT, hUx, hbx, hbc, hrx⟩
      · have HE := hide hE
        have HR := hide hR
        have HB := hide hBr
        have HD := hide hDr
        clear hcr hR hBr hDr
        obtain ⟨⟨L, hB, hM, hSt⟩, _⟩ := hE
        have s0 : wr.cell? ⟨w.heap.size + 1, 0, none⟩ = some td := hB.cell 0
        clear hB hM hSt
        rcases hlast with hne | ⟨rfl, a0, c0, rfl⟩
        · have hce : (code == 0) = false := beq_eq_false_iff_ne.2 hne
          have hcn : (code != 0) = true := by simp [bne, hce]
          gi_wp2_with (gi_at_call 73; refine (callsIn_wide.2 (inOrderU_of HSK (w.heap.size + 1) w.heap.size td h hgd hnm hhl wr Y f HE.out)).mono ?_; rintro e w5 ⟨hx5, hc5⟩; obtain ⟨v5, ok5, rfl, hd5⟩ := iu_shape hc5; clear hc5)
          · have hok : ok5 = false := by simp_all
            refine ⟨by simp, .inl ⟨_, _, rfl, run_takeDeferred (so_def hDl HD.out hx5), ?_⟩⟩
            refine ⟨.tuple #[.slice none 0 0, .int .i64 8], by simp [results, Try.results45, go_sem], so_below hDl HB.out hx5 _, Or.inl ⟨so_great HR.out (by simp_all), rfl⟩⟩
          · have hok : ok5 = true := by simp_all
            have hRR := so_same HR.out (show grtB (sAt h) = false by simp_all)
            refine ⟨by simp, .inl ⟨_, _, rfl, run_takeDeferred (so_def hDl HD.out hx5), ?_⟩⟩
            refine ⟨.tuple #[.slice none 0 0, .int .i64 code], by simp [results, Try.results45, go_sem], so_below hDl HB.out hx5 _, Or.inr (Or.inl ?_)⟩
            rw [hRR.1]
            exact ⟨hRR.2, hne, rfl⟩
        · gi_wp2_with (gi_at_call 73; refine (callsIn_wide.2 (inOrderU_of HSK (w.heap.size + 1) w.heap.size (.slice a0 0 c0) h hgd hnm hhl wr Y f HE.out)).mono ?_; rintro e w5 ⟨hx5, hc5⟩; obtain ⟨v5, ok5, rfl, hd5⟩ := iu_shape hc5; clear hc5)
          · have hok : ok5 = false := by simp_all
            refine ⟨by simp, .inl ⟨_, _, rfl, run_takeDeferred (so_def hDl HD.out hx5), ?_⟩⟩
            refine ⟨.tuple #[.slice none 0 0, .int .i64 8], by simp [results, Try.results45, go_sem], so_below hDl HB.out hx5 _, Or.inl ⟨so_great HR.out (by simp_all), rfl⟩⟩
          · have hok : ok5 = true := by simp_all
            have hRR := so_same HR.out (show grtB (sAt h) = false by simp_all)
            have hbv : BV w5 (fun b => wr.heap.size ≤ b) v5 (sAt h) := by
              rcases hd5 with h1 | h1
              · rw [hok] at h1; cases h1.2
              · exact h1.2.2
            refine ⟨by simp, .inl ⟨_, _, rfl, run_takeDeferred (so_def hDl HD.out hx5), ?_⟩⟩
            refine ⟨.tuple #[v5, .int .i64 0], by simp [results, Try.results45, go_sem], so_below hDl HB.out hx5 _, Or.inr (Or.inr ?_)⟩
            rw [hRR.1]
            exact ⟨hRR.2, rfl, v5, rfl, (hbv.kept fun b hb => World.putObj_heap_other (by have := (Array.getElem?_eq_some_iff.1 HD.out).1; omega)).mono fun b hb _ => Nat.le_trans HB.out.size hb⟩
      · obtain ⟨td, Y, hE, hRw, hY, _, _, hNr⟩ := hT
        have hlen : cs.length ≤ 900000000 := by
          have h1 := hUx.llen
          simp at h1
          omega
        have hown := hRw.own
        rw [List.length_append] at hown
        obtain ⟨g, cap, rfl⟩ := owns_shape hown
        have hpop := row_pop rfl hown
        have hcap : cs.length + 1 ≤ cap := by
          rcases hown.2 with ⟨h1, _⟩ | ⟨g', cap', cur, h1, h2, h3, h4, _⟩
          · cases h1
          · simp at h1
            obtain ⟨_, rfl⟩ := h1
            simpa using h4
        obtain ⟨⟨p, ⟨a1, c1⟩, ⟨a2, c2⟩⟩, j⟩ := x
        have cc : ∀ i u, (enc5 ((p, (a1, c1), (a2, c2)), j))[i]? = some u → i < 5 → wr.cell? ⟨g, cs.length * 5 + i, none⟩ = some u := fun i u hu hi => by
          have h1 := hown.cells (g := g) rfl (cs.length * 5 + i) u (by rw [flat5_get (cs ++ [_]) cs.length (by simp) i hi]; simpa using hu)
          rw [add_off] at h1
          exact h1
        have k0 := cc 0 _ rfl (by decide)
        have k1 := cc 1 _ rfl (by decide)
        have k2 := cc 2 _ rfl (by decide)
        have k3 := cc 3 _ rfl (by decide)
        have k4 := cc 4 _ rfl (by decide)
        simp only [Nat.add_zero] at k0
        obtain ⟨⟨L, hB, hM, hSt⟩, _⟩ := id hE
        have s0 : wr.cell? ⟨w.heap.size + 1, 0, none⟩ = some (.slice (some ⟨g, 0, none⟩) (cs.length + 1) cap) := hB.cell 0
        have s0' : ∀ o, (wr.alloc o).cell? ⟨w.heap.size + 1, 0, none⟩ = some (.slice (some ⟨g, 0, none⟩) (cs.length + 1) cap) := fun o => (hB.alloc o).cell 0
        have f0' : ∀ o, (wr.alloc o).frozen? ⟨w.heap.size + 1, 0, none⟩ = false := fun o => (hB.alloc o).frozen 0
        have HE := hide hE
        have HRW := hide hRw
        have HY := hide hY
        have HPOP := hide hpop
        have HU := hide hUx
        have HBX := hide hbx
        have HBC := hide hbc
        have HRX := hide hrx
        have HB := hide hBr
        have HD := hide hDr
        clear hE hRw hY hpop hUx hbx hbc hrx hBr hDr hB hM hSt hown cc hcr
        gi_wp2_with fail
        have hSN : w.heap.size + 1 < w.heap.size + 3 := by omega
        have hqN : w.heap.size < w.heap.size + 3 := by omega
        have hB1 : Below (wr.setCell ⟨w.heap.size + 1, 0, none⟩ (.slice (some ⟨g, 0, none⟩) cs.length cap)).heap.size (wr.setCell ⟨w.heap.size + 1, 0, none⟩ (.slice (some ⟨g, 0, none⟩) cs.length cap)) ((wr.setCell ⟨w.heap.size + 1, 0, none⟩ (.slice (some ⟨g, 0, none⟩) cs.length cap)).alloc (.cells #[.string p.l.name, .slice a1 p.l.args.length c1, .string p.r.name, .slice a2 p.r.args.length c2, .int .i64 (j : Int)] 109)) := (Below.refl _ _).alloc (Nat.le_refl _) _
        have hz1 : (wr.setCell ⟨w.heap.size + 1, 0, none⟩ (.slice (some ⟨g, 0, none⟩) cs.length cap)).heap.size = wr.heap.size := by simp [World.setCell]
        have hr1 : ERow wr (w.heap.size + 3) (fun b => b < w.heap.size + 3 ∧ b ≠ w.heap.size + 1 ∧ b ≠ w.heap.size) (.slice (some ⟨g, 0, none⟩) cs.length cap) cs := ⟨HPOP.out, fun y hy => HRW.out.row y (by simp [hy])⟩
        have hx1 := HRW.out.row ((p, (a1, c1), (a2, c2)), j) (by simp)
        have hSl : ∀ (aa : Option Addr) (l : List Tm), Sl wr (fun b => (b < w.heap.size + 3 ∧ b ≠ w.heap.size + 1 ∧ b ≠ w.heap.size) ∨ (w.heap.size + 3 ≤ b ∧ some b ≠ some g)) aa l → Sl ((wr.setCell ⟨w.heap.size + 1, 0, none⟩ (.slice (some ⟨g, 0, none⟩) cs.length cap)).alloc (.cells #[.string p.l.name, .slice a1 p.l.args.length c1, .string p.r.name, .slice a2 p.r.args.length c2, .int .i64 (j : Int)] 109)) (fun b => (b < w.heap.size + 3 ∧ b ≠ w.heap.size + 1 ∧ b ≠ w.heap.size) ∨ (w.heap.size + 3 ≤ b ∧ some b ≠ some g)) aa l := fun aa l hsl => (hsl.kept fun b hb => Below.heap_setCell _ _ _ _ (by
          simp
          rcases hb with hb | hb
          · exact hb.2.1
          · omega)).later hB1
        have hgN : w.heap.size + 3 ≤ g ∧ g < wr.heap.size := HPOP.out.lt g rfl
        have hDg : D ≠ g := fun e => by
          subst e
          rcases HPOP.out.2 with ⟨h1, _⟩ | ⟨g', cap', cur, h1, h2, h3, _⟩
          · cases h1
          · simp at h1
            obtain ⟨rfl, rfl⟩ := h1
            rw [HD.out] at h3
            cases h3
        have hDr : D < wr.heap.size := (Array.getElem?_eq_some_iff.1 HD.out).1
        have WO := workOff_any (w.heap.size + 1) w.heap.size (w.heap.size + 3) V h cs p ((cs.map ecP).reverse.map (·.1)) HU.out j HBX.out.1 HBX.out.2 hlen hV a1 c1 a2 c2 _ (.slice (some ⟨g, 0, none⟩) cs.length cap) Y ((solE_ok _ _ _ h).below (sole_todo HE.out (fun _ _ => rfl)) hB1) ((hr1.setCell hSN (fun hb => hb.2.1 rfl) _).below hB1) HY.out hSN hqN (by simp [World.setCell]; omega) (hSl _ _ hx1.1) (hSl _ _ hx1.2)
        refine (callsIn_wide.2 WO).mono ?_
        clear WO
        rintro e w4 hwo
        obtain ⟨code, g1, rfl, hlt1, hI1⟩ := sv_step (x := ((p, (a1, c1), (a2, c2)), j)) (w := w) (wr := wr) (D := D) (R := R) hV HU.out HBC.out HRX.out (by rw [Below.heap_alloc _ _ _ (by rw [hz1]; exact hDr), Below.heap_setCell _ _ _ _ (by simp; omega)]; exact HD.out) (by omega) (by omega) (fun e => hDg (by simpa [Value.ownBlock] using e)) (hB2 HB.out hz1 hB1) (by omega) (Nat.le_refl _) (fun b hb => by (have e : b = g := Option.some.inj hb); rw [e]; omega) hwo
        have HI1 := hide hI1
        clear hI1 hwo
        gi_wp2
        gi_roundg g1
        case rel => exact HI1.out
        case measure => exact hlt1
  case stop =>
    rintro D c pre W _ _ h _
    exact h.elim
#print axioms solve_in
end Go.Proofs.Ytpjdkdebjkpmmaj

/- Walks: two terms that are the same. -/
namespace Go.Proofs.Ytpjdkdebjkpmmaj
open Go.RowKit
set_option linter.unusedSimpArgs false
set_option linter.unusedVariables false

theorem same_cells {w w1 : World} {n : Nat} {p1 p2 p3 p4 p5 p6 : Addr} {v1 v2 v3 v4 v5 v6 : Value} (hb : Below (w.drewN n).heap.size (w.drewN n) w1)
    (h : w.cell? p1 = some v1 ∧ w.cell? p2 = some v2 ∧ w.cell? p3 = some v3 ∧ w.cell? p4 = some v4 ∧ w.cell? p5 = some v5 ∧ w.cell? p6 = some v6) :
    w1.cell? p1 = some v1 ∧ w1.cell? p2 = some v2 ∧ w1.cell? p3 = some v3 ∧ w1.cell? p4 = some v4 ∧ w1.cell? p5 = some v5 ∧ w1.cell? p6 = some v6 := by
  have hb' : Below w.heap.size w w1 := (below_drewN (Below.refl _ _) n).trans (hb.mono (by simp))
  exact ⟨cell_later hb' h.1, cell_later hb' h.2.1, cell_later hb' h.2.2.1, cell_later hb' h.2.2.2.1, cell_later hb' h.2.2.2.2.1, cell_later hb' h.2.2.2.2.2⟩

set_option maxHeartbeats 1000000 in
theorem same_any (t : Tm) : ∀ (v u : Value) (w : World) (X Y : Nat → Prop), TV w X v t → TV w Y u t →
    Calls Try.prog 17 #[v, u] w fun e w' => e = .returned (.bool true) ∧ Below w.heap.size w w' := by
  induction t using Tm.ind with
  | h s l ih =>
    intro v u w X Y hv hu
    have IH := hide ih
    clear ih
    obtain ⟨a, c, rfl, hs⟩ := hv
    obtain ⟨a2, c2, rfl, hs2⟩ := hu
    have hl := hs.1
    go_enter Try.func17, Try.ntmps17
    go_wp2_with fail
    go_loopw [5] (fun i wr => ∃ (k : Nat), k ≤ l.length ∧ i = .int .i64 k ∧ Below w.heap.size w wr ∧ wr.cell? ⟨w.heap.size, 1, none⟩ = some (.slice a l.length c) ∧ wr.cell? ⟨w.heap.size + 1, 1, none⟩ = some (.slice a2 l.length c2) ∧ w.heap.size + 2 ≤ wr.heap.size) (fun i wr => l.length - (intOf i).toNat)
    case atStart => exact ⟨0, Nat.zero_le _, rfl, below2 _ _, by simp, by simp, by simp⟩
    case round =>
      obtain ⟨k, hk, rfl, hb, hc1, hc2, hsz⟩ := hrel
      by_cases hlt : k < l.length
      · obtain ⟨b, o, a', c', rfl, d0, d1, hx⟩ := hs.get hb (fun _ _ h => h) k hlt
        obtain ⟨b2, o2, a2', c2', rfl, e0, e1, hx2⟩ := hs2.get hb (fun _ _ h => h) k hlt
        have HX := hide hx
        have HX2 := hide hx2
        have HB := hide hb
        have HS0 := hide (And.intro hc1 (And.intro hc2 (And.intro d0 (And.intro d1 (And.intro e0 e1)))))
        clear hx hx2 hb
        go_wp2_with fail
        go_region_held3 (fun w' => w'.cell? ⟨w.heap.size, 1, none⟩ = some (.slice (some ⟨b, o, none⟩) l.length c) ∧ w'.cell? ⟨w.heap.size + 1, 1, none⟩ = some (.slice (some ⟨b2, o2, none⟩) l.length c2) ∧ w'.cell? ⟨b, o + k * 2, none⟩ = some (.string l[k].name) ∧ w'.cell? ⟨b, o + k * 2 + 1, none⟩ = some (.slice a' l[k].args.length c') ∧ w'.cell? ⟨b2, o2 + k * 2, none⟩ = some (.string l[k].name) ∧ w'.cell? ⟨b2, o2 + k * 2 + 1, none⟩ = some (.slice a2' l[k].args.length c2')) (first | exact HS0.out | exact hS1)
          ((go_at_call 17; refine (IH.out _ (List.getElem_mem hlt) _ _ _ X Y (by exact HX.out.later (below_drewN (Below.refl _ _) 1)) (by exact HX2.out.later (below_drewN (Below.refl _ _) 1))).mono ?_; rintro e w1 ⟨rfl, hb1⟩; have hS1 := same_cells (n := 1) hb1 HS0.out))
        go_wp2_with fail
        go_roundw
        case rel => exact ⟨k + 1, by omega, by go_num, (HB.out.trans (below_drewN (Below.refl _ _) 1)).trans (hb1.mono (by simp; omega)), hS1.1, hS1.2.1, by have := hb1.size; simp at this; omega⟩
        case measure => simp [intOf]; omega
      · go_wp2_with fail
        go_ret
        exact ⟨rfl, hb⟩
#print axioms same_any
end Go.Proofs.Ytpjdkdebjkpmmaj

/- Walks: whether two terms are the same. -/
namespace Go.Proofs.Ytpjdkdebjkpmmaj
open Go.RowKit
set_option linter.unusedSimpArgs false
set_option linter.unusedVariables false
set_option maxRecDepth 8000

def eqL : List Tm → List Tm → Bool
  | [], [] => true
  | ⟨s, a⟩ :: r, t :: ts => ((s.toList == t.name.toList) && ((a.length == t.args.length) && eqL a t.args)) && eqL r ts
  | _, _ => false
/-- Two terms are the same. -/
def sameB (a b : Tm) : Bool := (a.name.toList == b.name.toList) && ((a.args.length == b.args.length) && eqL a.args b.args)
theorem eqL_cons (x t : Tm) (r ts : List Tm) : eqL (x :: r) (t :: ts) = (sameB x t && eqL r ts) := by obtain ⟨s, a⟩ := x; simp only [eqL, sameB]
theorem eqL_append : ∀ (a b c d : List Tm), a.length = b.length → eqL (a ++ c) (b ++ d) = (eqL a b && eqL c d)
  | [], [], c, d, _ => by simp [eqL]
  | [], _ :: _, _, _, h => by simp at h
  | _ :: _, [], _, _, h => by simp at h
  | x :: r, t :: ts, c, d, h => by rw [List.cons_append, List.cons_append, eqL_cons, eqL_cons, eqL_append r ts c d (by simpa using h), Bool.and_assoc]
theorem eqL_take {l m : List Tm} {k : Nat} (h : k < l.length) (h2 : k < m.length) : eqL (l.take (k + 1)) (m.take (k + 1)) = (eqL (l.take k) (m.take k) && sameB l[k] m[k]) := by
  rw [List.take_succ_eq_append_getElem h, List.take_succ_eq_append_getElem h2, eqL_append _ _ _ _ (by simp; omega), eqL_cons]
  simp [eqL]
theorem eqL_no {l m : List Tm} {k : Nat} (h : k < l.length) (hlm : l.length = m.length) (h0 : sameB l[k] (m[k]'(by omega)) = false) : eqL l m = false := by
  have e1 : l = l.take (k + 1) ++ l.drop (k + 1) := (List.take_append_drop _ _).symm
  have e2 : m = m.take (k + 1) ++ m.drop (k + 1) := (List.take_append_drop _ _).symm
  rw [e1, e2, eqL_append _ _ _ _ (by simp; omega), eqL_take h (by omega), h0]
  simp

def SaInv (w : World) (l m : List Tm) (a a2 : Option Addr) (c c2 : Nat) (i : Value) (wr : World) : Prop :=
  ∃ (k : Nat), k ≤ l.length ∧ i = .int .i64 k ∧ eqL (l.take k) (m.take k) = true ∧ Below w.heap.size w wr ∧ wr.cell? ⟨w.heap.size, 1, none⟩ = some (.slice a l.length c) ∧ wr.cell? ⟨w.heap.size + 1, 1, none⟩ = some (.slice a2 l.length c2) ∧ w.heap.size + 2 ≤ wr.heap.size

set_option maxHeartbeats 2000000 in
theorem sameR_all (t : Tm) : ∀ (x : Tm) (v u : Value) (w : World) (X Y : Nat → Prop), TV w X v t → TV w Y u x →
    Calls Try.prog 17 #[v, u] w fun e w' => e = .returned (.bool (sameB t x)) ∧ Below w.heap.size w w' := by
  induction t using Tm.ind with
  | h s l ih =>
    intro x v u w X Y hv hu
    obtain ⟨s2, m⟩ := x
    have IH := hide ih
    clear ih
    obtain ⟨a, c, rfl, hs⟩ := hv
    obtain ⟨a2, c2, rfl, hs2⟩ := hu
    have hl := hs.1
    have hl2 := hs2.1
    dsimp only
    cases hn : (s.toList == s2.toList) with
    | false =>
      have HR : Hid (false = sameB ⟨s, l⟩ ⟨s2, m⟩) := by unfold Hid sameB; rw [hn]; rfl
      go_enter Try.func17, Try.ntmps17
      go_wp2_with fail
      go_ret
      exact ⟨ret_bool HR.out, below2 _ _⟩
    | true =>
      by_cases hm : l.length = m.length
      · have HR : Hid (eqL l m = sameB ⟨s, l⟩ ⟨s2, m⟩) := by unfold Hid sameB; simp [hn, hm]
        have HM := hide hm
        rw [← hm]
        clear hm
        go_enter Try.func17, Try.ntmps17
        go_wp2_with fail
        go_loopw [5] (fun i wr => SaInv w l m a a2 c c2 i wr) (fun i wr => l.length - (intOf i).toNat)
        case atStart => exact ⟨0, Nat.zero_le _, rfl, by simp [eqL], below2 _ _, by simp, by simp, by simp⟩
        case round =>
          obtain ⟨k, hk, rfl, hq, hb, hc1, hc2, hsz⟩ := hrel
          have HQ := hide hq
          clear hq
          by_cases hlt : k < l.length
          · obtain ⟨b, o, a', c', rfl, d0, d1, hx⟩ := hs.get hb (fun _ _ h => h) k hlt
            obtain ⟨b2, o2, a2', c2', rfl, e0, e1, hx2⟩ := hs2.get hb (fun _ _ h => h) k (by have := HM.out; omega)
            have hltm : k < m.length := by have := HM.out; omega
            have HX := hide hx
            have HX2 := hide hx2
            have HB := hide hb
            have HS0 := hide (And.intro hc1 (And.intro hc2 (And.intro d0 (And.intro d1 (And.intro e0 e1)))))
            have IHK := hide (fun (w' : World) => IH.out l[k] (List.getElem_mem hlt) m[k] (.agg #[.string l[k].name, .slice a' l[k].args.length c']) (.agg #[.string m[k].name, .slice a2' m[k].args.length c2']) w' X Y)
            have HT := hide (eqL_take hlt hltm)
            have HNO := hide (eqL_no hlt HM.out)
            clear hx hx2 hb
            generalize l[k] = y at *
            generalize m[k] = z at *
            go_wp2_with fail
            cases hsm : sameB y z with
            | true =>
              rw [hsm] at IHK HT
              go_region_held3 (fun w' => w'.cell? ⟨w.heap.size, 1, none⟩ = some (.slice (some ⟨b, o, none⟩) l.length c) ∧ w'.cell? ⟨w.heap.size + 1, 1, none⟩ = some (.slice (some ⟨b2, o2, none⟩) l.length c2) ∧ w'.cell? ⟨b, o + k * 2, none⟩ = some (.string y.name) ∧ w'.cell? ⟨b, o + k * 2 + 1, none⟩ = some (.slice a' y.args.length c') ∧ w'.cell? ⟨b2, o2 + k * 2, none⟩ = some (.string z.name) ∧ w'.cell? ⟨b2, o2 + k * 2 + 1, none⟩ = some (.slice a2' z.args.length c2')) (first | exact HS0.out | exact hS1 | go_keep)
                ((go_at_call 17; refine (IHK.out _ (by exact HX.out.later (below_drewN (Below.refl _ _) 1)) (by exact HX2.out.later (below_drewN (Below.refl _ _) 1))).mono ?_; rintro e w1 ⟨rfl, hb1⟩; have hS1 := same_cells (n := 1) hb1 HS0.out))
              go_wp2_with fail
              go_roundw
              case rel => exact ⟨k + 1, by omega, by go_num, by rw [HT.out, HQ.out]; rfl, (HB.out.trans (below_drewN (Below.refl _ _) 1)).trans (hb1.mono (by simp; omega)), hS1.1, hS1.2.1, by have := hb1.size; simp at this; omega⟩
              case measure => simp [intOf]; omega
            | false =>
              have HF : Hid (false = sameB ⟨s, l⟩ ⟨s2, m⟩) := by unfold Hid; rw [← HR.out, HNO.out hsm]
              rw [hsm] at IHK
              go_region_held3 (fun w' => w'.cell? ⟨w.heap.size, 1, none⟩ = some (.slice (some ⟨b, o, none⟩) l.length c) ∧ w'.cell? ⟨w.heap.size + 1, 1, none⟩ = some (.slice (some ⟨b2, o2, none⟩) l.length c2) ∧ w'.cell? ⟨b, o + k * 2, none⟩ = some (.string y.name) ∧ w'.cell? ⟨b, o + k * 2 + 1, none⟩ = some (.slice a' y.args.length c') ∧ w'.cell? ⟨b2, o2 + k * 2, none⟩ = some (.string z.name) ∧ w'.cell? ⟨b2, o2 + k * 2 + 1, none⟩ = some (.slice a2' z.args.length c2')) (first | exact HS0.out | exact hS1 | go_keep)
                ((go_at_call 17; refine (IHK.out _ (by exact HX.out.later (below_drewN (Below.refl _ _) 1)) (by exact HX2.out.later (below_drewN (Below.refl _ _) 1))).mono ?_; rintro e w1 ⟨rfl, hb1⟩; have hS1 := same_cells (n := 1) hb1 HS0.out))
              go_wp2_with fail
              go_ret
              exact ⟨ret_bool HF.out, (HB.out.trans (below_drewN (Below.refl _ _) 1)).trans (hb1.mono (by simp; omega))⟩
          · have HF : Hid (true = sameB ⟨s, l⟩ ⟨s2, m⟩) := by
              unfold Hid
              rw [← HR.out, ← HQ.out, List.take_of_length_le (by omega), List.take_of_length_le (by have := HM.out; omega)]
            go_wp2_with fail
            go_ret
            exact ⟨ret_bool HF.out, hb⟩
      · have HR : Hid (false = sameB ⟨s, l⟩ ⟨s2, m⟩) := by unfold Hid sameB; simp [hn, hm]
        have hm2 : ((l.length : Int) == (m.length : Int)) = false := beq_eq_false_iff_ne.2 (by omega)
        clear hm
        go_enter Try.func17, Try.ntmps17
        go_wp2_with fail
        go_ret
        exact ⟨ret_bool HR.out, below2 _ _⟩
#print axioms sameR_all
end Go.Proofs.Ytpjdkdebjkpmmaj

/- One term as a case of another one: plain. -/
namespace Go.Proofs.Ytpjdkdebjkpmmaj
open Go.RowKit
set_option linter.unusedSimpArgs false
set_option linter.unusedVariables false

/-- What stands for a pattern's variables, found knot by knot. -/
def mtL : List Tm → List Tm → List Bd → Option (List Bd)
  | [], _, h => some h
  | ⟨s, a⟩ :: r, ts, h => match ts with
    | [] => none
    | t :: ts' =>
      match (if varB s = true then (match forT h s with
          | some x => if sameB x t = true then some h else none
          | none => some (h ++ [⟨s, t⟩]))
        else if ((s.toList == t.name.toList) && (a.length == t.args.length)) = true then mtL a t.args h else none) with
      | some h' => mtL r ts' h'
      | none => none
def mtT (p t : Tm) (h : List Bd) : Option (List Bd) :=
  if varB p.name = true then (match forT h p.name with
      | some x => if sameB x t = true then some h else none
      | none => some (h ++ [⟨p.name, t⟩]))
    else if ((p.name.toList == t.name.toList) && (p.args.length == t.args.length)) = true then mtL p.args t.args h else none
theorem mtL_cons (p t : Tm) (r ts : List Tm) (h : List Bd) : mtL (p :: r) (t :: ts) h = (match mtT p t h with
      | some h' => mtL r ts h'
      | none => none) := by obtain ⟨s, a⟩ := p; simp only [mtL, mtT]
theorem mtL_append : ∀ (a b c d : List Tm) (h : List Bd), a.length = b.length → mtL (a ++ c) (b ++ d) h = (match mtL a b h with
      | some h' => mtL c d h'
      | none => none)
  | [], [], c, d, h, _ => by simp [mtL]
  | [], _ :: _, _, _, _, e => by simp at e
  | _ :: _, [], _, _, _, e => by simp at e
  | x :: r, t :: ts, c, d, h, e => by
    rw [List.cons_append, List.cons_append, mtL_cons, mtL_cons]
    cases mtT x t h with
    | none => rfl
    | some h' => exact mtL_append r ts c d h' (by simpa using e)
theorem mtL_take {l m : List Tm} {k : Nat} (h : k < l.length) (h2 : k < m.length) (hv : List Bd) : mtL (l.take (k + 1)) (m.take (k + 1)) hv = (match mtL (l.take k) (m.take k) hv with
      | some h' => mtT l[k] m[k] h'
      | none => none) := by
  rw [List.take_succ_eq_append_getElem h, List.take_succ_eq_append_getElem h2, mtL_append _ _ _ _ _ (by simp; omega)]
  cases mtL (l.take k) (m.take k) hv with
  | none => rfl
  | some h' =>
    show mtL [l[k]] [m[k]] h' = mtT l[k] m[k] h'
    rw [mtL_cons]
    cases mtT l[k] m[k] h' with
    | none => rfl
    | some h'' => simp [mtL]
theorem mtL_no {l m : List Tm} {k : Nat} {hv h' : List Bd} (h : k < l.length) (hlm : l.length = m.length) (h1 : mtL (l.take k) (m.take k) hv = some h') (h0 : mtT l[k] (m[k]'(by omega)) h' = none) : mtL l m hv = none := by
  have e1 : l = l.take (k + 1) ++ l.drop (k + 1) := (List.take_append_drop _ _).symm
  have e2 : m = m.take (k + 1) ++ m.drop (k + 1) := (List.take_append_drop _ _).symm
  rw [e1, e2, mtL_append _ _ _ _ _ (by simp; omega), mtL_take h (by omega), h1]
  simp only [h0]
theorem mtL_next {l m : List Tm} {k : Nat} {hv h' h'' : List Bd} (h : k < l.length) (h2 : k < m.length) (h1 : mtL (l.take k) (m.take k) hv = some h') (h0 : mtT l[k] m[k] h' = some h'') : mtL (l.take (k + 1)) (m.take (k + 1)) hv = some h'' := by
  rw [mtL_take h h2, h1]
  exact h0
theorem mtT_deep {s s2 : ByteArray} {l m : List Tm} {h : List Bd} (hv : varB s = false) (hn : (s.toList == s2.toList) = true) (hl : l.length = m.length) : mtT ⟨s, l⟩ ⟨s2, m⟩ h = mtL l m h := by
  simp [mtT, hv, hn, hl]
theorem mtT_off {s s2 : ByteArray} {l m : List Tm} {h : List Bd} (hv : varB s = false) (hn : ((s.toList == s2.toList) && (l.length == m.length)) = false) : mtT ⟨s, l⟩ ⟨s2, m⟩ h = none := by
  unfold mtT
  rw [if_neg (by rw [hv]; simp), if_neg (by simp only [hn]; simp)]
theorem mtT_new {s : ByteArray} {l : List Tm} {t : Tm} {h : List Bd} (hv : varB s = true) (hf : forT h s = none) : mtT ⟨s, l⟩ t h = some (h ++ [⟨s, t⟩]) := by simp [mtT, hv, hf]
theorem mtT_old {s : ByteArray} {l : List Tm} {t x : Tm} {h : List Bd} (hv : varB s = true) (hf : forT h s = some x) : mtT ⟨s, l⟩ t h = if sameB x t = true then some h else none := by simp [mtT, hv, hf]

/-- No name twice, and not more than there are knots; the terms are knots of the other one. -/
theorem forT_none {h : List Bd} {s : ByteArray} (hf : forT h s = none) : ∀ d ∈ h, d.nm ≠ s := by
  induction h with
  | nil => intro d hd; cases hd
  | cons a r ih =>
    intro d hd
    rw [forT] at hf
    split at hf
    · cases hf
    · rename_i hne
      rcases List.mem_cons.1 hd with rfl | hd
      · exact hne
      · exact ih hf d hd
theorem mtT_apart_one {p t : Tm} {h h' : List Bd} (ih : ∀ ts g g', mtL p.args ts g = some g' → ApartB g → ApartB g' ∧ g'.length ≤ g.length + sizeL p.args) (he : mtT p t h = some h') (ha : ApartB h) : ApartB h' ∧ h'.length ≤ h.length + (1 + sizeL p.args) := by
  unfold mtT at he
  split at he
  · split at he
    · split at he
      · cases he; exact ⟨ha, by omega⟩
      · cases he
    · rename_i hf
      cases he
      refine ⟨List.pairwise_append.2 ⟨ha, by simp, fun a h1 b h2 => ?_⟩, by simp⟩
      have e : b = ⟨p.name, t⟩ := by simpa using h2
      rw [e]
      exact forT_none hf a h1
  · split at he
    · obtain ⟨h1, h2⟩ := ih _ _ _ he ha
      exact ⟨h1, by omega⟩
    · cases he
theorem mtL_apart : ∀ (l ts : List Tm) (h h' : List Bd), mtL l ts h = some h' → ApartB h → ApartB h' ∧ h'.length ≤ h.length + sizeL l := by
  intro l
  induction l using Tm.indL with
  | h0 => intro ts h h' he ha; simp [mtL] at he; subst he; exact ⟨ha, by simp⟩
  | h s l r ihl ihr =>
    intro ts h h' he ha
    cases ts with
    | nil => simp [mtL] at he
    | cons t ts =>
      rw [mtL_cons] at he
      cases hm : mtT ⟨s, l⟩ t h with
      | none => rw [hm] at he; cases he
      | some g =>
        rw [hm] at he
        obtain ⟨h1, h2⟩ := mtT_apart_one (p := ⟨s, l⟩) (fun ts g g' h3 h4 => ihl ts g g' h3 h4) hm ha
        obtain ⟨h3, h4⟩ := ihr ts g h' he h1
        refine ⟨h3, ?_⟩
        simp only [sizeL]
        simp only at h2
        omega
theorem mtT_apart {p t : Tm} {h h' : List Bd} (he : mtT p t h = some h') (ha : ApartB h) : ApartB h' ∧ h'.length ≤ h.length + sizeL [p] := by
  obtain ⟨h1, h2⟩ := mtT_apart_one (fun ts g g' h3 h4 => mtL_apart p.args ts g g' h3 h4) he ha
  refine ⟨h1, ?_⟩
  obtain ⟨s, a⟩ := p
  simp [sizeL] at h2 ⊢
  omega
#print axioms mtT_apart
end Go.Proofs.Ytpjdkdebjkpmmaj

/- One term has another one's symbols wherever that has some: plain. -/
namespace Go.Proofs.Ytpjdkdebjkpmmaj
open Go.RowKit
set_option linter.unusedSimpArgs false
set_option linter.unusedVariables false

/-- Symbols, and how many there are below, are the pattern's, wherever the pattern has one. -/
def shL : List Tm → List Tm → Bool
  | [], _ => true
  | ⟨s, a⟩ :: r, ts => match ts with
    | [] => false
    | t :: ts' => (varB s || ((s.toList == t.name.toList) && (a.length == t.args.length) && shL a t.args)) && shL r ts'
def shT (p t : Tm) : Bool := varB p.name || ((p.name.toList == t.name.toList) && (p.args.length == t.args.length) && shL p.args t.args)
theorem shL_cons (p t : Tm) (r ts : List Tm) : shL (p :: r) (t :: ts) = (shT p t && shL r ts) := by obtain ⟨s, a⟩ := p; simp only [shL, shT]
theorem shT_deep {s s2 : ByteArray} {l m : List Tm} (hv : varB s = false) : shT ⟨s, l⟩ ⟨s2, m⟩ = ((s.toList == s2.toList) && (l.length == m.length) && shL l m) := by simp [shT, hv]
theorem shT_var {s : ByteArray} {l : List Tm} {t : Tm} (hv : varB s = true) : shT ⟨s, l⟩ t = true := by simp [shT, hv]
theorem shL_iff : ∀ (l m : List Tm), l.length = m.length → (shL l m = true ↔ ∀ k (h : k < l.length) (h2 : k < m.length), shT l[k] m[k] = true)
  | [], m, _ => by simp [shL]
  | _ :: _, [], e => by simp at e
  | p :: r, t :: ts, e => by
    have ih := shL_iff r ts (by simpa using e)
    rw [shL_cons, Bool.and_eq_true, ih]
    refine ⟨fun h k h1 h2 => ?_, fun h => ⟨h 0 (by simp) (by simp), fun k h1 h2 => h (k + 1) (by simpa using h1) (by simpa using h2)⟩⟩
    cases k with
    | zero => exact h.1
    | succ k => exact h.2 k (by simpa using h1) (by simpa using h2)
theorem shL_no {l m : List Tm} {k : Nat} (hlm : l.length = m.length) (h : k < l.length) (h2 : k < m.length) (h0 : shT l[k] m[k] = false) : shL l m = false := by
  cases hs : shL l m with
  | false => rfl
  | true => rw [(shL_iff l m hlm).1 hs k h h2] at h0; cases h0
/-- Where they aren't, nothing makes one the other. -/
theorem mtL_unshaped : ∀ (l m : List Tm) (h : List Bd), l.length = m.length → shL l m = false → mtL l m h = none := by
  intro l
  induction l using Tm.indL with
  | h0 => intro m h _ hs; simp [shL] at hs
  | h s a r iha ihr =>
    intro m h hlm hs
    cases m with
    | nil => simp at hlm
    | cons t ts =>
      rw [shL_cons] at hs
      rw [mtL_cons]
      cases h1 : shT ⟨s, a⟩ t with
      | true =>
        rw [h1, Bool.true_and] at hs
        cases mtT ⟨s, a⟩ t h with
        | none => rfl
        | some h' => exact ihr ts h' (by simpa using hlm) hs
      | false =>
        obtain ⟨s2, m2⟩ := t
        have hv : varB s = false := by
          cases hv : varB s with
          | false => rfl
          | true => rw [shT_var hv] at h1; cases h1
        rw [shT_deep hv] at h1
        have e : mtT ⟨s, a⟩ ⟨s2, m2⟩ h = none := by
          cases hn : ((s.toList == s2.toList) && (a.length == m2.length)) with
          | false => exact mtT_off hv hn
          | true =>
            rw [hn, Bool.true_and] at h1
            rw [Bool.and_eq_true] at hn
            have hl : a.length = m2.length := by simpa using hn.2
            rw [mtT_deep hv hn.1 hl]
            exact iha m2 h hl h1
        rw [e]
theorem mtT_unshaped {p t : Tm} (h : List Bd) (hs : shT p t = false) : mtT p t h = none := by
  have := mtL_unshaped [p] [t] h rfl (by rw [shL_cons, hs]; rfl)
  rw [mtL_cons] at this
  cases hm : mtT p t h with
  | none => rfl
  | some h' => rw [hm] at this; simp [mtL] at this
#print axioms mtT_unshaped
end Go.Proofs.Ytpjdkdebjkpmmaj

/- Walks: whether two terms are the same, as the program asks. -/
namespace Go.Proofs.Ytpjdkdebjkpmmaj
open Go.RowKit
set_option linter.unusedSimpArgs false
set_option linter.unusedVariables false
set_option maxRecDepth 8000

set_option maxHeartbeats 2000000 in
theorem sameK_all (t : Tm) : ∀ (x : Tm) (v u : Value) (w : World) (X Y : Nat → Prop), TV w X v t → TV w Y u x →
    Calls Try.prog 56 #[v, u] w fun e w' => e = .returned (.bool (sameB t x)) ∧ Below w.heap.size w w' := by
  induction t using Tm.ind with
  | h s l ih =>
    intro x v u w X Y hv hu
    obtain ⟨s2, m⟩ := x
    have IH := hide ih
    clear ih
    obtain ⟨a, c, rfl, hs⟩ := hv
    obtain ⟨a2, c2, rfl, hs2⟩ := hu
    have hl := hs.1
    have hl2 := hs2.1
    dsimp only
    cases hn : (s.toList == s2.toList) with
    | false =>
      have HR : Hid (false = sameB ⟨s, l⟩ ⟨s2, m⟩) := by unfold Hid sameB; rw [hn]; rfl
      go_enter Try.func56, Try.ntmps56
      go_wp2_with fail
      go_ret
      exact ⟨ret_bool HR.out, below2 _ _⟩
    | true =>
      by_cases hm : l.length = m.length
      · have HR : Hid (eqL l m = sameB ⟨s, l⟩ ⟨s2, m⟩) := by unfold Hid sameB; simp [hn, hm]
        have HM := hide hm
        rw [← hm]
        clear hm
        go_enter Try.func56, Try.ntmps56
        go_wp2_with fail
        go_loopw [23] (fun i wr => SaInv w l m a a2 c c2 i wr) (fun i wr => l.length - (intOf i).toNat)
        case atStart => exact ⟨0, Nat.zero_le _, rfl, by simp [eqL], below2 _ _, by simp, by simp, by simp⟩
        case round =>
          obtain ⟨k, hk, rfl, hq, hb, hc1, hc2, hsz⟩ := hrel
          have HQ := hide hq
          clear hq
          by_cases hlt : k < l.length
          · obtain ⟨b, o, a', c', rfl, d0, d1, hx⟩ := hs.get hb (fun _ _ h => h) k hlt
            obtain ⟨b2, o2, a2', c2', rfl, e0, e1, hx2⟩ := hs2.get hb (fun _ _ h => h) k (by have := HM.out; omega)
            have hltm : k < m.length := by have := HM.out; omega
            have HX := hide hx
            have HX2 := hide hx2
            have HB := hide hb
            have HS0 := hide (And.intro hc1 (And.intro hc2 (And.intro d0 (And.intro d1 (And.intro e0 e1)))))
            have IHK := hide (fun (w' : World) => IH.out l[k] (List.getElem_mem hlt) m[k] (.agg #[.string l[k].name, .slice a' l[k].args.length c']) (.agg #[.string m[k].name, .slice a2' m[k].args.length c2']) w' X Y)
            have HT := hide (eqL_take hlt hltm)
            have HNO := hide (eqL_no hlt HM.out)
            clear hx hx2 hb
            generalize l[k] = y at *
            generalize m[k] = z at *
            go_wp2_with fail
            cases hsm : sameB y z with
            | true =>
              rw [hsm] at IHK HT
              go_region_held3 (fun w' => w'.cell? ⟨w.heap.size, 1, none⟩ = some (.slice (some ⟨b, o, none⟩) l.length c) ∧ w'.cell? ⟨w.heap.size + 1, 1, none⟩ = some (.slice (some ⟨b2, o2, none⟩) l.length c2) ∧ w'.cell? ⟨b, o + k * 2, none⟩ = some (.string y.name) ∧ w'.cell? ⟨b, o + k * 2 + 1, none⟩ = some (.slice a' y.args.length c') ∧ w'.cell? ⟨b2, o2 + k * 2, none⟩ = some (.string z.name) ∧ w'.cell? ⟨b2, o2 + k * 2 + 1, none⟩ = some (.slice a2' z.args.length c2')) (first | exact HS0.out | exact hS1 | go_keep)
                ((go_at_call 56; refine (IHK.out _ (by exact HX.out.later (below_drewN (Below.refl _ _) 1)) (by exact HX2.out.later (below_drewN (Below.refl _ _) 1))).mono ?_; rintro e w1 ⟨rfl, hb1⟩; have hS1 := same_cells (n := 1) hb1 HS0.out))
              go_wp2_with fail
              go_roundw
              case rel => exact ⟨k + 1, by omega, by go_num, by rw [HT.out, HQ.out]; rfl, (HB.out.trans (below_drewN (Below.refl _ _) 1)).trans (hb1.mono (by simp; omega)), hS1.1, hS1.2.1, by have := hb1.size; simp at this; omega⟩
              case measure => simp [intOf]; omega
            | false =>
              have HF : Hid (false = sameB ⟨s, l⟩ ⟨s2, m⟩) := by unfold Hid; rw [← HR.out, HNO.out hsm]
              rw [hsm] at IHK
              go_region_held3 (fun w' => w'.cell? ⟨w.heap.size, 1, none⟩ = some (.slice (some ⟨b, o, none⟩) l.length c) ∧ w'.cell? ⟨w.heap.size + 1, 1, none⟩ = some (.slice (some ⟨b2, o2, none⟩) l.length c2) ∧ w'.cell? ⟨b, o + k * 2, none⟩ = some (.string y.name) ∧ w'.cell? ⟨b, o + k * 2 + 1, none⟩ = some (.slice a' y.args.length c') ∧ w'.cell? ⟨b2, o2 + k * 2, none⟩ = some (.string z.name) ∧ w'.cell? ⟨b2, o2 + k * 2 + 1, none⟩ = some (.slice a2' z.args.length c2')) (first | exact HS0.out | exact hS1 | go_keep)
                ((go_at_call 56; refine (IHK.out _ (by exact HX.out.later (below_drewN (Below.refl _ _) 1)) (by exact HX2.out.later (below_drewN (Below.refl _ _) 1))).mono ?_; rintro e w1 ⟨rfl, hb1⟩; have hS1 := same_cells (n := 1) hb1 HS0.out))
              go_wp2_with fail
              go_ret
              exact ⟨ret_bool HF.out, (HB.out.trans (below_drewN (Below.refl _ _) 1)).trans (hb1.mono (by simp; omega))⟩
          · have HF : Hid (true = sameB ⟨s, l⟩ ⟨s2, m⟩) := by
              unfold Hid
              rw [← HR.out, ← HQ.out, List.take_of_length_le (by omega), List.take_of_length_le (by have := HM.out; omega)]
            go_wp2_with fail
            go_ret
            exact ⟨ret_bool HF.out, hb⟩
      · have HR : Hid (false = sameB ⟨s, l⟩ ⟨s2, m⟩) := by unfold Hid sameB; simp [hn, hm]
        have hm2 : ((l.length : Int) == (m.length : Int)) = false := beq_eq_false_iff_ne.2 (by omega)
        clear hm
        go_enter Try.func56, Try.ntmps56
        go_wp2_with fail
        go_ret
        exact ⟨ret_bool HR.out, below2 _ _⟩
#print axioms sameK_all
end Go.Proofs.Ytpjdkdebjkpmmaj

/- Walks: has a term another one's symbols, wherever that has some? -/
namespace Go.Proofs.Ytpjdkdebjkpmmaj
open Go.RowKit
set_option linter.unusedSimpArgs false
set_option linter.unusedVariables false
set_option maxRecDepth 8000

/-- A term lies where a pointer points. -/
def PtT (w : World) (X : Nat → Prop) (b o : Nat) (t : Tm) : Prop := ∃ a c, w.cell? ⟨b, o, none⟩ = some (.string t.name) ∧ w.cell? ⟨b, o + 1, none⟩ = some (.slice a t.args.length c) ∧ Sl w X a t.args ∧ b < w.heap.size
theorem PtT.later {w w' : World} {X : Nat → Prop} {b o : Nat} {t : Tm} (h : PtT w X b o t) (hb : Below w.heap.size w w') : PtT w' X b o t := by
  obtain ⟨a, c, h1, h2, h3, h4⟩ := h
  exact ⟨a, c, (hb.cell (p := ⟨b, o, none⟩) h4).trans h1, (hb.cell (p := ⟨b, o + 1, none⟩) h4).trans h2, h3.later hb, Nat.lt_of_lt_of_le h4 hb.size⟩
theorem PtT.lt {w : World} {X : Nat → Prop} {b o : Nat} {t : Tm} (h : PtT w X b o t) : b < w.heap.size := by
  obtain ⟨a, c, h1, h2, h3, h4⟩ := h
  exact h4
theorem PtT.sub {w : World} {X : Nat → Prop} {b o : Nat} {t : Tm} (h : PtT w X b o t) : ∃ a c, w.cell? ⟨b, o + 1, none⟩ = some (.slice a t.args.length c) ∧ ∀ k (hk : k < t.args.length), ∃ b' o', a = some ⟨b', o', none⟩ ∧ PtT w X b' (o' + k * 2) t.args[k] := by
  obtain ⟨a, c, h1, h2, h3, h4⟩ := h
  refine ⟨a, c, h2, fun k hk => ?_⟩
  obtain ⟨b', o', a', c', rfl, d0, d1, hx⟩ := h3.get (Below.refl _ _) (fun _ _ h => h) k hk
  obtain ⟨a2, c2, e2, hx⟩ := hx
  cases e2
  exact ⟨b', o', rfl, a', c', d0, d1, hx, cell_lt d0⟩

def ShInv (w : World) (l m : List Tm) (i : Value) (wr : World) : Prop :=
  ∃ k : Nat, k ≤ l.length ∧ i = .int .i64 (k : Int) ∧ (∀ j (h : j < l.length) (h2 : j < m.length), j < k → shT l[j] m[j] = true) ∧ Below w.heap.size w wr

set_option maxHeartbeats 1000000 in
theorem isShaped_any (X : Nat → Prop) (p : Tm) : ∀ (t : Tm) (b o b2 o2 : Nat) (w : World), PtT w X b o p → PtT w X b2 o2 t →
    Calls Try.prog 53 #[.pointer (some ⟨b, o, none⟩), .pointer (some ⟨b2, o2, none⟩)] w fun e w' => e = .returned (.bool (shT p t)) ∧ Below w.heap.size w w' := by
  induction p using Tm.ind with
  | h s l ih =>
    intro t b o b2 o2 w hp ht
    obtain ⟨s2, m⟩ := t
    have IH := hide ih
    have HP := hide hp
    have HT := hide ht
    obtain ⟨a, c, p0, p1, hs, hbl⟩ := hp
    obtain ⟨a2, c2, t0, t1, hs2, hbl2⟩ := ht
    dsimp only at p0 p1 hs t0 t1 hs2 ⊢
    have hl := hs.1
    have hl2 := hs2.1
    clear ih hs hs2
    cases hvb : varB s with
    | true =>
      have HR := hide (shT_var (l := l) (t := ⟨s2, m⟩) hvb)
      go_enter Try.func53, Try.ntmps53
      go_wp2_with (go_at_call 55; refine (isVariable_all _ _).mono ?_; rintro e w ⟨rfl, rfl⟩; rw [hvb])
      refine bodyPost_ret (v := .bool true) (by simp [results, Try.results53, go_sem]) rfl ?_
      exact ⟨by rw [HR.out], Below.refl _ _⟩
    | false =>
      have HVB := hide hvb
      cases hn : (s.toList == s2.toList) with
      | false =>
        have HR : Hid (shT ⟨s, l⟩ ⟨s2, m⟩ = false) := by unfold Hid; rw [shT_deep hvb, hn]; rfl
        go_enter Try.func53, Try.ntmps53
        have HS0 := hide (And.intro p0 (And.intro p1 (And.intro t0 t1)))
        go_wp2_with (go_at_call 55; refine (isVariable_all _ _).mono ?_; rintro e w ⟨rfl, rfl⟩; rw [hvb])
        refine wp_region_held_drew (S := fun w' => w'.cell? ⟨b, o, none⟩ = some (.string s) ∧ w'.cell? ⟨b, o + 1, none⟩ = some (.slice a l.length c) ∧ w'.cell? ⟨b2, o2, none⟩ = some (.string s2) ∧ w'.cell? ⟨b2, o2 + 1, none⟩ = some (.slice a2 m.length c2)) (by kernel_rfl) HS0.out (fun hHeld => ?_)
        refine wpAnyH_take (i := 0) (v := ?_) rfl (by kernel_rfl) (by kernel_rfl) (by kernel_rfl) (fun _ _ _ h => h) (Or.inl ⟨by rfl, ?_⟩) (by assumption) ?_
        rotate_left
        · intro w' hSw
          obtain ⟨k1, k2, k3, k4⟩ := hSw
          go_simp <;> with_reducible rfl
        try simp only [Act.put, List.setIfInBounds_toArray, List.set_cons_zero, List.set_cons_succ, List.getElem_toArray, List.getElem_cons_succ, List.getElem_cons_zero]
        refine wpAnyH_take (i := 1) (v := ?_) rfl (by kernel_rfl) (by kernel_rfl) (by kernel_rfl) (fun _ _ _ h => h) (Or.inl ⟨by rfl, ?_⟩) (by assumption) ?_
        rotate_left
        · intro w' hSw
          obtain ⟨k1, k2, k3, k4⟩ := hSw
          go_simp <;> with_reducible rfl
        try simp only [Act.put, List.setIfInBounds_toArray, List.set_cons_zero, List.set_cons_succ, List.getElem_toArray, List.getElem_cons_succ, List.getElem_cons_zero]
        refine wpAnyH_take (i := 2) (v := ?_) rfl (by kernel_rfl) (by kernel_rfl) (by kernel_rfl) (fun _ _ _ h => h) (Or.inl ⟨by rfl, ?_⟩) (by assumption) ?_
        rotate_left
        · intro w' hSw
          obtain ⟨k1, k2, k3, k4⟩ := hSw
          go_simp <;> with_reducible rfl
        try simp only [Act.put, List.setIfInBounds_toArray, List.set_cons_zero, List.set_cons_succ, List.getElem_toArray, List.getElem_cons_succ, List.getElem_cons_zero]
        refine wpAnyH_take (i := 3) (v := ?_) rfl (by kernel_rfl) (by kernel_rfl) (by kernel_rfl) (fun _ _ _ h => h) (Or.inl ⟨by rfl, ?_⟩) (by assumption) ?_
        rotate_left
        · intro w' hSw
          obtain ⟨k1, k2, k3, k4⟩ := hSw
          go_simp <;> with_reducible rfl
        try simp only [Act.put, List.setIfInBounds_toArray, List.set_cons_zero, List.set_cons_succ, List.getElem_toArray, List.getElem_cons_succ, List.getElem_cons_zero]
        refine wpAnyH_take (i := 4) (v := ?_) rfl (by kernel_rfl) (by kernel_rfl) (by kernel_rfl) (fun _ _ _ h => h) (Or.inl ⟨by rfl, ?_⟩) (by assumption) ?_
        rotate_left
        · intro w' hSw
          obtain ⟨k1, k2, k3, k4⟩ := hSw
          go_simp <;> with_reducible rfl
        try simp only [Act.put, List.setIfInBounds_toArray, List.set_cons_zero, List.set_cons_succ, List.getElem_toArray, List.getElem_cons_succ, List.getElem_cons_zero]
        refine wpAnyH_take (i := 5) (v := ?_) rfl (by kernel_rfl) (by kernel_rfl) (by kernel_rfl) (fun _ _ _ h => h) (Or.inl ⟨by rfl, ?_⟩) (by assumption) ?_
        rotate_left
        · intro w' hSw
          obtain ⟨k1, k2, k3, k4⟩ := hSw
          go_simp <;> with_reducible rfl
        try simp only [Act.put, List.setIfInBounds_toArray, List.set_cons_zero, List.set_cons_succ, List.getElem_toArray, List.getElem_cons_succ, List.getElem_cons_zero]
        refine wpAnyH_take (i := 6) (v := ?_) rfl (by kernel_rfl) (by kernel_rfl) (by kernel_rfl) (fun _ _ _ h => h) (Or.inl ⟨by rfl, ?_⟩) (by assumption) ?_
        rotate_left
        · intro w' hSw
          obtain ⟨k1, k2, k3, k4⟩ := hSw
          go_simp <;> with_reducible rfl
        try simp only [Act.put, List.setIfInBounds_toArray, List.set_cons_zero, List.set_cons_succ, List.getElem_toArray, List.getElem_cons_succ, List.getElem_cons_zero]
        refine wpAnyH_take (i := 7) (v := ?_) rfl (by kernel_rfl) (by kernel_rfl) (by kernel_rfl) (fun _ _ _ h => h) (Or.inl ⟨by rfl, ?_⟩) (by assumption) ?_
        rotate_left
        · intro w' hSw
          obtain ⟨k1, k2, k3, k4⟩ := hSw
          go_simp <;> with_reducible rfl
        try simp only [Act.put, List.setIfInBounds_toArray, List.set_cons_zero, List.set_cons_succ, List.getElem_toArray, List.getElem_cons_succ, List.getElem_cons_zero]
        refine wpAnyH_take (i := 8) (v := ?_) rfl (by kernel_rfl) (by kernel_rfl) (by kernel_rfl) (fun _ _ _ h => h) (Or.inl ⟨by rfl, ?_⟩) (by assumption) ?_
        rotate_left
        · intro w' hSw
          obtain ⟨k1, k2, k3, k4⟩ := hSw
          go_simp <;> with_reducible rfl
        try simp only [Act.put, List.setIfInBounds_toArray, List.set_cons_zero, List.set_cons_succ, List.getElem_toArray, List.getElem_cons_succ, List.getElem_cons_zero]
        refine wpAnyH_take (i := 9) (v := ?_) rfl (by kernel_rfl) (by kernel_rfl) (by kernel_rfl) (fun _ _ _ h => h) (Or.inl ⟨by rfl, ?_⟩) (by assumption) ?_
        rotate_left
        · intro w' hSw
          obtain ⟨k1, k2, k3, k4⟩ := hSw
          go_simp <;> with_reducible rfl
        try simp only [Act.put, List.setIfInBounds_toArray, List.set_cons_zero, List.set_cons_succ, List.getElem_toArray, List.getElem_cons_succ, List.getElem_cons_zero]
        refine wpAnyH_take (i := 10) (v := undef) rfl (by kernel_rfl) (by kernel_rfl) (by kernel_rfl) (fun _ _ _ h => h) (Or.inr ⟨by rfl, rfl⟩) (by assumption) ?_
        try simp only [Act.put, List.setIfInBounds_toArray, List.set_cons_zero, List.set_cons_succ, List.getElem_toArray, List.getElem_cons_succ, List.getElem_cons_zero]
        refine wpAnyH_take (i := 11) (v := undef) rfl (by kernel_rfl) (by kernel_rfl) (by kernel_rfl) (fun _ _ _ h => h) (Or.inr ⟨by rfl, rfl⟩) (by assumption) ?_
        try simp only [Act.put, List.setIfInBounds_toArray, List.set_cons_zero, List.set_cons_succ, List.getElem_toArray, List.getElem_cons_succ, List.getElem_cons_zero]
        refine wpAnyH_take (i := 12) (v := undef) rfl (by kernel_rfl) (by kernel_rfl) (by kernel_rfl) (fun _ _ _ h => h) (Or.inr ⟨by rfl, rfl⟩) (by assumption) ?_
        try simp only [Act.put, List.setIfInBounds_toArray, List.set_cons_zero, List.set_cons_succ, List.getElem_toArray, List.getElem_cons_succ, List.getElem_cons_zero]
        refine wpAnyH_take (i := 13) (v := undef) rfl (by kernel_rfl) (by kernel_rfl) (by kernel_rfl) (fun _ _ _ h => h) (Or.inr ⟨by rfl, rfl⟩) (by assumption) ?_
        try simp only [Act.put, List.setIfInBounds_toArray, List.set_cons_zero, List.set_cons_succ, List.getElem_toArray, List.getElem_cons_succ, List.getElem_cons_zero]
        refine wpAnyH_take (i := 14) (v := undef) rfl (by kernel_rfl) (by kernel_rfl) (by kernel_rfl) (fun _ _ _ h => h) (Or.inr ⟨by rfl, rfl⟩) (by assumption) ?_
        try simp only [Act.put, List.setIfInBounds_toArray, List.set_cons_zero, List.set_cons_succ, List.getElem_toArray, List.getElem_cons_succ, List.getElem_cons_zero]
        refine wpAnyH_take (i := 15) (v := undef) rfl (by kernel_rfl) (by kernel_rfl) (by kernel_rfl) (fun _ _ _ h => h) (Or.inr ⟨by rfl, rfl⟩) (by assumption) ?_
        try simp only [Act.put, List.setIfInBounds_toArray, List.set_cons_zero, List.set_cons_succ, List.getElem_toArray, List.getElem_cons_succ, List.getElem_cons_zero]
        refine wpAnyH_take (i := 16) (v := undef) rfl (by kernel_rfl) (by kernel_rfl) (by kernel_rfl) (fun _ _ _ h => h) (Or.inr ⟨by rfl, rfl⟩) (by assumption) ?_
        try simp only [Act.put, List.setIfInBounds_toArray, List.set_cons_zero, List.set_cons_succ, List.getElem_toArray, List.getElem_cons_succ, List.getElem_cons_zero]
        refine wpAnyH_take (i := 17) (v := undef) rfl (by kernel_rfl) (by kernel_rfl) (by kernel_rfl) (fun _ _ _ h => h) (Or.inr ⟨by rfl, rfl⟩) (by assumption) ?_
        try simp only [Act.put, List.setIfInBounds_toArray, List.set_cons_zero, List.set_cons_succ, List.getElem_toArray, List.getElem_cons_succ, List.getElem_cons_zero]
        refine wpAnyH_take (i := 18) (v := undef) rfl (by kernel_rfl) (by kernel_rfl) (by kernel_rfl) (fun _ _ _ h => h) (Or.inr ⟨by rfl, rfl⟩) (by assumption) ?_
        try simp only [Act.put, List.setIfInBounds_toArray, List.set_cons_zero, List.set_cons_succ, List.getElem_toArray, List.getElem_cons_succ, List.getElem_cons_zero]
        refine wpAnyH_take (i := 19) (v := undef) rfl (by kernel_rfl) (by kernel_rfl) (by kernel_rfl) (fun _ _ _ h => h) (Or.inr ⟨by rfl, rfl⟩) (by assumption) ?_
        try simp only [Act.put, List.setIfInBounds_toArray, List.set_cons_zero, List.set_cons_succ, List.getElem_toArray, List.getElem_cons_succ, List.getElem_cons_zero]
        refine wpAnyH_take (i := 20) (v := undef) rfl (by kernel_rfl) (by kernel_rfl) (by kernel_rfl) (fun _ _ _ h => h) (Or.inr ⟨by rfl, rfl⟩) (by assumption) ?_
        try simp only [Act.put, List.setIfInBounds_toArray, List.set_cons_zero, List.set_cons_succ, List.getElem_toArray, List.getElem_cons_succ, List.getElem_cons_zero]
        refine wpAnyH_take (i := 21) (v := ?_) rfl (by kernel_rfl) (by kernel_rfl) (by kernel_rfl) (fun _ _ _ h => h) (Or.inl ⟨by rfl, ?_⟩) (by assumption) ?_
        rotate_left
        · intro w' hSw
          obtain ⟨k1, k2, k3, k4⟩ := hSw
          go_simp <;> with_reducible rfl
        try simp only [Act.put, List.setIfInBounds_toArray, List.set_cons_zero, List.set_cons_succ, List.getElem_toArray, List.getElem_cons_succ, List.getElem_cons_zero]
        refine wpAnyH_done (by kernel_rfl) ?_ _
        go_wp2_with fail
        refine bodyPost_ret (v := .bool false) (by simp [results, Try.results53, go_sem]) rfl ?_
        exact ⟨by rw [HR.out], (Below.refl _ _).drew⟩
      | true =>
        by_cases hm : l.length = m.length
        case neg =>
          have HR : Hid (shT ⟨s, l⟩ ⟨s2, m⟩ = false) := by unfold Hid; rw [shT_deep hvb, hn]; simp [hm]
          have hm2 : ((l.length : Int) == (m.length : Int)) = false := beq_eq_false_iff_ne.2 (by omega)
          have hm3 : ((l.length : Int) != (m.length : Int)) = true := by simp [bne, hm2]
          clear hm
          go_enter Try.func53, Try.ntmps53
          have HS0 := hide (And.intro p0 (And.intro p1 (And.intro t0 t1)))
          go_wp2_with (go_at_call 55; refine (isVariable_all _ _).mono ?_; rintro e w ⟨rfl, rfl⟩; rw [hvb])
          go_region_held3 (fun w' => w'.cell? ⟨b, o, none⟩ = some (.string s) ∧ w'.cell? ⟨b, o + 1, none⟩ = some (.slice a l.length c) ∧ w'.cell? ⟨b2, o2, none⟩ = some (.string s2) ∧ w'.cell? ⟨b2, o2 + 1, none⟩ = some (.slice a2 m.length c2)) (first | exact HS0.out | go_keep) (fail)
          go_wp2_with fail
          refine bodyPost_ret (v := .bool false) (by simp [results, Try.results53, go_sem]) rfl ?_
          exact ⟨by rw [HR.out], (Below.refl _ _).drew⟩
        case pos =>
          have HR : Hid (shT ⟨s, l⟩ ⟨s2, m⟩ = shL l m) := by unfold Hid; rw [shT_deep hvb, hn]; simp [hm]
          have HLM := hide hm
          rw [← hm] at t1 hl2
          clear hm
          go_enter Try.func53, Try.ntmps53
          have HS0 := hide (And.intro p0 (And.intro p1 (And.intro t0 t1)))
          go_wp2_with (go_at_call 55; refine (isVariable_all _ _).mono ?_; rintro e w ⟨rfl, rfl⟩; rw [hvb])
          go_region_held3 (fun w' => w'.cell? ⟨b, o, none⟩ = some (.string s) ∧ w'.cell? ⟨b, o + 1, none⟩ = some (.slice a l.length c) ∧ w'.cell? ⟨b2, o2, none⟩ = some (.string s2) ∧ w'.cell? ⟨b2, o2 + 1, none⟩ = some (.slice a2 l.length c2)) (first | exact HS0.out | go_keep) (fail)
          go_wp2_with fail
          go_loopw [38] (fun i wr => ShInv w l m i wr) (fun i wr => l.length - (intOf i).toNat)
          case atStart => exact ⟨0, Nat.zero_le _, rfl, fun j _ _ h => absurd h (by omega), (Below.refl _ _).drew⟩
          case round =>
            obtain ⟨k, hk, rfl, hT, hB⟩ := hrel
            have HTK := hide hT
            have HB := hide hB
            have HPK := hide (HP.out.later hB)
            have HTT := hide (HT.out.later hB)
            clear hT hB
            by_cases hlt : k < l.length
            · have hltm : k < m.length := by have := HLM.out; omega
              obtain ⟨a', c', q1, hsub⟩ := HPK.out.sub
              obtain ⟨b', o', rfl, hx⟩ := hsub k hlt
              obtain ⟨a2', c2', r1, hsub2⟩ := HTT.out.sub
              obtain ⟨b2', o2', rfl, hx2⟩ := hsub2 k hltm
              dsimp only at q1 r1 hx hx2
              rw [← HLM.out] at r1
              have hk2 : (k : Int) < (l.length : Int) := by omega
              have HS1 := hide (And.intro q1 r1)
              have HI : Hid (Calls Try.prog 53 #[.pointer (some ⟨b', o' + k * 2, none⟩), .pointer (some ⟨b2', o2' + k * 2, none⟩)] wr.drew fun e w' => e = .returned (.bool (shT l[k] m[k])) ∧ Below wr.drew.heap.size wr.drew w') := IH.out l[k] (List.getElem_mem hlt) m[k] b' (o' + k * 2) b2' (o2' + k * 2) wr.drew (hx.later ((Below.refl _ _).drew)) (hx2.later ((Below.refl _ _).drew))
              have HNO := hide (fun h0 => shL_no HLM.out hlt hltm h0)
              have HNX : Hid (shT l[k] m[k] = true → ∀ j (h : j < l.length) (h2 : j < m.length), j < k + 1 → shT l[j] m[j] = true) := fun h0 j h h2 hj => by
                by_cases e : j = k
                · subst e; exact h0
                · exact HTK.out j h h2 (by omega)
              have hkp : ∀ w5, Below wr.drew.heap.size wr.drew w5 → w5.cell? ⟨b, o + 1, none⟩ = some (.slice (some ⟨b', o', none⟩) l.length c') ∧ w5.cell? ⟨b2, o2 + 1, none⟩ = some (.slice (some ⟨b2', o2', none⟩) l.length c2') := fun w5 h5 => ⟨(h5.cell (p := ⟨b, o + 1, none⟩) (HPK.out.lt)).trans HS1.out.1, (h5.cell (p := ⟨b2, o2 + 1, none⟩) (HTT.out.lt)).trans HS1.out.2⟩
              have HKP := hide hkp
              clear hsub hsub2 hx hx2 hkp
              generalize shT l[k] m[k] = y at *
              go_wp2_with fail
              go_region_held3 (fun w' => w'.cell? ⟨b, o + 1, none⟩ = some (.slice (some ⟨b', o', none⟩) l.length c') ∧ w'.cell? ⟨b2, o2 + 1, none⟩ = some (.slice (some ⟨b2', o2', none⟩) l.length c2')) (first | exact HS1.out | exact hS5 | go_keep)
                ((go_at_call 53; refine HI.out.mono ?_; rintro e w5 ⟨rfl, hb5⟩; have hS5 := HKP.out w5 hb5))
              have HB5 := hide (HB.out.trans (((Below.refl _ _).drew.trans hb5).mono HB.out.size))
              clear hb5 hS5
              cases y with
              | false =>
                have HF := hide (HR.out.trans (HNO.out rfl))
                go_wp2_with fail
                refine bodyPost_ret (v := .bool false) (by simp [results, Try.results53, go_sem]) rfl ?_
                exact ⟨by rw [HF.out], HB5.out⟩
              | true =>
                go_wp2_with fail
                go_roundw
                case rel => exact ⟨k + 1, by omega, by go_num, HNX.out rfl, HB5.out⟩
                case measure => simp [intOf]; omega
            · have HF : Hid (shT ⟨s, l⟩ ⟨s2, m⟩ = true) := by
                unfold Hid
                rw [HR.out, shL_iff l m HLM.out]
                exact fun j h h2 => HTK.out j h h2 (by omega)
              go_wp2_with fail
              refine bodyPost_ret (v := .bool true) (by simp [results, Try.results53, go_sem]) rfl ?_
              exact ⟨by rw [HF.out], HB.out⟩
#print axioms isShaped_any
end Go.Proofs.Ytpjdkdebjkpmmaj

/- Walks: what stands for a variable at last. -/
namespace Go.Proofs.Ytpjdkdebjkpmmaj
open Go.RowKit
set_option linter.unusedSimpArgs false
set_option linter.unusedVariables false
set_option maxRecDepth 8000

/-- A term lies where a pointer points, and that is memory that X lets. -/
def PX (w : World) (X : Nat → Prop) (b o : Nat) (t : Tm) : Prop := PtT w X b o t ∧ X b
theorem PX.exq {w w' : World} {X Q : Nat → Prop} {b o : Nat} {t : Tm} (h : PX w X b o t) (he : ExQ Q w w') (hX : ∀ b, X b → ¬ Q b) : PX w' X b o t := by
  obtain ⟨⟨a, c, h1, h2, h3, h4⟩, h5⟩ := h
  have e := he.block b h4 (hX b h5)
  exact ⟨⟨a, c, (World.cell?_of_block e).trans h1, (World.cell?_of_block e).trans h2, h3.exq he hX, Nat.lt_of_lt_of_le h4 he.size⟩, h5⟩
theorem PX.sub {w : World} {X : Nat → Prop} {b o : Nat} {t : Tm} (h : PX w X b o t) : ∃ a c, w.cell? ⟨b, o + 1, none⟩ = some (.slice a t.args.length c) ∧ t.args.length ≤ 9223372036854775807 ∧ ∀ k (hk : k < t.args.length), ∃ b' o', a = some ⟨b', o', none⟩ ∧ PX w X b' (o' + k * 2) t.args[k] := by
  obtain ⟨⟨a, c, h1, h2, h3, h4⟩, _⟩ := h
  refine ⟨a, c, h2, h3.1, fun k hk => ?_⟩
  obtain ⟨b', o', a', c', rfl, d0, d1, hx⟩ := h3.get (Below.refl _ _) (fun _ _ h => h) k hk
  obtain ⟨a2, c2, e2, hx⟩ := hx
  cases e2
  have hX : X b' := by
    obtain ⟨_, h1⟩ := h3
    rcases h1 with h1 | ⟨b2, o2, e', h1⟩
    · rw [h1] at hk; simp at hk
    · cases e'; exact (lies_get _ _ _ h1 k hk).1
  exact ⟨b', o', rfl, ⟨a', c', d0, d1, hx, cell_lt d0⟩, hX⟩
def ptZ (z : Zp) : ByteArray × Value := (z.nm, .pointer (some ⟨z.b, z.o, none⟩))
/-- A sketch: what stands for variables, and how much may be looked at. -/
def SkS (w : World) (S q : Nat) (X : Nat → Prop) (Z : List Zp) (left : Int) : Prop :=
  Blk w S #[.map (some q), .int .i64 left] 98 ∧ MapAt w q (Z.map ptZ) ∧ (∀ z ∈ Z, PX w X z.b z.o z.t) ∧ ∀ b, X b → b ≠ S ∧ b ≠ q
def SkQ (S q : Nat) : Nat → Prop := fun b => b = S ∨ b = q
theorem SkS.ne {w : World} {S q : Nat} {X : Nat → Prop} {Z : List Zp} {left : Int} (h : SkS w S q X Z left) : S ≠ q := fun e => by
  obtain ⟨es, clk, h1, _⟩ := h.2.1
  have h2 := h.1
  unfold Blk at h2
  rw [e, h1] at h2; cases h2
theorem SkS.X {w : World} {S q : Nat} {X : Nat → Prop} {Z : List Zp} {left : Int} (h : SkS w S q X Z left) : ∀ b, X b → ¬ SkQ S q b := fun b hb hq => by
  rcases hq with e | e
  · exact (h.2.2.2 b hb).1 e
  · exact (h.2.2.2 b hb).2 e
theorem SkS.later {w w' : World} {S q : Nat} {X : Nat → Prop} {Z : List Zp} {left : Int} (h : SkS w S q X Z left) (hb : Below w.heap.size w w') : SkS w' S q X Z left :=
  ⟨h.1.below hb h.1.lt, h.2.1.below hb h.2.1.lt, fun z hz => (h.2.2.1 z hz).exq (ExQ.ofBelow (Q := SkQ S q) hb) h.X, h.2.2.2⟩
theorem SkS.spend {w : World} {S q : Nat} {X : Nat → Prop} {Z : List Zp} {left : Int} (h : SkS w S q X Z left) (n : Int) : SkS (w.setCell ⟨S, 1, none⟩ (.int .i64 n)) S q X Z n :=
  ⟨by have := h.1.set 1 (.int .i64 n); simpa using this, h.2.1.kept (Below.heap_setCell _ _ _ _ (by simpa using h.ne.symm)), fun z hz => (h.2.2.1 z hz).exq ((ExQ.refl (SkQ S q) w).set (Or.inl rfl) 1 _) h.X, h.2.2.2⟩
theorem mapGet_ptZ {Z : List Zp} {n : ByteArray} : (mapGet (Z.map ptZ) n = none ∧ ∀ z ∈ Z, z.nm ≠ n) ∨ ∃ z ∈ Z, z.nm = n ∧ mapGet (Z.map ptZ) n = some (.pointer (some ⟨z.b, z.o, none⟩)) := by
  induction Z with
  | nil => exact Or.inl ⟨rfl, by simp⟩
  | cons y r ih =>
    by_cases hn : y.nm = n
    · exact Or.inr ⟨y, by simp, hn, by simp [mapGet, ptZ, hn]⟩
    · rcases ih with ⟨h1, h2⟩ | ⟨z, hz, h1, h2⟩
      · refine Or.inl ⟨by rw [List.map_cons, mapGet, if_neg (by simpa [ptZ] using hn)]; exact h1, fun z hz => ?_⟩
        rcases List.mem_cons.1 hz with rfl | hz
        · exact hn
        · exact h2 z hz
      · exact Or.inr ⟨z, by simp [hz], h1, by rw [List.map_cons, mapGet, if_neg (by simpa [ptZ] using hn)]; exact h2⟩

/-- Where a look ends. -/
def LkP (w : World) (S q : Nat) (X : Nat → Prop) (Z : List Zp) (left : Int) (t : Tm) (e : Ending) (w' : World) : Prop :=
  ∃ (b o : Nat) (t' : Tm) (n : Int), e = .returned (.pointer (some ⟨b, o, none⟩)) ∧ SkS w' S q X Z n ∧ PX w' X b o t' ∧ ExQ (SkQ S q) w w' ∧ n ≤ left ∧ (-1 ≤ n ∨ n = left) ∧ errL [t'] = 0 ∧ ∀ s, Clo Z s → onT s t' = onT s t ∧ (0 ≤ n → Free s t')
def LkI (w : World) (S q : Nat) (X : Nat → Prop) (Z : List Zp) (left : Int) (t : Tm) (g : Nat) (tv : Value) (wr : World) : Prop :=
  ∃ (b o : Nat) (t' : Tm) (n : Int), g = (n + 1).toNat ∧ tv = .pointer (some ⟨b, o, none⟩) ∧ SkS wr S q X Z n ∧ PX wr X b o t' ∧ ExQ (SkQ S q) w wr ∧ n ≤ left ∧ (-1 ≤ n ∨ n = left) ∧ errL [t'] = 0 ∧ ∀ s, Clo Z s → onT s t' = onT s t

set_option maxHeartbeats 1000000 in
theorem skLook_any (S q : Nat) (X : Nat → Prop) (Z : List Zp) (hZ : ∀ z ∈ Z, errL [z.t] = 0) (left : Int) (t : Tm) (b o : Nat) (w : World) (hS : SkS w S q X Z left) (hl : -100 ≤ left) (hl2 : left ≤ 100000) (ht : PX w X b o t) (he : errL [t] = 0) :
    Calls Try.prog 92 #[.pointer (some ⟨S, 0, none⟩), .pointer (some ⟨b, o, none⟩)] w fun e w' => LkP w S q X Z left t e w' := by
  have HS := hide hS
  have HT := hide ht
  have HE := hide he
  clear hS ht
  go_enter Try.func92, Try.ntmps92
  go_wp2_with fail
  go_loopg [1] (left + 1).toNat (fun g tv wr => LkI w S q X Z left t g tv wr)
  case atStart => exact ⟨b, o, t, left, rfl, rfl, HS.out, HT.out, ExQ.refl _ _, Int.le_refl _, Or.inr rfl, HE.out, fun _ _ => rfl⟩
  case round =>
    obtain ⟨b1, o1, t1, n, rfl, rfl, hS1, hP1, hE1, hn1, hn2, he1, hc1⟩ := hrel
    have HS1 := hide hS1
    have HP1 := hide hP1
    have HE1 := hide hE1
    have HC1 := hide hc1
    have s1 : wr.cell? ⟨S, 1, none⟩ = some (.int .i64 n) := hS1.1.cell 1
    have s0 : wr.cell? ⟨S, 0, none⟩ = some (.map (some q)) := hS1.1.cell 0
    obtain ⟨⟨a1, c1, p0, p1, hsl, hbl⟩, hXb⟩ := hP1
    clear hS1 hE1 hc1
    by_cases hn0 : 0 ≤ n
    · cases hvb : varB t1.name with
      | false =>
        have HF : Hid (∀ s, Clo Z s → onT s t1 = onT s t ∧ (0 ≤ n → Free s t1)) := fun s hs => ⟨HC1.out s hs, fun _ => ⟨he1, fun h => by rw [hvb] at h; cases h⟩⟩
        go_wp2_with (go_at_call 55; refine (isVariable_all _ _).mono ?_; rintro e wr ⟨rfl, rfl⟩; rw [hvb])
        refine bodyPost_ret (v := .pointer (some ⟨b1, o1, none⟩)) (by simp [results, Try.results92, go_sem]) rfl ?_
        exact ⟨b1, o1, t1, n, rfl, HS1.out, HP1.out, HE1.out, hn1, hn2, he1, HF.out⟩
      | true =>
        have hz : ∀ w', (zeroValue 88).run Try.prog w' = .ok (.pointer none) w' := fun w' => Try.zeroValue88 w'
        have HS0 := hide (And.intro s0 p0)
        rcases mapGet_ptZ (Z := Z) (n := t1.name) with ⟨hg, hno⟩ | ⟨z, hz1, hzn, hg⟩
        · have HF : Hid (∀ s, Clo Z s → onT s t1 = onT s t ∧ (0 ≤ n → Free s t1)) := fun s hs => ⟨HC1.out s hs, fun _ => ⟨he1, fun _ => hs.unbound hno⟩⟩
          have hlk : (Instr.lookup 96 (.map (some q)) (.string t1.name) true).run Try.prog wr.drew = .ok (.tuple #[.pointer none, .bool false]) wr.drew := by
            rw [run_look (P := Try.prog) Try.underlying96 Try.underlying9 (hz _) (show MapAt wr.drew q (Z.map ptZ) from HS1.out.2.1) t1.name, hg]; rfl
          clear hg hno
          go_wp2_with (go_at_call 55; refine (isVariable_all _ _).mono ?_; rintro e wr ⟨rfl, rfl⟩; rw [hvb])
          go_region_held3 (fun w' => w'.cell? ⟨S, 0, none⟩ = some (.map (some q)) ∧ w'.cell? ⟨b1, o1, none⟩ = some (.string t1.name)) (first | exact HS0.out | go_keep) (fail)
          go_wp2_with fail
          refine bodyPost_ret (v := .pointer (some ⟨b1, o1, none⟩)) (by simp [results, Try.results92, go_sem]) rfl ?_
          have hD : Below wr.heap.size wr wr.drew := (Below.refl _ _).drew
          exact ⟨b1, o1, t1, n, rfl, HS1.out.later hD, HP1.out.exq (ExQ.ofBelow (Q := SkQ S q) hD) HS1.out.X, HE1.out.drew, hn1, hn2, he1, HF.out⟩
        · have HF : Hid (∀ s, Clo Z s → onT s z.t = onT s t) := fun s hs => (hs.stands he1 hvb hz1 hzn).trans (HC1.out s hs)
          have HZ1 := hide hz1
          have hlk : (Instr.lookup 96 (.map (some q)) (.string t1.name) true).run Try.prog wr.drew = .ok (.tuple #[.pointer (some ⟨z.b, z.o, none⟩), .bool true]) wr.drew := by
            rw [run_look (P := Try.prog) Try.underlying96 Try.underlying9 (hz _) (show MapAt wr.drew q (Z.map ptZ) from HS1.out.2.1) t1.name, hg]; rfl
          have s1' : wr.drew.cell? ⟨S, 1, none⟩ = some (.int .i64 n) := s1
          have f1' : wr.drew.frozen? ⟨S, 1, none⟩ = false := HS1.out.1.frozen 1
          clear hg hz1 hzn
          go_wp2_with (go_at_call 55; refine (isVariable_all _ _).mono ?_; rintro e wr ⟨rfl, rfl⟩; rw [hvb])
          go_region_held3 (fun w' => w'.cell? ⟨S, 0, none⟩ = some (.map (some q)) ∧ w'.cell? ⟨b1, o1, none⟩ = some (.string t1.name)) (first | exact HS0.out | go_keep) (fail)
          have hwrap : IntKind.i64.wrap (n - 1) = n - 1 := by rw [IntKind.wrap_i64]; omega
          go_wp2_with fail
          have hD : Below wr.heap.size wr wr.drew := (Below.refl _ _).drew
          have hE2 : ExQ (SkQ S q) wr (wr.setCell ⟨S, 1, none⟩ (.int .i64 (n - 1))).drew := ((ExQ.refl (SkQ S q) wr).set (Or.inl rfl) 1 _).drew
          go_roundg ((n - 1) + 1).toNat
          case rel => exact ⟨z.b, z.o, z.t, n - 1, rfl, rfl, (HS1.out.spend (n - 1)).later ((Below.refl _ _).drew), (HS1.out.2.2.1 z HZ1.out).exq hE2 HS1.out.X, HE1.out.trans hE2, by omega, by omega, hZ z HZ1.out, HF.out⟩
          case measure => omega
    · go_wp2_with fail
      refine bodyPost_ret (v := .pointer (some ⟨b1, o1, none⟩)) (by simp [results, Try.results92, go_sem]) rfl ?_
      exact ⟨b1, o1, t1, n, rfl, HS1.out, HP1.out, HE1.out, hn1, hn2, he1, fun s hs => ⟨HC1.out s hs, fun h => absurd h (by omega)⟩⟩
#print axioms skLook_any
end Go.Proofs.Ytpjdkdebjkpmmaj

/- Walks: does a variable stand in a term, with what stands for others? -/
namespace Go.Proofs.Ytpjdkdebjkpmmaj
open Go.RowKit
set_option linter.unusedSimpArgs false
set_option linter.unusedVariables false
set_option maxRecDepth 8000

theorem Free.knot {s : List Bd} (hs : OkS s) {t : Tm} (h : Free s t) : onT s t = ⟨t.name, onL s t.args⟩ := by
  cases hv : varB t.name with
  | false => exact onT_knot hs hv
  | true =>
    rw [h.var hv]
    have e : t.args = [] := by rw [var_leaf h.1 hv]
    rw [e]
    simp [onL]
theorem occ_onL {s : List Bd} {x : ByteArray} : ∀ {l : List Tm}, occL x (onL s l) ↔ ∃ k, ∃ h : k < l.length, occL x [onT s l[k]]
  | [] => by
    simp only [onL]
    exact ⟨fun h => absurd h occL_nil, fun ⟨k, h, _⟩ => absurd h (by simp)⟩
  | t :: r => by
    rw [onL_cons, occL_cons, occ_onL (l := r)]
    constructor
    · rintro (h | ⟨k, hk, h⟩)
      · exact ⟨0, by simp, h⟩
      · exact ⟨k + 1, by simpa using hk, h⟩
    · rintro ⟨k, hk, h⟩
      cases k with
      | zero => exact Or.inl h
      | succ k => exact Or.inr ⟨k, by simpa using hk, h⟩
theorem err_at : ∀ {l : List Tm}, errL l = 0 → ∀ k (h : k < l.length), errL [l[k]] = 0
  | t :: r, he, 0, _ => (err_two.1 he).1
  | t :: r, he, k + 1, h => err_at (err_two.1 he).2 k (by simpa using h)
/-- What is known of the answer. -/
def HoP (w : World) (S q : Nat) (X : Nat → Prop) (Z : List Zp) (left : Int) (t : Tm) (x : ByteArray) (e : Ending) (w' : World) : Prop :=
  ∃ (r : Bool) (n : Int), e = .returned (.bool r) ∧ SkS w' S q X Z n ∧ ExQ (SkQ S q) w w' ∧ n < left ∧ -2 ≤ n ∧ (n < 0 → r = true) ∧ (0 ≤ n → ∀ s, Clo Z s → (∀ d ∈ s, d.nm ≠ x) → (r = true ↔ occL x [onT s t]))
def HoI (w : World) (S q : Nat) (X : Nat → Prop) (Z : List Zp) (left : Int) (b1 o1 : Nat) (t1 : Tm) (x : ByteArray) (i : Value) (wr : World) : Prop :=
  ∃ (k : Nat) (n : Int), k ≤ t1.args.length ∧ i = .int .i64 (k : Int) ∧ PX wr X b1 o1 t1 ∧ SkS wr S q X Z n ∧ ExQ (SkQ S q) w wr ∧ n < left ∧ 0 ≤ n ∧ ∀ s, Clo Z s → (∀ d ∈ s, d.nm ≠ x) → ∀ j (h : j < t1.args.length), j < k → ¬ occL x [onT s t1.args[j]]

set_option maxHeartbeats 2000000 in
theorem skHolds_any (S q : Nat) (X : Nat → Prop) (Z : List Zp) (hZ : ∀ z ∈ Z, errL [z.t] = 0) (x : ByteArray) (m : Nat) : ∀ (left : Int) (t : Tm) (b o : Nat) (w : World), left.toNat = m → 0 ≤ left → left ≤ 100000 → SkS w S q X Z left → PX w X b o t → errL [t] = 0 →
    Calls Try.prog 124 #[.pointer (some ⟨S, 0, none⟩), .pointer (some ⟨b, o, none⟩), .string x] w fun e w' => HoP w S q X Z left t x e w' := by
  induction m using Nat.strongRecOn with
  | _ m ih =>
    intro left t b o w hm h0 h1 hS hP he
    have IH := hide ih
    have HS := hide hS
    have HP := hide hP
    clear ih hS hP
    go_enter Try.func124, Try.ntmps124
    go_wp2_with fail
    refine (skLook_any S q X Z hZ left t b o w HS.out (by omega) h1 HP.out he).mono ?_
    rintro e w1 ⟨b1, o1, t1, n, rfl, hS1, hP1, hE1, hn1, hn2, he1, hc1⟩
    have HS1 := hide hS1
    have HP1 := hide hP1
    have HE1 := hide hE1
    have HC1 := hide hc1
    have s1 : w1.cell? ⟨S, 1, none⟩ = some (.int .i64 n) := hS1.1.cell 1
    have f1 : w1.frozen? ⟨S, 1, none⟩ = false := hS1.1.frozen 1
    have hwrap : IntKind.i64.wrap (n - 1) = n - 1 := by rw [IntKind.wrap_i64]; omega
    have hE2 : ExQ (SkQ S q) w1 (w1.setCell ⟨S, 1, none⟩ (.int .i64 (n - 1))) := (ExQ.refl (SkQ S q) w1).set (Or.inl rfl) 1 _
    have HE2 := hide (hE1.trans hE2)
    have HS2 := hide (hS1.spend (n - 1))
    have HP2 := hide (hP1.exq hE2 hS1.X)
    have HSX := hide hS1.X
    obtain ⟨⟨a1, c1, p0, p1, hsl, hbl⟩, hXb⟩ := HP2.out
    have hl1 := hsl.1
    clear hS1 hE1 hc1 hP1 hsl hE2
    by_cases hlt : n - 1 < 0
    · go_wp2_with fail
      refine bodyPost_ret (v := .bool true) (by simp [results, Try.results124, go_sem]) rfl ?_
      exact ⟨true, n - 1, rfl, HS2.out, HE2.out, by omega, by omega, fun _ => rfl, fun h => absurd h (by omega)⟩
    · have HFR : Hid (∀ s, Clo Z s → onT s t1 = onT s t ∧ onT s t1 = ⟨t1.name, onL s t1.args⟩) := fun s hs => ⟨(HC1.out s hs).1, ((HC1.out s hs).2 (by omega)).knot hs.1⟩
      cases hnm : (t1.name.toList == x.toList) with
      | true =>
        have hx : t1.name = x := bytes_inj (by simpa using hnm)
        go_wp2_with fail
        refine bodyPost_ret (v := .bool true) (by simp [results, Try.results124, go_sem]) rfl ?_
        refine ⟨true, n - 1, rfl, HS2.out, HE2.out, by omega, by omega, fun _ => rfl, fun _ s hs _ => ⟨fun _ => ?_, fun _ => rfl⟩⟩
        rw [← (HFR.out s hs).1, (HFR.out s hs).2, ← hx]
        exact occL_node.2 (Or.inl rfl)
      | false =>
        have HX : Hid (t1.name ≠ x) := fun e => by rw [e] at hnm; simp at hnm
        have HOC : Hid (∀ s, Clo Z s → (occL x [onT s t] ↔ ∃ k, ∃ h : k < t1.args.length, occL x [onT s t1.args[k]])) := fun s hs => by
          rw [← (HFR.out s hs).1, (HFR.out s hs).2, occL_node, occ_onL]
          exact ⟨fun h => h.elim (fun e => absurd e HX.out) (fun h => h.elim id fun h => absurd h occL_nil), fun h => Or.inr (Or.inl h)⟩
        have hea : errL t1.args = 0 := err_sub he1
        go_wp2_with fail
        go_loopw [36] (fun i wr => HoI w S q X Z left b1 o1 t1 x i wr) (fun i wr => t1.args.length - (intOf i).toNat)
        case atStart => exact ⟨0, n - 1, Nat.zero_le _, rfl, HP2.out, HS2.out, HE2.out, by omega, by omega, fun _ _ _ j _ h => absurd h (by omega)⟩
        case round =>
          obtain ⟨k, n2, hk, rfl, hP3, hS3, hE3, hn3, hn4, hno⟩ := hrel
          have HP3 := hide hP3
          have HS3 := hide hS3
          have HE3 := hide hE3
          have HNO := hide hno
          obtain ⟨a', c', q1, _, hsub⟩ := hP3.sub
          clear hP3 hS3 hE3 hno p0 p1
          by_cases hlk : k < t1.args.length
          · obtain ⟨b', o', rfl, hx⟩ := hsub k hlk
            have hk2 : (k : Int) < (t1.args.length : Int) := by omega
            have HIH := hide (IH.out n2.toNat (by omega) n2 t1.args[k] b' (o' + k * 2) wr rfl hn4 (by omega) HS3.out hx (err_at hea k hlk))
            have HX3 := hide hx
            clear hsub hx
            go_wp2_with fail
            refine HIH.out.mono ?_
            rintro e w5 ⟨r5, n5, rfl, hS5, hE5, hn5, hn6, hr5, hc5⟩
            have HS5 := hide hS5
            have HE5 := hide (HE3.out.trans hE5)
            have HP5 := hide (HP3.out.exq hE5 HSX.out)
            have HC5 := hide hc5
            clear hS5 hE5 hc5
            cases r5 with
            | true =>
              go_wp2_with fail
              refine bodyPost_ret (v := .bool true) (by simp [results, Try.results124, go_sem]) rfl ?_
              refine ⟨true, n5, rfl, HS5.out, HE5.out, by omega, by omega, fun _ => rfl, fun h5 s hs hu => ⟨fun _ => ?_, fun _ => rfl⟩⟩
              exact (HOC.out s hs).2 ⟨k, hlk, (HC5.out h5 s hs hu).1 (by simp)⟩
            | false =>
              have hn7 : 0 ≤ n5 := by
                by_cases h : n5 < 0
                · have := hr5 h; cases this
                · omega
              go_wp2_with fail
              go_roundw
              case rel => exact ⟨k + 1, n5, by omega, by go_num, HP5.out, HS5.out, HE5.out, by omega, hn7, fun s hs hu j h hj => by
                by_cases e : j = k
                · subst e
                  intro hoc
                  have := (HC5.out hn7 s hs hu).2 hoc
                  cases this
                · exact HNO.out s hs hu j h (by omega)⟩
              case measure => simp [intOf]; omega
          · clear hsub
            go_wp2_with fail
            refine bodyPost_ret (v := .bool false) (by simp [results, Try.results124, go_sem]) rfl ?_
            refine ⟨false, n2, rfl, HS3.out, HE3.out, by omega, by omega, fun h => absurd h (by omega), fun _ s hs hu => ⟨(fun h => absurd h (by simp)), fun h => ?_⟩⟩
            obtain ⟨j, hj, hoc⟩ := (HOC.out s hs).1 h
            exact absurd hoc (HNO.out s hs hu j hj (by omega))
#print axioms skHolds_any
end Go.Proofs.Ytpjdkdebjkpmmaj

/- Walks: a variable comes to stand for a term; how many knots there are, with what stands for variables. -/
namespace Go.Proofs.Ytpjdkdebjkpmmaj
open Go.RowKit
set_option linter.unusedSimpArgs false
set_option linter.unusedVariables false
set_option maxRecDepth 8000

/-- What is known behind a binding. -/
def BiP (w : World) (S q : Nat) (X : Nat → Prop) (Z : List Zp) (s : List Bd) (left : Int) (x : ByteArray) (u : Tm) (b o : Nat) (e : Ending) (w' : World) : Prop :=
  ∃ (code n : Int) (Z' : List Zp), e = .returned (.int .i64 code) ∧ SkS w' S q X Z' n ∧ (∀ z ∈ Z', errL [z.t] = 0) ∧ ExQ (SkQ S q) w w' ∧ n ≤ left ∧ -2 ≤ n ∧ (n < 0 → code ≠ 0) ∧
    ((u.name = x ∧ code = 0 ∧ Z' = Z) ∨ (u.name ≠ x ∧ code = 6 ∧ Z' = Z ∧ (0 ≤ n → occL x [onT s u])) ∨ (u.name ≠ x ∧ code = 0 ∧ Z' = Z ++ [⟨x, u, b, o⟩] ∧ ¬ occL x [onT s u]))

set_option maxHeartbeats 1000000 in
theorem skBind_any (S q : Nat) (X : Nat → Prop) (Z : List Zp) (s : List Bd) (hC : Clo Z s) (x : ByteArray) (hx : ∀ d ∈ s, d.nm ≠ x) (left : Int) (u : Tm) (b o : Nat) (w : World) (h0 : 0 ≤ left) (h1 : left ≤ 100000) (hS : SkS w S q X Z left) (hP : PX w X b o u) (he : errL [u] = 0) :
    Calls Try.prog 93 #[.pointer (some ⟨S, 0, none⟩), .string x, .pointer (some ⟨b, o, none⟩)] w fun e w' => BiP w S q X Z s left x u b o e w' := by
  have HS := hide hS
  have HP := hide hP
  have HC := hide hC
  have HZ := hide hC.errs
  have HX := hide hx
  obtain ⟨⟨a1, c1, p0, p1, hsl, hbl⟩, hXb⟩ := hP
  clear hS hC hsl hx
  cases hnm : (u.name.toList == x.toList) with
  | true =>
    have hn : u.name = x := bytes_inj (by simpa using hnm)
    go_enter Try.func93, Try.ntmps93
    go_wp2_with fail
    refine bodyPost_ret (v := .int .i64 0) (by simp [results, Try.results93, go_sem]) rfl ?_
    exact ⟨0, left, Z, rfl, HS.out, HZ.out, ExQ.refl _ _, Int.le_refl _, by omega, fun h => absurd h (by omega), Or.inl ⟨hn, rfl, rfl⟩⟩
  | false =>
    have HN : Hid (u.name ≠ x) := fun e => by rw [e] at hnm; simp at hnm
    go_enter Try.func93, Try.ntmps93
    go_wp2_with fail
    refine (skHolds_any S q X Z HZ.out x left.toNat left u b o w rfl h0 h1 HS.out HP.out he).mono ?_
    rintro e w1 ⟨r, n, rfl, hS1, hE1, hn1, hn2, hr1, hc1⟩
    have HS1 := hide hS1
    have HE1 := hide hE1
    have HC1 := hide hc1
    cases r with
    | true =>
      clear hS1 hE1 hc1
      go_wp2_with fail
      refine bodyPost_ret (v := .int .i64 6) (by simp [results, Try.results93, go_sem]) rfl ?_
      exact ⟨6, n, Z, rfl, HS1.out, HZ.out, HE1.out, by omega, hn2, fun _ => by decide, Or.inr (Or.inl ⟨HN.out, rfl, rfl, fun h => (HC1.out h s HC.out HX.out).1 (by simp)⟩)⟩
    | false =>
      have hn7 : 0 ≤ n := by
        by_cases h : n < 0
        · have := hr1 h; cases this
        · omega
      have HO : Hid (¬ occL x [onT s u]) := fun hoc => by
        have := (HC1.out hn7 s HC.out HX.out).2 hoc
        cases this
      have hg : mapGet (Z.map ptZ) x = none := by
        rcases mapGet_ptZ (Z := Z) (n := x) with ⟨hg, _⟩ | ⟨z, hz, e, _⟩
        · exact hg
        · exact absurd e (HC.out.fresh HX.out z hz)
      have s0 : w1.cell? ⟨S, 0, none⟩ = some (.map (some q)) := hS1.1.cell 0
      obtain ⟨w8, hrun, hM8, hz8, ho8, ht8, hu8, hk8⟩ := run_put (P := Try.prog) Try.underlying96 Try.underlying9 hS1.2.1 x (.pointer (some ⟨b, o, none⟩)) hg
      have hE8 : ExQ (SkQ S q) w1 w8 := ⟨ho8, ht8, hu8, by rw [hz8]; exact Nat.le_refl _, fun k hk hn => hk8 k (fun e => hn (Or.inr e))⟩
      have HE8 := hide (hE1.trans hE8)
      have HS8 : Hid (SkS w8 S q X (Z ++ [⟨x, u, b, o⟩]) n) := by
        refine ⟨?_, by rw [List.map_append]; exact hM8, fun z hz => ?_, hS1.2.2.2⟩
        · have h2 := hS1.1
          unfold Blk at h2 ⊢
          rw [hk8 S hS1.ne]; exact h2
        · rcases List.mem_append.1 hz with hz | hz
          · exact (hS1.2.2.1 z hz).exq hE8 hS1.X
          · have e : z = ⟨x, u, b, o⟩ := by simpa using hz
            subst e
            exact (HP.out.exq hE1 hS1.X).exq hE8 hS1.X
      have HZ8 : Hid (∀ z ∈ Z ++ [(⟨x, u, b, o⟩ : Zp)], errL [z.t] = 0) := fun z hz => by
        rcases List.mem_append.1 hz with hz | hz
        · exact HZ.out z hz
        · have e : z = ⟨x, u, b, o⟩ := by simpa using hz
          subst e; exact he
      clear hS1 hE1 hc1 hM8 hz8 ho8 ht8 hu8 hk8 hE8 hg
      go_wp2_with fail
      refine bodyPost_ret (v := .int .i64 0) (by simp [results, Try.results93, go_sem]) rfl ?_
      exact ⟨0, n, _, rfl, HS8.out, HZ8.out, HE8.out, by omega, hn2, fun h => absurd h (by omega), Or.inr (Or.inr ⟨HN.out, rfl, rfl, HO.out⟩)⟩

/-- What is known behind a count. -/
def CoP (w : World) (S q : Nat) (X : Nat → Prop) (Z : List Zp) (left : Int) (t : Tm) (before : Nat) (e : Ending) (w' : World) : Prop :=
  ∃ (c : Nat) (n : Int), e = .returned (.int .i64 (c : Int)) ∧ SkS w' S q X Z n ∧ ExQ (SkQ S q) w w' ∧ n ≤ left ∧ (-1 ≤ n ∨ n = left) ∧ before < c ∧ c ≤ 2001 ∧ (n < 0 → 2000 < c) ∧ ∀ s, Clo Z s → c ≤ 2000 → c = before + sizeL [onT s t]
def CoI (w : World) (S q : Nat) (X : Nat → Prop) (Z : List Zp) (left : Int) (b1 o1 : Nat) (t1 : Tm) (before : Nat) (cv i : Value) (wr : World) : Prop :=
  ∃ (k c : Nat) (n : Int), k ≤ t1.args.length ∧ i = .int .i64 (k : Int) ∧ cv = .int .i64 (c : Int) ∧ PX wr X b1 o1 t1 ∧ SkS wr S q X Z n ∧ ExQ (SkQ S q) w wr ∧ n ≤ left ∧ (-1 ≤ n ∨ n = left) ∧ before < c ∧ c ≤ 2001 ∧ (n < 0 → 2000 < c) ∧ ∀ s, Clo Z s → c ≤ 2000 → c = before + 1 + sizeL (onL s (t1.args.take k))

set_option maxHeartbeats 2000000 in
theorem skCount_any (S q : Nat) (X : Nat → Prop) (Z : List Zp) (hZ : ∀ z ∈ Z, errL [z.t] = 0) (m : Nat) : ∀ (before : Nat) (left : Int) (t : Tm) (b o : Nat) (w : World), 2001 - before = m → before ≤ 2000 → -100 ≤ left → left ≤ 100000 → SkS w S q X Z left → PX w X b o t → errL [t] = 0 →
    Calls Try.prog 94 #[.pointer (some ⟨S, 0, none⟩), .pointer (some ⟨b, o, none⟩), .int .i64 (before : Int)] w fun e w' => CoP w S q X Z left t before e w' := by
  induction m using Nat.strongRecOn with
  | _ m ih =>
    intro before left t b o w hm hbe h0 h1 hS hP he
    have IH := hide ih
    have HS := hide hS
    have HP := hide hP
    clear ih hS hP
    go_enter Try.func94, Try.ntmps94
    go_wp2_with fail
    refine (skLook_any S q X Z hZ left t b o w HS.out h0 h1 HP.out he).mono ?_
    rintro e w1 ⟨b1, o1, t1, n, rfl, hS1, hP1, hE1, hn1, hn2, he1, hc1⟩
    have HS1 := hide hS1
    have HP1 := hide hP1
    have HE1 := hide hE1
    have HC1 := hide hc1
    have HSX := hide hS1.X
    have s1 : w1.cell? ⟨S, 1, none⟩ = some (.int .i64 n) := hS1.1.cell 1
    obtain ⟨⟨a1, c1, p0, p1, hsl, hbl⟩, hXb⟩ := hP1
    have hl1 := hsl.1
    clear hS1 hE1 hc1 hsl
    by_cases hlt : n < 0
    · go_wp2_with fail
      refine bodyPost_ret (v := .int .i64 2001) (by simp [results, Try.results94, go_sem]) rfl ?_
      exact ⟨2001, n, rfl, HS1.out, HE1.out, hn1, hn2, by omega, by omega, fun _ => by omega, fun _ _ h => absurd h (by omega)⟩
    · have HFR : Hid (∀ s, Clo Z s → sizeL [onT s t] = 1 + sizeL (onL s t1.args)) := fun s hs => by
        rw [← (HC1.out s hs).1, ((HC1.out s hs).2 (by omega)).knot hs.1, size_sub]
      have hwrap : IntKind.i64.wrap ((before : Int) + 1) = (before : Int) + 1 := by rw [IntKind.wrap_i64]; omega
      have hea : errL t1.args = 0 := err_sub he1
      go_wp2_with fail
      go_loopw [7, 24] (fun cv i wr => CoI w S q X Z left b1 o1 t1 before cv i wr) (fun cv i wr => t1.args.length - (intOf i).toNat)
      case atStart => exact ⟨0, before + 1, n, Nat.zero_le _, rfl, by go_num, HP1.out, HS1.out, HE1.out, hn1, hn2, by omega, by omega, fun h => absurd h (by omega), fun s _ _ => by simp [onL, sizeL]⟩
      case round =>
        obtain ⟨k, c, n2, hk, rfl, rfl, hP3, hS3, hE3, hn3, hn4, hc3, hc4, hc5, hno⟩ := hrel
        have HP3 := hide hP3
        have HS3 := hide hS3
        have HE3 := hide hE3
        have HNO := hide hno
        obtain ⟨a', c', q1, _, hsub⟩ := hP3.sub
        clear hP3 hS3 hE3 hno p0 p1
        by_cases hlk : k < t1.args.length
        · have hk2 : (k : Int) < (t1.args.length : Int) := by omega
          by_cases hgt : 2000 < c
          · have hgt2 : (2000 : Int) < (c : Int) := by omega
            clear hsub
            go_wp2_with fail
            refine bodyPost_ret (v := .int .i64 (c : Int)) (by simp [results, Try.results94, go_sem]) rfl ?_
            exact ⟨c, n2, rfl, HS3.out, HE3.out, hn3, hn4, hc3, hc4, hc5, fun _ _ h => absurd h (by omega)⟩
          · have hgt2 : ¬ (2000 : Int) < (c : Int) := by omega
            obtain ⟨b', o', rfl, hx⟩ := hsub k hlk
            have HIH := hide (IH.out (2001 - c) (by omega) c n2 t1.args[k] b' (o' + k * 2) wr rfl (by omega) (by omega) (by omega) HS3.out hx (err_at hea k hlk))
            clear hsub hx
            go_wp2_with fail
            refine HIH.out.mono ?_
            rintro e w5 ⟨c5, n5, rfl, hS5, hE5, hn5, hn6, hc6, hc7, hc8, hc9⟩
            have HS5 := hide hS5
            have HE5 := hide (HE3.out.trans hE5)
            have HP5 := hide (HP3.out.exq hE5 HSX.out)
            have HC5 := hide hc9
            clear hS5 hE5 hc9
            go_wp2_with fail
            go_roundw
            case rel => exact ⟨k + 1, c5, n5, by omega, by go_num, rfl, HP5.out, HS5.out, HE5.out, by omega, by omega, by omega, hc7, hc8, fun s hs h => by
              have h6 := HNO.out s hs (by omega)
              have h7 := HC5.out s hs h
              rw [List.take_succ_eq_append_getElem hlk, onL_append, sizeL_append, onL_cons]
              simp only [onL]
              omega⟩
            case measure => simp [intOf]; omega
        · clear hsub
          go_wp2_with fail
          refine bodyPost_ret (v := .int .i64 (c : Int)) (by simp [results, Try.results94, go_sem]) rfl ?_
          refine ⟨c, n2, rfl, HS3.out, HE3.out, hn3, hn4, hc3, hc4, hc5, fun s hs h => ?_⟩
          have h6 := HNO.out s hs h
          rw [List.take_of_length_le (by omega)] at h6
          rw [HFR.out s hs]
          omega
#print axioms skBind_any
#print axioms skCount_any
end Go.Proofs.Ytpjdkdebjkpmmaj

/- Walks: an equation worked off, with nothing put in. -/
namespace Go.Proofs.Ytpjdkdebjkpmmaj
open Go.RowKit
set_option linter.unusedSimpArgs false
set_option linter.unusedVariables false
set_option maxRecDepth 8000

/-- What is known behind an equation. -/
def WkP (w : World) (S q : Nat) (X : Nat → Prop) (s : List Bd) (left : Int) (a b : Tm) (e : Ending) (w' : World) : Prop :=
  ∃ (code n : Int) (Z' : List Zp), e = .returned (.int .i64 code) ∧ SkS w' S q X Z' n ∧ (∀ z ∈ Z', errL [z.t] = 0) ∧ ExQ (SkQ S q) w w' ∧ n < left ∧ -2 ≤ n ∧ (n < 0 → code ≠ 0) ∧ (0 ≤ n → ∃ s', Clo Z' s' ∧ FR s [⟨a, b⟩] code s')
def WkI (w : World) (S q : Nat) (X : Nat → Prop) (s : List Bd) (left : Int) (b1 o1 b2 o2 : Nat) (a1 a2 : Tm) (i : Value) (wr : World) : Prop :=
  ∃ (k : Nat) (n : Int) (Z' : List Zp) (s' : List Bd), k ≤ a1.args.length ∧ i = .int .i64 (k : Int) ∧ PX wr X b1 o1 a1 ∧ PX wr X b2 o2 a2 ∧ SkS wr S q X Z' n ∧ ExQ (SkQ S q) w wr ∧ n < left ∧ 0 ≤ n ∧ Clo Z' s' ∧ FR s (zipP (a1.args.take k) (a2.args.take k)) 0 s'

set_option maxHeartbeats 4000000 in
theorem skWork_any (S q : Nat) (X : Nat → Prop) (m : Nat) : ∀ (left : Int) (Z : List Zp) (s : List Bd) (a b : Tm) (ba oa bb ob : Nat) (w : World), left.toNat = m → 0 ≤ left → left ≤ 100000 → Clo Z s → SkS w S q X Z left → PX w X ba oa a → PX w X bb ob b → errL [a] = 0 → errL [b] = 0 →
    Calls Try.prog 69 #[.pointer (some ⟨S, 0, none⟩), .pointer (some ⟨ba, oa, none⟩), .pointer (some ⟨bb, ob, none⟩)] w fun e w' => WkP w S q X s left a b e w' := by
  induction m using Nat.strongRecOn with
  | _ m ih =>
    intro left Z s a b ba oa bb ob w hm h0 h1 hC hS hPa hPb hea heb
    have IH := hide ih
    have HS := hide hS
    have HC := hide hC
    have HZ := hide hC.errs
    have HPA := hide hPa
    have HPB := hide hPb
    clear ih hS hPa hPb hC
    go_enter Try.func69, Try.ntmps69
    go_wp2_with fail
    refine (skLook_any S q X Z HZ.out left a ba oa w HS.out (by omega) h1 HPA.out hea).mono ?_
    rintro e w1 ⟨b1, o1, a1, n1, rfl, hS1, hP1, hE1, hn1, hn2, he1, hc1⟩
    have HS1 := hide hS1
    have HP1 := hide hP1
    have HE1 := hide hE1
    have HC1 := hide (hc1 s HC.out)
    have HPB1 := hide (HPB.out.exq hE1 hS1.X)
    clear hS1 hP1 hE1 hc1
    go_wp2_with fail
    refine (skLook_any S q X Z HZ.out n1 b bb ob w1 HS1.out (by omega) (by omega) HPB1.out heb).mono ?_
    rintro e w2 ⟨b2, o2, a2, n2, rfl, hS2, hP2, hE2, hn3, hn4, he2, hc2⟩
    have HC2 := hide (hc2 s HC.out)
    have hE3 : ExQ (SkQ S q) w2 (w2.setCell ⟨S, 1, none⟩ (.int .i64 (n2 - 1))) := (ExQ.refl (SkQ S q) w2).set (Or.inl rfl) 1 _
    have HE3 := hide ((HE1.out.trans hE2).trans hE3)
    have HS3 := hide (hS2.spend (n2 - 1))
    have HPA3 := hide ((HP1.out.exq hE2 hS2.X).exq hE3 hS2.X)
    have HPB3 := hide (hP2.exq hE3 hS2.X)
    have HSX := hide hS2.X
    have s1 : w2.cell? ⟨S, 1, none⟩ = some (.int .i64 n2) := hS2.1.cell 1
    have f1 : w2.frozen? ⟨S, 1, none⟩ = false := hS2.1.frozen 1
    have hwrap : IntKind.i64.wrap (n2 - 1) = n2 - 1 := by rw [IntKind.wrap_i64]; omega
    obtain ⟨⟨x1, c1, p0, p1, hsl1, hbl1⟩, hXb1⟩ := HPA3.out
    obtain ⟨⟨x2, c2, r0, r1, hsl2, hbl2⟩, hXb2⟩ := HPB3.out
    have hl1 := hsl1.1
    have hl2 := hsl2.1
    clear hS2 hP2 hE2 hc2 hE3 hsl1 hsl2
    by_cases hlt : n2 - 1 < 0
    · go_wp2_with fail
      refine bodyPost_ret (v := .int .i64 8) (by simp [results, Try.results69, go_sem]) rfl ?_
      exact ⟨8, n2 - 1, Z, rfl, HS3.out, HZ.out, HE3.out, by omega, by omega, fun _ => by decide, fun h => absurd h (by omega)⟩
    · have HF1 : Hid (Free s a1) := HC1.out.2 (by omega)
      have HF2 : Hid (Free s a2) := HC2.out.2 (by omega)
      have hs : OkS s := HC.out.1
      have HSS := hide hs
      clear hs
      cases hv1 : varB a1.name with
      | true =>
        go_wp2_with (go_at_call 55; refine (isVariable_all _ _).mono ?_; rintro e w9 ⟨rfl, rfl⟩; rw [hv1])
        refine (skBind_any S q X Z s HC.out a1.name (HF1.out.2 hv1) (n2 - 1) a2 b2 o2 _ (by omega) (by omega) HS3.out HPB3.out he2).mono ?_
        rintro e w5 ⟨code, n5, Z5, rfl, hS5, hZ5, hE5, hn5, hn6, hc5, hcs⟩
        have HS5 := hide hS5
        have HZ5 := hide hZ5
        have HE5 := hide (HE3.out.trans hE5)
        clear hS5 hZ5 hE5
        go_wp2_with fail
        refine bodyPost_ret (v := .int .i64 code) (by simp [results, Try.results69, go_sem]) rfl ?_
        refine ⟨code, n5, Z5, rfl, HS5.out, HZ5.out, HE5.out, by omega, hn6, hc5, fun h5 => ?_⟩
        rcases hcs with ⟨g1, rfl, rfl⟩ | ⟨g1, rfl, rfl, g2⟩ | ⟨g1, rfl, rfl, g2⟩
        · exact ⟨s, HC.out, fr_same HSS.out HC1.out.1 HC2.out.1 HF1.out HF2.out hv1 g1⟩
        · exact ⟨s, HC.out, fr_occurs HSS.out HC1.out.1 HC2.out.1 HF1.out HF2.out (Or.inl ⟨hv1, g1, g2 h5⟩)⟩
        · exact ⟨_, HC.out.add hv1 (HF1.out.2 hv1) he2 g2 b2 o2, fr_bind HSS.out HC1.out.1 HC2.out.1 HF1.out HF2.out (Or.inl ⟨hv1, g1, rfl, rfl⟩) g2⟩
      | false =>
        cases hv2 : varB a2.name with
        | true =>
          go_wp2_with (go_at_call 55; refine (isVariable_all _ _).mono ?_; rintro e w9 ⟨rfl, rfl⟩; first | rw [hv1] | rw [hv2])
          refine (skBind_any S q X Z s HC.out a2.name (HF2.out.2 hv2) (n2 - 1) a1 b1 o1 _ (by omega) (by omega) HS3.out HPA3.out he1).mono ?_
          rintro e w5 ⟨code, n5, Z5, rfl, hS5, hZ5, hE5, hn5, hn6, hc5, hcs⟩
          have HS5 := hide hS5
          have HZ5 := hide hZ5
          have HE5 := hide (HE3.out.trans hE5)
          clear hS5 hZ5 hE5
          go_wp2_with fail
          refine bodyPost_ret (v := .int .i64 code) (by simp [results, Try.results69, go_sem]) rfl ?_
          refine ⟨code, n5, Z5, rfl, HS5.out, HZ5.out, HE5.out, by omega, hn6, hc5, fun h5 => ?_⟩
          rcases hcs with ⟨g1, rfl, rfl⟩ | ⟨g1, rfl, rfl, g2⟩ | ⟨g1, rfl, rfl, g2⟩
          · rw [g1, hv2] at hv1; cases hv1
          · exact ⟨s, HC.out, fr_occurs HSS.out HC1.out.1 HC2.out.1 HF1.out HF2.out (Or.inr ⟨hv1, hv2, g2 h5⟩)⟩
          · exact ⟨_, HC.out.add hv2 (HF2.out.2 hv2) he1 g2 b1 o1, fr_bind HSS.out HC1.out.1 HC2.out.1 HF1.out HF2.out (Or.inr ⟨hv1, hv2, rfl, rfl⟩) g2⟩
        | false =>
          have HS0 := hide (And.intro p0 (And.intro p1 (And.intro r0 r1)))
          cases hnn : (a1.name.toList == a2.name.toList) with
          | false =>
            have hne : a1.name ≠ a2.name := fun e => by rw [e] at hnn; simp at hnn
            go_wp2_with (go_at_call 55; refine (isVariable_all _ _).mono ?_; rintro e w9 ⟨rfl, rfl⟩; first | rw [hv1] | rw [hv2])
            generalize w2.setCell ⟨S, 1, none⟩ (.int .i64 (n2 - 1)) = w3 at *
            refine wp_region_held_drew (S := (fun w' => w'.cell? ⟨b1, o1, none⟩ = some (.string a1.name) ∧ w'.cell? ⟨b1, o1 + 1, none⟩ = some (.slice x1 a1.args.length c1) ∧ w'.cell? ⟨b2, o2, none⟩ = some (.string a2.name) ∧ w'.cell? ⟨b2, o2 + 1, none⟩ = some (.slice x2 a2.args.length c2))) (by kernel_rfl) HS0.out (fun hHeld => ?_)
            refine wpAnyH_take (i := 0) (v := ?_) rfl (by kernel_rfl) (by kernel_rfl) (by kernel_rfl) (fun _ _ _ h => h) (Or.inl ⟨by rfl, ?_⟩) (by assumption) ?_
            rotate_left
            · intro w' hSw
              obtain ⟨k1, k2, k3, k4⟩ := hSw
              go_simp <;> with_reducible rfl
            try simp only [Act.put, List.setIfInBounds_toArray, List.set_cons_zero, List.set_cons_succ, List.getElem_toArray, List.getElem_cons_succ, List.getElem_cons_zero]
            refine wpAnyH_take (i := 1) (v := ?_) rfl (by kernel_rfl) (by kernel_rfl) (by kernel_rfl) (fun _ _ _ h => h) (Or.inl ⟨by rfl, ?_⟩) (by assumption) ?_
            rotate_left
            · intro w' hSw
              obtain ⟨k1, k2, k3, k4⟩ := hSw
              go_simp <;> with_reducible rfl
            try simp only [Act.put, List.setIfInBounds_toArray, List.set_cons_zero, List.set_cons_succ, List.getElem_toArray, List.getElem_cons_succ, List.getElem_cons_zero]
            refine wpAnyH_take (i := 2) (v := ?_) rfl (by kernel_rfl) (by kernel_rfl) (by kernel_rfl) (fun _ _ _ h => h) (Or.inl ⟨by rfl, ?_⟩) (by assumption) ?_
            rotate_left
            · intro w' hSw
              obtain ⟨k1, k2, k3, k4⟩ := hSw
              go_simp <;> with_reducible rfl
            try simp only [Act.put, List.setIfInBounds_toArray, List.set_cons_zero, List.set_cons_succ, List.getElem_toArray, List.getElem_cons_succ, List.getElem_cons_zero]
            refine wpAnyH_take (i := 3) (v := ?_) rfl (by kernel_rfl) (by kernel_rfl) (by kernel_rfl) (fun _ _ _ h => h) (Or.inl ⟨by rfl, ?_⟩) (by assumption) ?_
            rotate_left
            · intro w' hSw
              obtain ⟨k1, k2, k3, k4⟩ := hSw
              go_simp <;> with_reducible rfl
            try simp only [Act.put, List.setIfInBounds_toArray, List.set_cons_zero, List.set_cons_succ, List.getElem_toArray, List.getElem_cons_succ, List.getElem_cons_zero]
            refine wpAnyH_take (i := 4) (v := ?_) rfl (by kernel_rfl) (by kernel_rfl) (by kernel_rfl) (fun _ _ _ h => h) (Or.inl ⟨by rfl, ?_⟩) (by assumption) ?_
            rotate_left
            · intro w' hSw
              obtain ⟨k1, k2, k3, k4⟩ := hSw
              go_simp <;> with_reducible rfl
            try simp only [Act.put, List.setIfInBounds_toArray, List.set_cons_zero, List.set_cons_succ, List.getElem_toArray, List.getElem_cons_succ, List.getElem_cons_zero]
            refine wpAnyH_take (i := 5) (v := ?_) rfl (by kernel_rfl) (by kernel_rfl) (by kernel_rfl) (fun _ _ _ h => h) (Or.inl ⟨by rfl, ?_⟩) (by assumption) ?_
            rotate_left
            · intro w' hSw
              obtain ⟨k1, k2, k3, k4⟩ := hSw
              go_simp <;> with_reducible rfl
            try simp only [Act.put, List.setIfInBounds_toArray, List.set_cons_zero, List.set_cons_succ, List.getElem_toArray, List.getElem_cons_succ, List.getElem_cons_zero]
            refine wpAnyH_take (i := 6) (v := ?_) rfl (by kernel_rfl) (by kernel_rfl) (by kernel_rfl) (fun _ _ _ h => h) (Or.inl ⟨by rfl, ?_⟩) (by assumption) ?_
            rotate_left
            · intro w' hSw
              obtain ⟨k1, k2, k3, k4⟩ := hSw
              go_simp <;> with_reducible rfl
            try simp only [Act.put, List.setIfInBounds_toArray, List.set_cons_zero, List.set_cons_succ, List.getElem_toArray, List.getElem_cons_succ, List.getElem_cons_zero]
            refine wpAnyH_take (i := 7) (v := ?_) rfl (by kernel_rfl) (by kernel_rfl) (by kernel_rfl) (fun _ _ _ h => h) (Or.inl ⟨by rfl, ?_⟩) (by assumption) ?_
            rotate_left
            · intro w' hSw
              obtain ⟨k1, k2, k3, k4⟩ := hSw
              go_simp <;> with_reducible rfl
            try simp only [Act.put, List.setIfInBounds_toArray, List.set_cons_zero, List.set_cons_succ, List.getElem_toArray, List.getElem_cons_succ, List.getElem_cons_zero]
            refine wpAnyH_take (i := 8) (v := ?_) rfl (by kernel_rfl) (by kernel_rfl) (by kernel_rfl) (fun _ _ _ h => h) (Or.inl ⟨by rfl, ?_⟩) (by assumption) ?_
            rotate_left
            · intro w' hSw
              obtain ⟨k1, k2, k3, k4⟩ := hSw
              go_simp <;> with_reducible rfl
            try simp only [Act.put, List.setIfInBounds_toArray, List.set_cons_zero, List.set_cons_succ, List.getElem_toArray, List.getElem_cons_succ, List.getElem_cons_zero]
            refine wpAnyH_take (i := 9) (v := ?_) rfl (by kernel_rfl) (by kernel_rfl) (by kernel_rfl) (fun _ _ _ h => h) (Or.inl ⟨by rfl, ?_⟩) (by assumption) ?_
            rotate_left
            · intro w' hSw
              obtain ⟨k1, k2, k3, k4⟩ := hSw
              go_simp <;> with_reducible rfl
            try simp only [Act.put, List.setIfInBounds_toArray, List.set_cons_zero, List.set_cons_succ, List.getElem_toArray, List.getElem_cons_succ, List.getElem_cons_zero]
            refine wpAnyH_take (i := 10) (v := undef) rfl (by kernel_rfl) (by kernel_rfl) (by kernel_rfl) (fun _ _ _ h => h) (Or.inr ⟨by rfl, rfl⟩) (by assumption) ?_
            try simp only [Act.put, List.setIfInBounds_toArray, List.set_cons_zero, List.set_cons_succ, List.getElem_toArray, List.getElem_cons_succ, List.getElem_cons_zero]
            refine wpAnyH_take (i := 11) (v := undef) rfl (by kernel_rfl) (by kernel_rfl) (by kernel_rfl) (fun _ _ _ h => h) (Or.inr ⟨by rfl, rfl⟩) (by assumption) ?_
            try simp only [Act.put, List.setIfInBounds_toArray, List.set_cons_zero, List.set_cons_succ, List.getElem_toArray, List.getElem_cons_succ, List.getElem_cons_zero]
            refine wpAnyH_take (i := 12) (v := undef) rfl (by kernel_rfl) (by kernel_rfl) (by kernel_rfl) (fun _ _ _ h => h) (Or.inr ⟨by rfl, rfl⟩) (by assumption) ?_
            try simp only [Act.put, List.setIfInBounds_toArray, List.set_cons_zero, List.set_cons_succ, List.getElem_toArray, List.getElem_cons_succ, List.getElem_cons_zero]
            refine wpAnyH_take (i := 13) (v := undef) rfl (by kernel_rfl) (by kernel_rfl) (by kernel_rfl) (fun _ _ _ h => h) (Or.inr ⟨by rfl, rfl⟩) (by assumption) ?_
            try simp only [Act.put, List.setIfInBounds_toArray, List.set_cons_zero, List.set_cons_succ, List.getElem_toArray, List.getElem_cons_succ, List.getElem_cons_zero]
            refine wpAnyH_take (i := 14) (v := undef) rfl (by kernel_rfl) (by kernel_rfl) (by kernel_rfl) (fun _ _ _ h => h) (Or.inr ⟨by rfl, rfl⟩) (by assumption) ?_
            try simp only [Act.put, List.setIfInBounds_toArray, List.set_cons_zero, List.set_cons_succ, List.getElem_toArray, List.getElem_cons_succ, List.getElem_cons_zero]
            refine wpAnyH_take (i := 15) (v := undef) rfl (by kernel_rfl) (by kernel_rfl) (by kernel_rfl) (fun _ _ _ h => h) (Or.inr ⟨by rfl, rfl⟩) (by assumption) ?_
            try simp only [Act.put, List.setIfInBounds_toArray, List.set_cons_zero, List.set_cons_succ, List.getElem_toArray, List.getElem_cons_succ, List.getElem_cons_zero]
            refine wpAnyH_take (i := 16) (v := undef) rfl (by kernel_rfl) (by kernel_rfl) (by kernel_rfl) (fun _ _ _ h => h) (Or.inr ⟨by rfl, rfl⟩) (by assumption) ?_
            try simp only [Act.put, List.setIfInBounds_toArray, List.set_cons_zero, List.set_cons_succ, List.getElem_toArray, List.getElem_cons_succ, List.getElem_cons_zero]
            refine wpAnyH_take (i := 17) (v := undef) rfl (by kernel_rfl) (by kernel_rfl) (by kernel_rfl) (fun _ _ _ h => h) (Or.inr ⟨by rfl, rfl⟩) (by assumption) ?_
            try simp only [Act.put, List.setIfInBounds_toArray, List.set_cons_zero, List.set_cons_succ, List.getElem_toArray, List.getElem_cons_succ, List.getElem_cons_zero]
            refine wpAnyH_take (i := 18) (v := undef) rfl (by kernel_rfl) (by kernel_rfl) (by kernel_rfl) (fun _ _ _ h => h) (Or.inr ⟨by rfl, rfl⟩) (by assumption) ?_
            try simp only [Act.put, List.setIfInBounds_toArray, List.set_cons_zero, List.set_cons_succ, List.getElem_toArray, List.getElem_cons_succ, List.getElem_cons_zero]
            refine wpAnyH_take (i := 19) (v := undef) rfl (by kernel_rfl) (by kernel_rfl) (by kernel_rfl) (fun _ _ _ h => h) (Or.inr ⟨by rfl, rfl⟩) (by assumption) ?_
            try simp only [Act.put, List.setIfInBounds_toArray, List.set_cons_zero, List.set_cons_succ, List.getElem_toArray, List.getElem_cons_succ, List.getElem_cons_zero]
            refine wpAnyH_take (i := 20) (v := undef) rfl (by kernel_rfl) (by kernel_rfl) (by kernel_rfl) (fun _ _ _ h => h) (Or.inr ⟨by rfl, rfl⟩) (by assumption) ?_
            try simp only [Act.put, List.setIfInBounds_toArray, List.set_cons_zero, List.set_cons_succ, List.getElem_toArray, List.getElem_cons_succ, List.getElem_cons_zero]
            refine wpAnyH_take (i := 21) (v := ?_) rfl (by kernel_rfl) (by kernel_rfl) (by kernel_rfl) (fun _ _ _ h => h) (Or.inl ⟨by rfl, ?_⟩) (by assumption) ?_
            rotate_left
            · intro w' hSw
              obtain ⟨k1, k2, k3, k4⟩ := hSw
              go_simp <;> with_reducible rfl
            try simp only [Act.put, List.setIfInBounds_toArray, List.set_cons_zero, List.set_cons_succ, List.getElem_toArray, List.getElem_cons_succ, List.getElem_cons_zero]
            refine wpAnyH_take (i := 22) (v := ?_) rfl (by kernel_rfl) (by kernel_rfl) (by kernel_rfl) (fun _ _ _ h => h) (Or.inl ⟨by rfl, ?_⟩) (by assumption) ?_
            rotate_left
            · intro w' hSw
              obtain ⟨k1, k2, k3, k4⟩ := hSw
              go_simp <;> with_reducible rfl
            try simp only [Act.put, List.setIfInBounds_toArray, List.set_cons_zero, List.set_cons_succ, List.getElem_toArray, List.getElem_cons_succ, List.getElem_cons_zero]
            refine wpAnyH_done (by kernel_rfl) ?_ _
            go_wp2_with fail
            refine bodyPost_ret (v := .int .i64 5) (by simp [results, Try.results69, go_sem]) rfl ?_
            exact ⟨5, n2 - 1, Z, rfl, HS3.out.later ((Below.refl _ _).drew), HZ.out, HE3.out.drew, by omega, by omega, fun _ => by decide, fun _ => ⟨s, HC.out, fr_clash HSS.out HC1.out.1 HC2.out.1 hv1 hv2 (fun h => hne h.1)⟩⟩
          | true =>
            have hne : a1.name = a2.name := bytes_inj (by simpa using hnn)
            by_cases hm : a1.args.length = a2.args.length
            case neg =>
              have hm2 : ((a1.args.length : Int) == (a2.args.length : Int)) = false := beq_eq_false_iff_ne.2 (by omega)
              have hm3 : ((a1.args.length : Int) != (a2.args.length : Int)) = true := by simp [bne, hm2]
              have HM := hide hm
              clear hm
              go_wp2_with (go_at_call 55; refine (isVariable_all _ _).mono ?_; rintro e w9 ⟨rfl, rfl⟩; first | rw [hv1] | rw [hv2])
              generalize w2.setCell ⟨S, 1, none⟩ (.int .i64 (n2 - 1)) = w3 at *
              go_region_held3 (fun w' => w'.cell? ⟨b1, o1, none⟩ = some (.string a1.name) ∧ w'.cell? ⟨b1, o1 + 1, none⟩ = some (.slice x1 a1.args.length c1) ∧ w'.cell? ⟨b2, o2, none⟩ = some (.string a2.name) ∧ w'.cell? ⟨b2, o2 + 1, none⟩ = some (.slice x2 a2.args.length c2)) (first | exact HS0.out | go_keep) (fail)
              go_wp2_with fail
              refine bodyPost_ret (v := .int .i64 5) (by simp [results, Try.results69, go_sem]) rfl ?_
              exact ⟨5, n2 - 1, Z, rfl, HS3.out.later ((Below.refl _ _).drew), HZ.out, HE3.out.drew, by omega, by omega, fun _ => by decide, fun _ => ⟨s, HC.out, fr_clash HSS.out HC1.out.1 HC2.out.1 hv1 hv2 (fun h => HM.out h.2)⟩⟩
            case pos =>
              have HLM := hide hm
              rw [← hm] at r1 hl2 HS0
              clear hm
              go_wp2_with (go_at_call 55; refine (isVariable_all _ _).mono ?_; rintro e w9 ⟨rfl, rfl⟩; first | rw [hv1] | rw [hv2])
              generalize w2.setCell ⟨S, 1, none⟩ (.int .i64 (n2 - 1)) = w3 at *
              go_region_held3 (fun w' => w'.cell? ⟨b1, o1, none⟩ = some (.string a1.name) ∧ w'.cell? ⟨b1, o1 + 1, none⟩ = some (.slice x1 a1.args.length c1) ∧ w'.cell? ⟨b2, o2, none⟩ = some (.string a2.name) ∧ w'.cell? ⟨b2, o2 + 1, none⟩ = some (.slice x2 a1.args.length c2)) (first | exact HS0.out | go_keep) (fail)
              have HEA := hide (err_sub he1)
              have HEB := hide (err_sub he2)
              go_wp2_with fail
              go_loopw [82] (fun i wr => WkI w S q X s left b1 o1 b2 o2 a1 a2 i wr) (fun i wr => a1.args.length - (intOf i).toNat)
              case atStart => exact ⟨0, n2 - 1, Z, s, Nat.zero_le _, rfl, HPA3.out.exq ((ExQ.refl (SkQ S q) _).drew) HSX.out, HPB3.out.exq ((ExQ.refl (SkQ S q) _).drew) HSX.out, HS3.out.later ((Below.refl _ _).drew), HE3.out.drew, by omega, by omega, HC.out, by simpa [zipP] using FR.done s⟩
              case round =>
                obtain ⟨k, n3, Z3, s3, hk, rfl, hA3, hB3, hS4, hE4, hn5, hn6, hC3, hF3⟩ := hrel
                have HA4 := hide hA3
                have HB4 := hide hB3
                have HS4 := hide hS4
                have HE4 := hide hE4
                have HC4 := hide hC3
                have HF4 := hide hF3
                obtain ⟨y1, d1, q1, _, hsub1⟩ := hA3.sub
                obtain ⟨y2, d2, q2, _, hsub2⟩ := hB3.sub
                rw [← HLM.out] at q2
                have hlb1 := hA3.1.lt
                have hlb2 := hB3.1.lt
                have hXb1' := hA3.2
                have hXb2' := hB3.2
                clear hA3 hB3 hS4 hE4 hC3 hF3 p0 p1 r0 r1 HS0
                by_cases hlk : k < a1.args.length
                · have hltm : k < a2.args.length := by have := HLM.out; omega
                  have hk2 : (k : Int) < (a1.args.length : Int) := by omega
                  obtain ⟨b1', o1', rfl, hx1⟩ := hsub1 k hlk
                  obtain ⟨b2', o2', rfl, hx2⟩ := hsub2 k hltm
                  have HSq := hide (And.intro q1 q2)
                  have hD : Below wr.heap.size wr wr.drew := (Below.refl _ _).drew
                  have HIH := hide (IH.out n3.toNat (by omega) n3 Z3 s3 a1.args[k] a2.args[k] b1' (o1' + k * 2) b2' (o2' + k * 2) wr.drew rfl hn6 (by omega) HC4.out (HS4.out.later hD) (hx1.exq (ExQ.ofBelow (Q := SkQ S q) hD) HSX.out) (hx2.exq (ExQ.ofBelow (Q := SkQ S q) hD) HSX.out) (err_at HEA.out k hlk) (err_at HEB.out k hltm))
                  have HKP : Hid (∀ w5, ExQ (SkQ S q) wr.drew w5 → w5.cell? ⟨b1, o1 + 1, none⟩ = some (.slice (some ⟨b1', o1', none⟩) a1.args.length d1) ∧ w5.cell? ⟨b2, o2 + 1, none⟩ = some (.slice (some ⟨b2', o2', none⟩) a1.args.length d2)) := fun w5 h5 => ⟨(World.cell?_of_block (h5.block b1 hlb1 (HSX.out _ hXb1'))).trans HSq.out.1, (World.cell?_of_block (h5.block b2 hlb2 (HSX.out _ hXb2'))).trans HSq.out.2⟩
                  clear hsub1 hsub2 hx1 hx2 hD
                  go_wp2_with fail
                  go_region_held3 (fun w' => w'.cell? ⟨b1, o1 + 1, none⟩ = some (.slice (some ⟨b1', o1', none⟩) a1.args.length d1) ∧ w'.cell? ⟨b2, o2 + 1, none⟩ = some (.slice (some ⟨b2', o2', none⟩) a1.args.length d2)) (first | exact HSq.out | exact hS5' | go_keep)
                    ((go_at_call 69; refine HIH.out.mono ?_; rintro e w5 ⟨code, n5, Z5, rfl, hS5, hZ5, hE5, hn7, hn8, hc5, hr5⟩; have hS5' := HKP.out w5 hE5))
                  have HS5 := hide hS5
                  have HZ5 := hide hZ5
                  have HE5 := hide ((HE4.out.drew).trans hE5)
                  have HA5 := hide ((HA4.out.exq ((ExQ.refl (SkQ S q) _).drew) HSX.out).exq hE5 HSX.out)
                  have HB5 := hide ((HB4.out.exq ((ExQ.refl (SkQ S q) _).drew) HSX.out).exq hE5 HSX.out)
                  have HR5 := hide hr5
                  clear hS5 hZ5 hE5 hr5 hS5'
                  by_cases hcd : code = 0
                  · subst hcd
                    have hn9 : 0 ≤ n5 := by
                      by_cases h : n5 < 0
                      · exact absurd rfl (hc5 h)
                      · omega
                    obtain ⟨s5, hC5, hF5⟩ := HR5.out hn9
                    have HC5 := hide hC5
                    have HF5 := hide (fr_next hlk hltm HF4.out hF5)
                    clear hC5 hF5
                    go_wp2_with fail
                    go_roundw
                    case rel => exact ⟨k + 1, n5, Z5, s5, by omega, by go_num, HA5.out, HB5.out, HS5.out, HE5.out, by omega, hn9, HC5.out, HF5.out⟩
                    case measure => simp [intOf]; omega
                  · have hcd2 : (code == 0) = false := beq_eq_false_iff_ne.2 hcd
                    have hcd3 : (code != 0) = true := by simp [bne, hcd2]
                    have HCD := hide hcd
                    go_wp2_with fail
                    refine bodyPost_ret (v := .int .i64 code) (by simp [results, Try.results69, go_sem]) rfl ?_
                    refine ⟨code, n5, Z5, rfl, HS5.out, HZ5.out, HE5.out, by omega, hn8, fun _ => HCD.out, fun h5 => ?_⟩
                    obtain ⟨s5, hC5, hF5⟩ := HR5.out h5
                    exact ⟨s5, hC5, fr_deep HSS.out HC1.out.1 HC2.out.1 he1 he2 hv1 hv2 hne HLM.out (fr_fail (k + 1) HCD.out (fr_next hlk hltm HF4.out hF5))⟩
                · clear hsub1 hsub2
                  go_wp2_with fail
                  refine bodyPost_ret (v := .int .i64 0) (by simp [results, Try.results69, go_sem]) rfl ?_
                  refine ⟨0, n3, Z3, rfl, HS4.out, HC4.out.errs, HE4.out, by omega, by omega, fun h => absurd h (by omega), fun _ => ⟨s3, HC4.out, fr_deep HSS.out HC1.out.1 HC2.out.1 he1 he2 hv1 hv2 hne HLM.out ?_⟩⟩
                  have h6 := HF4.out
                  rwa [List.take_of_length_le (by omega), List.take_of_length_le (by have := HLM.out; omega)] at h6
#print axioms skWork_any
end Go.Proofs.Ytpjdkdebjkpmmaj


/- Walks: pairs of which nothing is said; whether pairs may be. -/
namespace Go.Proofs.Ytpjdkdebjkpmmaj
open Go.RowKit
set_option linter.unusedSimpArgs false
set_option linter.unusedVariables false
set_option maxRecDepth 8000

def hugeQ1 (p : Pr) : Bool := decide (3000 < sizeL [p.l]) || decide (3000 < sizeL [p.r])
def hugeQL (l : List Pr) : Bool := l.any hugeQ1
def hugeQ (ls : List Pr) : Bool := hugeQL ls || decide (100 < ls.length)
theorem hugeQL_take {l : List Pr} {k : Nat} (h : k < l.length) : hugeQL (l.take (k + 1)) = (hugeQL (l.take k) || hugeQ1 l[k]) := by
  unfold hugeQL; rw [List.take_succ_eq_append_getElem h, List.any_append]; simp
theorem hugeQL_yes {l : List Pr} {k : Nat} (h : k < l.length) (h0 : hugeQ1 l[k] = true) : hugeQ l = true := by
  have e : hugeQL l = true := by
    unfold hugeQL
    rw [List.any_eq_true]
    exact ⟨l[k], List.getElem_mem h, h0⟩
  unfold hugeQ
  rw [e]; rfl
theorem hugeQ_no {ls : List Pr} (h : hugeQ ls = false) : ls.length ≤ 100 ∧ ∀ d ∈ ls, sizeL [d.l] ≤ 3000 ∧ sizeL [d.r] ≤ 3000 := by
  unfold hugeQ hugeQL hugeQ1 at h
  simp only [Bool.or_eq_false_iff, List.any_eq_false, decide_eq_true_eq, decide_eq_false_iff_not, Bool.or_eq_true] at h
  exact ⟨by omega, fun d hd => by have := h.1 d hd; omega⟩
def HqInv (ls : List Pr) (w : World) (v : Value) (wr : World) : Prop := ∃ k : Nat, v = .int .i64 (k : Int) ∧ k ≤ ls.length ∧ hugeQL (ls.take k) = false ∧ Below w.heap.size w wr

def PmInv (ls : List Pr) (w : World) (v : Value) (wr : World) : Prop := ∃ k : Nat, v = .int .i64 (k : Int) ∧ k ≤ ls.length ∧ pmT ls k = 0 ∧ Below w.heap.size w wr

theorem twoE_fst {a b : Tm} (h : mayE a ≠ 0) : twoE a b = mayE a := by unfold twoE; rw [if_neg h]
theorem twoE_snd {a b : Tm} (h : mayE a = 0) : twoE a b = mayE b := by unfold twoE; rw [if_pos h]
set_option maxHeartbeats 1000000 in
theorem ucheck_any (ls : List Pr) (u : Value) (w : World) (X : Nat → Prop) (hu : QV w X u ls) :
    Calls Try.prog 43 #[u] w fun e w' => e = .returned (.int .i64 (pairsE ls)) ∧ Below w.heap.size w w' := by
  have HU := hide (hu.mono (Y := fun b => X b ∧ b < w.heap.size) fun b h1 h2 => ⟨h1, h2⟩)
  obtain ⟨a, c, rfl, hl, hu2⟩ := hu
  clear hu2
  go_enter Try.func43, Try.ntmps43
  by_cases h40 : 40 < ls.length
  · go_wp2_with fail
    go_ret
    exact ⟨ret_int (by unfold pairsE; rw [if_pos h40]), Below.refl _ _⟩
  · go_wp2_with fail
    go_loopw [12] (fun v wr => PmInv ls w v wr) (fun v wr => ls.length - (intOf v).toNat)
    case atStart => exact ⟨0, rfl, Nat.zero_le _, rfl, Below.refl _ _⟩
    case round =>
      obtain ⟨k, rfl, hk, hT, hb⟩ := hrel
      have HB := hide hb
      have HT := hide hT
      clear hT
      by_cases hlt : k < ls.length
      · obtain ⟨b, o, a1, c1, a2, c2, rfl, d0, d1, d2, d3, hs1, hs2⟩ := (HU.out.later hb).get k hlt
        have hlt2 : (k : Int) < (ls.length : Int) := by omega
        have hbA : Below wr.heap.size wr (wr.alloc (.cells #[.string ls[k].l.name, .slice a1 ls[k].l.args.length c1, .string ls[k].r.name, .slice a2 ls[k].r.args.length c2] 49)) := (Below.refl _ _).alloc (Nat.le_refl _) _
        have HX1 := hide (hs1.later hbA)
        have HX2 := hide (hs2.later hbA)
        have P1 := hide (Blk.new wr #[.string ls[k].l.name, .slice a1 ls[k].l.args.length c1, .string ls[k].r.name, .slice a2 ls[k].r.args.length c2] 49)
        have HB1 := hide (hb.trans (hbA.mono hb.size))
        have HY := hide (pmT_err hlt h40 HT.out)
        have HN := hide (pmT_next hlt HT.out)
        clear hs1 hs2 hb hbA
        generalize ls[k] = d at *
        go_wp2_with fail
        generalize wr.alloc (.cells #[.string d.l.name, .slice a1 d.l.args.length c1, .string d.r.name, .slice a2 d.r.args.length c2] 49) = w1 at *
        generalize wr.heap.size = P at *
        refine (check_any d.l _ _ _ ⟨a1, c1, rfl, HX1.out⟩).mono ?_
        rintro e w2 ⟨rfl, hb2⟩
        have HX3 := hide (HX2.out.later hb2)
        have HB2 := hide (HB1.out.trans (hb2.mono HB1.out.size))
        have p2 := cell_later hb2 (P1.out.cell 2)
        have p3 := cell_later hb2 (P1.out.cell 3)
        clear hb2
        by_cases hm : mayE d.l = 0
        · have HM := hide (twoE_snd (b := d.r) hm)
          rw [hm]
          clear hm
          go_wp2_with fail
          refine (check_any d.r _ _ _ ⟨a2, c2, rfl, HX3.out⟩).mono ?_
          rintro e w3 ⟨rfl, hb3⟩
          have HB3 := hide (HB2.out.trans (hb3.mono HB2.out.size))
          clear hb3
          by_cases hm : mayE d.r = 0
          · have HF : Hid (pmT ls (k + 1) = 0) := by unfold Hid; rw [HN.out, HM.out, hm]
            rw [hm]
            clear hm
            go_wp2_with fail
            go_roundw
            case rel => exact ⟨k + 1, by go_num, by omega, HF.out, HB3.out⟩
            case measure => simp [intOf]; omega
          · have hm2 : (mayE d.r == 0) = false := by simpa using hm
            have HF : Hid (pairsE ls = mayE d.r) := by unfold Hid; rw [HY.out (by rw [HM.out]; exact hm), HM.out]
            clear hm
            go_wp2_with fail
            go_ret
            exact ⟨ret_int HF.out.symm, HB3.out⟩
        · have hm2 : (mayE d.l == 0) = false := by simpa using hm
          have HF : Hid (pairsE ls = mayE d.l) := by unfold Hid; rw [HY.out (by rw [twoE_fst hm]; exact hm), twoE_fst hm]
          clear hm
          go_wp2_with fail
          go_ret
          exact ⟨ret_int HF.out.symm, HB2.out⟩
      · have hkl : k = ls.length := by omega
        go_wp2_with fail
        go_ret
        exact ⟨ret_int (by unfold pairsE; rw [if_neg h40, ← hkl]; exact HT.out.symm), HB.out⟩
#print axioms ucheck_any
end Go.Proofs.Ytpjdkdebjkpmmaj

/- Walks: is all small, with what stands for variables? And what refuses equations soon. -/
namespace Go.Proofs.Ytpjdkdebjkpmmaj
open Go.RowKit
set_option linter.unusedSimpArgs false
set_option linter.unusedVariables false
set_option maxRecDepth 8000

theorem QV.at {w : World} {X : Nat → Prop} {a : Option Addr} {n c : Nat} {l : List Pr} (h : QV w X (.slice a n c) l) (i : Nat) (hi : i < l.length) : ∃ b o, a = some ⟨b, o, none⟩ ∧ PX w X b (o + i * 4) l[i].l ∧ PX w X b (o + i * 4 + 2) l[i].r := by
  obtain ⟨a2, c2, e, hl, h⟩ := h
  simp at e
  obtain ⟨rfl, rfl, rfl⟩ := e
  rcases h with h | ⟨b, o, ea, hX, h⟩
  · subst h; simp at hi
  · obtain ⟨a1, c1, a2, c2, h1, h2, h3, h4, h5, h6⟩ := h i hi
    exact ⟨b, o, ea, ⟨⟨a1, c1, h1, h2, h5, cell_lt h1⟩, hX⟩, ⟨⟨a2, c2, h3, h4, h6, cell_lt h3⟩, hX⟩⟩
theorem QV.exq {w w' : World} {X Q : Nat → Prop} {v : Value} {l : List Pr} (h : QV w X v l) (he : ExQ Q w w') (hX : ∀ b, X b → ¬ Q b) : QV w' X v l :=
  ((h.mono (Y := fun b => X b ∧ b < w.heap.size) fun b h1 h2 => ⟨h1, h2⟩).kept fun b hb => he.block b hb.2 (hX b hb.1)).mono fun b hb _ => hb.1

def SmP (w : World) (S q : Nat) (X : Nat → Prop) (Z : List Zp) (left : Int) (ls : List Pr) (e : Ending) (w' : World) : Prop :=
  ∃ (r : Bool) (n : Int), e = .returned (.bool r) ∧ SkS w' S q X Z n ∧ ExQ (SkQ S q) w w' ∧ (left < 0 → ls ≠ [] → r = false) ∧ ∀ s, Clo Z s → r = true → ∀ p ∈ ls, sizeL [onT s p.l] ≤ 2000 ∧ sizeL [onT s p.r] ≤ 2000
def SmI (w : World) (S q : Nat) (X : Nat → Prop) (Z : List Zp) (left : Int) (ls : List Pr) (i : Value) (wr : World) : Prop :=
  ∃ (k : Nat) (n : Int), k ≤ ls.length ∧ i = .int .i64 (k : Int) ∧ SkS wr S q X Z n ∧ ExQ (SkQ S q) w wr ∧ n ≤ left ∧ -100 ≤ n ∧ (0 < k → 0 ≤ left) ∧ ∀ s, Clo Z s → ∀ j (h : j < ls.length), j < k → sizeL [onT s ls[j].l] ≤ 2000 ∧ sizeL [onT s ls[j].r] ≤ 2000

set_option maxHeartbeats 2000000 in
theorem skSmall_any (S q : Nat) (X : Nat → Prop) (Z : List Zp) (hZ : ∀ z ∈ Z, errL [z.t] = 0) (left : Int) (h0 : -100 ≤ left) (h1 : left ≤ 100000) (ls : List Pr) (hls : ∀ p ∈ ls, errL [p.l] = 0 ∧ errL [p.r] = 0) (v : Value) (w : World) (hS : SkS w S q X Z left) (hv : QV w X v ls) :
    Calls Try.prog 70 #[.pointer (some ⟨S, 0, none⟩), v] w fun e w' => SmP w S q X Z left ls e w' := by
  have HS := hide hS
  have HV := hide hv
  have HSX := hide hS.X
  have HLS := hide hls
  obtain ⟨a, c, rfl, ⟨hl1, hl2⟩, _⟩ := hv
  clear hS hls
  go_enter Try.func70, Try.ntmps70
  go_wp2_with fail
  go_loopw [8] (fun i wr => SmI w S q X Z left ls i wr) (fun i wr => ls.length - (intOf i).toNat)
  case atStart => exact ⟨0, left, Nat.zero_le _, rfl, HS.out, ExQ.refl _ _, Int.le_refl _, h0, fun h => absurd h (by omega), fun _ _ j _ h => absurd h (by omega)⟩
  case round =>
    obtain ⟨k, n, hk, rfl, hS3, hE3, hn3, hn4, hk0, hno⟩ := hrel
    have HS3 := hide hS3
    have HE3 := hide hE3
    have HNO := hide hno
    clear hS3 hE3 hno
    by_cases hlk : k < ls.length
    · obtain ⟨b, o, rfl, hpl, hpr⟩ := (HV.out.exq HE3.out HSX.out).at k hlk
      have hk2 : (k : Int) < (ls.length : Int) := by omega
      have HPL := hide hpl
      have HPR := hide hpr
      have hel := HLS.out ls[k] (List.getElem_mem hlk)
      clear hpl hpr
      go_wp2_with fail
      refine (skCount_any S q X Z hZ 2001 0 n ls[k].l b (o + k * 4) wr rfl (by omega) hn4 (by omega) HS3.out HPL.out hel.1).mono ?_
      rintro e w5 ⟨c5, n5, rfl, hS5, hE5, hn5, hn6, hc6, hc7, hc8, hc9⟩
      have HS5 := hide hS5
      have HE5 := hide (HE3.out.trans hE5)
      have HP5 := hide (HPR.out.exq hE5 HSX.out)
      have HC5 := hide hc9
      clear hS5 hE5 hc9
      by_cases hgt : 2000 < c5
      · have hgt2 : (2000 : Int) < (c5 : Int) := by omega
        go_wp2_with fail
        refine bodyPost_ret (v := .bool false) (by simp [results, Try.results70, go_sem]) rfl ?_
        exact ⟨false, n5, rfl, HS5.out, HE5.out, fun _ _ => rfl, fun _ _ h => absurd h (by simp)⟩
      · have hgt2 : ¬ (2000 : Int) < (c5 : Int) := by omega
        have hn50 : 0 ≤ n5 := by
          by_cases h : n5 < 0
          · have := hc8 h; omega
          · omega
        go_wp2_with fail
        refine (skCount_any S q X Z hZ 2001 0 n5 ls[k].r b (o + k * 4 + 2) w5 rfl (by omega) (by omega) (by omega) HS5.out HP5.out hel.2).mono ?_
        rintro e w6 ⟨c6, n6, rfl, hS6, hE6, hm5, hm6, hd6, hd7, hd8, hd9⟩
        have HS6 := hide hS6
        have HE6 := hide (HE5.out.trans hE6)
        have HC6 := hide hd9
        clear hS6 hE6 hd9
        by_cases hgu : 2000 < c6
        · have hgu2 : (2000 : Int) < (c6 : Int) := by omega
          go_wp2_with fail
          refine bodyPost_ret (v := .bool false) (by simp [results, Try.results70, go_sem]) rfl ?_
          exact ⟨false, n6, rfl, HS6.out, HE6.out, fun _ _ => rfl, fun _ _ h => absurd h (by simp)⟩
        · have hgu2 : ¬ (2000 : Int) < (c6 : Int) := by omega
          go_wp2_with fail
          go_roundw
          case rel => exact ⟨k + 1, n6, by omega, by go_num, HS6.out, HE6.out, by omega, by omega, fun _ => by omega, fun s hs j h hj => by
            by_cases e : j = k
            · subst e
              have g1 := HC5.out s hs (by omega)
              have g2 := HC6.out s hs (by omega)
              omega
            · exact HNO.out s hs j h (by omega)⟩
          case measure => simp [intOf]; omega
    · go_wp2_with fail
      refine bodyPost_ret (v := .bool true) (by simp [results, Try.results70, go_sem]) rfl ?_
      refine ⟨true, n, rfl, HS3.out, HE3.out, fun hl hne => ?_, fun s hs _ p hp => ?_⟩
      · have : 0 < ls.length := List.length_pos_iff.2 hne
        have := hk0 (by omega)
        omega
      · obtain ⟨j, hj, rfl⟩ := List.getElem_of_mem hp
        exact HNO.out s hs j hj (by omega)

/-- What is known behind a refusal. -/
def RfP (w : World) (ls : List Pr) (e : Ending) (w' : World) : Prop :=
  ∃ code : Int, e = .returned (.int .i64 code) ∧ Below w.heap.size w w' ∧ (code ≠ 0 → ∃ n sf, uRun false n [] ls = some (code, sf) ∧ grtB sf = false)
def RfI (w : World) (S q : Nat) (X : Nat → Prop) (ls : List Pr) (i : Value) (wr : World) : Prop :=
  ∃ (k : Nat) (n : Int) (Z : List Zp) (s : List Bd), k ≤ ls.length ∧ i = .int .i64 (k : Int) ∧ SkS wr S q X Z n ∧ ExQ (SkQ S q) w wr ∧ n ≤ 100000 ∧ 0 ≤ n ∧ Clo Z s ∧ FR [] (ls.take k) 0 s

set_option maxHeartbeats 2000000 in
theorem uRefusal_any (ls : List Pr) (hls : errL (flatP ls) = 0) (v : Value) (w : World) (X : Nat → Prop) (hv : QV w X v ls) :
    Calls Try.prog 44 #[v] w fun e w' => RfP w ls e w' := by
  have HV := hide (hv.mono (Y := fun b => X b ∧ b < w.heap.size) fun b h1 h2 => ⟨h1, h2⟩)
  have HLS := hide (err_flat hls)
  obtain ⟨a, c, rfl, ⟨hl1, hl2⟩, _⟩ := hv
  have hmm := @run_makeMap Try.prog
  go_enter Try.func44, Try.ntmps44
  go_wp2_with fail
  have hB2 : Below w.heap.size w ((w.alloc (.map #[] 0)).alloc (.cells #[.map (some w.heap.size), .int .i64 100000] 98)) := ((Below.refl _ _).alloc (Nat.le_refl _) _).alloc (by simp) _
  have hSB : Blk ((w.alloc (.map #[] 0)).alloc (.cells #[.map (some w.heap.size), .int .i64 100000] 98)) (w.heap.size + 1) #[.map (some w.heap.size), .int .i64 100000] 98 := by
    have h1 := Blk.new (w.alloc (.map #[] 0)) #[.map (some w.heap.size), .int .i64 100000] 98
    rw [World.size_alloc] at h1
    exact h1
  have hMA : MapAt ((w.alloc (.map #[] 0)).alloc (.cells #[.map (some w.heap.size), .int .i64 100000] 98)) w.heap.size [] := (MapAt.new w).kept (Below.heap_alloc _ _ _ (by simp))
  generalize (w.alloc (.map #[] 0)).alloc (.cells #[.map (some w.heap.size), .int .i64 100000] 98) = w2 at *
  have hS2 : SkS w2 (w.heap.size + 1) w.heap.size (fun b => X b ∧ b < w.heap.size) [] 100000 := ⟨hSB, hMA, by simp, fun b hb => ⟨by omega, by omega⟩⟩
  have HV2 := hide (HV.out.later hB2)
  have HSX := hide hS2.X
  have HS2 := hide hS2
  have HB2 := hide hB2
  have hw2 : w.heap.size ≤ w2.heap.size := hB2.size
  have HBW : Hid (∀ w', ExQ (SkQ (w.heap.size + 1) w.heap.size) w2 w' → Below w.heap.size w w') := fun w' h => HB2.out.trans (h.below hw2 (fun b hb => by rcases hb with e | e <;> omega))
  clear hS2 hB2 hSB hMA
  go_loopw [10] (fun i wr => RfI w2 (w.heap.size + 1) w.heap.size (fun b => X b ∧ b < w.heap.size) ls i wr) (fun i wr => ls.length - (intOf i).toNat)
  case atStart => exact ⟨0, 100000, [], [], Nat.zero_le _, rfl, HS2.out, ExQ.refl _ _, by omega, by omega, clo_nil, by simpa using FR.done []⟩
  case round =>
    obtain ⟨k, n, Z, s, hk, rfl, hS3, hE3, hn3, hn4, hC3, hF3⟩ := hrel
    have HS3 := hide hS3
    have HE3 := hide hE3
    have HC3 := hide hC3
    have HF3 := hide hF3
    clear hS3 hE3 hC3 hF3
    by_cases hlk : k < ls.length
    · have hVk := HV2.out.exq HE3.out HSX.out
      have HVK := hide hVk
      obtain ⟨b, o, rfl, hpl, hpr⟩ := hVk.at k hlk
      have hk2 : (k : Int) < (ls.length : Int) := by omega
      have hel := HLS.out ls[k] (List.getElem_mem hlk)
      have hD : Below wr.heap.size wr wr.drew := (Below.refl _ _).drew
      have HW := hide (skWork_any (w.heap.size + 1) w.heap.size (fun b => X b ∧ b < w.heap.size) n.toNat n Z s ls[k].l ls[k].r b (o + k * 4) b (o + k * 4 + 2) wr.drew rfl hn4 hn3 HC3.out (HS3.out.later hD) (hpl.exq (ExQ.ofBelow (Q := SkQ (w.heap.size + 1) w.heap.size) hD) HSX.out) (hpr.exq (ExQ.ofBelow (Q := SkQ (w.heap.size + 1) w.heap.size) hD) HSX.out) hel.1 hel.2)
      have HWZ : Hid (w.heap.size ≤ wr.heap.size) := Nat.le_trans hw2 HE3.out.size
      clear hpl hpr hD hVk
      go_wp2_with fail
      go_region_held3 (fun w' => w.heap.size ≤ w'.heap.size) (first | exact HWZ.out | exact hS5' | go_keep)
        ((go_at_call 69; refine HW.out.mono ?_; rintro e w5 ⟨code, n5, Z5, rfl, hS5, hZ5, hE5, hn7, hn8, hc5, hr5⟩; have hS5' : w.heap.size ≤ w5.heap.size := Nat.le_trans HWZ.out hE5.size))
      have HS5 := hide hS5
      have HZ5 := hide hZ5
      have HE5 := hide ((HE3.out.drew).trans hE5)
      have HV5 := hide ((HVK.out.exq ((ExQ.refl (SkQ (w.heap.size + 1) w.heap.size) _).drew) HSX.out).exq hE5 HSX.out)
      have HR5 := hide hr5
      clear hS5 hZ5 hE5 hr5
      by_cases hcd : code = 0
      · subst hcd
        have hn9 : 0 ≤ n5 := by
          by_cases h : n5 < 0
          · exact absurd rfl (hc5 h)
          · omega
        obtain ⟨s5, hC5, hF5⟩ := HR5.out hn9
        have HC5 := hide hC5
        have HF5 := hide (pr_next hlk HF3.out hF5)
        clear hC5 hF5
        go_wp2_with fail
        go_roundw
        case rel => exact ⟨k + 1, n5, Z5, s5, by omega, by go_num, HS5.out, HE5.out, by omega, hn9, HC5.out, HF5.out⟩
        case measure => simp [intOf]; omega
      · have hcd2 : (code == 0) = false := beq_eq_false_iff_ne.2 hcd
        have hcd3 : (code != 0) = true := by simp [bne, hcd2]
        have HCD := hide hcd
        clear hcd
        go_wp2_with fail
        refine (skSmall_any (w.heap.size + 1) w.heap.size (fun b => X b ∧ b < w.heap.size) Z5 HZ5.out n5 (by omega) (by omega) ls HLS.out _ w5 HS5.out HV5.out).mono ?_
        rintro e w6 ⟨r, n6, rfl, hS6, hE6, hlow, hsm⟩
        have HE6 := hide (HE5.out.trans hE6)
        have HSM := hide hsm
        clear hS6 hE6 hsm
        cases r with
        | true =>
          have hn9 : 0 ≤ n5 := by
            by_cases h : n5 < 0
            · have := hlow h (fun e => by rw [e] at hlk; simp at hlk)
              cases this
            · omega
          obtain ⟨s5, hC5, hF5⟩ := HR5.out hn9
          have HEN := hide (FR.ends (pr_fail (k + 1) HCD.out (pr_next hlk HF3.out hF5)) hls (HSM.out s5 hC5 rfl))
          clear hC5 hF5
          go_wp2_with fail
          refine bodyPost_ret (v := .int .i64 code) (by simp [results, Try.results44, go_sem]) rfl ?_
          obtain ⟨⟨g, hg⟩, hgr⟩ := HEN.out
          exact ⟨code, rfl, HBW.out _ HE6.out, fun _ => ⟨g, s5, hg, hgr⟩⟩
        | false =>
          go_wp2_with fail
          refine bodyPost_ret (v := .int .i64 0) (by simp [results, Try.results44, go_sem]) rfl ?_
          exact ⟨0, rfl, HBW.out _ HE6.out, fun h => absurd rfl h⟩
    · go_wp2_with fail
      refine bodyPost_ret (v := .int .i64 0) (by simp [results, Try.results44, go_sem]) rfl ?_
      exact ⟨0, rfl, HBW.out _ HE3.out, fun h => absurd rfl h⟩
theorem uRun_det {lim : Bool} : ∀ (n m : Nat) (s : List Bd) (l : List Pr) (r r' : Int × List Bd), uRun lim n s l = some r → uRun lim m s l = some r' → r = r'
  | 0, _, _, _, _, _, h, _ => by cases h
  | _ + 1, 0, _, _, _, _, _, h => by cases h
  | n + 1, m + 1, s, l, r, r', h, h' => by
    rw [uRun] at h h'
    cases hn : uNext lim s l with
    | stop e s' =>
      rw [hn] at h h'
      cases h; cases h'; rfl
    | go s' l' =>
      rw [hn] at h h'
      exact uRun_det n m s' l' r r' h h'
#print axioms uRefusal_any
end Go.Proofs.Ytpjdkdebjkpmmaj

/- A map by texts as the library's contracts on maps say it: its keys. -/
namespace Go.Proofs.Ytpjdkdebjkpmmaj
open Go.RowKit
set_option linter.unusedSimpArgs false
set_option linter.unusedVariables false
set_option maxRecDepth 8000

def rdU : Value → Option (DataW Unit × List MemPlace) := fun _ => some (.nil, [])
theorem ownsMap_of {w : World} {q : Nat} {L : List (ByteArray × Value)} (h : MapAt w q L) (hap : (L.map (·.1)).Pairwise (· ≠ ·)) (hsz : ∀ p ∈ L, p.1.size ≤ maxLen) (hl : L.length ≤ maxLen) :
    ∃ D0 : DataW Unit, w.ownsMap Try.prog 9 rdU q L.length D0 ∧ (strKeys D0).Perm (L.map (fun p => p.1.data.toList)) ∧ Go.Maps.size D0 = L.length := by
  obtain ⟨es, clk, hb, he, hst⟩ := h
  have hlen : es.toList.length = L.length := by have := congrArg List.length he; simpa using this
  have hkey : ∀ i (h1 : i < es.toList.length) (h2 : i < L.length), es.toList[i].key = .string L[i].1 := fun i h1 h2 => by
    have e1 : (es.toList.map (fun e => (e.key, e.val)))[i]? = (L.map (fun p => (Value.string p.1, p.2)))[i]? := by rw [he]
    rw [List.getElem?_map, List.getElem?_map, List.getElem?_eq_getElem h1, List.getElem?_eq_getElem h2] at e1
    simp only [Option.map_some, Option.some.injEq, Prod.mk.injEq] at e1
    exact e1.1
  have hmem : ∀ x ∈ es.toList, ∃ p ∈ L, x.key = .string p.1 := fun x hx => by
    obtain ⟨i, hi, rfl⟩ := List.getElem_of_mem hx
    have h2 : i < L.length := by omega
    exact ⟨L[i], List.getElem_mem h2, hkey i hi h2⟩
  have hrd : ∀ x ∈ es.toList, ∀ s : ByteArray, x.key = .string s → s.size ≤ maxLen → WideElems.rd Try.prog 9 rdU x = some (.string s.data.toList, .nil) := fun x hx s hs hz => by
    unfold WideElems.rd rdU
    rw [hs, Go.WideMaps.keyOf_string_mk Try.underlying9 hz]
    rfl
  have F : WideElems.Fit Try.prog 9 rdU es clk := by
    refine ⟨by rw [← Array.length_toList]; omega, (MapKept.stamped_iff es clk).2 ⟨hst.1, hst.2, ?_⟩, fun x hx => ?_⟩
    · rw [List.pairwise_iff_getElem]
      intro i j hi hj hij e
      rw [hkey i hi (by omega), hkey j hj (by omega)] at e
      rw [List.pairwise_map, List.pairwise_iff_getElem] at hap
      have := hap i j (by omega) (by omega) hij
      exact this (by simpa using e)
    · obtain ⟨p, hp, e⟩ := hmem x hx
      exact ⟨_, hrd x hx p.1 e (hsz p hp)⟩
  refine ⟨.map ((es.toList.map (WideElems.rg Try.prog 9 rdU)).foldr DataW.insert []), ⟨es, clk, hb, F, by rw [← Array.length_toList]; omega, rfl⟩, ?_, ?_⟩
  · have h1 : (strKeys (DataW.map ((es.toList.map (WideElems.rg Try.prog 9 rdU)).foldr DataW.insert []) : DataW Unit)).Perm ((es.toList.map (WideElems.rg Try.prog 9 rdU)).map fun p => strOf p.1) := (WideShapes.sorted_perm _).map _
    refine h1.trans ?_
    have h2 : (es.toList.map (WideElems.rg Try.prog 9 rdU)).map (fun p => strOf p.1) = L.map (fun p => p.1.data.toList) := by
      refine List.ext_getElem (by simp; omega) fun i h3 h4 => ?_
      simp only [List.length_map] at h3 h4
      simp only [List.getElem_map]
      unfold WideElems.rg
      rw [hrd _ (List.getElem_mem h3) L[i].1 (hkey i h3 h4) (hsz _ (List.getElem_mem h4))]
      rfl
    rw [h2]
  · rw [Maps.size_eq, Go.length_sorted]
    simpa using hlen
#print axioms ownsMap_of
end Go.Proofs.Ytpjdkdebjkpmmaj

/-
  DERIVED: THE SHELF's CONTRACTS AT THIS DUMP, IN PLAIN WORDS (tools/lay-plain.mjs out of 'TryIterS.lean', which tools/lay-shelf.mjs wrote): THE SAME DECLARATIONS UNDER THE SAME NAMES: 'import', 'namespace', 'open', 'def', 'theorem' AND NOTHING ELSE: no command of the shelf's: FOR A HAND-IN. Each laying: the table of numbers ('.._ren') and one theorem, a field a fact of the dump's own or the kernel's comparison; each contract: ONE APPLICATION.
-/
namespace Go.Proofs
open Go.Shelf
def Try.keysK_ren : Go.Shelf.Ren := ⟨fun | 7 => 100 | 10 => 128 | n => n, fun | 23 => 101 | 26 => 9 | 3 => 152 | 28 => 149 | 0 => 0 | 27 => 148 | 33 => 78 | 4 => 4 | n => n, fun | n => n⟩
theorem Try.keysK : Go.Proofs.SlLaysZ.n7 Try.prog Try.keysK_ren := {
  mixed := by kernel_rfl
  f7 := ⟨Try.f100.name, by decide, Try.func100.trans (congrArg some (by kernel_rfl))⟩
  f10 := ⟨Try.f128.name, by decide, Try.func128.trans (congrArg some (by kernel_rfl))⟩
  t0 := Try.underlying0
  a0 := Try.isAgg0
  z0 := Try.sizeOf0
  v0 := Try.zeroValue0
  t4 := Try.underlying4
  a4 := Try.isAgg4
  z4 := Try.sizeOf4
  v4 := Try.zeroValue4
  t23 := Try.underlying101
  a23 := Try.isAgg101
  z23 := Try.sizeOf101
  v23 := Try.zeroValue101
  t26 := Try.underlying9
  a26 := Try.isAgg9
  z26 := Try.sizeOf9
  v26 := Try.zeroValue9
  t27 := Try.underlying148
  a27 := Try.isAgg148
  z27 := Try.sizeOf148
  v27 := Try.zeroValue148
  t28 := Try.underlying149
  a28 := Try.isAgg149
  z28 := Try.sizeOf149
  v28 := Try.zeroValue149
  t33 := Try.underlying78
  a33 := Try.isAgg78
  z33 := Try.sizeOf78
  v33 := Try.zeroValue78 }
def Try.sortedK_ren : Go.Shelf.Ren := ⟨fun | 6 => 99 | 8 => 126 | 9 => 127 | 11 => 144 | 13 => 85 | 12 => 145 | 23 => 120 | 24 => 121 | 14 => 150 | 15 => 151 | 16 => 152 | 17 => 153 | 18 => 154 | 19 => 155 | 20 => 156 | 21 => 157 | 22 => 158 | 25 => 161 | 26 => 139 | 27 => 140 | 28 => 162 | 29 => 163 | 30 => 86 | 31 => 165 | n => n, fun | 26 => 9 | 28 => 149 | 24 => 42 | 0 => 0 | 3 => 3 | 37 => 132 | 48 => 175 | 50 => 177 | 4 => 4 | 40 => 168 | 39 => 167 | 45 => 172 | 5 => 5 | 9 => 9 | 51 => 189 | 55 => 193 | 57 => 204 | 58 => 205 | 33 => 78 | n => n, fun | n => n⟩
theorem Try.sortedK : Go.Proofs.SlLaysZ.n6 Try.prog Try.sortedK_ren := {
  mixed := by kernel_rfl
  f6 := ⟨Try.f99.name, by decide, Try.func99.trans (congrArg some (by kernel_rfl))⟩
  f8 := ⟨Try.f126.name, by decide, Try.func126.trans (congrArg some (by kernel_rfl))⟩
  f11 := ⟨Try.f144.name, by decide, Try.func144.trans (congrArg some (by kernel_rfl))⟩
  t0 := Try.underlying0
  a0 := Try.isAgg0
  z0 := Try.sizeOf0
  v0 := Try.zeroValue0
  t24 := Try.underlying42
  a24 := Try.isAgg42
  z24 := Try.sizeOf42
  v24 := Try.zeroValue42
  t26 := Try.underlying9
  a26 := Try.isAgg9
  z26 := Try.sizeOf9
  v26 := Try.zeroValue9
  t28 := Try.underlying149
  a28 := Try.isAgg149
  z28 := Try.sizeOf149
  v28 := Try.zeroValue149
  i26 := by kernel_rfl }
def Try.sortK_ren : Go.Shelf.Ren := ⟨fun | 6 => 127 | 8 => 85 | 9 => 145 | 19 => 120 | 20 => 121 | 21 => 150 | 22 => 151 | 23 => 152 | 24 => 153 | 25 => 154 | 26 => 155 | 27 => 156 | 28 => 157 | 29 => 158 | 36 => 161 | 31 => 139 | 32 => 140 | 37 => 162 | 38 => 163 | 39 => 86 | 41 => 165 | n => n, fun | 27 => 42 | 29 => 9 | 3 => 3 | 32 => 132 | 26 => 42 | 0 => 0 | 44 => 175 | 46 => 177 | 4 => 4 | 36 => 168 | 35 => 167 | 41 => 172 | 5 => 5 | 9 => 9 | 53 => 189 | 57 => 193 | 63 => 204 | 64 => 205 | n => n, fun | n => n⟩
theorem Try.sortK : Go.Proofs.SlLaysM.n6 Try.prog Try.sortK_ren := {
  mixed := by kernel_rfl
  f6 := ⟨Try.f127.name, by decide, Try.func127.trans (congrArg some (by kernel_rfl))⟩
  f8 := Try.func85.trans (congrArg some (by kernel_rfl))
  f9 := ⟨Try.f145.name, by decide, Try.func145.trans (congrArg some (by kernel_rfl))⟩
  f19 := Try.func120.trans (congrArg some (by kernel_rfl))
  f20 := Try.func121.trans (congrArg some (by kernel_rfl))
  f21 := ⟨Try.f150.name, by decide, Try.func150.trans (congrArg some (by kernel_rfl))⟩
  f22 := ⟨Try.f151.name, by decide, Try.func151.trans (congrArg some (by kernel_rfl))⟩
  f23 := ⟨Try.f152.name, by decide, Try.func152.trans (congrArg some (by kernel_rfl))⟩
  f24 := ⟨Try.f153.name, by decide, Try.func153.trans (congrArg some (by kernel_rfl))⟩
  f25 := ⟨Try.f154.name, by decide, Try.func154.trans (congrArg some (by kernel_rfl))⟩
  f26 := ⟨Try.f155.name, by decide, Try.func155.trans (congrArg some (by kernel_rfl))⟩
  f27 := ⟨Try.f156.name, by decide, Try.func156.trans (congrArg some (by kernel_rfl))⟩
  f28 := ⟨Try.f157.name, by decide, Try.func157.trans (congrArg some (by kernel_rfl))⟩
  f29 := ⟨Try.f158.name, by decide, Try.func158.trans (congrArg some (by kernel_rfl))⟩
  f31 := Try.func139.trans (congrArg some (by kernel_rfl))
  f32 := Try.func140.trans (congrArg some (by kernel_rfl))
  f36 := ⟨Try.f161.name, by decide, Try.func161.trans (congrArg some (by kernel_rfl))⟩
  f37 := ⟨Try.f162.name, by decide, Try.func162.trans (congrArg some (by kernel_rfl))⟩
  f38 := ⟨Try.f163.name, by decide, Try.func163.trans (congrArg some (by kernel_rfl))⟩
  f39 := ⟨Try.f86.name, by decide, Try.func86.trans (congrArg some (by kernel_rfl))⟩
  f41 := ⟨Try.f165.name, by decide, Try.func165.trans (congrArg some (by kernel_rfl))⟩
  t0 := Try.underlying0
  a0 := Try.isAgg0
  z0 := Try.sizeOf0
  v0 := Try.zeroValue0
  t3 := Try.underlying3
  a3 := Try.isAgg3
  z3 := Try.sizeOf3
  v3 := Try.zeroValue3
  t4 := Try.underlying4
  a4 := Try.isAgg4
  z4 := Try.sizeOf4
  v4 := Try.zeroValue4
  t5 := Try.underlying5
  a5 := Try.isAgg5
  z5 := Try.sizeOf5
  v5 := Try.zeroValue5
  t9 := Try.underlying9
  a9 := Try.isAgg9
  z9 := Try.sizeOf9
  v9 := Try.zeroValue9
  t26 := Try.underlying42
  a26 := Try.isAgg42
  z26 := Try.sizeOf42
  v26 := Try.zeroValue42
  t27 := Try.underlying42
  a27 := Try.isAgg42
  z27 := Try.sizeOf42
  v27 := Try.zeroValue42
  t29 := Try.underlying9
  a29 := Try.isAgg9
  z29 := Try.sizeOf9
  v29 := Try.zeroValue9
  t32 := Try.underlying132
  a32 := Try.isAgg132
  z32 := Try.sizeOf132
  v32 := Try.zeroValue132
  t35 := Try.underlying167
  a35 := Try.isAgg167
  z35 := Try.sizeOf167
  v35 := Try.zeroValue167
  t36 := Try.underlying168
  a36 := Try.isAgg168
  z36 := Try.sizeOf168
  v36 := Try.zeroValue168
  t41 := Try.underlying172
  a41 := Try.isAgg172
  z41 := Try.sizeOf172
  v41 := Try.zeroValue172
  t44 := Try.underlying175
  a44 := Try.isAgg175
  z44 := Try.sizeOf175
  v44 := Try.zeroValue175
  t46 := Try.underlying177
  a46 := Try.isAgg177
  z46 := Try.sizeOf177
  v46 := Try.zeroValue177
  t53 := Try.underlying189
  a53 := Try.isAgg189
  z53 := Try.sizeOf189
  v53 := Try.zeroValue189
  t57 := Try.underlying193
  a57 := Try.isAgg193
  z57 := Try.sizeOf193
  v57 := Try.zeroValue193
  t63 := Try.underlying204
  a63 := Try.isAgg204
  z63 := Try.sizeOf204
  v63 := Try.zeroValue204
  t64 := Try.underlying205
  a64 := Try.isAgg205
  z64 := Try.sizeOf205
  v64 := Try.zeroValue205 }
end Go.Proofs

/- The library's keys of a map, sorted. -/
namespace Go.Proofs.Ytpjdkdebjkpmmaj
open Go.RowKit Go.Maps Go.Sort Go.Shelf
set_option linter.unusedSimpArgs false
set_option linter.unusedVariables false
set_option maxRecDepth 8000

theorem sortsK (m : Nat) : AnyZ.SortsIn Try.prog Try.sortedK_ren Fence.wide m :=
  ⟨fun blk off cap ss W hH hblk hsz => callsIn_wide.2 (AnyM.slices_Sort_string Try.sortK blk off cap ss W hH hblk hsz),
   fun p cap W => callsIn_wide.2 (AnyM.slices_Sort_string_none Try.sortK p cap W)⟩
theorem keysK_any (mb : Option Nat) (W : World) : CallsIn Fence.wide 5 Try.prog 100 #[.map mb] W fun e w' => e = .returned (.func (.func 128) #[] #[.pointer (some ⟨W.heap.size, 0, none⟩)]) ∧ w' = W.alloc (.cells #[.map mb] 101) :=
  AnyZ.keys_in Try.keysK Fence.wide 5 trivial rfl mb W
set_option maxHeartbeats 1000000 in
theorem sortedK_any {H : Type} (b nn : Nat) (D0 : DataW H) (R : Value → Option (DataW H × List MemPlace)) (w : World) (hown : w.ownsMap Try.prog 9 R b nn D0) (hmax : Maps.size D0 ≤ maxLen) (hbytes : Maps.size D0 * 16 ≤ 140737488355328) :
    CallsIn Fence.wide 5 Try.prog 99 #[.func (.func 128) #[] #[.pointer (some ⟨w.heap.size, 0, none⟩)]] (w.alloc (.cells #[.map (some b)] 101)) fun e w' => ∃ (v : Value) (ss : List (List UInt8)), e = .returned v ∧ ss.Perm (strKeys D0) ∧
      w'.ownsRow (w.alloc (.cells #[.map (some b)] 101)).heap.size 9 1 v ss.length ((ss.mergeSort (fun x y => decide (x ≤ y))).map encStr) ∧ (v = .slice none 0 0 ↔ ss = []) ∧ Below (w.alloc (.cells #[.map (some b)] 101)).heap.size (w.alloc (.cells #[.map (some b)] 101)) w' := by
  have hbl := hown.lt
  have hseq : SeqGives Fence.wide 2 Try.prog 128 #[.pointer (some ⟨w.heap.size, 0, none⟩)] encStr (fun ss => ss.Perm (strKeys D0)) (Maps.size D0) (w.alloc (.cells #[.map (some b)] 101)) :=
    AnyZ.keys_gives (ρ := Try.keysK_ren) { Try.keysK with } Fence.wide _ trivial rfl (by omega) w.heap.size b nn D0 _ (by simp) (by simp) (by
      obtain ⟨es, clock, hb, Ft, hs, hD⟩ := hown
      exact ⟨es, clock, (Below.heap_alloc _ _ b hbl).trans hb, Ft, hs, hD⟩)
  exact AnyZ.sorted_in Try.sortedK Fence.wide 5 trivial trivial trivial trivial rfl (by omega) (sortsK _) (enters_of Try.func127 (by kernel_rfl) rfl) 128 #[.pointer (some ⟨w.heap.size, 0, none⟩)] trivial (enters_of Try.func128 (by kernel_rfl) rfl) _ _ hmax hbytes _ hseq

theorem sortedKeys : SortedKeys := by
  intro q L w hM hap hsz hlen
  refine ⟨callsIn_wide.1 (keysK_any (some q) w), ?_⟩
  obtain ⟨D0, hown, hkeys, hsize⟩ := ownsMap_of hM hap (fun p hp => by have := hsz p hp; unfold maxLen; omega) (by unfold maxLen; omega)
  refine (callsIn_wide.1 (sortedK_any q L.length D0 rdU w hown (by rw [hsize]; unfold maxLen; omega) (by rw [hsize]; omega))).mono ?_
  rintro e w' ⟨v, ss, rfl, hp, hrow, _, hb⟩
  have hzw : (w.alloc (.cells #[.map (some q)] 101)).heap.size = w.heap.size + 1 := by simp
  rw [hzw] at hrow hb
  have hms := List.mergeSort_perm ss (fun x y => decide (x ≤ y))
  have hpw : (ss.mergeSort (fun x y => decide (x ≤ y))).Pairwise (fun a b => decide (a ≤ b) = true) := List.pairwise_mergeSort (fun a b c h1 h2 => by simp at *; exact List.le_trans h1 h2) (fun a b => by simp; exact List.le_total a b) ss
  generalize ss.mergeSort (fun x y => decide (x ≤ y)) = ms at *
  refine ⟨v, ms.map (fun l => ⟨l.toArray⟩), rfl, ?_, ?_, ?_, hb⟩
  · have h1 : ms.Perm (L.map (fun p => p.1.data.toList)) := (hms.trans hp).trans hkeys
    have h2 := h1.map (fun l : List UInt8 => (⟨l.toArray⟩ : ByteArray))
    simpa [Function.comp_def] using h2
  · rw [List.pairwise_map]
    refine hpw.imp fun {a b} h => ?_
    unfold ltB
    have e1 : (⟨b.toArray⟩ : ByteArray).toList = b := by rw [ByteArray.toList_eq]
    have e2 : (⟨a.toArray⟩ : ByteArray).toList = a := by rw [ByteArray.toList_eq]
    rw [e1, e2, bytesLess_eq]
    have h2 : a ≤ b := by simpa using h
    simpa using h2
  · have h1 := LV.of_own (f := Value.string) (l := ms.map (fun l : List UInt8 => (⟨l.toArray⟩ : ByteArray))) (w := w') (N := w.heap.size + 1) (T := 9) (v := v) (by
      have h2 : ms.length = ss.length := hms.length_eq
      rw [List.length_map, h2, List.map_map]
      exact hrow)
    exact h1
#print axioms sortedKeys
end Go.Proofs.Ytpjdkdebjkpmmaj

/- Walks: what stands for a variable, as the document says. -/
namespace Go.Proofs.Ytpjdkdebjkpmmaj
open Go.RowKit
set_option linter.unusedSimpArgs false
set_option linter.unusedVariables false
set_option maxRecDepth 8000

def ForPost (w : World) (X : Nat → Prop) (l : List Bd) (n : ByteArray) (e : Ending) (w' : World) : Prop :=
  Below w.heap.size w w' ∧ ((∃ t a c, forT l n = some t ∧ e = .returned (.tuple #[.agg #[.string t.name, .slice a t.args.length c], .bool true]) ∧ Sl w' X a t.args) ∨ (forT l n = none ∧ e = .returned (.tuple #[.agg #[.string ⟨#[]⟩, .slice none 0 0], .bool false])))

def FoInv (l : List Bd) (n : ByteArray) (w0 : World) (v : Value) (wr : World) : Prop := ∃ k : Nat, k ≤ l.length ∧ v = .int .i64 (k : Int) ∧ forT (l.take k) n = none ∧ wr = w0

set_option maxHeartbeats 1000000 in
theorem for_any (l : List Bd) (n : ByteArray) (v : Value) (w : World) (X0 : Nat → Prop) (hv0 : BV w X0 v l) :
    Calls Try.prog 52 #[v, .string n] w fun e w' => ForPost w (fun b => X0 b ∧ b < w.heap.size) l n e w' := by
  have HV := hide (hv0.mono (Y := fun b => X0 b ∧ b < w.heap.size) fun b h1 h2 => ⟨h1, h2⟩)
  obtain ⟨a, c, rfl, hl, hv⟩ := hv0
  clear hv
  go_enter Try.func52, Try.ntmps52
  go_wp2_with fail
  have R0 := hide (Blk.new w #[.string ⟨#[]⟩, .slice none 0 0] 25)
  have B0 := hide ((Below.refl w.heap.size w).alloc (Nat.le_refl _) (.cells #[.string ⟨#[]⟩, .slice none 0 0] 25))
  have V0 := hide (HV.out.alloc (.cells #[.string ⟨#[]⟩, .slice none 0 0] 25))
  generalize w.alloc (.cells #[.string ⟨#[]⟩, .slice none 0 0] 25) = w0 at *
  go_loopw [6] (fun v wr => FoInv l n w0 v wr) (fun v wr => l.length - (intOf v).toNat)
  case atStart => exact ⟨0, Nat.zero_le _, rfl, rfl, rfl⟩
  case round =>
    obtain ⟨k, hk, rfl, hno, rfl⟩ := hrel
    have HNO := hide hno
    clear hno
    have r0 : wr.cell? ⟨w.heap.size, 0, none⟩ = some (.string ⟨#[]⟩) := R0.out.cell 0
    have r1 : wr.cell? ⟨w.heap.size, 1, none⟩ = some (.slice none 0 0) := R0.out.cell 1
    have rf := R0.out.frozen
    by_cases hlt : k < l.length
    · obtain ⟨b, o, a', c', rfl, d0, d1, d2, hs⟩ := V0.out.get k hlt
      have hlt2 : (k : Int) < (l.length : Int) := by omega
      have HT := hide (forT_take hlt HNO.out)
      have HS := hide hs
      clear hs
      generalize l[k] = d at *
      by_cases he : d.nm = n
      · have heq := bytes_yes he
        have HF := hide (HT.out.1 he)
        clear he
        go_wp2_with fail
        refine bodyPost_ret (v := .tuple #[.agg #[.string d.t.name, .slice a' d.t.args.length c'], .bool true]) (by simp [results, Try.results52, go_sem, World.cell?_setCell_same, World.cell?_setCell_other, r0, r1]) rfl ?_
        refine ⟨(B0.out.setCell (by simp) _).setCell (by simp) _, Or.inl ⟨d.t, a', c', HF.out, rfl, HS.out.kept fun b hb => ?_⟩⟩
        rw [Below.heap_setCell _ _ _ _ (by simp; omega), Below.heap_setCell _ _ _ _ (by simp; omega)]
      · have heq := bytes_no he
        have HF := hide (HT.out.2 he)
        clear he
        go_wp2_with fail
        go_roundw
        case rel => exact ⟨k + 1, by omega, by go_num, HF.out, by trivial⟩
        case measure => simp [intOf]; omega
    · have htk : l.take k = l := List.take_of_length_le (by omega)
      have HF := hide HNO.out
      rw [htk] at HF
      clear htk
      go_wp2_with fail
      refine bodyPost_ret (v := .tuple #[.agg #[.string ⟨#[]⟩, .slice none 0 0], .bool false]) (by simp [results, Try.results52, go_sem, World.cell?_setCell_same, World.cell?_setCell_other, r0, r1]) rfl ?_
      exact ⟨(B0.out.setCell (by simp) _).setCell (by simp) _, Or.inr ⟨HF.out, rfl⟩⟩
#print axioms for_any
end Go.Proofs.Ytpjdkdebjkpmmaj

/- Walks: how great a term would be with bindings in it. -/
namespace Go.Proofs.Ytpjdkdebjkpmmaj
open Go.RowKit
set_option linter.unusedSimpArgs false
set_option linter.unusedVariables false
set_option maxRecDepth 8000

def GwInv (w0 : World) (M : Nat) (ls : List Bd) (l : List Tm) (most : Int) (n i : Value) (wr : World) : Prop := ∃ k : Nat, k ≤ l.length ∧ i = .int .i64 k ∧ n = .int .i64 (min (1 + sizeL (onL ls (l.take k))) (most + 1)) ∧ Below M w0 wr

set_option maxHeartbeats 1000000 in
theorem grown_any (ls : List Bd) (t : Tm) : ∀ (u v : Value) (most : Int) (w : World) (X : Nat → Prop), BV w X u ls → TV w X v t → 0 ≤ most → most ≤ 1000000 →
    Calls Try.prog 28 #[u, v, .int .i64 most] w fun e w' => e = .returned (.int .i64 (min (sizeL [onT ls t]) (most + 1))) ∧ Below w.heap.size w w' := by
  induction t using Tm.ind with
  | h s l ih =>
    intro u v most w X hu hv hm0 hm1
    obtain ⟨a, c, rfl, hs⟩ := hv
    have IH := hide ih
    have HU := hide hu
    have HS := hide hs
    have hl := hs.1
    clear ih hu hs
    go_enter Try.func28, Try.ntmps28
    go_wp2_with fail
    refine (for_any ls s u _ X (by exact HU.out.alloc _)).mono ?_
    rintro e w1 ⟨hb1, hcase⟩
    have T1 := hide ((Blk.new w #[.string s, .slice a l.length c] 25).below hb1 (by simp))
    have B1 := hide (((Below.refl w.heap.size w).alloc (Nat.le_refl _) (.cells #[.string s, .slice a l.length c] 25)).trans (hb1.mono (by simp)))
    have hlt1 : w.heap.size < w1.heap.size := T1.out.lt
    clear hb1
    have t0 : ∀ o, (w1.alloc o).cell? ⟨w.heap.size, 0, none⟩ = some (.string s) := fun o => (T1.out.alloc o).cell 0
    have t1 : ∀ o, (w1.alloc o).cell? ⟨w.heap.size, 1, none⟩ = some (.slice a l.length c) := fun o => (T1.out.alloc o).cell 1
    rcases hcase with ⟨x, ax, cx, hf, rfl, hsx⟩ | ⟨hf, rfl⟩
    · by_cases hl0 : l = []
      · subst hl0
        have HF := hide (onT_some hf)
        have SX := hide hsx
        clear hf hsx
        go_wp2_with fail
        refine (size_any x _ most _ _ ⟨ax, cx, rfl, SX.out.later ((Below.refl w1.heap.size w1).alloc (Nat.le_refl _) _)⟩ hm0 hm1).mono ?_
        rintro e w3 ⟨rfl, hb3⟩
        go_wp2_with fail
        go_ret
        exact ⟨ret_int (by rw [HF.out]), (B1.out.alloc B1.out.size _).trans (hb3.mono (by have := B1.out.size; simp; omega))⟩
      · have HD := hide (onT_deep (l := ls) (s := s) (Or.inl hl0))
        have hlp : ((l.length : Int) == 0) = false := beq_eq_false_iff_ne.2 (by have := List.length_pos_iff.2 hl0; omega)
        clear hf hsx
        go_wp2_with fail
        have T2 := hide (T1.out.alloc (.cells #[.string x.name, .slice ax x.args.length cx] 25))
        have B2 := hide (B1.out.alloc B1.out.size (.cells #[.string x.name, .slice ax x.args.length cx] 25))
        generalize w1.alloc (.cells #[.string x.name, .slice ax x.args.length cx] 25) = w2 at *
        clear t0 t1
        go_loopw [9, 10] (fun n i wr => GwInv w2 w2.heap.size ls l most n i wr) (fun n i wr => l.length - (intOf i).toNat)
        case atStart => exact ⟨0, Nat.zero_le _, rfl, by simp [onL, sizeL]; omega, Below.refl _ _⟩
        case round =>
          obtain ⟨k, hk, rfl, rfl, hb⟩ := hrel
          have c0 : wr.cell? ⟨w.heap.size, 0, none⟩ = some (.string s) := (T2.out.below hb T2.out.lt).cell 0
          have c1 : wr.cell? ⟨w.heap.size, 1, none⟩ = some (.slice a l.length c) := (T2.out.below hb T2.out.lt).cell 1
          have hn : 0 ≤ ((1 : Int) + sizeL (onL ls (l.take k))) := by omega
          have BW := hide (B2.out.trans (hb.mono B2.out.size))
          have HB := hide hb
          by_cases hlt : k < l.length
          · obtain ⟨b, o, a', c', rfl, d0, d1, hx⟩ := HS.out.get BW.out (fun _ _ h => h) k hlt
            by_cases hle : 1 + (sizeL (onL ls (l.take k)) : Int) ≤ most
            · have hmin : min (1 + (sizeL (onL ls (l.take k)) : Int)) (most + 1) = 1 + (sizeL (onL ls (l.take k)) : Int) := by omega
              rw [hmin]
              go_wp2_with fail
              refine (IH.out _ (List.getElem_mem hlt) _ _ _ _ X (HU.out.later BW.out) hx (by omega) (by omega)).mono ?_
              rintro e w3 ⟨rfl, hb3⟩
              have Hst := hide (onL_size_take ls l k hlt)
              have hm2 : 0 ≤ min ((sizeL [onT ls l[k]] : Int)) (most - (1 + (sizeL (onL ls (l.take k)) : Int)) + 1) := by omega
              have hm3 : min ((sizeL [onT ls l[k]] : Int)) (most - (1 + (sizeL (onL ls (l.take k)) : Int)) + 1) ≤ 1000001 := by omega
              go_wp2_with fail
              go_roundw
              case rel => exact ⟨k + 1, by omega, by go_num, by rw [Hst.out]; congr 1; omega, hb.trans (hb3.mono hb.size)⟩
              case measure => simp [intOf]; omega
            · have hmin : min (1 + (sizeL (onL ls (l.take k)) : Int)) (most + 1) = most + 1 := by omega
              rw [hmin]
              have hz : (sizeL [(⟨s, onL ls l⟩ : Tm)] : Int) = 1 + sizeL (onL ls l) := by simp [sizeL]
              have hle2 := onL_size_le ls l k
              have HF := hide (show (most + 1 : Int) = min (sizeL [(⟨s, onL ls l⟩ : Tm)] : Int) (most + 1) by omega)
              clear hz
              go_wp2_with fail
              go_ret
              exact ⟨ret_int (by rw [HD.out]; exact HF.out), BW.out⟩
          · have htk : l.take k = l := List.take_of_length_le (by omega)
            rw [htk]
            have hz : (sizeL [(⟨s, onL ls l⟩ : Tm)] : Int) = 1 + sizeL (onL ls l) := by simp [sizeL]
            have HZ := hide hz
            clear hz
            go_wp2_with fail
            all_goals (go_ret; exact ⟨ret_int (by rw [HD.out]; have := HZ.out; omega), BW.out⟩)
    · have HD : Hid (onT ls ⟨s, l⟩ = ⟨s, onL ls l⟩) := onT_deep (Or.inr hf)
      clear hf
      go_wp2_with fail
      have T2 := hide (T1.out.alloc (.cells #[.string ⟨#[]⟩, .slice none 0 0] 25))
      have B2 := hide (B1.out.alloc B1.out.size (.cells #[.string ⟨#[]⟩, .slice none 0 0] 25))
      generalize w1.alloc (.cells #[.string ⟨#[]⟩, .slice none 0 0] 25) = w2 at *
      clear t0 t1
      go_loopw [9, 10] (fun n i wr => GwInv w2 w2.heap.size ls l most n i wr) (fun n i wr => l.length - (intOf i).toNat)
      case atStart => exact ⟨0, Nat.zero_le _, rfl, by simp [onL, sizeL]; omega, Below.refl _ _⟩
      case round =>
        obtain ⟨k, hk, rfl, rfl, hb⟩ := hrel
        have c0 : wr.cell? ⟨w.heap.size, 0, none⟩ = some (.string s) := (T2.out.below hb T2.out.lt).cell 0
        have c1 : wr.cell? ⟨w.heap.size, 1, none⟩ = some (.slice a l.length c) := (T2.out.below hb T2.out.lt).cell 1
        have hn : 0 ≤ ((1 : Int) + sizeL (onL ls (l.take k))) := by omega
        have BW := hide (B2.out.trans (hb.mono B2.out.size))
        have HB := hide hb
        by_cases hlt : k < l.length
        · obtain ⟨b, o, a', c', rfl, d0, d1, hx⟩ := HS.out.get BW.out (fun _ _ h => h) k hlt
          by_cases hle : 1 + (sizeL (onL ls (l.take k)) : Int) ≤ most
          · have hmin : min (1 + (sizeL (onL ls (l.take k)) : Int)) (most + 1) = 1 + (sizeL (onL ls (l.take k)) : Int) := by omega
            rw [hmin]
            go_wp2_with fail
            refine (IH.out _ (List.getElem_mem hlt) _ _ _ _ X (HU.out.later BW.out) hx (by omega) (by omega)).mono ?_
            rintro e w3 ⟨rfl, hb3⟩
            have Hst := hide (onL_size_take ls l k hlt)
            have hm2 : 0 ≤ min ((sizeL [onT ls l[k]] : Int)) (most - (1 + (sizeL (onL ls (l.take k)) : Int)) + 1) := by omega
            have hm3 : min ((sizeL [onT ls l[k]] : Int)) (most - (1 + (sizeL (onL ls (l.take k)) : Int)) + 1) ≤ 1000001 := by omega
            go_wp2_with fail
            go_roundw
            case rel => exact ⟨k + 1, by omega, by go_num, by rw [Hst.out]; congr 1; omega, hb.trans (hb3.mono hb.size)⟩
            case measure => simp [intOf]; omega
          · have hmin : min (1 + (sizeL (onL ls (l.take k)) : Int)) (most + 1) = most + 1 := by omega
            rw [hmin]
            have hz : (sizeL [(⟨s, onL ls l⟩ : Tm)] : Int) = 1 + sizeL (onL ls l) := by simp [sizeL]
            have hle2 := onL_size_le ls l k
            have HF := hide (show (most + 1 : Int) = min (sizeL [(⟨s, onL ls l⟩ : Tm)] : Int) (most + 1) by omega)
            clear hz
            go_wp2_with fail
            go_ret
            exact ⟨ret_int (by rw [HD.out]; exact HF.out), BW.out⟩
        · have htk : l.take k = l := List.take_of_length_le (by omega)
          rw [htk]
          have hz : (sizeL [(⟨s, onL ls l⟩ : Tm)] : Int) = 1 + sizeL (onL ls l) := by simp [sizeL]
          have HZ := hide hz
          clear hz
          go_wp2_with fail
          all_goals (go_ret; exact ⟨ret_int (by rw [HD.out]; have := HZ.out; omega), BW.out⟩)
#print axioms grown_any
end Go.Proofs.Ytpjdkdebjkpmmaj

/- Walks: a term with bindings in it, as the document says. -/
namespace Go.Proofs.Ytpjdkdebjkpmmaj
open Go.RowKit
set_option linter.unusedSimpArgs false
set_option linter.unusedVariables false
set_option maxRecDepth 8000

def OnPost (w : World) (X : Nat → Prop) (t : Tm) (e : Ending) (w' : World) : Prop :=
  ∃ a c, e = .returned (.agg #[.string t.name, .slice a t.args.length c]) ∧ Sl w' (fun b => (X b ∧ b < w.heap.size) ∨ w.heap.size ≤ b) a t.args ∧ Below w.heap.size w w'

/-- What is held while a knot's next term is made. -/
def OnS (w : World) (b o : Nat) (s : ByteArray) (a : Option Addr) (n c : Nat) (s1 : ByteArray) (v1 : Value) (w' : World) : Prop :=
  Blk w' w.heap.size #[.string s, .slice a n c] 25 ∧ w'.cell? ⟨b, o, none⟩ = some (.string s1) ∧ w'.cell? ⟨b, o + 1, none⟩ = some v1
theorem cell_same {w w' : World} {b i : Nat} {v : Value} (hb : w'.heap[b]? = w.heap[b]?) (h : w.cell? ⟨b, i, none⟩ = some v) : w'.cell? ⟨b, i, none⟩ = some v := by simpa [World.cell?, hb] using h
theorem OnS.below {w wr w1 : World} {b o n c : Nat} {s s1 : ByteArray} {a : Option Addr} {v1 : Value} (h : OnS w b o s a n c s1 v1 wr) (hb : Below wr.heap.size wr w1) (hlt : w.heap.size < wr.heap.size ∧ b < wr.heap.size) : OnS w b o s a n c s1 v1 w1 :=
  ⟨h.1.below hb hlt.1, cell_same (hb.block b hlt.2) h.2.1, cell_same (hb.block b hlt.2) h.2.2⟩
theorem OnS.alloc {w wr : World} {b o n c : Nat} {s s1 : ByteArray} {a : Option Addr} {v1 : Value} (h : OnS w b o s a n c s1 v1 wr) (x : Obj) : OnS w b o s a n c s1 v1 (wr.alloc x) :=
  ⟨h.1.alloc x, cell_same (Below.heap_alloc _ _ _ (cell_lt h.2.1)) h.2.1, cell_same (Below.heap_alloc _ _ _ (cell_lt h.2.1)) h.2.2⟩
theorem OnS.grown {w wr w3 : World} {b o n c : Nat} {s s1 : ByteArray} {a : Option Addr} {v1 : Value} {row : Option Nat} (h : OnS w b o s a n c s1 v1 wr) (hg : wr.grownBy w3 row) (hne : ∀ j, j ≤ w.heap.size → some j ≠ row) (hb : b < w.heap.size) (_ : True) : OnS w b o s a n c s1 v1 w3 :=
  ⟨h.1.grown hg (hne _ (Nat.le_refl _)), cell_same (hg.block b (cell_lt h.2.1) (hne b (by omega))) h.2.1, cell_same (hg.block b (cell_lt h.2.1) (hne b (by omega))) h.2.2⟩
theorem OnS.set {w wr : World} {b o n c : Nat} {s s1 : ByteArray} {a : Option Addr} {v1 : Value} {O i : Nat} (h : OnS w b o s a n c s1 v1 wr) (v : Value) (_ : True) (hO : w.heap.size ≠ O) (hb : b ≠ O) : OnS w b o s a n c s1 v1 (wr.setCell ⟨O, i, none⟩ v) :=
  ⟨h.1.setOther _ _ hO, cell_same (Below.heap_setCell _ _ _ _ (by simpa using hb)) h.2.1, cell_same (Below.heap_setCell _ _ _ _ (by simpa using hb)) h.2.2⟩
theorem hxb {w : World} {X : Nat → Prop} {b o : Nat} {l : List Tm} (h : Sl w X (some ⟨b, o, none⟩) l) (hl : 0 < l.length) : b < w.heap.size := by
  obtain ⟨_, h⟩ := h
  rcases h with rfl | ⟨b', o', e, h⟩
  · simp at hl
  · simp at e
    obtain ⟨rfl, rfl⟩ := e
    exact cell_lt (lies_get l b o h 0 hl).2.1

/-- What is laid ahead of the rounds. -/
def OnSet (w : World) (Y : Nat → Prop) (O : Nat) (s : ByteArray) (a : Option Addr) (n c : Nat) (u : Value) (L : List Tm) (wr : World) : Prop :=
  ∃ xs, Row wr (O + 1) 25 Y u L xs ∧ Below w.heap.size w wr ∧ Blk wr w.heap.size #[.string s, .slice a n c] 25 ∧ Blk wr (w.heap.size + 1) #[.string ⟨#[]⟩, .slice none 0 0] 25 ∧ Blk wr O #[.string s, u] 25 ∧ O < wr.heap.size
def OnInv (w : World) (Y : Nat → Prop) (O : Nat) (s : ByteArray) (a : Option Addr) (c : Nat) (ls : List Bd) (l : List Tm) (i : Value) (wr : World) : Prop :=
  ∃ (k : Nat) (u : Value), k ≤ l.length ∧ i = .int .i64 (k : Int) ∧ OnSet w Y O s a l.length c u (onL ls (l.take k)) wr

theorem on_step {w wr w1 w3 : World} {Y : Nat → Prop} {O n c : Nat} {u : Value} {L : List Tm} {xs : List Value} {o2 : Obj} {s s' : ByteArray} {a a1 : Option Addr} {n1 c1 g cap : Nat} {t : Tm} (hO : w.heap.size + 2 ≤ O) (hY : ∀ b, Y b → b < w.heap.size)
    (hrow : Row wr (O + 1) 25 Y u L xs) (hx : Below w.heap.size w wr) (hT : Blk wr w.heap.size #[.string s, .slice a n c] 25) (hR : Blk wr (w.heap.size + 1) #[.string ⟨#[]⟩, .slice none 0 0] 25) (hOb : Blk wr O #[.string s, u] 25)
    (he1 : Below wr.heap.size wr w1) (ht : TV w1 (fun b => Y b ∨ wr.heap.size ≤ b) (.agg #[.string s', .slice a1 n1 c1]) t)
    (hown : w3.ownsRow (O + 1) 25 2 (.slice (some ⟨g, 0, none⟩) (L.length + 1) cap) (L.length + 1) (xs ++ [.string s', .slice a1 n1 c1])) (hg : (w1.alloc o2).grownBy w3 u.ownBlock) (hat : u.ownBlock = some g ∨ g = (w1.alloc o2).heap.size) :
    OnSet w Y O s a n c (.slice (some ⟨g, 0, none⟩) (L.length + 1) cap) (L ++ [t]) (w3.setCell ⟨O, 1, none⟩ (.slice (some ⟨g, 0, none⟩) (L.length + 1) cap)) := by
  have hlt' := hrow.own.lt
  have hOl := hOb.lt
  have hp := hrow.push (w1 := w1) (w2 := w1.alloc o2) (w3 := w3) (by omega) (fun b h => by have := hY b h; omega) he1 ht o2 rfl hown hg hat
  have hne : ∀ b, b < O + 1 → some b ≠ u.ownBlock := fun b hb e => by have := (hlt' b e.symm).1; omega
  have hs1 := he1.size
  have hsx := hx.size
  have hx3 : Below w.heap.size w w3 := ((hx.trans (he1.mono (by omega))).alloc (by omega) o2).grown hg (by simp; omega) (fun k hk => by have := (hlt' k hk).1; omega)
  have hs3 := hg.size
  simp at hs3
  refine ⟨_, hp.setCell (by omega) (fun h => by have := hY _ h; omega) _, hx3.setCell (p := ⟨O, 1, none⟩) (by simp; omega) _, ?_, ?_, ?_, by simp [World.setCell]; omega⟩
  · exact (((hT.below he1 (by omega)).alloc o2).grown hg (hne _ (by omega))).setOther _ _ (by omega)
  · exact (((hR.below he1 (by omega)).alloc o2).grown hg (hne _ (by omega))).setOther _ _ (by omega)
  · exact (((hOb.below he1 (by omega)).alloc o2).grown hg (hne _ (by omega))).set 1 _

set_option maxHeartbeats 2000000 in
theorem on_any (ls : List Bd) (t : Tm) : ∀ (u v : Value) (w : World) (X : Nat → Prop), BV w X u ls → TV w X v t → sizeL [t] ≤ 1000000 →
    Calls Try.prog 29 #[u, v] w fun e w' => OnPost w X (onT ls t) e w' := by
  induction t using Tm.ind with
  | h s l ih =>
    intro u v w X hu hv hsm
    obtain ⟨a, c, rfl, hs⟩ := hv
    have IH := hide ih
    have HU := hide hu
    have HS := hide hs
    have hl := hs.1
    have hz : sizeL [(⟨s, l⟩ : Tm)] = 1 + sizeL l := by simp [sizeL]
    rw [hz] at hsm
    have hlen := sizeL_len l
    clear ih hu hs hz
    obtain ⟨i0, hi0, hz0, hz1, hz2⟩ := info_parts Try.infoTerm
    go_enter Try.func29, Try.ntmps29
    go_wp2_with fail
    refine (for_any ls s u _ (fun b => X b ∧ b < w.heap.size) (by exact ((HU.out.mono fun b h1 h2 => ⟨h1, h2⟩).alloc _).alloc _)).mono ?_
    rintro e w1 ⟨hb1, hcase⟩
    have T1 := hide (((Blk.new w #[.string s, .slice a l.length c] 25).alloc (.cells #[.string ⟨#[]⟩, .slice none 0 0] 25)).below hb1 (by simp; omega))
    have R1 : Hid (Blk w1 (w.heap.size + 1) #[.string ⟨#[]⟩, .slice none 0 0] 25) := by
      have h := (Blk.new (w.alloc (.cells #[.string s, .slice a l.length c] 25)) #[.string ⟨#[]⟩, .slice none 0 0] 25).below hb1 (by simp)
      unfold Hid
      simpa using h
    have B1 := hide ((((Below.refl w.heap.size w).alloc (Nat.le_refl _) (.cells #[.string s, .slice a l.length c] 25)).alloc (by simp) (.cells #[.string ⟨#[]⟩, .slice none 0 0] 25)).trans (hb1.mono (by simp; omega)))
    have hlt1 : w.heap.size < w1.heap.size := T1.out.lt
    have hlt1' : w.heap.size + 1 < w1.heap.size := R1.out.lt
    clear hb1
    have t0 : ∀ o, (w1.alloc o).cell? ⟨w.heap.size, 0, none⟩ = some (.string s) := fun o => (T1.out.alloc o).cell 0
    have t1 : ∀ o, (w1.alloc o).cell? ⟨w.heap.size, 1, none⟩ = some (.slice a l.length c) := fun o => (T1.out.alloc o).cell 1
    rcases hcase with ⟨x, ax, cx, hf, rfl, hsx⟩ | ⟨hf, rfl⟩
    · by_cases hl0 : l = []
      · subst hl0
        have HF := hide (onT_some hf)
        have SX := hide hsx
        clear hf hsx
        have r0 : w1.cell? ⟨w.heap.size + 1, 0, none⟩ = some (.string ⟨#[]⟩) := R1.out.cell 0
        have r1 : w1.cell? ⟨w.heap.size + 1, 1, none⟩ = some (.slice none 0 0) := R1.out.cell 1
        have rf := R1.out.frozen
        go_wp2_with fail
        refine bodyPost_ret (v := .agg #[.string x.name, .slice ax x.args.length cx]) (by simp [results, Try.results29, go_sem, World.cell?_setCell_same, World.cell?_setCell_other, r0, r1, hlt1', World.cell?_alloc_old]) rfl ?_
        rw [HF.out]
        refine ⟨ax, cx, rfl, ?_, ((B1.out.setCell (by simp) _).setCell (by simp) _).alloc (by have := B1.out.size; simpa [World.setCell] using this) _⟩
        refine ((SX.out.mono (Y := fun b => X b ∧ b < w.heap.size) fun b h1 _ => h1.1).kept fun b hb => ?_).mono fun b hb _ => Or.inl hb
        rw [Below.heap_alloc _ _ _ (by simp [World.setCell]; omega), Below.heap_setCell _ _ _ _ (by simp; omega), Below.heap_setCell _ _ _ _ (by simp; omega)]
      · have HD : Hid (onT ls ⟨s, l⟩ = ⟨s, onL ls l⟩) := onT_deep (Or.inl hl0)
        have hlp : ((l.length : Int) == 0) = false := beq_eq_false_iff_ne.2 (by have := List.length_pos_iff.2 hl0; omega)
        clear hf hsx
        go_wp2_with fail
        have T3 := hide ((T1.out.alloc (.cells #[.string x.name, .slice ax x.args.length cx] 25)).alloc (.cells #[.string s, .slice none 0 0] 25))
        have R3 := hide ((R1.out.alloc (.cells #[.string x.name, .slice ax x.args.length cx] 25)).alloc (.cells #[.string s, .slice none 0 0] 25))
        have O3 := hide (Blk.new (w1.alloc (.cells #[.string x.name, .slice ax x.args.length cx] 25)) #[.string s, .slice none 0 0] 25)
        have B3 := hide ((B1.out.alloc B1.out.size (.cells #[.string x.name, .slice ax x.args.length cx] 25)).alloc (by have := B1.out.size; simp; omega) (.cells #[.string s, .slice none 0 0] 25))
        have HO3 := hide (O3.out.lt)
        have hO : w.heap.size + 2 ≤ (w1.alloc (.cells #[.string x.name, .slice ax x.args.length cx] 25)).heap.size := by have := R1.out.lt; simp; omega
        have eO : (w1.alloc (.cells #[.string x.name, .slice ax x.args.length cx] 25)).heap.size = w1.heap.size + 1 := by simp
        rw [eO] at O3 HO3 hO
        clear eO
        generalize (w1.alloc (.cells #[.string x.name, .slice ax x.args.length cx] 25)).alloc (.cells #[.string s, .slice none 0 0] 25) = w3 at *
        generalize w1.heap.size + 1 = O at *
        clear t0 t1
        have hY : ∀ b, (X b ∧ b < w.heap.size) → b < w.heap.size := fun b h => h.2
        go_loopw [8] (fun i wr => OnInv w (fun b => X b ∧ b < w.heap.size) O s a c ls l i wr) (fun i wr => l.length - (intOf i).toNat)
        case atStart => exact ⟨0, .slice none 0 0, Nat.zero_le _, rfl, [], by have h := Row.start w3 (O + 1) 25 (fun b => X b ∧ b < w.heap.size); simpa [onL] using h, B3.out, T3.out, R3.out, O3.out, HO3.out⟩
        case round =>
          obtain ⟨k, u9, hk, rfl, xs, hrow, hbb, hT, hR, hOb, hOl⟩ := hrel
          have XW := hide hrow
          have XE := hide hbb
          have XT := hide hT
          have XR := hide hR
          have XO := hide hOb
          clear hrow hbb hT hR hOb
          have c0 : wr.cell? ⟨w.heap.size, 0, none⟩ = some (.string s) := XT.out.cell 0
          have c1 : wr.cell? ⟨w.heap.size, 1, none⟩ = some (.slice a l.length c) := XT.out.cell 1
          have o0 : wr.cell? ⟨O, 0, none⟩ = some (.string s) := XO.out.cell 0
          have o1 : wr.cell? ⟨O, 1, none⟩ = some u9 := XO.out.cell 1
          by_cases hlt : k < l.length
          · obtain ⟨b, o, a', c', rfl, d0, d1, hx⟩ := (HS.out.mono (Y := fun b => X b ∧ b < w.heap.size) fun b h1 h2 => ⟨h1, h2⟩).get XE.out (fun b h _ => h.2) k hlt
            have HX := hide hx
            have hXb : b < w.heap.size := hxb HS.out (Nat.lt_of_le_of_lt (Nat.zero_le k) hlt)
            have hszk : sizeL [l[k]] ≤ 1000000 := by
              have := sizeL_take l k hlt
              have := sizeL_take_le l (k + 1)
              omega
            have hOL : (onL ls (l.take k)).length = k := by rw [onL_length]; simp; omega
            have IHQ : Hid (Calls Try.prog 29 #[u, .agg #[.string l[k].name, .slice a' l[k].args.length c']] wr.drew fun e w'' => ∃ a1 c1, e = .returned (.agg #[.string (onT ls l[k]).name, .slice a1 (onT ls l[k]).args.length c1]) ∧ Sl w'' (fun b => (X b ∧ b < w.heap.size) ∨ wr.heap.size ≤ b) a1 (onT ls l[k]).args ∧ Below wr.heap.size wr w'') := (IH.out l[k] (List.getElem_mem hlt) u _ wr.drew (fun b => X b ∧ b < w.heap.size) ((HU.out.mono fun b h1 h2 => ⟨h1, h2⟩).later (XE.out.drew)) (HX.out.later ((Below.refl wr.heap.size wr).drew)) hszk).mono fun e w'' hp => by
              obtain ⟨a1, c1, h1, h2, h3⟩ := hp
              exact ⟨a1, c1, h1, h2.mono (fun b hb _ => hb.imp (fun h => h.1) id), ((Below.refl wr.heap.size wr).drew).trans h3⟩
            have HN1 : Hid (∀ a1 c1, ∀ x ∈ [Value.string (onT ls l[k]).name, Value.slice a1 (onT ls l[k]).args.length c1], x.oneCell' = true) := fun a1 c1 x hx => by simp at hx; rcases hx with rfl | rfl <;> rfl
            have HL1 : Hid ((onL ls (l.take k)).length + 1 ≤ maxLen ∧ ((onL ls (l.take k)).length + 1) * 40 ≤ 140737488355328) := ⟨by rw [hOL]; unfold maxLen; omega, by rw [hOL]; omega⟩
            clear hOL
            have HBW : Hid (w.heap.size < wr.heap.size ∧ b < wr.heap.size) := ⟨XT.out.lt, by have := XT.out.lt; omega⟩
            have HS8 : Hid (OnS w b (o + k * 2) s (some ⟨b, o, none⟩) l.length c l[k].name (.slice a' l[k].args.length c') wr) := ⟨XT.out, d0, d1⟩
            go_wp2_with fail
            refine wp_region_held_drew (S := OnS w b (o + k * 2) s (some ⟨b, o, none⟩) l.length c l[k].name (.slice a' l[k].args.length c')) (by kernel_rfl) (by exact HS8.out) (fun hHeld => ?_)
            refine wpAnyH_take (i := 0) (v := ?_) rfl (by kernel_rfl) (by kernel_rfl) (by kernel_rfl) (fun _ _ _ h => h) (Or.inl ⟨by rfl, ?_⟩) (by assumption) ?_
            rotate_left
            · intro w' hSw
              go_simp <;> with_reducible rfl
            try simp only [Act.put, List.setIfInBounds_toArray, List.set_cons_zero, List.set_cons_succ, List.getElem_toArray, List.getElem_cons_succ, List.getElem_cons_zero]
            refine wpAnyH_take (i := 2) (v := ?_) rfl (by kernel_rfl) (by kernel_rfl) (by kernel_rfl) (fun _ _ _ h => h) (Or.inl ⟨by rfl, ?_⟩) (by assumption) ?_
            rotate_left
            · intro w' hSw
              go_simp <;> with_reducible rfl
            try simp only [Act.put, List.setIfInBounds_toArray, List.set_cons_zero, List.set_cons_succ, List.getElem_toArray, List.getElem_cons_succ, List.getElem_cons_zero]
            refine wpAnyH_take (i := 3) (v := ?_) rfl (by kernel_rfl) (by kernel_rfl) (by kernel_rfl) (fun _ _ _ h => h) (Or.inl ⟨by rfl, ?_⟩) (by assumption) ?_
            rotate_left
            · intro w' hSw
              go_simp <;> with_reducible rfl
            try simp only [Act.put, List.setIfInBounds_toArray, List.set_cons_zero, List.set_cons_succ, List.getElem_toArray, List.getElem_cons_succ, List.getElem_cons_zero]
            refine wpAnyH_take (i := 5) (v := ?_) rfl (by kernel_rfl) (by kernel_rfl) (by kernel_rfl) (fun _ _ _ h => h) (Or.inl ⟨by rfl, ?_⟩) (by assumption) ?_
            rotate_left
            · intro w' hSw
              go_simp <;> with_reducible rfl
            try simp only [Act.put, List.setIfInBounds_toArray, List.set_cons_zero, List.set_cons_succ, List.getElem_toArray, List.getElem_cons_succ, List.getElem_cons_zero]
            refine wpAnyH_take (i := 4) (v := ?_) rfl (by kernel_rfl) (by kernel_rfl) (by kernel_rfl) (fun _ _ _ h => h) (Or.inl ⟨by rfl, ?_⟩) (by assumption) ?_
            rotate_left
            · intro w' hSw
              have k1 : w'.cell? ⟨w.heap.size, 1, none⟩ = some (.slice (some ⟨b, o, none⟩) l.length c) := hSw.1.cell 1
              go_simp <;> with_reducible rfl
            try simp only [Act.put, List.setIfInBounds_toArray, List.set_cons_zero, List.set_cons_succ, List.getElem_toArray, List.getElem_cons_succ, List.getElem_cons_zero]
            refine wpAnyH_take (i := 6) (v := ?_) rfl (by kernel_rfl) (by kernel_rfl) (by kernel_rfl) (fun _ _ _ h => h) (Or.inl ⟨by rfl, ?_⟩) (by assumption) ?_
            rotate_left
            · intro w' hSw
              go_simp <;> with_reducible rfl
            try simp only [Act.put, List.setIfInBounds_toArray, List.set_cons_zero, List.set_cons_succ, List.getElem_toArray, List.getElem_cons_succ, List.getElem_cons_zero]
            refine wpAnyH_take (i := 7) (v := ?_) rfl (by kernel_rfl) (by kernel_rfl) (by kernel_rfl) (fun _ _ _ h => h) (Or.inl ⟨by rfl, ?_⟩) (by assumption) ?_
            rotate_left
            · intro w' hSw
              have k2 := hSw.2.1
              have k3 := hSw.2.2
              go_simp <;> with_reducible rfl
            try simp only [Act.put, List.setIfInBounds_toArray, List.set_cons_zero, List.set_cons_succ, List.getElem_toArray, List.getElem_cons_succ, List.getElem_cons_zero]
            refine wpAnyH_ready (rs := [1, 8]) (by kernel_rfl) (by simp) ?_
            refine AllReadyH.cons rfl (fun K hK => ?_) (AllReadyH.cons rfl (fun K hK => ?_) AllReadyH.nil)
            · go_simp
              refine hK.out _ _ (by exact hHeld) (fun hHeld => ?_)
              clear hK K
              try simp only [Act.put, List.setIfInBounds_toArray, List.set_cons_zero, List.set_cons_succ, List.getElem_toArray, List.getElem_cons_succ, List.getElem_cons_zero]
              refine wpAnyH_ready (rs := [8]) (by kernel_rfl) (by simp) ?_
              refine AllReadyH.cons rfl (fun K hK => ?_) AllReadyH.nil
              · go_simp
                go_at_call 29
                refine IHQ.out.mono ?_
                rintro e w1 ⟨a1, c1, rfl, hs1, hb1⟩
                have hc3 : ∀ o, (w1.alloc o).cell? ⟨O, 1, none⟩ = some u9 := fun o => ((XO.out.below hb1 hOl).alloc o).cell 1
                have hc4 : w1.cell? ⟨O, 1, none⟩ = some u9 := (XO.out.below hb1 hOl).cell 1
                go_simp
                refine hK.out _ _ (by exact OnS.below HS8.out hb1 HBW.out) (fun hHeld => ?_)
                clear hK K
                try simp only [Act.put, List.setIfInBounds_toArray, List.set_cons_zero, List.set_cons_succ, List.getElem_toArray, List.getElem_cons_succ, List.getElem_cons_zero]
                refine wpAnyH_ready (rs := [9]) (by kernel_rfl) (by simp) ?_
                refine AllReadyH.cons rfl (fun K hK => ?_) AllReadyH.nil
                · go_simp
                  refine hK.out _ _ (by exact hHeld.alloc _) (fun hHeld => ?_)
                  clear hK K
                  try simp only [Act.put, List.setIfInBounds_toArray, List.set_cons_zero, List.set_cons_succ, List.getElem_toArray, List.getElem_cons_succ, List.getElem_cons_zero]
                  refine wpAnyH_ready (rs := [10]) (by kernel_rfl) (by simp) ?_
                  refine AllReadyH.cons rfl (fun K hK => ?_) AllReadyH.nil
                  · refine step_append_lies _ rfl _ _ 23 rfl (O + 1) 25 i0 _ 2 40 Try.underlying23 hi0 hz0 hz1 hz2 rfl (by decide) u9 (onL ls (l.take k)).length xs rfl (by exact (XW.out.below hb1).own.alloc _) ⟨w1.heap.size, 0, none⟩ 1 1 [.string (onT ls l[k]).name, .slice a1 (onT ls l[k]).args.length c1] rfl rfl (cell_two_new _ _ _ _) (HN1.out a1 c1) (by decide) HL1.out.1 HL1.out.2 (by have := hb1.size; simp; omega) _ rfl ?_
                    intro g cap w3 hown3 hgrow3 hat3 hlt3
                    have hB3 := hide (((XO.out.below hb1 hOl).alloc _).grown hgrow3 (XW.out.ne (Nat.lt_succ_self _)))
                    have hc5 : w3.cell? ⟨O, 1, none⟩ = some u9 := hB3.out.cell 1
                    have hf5 := hB3.out.frozen 1
                    have HFIN := hide (on_step (c := c) (n := l.length) (a := some ⟨b, o, none⟩) hO hY XW.out XE.out XT.out XR.out XO.out hb1 ⟨a1, c1, rfl, hs1⟩ hown3 hgrow3 hat3)
                    refine hK.out _ _ (by exact OnS.grown hHeld hgrow3 (fun j hj => XW.out.ne (by omega)) hXb trivial) (fun hHeld => ?_)
                    clear hK K
                    try simp only [Act.put, List.setIfInBounds_toArray, List.set_cons_zero, List.set_cons_succ, List.getElem_toArray, List.getElem_cons_succ, List.getElem_cons_zero]
                    refine wpAnyH_take (i := 11) (v := ?_) rfl (by kernel_rfl) (by kernel_rfl) (by kernel_rfl) (fun _ _ _ h => h) (Or.inl ⟨by rfl, ?_⟩) (by assumption) ?_
                    rotate_left
                    · intro w' hSw
                      go_simp <;> with_reducible rfl
                    try simp only [Act.put, List.setIfInBounds_toArray, List.set_cons_zero, List.set_cons_succ, List.getElem_toArray, List.getElem_cons_succ, List.getElem_cons_zero]
                    refine wpAnyH_ready (rs := [12]) (by kernel_rfl) (by simp) ?_
                    refine AllReadyH.cons rfl (fun K hK => ?_) AllReadyH.nil
                    · go_simp
                      refine hK.out _ _ (by exact OnS.set hHeld _ trivial (by omega) (by omega)) (fun hHeld => ?_)
                      clear hK K
                      try simp only [Act.put, List.setIfInBounds_toArray, List.set_cons_zero, List.set_cons_succ, List.getElem_toArray, List.getElem_cons_succ, List.getElem_cons_zero]
                      refine wpAnyH_done (by kernel_rfl) ?_ _
                      clear hc3 hc4 hc5 hf5 hown3 hgrow3 hat3 hlt3 hB3 hHeld
                      go_wp2_with fail
                      go_roundw
                      case rel =>
                        refine ⟨k + 1, .slice (some ⟨g, 0, none⟩) ((onL ls (l.take k)).length + 1) cap, by omega, by go_num, ?_⟩
                        rw [onL_take ls l k hlt]
                        exact HFIN.out
                      case measure => simp [intOf]; omega
            · go_simp
              go_at_call 29
              refine IHQ.out.mono ?_
              rintro e w1 ⟨a1, c1, rfl, hs1, hb1⟩
              have hc3 : ∀ o, (w1.alloc o).cell? ⟨O, 1, none⟩ = some u9 := fun o => ((XO.out.below hb1 hOl).alloc o).cell 1
              have hc4 : w1.cell? ⟨O, 1, none⟩ = some u9 := (XO.out.below hb1 hOl).cell 1
              go_simp
              refine hK.out _ _ (by exact OnS.below HS8.out hb1 HBW.out) (fun hHeld => ?_)
              clear hK K
              try simp only [Act.put, List.setIfInBounds_toArray, List.set_cons_zero, List.set_cons_succ, List.getElem_toArray, List.getElem_cons_succ, List.getElem_cons_zero]
              refine wpAnyH_ready (rs := [1, 9]) (by kernel_rfl) (by simp) ?_
              refine AllReadyH.cons rfl (fun K hK => ?_) (AllReadyH.cons rfl (fun K hK => ?_) AllReadyH.nil)
              · go_simp
                refine hK.out _ _ (by exact hHeld) (fun hHeld => ?_)
                clear hK K
                try simp only [Act.put, List.setIfInBounds_toArray, List.set_cons_zero, List.set_cons_succ, List.getElem_toArray, List.getElem_cons_succ, List.getElem_cons_zero]
                refine wpAnyH_ready (rs := [9]) (by kernel_rfl) (by simp) ?_
                refine AllReadyH.cons rfl (fun K hK => ?_) AllReadyH.nil
                · go_simp
                  refine hK.out _ _ (by exact hHeld.alloc _) (fun hHeld => ?_)
                  clear hK K
                  try simp only [Act.put, List.setIfInBounds_toArray, List.set_cons_zero, List.set_cons_succ, List.getElem_toArray, List.getElem_cons_succ, List.getElem_cons_zero]
                  refine wpAnyH_ready (rs := [10]) (by kernel_rfl) (by simp) ?_
                  refine AllReadyH.cons rfl (fun K hK => ?_) AllReadyH.nil
                  · refine step_append_lies _ rfl _ _ 23 rfl (O + 1) 25 i0 _ 2 40 Try.underlying23 hi0 hz0 hz1 hz2 rfl (by decide) u9 (onL ls (l.take k)).length xs rfl (by exact (XW.out.below hb1).own.alloc _) ⟨w1.heap.size, 0, none⟩ 1 1 [.string (onT ls l[k]).name, .slice a1 (onT ls l[k]).args.length c1] rfl rfl (cell_two_new _ _ _ _) (HN1.out a1 c1) (by decide) HL1.out.1 HL1.out.2 (by have := hb1.size; simp; omega) _ rfl ?_
                    intro g cap w3 hown3 hgrow3 hat3 hlt3
                    have hB3 := hide (((XO.out.below hb1 hOl).alloc _).grown hgrow3 (XW.out.ne (Nat.lt_succ_self _)))
                    have hc5 : w3.cell? ⟨O, 1, none⟩ = some u9 := hB3.out.cell 1
                    have hf5 := hB3.out.frozen 1
                    have HFIN := hide (on_step (c := c) (n := l.length) (a := some ⟨b, o, none⟩) hO hY XW.out XE.out XT.out XR.out XO.out hb1 ⟨a1, c1, rfl, hs1⟩ hown3 hgrow3 hat3)
                    refine hK.out _ _ (by exact OnS.grown hHeld hgrow3 (fun j hj => XW.out.ne (by omega)) hXb trivial) (fun hHeld => ?_)
                    clear hK K
                    try simp only [Act.put, List.setIfInBounds_toArray, List.set_cons_zero, List.set_cons_succ, List.getElem_toArray, List.getElem_cons_succ, List.getElem_cons_zero]
                    refine wpAnyH_take (i := 11) (v := ?_) rfl (by kernel_rfl) (by kernel_rfl) (by kernel_rfl) (fun _ _ _ h => h) (Or.inl ⟨by rfl, ?_⟩) (by assumption) ?_
                    rotate_left
                    · intro w' hSw
                      go_simp <;> with_reducible rfl
                    try simp only [Act.put, List.setIfInBounds_toArray, List.set_cons_zero, List.set_cons_succ, List.getElem_toArray, List.getElem_cons_succ, List.getElem_cons_zero]
                    refine wpAnyH_ready (rs := [12]) (by kernel_rfl) (by simp) ?_
                    refine AllReadyH.cons rfl (fun K hK => ?_) AllReadyH.nil
                    · go_simp
                      refine hK.out _ _ (by exact OnS.set hHeld _ trivial (by omega) (by omega)) (fun hHeld => ?_)
                      clear hK K
                      try simp only [Act.put, List.setIfInBounds_toArray, List.set_cons_zero, List.set_cons_succ, List.getElem_toArray, List.getElem_cons_succ, List.getElem_cons_zero]
                      refine wpAnyH_done (by kernel_rfl) ?_ _
                      clear hc3 hc4 hc5 hf5 hown3 hgrow3 hat3 hlt3 hB3 hHeld
                      go_wp2_with fail
                      go_roundw
                      case rel =>
                        refine ⟨k + 1, .slice (some ⟨g, 0, none⟩) ((onL ls (l.take k)).length + 1) cap, by omega, by go_num, ?_⟩
                        rw [onL_take ls l k hlt]
                        exact HFIN.out
                      case measure => simp [intOf]; omega
              · go_simp
                refine hK.out _ _ (by exact hHeld.alloc _) (fun hHeld => ?_)
                clear hK K
                try simp only [Act.put, List.setIfInBounds_toArray, List.set_cons_zero, List.set_cons_succ, List.getElem_toArray, List.getElem_cons_succ, List.getElem_cons_zero]
                refine wpAnyH_ready (rs := [1]) (by kernel_rfl) (by simp) ?_
                refine AllReadyH.cons rfl (fun K hK => ?_) AllReadyH.nil
                · go_simp
                  refine hK.out _ _ (by exact hHeld) (fun hHeld => ?_)
                  clear hK K
                  try simp only [Act.put, List.setIfInBounds_toArray, List.set_cons_zero, List.set_cons_succ, List.getElem_toArray, List.getElem_cons_succ, List.getElem_cons_zero]
                  refine wpAnyH_ready (rs := [10]) (by kernel_rfl) (by simp) ?_
                  refine AllReadyH.cons rfl (fun K hK => ?_) AllReadyH.nil
                  · refine step_append_lies _ rfl _ _ 23 rfl (O + 1) 25 i0 _ 2 40 Try.underlying23 hi0 hz0 hz1 hz2 rfl (by decide) u9 (onL ls (l.take k)).length xs rfl (by exact (XW.out.below hb1).own.alloc _) ⟨w1.heap.size, 0, none⟩ 1 1 [.string (onT ls l[k]).name, .slice a1 (onT ls l[k]).args.length c1] rfl rfl (cell_two_new _ _ _ _) (HN1.out a1 c1) (by decide) HL1.out.1 HL1.out.2 (by have := hb1.size; simp; omega) _ rfl ?_
                    intro g cap w3 hown3 hgrow3 hat3 hlt3
                    have hB3 := hide (((XO.out.below hb1 hOl).alloc _).grown hgrow3 (XW.out.ne (Nat.lt_succ_self _)))
                    have hc5 : w3.cell? ⟨O, 1, none⟩ = some u9 := hB3.out.cell 1
                    have hf5 := hB3.out.frozen 1
                    have HFIN := hide (on_step (c := c) (n := l.length) (a := some ⟨b, o, none⟩) hO hY XW.out XE.out XT.out XR.out XO.out hb1 ⟨a1, c1, rfl, hs1⟩ hown3 hgrow3 hat3)
                    refine hK.out _ _ (by exact OnS.grown hHeld hgrow3 (fun j hj => XW.out.ne (by omega)) hXb trivial) (fun hHeld => ?_)
                    clear hK K
                    try simp only [Act.put, List.setIfInBounds_toArray, List.set_cons_zero, List.set_cons_succ, List.getElem_toArray, List.getElem_cons_succ, List.getElem_cons_zero]
                    refine wpAnyH_take (i := 11) (v := ?_) rfl (by kernel_rfl) (by kernel_rfl) (by kernel_rfl) (fun _ _ _ h => h) (Or.inl ⟨by rfl, ?_⟩) (by assumption) ?_
                    rotate_left
                    · intro w' hSw
                      go_simp <;> with_reducible rfl
                    try simp only [Act.put, List.setIfInBounds_toArray, List.set_cons_zero, List.set_cons_succ, List.getElem_toArray, List.getElem_cons_succ, List.getElem_cons_zero]
                    refine wpAnyH_ready (rs := [12]) (by kernel_rfl) (by simp) ?_
                    refine AllReadyH.cons rfl (fun K hK => ?_) AllReadyH.nil
                    · go_simp
                      refine hK.out _ _ (by exact OnS.set hHeld _ trivial (by omega) (by omega)) (fun hHeld => ?_)
                      clear hK K
                      try simp only [Act.put, List.setIfInBounds_toArray, List.set_cons_zero, List.set_cons_succ, List.getElem_toArray, List.getElem_cons_succ, List.getElem_cons_zero]
                      refine wpAnyH_done (by kernel_rfl) ?_ _
                      clear hc3 hc4 hc5 hf5 hown3 hgrow3 hat3 hlt3 hB3 hHeld
                      go_wp2_with fail
                      go_roundw
                      case rel =>
                        refine ⟨k + 1, .slice (some ⟨g, 0, none⟩) ((onL ls (l.take k)).length + 1) cap, by omega, by go_num, ?_⟩
                        rw [onL_take ls l k hlt]
                        exact HFIN.out
                      case measure => simp [intOf]; omega
          · have htk : l.take k = l := List.take_of_length_le (by omega)
            rw [htk] at XW
            obtain ⟨a9, c9, hu9, hsl9⟩ := XW.out.sl
            subst hu9
            have S9 := hide hsl9
            have r0 : wr.cell? ⟨w.heap.size + 1, 0, none⟩ = some (.string ⟨#[]⟩) := XR.out.cell 0
            have r1 : wr.cell? ⟨w.heap.size + 1, 1, none⟩ = some (.slice none 0 0) := XR.out.cell 1
            have rf := XR.out.frozen
            clear hsl9 htk
            go_wp2_with fail
            refine bodyPost_ret (v := .agg #[.string s, .slice a9 (onL ls l).length c9]) (by simp [results, Try.results29, go_sem, World.cell?_setCell_same, World.cell?_setCell_other, r0, r1]) rfl ?_
            rw [HD.out]
            refine ⟨a9, c9, rfl, (S9.out.kept fun b hb => ?_).mono fun b hb _ => hb.imp id (fun h => by omega), (XE.out.setCell (by simp) _).setCell (by simp) _⟩
            have hbne : b ≠ w.heap.size + 1 := by
              rcases hb with h | h
              · have := h.2; omega
              · omega
            rw [Below.heap_setCell _ _ _ _ (by simpa using hbne), Below.heap_setCell _ _ _ _ (by simpa using hbne)]
    · have HD : Hid (onT ls ⟨s, l⟩ = ⟨s, onL ls l⟩) := onT_deep (Or.inr hf)
      clear hf
      go_wp2_with fail
      have T3 := hide ((T1.out.alloc (.cells #[.string ⟨#[]⟩, .slice none 0 0] 25)).alloc (.cells #[.string s, .slice none 0 0] 25))
      have R3 := hide ((R1.out.alloc (.cells #[.string ⟨#[]⟩, .slice none 0 0] 25)).alloc (.cells #[.string s, .slice none 0 0] 25))
      have O3 := hide (Blk.new (w1.alloc (.cells #[.string ⟨#[]⟩, .slice none 0 0] 25)) #[.string s, .slice none 0 0] 25)
      have B3 := hide ((B1.out.alloc B1.out.size (.cells #[.string ⟨#[]⟩, .slice none 0 0] 25)).alloc (by have := B1.out.size; simp; omega) (.cells #[.string s, .slice none 0 0] 25))
      have HO3 := hide (O3.out.lt)
      have hO : w.heap.size + 2 ≤ (w1.alloc (.cells #[.string ⟨#[]⟩, .slice none 0 0] 25)).heap.size := by have := R1.out.lt; simp; omega
      have eO : (w1.alloc (.cells #[.string ⟨#[]⟩, .slice none 0 0] 25)).heap.size = w1.heap.size + 1 := by simp
      rw [eO] at O3 HO3 hO
      clear eO
      generalize (w1.alloc (.cells #[.string ⟨#[]⟩, .slice none 0 0] 25)).alloc (.cells #[.string s, .slice none 0 0] 25) = w3 at *
      generalize w1.heap.size + 1 = O at *
      clear t0 t1
      have hY : ∀ b, (X b ∧ b < w.heap.size) → b < w.heap.size := fun b h => h.2
      go_loopw [8] (fun i wr => OnInv w (fun b => X b ∧ b < w.heap.size) O s a c ls l i wr) (fun i wr => l.length - (intOf i).toNat)
      case atStart => exact ⟨0, .slice none 0 0, Nat.zero_le _, rfl, [], by have h := Row.start w3 (O + 1) 25 (fun b => X b ∧ b < w.heap.size); simpa [onL] using h, B3.out, T3.out, R3.out, O3.out, HO3.out⟩
      case round =>
        obtain ⟨k, u9, hk, rfl, xs, hrow, hbb, hT, hR, hOb, hOl⟩ := hrel
        have XW := hide hrow
        have XE := hide hbb
        have XT := hide hT
        have XR := hide hR
        have XO := hide hOb
        clear hrow hbb hT hR hOb
        have c0 : wr.cell? ⟨w.heap.size, 0, none⟩ = some (.string s) := XT.out.cell 0
        have c1 : wr.cell? ⟨w.heap.size, 1, none⟩ = some (.slice a l.length c) := XT.out.cell 1
        have o0 : wr.cell? ⟨O, 0, none⟩ = some (.string s) := XO.out.cell 0
        have o1 : wr.cell? ⟨O, 1, none⟩ = some u9 := XO.out.cell 1
        by_cases hlt : k < l.length
        · obtain ⟨b, o, a', c', rfl, d0, d1, hx⟩ := (HS.out.mono (Y := fun b => X b ∧ b < w.heap.size) fun b h1 h2 => ⟨h1, h2⟩).get XE.out (fun b h _ => h.2) k hlt
          have HX := hide hx
          have hXb : b < w.heap.size := hxb HS.out (Nat.lt_of_le_of_lt (Nat.zero_le k) hlt)
          have hszk : sizeL [l[k]] ≤ 1000000 := by
            have := sizeL_take l k hlt
            have := sizeL_take_le l (k + 1)
            omega
          have hOL : (onL ls (l.take k)).length = k := by rw [onL_length]; simp; omega
          have IHQ : Hid (Calls Try.prog 29 #[u, .agg #[.string l[k].name, .slice a' l[k].args.length c']] wr.drew fun e w'' => ∃ a1 c1, e = .returned (.agg #[.string (onT ls l[k]).name, .slice a1 (onT ls l[k]).args.length c1]) ∧ Sl w'' (fun b => (X b ∧ b < w.heap.size) ∨ wr.heap.size ≤ b) a1 (onT ls l[k]).args ∧ Below wr.heap.size wr w'') := (IH.out l[k] (List.getElem_mem hlt) u _ wr.drew (fun b => X b ∧ b < w.heap.size) ((HU.out.mono fun b h1 h2 => ⟨h1, h2⟩).later (XE.out.drew)) (HX.out.later ((Below.refl wr.heap.size wr).drew)) hszk).mono fun e w'' hp => by
            obtain ⟨a1, c1, h1, h2, h3⟩ := hp
            exact ⟨a1, c1, h1, h2.mono (fun b hb _ => hb.imp (fun h => h.1) id), ((Below.refl wr.heap.size wr).drew).trans h3⟩
          have HN1 : Hid (∀ a1 c1, ∀ x ∈ [Value.string (onT ls l[k]).name, Value.slice a1 (onT ls l[k]).args.length c1], x.oneCell' = true) := fun a1 c1 x hx => by simp at hx; rcases hx with rfl | rfl <;> rfl
          have HL1 : Hid ((onL ls (l.take k)).length + 1 ≤ maxLen ∧ ((onL ls (l.take k)).length + 1) * 40 ≤ 140737488355328) := ⟨by rw [hOL]; unfold maxLen; omega, by rw [hOL]; omega⟩
          clear hOL
          have HBW : Hid (w.heap.size < wr.heap.size ∧ b < wr.heap.size) := ⟨XT.out.lt, by have := XT.out.lt; omega⟩
          have HS8 : Hid (OnS w b (o + k * 2) s (some ⟨b, o, none⟩) l.length c l[k].name (.slice a' l[k].args.length c') wr) := ⟨XT.out, d0, d1⟩
          go_wp2_with fail
          refine wp_region_held_drew (S := OnS w b (o + k * 2) s (some ⟨b, o, none⟩) l.length c l[k].name (.slice a' l[k].args.length c')) (by kernel_rfl) (by exact HS8.out) (fun hHeld => ?_)
          refine wpAnyH_take (i := 0) (v := ?_) rfl (by kernel_rfl) (by kernel_rfl) (by kernel_rfl) (fun _ _ _ h => h) (Or.inl ⟨by rfl, ?_⟩) (by assumption) ?_
          rotate_left
          · intro w' hSw
            go_simp <;> with_reducible rfl
          try simp only [Act.put, List.setIfInBounds_toArray, List.set_cons_zero, List.set_cons_succ, List.getElem_toArray, List.getElem_cons_succ, List.getElem_cons_zero]
          refine wpAnyH_take (i := 2) (v := ?_) rfl (by kernel_rfl) (by kernel_rfl) (by kernel_rfl) (fun _ _ _ h => h) (Or.inl ⟨by rfl, ?_⟩) (by assumption) ?_
          rotate_left
          · intro w' hSw
            go_simp <;> with_reducible rfl
          try simp only [Act.put, List.setIfInBounds_toArray, List.set_cons_zero, List.set_cons_succ, List.getElem_toArray, List.getElem_cons_succ, List.getElem_cons_zero]
          refine wpAnyH_take (i := 3) (v := ?_) rfl (by kernel_rfl) (by kernel_rfl) (by kernel_rfl) (fun _ _ _ h => h) (Or.inl ⟨by rfl, ?_⟩) (by assumption) ?_
          rotate_left
          · intro w' hSw
            go_simp <;> with_reducible rfl
          try simp only [Act.put, List.setIfInBounds_toArray, List.set_cons_zero, List.set_cons_succ, List.getElem_toArray, List.getElem_cons_succ, List.getElem_cons_zero]
          refine wpAnyH_take (i := 5) (v := ?_) rfl (by kernel_rfl) (by kernel_rfl) (by kernel_rfl) (fun _ _ _ h => h) (Or.inl ⟨by rfl, ?_⟩) (by assumption) ?_
          rotate_left
          · intro w' hSw
            go_simp <;> with_reducible rfl
          try simp only [Act.put, List.setIfInBounds_toArray, List.set_cons_zero, List.set_cons_succ, List.getElem_toArray, List.getElem_cons_succ, List.getElem_cons_zero]
          refine wpAnyH_take (i := 4) (v := ?_) rfl (by kernel_rfl) (by kernel_rfl) (by kernel_rfl) (fun _ _ _ h => h) (Or.inl ⟨by rfl, ?_⟩) (by assumption) ?_
          rotate_left
          · intro w' hSw
            have k1 : w'.cell? ⟨w.heap.size, 1, none⟩ = some (.slice (some ⟨b, o, none⟩) l.length c) := hSw.1.cell 1
            go_simp <;> with_reducible rfl
          try simp only [Act.put, List.setIfInBounds_toArray, List.set_cons_zero, List.set_cons_succ, List.getElem_toArray, List.getElem_cons_succ, List.getElem_cons_zero]
          refine wpAnyH_take (i := 6) (v := ?_) rfl (by kernel_rfl) (by kernel_rfl) (by kernel_rfl) (fun _ _ _ h => h) (Or.inl ⟨by rfl, ?_⟩) (by assumption) ?_
          rotate_left
          · intro w' hSw
            go_simp <;> with_reducible rfl
          try simp only [Act.put, List.setIfInBounds_toArray, List.set_cons_zero, List.set_cons_succ, List.getElem_toArray, List.getElem_cons_succ, List.getElem_cons_zero]
          refine wpAnyH_take (i := 7) (v := ?_) rfl (by kernel_rfl) (by kernel_rfl) (by kernel_rfl) (fun _ _ _ h => h) (Or.inl ⟨by rfl, ?_⟩) (by assumption) ?_
          rotate_left
          · intro w' hSw
            have k2 := hSw.2.1
            have k3 := hSw.2.2
            go_simp <;> with_reducible rfl
          try simp only [Act.put, List.setIfInBounds_toArray, List.set_cons_zero, List.set_cons_succ, List.getElem_toArray, List.getElem_cons_succ, List.getElem_cons_zero]
          refine wpAnyH_ready (rs := [1, 8]) (by kernel_rfl) (by simp) ?_
          refine AllReadyH.cons rfl (fun K hK => ?_) (AllReadyH.cons rfl (fun K hK => ?_) AllReadyH.nil)
          · go_simp
            refine hK.out _ _ (by exact hHeld) (fun hHeld => ?_)
            clear hK K
            try simp only [Act.put, List.setIfInBounds_toArray, List.set_cons_zero, List.set_cons_succ, List.getElem_toArray, List.getElem_cons_succ, List.getElem_cons_zero]
            refine wpAnyH_ready (rs := [8]) (by kernel_rfl) (by simp) ?_
            refine AllReadyH.cons rfl (fun K hK => ?_) AllReadyH.nil
            · go_simp
              go_at_call 29
              refine IHQ.out.mono ?_
              rintro e w1 ⟨a1, c1, rfl, hs1, hb1⟩
              have hc3 : ∀ o, (w1.alloc o).cell? ⟨O, 1, none⟩ = some u9 := fun o => ((XO.out.below hb1 hOl).alloc o).cell 1
              have hc4 : w1.cell? ⟨O, 1, none⟩ = some u9 := (XO.out.below hb1 hOl).cell 1
              go_simp
              refine hK.out _ _ (by exact OnS.below HS8.out hb1 HBW.out) (fun hHeld => ?_)
              clear hK K
              try simp only [Act.put, List.setIfInBounds_toArray, List.set_cons_zero, List.set_cons_succ, List.getElem_toArray, List.getElem_cons_succ, List.getElem_cons_zero]
              refine wpAnyH_ready (rs := [9]) (by kernel_rfl) (by simp) ?_
              refine AllReadyH.cons rfl (fun K hK => ?_) AllReadyH.nil
              · go_simp
                refine hK.out _ _ (by exact hHeld.alloc _) (fun hHeld => ?_)
                clear hK K
                try simp only [Act.put, List.setIfInBounds_toArray, List.set_cons_zero, List.set_cons_succ, List.getElem_toArray, List.getElem_cons_succ, List.getElem_cons_zero]
                refine wpAnyH_ready (rs := [10]) (by kernel_rfl) (by simp) ?_
                refine AllReadyH.cons rfl (fun K hK => ?_) AllReadyH.nil
                · refine step_append_lies _ rfl _ _ 23 rfl (O + 1) 25 i0 _ 2 40 Try.underlying23 hi0 hz0 hz1 hz2 rfl (by decide) u9 (onL ls (l.take k)).length xs rfl (by exact (XW.out.below hb1).own.alloc _) ⟨w1.heap.size, 0, none⟩ 1 1 [.string (onT ls l[k]).name, .slice a1 (onT ls l[k]).args.length c1] rfl rfl (cell_two_new _ _ _ _) (HN1.out a1 c1) (by decide) HL1.out.1 HL1.out.2 (by have := hb1.size; simp; omega) _ rfl ?_
                  intro g cap w3 hown3 hgrow3 hat3 hlt3
                  have hB3 := hide (((XO.out.below hb1 hOl).alloc _).grown hgrow3 (XW.out.ne (Nat.lt_succ_self _)))
                  have hc5 : w3.cell? ⟨O, 1, none⟩ = some u9 := hB3.out.cell 1
                  have hf5 := hB3.out.frozen 1
                  have HFIN := hide (on_step (c := c) (n := l.length) (a := some ⟨b, o, none⟩) hO hY XW.out XE.out XT.out XR.out XO.out hb1 ⟨a1, c1, rfl, hs1⟩ hown3 hgrow3 hat3)
                  refine hK.out _ _ (by exact OnS.grown hHeld hgrow3 (fun j hj => XW.out.ne (by omega)) hXb trivial) (fun hHeld => ?_)
                  clear hK K
                  try simp only [Act.put, List.setIfInBounds_toArray, List.set_cons_zero, List.set_cons_succ, List.getElem_toArray, List.getElem_cons_succ, List.getElem_cons_zero]
                  refine wpAnyH_take (i := 11) (v := ?_) rfl (by kernel_rfl) (by kernel_rfl) (by kernel_rfl) (fun _ _ _ h => h) (Or.inl ⟨by rfl, ?_⟩) (by assumption) ?_
                  rotate_left
                  · intro w' hSw
                    go_simp <;> with_reducible rfl
                  try simp only [Act.put, List.setIfInBounds_toArray, List.set_cons_zero, List.set_cons_succ, List.getElem_toArray, List.getElem_cons_succ, List.getElem_cons_zero]
                  refine wpAnyH_ready (rs := [12]) (by kernel_rfl) (by simp) ?_
                  refine AllReadyH.cons rfl (fun K hK => ?_) AllReadyH.nil
                  · go_simp
                    refine hK.out _ _ (by exact OnS.set hHeld _ trivial (by omega) (by omega)) (fun hHeld => ?_)
                    clear hK K
                    try simp only [Act.put, List.setIfInBounds_toArray, List.set_cons_zero, List.set_cons_succ, List.getElem_toArray, List.getElem_cons_succ, List.getElem_cons_zero]
                    refine wpAnyH_done (by kernel_rfl) ?_ _
                    clear hc3 hc4 hc5 hf5 hown3 hgrow3 hat3 hlt3 hB3 hHeld
                    go_wp2_with fail
                    go_roundw
                    case rel =>
                      refine ⟨k + 1, .slice (some ⟨g, 0, none⟩) ((onL ls (l.take k)).length + 1) cap, by omega, by go_num, ?_⟩
                      rw [onL_take ls l k hlt]
                      exact HFIN.out
                    case measure => simp [intOf]; omega
          · go_simp
            go_at_call 29
            refine IHQ.out.mono ?_
            rintro e w1 ⟨a1, c1, rfl, hs1, hb1⟩
            have hc3 : ∀ o, (w1.alloc o).cell? ⟨O, 1, none⟩ = some u9 := fun o => ((XO.out.below hb1 hOl).alloc o).cell 1
            have hc4 : w1.cell? ⟨O, 1, none⟩ = some u9 := (XO.out.below hb1 hOl).cell 1
            go_simp
            refine hK.out _ _ (by exact OnS.below HS8.out hb1 HBW.out) (fun hHeld => ?_)
            clear hK K
            try simp only [Act.put, List.setIfInBounds_toArray, List.set_cons_zero, List.set_cons_succ, List.getElem_toArray, List.getElem_cons_succ, List.getElem_cons_zero]
            refine wpAnyH_ready (rs := [1, 9]) (by kernel_rfl) (by simp) ?_
            refine AllReadyH.cons rfl (fun K hK => ?_) (AllReadyH.cons rfl (fun K hK => ?_) AllReadyH.nil)
            · go_simp
              refine hK.out _ _ (by exact hHeld) (fun hHeld => ?_)
              clear hK K
              try simp only [Act.put, List.setIfInBounds_toArray, List.set_cons_zero, List.set_cons_succ, List.getElem_toArray, List.getElem_cons_succ, List.getElem_cons_zero]
              refine wpAnyH_ready (rs := [9]) (by kernel_rfl) (by simp) ?_
              refine AllReadyH.cons rfl (fun K hK => ?_) AllReadyH.nil
              · go_simp
                refine hK.out _ _ (by exact hHeld.alloc _) (fun hHeld => ?_)
                clear hK K
                try simp only [Act.put, List.setIfInBounds_toArray, List.set_cons_zero, List.set_cons_succ, List.getElem_toArray, List.getElem_cons_succ, List.getElem_cons_zero]
                refine wpAnyH_ready (rs := [10]) (by kernel_rfl) (by simp) ?_
                refine AllReadyH.cons rfl (fun K hK => ?_) AllReadyH.nil
                · refine step_append_lies _ rfl _ _ 23 rfl (O + 1) 25 i0 _ 2 40 Try.underlying23 hi0 hz0 hz1 hz2 rfl (by decide) u9 (onL ls (l.take k)).length xs rfl (by exact (XW.out.below hb1).own.alloc _) ⟨w1.heap.size, 0, none⟩ 1 1 [.string (onT ls l[k]).name, .slice a1 (onT ls l[k]).args.length c1] rfl rfl (cell_two_new _ _ _ _) (HN1.out a1 c1) (by decide) HL1.out.1 HL1.out.2 (by have := hb1.size; simp; omega) _ rfl ?_
                  intro g cap w3 hown3 hgrow3 hat3 hlt3
                  have hB3 := hide (((XO.out.below hb1 hOl).alloc _).grown hgrow3 (XW.out.ne (Nat.lt_succ_self _)))
                  have hc5 : w3.cell? ⟨O, 1, none⟩ = some u9 := hB3.out.cell 1
                  have hf5 := hB3.out.frozen 1
                  have HFIN := hide (on_step (c := c) (n := l.length) (a := some ⟨b, o, none⟩) hO hY XW.out XE.out XT.out XR.out XO.out hb1 ⟨a1, c1, rfl, hs1⟩ hown3 hgrow3 hat3)
                  refine hK.out _ _ (by exact OnS.grown hHeld hgrow3 (fun j hj => XW.out.ne (by omega)) hXb trivial) (fun hHeld => ?_)
                  clear hK K
                  try simp only [Act.put, List.setIfInBounds_toArray, List.set_cons_zero, List.set_cons_succ, List.getElem_toArray, List.getElem_cons_succ, List.getElem_cons_zero]
                  refine wpAnyH_take (i := 11) (v := ?_) rfl (by kernel_rfl) (by kernel_rfl) (by kernel_rfl) (fun _ _ _ h => h) (Or.inl ⟨by rfl, ?_⟩) (by assumption) ?_
                  rotate_left
                  · intro w' hSw
                    go_simp <;> with_reducible rfl
                  try simp only [Act.put, List.setIfInBounds_toArray, List.set_cons_zero, List.set_cons_succ, List.getElem_toArray, List.getElem_cons_succ, List.getElem_cons_zero]
                  refine wpAnyH_ready (rs := [12]) (by kernel_rfl) (by simp) ?_
                  refine AllReadyH.cons rfl (fun K hK => ?_) AllReadyH.nil
                  · go_simp
                    refine hK.out _ _ (by exact OnS.set hHeld _ trivial (by omega) (by omega)) (fun hHeld => ?_)
                    clear hK K
                    try simp only [Act.put, List.setIfInBounds_toArray, List.set_cons_zero, List.set_cons_succ, List.getElem_toArray, List.getElem_cons_succ, List.getElem_cons_zero]
                    refine wpAnyH_done (by kernel_rfl) ?_ _
                    clear hc3 hc4 hc5 hf5 hown3 hgrow3 hat3 hlt3 hB3 hHeld
                    go_wp2_with fail
                    go_roundw
                    case rel =>
                      refine ⟨k + 1, .slice (some ⟨g, 0, none⟩) ((onL ls (l.take k)).length + 1) cap, by omega, by go_num, ?_⟩
                      rw [onL_take ls l k hlt]
                      exact HFIN.out
                    case measure => simp [intOf]; omega
            · go_simp
              refine hK.out _ _ (by exact hHeld.alloc _) (fun hHeld => ?_)
              clear hK K
              try simp only [Act.put, List.setIfInBounds_toArray, List.set_cons_zero, List.set_cons_succ, List.getElem_toArray, List.getElem_cons_succ, List.getElem_cons_zero]
              refine wpAnyH_ready (rs := [1]) (by kernel_rfl) (by simp) ?_
              refine AllReadyH.cons rfl (fun K hK => ?_) AllReadyH.nil
              · go_simp
                refine hK.out _ _ (by exact hHeld) (fun hHeld => ?_)
                clear hK K
                try simp only [Act.put, List.setIfInBounds_toArray, List.set_cons_zero, List.set_cons_succ, List.getElem_toArray, List.getElem_cons_succ, List.getElem_cons_zero]
                refine wpAnyH_ready (rs := [10]) (by kernel_rfl) (by simp) ?_
                refine AllReadyH.cons rfl (fun K hK => ?_) AllReadyH.nil
                · refine step_append_lies _ rfl _ _ 23 rfl (O + 1) 25 i0 _ 2 40 Try.underlying23 hi0 hz0 hz1 hz2 rfl (by decide) u9 (onL ls (l.take k)).length xs rfl (by exact (XW.out.below hb1).own.alloc _) ⟨w1.heap.size, 0, none⟩ 1 1 [.string (onT ls l[k]).name, .slice a1 (onT ls l[k]).args.length c1] rfl rfl (cell_two_new _ _ _ _) (HN1.out a1 c1) (by decide) HL1.out.1 HL1.out.2 (by have := hb1.size; simp; omega) _ rfl ?_
                  intro g cap w3 hown3 hgrow3 hat3 hlt3
                  have hB3 := hide (((XO.out.below hb1 hOl).alloc _).grown hgrow3 (XW.out.ne (Nat.lt_succ_self _)))
                  have hc5 : w3.cell? ⟨O, 1, none⟩ = some u9 := hB3.out.cell 1
                  have hf5 := hB3.out.frozen 1
                  have HFIN := hide (on_step (c := c) (n := l.length) (a := some ⟨b, o, none⟩) hO hY XW.out XE.out XT.out XR.out XO.out hb1 ⟨a1, c1, rfl, hs1⟩ hown3 hgrow3 hat3)
                  refine hK.out _ _ (by exact OnS.grown hHeld hgrow3 (fun j hj => XW.out.ne (by omega)) hXb trivial) (fun hHeld => ?_)
                  clear hK K
                  try simp only [Act.put, List.setIfInBounds_toArray, List.set_cons_zero, List.set_cons_succ, List.getElem_toArray, List.getElem_cons_succ, List.getElem_cons_zero]
                  refine wpAnyH_take (i := 11) (v := ?_) rfl (by kernel_rfl) (by kernel_rfl) (by kernel_rfl) (fun _ _ _ h => h) (Or.inl ⟨by rfl, ?_⟩) (by assumption) ?_
                  rotate_left
                  · intro w' hSw
                    go_simp <;> with_reducible rfl
                  try simp only [Act.put, List.setIfInBounds_toArray, List.set_cons_zero, List.set_cons_succ, List.getElem_toArray, List.getElem_cons_succ, List.getElem_cons_zero]
                  refine wpAnyH_ready (rs := [12]) (by kernel_rfl) (by simp) ?_
                  refine AllReadyH.cons rfl (fun K hK => ?_) AllReadyH.nil
                  · go_simp
                    refine hK.out _ _ (by exact OnS.set hHeld _ trivial (by omega) (by omega)) (fun hHeld => ?_)
                    clear hK K
                    try simp only [Act.put, List.setIfInBounds_toArray, List.set_cons_zero, List.set_cons_succ, List.getElem_toArray, List.getElem_cons_succ, List.getElem_cons_zero]
                    refine wpAnyH_done (by kernel_rfl) ?_ _
                    clear hc3 hc4 hc5 hf5 hown3 hgrow3 hat3 hlt3 hB3 hHeld
                    go_wp2_with fail
                    go_roundw
                    case rel =>
                      refine ⟨k + 1, .slice (some ⟨g, 0, none⟩) ((onL ls (l.take k)).length + 1) cap, by omega, by go_num, ?_⟩
                      rw [onL_take ls l k hlt]
                      exact HFIN.out
                    case measure => simp [intOf]; omega
        · have htk : l.take k = l := List.take_of_length_le (by omega)
          rw [htk] at XW
          obtain ⟨a9, c9, hu9, hsl9⟩ := XW.out.sl
          subst hu9
          have S9 := hide hsl9
          have r0 : wr.cell? ⟨w.heap.size + 1, 0, none⟩ = some (.string ⟨#[]⟩) := XR.out.cell 0
          have r1 : wr.cell? ⟨w.heap.size + 1, 1, none⟩ = some (.slice none 0 0) := XR.out.cell 1
          have rf := XR.out.frozen
          clear hsl9 htk
          go_wp2_with fail
          refine bodyPost_ret (v := .agg #[.string s, .slice a9 (onL ls l).length c9]) (by simp [results, Try.results29, go_sem, World.cell?_setCell_same, World.cell?_setCell_other, r0, r1]) rfl ?_
          rw [HD.out]
          refine ⟨a9, c9, rfl, (S9.out.kept fun b hb => ?_).mono fun b hb _ => hb.imp id (fun h => by omega), (XE.out.setCell (by simp) _).setCell (by simp) _⟩
          have hbne : b ≠ w.heap.size + 1 := by
            rcases hb with h | h
            · have := h.2; omega
            · omega
          rw [Below.heap_setCell _ _ _ _ (by simpa using hbne), Below.heap_setCell _ _ _ _ (by simpa using hbne)]
#print axioms on_any
end Go.Proofs.Ytpjdkdebjkpmmaj

/- Walks: a term with bindings in it, if it isn't too great; whether bindings may be. -/
namespace Go.Proofs.Ytpjdkdebjkpmmaj
open Go.RowKit
set_option linter.unusedSimpArgs false
set_option linter.unusedVariables false
set_option maxRecDepth 8000

def OnAll (w : World) (X : Nat → Prop) (t : Tm) (e : Ending) (w' : World) : Prop :=
  Below w.heap.size w w' ∧ ((2000 < sizeL [t] ∧ e = .returned (.tuple #[.agg #[.string ⟨#[]⟩, .slice none 0 0], .bool false])) ∨ (sizeL [t] ≤ 2000 ∧ ∃ a c, e = .returned (.tuple #[.agg #[.string t.name, .slice a t.args.length c], .bool true]) ∧ Sl w' (fun b => (X b ∧ b < w.heap.size) ∨ w.heap.size ≤ b) a t.args))

set_option maxHeartbeats 1000000 in
theorem onAll_any (ls : List Bd) (t : Tm) (u v : Value) (w : World) (X : Nat → Prop) (hu : BV w X u ls) (hv : TV w X v t) (hsm : sizeL [t] ≤ 1000000) :
    Calls Try.prog 10 #[u, v] w fun e w' => OnAll w X (onT ls t) e w' := by
  obtain ⟨a, c, rfl, hs⟩ := hv
  have HU := hide (hu.mono (Y := fun b => X b ∧ b < w.heap.size) fun b h1 h2 => ⟨h1, h2⟩)
  have HS := hide (hs.mono (Y := fun b => X b ∧ b < w.heap.size) fun b h1 h2 => ⟨h1, h2⟩)
  clear hu hs
  go_enter Try.func10, Try.ntmps10
  go_wp2_with fail
  refine (grown_any ls t u _ 2000 _ (fun b => X b ∧ b < w.heap.size) (by exact (HU.out.alloc _).alloc _) (by exact ⟨a, c, rfl, (HS.out.later ((Below.refl _ _).alloc (Nat.le_refl _) _)).later ((Below.refl _ _).alloc (Nat.le_refl _) _)⟩) (by decide) (by decide)).mono ?_
  rintro e w1 ⟨rfl, hb1⟩
  have T1 := hide (((Blk.new w #[.string t.name, .slice a t.args.length c] 25).alloc (.cells #[.string ⟨#[]⟩, .slice none 0 0] 25)).below hb1 (by simp; omega))
  have R1 : Hid (Blk w1 (w.heap.size + 1) #[.string ⟨#[]⟩, .slice none 0 0] 25) := by
    have h := (Blk.new (w.alloc (.cells #[.string t.name, .slice a t.args.length c] 25)) #[.string ⟨#[]⟩, .slice none 0 0] 25).below hb1 (by simp)
    unfold Hid
    simpa using h
  have B1 := hide ((((Below.refl w.heap.size w).alloc (Nat.le_refl _) (.cells #[.string t.name, .slice a t.args.length c] 25)).alloc (by simp) (.cells #[.string ⟨#[]⟩, .slice none 0 0] 25)).trans (hb1.mono (by simp; omega)))
  clear hb1
  have t0 : w1.cell? ⟨w.heap.size, 0, none⟩ = some (.string t.name) := T1.out.cell 0
  have t1 : w1.cell? ⟨w.heap.size, 1, none⟩ = some (.slice a t.args.length c) := T1.out.cell 1
  have r0 : w1.cell? ⟨w.heap.size + 1, 0, none⟩ = some (.string ⟨#[]⟩) := R1.out.cell 0
  have r1 : w1.cell? ⟨w.heap.size + 1, 1, none⟩ = some (.slice none 0 0) := R1.out.cell 1
  have rf := R1.out.frozen
  by_cases hg : 2000 < sizeL [onT ls t]
  · have hmin : min (sizeL [onT ls t] : Int) (2000 + 1) = 2001 := by omega
    rw [hmin]
    go_wp2_with fail
    refine bodyPost_ret (v := .tuple #[.agg #[.string ⟨#[]⟩, .slice none 0 0], .bool false]) (by simp [results, Try.results10, go_sem, World.cell?_setCell_same, World.cell?_setCell_other, r0, r1]) rfl ?_
    exact ⟨(B1.out.setCell (by simp) _).setCell (by simp) _, Or.inl ⟨hg, rfl⟩⟩
  · have hmin : min (sizeL [onT ls t] : Int) (2000 + 1) = sizeL [onT ls t] := by omega
    rw [hmin]
    have hle : ¬ (2000 : Int) < (sizeL [onT ls t] : Int) := by omega
    clear hmin
    go_wp2_with fail
    refine (on_any ls t u _ _ (fun b => X b ∧ b < w.heap.size) (by exact HU.out.later B1.out) (by exact ⟨a, c, rfl, HS.out.later B1.out⟩) hsm).mono ?_
    rintro e w2 ⟨a2, c2, rfl, hs2, hb2⟩
    have R2 := hide (R1.out.below hb2 R1.out.lt)
    have B2 := hide (B1.out.trans (hb2.mono B1.out.size))
    have S2 := hide (hs2.mono (Y := fun b => (X b ∧ b < w.heap.size) ∨ w.heap.size + 2 ≤ b) fun b hb _ => hb.imp (fun h => h.1) (fun h => by have := R1.out.lt; omega))
    clear hb2 hs2 r0 r1 rf t0 t1
    have r0 : w2.cell? ⟨w.heap.size + 1, 0, none⟩ = some (.string ⟨#[]⟩) := R2.out.cell 0
    have r1 : w2.cell? ⟨w.heap.size + 1, 1, none⟩ = some (.slice none 0 0) := R2.out.cell 1
    have rf := R2.out.frozen
    go_wp2_with fail
    refine bodyPost_ret (v := .tuple #[.agg #[.string (onT ls t).name, .slice a2 (onT ls t).args.length c2], .bool true]) (by simp [results, Try.results10, go_sem, World.cell?_setCell_same, World.cell?_setCell_other, r0, r1]) rfl ?_
    refine ⟨(B2.out.setCell (by simp) _).setCell (by simp) _, Or.inr ⟨by omega, a2, c2, rfl, (S2.out.kept fun b hb => ?_).mono fun b hb _ => hb.imp id (fun h => by omega)⟩⟩
    have hbne : b ≠ w.heap.size + 1 := by
      rcases hb with h | h
      · have := h.2; omega
      · omega
    rw [Below.heap_setCell _ _ _ _ (by simpa using hbne), Below.heap_setCell _ _ _ _ (by simpa using hbne)]

#print axioms onAll_any
end Go.Proofs.Ytpjdkdebjkpmmaj


/- Walks: whether bindings may be, as the document says. -/
namespace Go.Proofs.Ytpjdkdebjkpmmaj
open Go.RowKit
set_option linter.unusedSimpArgs false
set_option linter.unusedVariables false
set_option maxRecDepth 8000

def BmInv (ls : List Bd) (w : World) (v : Value) (wr : World) : Prop := ∃ k : Nat, v = .int .i64 (k : Int) ∧ k ≤ ls.length ∧ bmT ls k = 0 ∧ Below w.heap.size w wr

theorem Below.drewN' {B : Nat} {a w : World} (h : Below B a w) (n : Nat) : Below B a (w.drewN n) := ⟨h.os, h.tape, h.output, h.size, h.block⟩

end Go.Proofs.Ytpjdkdebjkpmmaj


/- Walks: bindings sorted, as the document says. -/
namespace Go.Proofs.Ytpjdkdebjkpmmaj
open Go.RowKit
set_option linter.unusedSimpArgs false
set_option linter.unusedVariables false
set_option maxRecDepth 8000

theorem flat3_set (y : Bc) : ∀ (cs : List Bc) (i : Nat), i < cs.length → flat3 (cs.set i y) = (((flat3 cs).set (i * 3) (.string y.1.nm)).set (i * 3 + 1) (.string y.1.t.name)).set (i * 3 + 2) (.slice y.2.1 y.1.t.args.length y.2.2)
  | [], i, h => by simp at h
  | x :: r, 0, h => by simp [flat3, enc3]
  | x :: r, i + 1, h => by
    have ih := flat3_set y r i (by simpa using h)
    rw [List.set_cons_succ, flat3, flat3, ih]
    rw [show (i + 1) * 3 = i * 3 + 3 by omega, show i * 3 + 3 + 1 = (i * 3 + 1) + 3 by omega, show i * 3 + 3 + 2 = (i * 3 + 2) + 3 by omega]
    simp [enc3]
/-- The world with a binding stored in a row. -/
def put3 (w : World) (g i : Nat) (y : Bc) : World := (((w.setCell ⟨g, i * 3, none⟩ (.string y.1.nm)).setCell ⟨g, i * 3 + 1, none⟩ (.string y.1.t.name)).setCell ⟨g, i * 3 + 2, none⟩ (.slice y.2.1 y.1.t.args.length y.2.2))
theorem put3_block {w : World} {g i b : Nat} {y : Bc} (h : b ≠ g) : (put3 w g i y).heap[b]? = w.heap[b]? := by
  unfold put3
  rw [Below.heap_setCell _ _ _ _ (by simpa using h), Below.heap_setCell _ _ _ _ (by simpa using h), Below.heap_setCell _ _ _ _ (by simpa using h)]
theorem put3_size {w : World} {g i : Nat} {y : Bc} : (put3 w g i y).heap.size = w.heap.size := by simp [put3, World.setCell]
theorem put3_below {w0 w : World} {B g i : Nat} {y : Bc} (h : Below B w0 w) (hg : B ≤ g) : Below B w0 (put3 w g i y) := ((h.setCell (by exact hg) _).setCell (by exact hg) _).setCell (by exact hg) _
theorem Sl.put3 {w : World} {N g n cap i : Nat} {Y : Nat → Prop} {a : Option Addr} {l : List Tm} {y : Bc} (h : Sl w (fun b => Y b ∨ (N ≤ b ∧ some b ≠ (Value.slice (some ⟨g, 0, none⟩) n cap).ownBlock)) a l) (hY : ∀ b, Y b → b < N) (hg : N ≤ g) : Sl (put3 w g i y) (fun b => Y b ∨ (N ≤ b ∧ some b ≠ (Value.slice (some ⟨g, 0, none⟩) n cap).ownBlock)) a l :=
  h.kept fun b hb => put3_block (by
    rcases hb with hb | hb
    · have := hY b hb; omega
    · intro e; exact hb.2 (by simp [Value.ownBlock, e]))
theorem BRow.put {w : World} {N : Nat} {Y : Nat → Prop} {cs : List Bc} {g n cap : Nat} (h : BRow w N Y (.slice (some ⟨g, 0, none⟩) n cap) cs) (hY : ∀ b, Y b → b < N) (i : Nat) (hi : i < cs.length) (y : Bc) (hy : Sl w (fun b => Y b ∨ (N ≤ b ∧ some b ≠ (Value.slice (some ⟨g, 0, none⟩) n cap).ownBlock)) y.2.1 y.1.t.args) : BRow (put3 w g i y) N Y (.slice (some ⟨g, 0, none⟩) n cap) (cs.set i y) := by
  have hNg : N ≤ g := (h.own.lt g rfl).1
  refine ⟨?_, fun x hx => ?_⟩
  · rcases h.own.2 with ⟨e, _⟩ | ⟨g', cap', cur, e, hbase, hb, h1, h2, h3, h4⟩
    · cases e
    · simp at e
      obtain ⟨rfl, rfl, rfl⟩ := e
      have hB : Blk w g cur 46 := hb
      have hB' := ((hB.set (i * 3) (.string y.1.nm)).set (i * 3 + 1) (.string y.1.t.name)).set (i * 3 + 2) (.slice y.2.1 y.1.t.args.length y.2.2)
      refine ⟨flat3_length _, Or.inr ⟨g, cap, _, by simp, hbase, hB', by simpa using h1, h2, by simpa using h3, ?_⟩⟩
      rw [flat3_set y cs i hi, ← h4]
      simp [List.take_set]
  · rcases List.mem_or_eq_of_mem_set hx with h1 | h1
    · exact (h.row x h1).put3 hY hNg
    · rw [h1]; exact hy.put3 hY hNg
/-- Two of a row change places. -/
theorem BRow.swap {w : World} {N : Nat} {Y : Nat → Prop} {A B : List Bc} {x y : Bc} {g n cap : Nat} (h : BRow w N Y (.slice (some ⟨g, 0, none⟩) n cap) ((A ++ [y]) ++ x :: B)) (hY : ∀ b, Y b → b < N) : BRow (put3 (put3 w g (A.length + 1) y) g A.length x) N Y (.slice (some ⟨g, 0, none⟩) n cap) (A ++ x :: y :: B) := by
  have hNg : N ≤ g := (h.own.lt g rfl).1
  have h1 := h.put hY (A.length + 1) (by simp) y (h.row y (by simp))
  have h2 := h1.put hY A.length (by simp) x ((h.row x (by simp)).put3 hY hNg)
  have e : (((A ++ [y]) ++ x :: B).set (A.length + 1) y).set A.length x = A ++ x :: y :: B := by
    rw [List.set_append_right _ _ (by simp)]
    simp [List.set_append_right]
  rw [e] at h2
  exact h2

/-- None is ahead of one that stands ahead of it. -/
def Weak (l : List Bc) : Prop := l.Pairwise fun a b => ltB b.1.nm a.1.nm = false
theorem weak_ins {A B : List Bc} {x : Bc} (hw : Weak (A ++ B)) (hB : ∀ b ∈ B, ltB x.1.nm b.1.nm = true) (hA : ∀ a ∈ A, ltB x.1.nm a.1.nm = false) : Weak (A ++ x :: B) := by
  obtain ⟨h1, h2, h3⟩ := List.pairwise_append.1 hw
  refine List.pairwise_append.2 ⟨h1, List.pairwise_cons.2 ⟨fun b hb => ltB_asymm (hB b hb), h2⟩, fun a ha b hb => ?_⟩
  rcases List.mem_cons.1 hb with rfl | hb
  · exact hA a ha
  · exact h3 a ha b hb
theorem weak_last {A B : List Bc} {a x : Bc} (hw : Weak (A ++ [a] ++ B)) (h : ltB x.1.nm a.1.nm = false) : ∀ y ∈ A ++ [a], ltB x.1.nm y.1.nm = false := fun y hy => by
  rcases List.mem_append.1 hy with hy | hy
  · obtain ⟨h1, _⟩ := List.pairwise_append.1 hw
    exact ltB_ntrans h ((List.pairwise_append.1 h1).2.2 y hy a (by simp))
  · have e : y = a := by simpa using hy
    rw [e]; exact h

theorem BRow.atk {w : World} {N : Nat} {Y : Nat → Prop} {P Q : List Bc} {z : Bc} {g n cap : Nat} (h : BRow w N Y (.slice (some ⟨g, 0, none⟩) n cap) (P ++ z :: Q)) :
    w.cell? ⟨g, P.length * 3, none⟩ = some (.string z.1.nm) ∧ w.cell? ⟨g, P.length * 3 + 1, none⟩ = some (.string z.1.t.name) ∧ w.cell? ⟨g, P.length * 3 + 2, none⟩ = some (.slice z.2.1 z.1.t.args.length z.2.2) ∧ ∀ j, w.frozen? ⟨g, j, none⟩ = false := by
  obtain ⟨g', cap', e, _, _, hc⟩ := owned_val h.own (by simp only [List.length_append, List.length_cons]; omega)
  simp at e
  obtain ⟨rfl, _, rfl⟩ := e
  have hf : ∀ j, w.frozen? ⟨g, j, none⟩ = false := by
    rcases h.own.2 with ⟨e, _⟩ | ⟨g', cap', cur, e, _, hb, _⟩
    · cases e
    · simp at e
      obtain ⟨rfl, _, rfl⟩ := e
      intro j
      simp [World.frozen?, hb]
  have hg : ∀ j, j < 3 → (flat3 (P ++ z :: Q))[P.length * 3 + j]? = (enc3 z)[j]? := fun j hj => by
    rw [flat3_get _ P.length (by simp) j hj]
    simp
  exact ⟨hc _ _ (by have h0 := hg 0 (by decide); rw [Nat.add_zero] at h0; rw [h0]; rfl), hc _ _ (by rw [hg 1 (by decide)]; rfl), hc _ _ (by rw [hg 2 (by decide)]; rfl), hf⟩
theorem ins_perm {A B cs : List Bc} {x : Bc} {l : List Bd} (h : A ++ B = cs) (hp : (cs.map (·.1) ++ [x.1]).Perm l) : ((A ++ x :: B).map (·.1)).Perm l := by
  refine List.Perm.trans ?_ hp
  have h1 : (A ++ x :: B).Perm (cs ++ [x]) := by
    rw [← h]
    exact List.perm_middle.trans (List.perm_append_singleton x (A ++ B)).symm
  simpa using h1.map (·.1)

/-- What is known in the outer loop. -/
def SoInv (w : World) (Y : Nat → Prop) (ls : List Bd) (u v : Value) (wr : World) : Prop :=
  ∃ (k : Nat) (cs : List Bc), v = .int .i64 (k : Int) ∧ k ≤ ls.length ∧ BRow wr w.heap.size Y u cs ∧ (cs.map (·.1)).Perm (ls.take k) ∧ Weak cs ∧ Below w.heap.size w wr
/-- What is known in the inner loop. -/
def SiInv (w : World) (Y : Nat → Prop) (cs : List Bc) (x : Bc) (g cap : Nat) (v : Value) (wr : World) : Prop :=
  ∃ (A B : List Bc), v = .int .i64 (A.length : Int) ∧ A ++ B = cs ∧ (∀ b ∈ B, ltB x.1.nm b.1.nm = true) ∧ BRow wr w.heap.size Y (.slice (some ⟨g, 0, none⟩) (cs.length + 1) cap) (A ++ x :: B) ∧ Below w.heap.size w wr

end Go.Proofs.Ytpjdkdebjkpmmaj


/- Walks: UnifyOf. -/
namespace Go.Proofs.Ytpjdkdebjkpmmaj
open Go.RowKit
set_option linter.unusedSimpArgs false
set_option linter.unusedVariables false
set_option maxRecDepth 8000

def OaC (X : Nat → Prop) (t : Tm) (s1 : ByteArray) (a1 : Option Addr) (n1 c1 : Nat) (okb : Bool) (w w' : World) : Prop :=
  (okb = false ∧ 2000 < sizeL [t]) ∨ (okb = true ∧ sizeL [t] ≤ 2000 ∧ s1 = t.name ∧ n1 = t.args.length ∧ Sl w' (fun b => (X b ∧ b < w.heap.size) ∨ w.heap.size ≤ b) a1 t.args)
theorem onAll_at (X : Nat → Prop) (ls : List Bd) (t : Tm) (u : Value) (a : Option Addr) (c : Nat) (w : World) (hu : BV w X u ls) (hs : Sl w X a t.args) (hsm : sizeL [t] ≤ 1000000) :
    Calls Try.prog 10 #[u, .agg #[.string t.name, .slice a t.args.length c]] w fun e w' => ∃ s1 a1 n1 c1 okb, e = .returned (.tuple #[.agg #[.string s1, .slice a1 n1 c1], .bool okb]) ∧ Below w.heap.size w w' ∧ OaC X (onT ls t) s1 a1 n1 c1 okb w w' := by
  refine (onAll_any ls t u _ w X hu ⟨a, c, rfl, hs⟩ hsm).mono ?_
  rintro e w1 ⟨hb1, ⟨h1, rfl⟩ | ⟨h1, a1, c1, rfl, hs1⟩⟩
  · exact ⟨_, _, _, _, _, rfl, hb1, Or.inl ⟨rfl, h1⟩⟩
  · exact ⟨_, _, _, _, _, rfl, hb1, Or.inr ⟨rfl, h1, rfl, rfl, hs1⟩⟩

def UoPost (w : World) (R : Int × List Bd) (e : Ending) (w' : World) : Prop :=
  Below w.heap.size w w' ∧ ((R.1 = 0 ∧ ∃ v, e = .returned (.tuple #[v, .int .i64 0]) ∧ BV w' (fun _ => True) v R.2) ∨ (R.1 ≠ 0 ∧ e = .returned (.tuple #[.slice none 0 0, .int .i64 R.1])))
def UoInv (V : List ByteArray) (w : World) (R : Int × List Bd) (g : Nat) (sv lv : Value) (wr : World) : Prop :=
  ∃ (h : List (ByteArray × Tm)) (l : List Pr), UI V h l ∧ grtB (sAt h) = false ∧ uRun true g (sAt h) l = some R ∧ BV wr (fun _ => True) sv (sAt h) ∧ QV wr (fun _ => True) lv l ∧ Below w.heap.size w wr
theorem uRun_next {lim : Bool} {g : Nat} {s : List Bd} {p : Pr} {l : List Pr} {R : Int × List Bd} (h : uRun lim g s (p :: l) = some R) : ∃ g', g = g' + 1 ∧ ((∃ e s', uPair lim s l (onT s p.l) (onT s p.r) = .stop e s' ∧ R = (e, s')) ∨ ∃ s' l', uPair lim s l (onT s p.l) (onT s p.r) = .go s' l' ∧ uRun lim g' s' l' = some R) := by
  cases g with
  | zero => cases h
  | succ g =>
    refine ⟨g, rfl, ?_⟩
    rw [uRun, uNext_cons] at h
    cases hn : uPair lim s l (onT s p.l) (onT s p.r) with
    | stop e s' => rw [hn] at h; cases h; exact Or.inl ⟨e, s', rfl, rfl⟩
    | go s' l' => rw [hn] at h; exact Or.inr ⟨s', l', rfl, h⟩
/-- What the run says of two sides. -/
theorem uRun_pair {lim : Bool} {g : Nat} {s : List Bd} {p : Pr} {l : List Pr} {R : Int × List Bd} {a b : Tm} (h : uRun lim g s (p :: l) = some R) (ha : onT s p.l = a) (hb : onT s p.r = b) : ∃ g', g = g' + 1 ∧ ((∃ e s', uPair lim s l a b = .stop e s' ∧ R = (e, s')) ∨ ∃ s' l', uPair lim s l a b = .go s' l' ∧ uRun lim g' s' l' = some R) := by
  subst ha; subst hb; exact uRun_next h

theorem grt_le {s : List Bd} (h : grtB s = false) {d : Bd} (hd : d ∈ s) : sizeL [d.t] ≤ 2000 := by
  unfold grtB at h
  rw [List.any_eq_false] at h
  have := h d hd
  simp at this
  exact this
theorem zip_len2 : ∀ {a b : List Tm}, a.length = b.length → (zipP a b).length = a.length
  | [], [], _ => rfl
  | [], _ :: _, h => by simp at h
  | _ :: _, [], h => by simp at h
  | t :: a, u :: b, h => by rw [zipP, List.length_cons, zip_len2 (by simpa using h), List.length_cons]
theorem zip_get2 : ∀ {a b : List Tm} (k : Nat) (h1 : k < a.length) (h2 : k < b.length) {h3 : k < (zipP a b).length}, (zipP a b)[k] = ⟨a[k], b[k]⟩
  | [], _, k, h, _, _ => by simp at h
  | _ :: _, [], k, _, h, _ => by simp at h
  | t :: a, u :: b, 0, _, _, _ => rfl
  | t :: a, u :: b, k + 1, h1, h2, h3 => by
    have := zip_get2 (a := a) (b := b) k (by simpa using h1) (by simpa using h2) (h3 := by simpa [zipP] using h3)
    simpa [zipP] using this
/-- What a round reads. -/
def FvD (A B b1 b2 p1 p2 o1 o2 n1 n2 : Nat) (tA tB : Tm) (y1 y2 : Option Addr) (k1 k2 d1 d2 : Nat) (w' : World) : Prop :=
  w'.cell? ⟨A, 1, none⟩ = some (.slice (some ⟨b1, o1, none⟩) n1 k1) ∧ w'.cell? ⟨b1, p1, none⟩ = some (.string tA.name) ∧ w'.cell? ⟨b1, p1 + 1, none⟩ = some (.slice y1 tA.args.length d1) ∧ w'.cell? ⟨B, 1, none⟩ = some (.slice (some ⟨b2, o2, none⟩) n2 k2) ∧ w'.cell? ⟨b2, p2, none⟩ = some (.string tB.name) ∧ w'.cell? ⟨b2, p2 + 1, none⟩ = some (.slice y2 tB.args.length d2)
/-- What is known while pairs are laid. -/
def UdInv (w4 : World) (lA lB : List Tm) (u i : Value) (wq : World) : Prop :=
  ∃ (k : Nat) (cs : List Pc), i = .int .i64 (k : Int) ∧ k ≤ lA.length ∧ QRow wq w4.heap.size (fun b => b < w4.heap.size) u cs ∧ cs.map (·.1) = (zipP lA lB).take k ∧ Below w4.heap.size w4 wq
theorem cons_eq2 {a b : Value} {l k : List Value} (h : a = b) (h2 : l = k) : a :: l = b :: k := by rw [h, h2]
theorem sAt_len : ∀ h : List (ByteArray × Tm), (sAt h).length = h.length := fun h => by
  obtain ⟨k, hk⟩ : ∃ k : List (ByteArray × Tm), k.reverse = h := ⟨h.reverse, List.reverse_reverse h⟩
  subst hk
  induction k with
  | nil => simp [sAt]
  | cons p r ih =>
    rw [List.reverse_cons, sAt_snoc]
    unfold addS
    rw [(srtB_perm _).length_eq]
    simp [ih]
theorem bv_one2 {w : World} {B : Nat} {n : ByteArray} {t : Tm} {a : Option Addr} {c T : Nat} (h : Blk w B #[.string n, .string t.name, .slice a t.args.length c] T) (hs : Sl w (fun _ => True) a t.args) : BV w (fun _ => True) (.slice (some ⟨B, 0, none⟩) 1 1) [⟨n, t⟩] := by
  refine ⟨some ⟨B, 0, none⟩, 1, rfl, by simp, Or.inr ⟨B, 0, rfl, trivial, fun i hi => ?_⟩⟩
  have e : i = 0 := by simp at hi; omega
  subst e
  exact ⟨h.cell 0, h.cell 1, a, c, h.cell 2, hs⟩
/-- What is known while a binding is put into the others. -/
def UbInv (w7 : World) (s : List Bd) (x : ByteArray) (t : Tm) (u i : Value) (wq : World) : Prop :=
  ∃ (k : Nat) (cs : List Bc), i = .int .i64 (k : Int) ∧ k ≤ s.length ∧ BRow wq w7.heap.size (fun b => b < w7.heap.size) u cs ∧ cs.map (·.1) = (s.take k).map (putB x t) ∧ (∀ d ∈ s.take k, sizeL [onT [⟨x, t⟩] d.t] ≤ 2000) ∧ Below w7.heap.size w7 wq

end Go.Proofs.Ytpjdkdebjkpmmaj


/- Walks: two answers that are terms. -/
namespace Go.Proofs.Ytpjdkdebjkpmmaj
open Go.RowKit
set_option linter.unusedSimpArgs false
set_option linter.unusedVariables false

end Go.Proofs.Ytpjdkdebjkpmmaj


/- Walks: bindings that are the same; two answers that are bindings. -/
namespace Go.Proofs.Ytpjdkdebjkpmmaj
open Go.RowKit
set_option linter.unusedSimpArgs false
set_option linter.unusedVariables false
set_option maxRecDepth 8000

def SmbInv (ls : List Bd) (w : World) (v : Value) (wr : World) : Prop := ∃ k : Nat, v = .int .i64 (k : Int) ∧ k ≤ ls.length ∧ Below w.heap.size w wr

end Go.Proofs.Ytpjdkdebjkpmmaj
