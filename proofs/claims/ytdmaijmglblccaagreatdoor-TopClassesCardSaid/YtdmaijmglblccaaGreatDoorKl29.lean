/- Walks: the parts of each term by their numbers (ClosureOf, its middle part). -/
import Derived.Test.YtdmaijmglblccaaGreatDoorKl28
import Derived.Test.YtdmaijmglblccaaGreatDoorKl26
import Derived.Laws.MakeOwn
namespace Go.Proofs.YtdmaijmglblccaaGreatDoor
open Go.RowKit
set_option linter.unusedSimpArgs false
set_option linter.unusedVariables false
set_option maxRecDepth 8000

theorem own_litK (w : World) (N T n : Nat) (cs : Array Value) (hN : N ≤ w.heap.size) (hn : cs.size = n) (hm : n ≤ maxLen) : (w.alloc (.cells cs T)).ownsRow N T 1 (.slice (some ⟨w.heap.size, 0, none⟩) n n) n cs.toList :=
  ⟨by simpa using hn, Or.inr ⟨w.heap.size, n, cs, rfl, hN, heap_alloc_new w _, Nat.le_refl _, hm, by omega, by rw [Nat.mul_one, ← hn, ← Array.length_toList, List.take_length]⟩⟩
/-- The rows of numbers while they are made. -/
structure BwI (N gb n : Nat) (R : Nat → List Nat) (vb : List Value) (o : Nat → Oid) (w : World) : Prop where
  top : Rwo w N o (4, 0) 45 1 (.slice (some ⟨gb, 0, none⟩) n n) n vb
  row : ∀ i, i < n → Rwo w N o (8, i) 3 1 (gd vb nV i) (iL (R i)).length (iL (R i))
  lo : ∀ b, b < N → o b = eX
theorem BwI.later {N gb n : Nat} {R : Nat → List Nat} {vb : List Value} {o : Nat → Oid} {w w' : World} (h : BwI N gb n R vb o w) (hb : Below w.heap.size w w') : BwI N gb n R vb o w' :=
  ⟨h.top.later hb, fun i hi => (h.row i hi).later hb, h.lo⟩
theorem BwI.congr {N gb n : Nat} {R S : Nat → List Nat} {vb : List Value} {o : Nat → Oid} {w : World} (h : BwI N gb n R vb o w) (e : ∀ i, i < n → S i = R i) : BwI N gb n S vb o w :=
  ⟨h.top, fun i hi => by rw [e i hi]; exact h.row i hi, h.lo⟩
theorem gd_rep {α : Type} (n : Nat) (v : α) (i : Nat) (h : i < n) : gd (List.replicate n v) v i = v := by
  rw [gd_get (by simpa using h)]; simp
theorem BwI.start (w : World) (n : Nat) (hn : n ≤ 20000) : BwI w.heap.size w.heap.size n (fun _ => []) (List.replicate n nV) (fun b => if b = w.heap.size then (4, 0) else eX) (w.alloc (.cells (Array.replicate n (Value.slice none 0 0)) 45)) := by
  refine ⟨⟨?_, fun b hb => ?_⟩, fun i hi => ?_, fun b hb => if_neg (by omega)⟩
  · have := own_litK w w.heap.size 45 n (Array.replicate n (Value.slice none 0 0)) (Nat.le_refl _) (by simp) (by unfold maxLen; omega)
    rwa [Array.toList_replicate] at this
  · have e : w.heap.size = b := by simpa [Value.ownBlock] using hb
    exact if_pos e.symm
  · rw [gd_rep n nV i hi]
    exact Rwo.nil _ _ _ _ _ _
theorem BwI.push {N gb n : Nat} {R : Nat → List Nat} {vb : List Value} {o : Nat → Oid} {w : World} (h : BwI N gb n R vb o w) {i : Nat} (hi : i < n) (hN : N ≤ w.heap.size) (hl : (R i).length ≤ 900000) (x : Nat) :
    ∃ g cap w3, (Builtin.append_ #[45, 45] 45 #[gd vb nV i, .slice (some ⟨w.heap.size, 0, none⟩) 1 1]).run Tryz.prog (w.alloc (.cells #[.int .i64 (x : Int)] 3)) = .ok (.slice (some ⟨g, 0, none⟩) ((R i).length + 1) cap) w3 ∧ w3.cell? ⟨gb, i, none⟩ = some (gd vb nV i) ∧ w3.frozen? ⟨gb, i, none⟩ = false ∧ gb < w3.heap.size ∧ Below N w w3 ∧
      (∃ vb' o', BwI N gb n (fun j => if j = i then R i ++ [x] else R j) vb' o' (w3.setCell ⟨gb, i, none⟩ (.slice (some ⟨g, 0, none⟩) ((R i).length + 1) cap))) ∧ Below N w (w3.setCell ⟨gb, i, none⟩ (.slice (some ⟨g, 0, none⟩) ((R i).length + 1) cap)) := by
  obtain ⟨g, cap, w3, hr, ho, hf⟩ := app_cell Tryz.underlying45 Tryz.infoInt rfl (by decide) (h.row i hi) hN (by rw [iL_len]; omega) (iV x) rfl
  rw [iL_len] at hr ho hf
  have e : iL (R i) ++ [iV x] = iL (R i ++ [x]) := by simp [iL]
  rw [e] at ho
  obtain ⟨o2, ho2⟩ : ∃ o2, o2 = upV o (.slice (some ⟨g, 0, none⟩) ((R i).length + 1) cap) (8, i) := ⟨_, rfl⟩
  rw [← ho2] at ho hf
  have ht := h.top.fr hf (by simp)
  obtain ⟨g', u, e1, hu, hc, hz, -, hlt, hge⟩ := ht.at hi
  cases e1
  have hue : u = gd vb nV i := by unfold gd; rw [hu]; rfl
  rw [hue] at hc
  obtain ⟨ht2, hf2⟩ := ht.put i (.slice (some ⟨g, 0, none⟩) ((R i).length + 1) cap)
  have hlo2 : ∀ b, b < N → o2 b = eX := fun b hb => (hf.blk b (by omega) (by rw [h.lo b hb]; simp)).2.trans (h.lo b hb)
  have hvl : vb.length = n := by simpa using h.top.1.1
  have hb3 : Below N w w3 := ⟨hf.os, hf.tape, hf.output, hf.size, fun b hb => (hf.blk b (by omega) (by rw [h.lo b hb]; simp)).1⟩
  refine ⟨g, cap, w3, hr, hc, hz, hlt, hb3, ⟨_, o2, ht2, fun j hj => ?_, hlo2⟩, hb3.setCell (p := ⟨gb, i, none⟩) hge _⟩
  by_cases hji : j = i
  · subst hji
    rw [if_pos rfl, gd_set (by omega)]
    have := ho.fr hf2 (by simp)
    rw [iL_len] at this ⊢
    rw [show (R j ++ [x]).length = (R j).length + 1 by simp] at this ⊢
    exact this
  · rw [if_neg hji, gd_set_ne (fun e => hji e.symm)]
    exact ((h.row j hj).fr hf (by simp [hji])).fr hf2 (by simp)
theorem AdI.tm {N A T n : Nat} {L : List Tm} {tx : List ByteArray} {oa : Option Addr} {oc : Nat} {ev : Value} {w : World} (h : AdI N A T L tx (.slice oa n oc) ev w) (hn : L.length = n) {i : Nat} (hi : i < n) : ∃ g ax cx, oa = some ⟨g, 0, none⟩ ∧ N ≤ g ∧ w.cell? ⟨g, i * 2, none⟩ = some (.string (gd L noK i).name) ∧ w.cell? ⟨g, i * 2 + 1, none⟩ = some (.slice ax (gd L noK i).args.length cx) ∧ Sl w (fun b => b < N) ax (gd L noK i).args ∧ some g = (Value.slice oa n oc).ownBlock := by
  obtain ⟨xs, hR⟩ := h.ra
  obtain ⟨g, cap, ax, cx, e, h1, h2, h3, h4⟩ := rowH_at hR (show i < L.length by omega)
  rw [← gd_get (d := noK) (show i < L.length by omega)] at h1 h2 h3
  cases e
  exact ⟨g, ax, cx, rfl, (hR.own.lt g rfl).1, h1, h2, h3, rfl⟩
theorem AdI.sl {N A T n : Nat} {L : List Tm} {tx : List ByteArray} {oa : Option Addr} {oc : Nat} {ev : Value} {w : World} (h : AdI N A T L tx (.slice oa n oc) ev w) (hn : L.length = n) {Y : Nat → Prop} (hY : ∀ b, b < N → Y b) (hY2 : ∀ b, some b = (Value.slice oa n oc).ownBlock → Y b) : Sl w Y oa L := by
  obtain ⟨xs, hR⟩ := h.ra
  by_cases h0 : L = []
  · subst h0; exact ⟨by simp, Or.inl rfl⟩
  · have hp : 0 < L.length := List.length_pos_iff.2 h0
    obtain ⟨g, cap, e, h1, h2, h3⟩ := owned_val hR.own hp
    cases e
    have hm := hR.own
    rcases hm.2 with ⟨e, _⟩ | ⟨g', cap', cur, e, _, _, hnc, hcm, _⟩
    · cases e
    · unfold maxLen at hcm
      refine ⟨by omega, Or.inr ⟨g, 0, rfl, lies_of_rowT g (hY2 g rfl) L xs 0 hR.row (fun a k hs => hs.mono fun b hb _ => hY b hb) fun j u hj => by rw [Nat.zero_add]; exact h3 j u hj⟩⟩
end Go.Proofs.YtdmaijmglblccaaGreatDoor
