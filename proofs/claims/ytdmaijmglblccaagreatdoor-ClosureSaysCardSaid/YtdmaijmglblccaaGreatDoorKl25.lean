/- The document's ClosureOf: plain, and memory. -/
import Derived.Test.YtdmaijmglblccaaGreatDoorZClosureSaysOwn
import Derived.Test.YtdmaijmglblccaaGreatDoorKl22
import Derived.Test.YtdmaijmglblccaaGreatDoorRc2
namespace Go.Proofs.YtdmaijmglblccaaGreatDoor
open Go.RowKit
set_option linter.unusedSimpArgs false
set_option linter.unusedVariables false
set_option maxRecDepth 8000

/-- The place of each text. -/
def ixK (ks : List ByteArray) : List (ByteArray × Value) := ks.zipIdx.map fun p => (p.1, .int .i64 (p.2 : Int))
theorem ixK_snoc (ks : List ByteArray) (s : ByteArray) : ixK (ks ++ [s]) = ixK ks ++ [(s, .int .i64 (ks.length : Int))] := by simp [ixK, List.zipIdx_append]
theorem mapGet_appK (L K : List (ByteArray × Value)) (n : ByteArray) : mapGet (L ++ K) n = (mapGet L n).or (mapGet K n) := by
  induction L with
  | nil => simp [mapGet]
  | cons p L ih =>
    by_cases h : p.1 = n
    · simp [mapGet, h]
    · simp [mapGet, h, ih]
theorem snocK {α : Type} {P : List α → Prop} (h0 : P []) (h1 : ∀ l a, P l → P (l ++ [a])) (l : List α) : P l := by
  have h : ∀ r : List α, P r.reverse := by
    intro r
    induction r with
    | nil => simpa using h0
    | cons a r ih => rw [List.reverse_cons]; exact h1 _ _ ih
  have := h l.reverse
  rwa [List.reverse_reverse] at this
theorem ixK_none {s : ByteArray} (ks : List ByteArray) : s ∉ ks → mapGet (ixK ks) s = none := by
  refine snocK (P := fun ks => s ∉ ks → mapGet (ixK ks) s = none) (fun _ => rfl) (fun ks k ih h => ?_) ks
  have h1 : s ∉ ks := fun e => h (by simp [e])
  have h2 : ¬ k = s := fun e => h (by simp [e])
  rw [ixK_snoc, mapGet_appK, ih h1]
  simp [mapGet, h2]
theorem ixK_get (ks : List ByteArray) : ks.Nodup → ∀ (i : Nat) (hi : i < ks.length), mapGet (ixK ks) ks[i] = some (.int .i64 (i : Int)) := by
  refine snocK (P := fun ks => ks.Nodup → ∀ (i : Nat) (hi : i < ks.length), mapGet (ixK ks) ks[i] = some (.int .i64 (i : Int))) (fun _ i hi => by simp at hi) (fun ks k ih hn i hi => ?_) ks
  rw [List.nodup_append] at hn
  rw [ixK_snoc, mapGet_appK]
  by_cases h : i < ks.length
  · rw [List.getElem_append_left h, ih hn.1 i h]
    rfl
  · have e : i = ks.length := by simp at hi; omega
    subst e
    rw [List.getElem_append_right (by omega)]
    simp only [Nat.sub_self, List.getElem_cons_zero]
    rw [ixK_none ks fun hk => hn.2.2 k hk k (by simp) rfl]
    simp [mapGet]
theorem pre_errK (l : List Tm) : ∀ {u : Tm}, errL l = 0 → u ∈ preL l → errL [u] = 0 := by
  induction l using Tm.indL with
  | h0 => intro u _ h; simp [preL] at h
  | h s a r iha ihr =>
    intro u he hu
    have e : preL ((⟨s, a⟩ : Tm) :: r) = ⟨s, a⟩ :: (preL a ++ preL r) := by simp [preL]
    rw [errL_cons] at he
    split at he
    · rename_i h0
      rw [e] at hu
      rcases List.mem_cons.1 hu with rfl | hu
      · exact h0
      · rcases List.mem_append.1 hu with hu | hu
        · exact iha (errL_parts0 h0) hu
        · exact ihr he hu
    · exact absurd he (by assumption)
/-- So many are taken in. -/
structure AdP (ys L : List Tm) : Prop where
  nd : L.Nodup
  mem : ∀ x, x ∈ L ↔ x ∈ ys
  le : L.length ≤ ys.length
theorem AdP.nil : AdP [] [] := ⟨List.nodup_nil, fun x => Iff.rfl, Nat.le_refl _⟩
theorem AdP.old {ys L : List Tm} {y : Tm} (h : AdP ys L) (he : ∀ x ∈ ys, errL [x] = 0) (hy : errL [y] = 0) (hi : inB (txB y) (L.map txB) = true) : AdP (ys ++ [y]) L := by
  refine ⟨h.nd, fun x => ⟨fun hx => by simp [(h.mem x).1 hx], fun hx => ?_⟩, by have := h.le; simp; omega⟩
  rcases List.mem_append.1 hx with hx | hx
  · exact (h.mem x).2 hx
  · simp at hx
    obtain ⟨z, hz, e⟩ := List.mem_map.1 (inB_mem8.1 hi)
    have := txB_inj (he z ((h.mem z).1 hz)) hy e
    rw [hx, ← this]; exact hz
theorem AdP.new {ys L : List Tm} {y : Tm} (h : AdP ys L) (hi : inB (txB y) (L.map txB) = false) : AdP (ys ++ [y]) (L ++ [y]) := by
  refine ⟨List.nodup_append.2 ⟨h.nd, by simp, fun a ha b hb e => ?_⟩, fun x => by simp [h.mem x], by have := h.le; simp; omega⟩
  simp at hb
  have h1 : inB (txB y) (L.map txB) = true := inB_mem8.2 (List.mem_map.2 ⟨a, ha, by rw [e, hb]⟩)
  rw [hi] at h1; cases h1
theorem AdP.txnd {ys L : List Tm} (h : AdP ys L) (he : ∀ x ∈ ys, errL [x] = 0) : (L.map txB).Nodup := by
  rw [List.nodup_iff_pairwise_ne, List.pairwise_map]
  refine List.Pairwise.imp_of_mem (fun {a b} ha hb hne e => hne (txB_inj (he a ((h.mem a).1 ha)) (he b ((h.mem b).1 hb)) e)) (List.nodup_iff_pairwise_ne.1 h.nd)
/-- A term's place. -/
def plK (L : List Tm) (t : Tm) : Nat := (L.map fun u => txtL [u]).idxOf (txtL [t])
theorem plK_lt {L : List Tm} {t : Tm} (h : t ∈ L) : plK L t < L.length := by
  have := List.idxOf_lt_length_iff.2 (List.mem_map.2 ⟨t, h, rfl⟩ : txtL [t] ∈ L.map fun u => txtL [u])
  simpa [plK] using this
theorem plK_tx {L : List Tm} {t : Tm} (h : t ∈ L) (hm : plK L t < (L.map txB).length) : (L.map txB)[plK L t] = txB t := by
  have hm2 : plK L t < (L.map fun u => txtL [u]).length := by simpa using hm
  have h1 : (L.map fun u => txtL [u])[plK L t] = txtL [t] := List.getElem_idxOf hm2
  rw [List.getElem_map] at h1 ⊢
  unfold txB
  rw [h1]
theorem plK_at {L : List Tm} {t : Tm} (h : t ∈ L) (he : ∀ x ∈ L, errL [x] = 0) : gd L noK (plK L t) = t := by
  have hl := plK_lt h
  have hm : plK L t < (L.map txB).length := by simpa using hl
  have h1 := plK_tx h hm
  rw [List.getElem_map] at h1
  rw [gd_get hl]
  exact txB_inj (he _ (List.getElem_mem hl)) (he _ h) h1
/-- The parts by their places. -/
def blK (L : List Tm) : List (List Nat) := L.map fun t => t.args.map (plK L)
theorem blK_ok {L : List Tm} (he : ∀ x ∈ L, errL [x] = 0) (hc : ∀ t ∈ L, ∀ x ∈ t.args, x ∈ L) : BlK L (blK L) := by
  intro i hi
  have e : gd (blK L) [] i = (gd L noK i).args.map (plK L) := by
    unfold blK
    rw [gd_map (e := []) (f := fun t : Tm => t.args.map (plK L)) (d := noK) hi]
  have hm : gd L noK i ∈ L := gd_mem hi
  rw [e]
  refine ⟨?_, fun b hb => ?_⟩
  · rw [List.map_map]
    have : List.map (gd L noK ∘ plK L) (gd L noK i).args = List.map id (gd L noK i).args := List.map_congr_left fun x hx => plK_at (hc _ hm x hx) he
    rw [this, List.map_id]
  · obtain ⟨x, hx, rfl⟩ := List.mem_map.1 hb
    exact plK_lt (hc _ hm x hx)
theorem look_plK {w : World} {r : Nat} {L : List Tm} (h : MapAt w r (ixK (L.map txB))) (hn : (L.map txB).Nodup) {x : Tm} (hx : x ∈ L) : (Instr.lookup 63 (.map (some r)) (.string (txB x)) false).run Tryz.prog w = .ok (.int .i64 ((plK L x : Nat) : Int)) w := by
  have hl := plK_lt hx
  have hm : plK L x < (L.map txB).length := by simpa using hl
  have h1 := plK_tx hx hm
  have h2 := ixK_get (L.map txB) hn _ hm
  rw [h1] at h2
  rw [run_look1 (P := Tryz.prog) Tryz.underlying63 Tryz.underlying9 (Tryz.zeroValue3 w) h, h2]
  rfl
/-- All terms, and their texts, in two boxes. -/
structure AdI (N A T : Nat) (L : List Tm) (tx : List ByteArray) (ov ev : Value) (w : World) : Prop where
  ra : ∃ xs, RowH w N (fun b => b < N) ov L xs
  rt : w.ownsRow N 9 1 ev tx.length (tx.map Value.string)
  ba : Blk w A #[ov] 23
  bt : Blk w T #[ev] 31
  ne : ∀ b, ov.ownBlock = some b → ev.ownBlock ≠ some b
  oa : ov.ownBlock ≠ some A
  ot : ov.ownBlock ≠ some T
  ea : ev.ownBlock ≠ some A
  et : ev.ownBlock ≠ some T
  nAT : A ≠ T
  hA : N ≤ A
  hT : N ≤ T
theorem AdI.later {N A T : Nat} {L : List Tm} {tx : List ByteArray} {ov ev : Value} {w w' : World} (h : AdI N A T L tx ov ev w) (hb : Below w.heap.size w w') : AdI N A T L tx ov ev w' := by
  obtain ⟨xs, h1⟩ := h.ra
  exact ⟨⟨xs, h1.below hb⟩, ownsRow_at h.rt fun g hg => hb.block g (h.rt.lt g hg).2, h.ba.below hb h.ba.lt, h.bt.below hb h.bt.lt, h.ne, h.oa, h.ot, h.ea, h.et, h.nAT, h.hA, h.hT⟩
/-- What may have changed. -/
def ChK (A T : Nat) (ov ev : Value) (b : Nat) : Prop := some b = ov.ownBlock ∨ some b = ev.ownBlock ∨ b = A ∨ b = T
/-- A text more. -/
theorem AdI.pushS {N A T : Nat} {L : List Tm} {tx : List ByteArray} {ov ev : Value} {w : World} (h : AdI N A T L tx ov ev w) (hN : N ≤ w.heap.size) (hl : tx.length ≤ 100000) (s : ByteArray) :
    ∃ g cap w3, (Builtin.append_ #[31, 31] 31 #[ev, .slice (some ⟨w.heap.size, 0, none⟩) 1 1]).run Tryz.prog (w.alloc (.cells #[.string s] 9)) = .ok (.slice (some ⟨g, 0, none⟩) (tx.length + 1) cap) w3 ∧ Blk w3 T #[ev] 31 ∧
      AdI N A T L (tx ++ [s]) ov (.slice (some ⟨g, 0, none⟩) (tx.length + 1) cap) (w3.setCell ⟨T, 0, none⟩ (.slice (some ⟨g, 0, none⟩) (tx.length + 1) cap)) ∧ ExQ (ChK A T ov ev) w (w3.setCell ⟨T, 0, none⟩ (.slice (some ⟨g, 0, none⟩) (tx.length + 1) cap)) ∧ (ev.ownBlock = some g ∨ w.heap.size ≤ g) := by
  obtain ⟨xs, hR⟩ := h.ra
  have holt := hR.own.lt
  have helt := h.rt.lt
  have hAl := h.ba.lt
  have hTl := h.bt.lt
  obtain ⟨g, cap, w3, hr, hS3, he, hat⟩ := app_strH (s := s) h.rt hN hl
  have hge : ov.ownBlock ≠ some g := fun e => by
    rcases hat with e2 | e2
    · exact h.ne g e e2
    · have := (holt g e).2; omega
  have hgA : g ≠ A := fun e => by
    rcases hat with e2 | e2
    · exact h.ea (by rw [e2, e])
    · omega
  have hgT : g ≠ T := fun e => by
    rcases hat with e2 | e2
    · exact h.et (by rw [e2, e])
    · omega
  have hT3 : Blk w3 T #[ev] 31 := h.bt.exq he fun e => h.et e.symm
  have he2 : ExQ (fun b => b = T) w3 (w3.setCell ⟨T, 0, none⟩ (.slice (some ⟨g, 0, none⟩) (tx.length + 1) cap)) := (ExQ.refl (fun b => b = T) _).set (B := T) rfl _ _
  have hx : ExQ (ChK A T ov ev) w (w3.setCell ⟨T, 0, none⟩ (.slice (some ⟨g, 0, none⟩) (tx.length + 1) cap)) := (he.mono fun b e _ => Or.inr (Or.inl e)).transN he2 fun b e _ => Or.inr (Or.inr (Or.inr e))
  refine ⟨g, cap, w3, hr, hT3, ⟨⟨xs, ?_⟩, ?_, ?_, ?_, fun b hb e => ?_, h.oa, h.ot, fun e => hgA (by simpa [Value.ownBlock] using e), fun e => hgT (by simpa [Value.ownBlock] using e), h.nAT, h.hA, h.hT⟩, hx, hat.imp id fun e => by omega⟩
  · refine (hR.exq he (fun b e1 e2 => h.ne b e1 e2.symm) fun b hb e => ?_).exq he2 (fun b e1 e2 => h.ot (by rw [e1, e2])) fun b hb e => ?_
    · have := (helt b e.symm).1; have : b < N := hb; omega
    · have := h.hT; have : b < N := hb; omega
  · exact ownsRow_at hS3 fun b hb => he2.block b (hS3.lt b hb).2 fun e => hgT (by have e3 : g = b := by simpa [Value.ownBlock] using hb
                                                                                  rw [e3, e])
  · exact (h.ba.exq he fun e => h.ea e.symm).exq he2 fun e => h.nAT e
  · have := hT3.set 0 (.slice (some ⟨g, 0, none⟩) (tx.length + 1) cap)
    simpa using this
  · have e3 : g = b := by simpa [Value.ownBlock] using e
    subst e3
    exact hge hb
theorem setCell_commK (w : World) {a b : Addr} (h : a.block ≠ b.block) (u v : Value) : (w.setCell a u).setCell b v = (w.setCell b v).setCell a u := by
  unfold World.setCell
  congr 1
  apply Array.ext
  · simp
  · intro i h1 h2
    simp only [Array.getElem_modify]
    by_cases e1 : a.block = i
    · by_cases e2 : b.block = i
      · exact absurd (e1.trans e2.symm) h
      · simp [e1, e2]
    · simp [e1]
/-- A term more: by a term of nothing, which is then stored into. -/
theorem AdI.pushZ {N A T : Nat} {L : List Tm} {tx : List ByteArray} {ov ev : Value} {w : World} (h : AdI N A T L tx ov ev w) (hN : N ≤ w.heap.size) (hl : L.length ≤ 100000) {y : Tm} {a1 : Option Addr} {c : Nat} (hy : Sl w (fun b => b < N) a1 y.args) :
    ∃ g cap w3, (Builtin.append_ #[23, 23] 23 #[ov, .slice (some ⟨w.heap.size, 0, none⟩) 1 1]).run Tryz.prog (w.alloc (.cells #[.string ⟨#[]⟩, .slice none 0 0] 25)) = .ok (.slice (some ⟨g, 0, none⟩) (L.length + 1) cap) w3 ∧ Blk w3 A #[ov] 23 ∧ g ≠ A ∧ (ov.ownBlock = some g ∨ w.heap.size ≤ g) ∧ g < w3.heap.size ∧ (∀ i, w3.frozen? ⟨g, i, none⟩ = false) ∧ w3.cell? ⟨g, L.length * 2, none⟩ = some (.string ⟨#[]⟩) ∧ w3.cell? ⟨g, L.length * 2 + 1, none⟩ = some (.slice none 0 0) ∧ ExQ (fun b => some b = ov.ownBlock) w w3 ∧
      AdI N A T (L ++ [y]) tx (.slice (some ⟨g, 0, none⟩) (L.length + 1) cap) ev (((w3.setCell ⟨A, 0, none⟩ (.slice (some ⟨g, 0, none⟩) (L.length + 1) cap)).setCell ⟨g, L.length * 2, none⟩ (.string y.name)).setCell ⟨g, L.length * 2 + 1, none⟩ (.slice a1 y.args.length c)) ∧
      ExQ (ChK A T ov ev) w (((w3.setCell ⟨A, 0, none⟩ (.slice (some ⟨g, 0, none⟩) (L.length + 1) cap)).setCell ⟨g, L.length * 2, none⟩ (.string y.name)).setCell ⟨g, L.length * 2 + 1, none⟩ (.slice a1 y.args.length c)) := by
  obtain ⟨xs, hR⟩ := h.ra
  have holt := hR.own.lt
  have helt := h.rt.lt
  have hAl := h.ba.lt
  have hTl := h.bt.lt
  have hlen0 := hR.own.1
  obtain ⟨g, cap, w3, hr, hR3, he, hat⟩ := app_termH (z := ⟨⟨#[]⟩, []⟩) (a1 := none) (c := 0) hR hN (fun b hb e => by have := (holt b e.symm).1; have : b < N := hb; omega) (by omega) ⟨by simp, Or.inl rfl⟩
  have hown := hR3.own
  rw [show (L ++ [(⟨⟨#[]⟩, []⟩ : Tm)]).length = L.length + 1 by simp] at hown
  have hg3 := (hown.lt g rfl)
  have hgN : N ≤ g := hg3.1
  have hge : ev.ownBlock ≠ some g := fun e => by
    rcases hat with e2 | e2
    · exact h.ne g e2 e
    · have := (helt g e).2; omega
  have hgA : g ≠ A := fun e => by
    rcases hat with e2 | e2
    · exact h.oa (by rw [e2, e])
    · omega
  have hgT : g ≠ T := fun e => by
    rcases hat with e2 | e2
    · exact h.ot (by rw [e2, e])
    · omega
  have hA3 : Blk w3 A #[ov] 23 := h.ba.exq he fun e => h.oa e.symm
  have k0 : w3.cell? ⟨g, L.length * 2, none⟩ = some (.string ⟨#[]⟩) := by rw [hown.cellAt (L.length * 2) (by omega), List.getElem?_append_right (by omega), hlen0, Nat.sub_self]; rfl
  have k1 : w3.cell? ⟨g, L.length * 2 + 1, none⟩ = some (.slice none 0 0) := by rw [hown.cellAt (L.length * 2 + 1) (by omega), List.getElem?_append_right (by omega), hlen0, show L.length * 2 + 1 - L.length * 2 = 1 by omega]; rfl
  have he2 : ExQ (fun b => b = A ∨ b = g) w3 (((w3.setCell ⟨A, 0, none⟩ (.slice (some ⟨g, 0, none⟩) (L.length + 1) cap)).setCell ⟨g, L.length * 2, none⟩ (.string y.name)).setCell ⟨g, L.length * 2 + 1, none⟩ (.slice a1 y.args.length c)) := (((ExQ.refl _ _).set (Or.inl rfl) _ _).set (Or.inr rfl) _ _).set (Or.inr rfl) _ _
  have hx : ExQ (ChK A T ov ev) w (((w3.setCell ⟨A, 0, none⟩ (.slice (some ⟨g, 0, none⟩) (L.length + 1) cap)).setCell ⟨g, L.length * 2, none⟩ (.string y.name)).setCell ⟨g, L.length * 2 + 1, none⟩ (.slice a1 y.args.length c)) := (he.mono fun b e _ => Or.inl e).transN he2 fun b e hb => by
    rcases e with e | e
    · exact Or.inr (Or.inr (Or.inl e))
    · rcases hat with e2 | e2
      · exact Or.inl (by rw [e2, e])
      · omega
  have hbN : Below N w (((w3.setCell ⟨A, 0, none⟩ (.slice (some ⟨g, 0, none⟩) (L.length + 1) cap)).setCell ⟨g, L.length * 2, none⟩ (.string y.name)).setCell ⟨g, L.length * 2 + 1, none⟩ (.slice a1 y.args.length c)) := hx.below hN fun b e => by
    rcases e with e | e | e | e
    · exact (holt b e.symm).1
    · exact (helt b e.symm).1
    · rw [e]; exact h.hA
    · rw [e]; exact h.hT
  have hlen : (L ++ [y]).length = L.length + 1 := by simp
  have hownF : (((w3.setCell ⟨A, 0, none⟩ (.slice (some ⟨g, 0, none⟩) (L.length + 1) cap)).setCell ⟨g, L.length * 2, none⟩ (.string y.name)).setCell ⟨g, L.length * 2 + 1, none⟩ (.slice a1 y.args.length c)).ownsRow N 25 2 (.slice (some ⟨g, 0, none⟩) (L.length + 1) cap) (L.length + 1) (xs ++ [.string y.name, .slice a1 y.args.length c]) := by
    have h0 : (w3.setCell ⟨A, 0, none⟩ (.slice (some ⟨g, 0, none⟩) (L.length + 1) cap)).ownsRow N 25 2 (.slice (some ⟨g, 0, none⟩) (L.length + 1) cap) (L.length + 1) (xs ++ [.string ⟨#[]⟩, .slice none 0 0]) := ownsRow_at hown fun b hb => Below.heap_setCell _ _ _ _ (fun e => by
      have e3 : g = b := by simpa [Value.ownBlock] using hb
      have e4 : b = A := by simpa using e
      exact hgA (by rw [e3, e4]))
    have h2 := ((h0.stored (L.length * 2) (.string y.name)).1.stored (L.length * 2 + 1) (.slice a1 y.args.length c)).1
    have e : ((xs ++ [Value.string ⟨#[]⟩, Value.slice none 0 0]).set (L.length * 2) (Value.string y.name)).set (L.length * 2 + 1) (.slice a1 y.args.length c) = xs ++ [.string y.name, .slice a1 y.args.length c] := by
      rw [List.set_append_right _ _ (by omega), List.set_append_right _ _ (by omega), hlen0, Nat.sub_self, show L.length * 2 + 1 - L.length * 2 = 1 by omega]; rfl
    rw [e] at h2
    exact h2
  refine ⟨g, cap, w3, hr, hA3, hgA, hat.imp id fun e => by omega, hg3.2, fun i => hown.frozenAt i, k0, k1, he, ⟨⟨_, ⟨by rw [hlen]; exact hownF, ?_⟩⟩, ?_, ?_, ?_, fun b hb e => ?_, fun e => hgA (by simpa [Value.ownBlock] using e), fun e => hgT (by simpa [Value.ownBlock] using e), h.ea, h.et, h.nAT, h.hA, h.hT⟩, hx⟩
  · exact RowT.append (hR.row.imp fun a l hs => hs.kept fun b hb => hbN.block b hb) ⟨a1, c, [], rfl, hy.kept fun b hb => hbN.block b hb, rfl⟩
  · exact ownsRow_at h.rt fun b hb => ((he.mono (R := fun b => some b = ov.ownBlock ∨ b = A ∨ b = g) fun b e _ => Or.inl e).transN he2 fun b e _ => Or.inr e).block b (helt b hb).2 fun e => by
      rcases e with e | e | e
      · exact h.ne b e.symm hb
      · exact h.ea (by rw [hb, e])
      · exact hge (by rw [hb, e])
  · have := ((hA3.set 0 (.slice (some ⟨g, 0, none⟩) (L.length + 1) cap)).setOther (L.length * 2) (.string y.name) (b' := g) hgA.symm).setOther (L.length * 2 + 1) (.slice a1 y.args.length c) (b' := g) hgA.symm
    simpa using this
  · exact (h.bt.exq he fun e => h.ot e.symm).exq he2 fun e => by
      rcases e with e | e
      · exact h.nAT e.symm
      · exact hgT e.symm
  · have e3 : g = b := by simpa [Value.ownBlock] using hb
    subst e3
    exact hge e
theorem AdI.start {w : World} {A T : Nat} (hA : w.heap.size ≤ A) (hT : w.heap.size ≤ T) (hne : A ≠ T) {w1 : World} (ba : Blk w1 A #[.slice none 0 0] 23) (bt : Blk w1 T #[.slice none 0 0] 31) : AdI w.heap.size A T [] [] (.slice none 0 0) (.slice none 0 0) w1 :=
  ⟨⟨[], World.ownsRow_nil _ _ _ _, rfl⟩, World.ownsRow_nil _ _ _ _, ba, bt, fun b hb => by simp [Value.ownBlock] at hb, by simp [Value.ownBlock], by simp [Value.ownBlock], by simp [Value.ownBlock], by simp [Value.ownBlock], hne, hA, hT⟩
end Go.Proofs.YtdmaijmglblccaaGreatDoor
