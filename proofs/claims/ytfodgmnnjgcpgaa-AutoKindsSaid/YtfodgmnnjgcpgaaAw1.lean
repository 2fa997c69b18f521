/- Plain: all sets of states in which terms end; is each term of the one set in the other one? -/
import Derived.Test.YtfodgmnnjgcpgaaAv1
namespace Go.Proofs.Ytfodgmnnjgcpgaa
open Go.RowKit
set_option linter.unusedSimpArgs false
set_option linter.unusedVariables false
set_option maxRecDepth 8000

/-- In which states a term may end. -/
def endX (ms : List Mv) (n : Nat) (t : Tm) : List Bool := edgT ms n t.name (endsL ms n t.args)
/-- A number's states. -/
def bitsN (x : Nat) : List Bool := (List.range 64).map x.testBit
theorem bitsN_is {x : Nat} (h : x < 18446744073709551616) : SetIs x (bitsN x) := by
  refine ⟨h, fun s => ?_⟩
  unfold bitAt bitsN
  rw [Int.toNat_natCast, List.getElem?_map]
  by_cases hs : s < 64
  · rw [List.getElem?_range hs]; rfl
  · rw [List.getElem?_eq_none (by simpa using hs)]
    have h1 : (2 : Nat) ^ 64 ≤ 2 ^ s := Nat.pow_le_pow_right (by decide) (by omega)
    have h2 : x < 2 ^ s := Nat.lt_of_lt_of_le h h1
    simpa using Nat.testBit_lt_two_pow h2
theorem go_same {bs cs : List (List Bool)} {f : List Int} (he : bs.length = cs.length) (hz : ∀ z ∈ f, 0 ≤ z) (h : ∀ (i : Nat) (h1 : i < bs.length) (h2 : i < cs.length) (s : Nat), bitAt bs[i] (s : Int) = bitAt cs[i] (s : Int)) : goB bs f = goB cs f := by
  rw [Bool.eq_iff_iff, goB_all, goB_all]
  constructor
  · intro g i h1 h2
    have h3 : i < bs.length := by omega
    have g1 := g i h3 h2
    obtain ⟨s, hs⟩ : ∃ s : Nat, f[i] = (s : Int) := ⟨f[i].toNat, by have := hz f[i] (List.getElem_mem h2); omega⟩
    rw [hs] at g1 ⊢
    rw [← h i h3 h1 s]
    exact g1
  · intro g i h1 h2
    have h3 : i < cs.length := by omega
    have g1 := g i h3 h2
    obtain ⟨s, hs⟩ : ∃ s : Nat, f[i] = (s : Int) := ⟨f[i].toNat, by have := hz f[i] (List.getElem_mem h2); omega⟩
    rw [hs] at g1 ⊢
    rw [h i h1 h3 s]
    exact g1
theorem endN_same {ms : List Mv} {bs cs : List (List Bool)} (he : bs.length = cs.length) (hz : ∀ m ∈ ms, ∀ z ∈ m.frm, 0 ≤ z) (h : ∀ (i : Nat) (h1 : i < bs.length) (h2 : i < cs.length) (s : Nat), bitAt bs[i] (s : Int) = bitAt cs[i] (s : Int)) : endN ms bs = endN ms cs := by
  unfold endN
  rw [List.filter_congr fun m hm => go_same he (hz m hm) h]
theorem endX_bit {ms : List Mv} {n : Nat} {nm : ByteArray} {l : List Tm} {s : Nat} : bitAt (endX ms n ⟨nm, l⟩) (s : Int) = true → ∃ m ∈ ms, m.name = nm ∧ m.frm.length = l.length ∧ goB (endsL ms n l) m.frm = true := by
  intro hb
  have hb' : bitAt (edgT ms n nm (endsL ms n l)) (s : Int) = true := hb
  by_cases hs : s < n
  · rw [bit_edg hs, endB_iff] at hb'
    obtain ⟨m, hm, h1, _⟩ := hb'
    obtain ⟨h2, h3, h4⟩ := mvB_iff.1 h1
    rw [endsL_len] at h3
    exact ⟨m, hm, h2, h3, h4⟩
  · unfold bitAt at hb'
    rw [Int.toNat_natCast, List.getElem?_eq_none (by rw [edgT_len]; omega)] at hb'
    exact absurd hb' (by simp)
theorem endsL_at (ms : List Mv) (n : Nat) (l : List Tm) (i : Nat) (h : i < l.length) (h2 : i < (endsL ms n l).length) : (endsL ms n l)[i] = endX ms n l[i] := by
  have e := endsL_map ms n l
  simp only [e, List.getElem_map]
  rfl
/-- One of each. -/
theorem one_each {α β : Type} {P : α → β → Prop} {Q : β → Prop} : ∀ (l : List α), (∀ x ∈ l, ∃ y, Q y ∧ P x y) → ∃ ys : List β, ys.length = l.length ∧ (∀ y ∈ ys, Q y) ∧ ∀ (i : Nat) (h1 : i < l.length) (h2 : i < ys.length), P l[i] ys[i]
  | [], _ => ⟨[], rfl, fun y hy => (by cases hy), fun i h1 => absurd h1 (by simp)⟩
  | x :: l, h => by
    obtain ⟨y, hq, hp⟩ := h x (by simp)
    obtain ⟨ys, e, h1, h2⟩ := one_each l fun z hz => h z (by simp [hz])
    refine ⟨y :: ys, by simp [e], fun z hz => ?_, fun i g1 g2 => ?_⟩
    · rcases List.mem_cons.1 hz with rfl | hz
      · exact hq
      · exact h1 z hz
    · cases i with
      | zero => exact hp
      | succ i => exact h2 i (by simpa using g1) (by simpa using g2)
/-- A term of the moves' symbols. -/
inductive SymT (ms : List Mv) : Tm → Prop
  | mk {nm : ByteArray} {l : List Tm} (m : Mv) (hm : m ∈ ms) (e1 : m.name = nm) (e2 : m.frm.length = l.length) (h : ∀ x ∈ l, SymT ms x) : SymT ms ⟨nm, l⟩
/-- All sets in which terms end. -/
structure EndsOk (ms : List Mv) (n : Nat) (all : List Nat) : Prop where
  term : ∀ x ∈ all, ∃ t : Tm, SymT ms t ∧ SetIs x (endX ms n t)
  cl : ∀ m ∈ ms, ∀ xs : List Nat, xs.length = m.frm.length → (∀ x ∈ xs, x ∈ all) → endN (grp ms (m.name, m.frm.length)) (xs.map bitsN) ∈ all
/-- Moves between these states. -/
def MvsIn (n : Nat) (ms : List Mv) : Prop := ∀ m ∈ ms, (0 ≤ m.to ∧ m.to < (n : Int)) ∧ ∀ z ∈ m.frm, 0 ≤ z
theorem end_of {ms : List Mv} {n : Nat} (hn : n ≤ 64) (hms : MvsIn n ms) (nm : ByteArray) {l : List Tm} {xs : List Nat} (hl : xs.length = l.length) (h : ∀ (i : Nat) (h1 : i < l.length) (h2 : i < xs.length), SetIs xs[i] (endX ms n l[i])) : SetIs (endN (grp ms (nm, l.length)) (xs.map bitsN)) (endX ms n ⟨nm, l⟩) := by
  have k : endN (grp ms (nm, l.length)) (xs.map bitsN) = endN (grp ms (nm, l.length)) (endsL ms n l) := by
    refine endN_same (by rw [List.length_map, endsL_len]; exact hl) (fun m hm => (hms m (List.mem_filter.1 hm).1).2) fun i h1 h2 s => ?_
    have g1 : i < xs.length := by simpa using h1
    have g2 : i < l.length := by omega
    rw [endsL_at ms n l i g2, List.getElem_map, ← (h i g2 g1).2 s, ← (bitsN_is (h i g2 g1).1).2 s]
  rw [k]
  have e := end_is (ms := ms) (n := n) (name := nm) (bs := endsL ms n l) hn (fun m hm => (hms m hm).1)
  rw [endsL_len] at e
  exact e
/-- A new one is one, too. -/
theorem ends_new {ms : List Mv} {n : Nat} (hn : n ≤ 64) (hms : MvsIn n ms) {m : Mv} (hm : m ∈ ms) {xs : List Nat} (hl : xs.length = m.frm.length) (h : ∀ x ∈ xs, ∃ t : Tm, SymT ms t ∧ SetIs x (endX ms n t)) : ∃ t : Tm, SymT ms t ∧ SetIs (endN (grp ms (m.name, m.frm.length)) (xs.map bitsN)) (endX ms n t) := by
  obtain ⟨l, e, h1, h2⟩ := one_each (P := fun x t => SetIs x (endX ms n t)) (Q := fun t => SymT ms t) xs fun x hx => h x hx
  refine ⟨⟨m.name, l⟩, .mk m hm rfl (by omega) h1, ?_⟩
  have := end_of hn hms m.name (l := l) (xs := xs) e.symm fun i h1 h3 => h2 i h3 h1
  rw [e, hl] at this
  exact this
/-- A term of these symbols ends in one of them. -/
theorem ends_sym {ms : List Mv} {n : Nat} {all : List Nat} (h : EndsOk ms n all) (hn : n ≤ 64) (hms : MvsIn n ms) {t : Tm} (ht : SymT ms t) : ∃ x ∈ all, SetIs x (endX ms n t) := by
  induction ht with
  | mk m hm e1 e2 h0 ih =>
    rename_i nm l
    obtain ⟨xs, e, h1, h2⟩ := one_each (P := fun t x => SetIs x (endX ms n t)) (Q := fun x => x ∈ all) l ih
    have k := h.cl m hm xs (by omega) h1
    rw [e1, e2] at k
    exact ⟨_, k, end_of hn hms nm e h2⟩
theorem ends_all {ms : List Mv} {n : Nat} {all : List Nat} (h : EndsOk ms n all) (hn : n ≤ 64) (hms : MvsIn n ms) (t : Tm) : (∀ s : Nat, bitAt (endX ms n t) (s : Int) = false) ∨ ∃ x ∈ all, SetIs x (endX ms n t) := by
  induction t using Tm.ind with
  | h nm l ih =>
    by_cases hl : ∃ x ∈ l, ∀ s : Nat, bitAt (endX ms n x) (s : Int) = false
    · left
      intro s
      cases hb : bitAt (endX ms n ⟨nm, l⟩) (s : Int) with
      | false => rfl
      | true =>
        obtain ⟨m, hm, _, e2, hg⟩ := endX_bit hb
        obtain ⟨x, hx, hf⟩ := hl
        obtain ⟨i, hi, rfl⟩ := List.mem_iff_getElem.1 hx
        have hi2 : i < m.frm.length := by omega
        have g := goB_all.1 hg i (by rw [endsL_len]; exact hi) hi2
        rw [endsL_at ms n l i hi] at g
        obtain ⟨r, hr⟩ : ∃ r : Nat, m.frm[i] = (r : Int) := ⟨m.frm[i].toNat, by have := (hms m hm).2 m.frm[i] (List.getElem_mem hi2); omega⟩
        rw [hr, hf r] at g
        cases g
    · by_cases hm : ∃ m ∈ ms, m.name = nm ∧ m.frm.length = l.length
      · right
        obtain ⟨m, hm, e1, e2⟩ := hm
        obtain ⟨xs, e, h1, h2⟩ := one_each (P := fun t x => SetIs x (endX ms n t)) (Q := fun x => x ∈ all) l fun x hx => by
          rcases ih x hx with g | ⟨y, hy, g⟩
          · exact absurd ⟨x, hx, g⟩ hl
          · exact ⟨y, hy, g⟩
        have k := h.cl m hm xs (by omega) h1
        rw [e1, e2] at k
        exact ⟨_, k, end_of hn hms nm e h2⟩
      · left
        intro s
        cases hb : bitAt (endX ms n ⟨nm, l⟩) (s : Int) with
        | false => rfl
        | true =>
          obtain ⟨m, h1, h2, h3, _⟩ := endX_bit hb
          exact absurd ⟨m, h1, h2, h3⟩ hm
theorem and_some {x y : Nat} : x &&& y ≠ 0 ↔ ∃ s : Nat, x.testBit s = true ∧ y.testBit s = true := by
  constructor
  · intro h
    apply Classical.byContradiction
    intro hn
    apply h
    apply Nat.eq_of_testBit_eq
    intro i
    rw [Nat.testBit_and, Nat.zero_testBit]
    cases h1 : x.testBit i with
    | false => rfl
    | true =>
      cases h2 : y.testBit i with
      | false => rfl
      | true => exact absurd ⟨i, h1, h2⟩ hn
  · rintro ⟨s, h1, h2⟩ h
    have := Nat.testBit_and x y s
    rw [h, h1, h2, Nat.zero_testBit] at this
    cases this
theorem left_bit {A : Au} (hla : ∀ s ∈ A.la, 0 ≤ s ∧ s < A.st) {x : Nat} {l k : List Bool} (h : SetIs x l) (hk : ∀ s : Int, 0 ≤ s ∧ s < A.st → bitAt l s = bitAt k s) : x &&& setN A.la ≠ 0 ↔ lasB A k = true := by
  rw [and_some]
  unfold lasB
  rw [List.any_eq_true]
  constructor
  · rintro ⟨s, h1, h2⟩
    rw [setN_bit _ (fun z hz => (hla z hz).1)] at h2
    have h3 := of_decide_eq_true h2
    exact ⟨(s : Int), h3, by rw [← hk _ (hla _ h3), ← h.2]; exact h1⟩
  · rintro ⟨z, h1, h2⟩
    obtain ⟨s, rfl⟩ : ∃ s : Nat, z = (s : Int) := ⟨z.toNat, by have := (hla z h1).1; omega⟩
    refine ⟨s, ?_, ?_⟩
    · rw [h.2, hk _ (hla _ h1)]; exact h2
    · rw [setN_bit _ (fun z hz => (hla z hz).1)]; exact decide_eq_true h1
theorem right_bit {B : Au} {p : Nat} (hla : ∀ s ∈ B.la, 0 ≤ s ∧ s < B.st) {x : Nat} {l k : List Bool} (h : SetIs x l) (hk : ∀ s : Int, 0 ≤ s ∧ s < B.st → bitAt l ((p : Int) + s) = bitAt k s) : x &&& (setN B.la <<< p) ≠ 0 ↔ lasB B k = true := by
  rw [and_some]
  unfold lasB
  rw [List.any_eq_true]
  constructor
  · rintro ⟨s, h1, h2⟩
    rw [Nat.testBit_shiftLeft, Bool.and_eq_true, setN_bit _ (fun z hz => (hla z hz).1)] at h2
    have h3 := of_decide_eq_true h2.1
    have h4 := of_decide_eq_true h2.2
    refine ⟨((s - p : Nat) : Int), h4, ?_⟩
    rw [← hk _ (hla _ h4), ← h1, h.2]
    congr 1
    omega
  · rintro ⟨z, h1, h2⟩
    obtain ⟨s, rfl⟩ : ∃ s : Nat, z = (s : Int) := ⟨z.toNat, by have := (hla z h1).1; omega⟩
    refine ⟨p + s, ?_, ?_⟩
    · rw [h.2, ← h2, ← hk _ (hla _ h1)]
      congr 1
    · rw [Nat.testBit_shiftLeft, Bool.and_eq_true, setN_bit _ (fun z hz => (hla z hz).1)]
      refine ⟨decide_eq_true (by omega), decide_eq_true ?_⟩
      have : p + s - p = s := by omega
      rw [this]
      exact h1
theorem within_iff {A B : Au} (hA : OkAu 8 40 A) (hB : OkAu 8 40 B) {p q : Nat} (hp : A.st = (p : Int)) (hq : B.st = (q : Int)) {all : List Nat} (h : EndsOk (smMvs A.st A.mv B.mv) (p + q) all) :
    (∀ x ∈ all, x &&& setN A.la ≠ 0 → x &&& (setN B.la <<< p) ≠ 0) ↔ ∀ t, accB A t = true → accB B t = true := by
  have hpq : (A.st + B.st).toNat = p + q := by omega
  have h8 := hA.st
  have h9 := hB.st
  have hms : MvsIn (p + q) (smMvs A.st A.mv B.mv) := by
    intro m hm
    unfold smMvs at hm
    rcases List.mem_append.1 hm with hm | hm
    · obtain ⟨m', hm', rfl⟩ := List.mem_map.1 hm
      have o := hA.mv m' hm'
      have o1 := o.to
      refine ⟨⟨by show 0 ≤ 0 + m'.to; omega, by show 0 + m'.to < _; omega⟩, fun z hz => ?_⟩
      obtain ⟨y, hy, rfl⟩ := List.mem_map.1 (show z ∈ m'.frm.map (0 + ·) from hz)
      have := o.frm y hy
      omega
    · obtain ⟨m', hm', rfl⟩ := List.mem_map.1 hm
      have o := hB.mv m' hm'
      have o1 := o.to
      refine ⟨⟨by show 0 ≤ A.st + m'.to; omega, by show A.st + m'.to < _; omega⟩, fun z hz => ?_⟩
      obtain ⟨y, hy, rfl⟩ := List.mem_map.1 (show z ∈ m'.frm.map (A.st + ·) from hz)
      have := o.frm y hy
      omega
  have rel : ∀ t : Tm, Rs A.st B.st (endX (smMvs A.st A.mv B.mv) (p + q) t) (endT A t) (endT B t) := fun t => by
    have := rs_edg hA.pos hB.pos hA.mv hB.mv (rs_ends hA.pos hB.pos hA.mv hB.mv t.args) t.name
    rw [hpq] at this
    exact this
  have key : ∀ (t : Tm) (x : Nat), SetIs x (endX (smMvs A.st A.mv B.mv) (p + q) t) → (x &&& setN A.la ≠ 0 ↔ accB A t = true) ∧ (x &&& (setN B.la <<< p) ≠ 0 ↔ accB B t = true) := fun t x hx =>
    ⟨left_bit hA.la hx (rel t).1, right_bit hB.la hx fun s hs => by rw [← hp]; exact (rel t).2 s hs⟩
  constructor
  · intro hall t ht
    rcases ends_all h (by omega) hms t with g | ⟨x, hx, g⟩
    · exfalso
      unfold accB lasB at ht
      obtain ⟨s, hs, hb⟩ := List.any_eq_true.1 ht
      have h1 := hA.la s hs
      rw [← (rel t).1 s h1] at hb
      obtain ⟨k, rfl⟩ : ∃ k : Nat, s = (k : Int) := ⟨s.toNat, by omega⟩
      rw [g k] at hb
      cases hb
    · exact (key t x g).2.1 (hall x hx ((key t x g).1.2 ht))
  · intro hall x hx hne
    obtain ⟨t, _, ht⟩ := h.term x hx
    exact (key t x ht).2.2 (hall t ((key t x ht).1.1 hne))
end Go.Proofs.Ytfodgmnnjgcpgaa
