/- Several texts in one. -/
import Derived.Test.YtofebfjkodceeaaZTAutoMadeOwn
namespace Go.Proofs.Ytofebfjkodceeaa
open Go.RowKit
set_option linter.unusedSimpArgs false
set_option linter.unusedVariables false
set_option maxRecDepth 8000
def endX (ms : List Mv) (n : Nat) (t : Tm) : List Bool := edgT ms n t.name (endsL ms n t.args)
def bitsN (x : Nat) : List Bool := (List.range 64).map x.testBit
theorem bitsN_is {x : Nat} (h : x < 18446744073709551616) : SetIs x (bitsN x) := by
 refine ⟨h, fun s => ?_⟩
 unfold bitAt bitsN
 rw [Int.toNat_natCast, List.getElem?_map]
 by_cases hs : s < 64
 ·rw [List.getElem?_range hs]; rfl
 ·rw [List.getElem?_eq_none (by simpa using hs)]
  have h1 : (2 : Nat) ^ 64 ≤ 2 ^ s := Nat.pow_le_pow_right (by decide) (by omega)
  have h2 : x < 2 ^ s := Nat.lt_of_lt_of_le h h1
  simpa using Nat.testBit_lt_two_pow h2
theorem go_same {bs cs : List (List Bool)} {f : List Int} (he : bs.length = cs.length) (hz : ∀ z ∈ f, 0 ≤ z) (h : ∀ (i : Nat) (h1 : i < bs.length) (h2 : i < cs.length) (s : Nat), bitAt bs[i] (s : Int) = bitAt cs[i] (s : Int)) : goB bs f = goB cs f := by
 rw [Bool.eq_iff_iff, goB_all, goB_all]
 constructor
 ·intro g i h1 h2
  have h3 : i < bs.length := by omega
  have g1 := g i h3 h2
  obtain ⟨s, hs⟩ : ∃ s : Nat, f[i] = (s : Int) := ⟨f[i].toNat, by have := hz f[i] (List.getElem_mem h2); omega⟩
  rw [hs] at g1 ⊢
  rw [← h i h3 h1 s]
  exact g1
 ·intro g i h1 h2
  have h3 : i < cs.length := by omega
  have g1 := g i h3 h2
  obtain ⟨s, hs⟩ : ∃ s : Nat, f[i] = (s : Int) := ⟨f[i].toNat, by have := hz f[i] (List.getElem_mem h2); omega⟩
  rw [hs] at g1 ⊢
  rw [h i h1 h3 s]
  exact g1
theorem endN_same {ms : List Mv} {bs cs : List (List Bool)} (he : bs.length = cs.length) (hz : ∀ m ∈ ms, ∀ z ∈ m.frm, 0 ≤ z) (h : ∀ (i : Nat) (h1 : i < bs.length) (h2 : i < cs.length) (s : Nat), bitAt bs[i] (s : Int) = bitAt cs[i] (s : Int)) : endN ms bs = endN ms cs := by
 unfold endN
 rw [List.filter_congr fun m hm => go_same he (hz m hm) h]
theorem endX_bit {ms : List Mv} {n : Nat} {nm : ByteArray} {l : List Tm} {s : Nat} : bitAt (endX ms n ⟨nm, l⟩) (s : Int) = true → ∃ m ∈ ms, m.name = nm ∧ m.frm.length = l.length ∧ goB (endsL ms n l) m.frm = true := by
 intro hb
 have hb' : bitAt (edgT ms n nm (endsL ms n l)) (s : Int) = true := hb
 by_cases hs : s < n
 ·rw [bit_edg hs, endB_iff] at hb'
  obtain ⟨m, hm, h1, _⟩ := hb'
  obtain ⟨h2, h3, h4⟩ := mvB_iff.1 h1
  rw [endsL_len] at h3
  exact ⟨m, hm, h2, h3, h4⟩
 ·unfold bitAt at hb'
  rw [Int.toNat_natCast, List.getElem?_eq_none (by rw [edgT_len]; omega)] at hb'
  exact absurd hb' (by simp)
theorem endsL_at (ms : List Mv) (n : Nat) (l : List Tm) (i : Nat) (h : i < l.length) (h2 : i < (endsL ms n l).length) : (endsL ms n l)[i] = endX ms n l[i] := by
 have e := endsL_map ms n l
 simp only [e, List.getElem_map]
 rfl
theorem one_each {α β : Type} {P : α → β → Prop} {Q : β → Prop} : ∀ (l : List α), (∀ x ∈ l, ∃ y, Q y ∧ P x y) → ∃ ys : List β, ys.length = l.length ∧ (∀ y ∈ ys, Q y) ∧ ∀ (i : Nat) (h1 : i < l.length) (h2 : i < ys.length), P l[i] ys[i]
 | [], _ => ⟨[], rfl, fun y hy => (by cases hy), fun i h1 => absurd h1 (by simp)⟩
 | x :: l, h => by
  obtain ⟨y, hq, hp⟩ := h x (by simp)
  obtain ⟨ys, e, h1, h2⟩ := one_each l fun z hz => h z (by simp [hz])
  refine ⟨y :: ys, by simp [e], fun z hz => ?_, fun i g1 g2 => ?_⟩
  ·rcases List.mem_cons.1 hz with rfl | hz
   ·exact hq
   ·exact h1 z hz
  ·cases i with
   | zero => exact hp
   | succ i => exact h2 i (by simpa using g1) (by simpa using g2)
inductive SymT (ms : List Mv) : Tm → Prop
 | mk {nm : ByteArray} {l : List Tm} (m : Mv) (hm : m ∈ ms) (e1 : m.name = nm) (e2 : m.frm.length = l.length) (h : ∀ x ∈ l, SymT ms x) : SymT ms ⟨nm, l⟩
structure EndsOk (ms : List Mv) (n : Nat) (all : List Nat) : Prop where
 term : ∀ x ∈ all, ∃ t : Tm, SymT ms t ∧ SetIs x (endX ms n t)
 cl : ∀ m ∈ ms, ∀ xs : List Nat, xs.length = m.frm.length → (∀ x ∈ xs, x ∈ all) → endN (grp ms (m.name, m.frm.length)) (xs.map bitsN) ∈ all
def MvsIn (n : Nat) (ms : List Mv) : Prop := ∀ m ∈ ms, (0 ≤ m.to ∧ m.to < (n : Int)) ∧ ∀ z ∈ m.frm, 0 ≤ z
theorem end_of {ms : List Mv} {n : Nat} (hn : n ≤ 64) (hms : MvsIn n ms) (nm : ByteArray) {l : List Tm} {xs : List Nat} (hl : xs.length = l.length) (h : ∀ (i : Nat) (h1 : i < l.length) (h2 : i < xs.length), SetIs xs[i] (endX ms n l[i])) : SetIs (endN (grp ms (nm, l.length)) (xs.map bitsN)) (endX ms n ⟨nm, l⟩) := by
 have k : endN (grp ms (nm, l.length)) (xs.map bitsN) = endN (grp ms (nm, l.length)) (endsL ms n l) := by
  refine endN_same (by rw [List.length_map, endsL_len]; exact hl) (fun m hm => (hms m (List.mem_filter.1 hm).1).2) fun i h1 h2 s => ?_
  have g1 : i < xs.length := by simpa using h1
  have g2 : i < l.length := by omega
  rw [endsL_at ms n l i g2, List.getElem_map, ← (h i g2 g1).2 s, ← (bitsN_is (h i g2 g1).1).2 s]
 rw [k]
 have e := end_is (ms := ms) (n := n) (name := nm) (bs := endsL ms n l) hn (fun m hm => (hms m hm).1)
 rw [endsL_len] at e
 exact e
theorem ends_new {ms : List Mv} {n : Nat} (hn : n ≤ 64) (hms : MvsIn n ms) {m : Mv} (hm : m ∈ ms) {xs : List Nat} (hl : xs.length = m.frm.length) (h : ∀ x ∈ xs, ∃ t : Tm, SymT ms t ∧ SetIs x (endX ms n t)) : ∃ t : Tm, SymT ms t ∧ SetIs (endN (grp ms (m.name, m.frm.length)) (xs.map bitsN)) (endX ms n t) := by
 obtain ⟨l, e, h1, h2⟩ := one_each (P := fun x t => SetIs x (endX ms n t)) (Q := fun t => SymT ms t) xs fun x hx => h x hx
 refine ⟨⟨m.name, l⟩, .mk m hm rfl (by omega) h1, ?_⟩
 have := end_of hn hms m.name (l := l) (xs := xs) e.symm fun i h1 h3 => h2 i h3 h1
 rw [e, hl] at this
 exact this
theorem ends_sym {ms : List Mv} {n : Nat} {all : List Nat} (h : EndsOk ms n all) (hn : n ≤ 64) (hms : MvsIn n ms) {t : Tm} (ht : SymT ms t) : ∃ x ∈ all, SetIs x (endX ms n t) := by
 induction ht with
 | mk m hm e1 e2 h0 ih =>
  rename_i nm l
  obtain ⟨xs, e, h1, h2⟩ := one_each (P := fun t x => SetIs x (endX ms n t)) (Q := fun x => x ∈ all) l ih
  have k := h.cl m hm xs (by omega) h1
  rw [e1, e2] at k
  exact ⟨_, k, end_of hn hms nm e h2⟩
theorem ends_all {ms : List Mv} {n : Nat} {all : List Nat} (h : EndsOk ms n all) (hn : n ≤ 64) (hms : MvsIn n ms) (t : Tm) : (∀ s : Nat, bitAt (endX ms n t) (s : Int) = false) ∨ ∃ x ∈ all, SetIs x (endX ms n t) := by
 induction t using Tm.ind with
 | h nm l ih =>
  by_cases hl : ∃ x ∈ l, ∀ s : Nat, bitAt (endX ms n x) (s : Int) = false
  ·left
   intro s
   cases hb : bitAt (endX ms n ⟨nm, l⟩) (s : Int) with
   | false => rfl
   | true =>
    obtain ⟨m, hm, _, e2, hg⟩ := endX_bit hb
    obtain ⟨x, hx, hf⟩ := hl
    obtain ⟨i, hi, rfl⟩ := List.mem_iff_getElem.1 hx
    have hi2 : i < m.frm.length := by omega
    have g := goB_all.1 hg i (by rw [endsL_len]; exact hi) hi2
    rw [endsL_at ms n l i hi] at g
    obtain ⟨r, hr⟩ : ∃ r : Nat, m.frm[i] = (r : Int) := ⟨m.frm[i].toNat, by have := (hms m hm).2 m.frm[i] (List.getElem_mem hi2); omega⟩
    rw [hr, hf r] at g
    cases g
  ·by_cases hm : ∃ m ∈ ms, m.name = nm ∧ m.frm.length = l.length
   ·right
    obtain ⟨m, hm, e1, e2⟩ := hm
    obtain ⟨xs, e, h1, h2⟩ := one_each (P := fun t x => SetIs x (endX ms n t)) (Q := fun x => x ∈ all) l fun x hx => by
     rcases ih x hx with g | ⟨y, hy, g⟩
     ·exact absurd ⟨x, hx, g⟩ hl
     ·exact ⟨y, hy, g⟩
    have k := h.cl m hm xs (by omega) h1
    rw [e1, e2] at k
    exact ⟨_, k, end_of hn hms nm e h2⟩
   ·left
    intro s
    cases hb : bitAt (endX ms n ⟨nm, l⟩) (s : Int) with
    | false => rfl
    | true =>
     obtain ⟨m, h1, h2, h3, _⟩ := endX_bit hb
     exact absurd ⟨m, h1, h2, h3⟩ hm
theorem and_some {x y : Nat} : x &&& y ≠ 0 ↔ ∃ s : Nat, x.testBit s = true ∧ y.testBit s = true := by
 constructor
 ·intro h
  apply Classical.byContradiction
  intro hn
  apply h
  apply Nat.eq_of_testBit_eq
  intro i
  rw [Nat.testBit_and, Nat.zero_testBit]
  cases h1 : x.testBit i with
  | false => rfl
  | true =>
   cases h2 : y.testBit i with
   | false => rfl
   | true => exact absurd ⟨i, h1, h2⟩ hn
 ·rintro ⟨s, h1, h2⟩ h
  have := Nat.testBit_and x y s
  rw [h, h1, h2, Nat.zero_testBit] at this
  cases this
theorem left_bit {A : Au} (hla : ∀ s ∈ A.la, 0 ≤ s ∧ s < A.st) {x : Nat} {l k : List Bool} (h : SetIs x l) (hk : ∀ s : Int, 0 ≤ s ∧ s < A.st → bitAt l s = bitAt k s) : x &&& setN A.la ≠ 0 ↔ lasB A k = true := by
 rw [and_some]
 unfold lasB
 rw [List.any_eq_true]
 constructor
 ·rintro ⟨s, h1, h2⟩
  rw [setN_bit _ (fun z hz => (hla z hz).1)] at h2
  have h3 := of_decide_eq_true h2
  exact ⟨(s : Int), h3, by rw [← hk _ (hla _ h3), ← h.2]; exact h1⟩
 ·rintro ⟨z, h1, h2⟩
  obtain ⟨s, rfl⟩ : ∃ s : Nat, z = (s : Int) := ⟨z.toNat, by have := (hla z h1).1; omega⟩
  refine ⟨s, ?_, ?_⟩
  ·rw [h.2, hk _ (hla _ h1)]; exact h2
  ·rw [setN_bit _ (fun z hz => (hla z hz).1)]; exact decide_eq_true h1
theorem right_bit {B : Au} {p : Nat} (hla : ∀ s ∈ B.la, 0 ≤ s ∧ s < B.st) {x : Nat} {l k : List Bool} (h : SetIs x l) (hk : ∀ s : Int, 0 ≤ s ∧ s < B.st → bitAt l ((p : Int) + s) = bitAt k s) : x &&& (setN B.la <<< p) ≠ 0 ↔ lasB B k = true := by
 rw [and_some]
 unfold lasB
 rw [List.any_eq_true]
 constructor
 ·rintro ⟨s, h1, h2⟩
  rw [Nat.testBit_shiftLeft, Bool.and_eq_true, setN_bit _ (fun z hz => (hla z hz).1)] at h2
  have h3 := of_decide_eq_true h2.1
  have h4 := of_decide_eq_true h2.2
  refine ⟨((s - p : Nat) : Int), h4, ?_⟩
  rw [← hk _ (hla _ h4), ← h1, h.2]
  congr 1
  omega
 ·rintro ⟨z, h1, h2⟩
  obtain ⟨s, rfl⟩ : ∃ s : Nat, z = (s : Int) := ⟨z.toNat, by have := (hla z h1).1; omega⟩
  refine ⟨p + s, ?_, ?_⟩
  ·rw [h.2, ← h2, ← hk _ (hla _ h1)]
   congr 1
  ·rw [Nat.testBit_shiftLeft, Bool.and_eq_true, setN_bit _ (fun z hz => (hla z hz).1)]
   refine ⟨decide_eq_true (by omega), decide_eq_true ?_⟩
   have : p + s - p = s := by omega
   rw [this]
   exact h1
theorem within_iff {A B : Au} (hA : OkAu 8 40 A) (hB : OkAu 8 40 B) {p q : Nat} (hp : A.st = (p : Int)) (hq : B.st = (q : Int)) {all : List Nat} (h : EndsOk (smMvs A.st A.mv B.mv) (p + q) all) :
  (∀ x ∈ all, x &&& setN A.la ≠ 0 → x &&& (setN B.la <<< p) ≠ 0) ↔ ∀ t, accB A t = true → accB B t = true := by
 have hpq : (A.st + B.st).toNat = p + q := by omega
 have h8 := hA.st
 have h9 := hB.st
 have hms : MvsIn (p + q) (smMvs A.st A.mv B.mv) := by
  intro m hm
  unfold smMvs at hm
  rcases List.mem_append.1 hm with hm | hm
  ·obtain ⟨m', hm', rfl⟩ := List.mem_map.1 hm
   have o := hA.mv m' hm'
   have o1 := o.to
   refine ⟨⟨by show 0 ≤ 0 + m'.to; omega, by show 0 + m'.to < _; omega⟩, fun z hz => ?_⟩
   obtain ⟨y, hy, rfl⟩ := List.mem_map.1 (show z ∈ m'.frm.map (0 + ·) from hz)
   have := o.frm y hy
   omega
  ·obtain ⟨m', hm', rfl⟩ := List.mem_map.1 hm
   have o := hB.mv m' hm'
   have o1 := o.to
   refine ⟨⟨by show 0 ≤ A.st + m'.to; omega, by show A.st + m'.to < _; omega⟩, fun z hz => ?_⟩
   obtain ⟨y, hy, rfl⟩ := List.mem_map.1 (show z ∈ m'.frm.map (A.st + ·) from hz)
   have := o.frm y hy
   omega
 have rel : ∀ t : Tm, Rs A.st B.st (endX (smMvs A.st A.mv B.mv) (p + q) t) (endT A t) (endT B t) := fun t => by
  have := rs_edg hA.pos hB.pos hA.mv hB.mv (rs_ends hA.pos hB.pos hA.mv hB.mv t.args) t.name
  rw [hpq] at this
  exact this
 have key : ∀ (t : Tm) (x : Nat), SetIs x (endX (smMvs A.st A.mv B.mv) (p + q) t) → (x &&& setN A.la ≠ 0 ↔ accB A t = true) ∧ (x &&& (setN B.la <<< p) ≠ 0 ↔ accB B t = true) := fun t x hx =>
  ⟨left_bit hA.la hx (rel t).1, right_bit hB.la hx fun s hs => by rw [← hp]; exact (rel t).2 s hs⟩
 constructor
 ·intro hall t ht
  rcases ends_all h (by omega) hms t with g | ⟨x, hx, g⟩
  ·exfalso
   unfold accB lasB at ht
   obtain ⟨s, hs, hb⟩ := List.any_eq_true.1 ht
   have h1 := hA.la s hs
   rw [← (rel t).1 s h1] at hb
   obtain ⟨k, rfl⟩ : ∃ k : Nat, s = (k : Int) := ⟨s.toNat, by omega⟩
   rw [g k] at hb
   cases hb
  ·exact (key t x g).2.1 (hall x hx ((key t x g).1.2 ht))
 ·intro hall x hx hne
  obtain ⟨t, _, ht⟩ := h.term x hx
  exact (key t x ht).2.2 (hall t ((key t x ht).1.1 hne))
def repR {α : Type} (E : α → α → Bool) : List α → List α
 | [] => []
 | x :: r => if r.any (E x) then repR E r else x :: repR E r
def cntK {α : Type} (E : α → α → Bool) (l : List α) : Nat := (repR E l.reverse).length
theorem cntK_nil {α : Type} (E : α → α → Bool) : cntK E [] = 0 := rfl
theorem cntK_snoc {α : Type} (E : α → α → Bool) (l : List α) (x : α) : cntK E (l ++ [x]) = cntK E l + (if l.any (E x) then 0 else 1) := by
 unfold cntK
 rw [List.reverse_append]
 show (repR E (x :: l.reverse)).length = _
 rw [repR, List.any_reverse]
 cases l.any (E x) <;> simp
theorem repR_mem {α : Type} {E : α → α → Bool} : ∀ {l : List α} {x : α}, x ∈ repR E l → x ∈ l
 | [], x, h => by cases h
 | y :: r, x, h => by
  rw [repR] at h
  split at h
  ·exact List.mem_cons_of_mem _ (repR_mem h)
  ·rcases List.mem_cons.1 h with rfl | h
   ·simp
   ·exact List.mem_cons_of_mem _ (repR_mem h)
theorem repR_apart {α : Type} {E : α → α → Bool} : ∀ l : List α, (repR E l).Pairwise fun a b => E a b = false
 | [] => List.Pairwise.nil
 | y :: r => by
  rw [repR]
  split
  ·exact repR_apart r
  ·rename_i h
   refine List.Pairwise.cons (fun b hb => ?_) (repR_apart r)
   cases hE : E y b with
   | false => rfl
   | true => exact absurd (List.any_eq_true.2 ⟨b, repR_mem hb, hE⟩) h
structure Eqv {α : Type} (E : α → α → Bool) (l : List α) : Prop where
 refl : ∀ x ∈ l, E x x = true
 symm : ∀ x ∈ l, ∀ y ∈ l, E x y = true → E y x = true
 trans : ∀ x ∈ l, ∀ y ∈ l, ∀ z ∈ l, E x y = true → E y z = true → E x z = true
theorem Eqv.sub {α : Type} {E : α → α → Bool} {l k : List α} (h : Eqv E l) (hs : ∀ x ∈ k, x ∈ l) : Eqv E k :=
 ⟨fun x hx => h.refl x (hs x hx), fun x hx y hy => h.symm x (hs x hx) y (hs y hy), fun x hx y hy z hz => h.trans x (hs x hx) y (hs y hy) z (hs z hz)⟩
theorem repR_of {α : Type} {E : α → α → Bool} : ∀ {l : List α}, Eqv E l → ∀ x ∈ l, ∃ y ∈ repR E l, E x y = true
 | [], _, x, h => by cases h
 | y :: r, he, x, h => by
  have ih := fun (z : α) (hz : z ∈ r) => repR_of (he.sub fun w hw => List.mem_cons_of_mem y hw) z hz
  rw [repR]
  split
  ·rename_i ha
   rcases List.mem_cons.1 h with rfl | h
   ·obtain ⟨z, hz, h1⟩ := List.any_eq_true.1 ha
    obtain ⟨u, hu, h2⟩ := ih z hz
    exact ⟨u, hu, he.trans x (by simp) z (by simp [hz]) u (by simp [repR_mem hu]) h1 h2⟩
   ·exact ih x h
  ·rcases List.mem_cons.1 h with rfl | h
   ·exact ⟨x, by simp, he.refl x (by simp)⟩
   ·obtain ⟨u, hu, h2⟩ := ih x h
    exact ⟨u, by simp [hu], h2⟩
theorem inj_len {α β : Type} {Q : α → β → Prop} : ∀ {l1 : List α} {l2 : List β}, l1.Pairwise (fun a a' => ∀ b, Q a b → Q a' b → False) → (∀ a ∈ l1, ∃ b ∈ l2, Q a b) → l1.length ≤ l2.length
 | [], l2, _, _ => Nat.zero_le _
 | a :: r, l2, hp, h => by
  obtain ⟨b, hb, hq⟩ := h a (by simp)
  obtain ⟨s, t, rfl⟩ := List.append_of_mem hb
  rw [List.pairwise_cons] at hp
  have := inj_len (l1 := r) (l2 := s ++ t) hp.2 fun a' ha' => by
   obtain ⟨b', hb', hq'⟩ := h a' (by simp [ha'])
   refine ⟨b', ?_, hq'⟩
   rcases List.mem_append.1 hb' with g | g
   ·exact List.mem_append.2 (Or.inl g)
   ·rcases List.mem_cons.1 g with e | g
    ·subst e
     exact (hp.1 a' ha' b' hq hq').elim
    ·exact List.mem_append.2 (Or.inr g)
  simp at this ⊢
  omega
theorem kinds_le {α β : Type} {E : α → α → Bool} {F : β → β → Bool} {l : List α} {k : List β} (hE : Eqv E l) (hF : Eqv F k) (R : α → β → Prop) (hl : ∀ a ∈ l, ∃ b ∈ k, R a b) (hR : ∀ a ∈ l, ∀ a' ∈ l, ∀ b ∈ k, ∀ b' ∈ k, R a b → R a' b' → F b b' = true → E a a' = true) : cntK E l ≤ cntK F k := by
 unfold cntK
 have hE' : Eqv E l.reverse := hE.sub fun x hx => by simpa using hx
 have hF' : Eqv F k.reverse := hF.sub fun x hx => by simpa using hx
 refine inj_len (Q := fun a b => b ∈ k ∧ ∃ b' ∈ k, R a b' ∧ F b' b = true) ?_ ?_
 ·have hap := repR_apart (E := E) l.reverse
  have hm : ∀ a ∈ repR E l.reverse, a ∈ l := fun a ha => by simpa using repR_mem ha
  refine List.Pairwise.imp_of_mem (R := fun a b => E a b = false) ?_ hap
  intro a a' ha ha' he b h1 h2
  obtain ⟨hb, b1, hb1, r1, f1⟩ := h1
  obtain ⟨_, b2, hb2, r2, f2⟩ := h2
  have f3 := hF.trans b1 hb1 b hb b2 hb2 f1 (hF.symm b2 hb2 b hb f2)
  rw [hR a (hm a ha) a' (hm a' ha') b1 hb1 b2 hb2 r1 r2 f3] at he
  cases he
 ·intro a ha
  have ha' : a ∈ l := by simpa using repR_mem ha
  obtain ⟨b', hb', hr⟩ := hl a ha'
  obtain ⟨b, hb, hf⟩ := repR_of hF' b' (by simpa using hb')
  exact ⟨b, hb, by simpa using repR_mem hb, b', hb', hr, hf⟩
theorem kinds_eq {α β : Type} {E : α → α → Bool} {F : β → β → Bool} {l : List α} {k : List β} (hE : Eqv E l) (hF : Eqv F k) (R : α → β → Prop) (hl : ∀ a ∈ l, ∃ b ∈ k, R a b) (hk : ∀ b ∈ k, ∃ a ∈ l, R a b) (hR : ∀ a ∈ l, ∀ a' ∈ l, ∀ b ∈ k, ∀ b' ∈ k, R a b → R a' b' → (E a a' = true ↔ F b b' = true)) : cntK E l = cntK F k :=
 Nat.le_antisymm (kinds_le hE hF R hl fun a ha a' ha' b hb b' hb' r r' => (hR a ha a' ha' b hb b' hb' r r').2)
  (kinds_le hF hE (fun b a => R a b) hk fun b hb b' hb' a ha a' ha' r r' => (hR a ha a' ha' b hb b' hb' r r').1)
def endM (ms : List Mv) (m : Mv) (xs : List Nat) : Nat := endN (grp ms (m.name, m.frm.length)) (xs.map bitsN)
def inL (la x : Nat) : Bool := decide (x &&& la ≠ 0)
inductive ApS (ms : List Mv) (la : Nat) (all : List Nat) : Nat → Nat → Prop
 | last {s r : Nat} (hs : s ∈ all) (hr : r ∈ all) (h : inL la s ≠ inL la r) : ApS ms la all s r
 | step {a s : Nat} (m : Mv) (xs : List Nat) (i : Nat) (hm : m ∈ ms) (hl : xs.length = m.frm.length) (hx : ∀ x ∈ xs, x ∈ all) (hi : xs[i]? = some a) (hs : s ∈ all) (h : ApS ms la all (endM ms m xs) (endM ms m (xs.set i s))) : ApS ms la all a s
theorem set_in {all xs : List Nat} {i s : Nat} (hx : ∀ x ∈ xs, x ∈ all) (hs : s ∈ all) : ∀ x ∈ xs.set i s, x ∈ all := fun x hxx => by
 rcases List.mem_or_eq_of_mem_set hxx with h | h
 ·exact hx x h
 ·rw [h]; exact hs
theorem ApS.irrefl {ms : List Mv} {la : Nat} {all : List Nat} {s r : Nat} (h : ApS ms la all s r) : s ≠ r := by
 induction h with
 | last hs hr h => intro e; subst e; exact h rfl
 | step m xs i hm hl hx hi hs h0 ih =>
  rintro rfl
  apply ih
  obtain ⟨h1, h2⟩ := List.getElem?_eq_some_iff.1 hi
  rw [← h2, List.set_getElem_self]
theorem ApS.symm {ms : List Mv} {la : Nat} {all : List Nat} {s r : Nat} (h : ApS ms la all s r) : ApS ms la all r s := by
 induction h with
 | last hs hr h => exact .last hr hs h.symm
 | step m xs i hm hl hx hi hs h0 ih =>
  rename_i a s
  obtain ⟨h1, h2⟩ := List.getElem?_eq_some_iff.1 hi
  refine .step m (xs.set i s) i hm (by simpa using hl) (set_in hx hs) (by simp [h1]) (hx a (List.mem_of_getElem? hi)) ?_
  have e : (xs.set i s).set i a = xs := by rw [List.set_set, ← h2, List.set_getElem_self]
  rw [e]
  exact ih
theorem ApS.either {ms : List Mv} {la : Nat} {all : List Nat} (hcl : ∀ m ∈ ms, ∀ xs : List Nat, xs.length = m.frm.length → (∀ x ∈ xs, x ∈ all) → endM ms m xs ∈ all) {s r : Nat} (h : ApS ms la all s r) : ∀ u ∈ all, ApS ms la all s u ∨ ApS ms la all u r := by
 induction h with
 | last hs hr h =>
  rename_i s r
  intro u hu
  by_cases e : inL la s = inL la u
  ·exact Or.inr (.last hu hr (by rw [← e]; exact h))
  ·exact Or.inl (.last hs hu e)
 | step m xs i hm hl hx hi hs h0 ih =>
  rename_i a s
  intro u hu
  obtain ⟨h1, h2⟩ := List.getElem?_eq_some_iff.1 hi
  rcases ih (endM ms m (xs.set i u)) (hcl m hm _ (by simpa using hl) (set_in hx hu)) with g | g
  ·exact Or.inl (.step m xs i hm hl hx hi hu g)
  ·refine Or.inr (.step m (xs.set i u) i hm (by simpa using hl) (set_in hx hu) (by simp [h1]) hs ?_)
   rw [List.set_set]
   exact g
open Classical in
noncomputable def alkS (ms : List Mv) (la : Nat) (all : List Nat) (s r : Nat) : Bool := !decide (ApS ms la all s r)
theorem alkS_iff {ms : List Mv} {la : Nat} {all : List Nat} {s r : Nat} : alkS ms la all s r = true ↔ ¬ ApS ms la all s r := by unfold alkS; simp
theorem alkS_eqv {ms : List Mv} {n la : Nat} {all : List Nat} (h : EndsOk ms n all) : Eqv (alkS ms la all) all :=
 ⟨fun x _ => alkS_iff.2 fun g => g.irrefl rfl, fun x _ y _ g => alkS_iff.2 fun k => alkS_iff.1 g k.symm, fun x hx y hy z hz g1 g2 => alkS_iff.2 fun k => by
  rcases k.either h.cl y hy with k | k
  ·exact alkS_iff.1 g1 k
  ·exact alkS_iff.1 g2 k⟩
theorem sym_sub {ms ks : List Mv} (hsy : ∀ m ∈ ms, ∃ m' ∈ ks, m'.name = m.name ∧ m'.frm.length = m.frm.length) {t : Tm} (h : SymT ms t) : SymT ks t := by
 induction h with
 | mk m hm e1 e2 h0 ih =>
  obtain ⟨m', hm', g1, g2⟩ := hsy m hm
  exact .mk m' hm' (by rw [g1, e1]) (by omega) ih
theorem mvsIn_of {A : Au} (hA : OkAu 8 40 A) {n : Nat} (hn : A.st = (n : Int)) : MvsIn n A.mv := fun m hm => by
 have o := hA.mv m hm
 rw [hn] at o
 exact ⟨o.to, fun z hz => (o.frm z hz).1⟩
theorem inL_acc {A : Au} (hA : OkAu 8 40 A) {n : Nat} (hn : A.st = (n : Int)) {x : Nat} {t : Tm} (h : SetIs x (endX A.mv n t)) : inL (setN A.la) x = accB A t := by
 have e2 : endT A t = endX A.mv n t := by
  unfold endT endX
  rw [hn, Int.toNat_natCast]
 unfold inL accB
 rw [e2, Bool.eq_iff_iff, decide_eq_true_eq]
 exact left_bit hA.la h fun s hs => rfl
structure Marks (ms : List Mv) (la : Nat) (all : List Nat) (T : Nat → Nat → Bool) : Prop where
 sound : ∀ s ∈ all, ∀ r ∈ all, T s r = true → ApS ms la all s r
 last : ∀ s ∈ all, ∀ r ∈ all, inL la s ≠ inL la r → T s r = true
theorem Marks.start {ms : List Mv} {la : Nat} {all : List Nat} {T : Nat → Nat → Bool} (h : ∀ s ∈ all, ∀ r ∈ all, T s r = (inL la s != inL la r)) : Marks ms la all T :=
 ⟨fun s hs r hr e => .last hs hr (by rw [h s hs r hr] at e; simpa using e), fun s hs r hr e => by rw [h s hs r hr]; simpa using e⟩
theorem Marks.mark {ms : List Mv} {la : Nat} {all : List Nat} {T : Nat → Nat → Bool} (h : Marks ms la all T) (hcl : ∀ m ∈ ms, ∀ xs : List Nat, xs.length = m.frm.length → (∀ x ∈ xs, x ∈ all) → endM ms m xs ∈ all) {m : Mv} (hm : m ∈ ms) {xs : List Nat} {i a s : Nat} (hl : xs.length = m.frm.length) (hx : ∀ x ∈ xs, x ∈ all) (hi : xs[i]? = some a) (hs : s ∈ all) (ht : T (endM ms m xs) (endM ms m (xs.set i s)) = true) {T' : Nat → Nat → Bool} (hT : ∀ x y, T' x y = (T x y || (decide (x = a ∧ y = s) || decide (x = s ∧ y = a)))) : Marks ms la all T' := by
 have key : ApS ms la all a s := .step m xs i hm hl hx hi hs (h.sound _ (hcl m hm xs hl hx) _ (hcl m hm _ (by simpa using hl) (set_in hx hs)) ht)
 refine ⟨fun x hx y hy e => ?_, fun x hx y hy e => by rw [hT, h.last x hx y hy e]; rfl⟩
 rw [hT, Bool.or_eq_true, Bool.or_eq_true, decide_eq_true_eq, decide_eq_true_eq] at e
 rcases e with e | ⟨rfl, rfl⟩ | ⟨rfl, rfl⟩
 ·exact h.sound x hx y hy e
 ·exact key
 ·exact key.symm
theorem Marks.full {ms : List Mv} {la : Nat} {all : List Nat} {T : Nat → Nat → Bool} (h : Marks ms la all T) (hno : ∀ m ∈ ms, ∀ (xs : List Nat) (i a s : Nat), xs.length = m.frm.length → (∀ x ∈ xs, x ∈ all) → xs[i]? = some a → s ∈ all → T (endM ms m xs) (endM ms m (xs.set i s)) = true → T a s = true) {s r : Nat} (hap : ApS ms la all s r) : T s r = true := by
 induction hap with
 | last hs hr e => exact h.last _ hs _ hr e
 | step m xs i hm hl hx hi hs _ ih => exact hno m hm xs i _ _ hl hx hi hs ih
theorem repR_congr {α : Type} {E F : α → α → Bool} : ∀ {l : List α}, (∀ x ∈ l, ∀ y ∈ l, E x y = F x y) → repR E l = repR F l
 | [], _ => rfl
 | x :: r, h => by
  have e : r.any (E x) = r.any (F x) := by
   rw [Bool.eq_iff_iff, List.any_eq_true, List.any_eq_true]
   exact ⟨fun ⟨y, hy, g⟩ => ⟨y, hy, by rw [← h x (by simp) y (by simp [hy])]; exact g⟩, fun ⟨y, hy, g⟩ => ⟨y, hy, by rw [h x (by simp) y (by simp [hy])]; exact g⟩⟩
  rw [repR, repR, e, repR_congr fun y hy z hz => h y (by simp [hy]) z (by simp [hz])]
theorem Marks.count {ms : List Mv} {la : Nat} {all : List Nat} {T : Nat → Nat → Bool} (h : Marks ms la all T) (hno : ∀ m ∈ ms, ∀ (xs : List Nat) (i a s : Nat), xs.length = m.frm.length → (∀ x ∈ xs, x ∈ all) → xs[i]? = some a → s ∈ all → T (endM ms m xs) (endM ms m (xs.set i s)) = true → T a s = true) : cntK (fun s r => !T s r) all = cntK (alkS ms la all) all := by
 unfold cntK
 rw [repR_congr fun x hx y hy => ?_]
 have hx' : x ∈ all := by simpa using hx
 have hy' : y ∈ all := by simpa using hy
 rw [Bool.eq_iff_iff, alkS_iff]
 constructor
 ·intro e k
  rw [h.full hno k] at e
  cases e
 ·intro e
  cases ht : T x y with
  | false => rfl
  | true => exact absurd (h.sound x hx' y hy' ht) e
def SameE (A B : Au) (t u : Tm) : Prop := endT A t = endT A u ∧ endT B t = endT B u
structure GrdOk (A B : Au) (out : List Tm) : Prop where
 sym : ∀ t ∈ out, SymT (A.mv ++ B.mv) t
 cl : ∀ m ∈ A.mv ++ B.mv, ∀ l : List Tm, l.length = m.frm.length → (∀ x ∈ l, x ∈ out) → ∃ t ∈ out, SameE A B t ⟨m.name, l⟩
theorem endT_args {A : Au} {nm : ByteArray} {l k : List Tm} (hl : l.length = k.length) (h : ∀ (i : Nat) (h1 : i < l.length) (h2 : i < k.length), endT A l[i] = endT A k[i]) : endT A ⟨nm, l⟩ = endT A ⟨nm, k⟩ := by
 have e : endsL A.mv A.st.toNat l = endsL A.mv A.st.toNat k := by
  rw [endsL_map, endsL_map]
  refine List.ext_getElem (by simpa using hl) fun i h1 h2 => ?_
  rw [List.getElem_map, List.getElem_map]
  exact h i (by simpa using h1) (by simpa using h2)
 unfold endT
 show edgT A.mv A.st.toNat nm (endsL A.mv A.st.toNat l) = edgT A.mv A.st.toNat nm (endsL A.mv A.st.toNat k)
 rw [e]
theorem grd_rep {A B : Au} {out : List Tm} (h : GrdOk A B out) {t : Tm} (ht : SymT (A.mv ++ B.mv) t) : ∃ u ∈ out, SameE A B u t := by
 induction ht with
 | mk m hm e1 e2 h0 ih =>
  rename_i nm l
  obtain ⟨us, e, h1, h2⟩ := one_each (P := fun t u => SameE A B u t) (Q := fun u => u ∈ out) l ih
  obtain ⟨u, hu, g1, g2⟩ := h.cl m hm us (by omega) h1
  rw [e1] at g1 g2
  exact ⟨u, hu, g1.trans (endT_args e fun i p1 p2 => (h2 i p2 p1).1), g2.trans (endT_args e fun i p1 p2 => (h2 i p2 p1).2)⟩
theorem sym_of {ms : List Mv} {n : Nat} (hz : ∀ m ∈ ms, ∀ z ∈ m.frm, 0 ≤ z) (t : Tm) : ∀ s : Nat, bitAt (endX ms n t) (s : Int) = true → SymT ms t := by
 induction t using Tm.ind with
 | h nm l ih =>
  intro s hb
  obtain ⟨m, hm, e1, e2, hg⟩ := endX_bit hb
  refine .mk m hm e1 e2 fun x hx => ?_
  obtain ⟨i, hi, rfl⟩ := List.mem_iff_getElem.1 hx
  have hi2 : i < m.frm.length := by omega
  have g := goB_all.1 hg i (by rw [endsL_len]; exact hi) hi2
  rw [endsL_at ms n l i hi] at g
  obtain ⟨r, hr⟩ : ∃ r : Nat, m.frm[i] = (r : Int) := ⟨m.frm[i].toNat, by have := hz m hm m.frm[i] (List.getElem_mem hi2); omega⟩
  rw [hr] at g
  exact ih l[i] (List.getElem_mem hi) r g
theorem sym_acc {A : Au} (hA : OkAu 8 40 A) {t : Tm} (h : accB A t = true) : SymT A.mv t := by
 unfold accB lasB at h
 obtain ⟨s, hs, hb⟩ := List.any_eq_true.1 h
 obtain ⟨k, rfl⟩ : ∃ k : Nat, s = (k : Int) := ⟨s.toNat, by have := hA.la s hs; omega⟩
 exact sym_of (n := A.st.toNat) (fun m hm z hz => ((hA.mv m hm).frm z hz).1) t k hb
theorem withinOf_iff {A B : Au} (hA : OkAu 8 40 A) {out : List Tm} (h : GrdOk A B out) : (∀ t ∈ out, accB A t = true → accB B t = true) ↔ ∀ t, accB A t = true → accB B t = true := by
 constructor
 ·intro hall t ht
  obtain ⟨u, hu, g1, g2⟩ := grd_rep h (sym_sub (fun m hm => ⟨m, List.mem_append.2 (Or.inl hm), rfl, rfl⟩) (sym_acc hA ht))
  have := hall u hu (by unfold accB at ht ⊢; rw [g1]; exact ht)
  unfold accB at this ⊢
  rw [← g2]
  exact this
 ·exact fun hall t _ => hall t
inductive ApT (A : Au) (l : List Tm) : Tm → Tm → Prop
 | last {t u : Tm} (ht : t ∈ l) (hu : u ∈ l) (h : accB A t ≠ accB A u) : ApT A l t u
 | step {a s u v : Tm} (m : Mv) (xs : List Tm) (i : Nat) (hm : m ∈ A.mv) (hl : xs.length = m.frm.length) (hx : ∀ x ∈ xs, x ∈ l) (hi : xs[i]? = some a) (hs : s ∈ l) (hu : u ∈ l) (hv : v ∈ l) (eu : endT A u = endT A ⟨m.name, xs⟩) (ev : endT A v = endT A ⟨m.name, xs.set i s⟩) (h : ApT A l u v) : ApT A l a s
theorem endT_X {A : Au} {n : Nat} (hn : A.st = (n : Int)) (t : Tm) : endT A t = endX A.mv n t := by
 unfold endT endX
 rw [hn, Int.toNat_natCast]
theorem set_inT {α : Type} {all xs : List α} {i : Nat} {s : α} (hx : ∀ x ∈ xs, x ∈ all) (hs : s ∈ all) : ∀ x ∈ xs.set i s, x ∈ all := fun x hxx => by
 rcases List.mem_or_eq_of_mem_set hxx with h | h
 ·exact hx x h
 ·rw [h]; exact hs
theorem set_rel {α β : Type} {P : α → β → Prop} {xs : List α} {zs : List β} {i : Nat} {v : α} {w : β} (h : ∀ (q : Nat) (h1 : q < xs.length) (h2 : q < zs.length), P xs[q] zs[q]) (hvw : P v w) : ∀ (q : Nat) (h1 : q < (xs.set i v).length) (h2 : q < (zs.set i w).length), P (xs.set i v)[q] (zs.set i w)[q] := fun q p1 p2 => by
 by_cases e : i = q
 ·subst e; simpa using hvw
 ·rw [List.getElem_set_ne e, List.getElem_set_ne e]
  exact h q (by simpa using p1) (by simpa using p2)
theorem ap_t {A : Au} (hA : OkAu 8 40 A) {n : Nat} (hn : A.st = (n : Int)) {all : List Nat} (ha : EndsOk A.mv n all) {l : List Tm} (hl : ∀ t ∈ l, SymT A.mv t) {t u : Tm} (h : ApT A l t u) : ∀ x ∈ all, ∀ y ∈ all, SetIs x (endX A.mv n t) → SetIs y (endX A.mv n u) → ApS A.mv (setN A.la) all x y := by
 have h8 := hA.st
 have hms := mvsIn_of hA hn
 induction h with
 | last ht hu h =>
  intro x hx y hy h1 h2
  exact .last hx hy (by rw [inL_acc hA hn h1, inL_acc hA hn h2]; exact h)
 | step m xs i hm hl2 hx hi hs hu hv eu ev h0 ih =>
  rename_i a s u v
  intro x hxx y hyy h1 h2
  obtain ⟨g1, g2⟩ := List.getElem?_eq_some_iff.1 hi
  obtain ⟨zs, ez, hz1, hz2⟩ := one_each (P := fun t x => SetIs x (endX A.mv n t)) (Q := fun x => x ∈ all) xs fun t ht => ends_sym ha (by omega) hms (hl t (hx t ht))
  have exs : xs.set i a = xs := by rw [← g2, List.set_getElem_self]
  have s1 : SetIs (endM A.mv m (zs.set i x)) (endX A.mv n u) := by
   have := end_of (by omega) hms m.name (l := xs.set i a) (xs := zs.set i x) (by simpa using ez) (set_rel (P := fun t x => SetIs x (endX A.mv n t)) hz2 h1)
   rw [List.length_set, hl2, exs, ← endT_X hn, ← eu, endT_X hn] at this
   exact this
  have s2 : SetIs (endM A.mv m (zs.set i y)) (endX A.mv n v) := by
   have := end_of (by omega) hms m.name (l := xs.set i s) (xs := zs.set i y) (by simpa using ez) (set_rel (P := fun t x => SetIs x (endX A.mv n t)) hz2 h2)
   rw [List.length_set, hl2, ← endT_X hn, ← ev, endT_X hn] at this
   exact this
  refine .step m (zs.set i x) i hm (by simp; omega) (set_inT hz1 hxx) (by simp [show i < zs.length by omega]) hyy ?_
  rw [List.set_set]
  exact ih _ (ha.cl m hm _ (by simp; omega) (set_inT hz1 hxx)) _ (ha.cl m hm _ (by simp; omega) (set_inT hz1 hyy)) s1 s2
theorem ap_s {A : Au} (hA : OkAu 8 40 A) {n : Nat} (hn : A.st = (n : Int)) {all : List Nat} (ha : EndsOk A.mv n all) {l : List Tm} (hto : ∀ x ∈ all, ∃ t ∈ l, SetIs x (endX A.mv n t)) (hcl : ∀ m ∈ A.mv, ∀ k : List Tm, k.length = m.frm.length → (∀ x ∈ k, x ∈ l) → ∃ t ∈ l, endT A t = endT A ⟨m.name, k⟩) {x y : Nat} (h : ApS A.mv (setN A.la) all x y) : ∀ t ∈ l, ∀ u ∈ l, SetIs x (endX A.mv n t) → SetIs y (endX A.mv n u) → ApT A l t u := by
 have h8 := hA.st
 have hms := mvsIn_of hA hn
 induction h with
 | last hs hr h =>
  intro t ht u hu h1 h2
  exact .last ht hu (by rw [← inL_acc hA hn h1, ← inL_acc hA hn h2]; exact h)
 | step m xs i hm hl2 hx hi hs h0 ih =>
  rename_i a s
  intro t ht u hu h1 h2
  obtain ⟨g1, g2⟩ := List.getElem?_eq_some_iff.1 hi
  obtain ⟨zs, ez, hz1, hz2⟩ := one_each (P := fun x t => SetIs x (endX A.mv n t)) (Q := fun t => t ∈ l) xs fun x hxx => hto x (hx x hxx)
  have exs : xs.set i a = xs := by rw [← g2, List.set_getElem_self]
  obtain ⟨p, hp, ep⟩ := hcl m hm (zs.set i t) (by simp; omega) (set_inT hz1 ht)
  obtain ⟨q, hq, eq⟩ := hcl m hm (zs.set i u) (by simp; omega) (set_inT hz1 hu)
  have s1 : SetIs (endM A.mv m xs) (endX A.mv n p) := by
   have := end_of (by omega) hms m.name (l := zs.set i t) (xs := xs.set i a) (by simpa using ez.symm) (fun j p1 p2 => set_rel (P := fun x t => SetIs x (endX A.mv n t)) hz2 h1 j p2 p1)
   rw [List.length_set, exs, show zs.length = m.frm.length by omega, ← endT_X hn, ← ep, endT_X hn] at this
   exact this
  have s2 : SetIs (endM A.mv m (xs.set i s)) (endX A.mv n q) := by
   have := end_of (by omega) hms m.name (l := zs.set i u) (xs := xs.set i s) (by simpa using ez.symm) (fun j p1 p2 => set_rel (P := fun x t => SetIs x (endX A.mv n t)) hz2 h2 j p2 p1)
   rw [List.length_set, show zs.length = m.frm.length by omega, ← endT_X hn, ← eq, endT_X hn] at this
   exact this
  refine .step (u := p) (v := q) m (zs.set i t) i hm (by simp; omega) (set_inT hz1 ht) (by simp [show i < zs.length by omega]) hu hp hq ep (by rw [List.set_set]; exact eq) ?_
  exact ih p hp q hq s1 s2
open Classical in
noncomputable def alkT (A : Au) (l : List Tm) (t u : Tm) : Bool := !decide (ApT A l t u)
theorem alkT_iff {A : Au} {l : List Tm} {t u : Tm} : alkT A l t u = true ↔ ¬ ApT A l t u := by unfold alkT; simp
theorem leastOf_eq {A B : Au} (hA : OkAu 8 40 A) {n : Nat} (hn : A.st = (n : Int)) (hB : B.mv = []) {all : List Nat} (ha : EndsOk A.mv n all) {l : List Tm} (hl : GrdOk A B l) : cntK (alkT A l) l = cntK (alkS A.mv (setN A.la) all) all := by
 have h8 := hA.st
 have hms := mvsIn_of hA hn
 have eAB : A.mv ++ B.mv = A.mv := by rw [hB, List.append_nil]
 have hsym : ∀ t ∈ l, SymT A.mv t := fun t ht => by have := hl.sym t ht; rw [eAB] at this; exact this
 have hnum : ∀ t ∈ l, ∃ x ∈ all, SetIs x (endX A.mv n t) := fun t ht => ends_sym ha (by omega) hms (hsym t ht)
 have hto : ∀ x ∈ all, ∃ t ∈ l, SetIs x (endX A.mv n t) := fun x hx => by
  obtain ⟨t, h1, h2⟩ := ha.term x hx
  obtain ⟨u, hu, g, _⟩ := grd_rep hl (t := t) (by rw [eAB]; exact h1)
  exact ⟨u, hu, by rw [← endT_X hn, g, endT_X hn]; exact h2⟩
 have hcl : ∀ m ∈ A.mv, ∀ k : List Tm, k.length = m.frm.length → (∀ x ∈ k, x ∈ l) → ∃ t ∈ l, endT A t = endT A ⟨m.name, k⟩ := fun m hm k hk hx => by
  obtain ⟨t, ht, g, _⟩ := hl.cl m (by rw [eAB]; exact hm) k hk hx
  exact ⟨t, ht, g⟩
 have iff : ∀ t ∈ l, ∀ u ∈ l, ∀ x ∈ all, ∀ y ∈ all, SetIs x (endX A.mv n t) → SetIs y (endX A.mv n u) → (alkT A l t u = true ↔ alkS A.mv (setN A.la) all x y = true) := fun t ht u hu x hx y hy h1 h2 => by
  rw [alkT_iff, alkS_iff]
  exact not_congr ⟨fun h => ap_t hA hn ha hsym h x hx y hy h1 h2, fun h => ap_s hA hn ha hto hcl h t ht u hu h1 h2⟩
 have he := alkS_eqv (la := setN A.la) ha
 have het : Eqv (alkT A l) l := by
  refine ⟨fun t ht => ?_, fun t ht u hu g => ?_, fun t ht u hu v hv g1 g2 => ?_⟩
  ·obtain ⟨x, hx, h1⟩ := hnum t ht
   exact (iff t ht t ht x hx x hx h1 h1).2 (he.refl x hx)
  ·obtain ⟨x, hx, h1⟩ := hnum t ht
   obtain ⟨y, hy, h2⟩ := hnum u hu
   exact (iff u hu t ht y hy x hx h2 h1).2 (he.symm x hx y hy ((iff t ht u hu x hx y hy h1 h2).1 g))
  ·obtain ⟨x, hx, h1⟩ := hnum t ht
   obtain ⟨y, hy, h2⟩ := hnum u hu
   obtain ⟨z, hz, h3⟩ := hnum v hv
   exact (iff t ht v hv x hx z hz h1 h3).2 (he.trans x hx y hy z hz ((iff t ht u hu x hx y hy h1 h2).1 g1) ((iff u hu v hv y hy z hz h2 h3).1 g2))
 exact kinds_eq het he (fun t x => SetIs x (endX A.mv n t)) hnum hto fun t ht u hu x hx y hy h1 h2 => iff t ht u hu x hx y hy h1 h2
end Go.Proofs.Ytofebfjkodceeaa
