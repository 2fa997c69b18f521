/- Several texts in one. -/
import Derived.Test.YtfodgmnnjgcpgaaZHAutoKindsOwn
/- Plain: the document's row of terms, one of each kind of end, tells inclusion. -/
namespace Go.Proofs.Ytfodgmnnjgcpgaa
open Go.RowKit
set_option linter.unusedSimpArgs false
set_option linter.unusedVariables false
set_option maxRecDepth 8000

/-- They end alike, by both. -/
def SameE (A B : Au) (t u : Tm) : Prop := endT A t = endT A u ∧ endT B t = endT B u
/-- A row of terms, one of each kind of end. -/
structure GrdOk (A B : Au) (out : List Tm) : Prop where
  sym : ∀ t ∈ out, SymT (A.mv ++ B.mv) t
  cl : ∀ m ∈ A.mv ++ B.mv, ∀ l : List Tm, l.length = m.frm.length → (∀ x ∈ l, x ∈ out) → ∃ t ∈ out, SameE A B t ⟨m.name, l⟩
theorem endT_args {A : Au} {nm : ByteArray} {l k : List Tm} (hl : l.length = k.length) (h : ∀ (i : Nat) (h1 : i < l.length) (h2 : i < k.length), endT A l[i] = endT A k[i]) : endT A ⟨nm, l⟩ = endT A ⟨nm, k⟩ := by
  have e : endsL A.mv A.st.toNat l = endsL A.mv A.st.toNat k := by
    rw [endsL_map, endsL_map]
    refine List.ext_getElem (by simpa using hl) fun i h1 h2 => ?_
    rw [List.getElem_map, List.getElem_map]
    exact h i (by simpa using h1) (by simpa using h2)
  unfold endT
  show edgT A.mv A.st.toNat nm (endsL A.mv A.st.toNat l) = edgT A.mv A.st.toNat nm (endsL A.mv A.st.toNat k)
  rw [e]
theorem grd_rep {A B : Au} {out : List Tm} (h : GrdOk A B out) {t : Tm} (ht : SymT (A.mv ++ B.mv) t) : ∃ u ∈ out, SameE A B u t := by
  induction ht with
  | mk m hm e1 e2 h0 ih =>
    rename_i nm l
    obtain ⟨us, e, h1, h2⟩ := one_each (P := fun t u => SameE A B u t) (Q := fun u => u ∈ out) l ih
    obtain ⟨u, hu, g1, g2⟩ := h.cl m hm us (by omega) h1
    rw [e1] at g1 g2
    exact ⟨u, hu, g1.trans (endT_args e fun i p1 p2 => (h2 i p2 p1).1), g2.trans (endT_args e fun i p1 p2 => (h2 i p2 p1).2)⟩
/-- What ends somewhere is of the symbols. -/
theorem sym_of {ms : List Mv} {n : Nat} (hz : ∀ m ∈ ms, ∀ z ∈ m.frm, 0 ≤ z) (t : Tm) : ∀ s : Nat, bitAt (endX ms n t) (s : Int) = true → SymT ms t := by
  induction t using Tm.ind with
  | h nm l ih =>
    intro s hb
    obtain ⟨m, hm, e1, e2, hg⟩ := endX_bit hb
    refine .mk m hm e1 e2 fun x hx => ?_
    obtain ⟨i, hi, rfl⟩ := List.mem_iff_getElem.1 hx
    have hi2 : i < m.frm.length := by omega
    have g := goB_all.1 hg i (by rw [endsL_len]; exact hi) hi2
    rw [endsL_at ms n l i hi] at g
    obtain ⟨r, hr⟩ : ∃ r : Nat, m.frm[i] = (r : Int) := ⟨m.frm[i].toNat, by have := hz m hm m.frm[i] (List.getElem_mem hi2); omega⟩
    rw [hr] at g
    exact ih l[i] (List.getElem_mem hi) r g
theorem sym_acc {A : Au} (hA : OkAu 8 40 A) {t : Tm} (h : accB A t = true) : SymT A.mv t := by
  unfold accB lasB at h
  obtain ⟨s, hs, hb⟩ := List.any_eq_true.1 h
  obtain ⟨k, rfl⟩ : ∃ k : Nat, s = (k : Int) := ⟨s.toNat, by have := hA.la s hs; omega⟩
  exact sym_of (n := A.st.toNat) (fun m hm z hz => ((hA.mv m hm).frm z hz).1) t k hb
theorem withinOf_iff {A B : Au} (hA : OkAu 8 40 A) {out : List Tm} (h : GrdOk A B out) : (∀ t ∈ out, accB A t = true → accB B t = true) ↔ ∀ t, accB A t = true → accB B t = true := by
  constructor
  · intro hall t ht
    obtain ⟨u, hu, g1, g2⟩ := grd_rep h (sym_sub (fun m hm => ⟨m, List.mem_append.2 (Or.inl hm), rfl, rfl⟩) (sym_acc hA ht))
    have := hall u hu (by unfold accB at ht ⊢; rw [g1]; exact ht)
    unfold accB at this ⊢
    rw [← g2]
    exact this
  · exact fun hall t _ => hall t
end Go.Proofs.Ytfodgmnnjgcpgaa

/- Plain: the document's terms that are unlike are those whose ends are told apart. -/
namespace Go.Proofs.Ytfodgmnnjgcpgaa
open Go.RowKit
set_option linter.unusedSimpArgs false
set_option linter.unusedVariables false
set_option maxRecDepth 8000

/-- Unlike terms of a row. -/
inductive ApT (A : Au) (l : List Tm) : Tm → Tm → Prop
  | last {t u : Tm} (ht : t ∈ l) (hu : u ∈ l) (h : accB A t ≠ accB A u) : ApT A l t u
  | step {a s u v : Tm} (m : Mv) (xs : List Tm) (i : Nat) (hm : m ∈ A.mv) (hl : xs.length = m.frm.length) (hx : ∀ x ∈ xs, x ∈ l) (hi : xs[i]? = some a) (hs : s ∈ l) (hu : u ∈ l) (hv : v ∈ l) (eu : endT A u = endT A ⟨m.name, xs⟩) (ev : endT A v = endT A ⟨m.name, xs.set i s⟩) (h : ApT A l u v) : ApT A l a s
theorem endT_X {A : Au} {n : Nat} (hn : A.st = (n : Int)) (t : Tm) : endT A t = endX A.mv n t := by
  unfold endT endX
  rw [hn, Int.toNat_natCast]
theorem set_inT {α : Type} {all xs : List α} {i : Nat} {s : α} (hx : ∀ x ∈ xs, x ∈ all) (hs : s ∈ all) : ∀ x ∈ xs.set i s, x ∈ all := fun x hxx => by
  rcases List.mem_or_eq_of_mem_set hxx with h | h
  · exact hx x h
  · rw [h]; exact hs
theorem set_rel {α β : Type} {P : α → β → Prop} {xs : List α} {zs : List β} {i : Nat} {v : α} {w : β} (h : ∀ (q : Nat) (h1 : q < xs.length) (h2 : q < zs.length), P xs[q] zs[q]) (hvw : P v w) : ∀ (q : Nat) (h1 : q < (xs.set i v).length) (h2 : q < (zs.set i w).length), P (xs.set i v)[q] (zs.set i w)[q] := fun q p1 p2 => by
  by_cases e : i = q
  · subst e; simpa using hvw
  · rw [List.getElem_set_ne e, List.getElem_set_ne e]
    exact h q (by simpa using p1) (by simpa using p2)
theorem ap_t {A : Au} (hA : OkAu 8 40 A) {n : Nat} (hn : A.st = (n : Int)) {all : List Nat} (ha : EndsOk A.mv n all) {l : List Tm} (hl : ∀ t ∈ l, SymT A.mv t) {t u : Tm} (h : ApT A l t u) : ∀ x ∈ all, ∀ y ∈ all, SetIs x (endX A.mv n t) → SetIs y (endX A.mv n u) → ApS A.mv (setN A.la) all x y := by
  have h8 := hA.st
  have hms := mvsIn_of hA hn
  induction h with
  | last ht hu h =>
    intro x hx y hy h1 h2
    exact .last hx hy (by rw [inL_acc hA hn h1, inL_acc hA hn h2]; exact h)
  | step m xs i hm hl2 hx hi hs hu hv eu ev h0 ih =>
    rename_i a s u v
    intro x hxx y hyy h1 h2
    obtain ⟨g1, g2⟩ := List.getElem?_eq_some_iff.1 hi
    obtain ⟨zs, ez, hz1, hz2⟩ := one_each (P := fun t x => SetIs x (endX A.mv n t)) (Q := fun x => x ∈ all) xs fun t ht => ends_sym ha (by omega) hms (hl t (hx t ht))
    have exs : xs.set i a = xs := by rw [← g2, List.set_getElem_self]
    have s1 : SetIs (endM A.mv m (zs.set i x)) (endX A.mv n u) := by
      have := end_of (by omega) hms m.name (l := xs.set i a) (xs := zs.set i x) (by simpa using ez) (set_rel (P := fun t x => SetIs x (endX A.mv n t)) hz2 h1)
      rw [List.length_set, hl2, exs, ← endT_X hn, ← eu, endT_X hn] at this
      exact this
    have s2 : SetIs (endM A.mv m (zs.set i y)) (endX A.mv n v) := by
      have := end_of (by omega) hms m.name (l := xs.set i s) (xs := zs.set i y) (by simpa using ez) (set_rel (P := fun t x => SetIs x (endX A.mv n t)) hz2 h2)
      rw [List.length_set, hl2, ← endT_X hn, ← ev, endT_X hn] at this
      exact this
    refine .step m (zs.set i x) i hm (by simp; omega) (set_inT hz1 hxx) (by simp [show i < zs.length by omega]) hyy ?_
    rw [List.set_set]
    exact ih _ (ha.cl m hm _ (by simp; omega) (set_inT hz1 hxx)) _ (ha.cl m hm _ (by simp; omega) (set_inT hz1 hyy)) s1 s2
theorem ap_s {A : Au} (hA : OkAu 8 40 A) {n : Nat} (hn : A.st = (n : Int)) {all : List Nat} (ha : EndsOk A.mv n all) {l : List Tm} (hto : ∀ x ∈ all, ∃ t ∈ l, SetIs x (endX A.mv n t)) (hcl : ∀ m ∈ A.mv, ∀ k : List Tm, k.length = m.frm.length → (∀ x ∈ k, x ∈ l) → ∃ t ∈ l, endT A t = endT A ⟨m.name, k⟩) {x y : Nat} (h : ApS A.mv (setN A.la) all x y) : ∀ t ∈ l, ∀ u ∈ l, SetIs x (endX A.mv n t) → SetIs y (endX A.mv n u) → ApT A l t u := by
  have h8 := hA.st
  have hms := mvsIn_of hA hn
  induction h with
  | last hs hr h =>
    intro t ht u hu h1 h2
    exact .last ht hu (by rw [← inL_acc hA hn h1, ← inL_acc hA hn h2]; exact h)
  | step m xs i hm hl2 hx hi hs h0 ih =>
    rename_i a s
    intro t ht u hu h1 h2
    obtain ⟨g1, g2⟩ := List.getElem?_eq_some_iff.1 hi
    obtain ⟨zs, ez, hz1, hz2⟩ := one_each (P := fun x t => SetIs x (endX A.mv n t)) (Q := fun t => t ∈ l) xs fun x hxx => hto x (hx x hxx)
    have exs : xs.set i a = xs := by rw [← g2, List.set_getElem_self]
    obtain ⟨p, hp, ep⟩ := hcl m hm (zs.set i t) (by simp; omega) (set_inT hz1 ht)
    obtain ⟨q, hq, eq⟩ := hcl m hm (zs.set i u) (by simp; omega) (set_inT hz1 hu)
    have s1 : SetIs (endM A.mv m xs) (endX A.mv n p) := by
      have := end_of (by omega) hms m.name (l := zs.set i t) (xs := xs.set i a) (by simpa using ez.symm) (fun j p1 p2 => set_rel (P := fun x t => SetIs x (endX A.mv n t)) hz2 h1 j p2 p1)
      rw [List.length_set, exs, show zs.length = m.frm.length by omega, ← endT_X hn, ← ep, endT_X hn] at this
      exact this
    have s2 : SetIs (endM A.mv m (xs.set i s)) (endX A.mv n q) := by
      have := end_of (by omega) hms m.name (l := zs.set i u) (xs := xs.set i s) (by simpa using ez.symm) (fun j p1 p2 => set_rel (P := fun x t => SetIs x (endX A.mv n t)) hz2 h2 j p2 p1)
      rw [List.length_set, show zs.length = m.frm.length by omega, ← endT_X hn, ← eq, endT_X hn] at this
      exact this
    refine .step (u := p) (v := q) m (zs.set i t) i hm (by simp; omega) (set_inT hz1 ht) (by simp [show i < zs.length by omega]) hu hp hq ep (by rw [List.set_set]; exact eq) ?_
    exact ih p hp q hq s1 s2
end Go.Proofs.Ytfodgmnnjgcpgaa

/- Plain: the document counts as many kinds as the program. -/
namespace Go.Proofs.Ytfodgmnnjgcpgaa
open Go.RowKit
set_option linter.unusedSimpArgs false
set_option linter.unusedVariables false
set_option maxRecDepth 8000

open Classical in
/-- Not unlike. -/
noncomputable def alkT (A : Au) (l : List Tm) (t u : Tm) : Bool := !decide (ApT A l t u)
theorem alkT_iff {A : Au} {l : List Tm} {t u : Tm} : alkT A l t u = true ↔ ¬ ApT A l t u := by unfold alkT; simp
theorem leastOf_eq {A B : Au} (hA : OkAu 8 40 A) {n : Nat} (hn : A.st = (n : Int)) (hB : B.mv = []) {all : List Nat} (ha : EndsOk A.mv n all) {l : List Tm} (hl : GrdOk A B l) : cntK (alkT A l) l = cntK (alkS A.mv (setN A.la) all) all := by
  have h8 := hA.st
  have hms := mvsIn_of hA hn
  have eAB : A.mv ++ B.mv = A.mv := by rw [hB, List.append_nil]
  have hsym : ∀ t ∈ l, SymT A.mv t := fun t ht => by have := hl.sym t ht; rw [eAB] at this; exact this
  have hnum : ∀ t ∈ l, ∃ x ∈ all, SetIs x (endX A.mv n t) := fun t ht => ends_sym ha (by omega) hms (hsym t ht)
  have hto : ∀ x ∈ all, ∃ t ∈ l, SetIs x (endX A.mv n t) := fun x hx => by
    obtain ⟨t, h1, h2⟩ := ha.term x hx
    obtain ⟨u, hu, g, _⟩ := grd_rep hl (t := t) (by rw [eAB]; exact h1)
    exact ⟨u, hu, by rw [← endT_X hn, g, endT_X hn]; exact h2⟩
  have hcl : ∀ m ∈ A.mv, ∀ k : List Tm, k.length = m.frm.length → (∀ x ∈ k, x ∈ l) → ∃ t ∈ l, endT A t = endT A ⟨m.name, k⟩ := fun m hm k hk hx => by
    obtain ⟨t, ht, g, _⟩ := hl.cl m (by rw [eAB]; exact hm) k hk hx
    exact ⟨t, ht, g⟩
  have iff : ∀ t ∈ l, ∀ u ∈ l, ∀ x ∈ all, ∀ y ∈ all, SetIs x (endX A.mv n t) → SetIs y (endX A.mv n u) → (alkT A l t u = true ↔ alkS A.mv (setN A.la) all x y = true) := fun t ht u hu x hx y hy h1 h2 => by
    rw [alkT_iff, alkS_iff]
    exact not_congr ⟨fun h => ap_t hA hn ha hsym h x hx y hy h1 h2, fun h => ap_s hA hn ha hto hcl h t ht u hu h1 h2⟩
  have he := alkS_eqv (la := setN A.la) ha
  have het : Eqv (alkT A l) l := by
    refine ⟨fun t ht => ?_, fun t ht u hu g => ?_, fun t ht u hu v hv g1 g2 => ?_⟩
    · obtain ⟨x, hx, h1⟩ := hnum t ht
      exact (iff t ht t ht x hx x hx h1 h1).2 (he.refl x hx)
    · obtain ⟨x, hx, h1⟩ := hnum t ht
      obtain ⟨y, hy, h2⟩ := hnum u hu
      exact (iff u hu t ht y hy x hx h2 h1).2 (he.symm x hx y hy ((iff t ht u hu x hx y hy h1 h2).1 g))
    · obtain ⟨x, hx, h1⟩ := hnum t ht
      obtain ⟨y, hy, h2⟩ := hnum u hu
      obtain ⟨z, hz, h3⟩ := hnum v hv
      exact (iff t ht v hv x hx z hz h1 h3).2 (he.trans x hx y hy z hz ((iff t ht u hu x hx y hy h1 h2).1 g1) ((iff u hu v hv y hy z hz h2 h3).1 g2))
  exact kinds_eq het he (fun t x => SetIs x (endX A.mv n t)) hnum hto fun t ht u hu x hx y hy h1 h2 => iff t ht u hu x hx y hy h1 h2
end Go.Proofs.Ytfodgmnnjgcpgaa
