/- Bindings behind one another: plain. -/
import Derived.Test.YtkfppicbningaaaTmQ
import Derived.Test.YtkfppicbningaaaW102
namespace Go.Proofs.Ytkfppicbningaaa
open Go.RowKit
set_option linter.unusedSimpArgs false
set_option linter.unusedVariables false

theorem errL_var {t : Tm} (he : errL [t] = 0) (hv : varB t.name = true) : t = ⟨t.name, []⟩ := by
  obtain ⟨s, l⟩ := t
  have h := (errL_parts he).1 hv
  subst h
  rfl
/-- Bindings that may be: at most k, each of at most m nodes. -/
def Gd (k m : Nat) (l : List Bd) : Prop := SortedB l ∧ l.length ≤ k ∧ ∀ d ∈ l, (nameB d.nm && varB d.nm) = true ∧ errL [d.t] = 0 ∧ sizeL [d.t] ≤ m
theorem Gd.E {k m : Nat} {l : List Bd} (h : Gd k m l) (hk : k ≤ 40) (hm : m ≤ 200) : bindsE l = 0 :=
  bindsE_mk h.1 (Nat.le_trans h.2.1 hk) fun d hd => ⟨(h.2.2 d hd).1, mayE_mk (h.2.2 d hd).2.1 (Nat.le_trans (h.2.2 d hd).2.2 hm)⟩
theorem gd_four {ls : List Bd} {m : Nat} (hm : m ≤ 200) (hs : (ls.map (·.nm)).Sublist four) (ha : ∀ d ∈ ls, sizeL [d.t] ≤ m ∧ errL [d.t] = 0) : Gd 4 m ls := by
  refine ⟨bindsE_sorted (four_E hs fun d hd => ⟨Nat.le_trans (ha d hd).1 hm, (ha d hd).2⟩), ?_, fun d hd => ⟨?_, (ha d hd).2, (ha d hd).1⟩⟩
  · have := hs.length_le
    simp [four] at this
    omega
  · have h4 : ∀ n ∈ four, (nameB n && varB n) = true := by unfold four; decide
    exact h4 _ (hs.subset (List.mem_map.2 ⟨d, hd, rfl⟩))

theorem forT_mapB (rs ls : List Bd) (n : ByteArray) : forT (ls.map (fB rs)) n = (forT ls n).map (fT rs) := by
  induction ls with
  | nil => rfl
  | cons d r ih =>
    rw [List.map_cons, forT, forT]
    by_cases e : d.nm = n
    · rw [if_pos e, if_pos (show (fB rs d).nm = n from e)]; rfl
    · rw [if_neg e, if_neg (show ¬ (fB rs d).nm = n from e)]; exact ih
theorem forT_filterN (ls rs : List Bd) (n : ByteArray) : forT (rs.filter fun d => (forT ls d.nm).isNone) n = if (forT ls n).isNone = true then forT rs n else none := by
  induction rs with
  | nil => simp [forT]
  | cons d r ih =>
    by_cases hd : (forT ls d.nm).isNone = true
    · rw [List.filter_cons_of_pos (p := fun d : Bd => (forT ls d.nm).isNone) hd, forT, forT, ih]
      by_cases e : d.nm = n
      · subst e
        rw [if_pos rfl, if_pos rfl, if_pos hd]
      · rw [if_neg e, if_neg e]
    · rw [List.filter_cons_of_neg (p := fun d : Bd => (forT ls d.nm).isNone) hd, ih, forT]
      by_cases e : d.nm = n
      · subst e
        rw [if_neg hd, if_neg hd]
      · rw [if_neg e]
theorem val_both {ls rs : List Bd} (h1 : bindsE ls = 0) (h2 : bindsE rs = 0) (n : ByteArray) : onT (bothB ls rs) ⟨n, []⟩ = onT rs (onT ls ⟨n, []⟩) := by
  rw [onT_leaf]
  unfold bothB
  rw [forT_append, forT_mapB, forT_filterN]
  cases hf : forT ls n with
  | none =>
    rw [onT_leaf ls, hf]
    show ((none : Option Tm).or (if true = true then forT rs n else none)).getD _ = onT rs ⟨n, []⟩
    rw [onT_leaf]
    simp
  | some t =>
    rw [onT_some hf, ← fT_onT h2 t (forT_var h1 hf).2]
    simp
theorem val_kept {B l : List Bd} (hB : ApartB B) (hg : ∀ d ∈ B, varB d.nm = true ∧ errL [d.t] = 0) (hp : l.Perm (B.filter keepB)) (hl : ApartB l) (n : ByteArray) : onT l ⟨n, []⟩ = onT B ⟨n, []⟩ := by
  rw [onT_leaf, onT_leaf]
  cases hb : forT B n with
  | some t =>
    obtain ⟨d, hd, hn, ht⟩ := forT_mem hb
    cases hk : keepB d with
    | true =>
      have h1 : d ∈ l := hp.symm.subset (List.mem_filter.2 ⟨hd, hk⟩)
      have h2 := forT_of hl h1
      rw [hn, ht] at h2
      rw [h2]
    | false =>
      have e : d.t.name = d.nm := bytes_inj (by simpa [keepB] using hk)
      have e2 := errL_var (hg d hd).2 (by rw [e]; exact (hg d hd).1)
      cases h1 : forT l n with
      | none =>
        show (⟨n, []⟩ : Tm) = t
        rw [← ht, e2, e, hn]
      | some t' =>
        obtain ⟨d', hd', hn', ht'⟩ := forT_mem h1
        obtain ⟨h3, h4⟩ := List.mem_filter.1 (hp.subset hd')
        have h5 := forT_of hB h3
        rw [hn', hb] at h5
        cases h5
        unfold keepB at hk h4
        rw [hn', ← ht] at h4
        rw [hn] at hk
        rw [h4] at hk
        cases hk
  | none =>
    cases h1 : forT l n with
    | none => rfl
    | some t' =>
      obtain ⟨d', hd', hn', ht'⟩ := forT_mem h1
      have h5 := forT_of hB (List.mem_filter.1 (hp.subset hd')).1
      rw [hn', hb] at h5
      cases h5
theorem bothB_apart2 {ls rs : List Bd} (h1 : bindsE ls = 0) (h2 : bindsE rs = 0) : ApartB (bothB ls rs) := by
  unfold bothB
  refine List.pairwise_append.2 ⟨List.pairwise_map.2 (bindsE_sorted h1).apart, (bindsE_sorted h2).apart.sublist List.filter_sublist, fun a ha b hb e => ?_⟩
  obtain ⟨d, hd, rfl⟩ := List.mem_map.1 ha
  obtain ⟨_, hf⟩ := List.mem_filter.1 hb
  obtain ⟨t, ht⟩ := forT_some_of hd
  have e2 : d.nm = b.nm := e
  rw [← e2, ht] at hf
  cases hf
theorem both_mem {k1 m1 k2 m2 : Nat} {ls rs : List Bd} (h1 : Gd k1 m1 ls) (h2 : Gd k2 m2 rs) (hk1 : k1 ≤ 40) (hk2 : k2 ≤ 40) (hm1 : m1 ≤ 200) (hm2 : m2 ≤ 200) (p1 : 1 ≤ m1) (p2 : 1 ≤ m2) : ∀ d ∈ bothB ls rs, (nameB d.nm && varB d.nm) = true ∧ errL [d.t] = 0 ∧ sizeL [d.t] ≤ m1 * m2 := by
  intro d hd
  unfold bothB at hd
  have E1 := h1.E hk1 hm1
  have E2 := h2.E hk2 hm2
  rcases List.mem_append.1 hd with hd | hd
  · obtain ⟨d', hd', rfl⟩ := List.mem_map.1 hd
    obtain ⟨g1, g2, g3⟩ := h1.2.2 d' hd'
    have e : fT rs d'.t = onT rs d'.t := fT_onT E2 _ (mayE_mk g2 (by omega))
    refine ⟨g1, ?_, ?_⟩
    · show errL [fT rs d'.t] = 0
      rw [e]
      exact errL_onT E2 g2
    · show sizeL [fT rs d'.t] ≤ _
      rw [e]
      exact Nat.le_trans (onT_size p2 (fun d hd => (h2.2.2 d hd).2.2) d'.t) (Nat.mul_le_mul_right _ g3)
  · obtain ⟨g1, g2, g3⟩ := h2.2.2 d (List.mem_filter.1 hd).1
    exact ⟨g1, g2, Nat.le_trans g3 (Nat.le_mul_of_pos_left _ p1)⟩
/-- What Then answers. -/
def IsThen (ls rs l : List Bd) : Prop := l.Perm ((bothB ls rs).filter keepB) ∧ SortedB l
theorem IsThen.gd {k1 m1 k2 m2 : Nat} {ls rs l : List Bd} (h : IsThen ls rs l) (h1 : Gd k1 m1 ls) (h2 : Gd k2 m2 rs) (hk1 : k1 ≤ 40) (hk2 : k2 ≤ 40) (hm1 : m1 ≤ 200) (hm2 : m2 ≤ 200) (p1 : 1 ≤ m1) (p2 : 1 ≤ m2) : Gd (k1 + k2) (m1 * m2) l := by
  refine ⟨h.2, ?_, fun d hd => both_mem h1 h2 hk1 hk2 hm1 hm2 p1 p2 d (List.mem_filter.1 (h.1.subset hd)).1⟩
  have e1 := h.1.length_eq
  have e2 : ((bothB ls rs).filter keepB).length ≤ (bothB ls rs).length := List.length_filter_le _ _
  have e3 : (bothB ls rs).length ≤ ls.length + rs.length := by
    unfold bothB
    rw [List.length_append, List.length_map]
    have := List.length_filter_le (fun d : Bd => (forT ls d.nm).isNone) rs
    omega
  have := h1.2.1
  have := h2.2.1
  omega
theorem IsThen.val {k1 m1 k2 m2 : Nat} {ls rs l : List Bd} (h : IsThen ls rs l) (h1 : Gd k1 m1 ls) (h2 : Gd k2 m2 rs) (hk1 : k1 ≤ 40) (hk2 : k2 ≤ 40) (hm1 : m1 ≤ 200) (hm2 : m2 ≤ 200) (p1 : 1 ≤ m1) (p2 : 1 ≤ m2) (n : ByteArray) : onT l ⟨n, []⟩ = onT rs (onT ls ⟨n, []⟩) := by
  rw [← val_both (h1.E hk1 hm1) (h2.E hk2 hm2)]
  exact val_kept (bothB_apart2 (h1.E hk1 hm1) (h2.E hk2 hm2)) (fun d hd => by
    obtain ⟨g1, g2, _⟩ := both_mem h1 h2 hk1 hk2 hm1 hm2 p1 p2 d hd
    exact ⟨(Bool.and_eq_true_iff.1 g1).2, g2⟩) h.1 h.2.apart n
theorem comp_L {ls rs l : List Bd} (h1 : bindsE ls = 0) (h2 : bindsE rs = 0) (h3 : bindsE l = 0) (hv : ∀ n, onT l ⟨n, []⟩ = onT rs (onT ls ⟨n, []⟩)) : ∀ ts : List Tm, errL ts = 0 → onL l ts = onL rs (onL ls ts) := by
  intro ts
  induction ts using Tm.indL with
  | h0 => intro _; simp [onL]
  | h s al r ihl ihr =>
    intro he
    obtain ⟨g1, g2, g3⟩ := errL_parts he
    rw [onL_cons, onL_cons, onL_cons, ihr g3]
    congr 1
    cases hs : varB s with
    | false => rw [onT_sym h3 hs, onT_sym h1 hs, onT_sym h2 hs, ihl g2]
    | true =>
      have e := g1 hs
      subst e
      exact hv s
theorem comp_T {ls rs l : List Bd} (h1 : bindsE ls = 0) (h2 : bindsE rs = 0) (h3 : bindsE l = 0) (hv : ∀ n, onT l ⟨n, []⟩ = onT rs (onT ls ⟨n, []⟩)) {t : Tm} (he : errL [t] = 0) : onT l t = onT rs (onT ls t) := by
  have h := comp_L h1 h2 h3 hv [t] he
  rw [onL_cons, onL_cons, onL_cons] at h
  simpa [onL] using h
theorem sorted_ext : ∀ {x y : List Bd}, SortedB x → SortedB y → (∀ d, d ∈ x ↔ d ∈ y) → x = y
  | [], [], _, _, _ => rfl
  | [], b :: ys, _, _, h => by have := (h b).2 (by simp); cases this
  | a :: xs, [], _, _, h => by have := (h a).1 (by simp); cases this
  | a :: xs, b :: ys, hx, hy, h => by
    obtain ⟨hx1, hx2⟩ := List.pairwise_cons.1 hx
    obtain ⟨hy1, hy2⟩ := List.pairwise_cons.1 hy
    have e : a = b := by
      rcases List.mem_cons.1 ((h a).1 (by simp)) with e | ha
      · exact e
      · rcases List.mem_cons.1 ((h b).2 (by simp)) with e | hb
        · exact e.symm
        · have h1 := hx1 b hb
          have h2 := hy1 a ha
          have h3 : ltB b.nm a.nm = false := ltB_asymm h1
          rw [h3] at h2
          cases h2
    subst e
    congr 1
    refine sorted_ext hx2 hy2 fun d => ⟨fun hd => ?_, fun hd => ?_⟩
    · rcases List.mem_cons.1 ((h d).1 (by simp [hd])) with e | hd'
      · have := hx1 d hd
        rw [e, ltB_irrefl] at this
        cases this
      · exact hd'
    · rcases List.mem_cons.1 ((h d).2 (by simp [hd])) with e | hd'
      · have := hy1 d hd
        rw [e, ltB_irrefl] at this
        cases this
      · exact hd'
theorem sub_of_val {x y : List Bd} (hx : SortedB x) (hk : ∀ d ∈ x, keepB d = true ∧ nameB d.nm = true) (hv : ∀ n, nameB n = true → onT x ⟨n, []⟩ = onT y ⟨n, []⟩) : ∀ d ∈ x, d ∈ y := by
  intro d hd
  have h1 := hv d.nm (hk d hd).2
  rw [onT_leaf, onT_leaf, forT_of hx.apart hd] at h1
  cases hf : forT y d.nm with
  | none =>
    rw [hf] at h1
    have e : d.t = ⟨d.nm, []⟩ := h1
    have h2 := (hk d hd).1
    unfold keepB at h2
    rw [e] at h2
    simp at h2
  | some t =>
    rw [hf] at h1
    have e : d.t = t := h1
    obtain ⟨d', hd', hn, ht⟩ := forT_mem hf
    have e2 : d' = d := by
      cases d; cases d'
      simp only at hn ht e
      rw [hn, ht, e]
    rw [← e2]
    exact hd'
/-- Doing one behind the other is associative. -/
theorem then_assoc {s r q sr rq x y : List Bd} (hs : Gd 4 11 s) (hr : Gd 4 11 r) (hq : Gd 4 11 q) (h1 : IsThen s r sr) (h2 : IsThen r q rq) (h3 : IsThen sr q x) (h4 : IsThen s rq y) : x = y := by
  have gsr : Gd 8 121 sr := h1.gd hs hr (by omega) (by omega) (by omega) (by omega) (by omega) (by omega)
  have grq : Gd 8 121 rq := h2.gd hr hq (by omega) (by omega) (by omega) (by omega) (by omega) (by omega)
  have gx := h3.gd gsr hq (by omega) (by omega) (by omega) (by omega) (by omega) (by omega)
  have gy := h4.gd hs grq (by omega) (by omega) (by omega) (by omega) (by omega) (by omega)
  have hv : ∀ n, nameB n = true → onT x ⟨n, []⟩ = onT y ⟨n, []⟩ := fun n hn => by
    rw [h3.val gsr hq (by omega) (by omega) (by omega) (by omega) (by omega) (by omega), h4.val hs grq (by omega) (by omega) (by omega) (by omega) (by omega) (by omega), h1.val hs hr (by omega) (by omega) (by omega) (by omega) (by omega) (by omega)]
    exact (comp_T (hr.E (by omega) (by omega)) (hq.E (by omega) (by omega)) (grq.E (by omega) (by omega)) (h2.val hr hq (by omega) (by omega) (by omega) (by omega) (by omega) (by omega)) (errL_onT (hs.E (by omega) (by omega)) (err_leaf hn))).symm
  have kx : ∀ d ∈ x, keepB d = true ∧ nameB d.nm = true := fun d hd => ⟨(List.mem_filter.1 (h3.1.subset hd)).2, (Bool.and_eq_true_iff.1 (gx.2.2 d hd).1).1⟩
  have ky : ∀ d ∈ y, keepB d = true ∧ nameB d.nm = true := fun d hd => ⟨(List.mem_filter.1 (h4.1.subset hd)).2, (Bool.and_eq_true_iff.1 (gy.2.2 d hd).1).1⟩
  exact sorted_ext h3.2 h4.2 fun d => ⟨sub_of_val h3.2 kx hv d, sub_of_val h4.2 ky (fun n hn => (hv n hn).symm) d⟩
#print axioms then_assoc
end Go.Proofs.Ytkfppicbningaaa
