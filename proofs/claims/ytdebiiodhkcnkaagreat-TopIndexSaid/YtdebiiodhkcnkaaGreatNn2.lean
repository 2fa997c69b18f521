import Derived.Test.YtdebiiodhkcnkaaGreatNn1
namespace Go.Proofs.YtdebiiodhkcnkaaGreat
open Go.RowKit
set_option linter.unusedSimpArgs false
set_option linter.unusedVariables false
def NClo (P : List Tm) (s : List Bd) : Prop := ∀ d ∈ s, ∃ u ∈ P, d.t = onT s u ∧ ∀ e ∈ s, e.nm ≠ u.name
theorem pre_pre : ∀ (l : List Tm) (u k : Tm), u ∈ preL l → k ∈ preL [u] → k ∈ preL l := by
 intro l
 induction l using Tm.indL with
 | h0 => intro u k h; simp [preL] at h
 | h s a r iha ihr =>
  intro u k hu hk
  rw [preL_node] at hu ⊢
  rcases List.mem_cons.1 hu with rfl | hu
  ·rw [preL_node] at hk
   simp [preL] at hk
   rcases hk with rfl | hk
   ·simp
   ·simp [hk]
  ·rcases List.mem_append.1 hu with hu | hu
   ·simp [iha u k hu hk]
   ·simp [ihr u k hu hk]
theorem pre_err : ∀ (l : List Tm) (u : Tm), errL l = 0 → u ∈ preL l → errL [u] = 0 := by
 intro l
 induction l using Tm.indL with
 | h0 => intro u _ h; simp [preL] at h
 | h s a r iha ihr =>
  intro u he hu
  have hp := errL_parts he
  rw [preL_node] at hu
  rcases List.mem_cons.1 hu with rfl | hu
  ·exact (err_two.1 he).1
  ·rcases List.mem_append.1 hu with hu | hu
   ·exact iha u hp.2.1 hu
   ·exact ihr u hp.2.2 hu
theorem cn_pre (y : ByteArray) : ∀ (l : List Tm) (u : Tm), u ∈ preL l → cnL y [u] ≤ cnL y l := by
 intro l
 induction l using Tm.indL with
 | h0 => intro u h; simp [preL] at h
 | h s a r iha ihr =>
  intro u hu
  rw [preL_node] at hu
  rw [cnL]
  rcases List.mem_cons.1 hu with rfl | hu
  ·have : cnL y [(⟨s, a⟩ : Tm)] = (if s = y then 1 else 0) + cnL y a := by simp [cnL]
   omega
  ·rcases List.mem_append.1 hu with hu | hu
   ·have := iha u hu; omega
   ·have := ihr u hu; omega
theorem size_pre : ∀ (l : List Tm) (u : Tm), u ∈ preL l → sizeL [u] ≤ sizeL l := by
 intro l
 induction l using Tm.indL with
 | h0 => intro u h; simp [preL] at h
 | h s a r iha ihr =>
  intro u hu
  rw [preL_node] at hu
  rw [size_node]
  rcases List.mem_cons.1 hu with rfl | hu
  ·have : sizeL [(⟨s, a⟩ : Tm)] = 1 + sizeL a := by simp [sizeL]
   omega
  ·rcases List.mem_append.1 hu with hu | hu
   ·have := iha u hu; omega
   ·have := ihr u hu; omega
theorem cn_none {y : ByteArray} : ∀ l : List Tm, ¬ occL y l → cnL y l = 0 := by
 intro l
 induction l using Tm.indL with
 | h0 => intro _; simp [cnL]
 | h s a r iha ihr =>
  intro h
  rw [occL_node] at h
  rw [cnL, iha fun x => h (Or.inr (Or.inl x)), ihr fun x => h (Or.inr (Or.inr x)), if_neg fun x => h (Or.inl x)]
open Classical in
theorem cN_cons {y : ByteArray} {N : List ByteArray} (hy : y ∉ N) : ∀ l : List Tm, cN (y :: N) l = cnL y l + cN N l := by
 intro l
 induction l using Tm.indL with
 | h0 => simp [cN, cnL]
 | h s a r iha ihr =>
  rw [cN, cN, cnL, iha, ihr]
  by_cases h : s = y
  ·subst h
   simp [hy]
   omega
  ·simp [h]
   omega
open Classical in
theorem cN_nil : ∀ l : List Tm, cN [] l = 0 := by
 intro l
 induction l using Tm.indL with
 | h0 => simp [cN]
 | h s a r iha ihr => simp [cN, iha, ihr]
theorem wS_perm {s r : List Bd} (h : r.Perm s) (l : List Tm) : wS s l = wS r l := by
 unfold wS
 exact (h.map _).sum_nat.symm
theorem clo_less {s : List Bd} (ok : OkS s) {u : Tm} (he : errL [u] = 0) (hu : ∀ e ∈ s, e.nm ≠ u.name) {e : Bd} (hs : e ∈ s) (h : sizeL [onT s u] ≤ sizeL [e.t]) : cnL e.nm [u] = 0 := by
 refine cn_none _ fun ho => ?_
 obtain ⟨n, a⟩ := u
 rcases occL_node.1 ho with h1 | h1 | h1
 ·exact hu e hs h1.symm
 ·have hp := errL_parts he
  have hne : a ≠ [] := by
   rintro rfl
   obtain ⟨k, hk, _⟩ := h1
   simp [preL] at hk
  rw [onT_deep (Or.inl hne)] at h
  have h2 := occ_size ok.vars (ok.vars e hs) a hp.2.1 h1
  rw [onT_some (forT_of ok.1 hs)] at h2
  have h3 : sizeL [(⟨n, onL s a⟩ : Tm)] = 1 + sizeL (onL s a) := by simp [sizeL]
  omega
 ·obtain ⟨k, hk, _⟩ := h1
  simp [preL] at hk
theorem by_size (s : List Bd) : ∃ r : List Bd, r.Perm s ∧ r.Pairwise fun a b => sizeL [b.t] ≤ sizeL [a.t] := by
 refine ⟨s.mergeSort fun a b => decide (sizeL [b.t] ≤ sizeL [a.t]), List.mergeSort_perm _ _, ?_⟩
 have h := List.pairwise_mergeSort (le := fun a b : Bd => decide (sizeL [b.t] ≤ sizeL [a.t])) (fun a b c h1 h2 => by simp at *; omega) (fun a b => by simp; omega) s
 exact h.imp fun h => by simpa using h
theorem clo_small {p q : Tm} (h2 : Ar2 [p, q]) (he : errL [p, q] = 0) (hp : sizeL [p] ≤ 17) (hq : sizeL [q] ≤ 17) {s : List Bd} (ok : OkS s) (hl : s.length ≤ 3) (hc : NClo (preL [p, q]) s) : ∀ v ∈ preL [p, q], sizeL [onT s v] ≤ 2000 := by
 intro v hv
 have hpq : sizeL [p, q] = sizeL [p] + sizeL [q] := size_cons p [q]
 have small : ∀ u ∈ preL [p, q], sizeL [u] ≤ 17 := fun u hu => by
  have e : preL [p, q] = preL [p] ++ preL [q] := by obtain ⟨n, a⟩ := p; simp [preL]
  rw [e] at hu
  rcases List.mem_append.1 hu with hu | hu
  ·have := size_pre _ _ hu; omega
  ·have := size_pre _ _ hu; omega
 obtain ⟨r, hr, hd⟩ := by_size s
 have sz : ∀ u ∈ preL [p, q], sizeL [onT s u] = sizeL [u] + wS r [u] := fun u hu => by
  have h1 := size_on ok.1 ok.vars [u] (pre_err _ _ he hu)
  rw [wS_perm hr] at h1
  rw [← h1, onL_cons]
  simp [onL]
 have hapr : ApartB r := hr.symm.pairwise ok.1 fun h => h.symm
 have hvr : ∀ y ∈ r.map (·.nm), varB y = true := fun y hy => by
  obtain ⟨d, hd, rfl⟩ := List.mem_map.1 hy
  exact ok.vars d (hr.subset hd)
 have last : ∀ u ∈ preL [p, q], cN (r.map (·.nm)) [u] = 0 → sizeL [u] + 2 * cN (r.map (·.nm)) [p, q] ≤ 35 := fun u hu h0 => by
  have k1 := lv_sub _ _ h2 hu
  have k2 := cN_sub hvr _ _ he hu h0
  simp only [List.length_cons, List.length_nil] at k1
  omega
 have hlr : r.length ≤ 3 := by rw [hr.length_eq]; exact hl
 have hcr : ∀ d ∈ r, ∃ u ∈ preL [p, q], sizeL [d.t] = sizeL [u] + wS r [u] ∧ ∀ e ∈ r, sizeL [d.t] ≤ sizeL [e.t] → cnL e.nm [u] = 0 := fun d hd => by
  obtain ⟨u, hu, e1, e2⟩ := hc d (hr.subset hd)
  refine ⟨u, hu, by rw [e1, sz u hu], fun e he2 hle => ?_⟩
  rw [e1] at hle
  exact clo_less ok (pre_err _ _ he hu) e2 (hr.subset he2) hle
 rw [sz v hv]
 have sv := small v hv
 clear hc hr ok hl sz hvr h2
 match r, hlr, hd, hcr, last, hapr with
 | [], _, _, _, _, _ => simp [wS]; omega
 | [d3], _, hd, hcr, last, hap =>
  obtain ⟨u3, m3, e3, z3⟩ := hcr d3 (by simp)
  have k := z3 d3 (by simp) (Nat.le_refl _)
  have hN : ∀ l, cN ([d3].map (·.nm)) l = cnL d3.nm l := fun l => by rw [List.map_cons, List.map_nil, cN_cons (by simp), cN_nil]; omega
  rw [hN] at last
  have l3 := last u3 m3 (by rw [hN, k])
  simp [wS, k] at e3
  have s3 := small u3 m3
  have c3 := cn_pre d3.nm _ _ hv
  have e := count_end 0 0 (cnL d3.nm [p, q]) (sizeL [u3]) (by omega) s3 (sizeL_pos _)
  have m := Nat.mul_le_mul_right (sizeL [u3] - 1) c3
  simp [wS, e3]
  simp at e
  omega
 | [d2, d3], _, hd, hcr, last, hap =>
  simp only [List.pairwise_cons, List.mem_cons, List.not_mem_nil, or_false, forall_eq, false_implies, implies_true, List.Pairwise.nil, and_true] at hd
  obtain ⟨u3, m3, e3, z3⟩ := hcr d3 (by simp)
  obtain ⟨u2, m2, e2, z2⟩ := hcr d2 (by simp)
  have k33 := z3 d3 (by simp) (Nat.le_refl _)
  have k32 := z3 d2 (by simp) hd
  have k22 := z2 d2 (by simp) (Nat.le_refl _)
  have ap : d2.nm ≠ d3.nm := (List.pairwise_cons.1 hap).1 d3 (by simp)
  have hN : ∀ l, cN ([d2, d3].map (·.nm)) l = cnL d2.nm l + cnL d3.nm l := fun l => by rw [List.map_cons, List.map_cons, List.map_nil, cN_cons (by simpa using ap), cN_cons (by simp), cN_nil]; omega
  rw [hN] at last
  have l3 := last u3 m3 (by rw [hN, k33, k32])
  simp [wS, k33, k32] at e3
  simp [wS, k22] at e2
  have s3 := small u3 m3
  have s2 := small u2 m2
  have c3 := cn_pre d3.nm _ _ hv
  have c2 := cn_pre d2.nm _ _ hv
  have c23 := cn_pre d3.nm _ _ m2
  have e := count_end 0 (cnL d2.nm [p, q]) (cnL d3.nm [p, q]) (sizeL [u3]) (by omega) s3 (sizeL_pos _)
  rw [e3] at e2
  have n2 := Nat.mul_le_mul_right (sizeL [u3] - 1) c23
  have w2 : sizeL [d2.t] - 1 ≤ 16 + cnL d3.nm [p, q] * (sizeL [u3] - 1) := by omega
  have m3 := Nat.mul_le_mul_right (sizeL [u3] - 1) c3
  have m2 := Nat.mul_le_mul c2 w2
  simp [wS, e3]
  simp at e
  omega
 | [d1, d2, d3], _, hd, hcr, last, hap =>
  simp only [List.pairwise_cons, List.mem_cons, List.not_mem_nil, or_false, forall_eq_or_imp, forall_eq, false_implies, implies_true, List.Pairwise.nil, and_true] at hd
  obtain ⟨⟨d12, d13⟩, d23⟩ := hd
  obtain ⟨u3, m3, e3, z3⟩ := hcr d3 (by simp)
  obtain ⟨u2, m2, e2, z2⟩ := hcr d2 (by simp)
  obtain ⟨u1, m1, e1, z1⟩ := hcr d1 (by simp)
  have k33 := z3 d3 (by simp) (Nat.le_refl _)
  have k32 := z3 d2 (by simp) d23
  have k31 := z3 d1 (by simp) d13
  have k22 := z2 d2 (by simp) (Nat.le_refl _)
  have k21 := z2 d1 (by simp) d12
  have k11 := z1 d1 (by simp) (Nat.le_refl _)
  have ap1 := (List.pairwise_cons.1 hap).1
  have ap2 := (List.pairwise_cons.1 (List.pairwise_cons.1 hap).2).1 d3 (by simp)
  have a12 := ap1 d2 (by simp)
  have a13 := ap1 d3 (by simp)
  have hN : ∀ l, cN ([d1, d2, d3].map (·.nm)) l = cnL d1.nm l + cnL d2.nm l + cnL d3.nm l := fun l => by rw [List.map_cons, List.map_cons, List.map_cons, List.map_nil, cN_cons (by simpa using ⟨a12, a13⟩), cN_cons (by simpa using ap2), cN_cons (by simp), cN_nil]; omega
  rw [hN] at last
  have l3 := last u3 m3 (by rw [hN, k33, k32, k31])
  simp [wS, k33, k32, k31] at e3
  simp [wS, k22, k21] at e2
  simp [wS, k11] at e1
  have s3 := small u3 m3
  have s2 := small u2 m2
  have s1 := small u1 m1
  have c3 := cn_pre d3.nm _ _ hv
  have c2 := cn_pre d2.nm _ _ hv
  have c1 := cn_pre d1.nm _ _ hv
  have c23 := cn_pre d3.nm _ _ m2
  have c13 := cn_pre d3.nm _ _ m1
  have c12 := cn_pre d2.nm _ _ m1
  have e := count_end (cnL d1.nm [p, q]) (cnL d2.nm [p, q]) (cnL d3.nm [p, q]) (sizeL [u3]) (by omega) s3 (sizeL_pos _)
  rw [e3] at e2 e1
  have n2 := Nat.mul_le_mul_right (sizeL [u3] - 1) c23
  have w2 : sizeL [d2.t] - 1 ≤ 16 + cnL d3.nm [p, q] * (sizeL [u3] - 1) := by omega
  have n1 := Nat.mul_le_mul_right (sizeL [u3] - 1) c13
  have n12 := Nat.mul_le_mul c12 w2
  have w1 : sizeL [d1.t] - 1 ≤ 16 + cnL d2.nm [p, q] * (16 + cnL d3.nm [p, q] * (sizeL [u3] - 1)) + cnL d3.nm [p, q] * (sizeL [u3] - 1) := by omega
  have m3 := Nat.mul_le_mul_right (sizeL [u3] - 1) c3
  have m2 := Nat.mul_le_mul c2 w2
  have m1 := Nat.mul_le_mul c1 w1
  simp [wS, e3]
  omega
 | _ :: _ :: _ :: _ :: _, h, _, _, _, _ => simp at h
end Go.Proofs.YtdebiiodhkcnkaaGreat
