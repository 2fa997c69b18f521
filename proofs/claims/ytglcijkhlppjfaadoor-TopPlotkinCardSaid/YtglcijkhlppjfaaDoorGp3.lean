/- Plain: all that the law TopPlotkin asks, out of the terms that it makes. -/
import Derived.Test.YtglcijkhlppjfaaDoorGp2
namespace Go.Proofs.YtglcijkhlppjfaaDoor
open Go.RowKit
set_option linter.unusedSimpArgs false
set_option linter.unusedVariables false
set_option maxRecDepth 8000

theorem nameB_nmZ : ∀ {k : Nat}, k < 210 → nameB (nmZ k) = true := by decide +kernel
theorem err_mkZ {s : ByteArray} {l : List Tm} (h1 : nameB s = true) (h2 : varB s = false ∨ l = []) (h3 : errL l = 0) : errL [(⟨s, l⟩ : Tm)] = 0 := by
  simp only [errL, h1, if_true, h3]
  rcases h2 with h | h
  · simp [h]
  · simp [h]
/-- It may be. -/
theorem gh_err {H : List Pr} (hH : H.length ≤ 200) (l : List Tm) : ∀ q, errL l = 0 → errL (ghL H l q) = 0 ∧ sizeL (ghL H l q) ≤ sizeL l := by
  induction l using Tm.indL with
  | h0 => intro q _; rw [ghL_nil]; exact ⟨by simp [errL], by simp [sizeL]⟩
  | h s l r ihl ihr =>
    intro q he
    have es : sizeL ((⟨s, l⟩ : Tm) :: r) = 1 + sizeL l + sizeL r := by simp [sizeL]
    cases q with
    | nil => rw [ghL_none]; exact ⟨by simp [errL], by simp [sizeL]⟩
    | cons u q =>
      obtain ⟨a1, a2⟩ := errL_two he
      obtain ⟨i1, i2⟩ := ihr q a2
      rw [ghL_cons]
      have key : errL [ghT H ⟨s, l⟩ u] = 0 ∧ sizeL [ghT H ⟨s, l⟩ u] ≤ 1 + sizeL l := by
        by_cases hs : symB ⟨s, l⟩ u = true
        · rw [ghT_sym H hs]
          obtain ⟨v1, _, _⟩ := symB_parts hs
          obtain ⟨j1, j2⟩ := ihl u.args (errL_parts0 a1)
          refine ⟨err_mkZ (errL_name0 a1) (Or.inl v1) j1, ?_⟩
          have : sizeL [(⟨s, ghL H l u.args⟩ : Tm)] = 1 + sizeL (ghL H l u.args) := by simp [sizeL]
          simp only
          omega
        · have e : ghT H ⟨s, l⟩ u = ⟨nmZ (idxP ⟨⟨s, l⟩, u⟩ H + 1), []⟩ := by unfold ghT; rw [if_neg hs]
          rw [e]
          have := idxP_le ⟨⟨s, l⟩, u⟩ H
          refine ⟨err_mkZ (nameB_nmZ (by omega)) (Or.inr rfl) (by simp [errL]), ?_⟩
          simp [sizeL]
      refine ⟨by rw [errL_cons, if_pos key.1]; exact i1, ?_⟩
      have : sizeL (ghT H ⟨s, l⟩ u :: ghL H r q) = sizeL [ghT H ⟨s, l⟩ u] + sizeL (ghL H r q) := by
        have := sizeL_append [ghT H ⟨s, l⟩ u] (ghL H r q)
        simpa using this
      omega
theorem ghT_err {H : List Pr} (hH : H.length ≤ 200) {a b : Tm} (he : errL [a] = 0) : errL [ghT H a b] = 0 ∧ sizeL [ghT H a b] ≤ sizeL [a] := by
  have := gh_err hH [a] [b] he
  rw [ghL_cons, ghL_nil] at this
  exact this
theorem forT_apart : ∀ {ls : List Bd}, ApartB ls → ∀ d ∈ ls, forT ls d.nm = some d.t
  | e :: r, h, d, hd => by
    unfold ApartB at h
    rw [List.pairwise_cons] at h
    simp only [forT]
    rcases List.mem_cons.1 hd with rfl | hd
    · simp
    · rw [if_neg (h.1 d hd)]
      exact forT_apart (ls := r) h.2 d hd
theorem fnB_bd (f : Pr → Tm) {ls : List Bd} {H : List Pr} (hp : ls.Perm (bdL f 0 H)) : ∀ i (hi : i < H.length), fnB ls (nmZ (i + 1)) = f H[i] := by
  intro i hi
  have ha : ApartB ls := by
    have h := bdL_apart f H 0
    unfold ApartB at h ⊢
    exact hp.symm.pairwise h (fun hne e => hne e.symm)
  have hb := bdL_get f 0 H i hi
  have hm : (⟨nmZ (i + 1), f H[i]⟩ : Bd) ∈ ls := by
    refine hp.mem_iff.2 ?_
    have : (bdL f 0 H)[i]'(by rw [bdL_len]; exact hi) ∈ bdL f 0 H := List.getElem_mem _
    rw [hb] at this
    simpa using this
  have := forT_apart ha _ hm
  unfold fnB
  simp only at this
  rw [this]
  rfl
theorem binds_bd (f : Pr → Tm) {ls : List Bd} {H : List Pr} (hp : ls.Perm (bdL f 0 H)) (hs : SortedB ls) (hf : ∀ p ∈ H, mayE (f p) = 0) : ls.length = H.length ∧ (H.length ≤ 40 → bindsE ls = 0) ∧ (40 < H.length → bindsE ls = 3) := by
  have hl : ls.length = H.length := by rw [hp.length_eq, bdL_len]
  refine ⟨hl, fun h => bindsE_mk hs (by omega) fun d hd => ?_, fun h => by unfold bindsE; rw [if_pos (by omega)]⟩
  have hm := hp.mem_iff.1 hd
  obtain ⟨i, hi, e⟩ := List.mem_iff_getElem.1 hm
  have hi' : i < H.length := by rw [bdL_len] at hi; exact hi
  rw [bdL_get f 0 H i hi'] at e
  rw [← e]
  refine ⟨?_, hf _ (List.getElem_mem hi')⟩
  simp only [varB_nmZ, Bool.and_true]
  exact nameB_nmZ (by omega)
/-- All that the law asks of a and b, two cases of p. -/
structure PkF (p a b : Tm) (y : Tm × List Pr) : Prop where
  may : mayE y.1 = 0
  mp : mtB p y.1 = true
  lf : ∀ ls : List Bd, ls.Perm (bdL (·.l) 0 y.2) → SortedB ls → ls.length = y.2.length ∧ (y.2.length ≤ 40 → bindsE ls = 0 ∧ onT ls y.1 = a) ∧ (40 < y.2.length → bindsE ls = 3)
  rt : ∀ rs : List Bd, rs.Perm (bdL (·.r) 0 y.2) → SortedB rs → rs.length = y.2.length ∧ (y.2.length ≤ 40 → bindsE rs = 0 ∧ onT rs y.1 = b) ∧ (40 < y.2.length → bindsE rs = 3)
  tb : mtB y.1 b = true
  cs : mtB b a = mtB b y.1
theorem plotkin {p a b : Tm} {ls1 ls2 : List Bd} (h1 : bindsE ls1 = 0) (h2 : bindsE ls2 = 0) (hp : errL [p] = 0) (ha : a = onT ls1 p) (hb : b = onT ls2 p) (za : sizeL [a] ≤ 200) (zb : sizeL [b] ≤ 200) : PkF p a b (gnT [] a b) ∧ mayE a = 0 ∧ mayE b = 0 := by
  have ea : errL [a] = 0 := by rw [ha]; exact errL_onT h1 hp
  have eb : errL [b] = 0 := by rw [hb]; exact errL_onT h2 hp
  obtain ⟨f1, f2, f3⟩ := gnT_facts ea eb za zb
  obtain ⟨g1, g2⟩ := gnT_gh a b
  generalize gnT [] a b = y at *
  obtain ⟨t, H⟩ := y
  simp only at f1 f2 f3 g1 g2
  obtain ⟨k1, k2⟩ := ghT_err (b := b) f2 ea
  rw [← g1] at k1 k2
  have sa : a = sfT (fnB ls1) p := by rw [ha, onT_sf h1 hp]
  have sb : b = sfT (fnB ls2) p := by rw [hb, onT_sf h2 hp]
  have hL : ∀ f : ByteArray → Tm, (∀ i (hi : i < H.length), f (nmZ (i + 1)) = H[i].l) → sfT f t = a := fun f hf => by
    have := gh_left f hf f1 [a] [b] rfl ea eb g2
    rw [ghL_cons, ghL_nil, sfL_cons, sfL_nil, ← g1] at this
    simpa using this
  have hR : ∀ f : ByteArray → Tm, (∀ i (hi : i < H.length), f (nmZ (i + 1)) = H[i].r) → sfT f t = b := fun f hf => by
    have := gh_right f hf f1 [a] [b] rfl ea eb g2
    rw [ghL_cons, ghL_nil, sfL_cons, sfL_nil, ← g1] at this
    simpa using this
  refine ⟨⟨mayE_mk k1 (by simp only; omega), ?_, fun ls q1 q2 => ?_, fun rs q1 q2 => ?_, ?_, ?_⟩, mayE_mk ea za, mayE_mk eb zb⟩
  · have e : t = sfT (fun n => ghT H (fnB ls1 n) (fnB ls2 n)) p := by rw [g1, ← ghT_sf H _ _ hp, ← sa, ← sb]
    simp only
    rw [e]
    exact mt_sf _ hp
  · obtain ⟨b1, b2, b3⟩ := binds_bd (·.l) q1 q2 (fun p hp => mayE_mk (f1 p hp).1 (f3 p hp).1)
    exact ⟨b1, fun h => ⟨b2 h, by simp only; rw [onT_sf (b2 h) k1]; exact hL _ (fnB_bd (·.l) q1)⟩, b3⟩
  · obtain ⟨b1, b2, b3⟩ := binds_bd (·.r) q1 q2 (fun p hp => mayE_mk (f1 p hp).2 (f3 p hp).2)
    exact ⟨b1, fun h => ⟨b2 h, by simp only; rw [onT_sf (b2 h) k1]; exact hR _ (fnB_bd (·.r) q1)⟩, b3⟩
  · have := hR (fnB (bdL (·.r) 0 H)) (fnB_bd (·.r) (List.Perm.refl _))
    simp only
    rw [← this]
    exact mt_sf _ k1
  · simp only
    have d1 : mtB b a = true → mtB b t = true := fun h => by
      obtain ⟨g, hg⟩ := mt_sd eb h
      have e : t = sfT (fun n => ghT H (g n) ⟨n, []⟩) b := by
        rw [g1, ← ghT_sf H g (fun n => ⟨n, []⟩) eb, hg, sfT_id eb]
      rw [e]
      exact mt_sf _ eb
    have d2 : mtB b t = true → mtB b a = true := fun h => by
      obtain ⟨g, hg⟩ := mt_sd eb h
      have e := hL (fnB (bdL (·.l) 0 H)) (fnB_bd (·.l) (List.Perm.refl _))
      rw [← hg, sfT_sfT] at e
      rw [← e]
      exact mt_sf _ eb
    cases h3 : mtB b a with
    | true => rw [d1 h3]
    | false =>
      cases h4 : mtB b t with
      | true => rw [d2 h4] at h3; cases h3
      | false => rfl
end Go.Proofs.YtglcijkhlppjfaaDoor
