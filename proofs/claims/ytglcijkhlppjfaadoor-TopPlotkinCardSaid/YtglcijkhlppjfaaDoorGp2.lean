/- Plain: all that the law TopPlotkin asks of two terms. -/
import Derived.Test.YtglcijkhlppjfaaDoorGp1
import Derived.Test.YtglcijkhlppjfaaDoorGn7
namespace Go.Proofs.YtglcijkhlppjfaaDoor
open Go.RowKit
set_option linter.unusedSimpArgs false
set_option linter.unusedVariables false
set_option maxRecDepth 8000

/-- What two terms have in common, where the pairs are known. -/
def ghL (H : List Pr) : List Tm → List Tm → List Tm
  | ⟨s, l⟩ :: r, u :: q => (if symB ⟨s, l⟩ u = true then ⟨s, ghL H l u.args⟩ else ⟨nmZ (idxP ⟨⟨s, l⟩, u⟩ H + 1), []⟩) :: ghL H r q
  | _, _ => []
def ghT (H : List Pr) (a b : Tm) : Tm := if symB a b = true then ⟨a.name, ghL H a.args b.args⟩ else ⟨nmZ (idxP ⟨a, b⟩ H + 1), []⟩
theorem ghL_nil (H : List Pr) (q : List Tm) : ghL H [] q = [] := by rw [ghL]; simp
theorem ghL_none (H : List Pr) (t : Tm) (r : List Tm) : ghL H (t :: r) [] = [] := by obtain ⟨s, l⟩ := t; rw [ghL]; simp
theorem ghL_cons (H : List Pr) (t u : Tm) (r q : List Tm) : ghL H (t :: r) (u :: q) = ghT H t u :: ghL H r q := by
  obtain ⟨s, l⟩ := t
  rw [ghL]
  rfl
theorem gnL_none (h : List Pr) (t : Tm) (r : List Tm) : gnL h (t :: r) [] = ([], h) := by obtain ⟨s, l⟩ := t; rw [gnL]; simp
theorem idxS_app (s : ByteArray) (b : List ByteArray) : ∀ (a : List ByteArray), idxS s a < a.length → idxS s (a ++ b) = idxS s a
  | [], h => by simp at h
  | n :: r, h => by
    by_cases e : n = s
    · simp [idxS, e]
    · have h2 : idxS s r < r.length := by simp [idxS, e] at h; omega
      have := idxS_app s b r h2
      simp [idxS, e, this]
theorem idxP_app {p : Pr} {h : List Pr} (r : List Pr) (hl : idxP p h < h.length) : idxP p (h ++ r) = idxP p h := by
  unfold idxP at hl ⊢
  rw [List.map_append]
  exact idxS_app _ _ _ (by simpa using hl)
theorem idxS_pushlt (s : ByteArray) : ∀ a : List ByteArray, idxS s (a ++ [s]) < (a ++ [s]).length
  | [] => by simp [idxS]
  | n :: r => by
    have := idxS_pushlt s r
    simp only [List.cons_append, idxS, List.length_cons]
    split
    · omega
    · omega
theorem addP_lt (h : List Pr) (p : Pr) : idxP p (addP h p) < (addP h p).length := by
  unfold addP
  split
  · rename_i h1; exact h1
  · have := idxS_pushlt (kyT p) (h.map kyT)
    unfold idxP
    rw [List.map_append]
    simpa using this
theorem addP_idx (h : List Pr) (p : Pr) : idxP p (addP h p) = idxP p h := by
  have := addS_idx (kyT p) (h.map kyT)
  rw [← addP_keys] at this
  exact this
theorem addP_ext (h : List Pr) (p : Pr) : ∃ r, addP h p = h ++ r := by
  unfold addP
  split
  · exact ⟨[], by simp⟩
  · exact ⟨[p], rfl⟩
theorem gn_ext (l : List Tm) : ∀ (q : List Tm) (h : List Pr), ∃ r, (gnL h l q).2 = h ++ r := by
  induction l using Tm.indL with
  | h0 => intro q h; exact ⟨[], by rw [gnL_nil]; simp⟩
  | h s l r ihl ihr =>
    intro q h
    cases q with
    | nil => exact ⟨[], by rw [gnL_none]; simp⟩
    | cons u q =>
      rw [gnL_cons]
      obtain ⟨r1, e1⟩ : ∃ r1, (gnT h ⟨s, l⟩ u).2 = h ++ r1 := by
        unfold gnT
        split
        · exact ihl u.args h
        · exact addP_ext h _
      obtain ⟨r2, e2⟩ := ihr q (gnT h ⟨s, l⟩ u).2
      exact ⟨r1 ++ r2, by simp only; rw [e2, e1, List.append_assoc]⟩
/-- Each pair that was met is there. -/
def InL (H : List Pr) : List Tm → List Tm → Prop
  | ⟨s, l⟩ :: r, u :: q => (if symB ⟨s, l⟩ u = true then InL H l u.args else idxP ⟨⟨s, l⟩, u⟩ H < H.length) ∧ InL H r q
  | _, _ => True
theorem InL_cons (H : List Pr) (t u : Tm) (r q : List Tm) : InL H (t :: r) (u :: q) ↔ (if symB t u = true then InL H t.args u.args else idxP ⟨t, u⟩ H < H.length) ∧ InL H r q := by
  obtain ⟨s, l⟩ := t
  rw [InL]
theorem gn_gh (l : List Tm) : ∀ (q : List Tm) (h R : List Pr), (gnL h l q).1 = ghL ((gnL h l q).2 ++ R) l q ∧ InL ((gnL h l q).2 ++ R) l q := by
  induction l using Tm.indL with
  | h0 => intro q h R; rw [gnL_nil, ghL_nil]; exact ⟨rfl, by simp [InL]⟩
  | h s l r ihl ihr =>
    intro q h R
    cases q with
    | nil => rw [gnL_none, ghL_none]; exact ⟨rfl, by simp [InL]⟩
    | cons u q =>
      rw [gnL_cons, ghL_cons, InL_cons]
      obtain ⟨r2, e2⟩ := gn_ext r q (gnT h ⟨s, l⟩ u).2
      obtain ⟨f1, f2⟩ := ihr q (gnT h ⟨s, l⟩ u).2 R
      have key : (gnT h ⟨s, l⟩ u).1 = ghT ((gnL (gnT h ⟨s, l⟩ u).2 r q).2 ++ R) ⟨s, l⟩ u ∧ (if symB ⟨s, l⟩ u = true then InL ((gnL (gnT h ⟨s, l⟩ u).2 r q).2 ++ R) l u.args else idxP ⟨⟨s, l⟩, u⟩ ((gnL (gnT h ⟨s, l⟩ u).2 r q).2 ++ R) < ((gnL (gnT h ⟨s, l⟩ u).2 r q).2 ++ R).length) := by
        rw [e2, List.append_assoc]
        by_cases hs : symB ⟨s, l⟩ u = true
        · obtain ⟨g1, g2⟩ := ihl u.args h (r2 ++ R)
          have e3 : gnT h ⟨s, l⟩ u = (⟨s, (gnL h l u.args).1⟩, (gnL h l u.args).2) := by unfold gnT; rw [if_pos hs]
          rw [e3, if_pos hs]
          refine ⟨?_, g2⟩
          unfold ghT
          rw [if_pos hs]
          simp only
          rw [← g1]
        · have e3 : gnT h ⟨s, l⟩ u = vrP h ⟨s, l⟩ u := by unfold gnT; rw [if_neg hs]
          rw [e3, if_neg hs]
          have hlt := addP_lt h ⟨⟨s, l⟩, u⟩
          have hid := idxP_app (r2 ++ R) hlt
          unfold ghT vrP
          rw [if_neg hs]
          simp only
          rw [hid, addP_idx]
          refine ⟨rfl, ?_⟩
          rw [addP_idx] at hlt
          simp only [List.length_append] at hlt ⊢
          omega
      exact ⟨by simp only; rw [← key.1, ← f1], key.2, f2⟩
theorem gnT_gh (a b : Tm) : (gnT [] a b).1 = ghT (gnT [] a b).2 a b ∧ InL (gnT [] a b).2 [a] [b] := by
  obtain ⟨h1, h2⟩ := gn_gh [a] [b] [] []
  rw [gnL_cons, gnL_nil, ghL_cons, ghL_nil, List.append_nil] at h1
  rw [gnL_cons, gnL_nil, List.append_nil] at h2
  simp only at h1 h2
  exact ⟨by simpa using h1, h2⟩
theorem varB_nmZ (k : Nat) : varB (nmZ k) = true := by
  have hs : 0 < (nmZ k).size := by simp [nmZ, ByteArray.size]
  have h : byteAt (nmZ k) 0 = 90 := by
    unfold byteAt
    rw [dif_pos hs]
    show ((((90 :: Lib.decDigits k).toArray)[0]'(by simp)).toNat : Int) = 90
    simp
  unfold varB
  rw [h]
  rfl
theorem ghT_sym (H : List Pr) {a b : Tm} (h : symB a b = true) : ghT H a b = ⟨a.name, ghL H a.args b.args⟩ := by unfold ghT; rw [if_pos h]
theorem symB_parts {a b : Tm} (h : symB a b = true) : varB a.name = false ∧ a.name = b.name ∧ a.args.length = b.args.length := by
  unfold symB at h
  simp only [Bool.and_eq_true, decide_eq_true_eq, Bool.not_eq_true'] at h
  exact ⟨h.1.1, h.1.2, h.2⟩
/-- Either term comes of it. -/
theorem gh_left {H : List Pr} (f : ByteArray → Tm) (hf : ∀ i (hi : i < H.length), f (nmZ (i + 1)) = H[i].l) (hO : ∀ p ∈ H, OkPr p) (l : List Tm) : ∀ q, l.length = q.length → errL l = 0 → errL q = 0 → InL H l q → sfL f (ghL H l q) = l := by
  induction l using Tm.indL with
  | h0 => intro q _ _ _ _; rw [ghL_nil, sfL_nil]
  | h s l r ihl ihr =>
    intro q hl e1 e2 hin
    cases q with
    | nil => simp at hl
    | cons u q =>
      obtain ⟨a1, a2⟩ := errL_two e1
      obtain ⟨b1, b2⟩ := errL_two e2
      obtain ⟨i1, i2⟩ := (InL_cons H ⟨s, l⟩ u r q).1 hin
      rw [ghL_cons, sfL_cons, ihr q (by simpa using hl) a2 b2 i2]
      congr 1
      unfold ghT
      by_cases hs : symB ⟨s, l⟩ u = true
      · rw [if_pos hs] at i1 ⊢
        obtain ⟨v1, v2, v3⟩ := symB_parts hs
        rw [sfT_sym f v1]
        simp only
        rw [ihl u.args v3 (errL_parts0 a1) (errL_args b1) i1]
      · rw [if_neg hs] at i1 ⊢
        rw [sfT_var f (varB_nmZ _), hf _ i1, idxP_at ⟨a1, b1⟩ hO i1]
theorem gh_right {H : List Pr} (f : ByteArray → Tm) (hf : ∀ i (hi : i < H.length), f (nmZ (i + 1)) = H[i].r) (hO : ∀ p ∈ H, OkPr p) (l : List Tm) : ∀ q, l.length = q.length → errL l = 0 → errL q = 0 → InL H l q → sfL f (ghL H l q) = q := by
  induction l using Tm.indL with
  | h0 =>
    intro q hl _ _ _
    rw [ghL_nil, sfL_nil]
    cases q with | nil => rfl | cons a b => simp at hl
  | h s l r ihl ihr =>
    intro q hl e1 e2 hin
    cases q with
    | nil => simp at hl
    | cons u q =>
      obtain ⟨a1, a2⟩ := errL_two e1
      obtain ⟨b1, b2⟩ := errL_two e2
      obtain ⟨i1, i2⟩ := (InL_cons H ⟨s, l⟩ u r q).1 hin
      rw [ghL_cons, sfL_cons, ihr q (by simpa using hl) a2 b2 i2]
      congr 1
      unfold ghT
      by_cases hs : symB ⟨s, l⟩ u = true
      · rw [if_pos hs] at i1 ⊢
        obtain ⟨v1, v2, v3⟩ := symB_parts hs
        rw [sfT_sym f v1]
        obtain ⟨su, lu⟩ := u
        simp only at i1 v2 v3 ⊢
        rw [ihl lu v3 (errL_parts0 a1) (errL_parts0 b1) i1, v2]
      · rw [if_neg hs] at i1 ⊢
        rw [sfT_var f (varB_nmZ _), hf _ i1, idxP_at ⟨a1, b1⟩ hO i1]
/-- What two cases of one term have in common is a case of it, too. -/
theorem gh_sf (H : List Pr) (f g : ByteArray → Tm) (l : List Tm) : errL l = 0 → ghL H (sfL f l) (sfL g l) = sfL (fun n => ghT H (f n) (g n)) l := by
  induction l using Tm.indL with
  | h0 => intro _; simp [sfL_nil, ghL_nil]
  | h s l r ihl ihr =>
    intro he
    obtain ⟨h1, h2, h3⟩ := err_splitP he
    rw [sfL_cons f, sfL_cons g, sfL_cons (fun n => ghT H (f n) (g n)), ghL_cons, ihr h3]
    congr 1
    cases hv : varB s with
    | true => rw [sfT_var f hv, sfT_var g hv, sfT_var _ hv]
    | false =>
      rw [sfT_sym f hv, sfT_sym g hv, sfT_sym _ hv]
      have hs : symB ⟨s, sfL f l⟩ ⟨s, sfL g l⟩ = true := by unfold symB; simp [hv, sfL_len]
      rw [ghT_sym H hs]
      simp only
      rw [ihl h2]
theorem ghT_sf (H : List Pr) (f g : ByteArray → Tm) {t : Tm} (he : errL [t] = 0) : ghT H (sfT f t) (sfT g t) = sfT (fun n => ghT H (f n) (g n)) t := by
  have := gh_sf H f g [t] he
  rw [sfL_cons f, sfL_cons g, sfL_cons (fun n => ghT H (f n) (g n)), sfL_nil, sfL_nil, sfL_nil, ghL_cons, ghL_nil] at this
  simpa using this
theorem sf_id (l : List Tm) : errL l = 0 → sfL (fun n => ⟨n, []⟩) l = l := by
  induction l using Tm.indL with
  | h0 => intro _; exact sfL_nil _
  | h s l r ihl ihr =>
    intro he
    obtain ⟨h1, h2, h3⟩ := err_splitP he
    rw [sfL_cons, ihr h3]
    congr 1
    cases hv : varB s with
    | true => rw [sfT_var _ hv, h1 hv]
    | false => rw [sfT_sym _ hv, ihl h2]
theorem sfT_id {t : Tm} (he : errL [t] = 0) : sfT (fun n => ⟨n, []⟩) t = t := by
  have := sf_id [t] he
  rw [sfL_cons, sfL_nil] at this
  simpa using this
end Go.Proofs.YtglcijkhlppjfaaDoor
