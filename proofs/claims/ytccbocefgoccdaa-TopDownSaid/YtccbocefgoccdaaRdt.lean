/- What was written is read again. -/
import Derived.Test.YtccbocefgoccdaaZCTopDownOwn
import Derived.Test.YtccbocefgoccdaaTxt
import Derived.Test.YtccbocefgoccdaaZTopDownOwn
namespace Go.Proofs.Ytccbocefgoccdaa
open Go.RowKit
set_option linter.unusedSimpArgs false
set_option linter.unusedVariables false

theorem byteAt_list (s : ByteArray) (j : Nat) (c : UInt8) (h : s.data.toList[j]? = some c) : byteAt s j = (c.toNat : Int) := by
  have hj : j < s.data.toList.length := by
    rcases Nat.lt_or_ge j s.data.toList.length with h' | h'
    · exact h'
    · rw [List.getElem?_eq_none h'] at h; cases h
  have hs : j < s.size := by simpa using hj
  unfold byteAt
  rw [dif_pos hs]
  have : s.data.toList[j]? = some s[j] := by
    rw [List.getElem?_eq_getElem hj]; rfl
  rw [this] at h
  cases h
  rfl

theorem size_list (s : ByteArray) : s.size = s.data.toList.length := by simp

/-- The letters of a name are letters or digits. -/
theorem name_aln {nm : ByteArray} (h : nameB nm = true) : ∀ c ∈ nm.data.toList, alnB (c.toNat : Int) = true := by
  intro c hc
  obtain ⟨j, hj, hjc⟩ := List.getElem_of_mem hc
  have h2 : alnTo nm nm.size = true := by
    unfold nameB at h
    simp only [Bool.and_eq_true] at h
    exact h.2
  unfold alnTo at h2
  rw [List.all_eq_true] at h2
  have h3 := h2 j (by rw [List.mem_range, size_list]; exact hj)
  rw [byteAt_list nm j c (by rw [List.getElem?_eq_getElem hj, hjc])] at h3
  exact h3
theorem name_size {nm : ByteArray} (h : nameB nm = true) : 1 ≤ nm.size := by
  unfold nameB at h
  simp only [Bool.and_eq_true, decide_eq_true_eq] at h
  exact h.1.1.1

/-- A name ends where no letter or digit stands. -/
theorem stop_list (s : ByteArray) (rest : List UInt8) (hr : rest = [] ∨ ∃ c r, rest = c :: r ∧ alnB (c.toNat : Int) = false) : ∀ (nm pre : List UInt8), s.data.toList = pre ++ nm ++ rest → (∀ c ∈ nm, alnB (c.toNat : Int) = true) → stopAt s pre.length = pre.length + nm.length
  | [], pre, hL, _ => by
    have hsz : s.size = pre.length + rest.length := by rw [size_list, hL]; simp
    refine stopAt_end fun h => ?_
    rcases hr with rfl | ⟨c, r, rfl, hc⟩
    · simp at hsz; omega
    · have hb := byteAt_list s pre.length c (by rw [hL]; simp)
      rw [hb, hc] at h
      exact absurd h.2 (by simp)
  | a :: nm, pre, hL, ha => by
    have hsz : s.size = pre.length + (a :: nm).length + rest.length := by rw [size_list, hL]; simp; omega
    have hb := byteAt_list s pre.length a (by rw [hL]; simp)
    rw [stopAt_go (by simp at hsz; omega) (by rw [hb]; exact ha a (by simp))]
    have := stop_list s rest hr nm (pre ++ [a]) (by rw [hL]; simp) (fun c hc => ha c (by simp [hc]))
    simp at this
    rw [this]
    simp; omega

theorem ext_list (s nm : ByteArray) (pre rest : List UInt8) (h : s.data.toList = pre ++ nm.data.toList ++ rest) : s.extract pre.length (pre.length + nm.size) = nm := by
  have h1 : (s.extract pre.length (pre.length + nm.size)).data.toList = nm.data.toList := by
    have e : nm.size = nm.data.toList.length := size_list nm
    rw [ByteArray.data_extract, Array.toList_extract, h, e]
    simp [List.extract]
  cases hx : s.extract pre.length (pre.length + nm.size) with
  | mk d =>
    rw [hx] at h1
    cases nm with
    | mk e =>
      congr 1
      exact Array.toList_inj.1 h1

/-- What may stand behind a term. -/
def Behind (post : List UInt8) : Prop := post = [] ∨ ∃ c r, post = c :: r ∧ (c = 41 ∨ c = 44)

theorem rd_txt (s : ByteArray) : ∀ (t : Tm) (F k : Nat) (pre post : List UInt8), errL [t] = 0 → s.data.toList = pre ++ txtL [t] ++ post → Behind post → k + sizeL [t] ≤ 200 → 2 * (s.size - pre.length) + 1 ≤ F →
    rd s F none pre.length k = ⟨0, t, pre.length + (txtL [t]).length, k + sizeL [t]⟩ := by
  intro t
  induction t using Tm.ind with
  | h nm l ih =>
    intro F k pre post he hL hpost hk hF
    obtain ⟨f, rfl⟩ : ∃ f, F = f + 1 := ⟨F - 1, by omega⟩
    have hn : nameB nm = true := by
      cases h : nameB nm with
      | true => rfl
      | false => simp [errL, h] at he
    have hsz : sizeL [(⟨nm, l⟩ : Tm)] = 1 + sizeL l := by simp [sizeL]
    have hn1 := name_size hn
    have haln := name_aln hn
    rw [txtL_one] at hL ⊢
    have hnl : nm.data.toList.length = nm.size := (size_list nm).symm
    by_cases hl : l = []
    · subst hl
      simp only [List.isEmpty_nil, if_true, List.append_nil] at hL ⊢
      have hst : stopAt s pre.length = pre.length + nm.size := by
        rw [← hnl]
        refine stop_list s post ?_ nm.data.toList pre hL haln
        rcases hpost with h | ⟨c, r, h, hc⟩
        · exact Or.inl h
        · exact Or.inr ⟨c, r, h, by rcases hc with rfl | rfl <;> decide⟩
      have hx := ext_list s nm pre post hL
      rw [rd, hst, hx, if_neg (by omega), if_neg (by rw [hn]; simp), if_neg (by omega), if_neg, hnl]
      · simp [sizeL]
      · intro h
        rcases hpost with rfl | ⟨c, r, rfl, hc⟩
        · have : s.size = pre.length + nm.size := by rw [size_list, hL]; simp
          omega
        · have hb := byteAt_list s (pre.length + nm.size) c (by rw [hL, ← hnl]; simp)
          rw [hb] at h
          rcases hc with rfl | rfl
          · exact absurd h.2 (by decide)
          · exact absurd h.2 (by decide)
    · have hle : l.isEmpty = false := by simpa using hl
      rw [hle] at hL ⊢
      simp only [Bool.false_eq_true, if_false] at hL ⊢
      have hlp : 0 < l.length := List.length_pos_iff.2 hl
      have hv : varB nm = false := by
        cases h : varB nm with
        | false => rfl
        | true => simp [errL, hn, h, hlp] at he
      have hel : errL l = 0 := by
        simp only [errL, hn, hv] at he
        by_cases h0 : errL l = 0
        · exact h0
        · simp [h0] at he
      have hL2 : s.data.toList = pre ++ nm.data.toList ++ 40 :: (txtL l ++ 41 :: post) := by rw [hL]; simp
      have hst : stopAt s pre.length = pre.length + nm.size := by
        rw [← hnl]
        exact stop_list s _ (Or.inr ⟨40, _, rfl, by decide⟩) nm.data.toList pre hL2 haln
      have hx := ext_list s nm pre _ hL2
      have hb := byteAt_list s (pre.length + nm.size) 40 (by rw [hL2, ← hnl]; simp)
      have hss : s.size = pre.length + nm.size + 1 + (txtL l).length + 1 + post.length := by rw [size_list, hL2]; simp; omega
      have key : ∀ (r acc : List Tm) (f k : Nat) (pre' : List UInt8) (c : UInt8), r ≠ [] → (∀ t ∈ r, t ∈ l) → errL r = 0 → s.data.toList = pre' ++ c :: (txtL r ++ 41 :: post) → k + sizeL r ≤ 200 → 2 * (s.size - pre'.length) + 2 ≤ f →
          rd s f (some (nm, acc)) pre'.length k = ⟨0, ⟨nm, acc ++ r⟩, pre'.length + 1 + (txtL r).length + 1, k + sizeL r⟩ := by
        intro r
        induction r with
        | nil => intro acc f k pre' c h; exact absurd rfl h
        | cons t r ihr =>
          intro acc f k pre' c _ hmem her hLr hkr hfr
          obtain ⟨f0, rfl⟩ : ∃ f0, f = f0 + 1 := ⟨f - 1, by omega⟩
          have he1 : errL [t] = 0 := by
            rw [errL_cons] at her
            by_cases h0 : errL [t] = 0
            · exact h0
            · rw [if_neg h0] at her; exact absurd her h0
          have he2 : errL r = 0 := by rw [errL_cons, if_pos he1] at her; exact her
          have hsr : sizeL (t :: r) = sizeL [t] + sizeL r := sizeL_append [t] r
          have hlen : (pre' ++ [c]).length = pre'.length + 1 := by simp
          by_cases hr : r = []
          · subst hr
            have hq := ih t (hmem t (by simp)) f0 k (pre' ++ [c]) (41 :: post) he1 (by rw [hLr]; simp) (Or.inr ⟨41, post, rfl, Or.inl rfl⟩) (by omega) (by rw [hlen]; omega)
            rw [hlen] at hq
            have hs2 : s.size = pre'.length + 1 + (txtL [t]).length + 1 + post.length := by rw [size_list, hLr]; simp; omega
            have hb2 := byteAt_list s (pre'.length + 1 + (txtL [t]).length) 41 (by rw [hLr]; rw [show pre'.length + 1 + (txtL [t]).length = pre'.length + (1 + (txtL [t]).length) by omega]; simp [List.getElem?_append_right, Nat.add_comm 1])
            rw [rd, hq]
            simp only [ne_eq, not_true_eq_false, if_false]
            rw [if_neg (by omega), if_pos (by rw [hb2]; rfl)]
          · have htx : txtL (t :: r) = txtL [t] ++ 44 :: txtL r := txtL_cons t r hr
            have hq := ih t (hmem t (by simp)) f0 k (pre' ++ [c]) (44 :: (txtL r ++ 41 :: post)) he1 (by rw [hLr, htx]; simp) (Or.inr ⟨44, _, rfl, Or.inr rfl⟩) (by omega) (by rw [hlen]; omega)
            rw [hlen] at hq
            have hLp : s.data.toList = (pre' ++ c :: txtL [t]) ++ 44 :: (txtL r ++ 41 :: post) := by rw [hLr, htx]; simp
            have hlen2 : (pre' ++ c :: txtL [t]).length = pre'.length + 1 + (txtL [t]).length := by simp; omega
            have hs2 : s.size = pre'.length + 1 + (txtL [t]).length + 1 + (txtL r).length + 1 + post.length := by rw [size_list, hLp]; simp; omega
            have hb2 := byteAt_list s (pre' ++ c :: txtL [t]).length 44 (by rw [hLp]; simp)
            rw [hlen2] at hb2
            have hrec := ihr (acc ++ [t]) f0 (k + sizeL [t]) (pre' ++ c :: txtL [t]) 44 hr (fun x hx => hmem x (by simp [hx])) he2 hLp (by omega) (by rw [hlen2]; omega)
            rw [hlen2] at hrec
            rw [rd, hq]
            simp only [ne_eq, not_true_eq_false, if_false]
            rw [if_neg (by omega), if_neg (by rw [hb2]; decide), if_pos (by rw [hb2]; rfl), hrec, hsr, htx]
            simp
            omega
      have hfin := key l [] f (k + 1) (pre ++ nm.data.toList) 40 hl (fun _ h => h) hel hL2 (by omega) (by simp [hnl]; omega)
      have hplen : (pre ++ nm.data.toList).length = pre.length + nm.size := by simp
      rw [hplen] at hfin
      rw [rd, hst, hx, if_neg (by omega), if_neg (by rw [hn]; simp), if_neg (by omega), if_pos ⟨by omega, by rw [hb]; rfl⟩, if_neg (by rw [hv]; simp), hfin, hsz]
      simp [hnl]
      omega

/-- The whole text. -/
theorem rd_whole (t : Tm) (he : errL [t] = 0) (hk : sizeL [t] ≤ 200) : rd ⟨(txtL [t]).toArray⟩ (2 * (⟨(txtL [t]).toArray⟩ : ByteArray).size + 1) none 0 0 = ⟨0, t, (⟨(txtL [t]).toArray⟩ : ByteArray).size, sizeL [t]⟩ := by
  have hsz : (⟨(txtL [t]).toArray⟩ : ByteArray).size = (txtL [t]).length := by rw [size_list]
  have h := rd_txt ⟨(txtL [t]).toArray⟩ t (2 * (⟨(txtL [t]).toArray⟩ : ByteArray).size + 1) 0 [] [] he (by simp) (Or.inl rfl) (by omega) (by simp)
  simp only [List.length_nil, Nat.zero_add] at h
  rw [h, hsz]
#print axioms rd_whole
end Go.Proofs.Ytccbocefgoccdaa
