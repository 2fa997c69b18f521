/- Lambda terms that were written are read again, also with other names for what is bound. -/
import Derived.Test.YtfbligcampbchaaDoorLr6
namespace Go.Proofs.YtfbligcampbchaaDoor
open Go.RowKit
set_option linter.unusedSimpArgs false
set_option linter.unusedVariables false

theorem byteAt_listN (s : ByteArray) (j : Nat) (c : UInt8) (h : s.data.toList[j]? = some c) : j < s.size ∧ byteAt s j = (c.toNat : Int) := by
  have hj : j < s.data.toList.length := by
    rcases Nat.lt_or_ge j s.data.toList.length with h' | h'
    · exact h'
    · rw [List.getElem?_eq_none h'] at h; cases h
  have hs : j < s.size := by simpa using hj
  refine ⟨hs, ?_⟩
  unfold byteAt
  rw [dif_pos hs]
  have : s.data.toList[j]? = some s[j] := by
    rw [List.getElem?_eq_getElem hj]; rfl
  rw [this] at h
  cases h
  rfl
theorem size_listN (s : ByteArray) : s.size = s.data.toList.length := by simp

/-- A name ends where no letter or digit stands. -/
theorem stop_listN (s : ByteArray) (rest : List UInt8) (hr : rest = [] ∨ ∃ c r, rest = c :: r ∧ alnB (c.toNat : Int) = false) : ∀ (nm pre : List UInt8), s.data.toList = pre ++ nm ++ rest → (∀ c ∈ nm, alnB (c.toNat : Int) = true) → stopAt s pre.length = pre.length + nm.length
  | [], pre, hL, _ => by
    have hsz : s.size = pre.length + rest.length := by rw [size_listN, hL]; simp
    refine stopAt_end fun h => ?_
    rcases hr with rfl | ⟨c, r, rfl, hc⟩
    · simp at hsz; omega
    · have hb := (byteAt_listN s pre.length c (by rw [hL]; simp)).2
      rw [hb, hc] at h
      exact absurd h.2 (by simp)
  | a :: nm, pre, hL, ha => by
    have hsz : s.size = pre.length + (a :: nm).length + rest.length := by rw [size_listN, hL]; simp; omega
    have hb := (byteAt_listN s pre.length a (by rw [hL]; simp)).2
    rw [stopAt_go (by simp at hsz; omega) (by rw [hb]; exact ha a (by simp))]
    have := stop_listN s rest hr nm (pre ++ [a]) (by rw [hL]; simp) (fun c hc => ha c (by simp [hc]))
    simp at this
    rw [this]
    simp; omega
theorem ba_ext {a b : ByteArray} (h : a.data.toList = b.data.toList) : a = b := by
  cases a with
  | mk d =>
    cases b with
    | mk e =>
      congr 1
      exact Array.toList_inj.1 h
theorem ext_listN (s nm : ByteArray) (pre rest : List UInt8) (h : s.data.toList = pre ++ nm.data.toList ++ rest) : s.extract pre.length (pre.length + nm.data.toList.length) = nm := by
  refine ba_ext ?_
  rw [ByteArray.data_extract, Array.toList_extract, h]
  simp [List.extract]

/-- Digits. -/
theorem dec_digs (n : Nat) : ∀ b ∈ Lib.decDigits n, 48 ≤ b.toNat ∧ b.toNat ≤ 57 := by
  induction n using Nat.strongRecOn with
  | ind n ih =>
    intro b hb
    rw [Lib.decDigits] at hb
    by_cases h : n < 10
    · rw [dif_pos h] at hb
      simp at hb
      subst hb
      simp [UInt8.toNat_ofNat']; omega
    · rw [dif_neg h] at hb
      rcases List.mem_append.1 hb with h1 | h1
      · exact ih (n / 10) (by omega) b h1
      · simp at h1
        subst h1
        simp [UInt8.toNat_ofNat']; omega
theorem dec_val (n : Nat) : (Lib.decDigits n).foldl (fun a b => 10 * a + (b.toNat - 48)) 0 = n := by
  induction n using Nat.strongRecOn with
  | ind n ih =>
    rw [Lib.decDigits]
    by_cases h : n < 10
    · rw [dif_pos h]
      simp [UInt8.toNat_ofNat']; omega
    · rw [dif_neg h, List.foldl_append, ih (n / 10) (by omega)]
      simp [UInt8.toNat_ofNat']; omega
theorem dec_inj {a b : Nat} (h : Lib.decDigits a = Lib.decDigits b) : a = b := by rw [← dec_val a, h, dec_val]
theorem dec_len3 {n : Nat} (h : n < 1000) : (Lib.decDigits n).length ≤ 3 := by
  rw [Lib.decDigits]
  by_cases h1 : n < 10
  · rw [dif_pos h1]; simp
  rw [dif_neg h1, List.length_append]
  rw [Lib.decDigits]
  by_cases h2 : n / 10 < 10
  · rw [dif_pos h2]; simp
  rw [dif_neg h2, List.length_append]
  rw [Lib.decDigits, dif_pos (by omega)]
  simp
/-- A sign in the place of x. -/
def sw (c b : UInt8) : UInt8 := if b = 120 then c else b
theorem sw_x (c : UInt8) : sw c 120 = c := rfl
theorem sw_dec (c : UInt8) (n : Nat) : (Lib.decDigits n).map (sw c) = Lib.decDigits n := by
  have : ∀ b ∈ Lib.decDigits n, sw c b = b := by
    intro b hb
    have := dec_digs n b hb
    unfold sw
    rw [if_neg]
    intro e
    subst e
    simp at this
  rw [List.map_congr_left this]; simp
theorem sw_id (l : List UInt8) : l.map (sw 120) = l := by
  have : ∀ b ∈ l, sw 120 b = b := by
    intro b _
    unfold sw
    split
    · rename_i h; exact h.symm
    · rfl
  rw [List.map_congr_left this]; simp

/-- A binder's name. -/
def bnN (c : UInt8) (j : Nat) : ByteArray := ⟨(c :: Lib.decDigits j).toArray⟩
theorem bnN_list (c : UInt8) (j : Nat) : (bnN c j).data.toList = c :: Lib.decDigits j := rfl
/-- All names around. -/
def nmsN (c : UInt8) (fr : List ByteArray) (d : Nat) : List ByteArray := fr ++ (List.range d).map (bnN c)
theorem nmsN_len (c : UInt8) (fr : List ByteArray) (d : Nat) : (nmsN c fr d).length = fr.length + d := by simp [nmsN]
theorem nmsN_succ (c : UInt8) (fr : List ByteArray) (d : Nat) : nmsN c fr (d + 1) = nmsN c fr d ++ [bnN c d] := by simp [nmsN, List.range_succ]
theorem nmsN_in (c : UInt8) (fr : List ByteArray) (d i : Nat) (h : i < (nmsN c fr d).length) (hi : i < fr.length) : (nmsN c fr d)[i] = fr[i] := by simp [nmsN, List.getElem_append, hi]
theorem nmsN_out (c : UInt8) (fr : List ByteArray) (d i : Nat) (h : i < (nmsN c fr d).length) (hi : ¬ i < fr.length) : (nmsN c fr d)[i] = bnN c (i - fr.length) := by simp [nmsN, List.getElem_append, hi]

/-- Names from outside that no binder and no constant has. -/
structure FrOk (fr : List ByteArray) : Prop where
  nm : ∀ n ∈ fr, nameB n = true
  nox : ∀ n ∈ fr, ∀ b ∈ n.data.toList, b ≠ 120 ∧ b ≠ 113 ∧ b ≠ 99
  apart : ∀ i j (hi : i < fr.length) (hj : j < fr.length), fr[i] = fr[j] → i = j
theorem fr_some {n : ByteArray} (h : nameB n = true) : ∃ b r, n.data.toList = b :: r := by
  cases hl : n.data.toList with
  | nil => have := size_listN n; rw [hl] at this; simp [nameB, this] at h
  | cons b r => exact ⟨b, r, rfl⟩
theorem fr_not {fr : List ByteArray} (hf : FrOk fr) {n : ByteArray} (hn : n ∈ fr) {c : UInt8} (hc : c = 120 ∨ c = 113 ∨ c = 99) (r : List UInt8) : n.data.toList ≠ c :: r := by
  intro h
  have := hf.nox n hn c (by rw [h]; simp)
  rcases hc with rfl | rfl | rfl
  · exact this.1 rfl
  · exact this.2.1 rfl
  · exact this.2.2 rfl
theorem fr_aln {nm : ByteArray} (h : nameB nm = true) : ∀ c ∈ nm.data.toList, alnB (c.toNat : Int) = true := by
  intro c hc
  obtain ⟨j, hj, hjc⟩ := List.getElem_of_mem hc
  have h2 : alnTo nm nm.size = true := by
    unfold nameB at h
    simp only [Bool.and_eq_true] at h
    exact h.2
  unfold alnTo at h2
  rw [List.all_eq_true] at h2
  have h3 := h2 j (by rw [List.mem_range, size_listN]; exact hj)
  rw [(byteAt_listN nm j c (by rw [List.getElem?_eq_getElem hj, hjc])).2] at h3
  exact h3

theorem aln_dig {b : UInt8} (h : 48 ≤ b.toNat ∧ b.toNat ≤ 57) : alnB (b.toNat : Int) = true := by
  unfold alnB digB
  simp
  right
  omega
/-- A letter and a number below 1000 are a name. -/
theorem bn_name {c : UInt8} (hc : c = 120 ∨ c = 113 ∨ c = 99) {n : ByteArray} {j : Nat} (hj : j < 1000) (h : n.data.toList = c :: Lib.decDigits j) : nameB n = true ∧ ∀ b ∈ n.data.toList, alnB (b.toNat : Int) = true := by
  have hcl : alnB (c.toNat : Int) = true ∧ digB (c.toNat : Int) = false := by rcases hc with rfl | rfl | rfl <;> decide
  have hall : ∀ b ∈ n.data.toList, alnB (b.toNat : Int) = true := by
    intro b hb
    rw [h] at hb
    rcases List.mem_cons.1 hb with rfl | hb
    · exact hcl.1
    · exact aln_dig (dec_digs j b hb)
  refine ⟨?_, hall⟩
  have hsz : n.size = 1 + (Lib.decDigits j).length := by rw [size_listN, h]; simp; omega
  have h3 := dec_len3 hj
  have hb0 := (byteAt_listN n 0 c (by rw [h]; simp)).2
  unfold nameB
  simp only [Bool.and_eq_true, decide_eq_true_eq, Bool.not_eq_true']
  refine ⟨⟨⟨by omega, by omega⟩, by rw [hb0]; exact hcl.2⟩, ?_⟩
  unfold alnTo
  rw [List.all_eq_true]
  intro i hi
  rw [List.mem_range, size_listN] at hi
  rw [(byteAt_listN n i _ (List.getElem?_eq_getElem hi)).2]
  exact hall _ (List.getElem_mem hi)
end Go.Proofs.YtfbligcampbchaaDoor
