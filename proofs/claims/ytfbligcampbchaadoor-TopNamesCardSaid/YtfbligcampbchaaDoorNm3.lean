/- Lambda terms that were written are read again: how long texts are, and the three names from outside. -/
import Derived.Test.YtfbligcampbchaaDoorNm2
import Derived.Test.YtfbligcampbchaaDoorLr10
namespace Go.Proofs.YtfbligcampbchaaDoor
open Go.RowKit
set_option linter.unusedSimpArgs false
set_option linter.unusedVariables false

/-- A text is short. -/
theorem ltx_short {fr : List ByteArray} (hf : ∀ n ∈ fr, n.data.toList.length ≤ 4) (t : Lm) : ∀ d : Nat, errM (fr.length + d) 0 [t] = 0 → d + sizeM [t] ≤ 900 → (ltx fr d t).length + 2 ≤ 10 * sizeM [t] := by
  induction t using Lm.ind with
  | h kk xx l ih =>
    intro d he hd
    rcases may_look he with ⟨x, e, h0, h1⟩ | ⟨b, e, hb⟩ | ⟨f, a, e, hef, hea⟩ | ⟨x, e, h0, h1⟩
    · cases e
      rw [ltx_bound]
      have : sizeM [(⟨1, xx, []⟩ : Lm)] = 1 := by simp [sizeM]
      rw [this] at hd ⊢
      unfold nmAt
      split
      · rename_i hk
        obtain ⟨m, hm⟩ : ∃ m : Nat, (m : Int) = fr.length + (d - 1 - xx) := ⟨(fr.length + (d - 1 - xx) : Int).toNat, by omega⟩
        have hml : m < fr.length := by omega
        have e1 : ((fr.length : Int) + (d - 1 - xx)).toNat = m := by omega
        rw [e1, List.getElem?_eq_getElem hml, Option.getD_some]
        have := hf _ (List.getElem_mem hml)
        omega
      · have := dec_len3 (n := ((d : Int) - 1 - xx).toNat) (by omega)
        simp only [List.length_cons]
        omega
    · cases e
      have hsz : sizeM [(⟨2, 0, [b]⟩ : Lm)] = 1 + sizeM [b] := by simp [sizeM]
      rw [hsz] at hd ⊢
      have := ih b (by simp) (d + 1) (by rw [show ((fr.length : Int) + ((d + 1 : Nat) : Int)) = fr.length + d + 1 by omega]; exact hb) (by omega)
      have h3 := dec_len3 (n := d) (by omega)
      rw [ltx_fun]
      simp only [List.length_cons, List.length_append]
      omega
    · cases e
      rw [sizeM_two] at hd ⊢
      have h1 := ih f (by simp) d hef (by omega)
      have h2 := ih a (by simp) d hea (by omega)
      rw [ltx_app]
      have h3 := brk_len (f.kind == 2) (ltx fr d f)
      have h4 := brk_len (a.kind == 2 || a.kind == 3) (ltx fr d a)
      simp only [List.length_cons, List.length_append]
      omega
    · cases e
      rw [ltx_con]
      have h3 := dec_len3 (n := xx.toNat) (by omega)
      simp only [sizeM, List.length_cons]
      omega

/-- The three names. -/
def triN : List ByteArray := [⟨#[121]⟩, ⟨#[122]⟩, ⟨#[119]⟩]
theorem tri_name : ∀ n ∈ triN, nameB n = true ∧ xcB n = false := by
  intro n hn
  simp only [triN, List.mem_cons, List.not_mem_nil, or_false] at hn
  rcases hn with rfl | rfl | rfl <;> exact ⟨by decide, by decide⟩
theorem tri_ok (n : Nat) (hn : n ≤ 3) : FrOk (triN.take n) := by
  refine ⟨fun x hx => (tri_name x (List.mem_of_mem_take hx)).1, fun x hx b hb => ?_, fun i j hi hj e => ?_⟩
  · have := List.mem_of_mem_take hx
    simp only [triN, List.mem_cons, List.not_mem_nil, or_false] at this
    rcases this with rfl | rfl | rfl <;> (simp at hb; subst hb; decide)
  · rw [List.length_take] at hi hj
    rw [List.getElem_take, List.getElem_take] at e
    have h1 : i = 0 ∨ i = 1 ∨ i = 2 := by simp [triN] at hi; omega
    have h2 : j = 0 ∨ j = 1 ∨ j = 2 := by simp [triN] at hj; omega
    rcases h1 with rfl | rfl | rfl <;> rcases h2 with rfl | rfl | rfl <;> first | rfl | (exfalso; revert e; simp [triN])
theorem tri_short (n : Nat) : ∀ x ∈ triN.take n, x.data.toList.length ≤ 4 := by
  intro x hx
  have := List.mem_of_mem_take hx
  simp only [triN, List.mem_cons, List.not_mem_nil, or_false] at this
  rcases this with rfl | rfl | rfl <;> decide
theorem inB_memN {x : ByteArray} {l : List ByteArray} (h : inB x l = true) : x ∈ l := by
  unfold inB at h
  rw [List.any_eq_true] at h
  obtain ⟨y, hy, e⟩ := h
  have e2 : y = x := bytes_inj (by simpa using e)
  rw [← e2]; exact hy
theorem tri_free (n : Nat) (hn : n ≤ 3) : freE (triN.take n) = 0 := by
  have hl : (triN.take n).length ≤ 3 := by rw [List.length_take]; omega
  unfold freE
  rw [if_neg (by omega)]
  refine fr_none fun j hj => ?_
  rw [frAt_get hj]
  have h1 := tri_name _ (List.mem_of_mem_take (List.getElem_mem hj))
  rw [if_neg (by rw [h1.1, h1.2]; simp), if_neg]
  intro hi
  have h2 := inB_memN hi
  obtain ⟨i, hil, e⟩ := List.getElem_of_mem h2
  have h3 : i < j := by rw [List.length_take] at hil; omega
  rw [List.getElem_take] at e
  have := (tri_ok n hn).apart i j (by omega) hj e
  omega

/-- What is written is read. -/
theorem read_back (n : Nat) (hn : n ≤ 3) {c : UInt8} (hc : c = 120 ∨ c = 113) (s : ByteArray) (t : Lm) (he : errM n 0 [t] = 0) (hk : sizeM [t] ≤ 200) (hs : s.data.toList = (ltx (triN.take n) 0 t).map (sw c)) : (lrdAll s (triN.take n)).err = 0 ∧ (lrdAll s (triN.take n)).t = t := by
  have hl : (triN.take n).length = n := by rw [List.length_take]; simp [triN]; omega
  have he2 : errM (triN.take n).length 0 [t] = 0 := by rw [hl]; exact he
  have h := lrd_whole (tri_ok n hn) hc s t he2 hk hs
  have hsh := ltx_short (tri_short n) t 0 (by simpa using he2) (by omega)
  have hsz : s.size = (ltx (triN.take n) 0 t).length := by rw [size_listN, hs]; simp
  unfold lrdAll
  rw [tri_free n hn, h]
  rw [if_neg (by simp), if_neg (by omega)]
  simp
/-- It is written well. -/
theorem write_ok (n : Nat) (hn : n ≤ 3) (t : Lm) (he : errM n 0 [t] = 0) (hk : sizeM [t] ≤ 200) : txE (triN.take n) t = 0 ∧ txB (triN.take n) t = ltx (triN.take n) 0 t := by
  have hl : (triN.take n).length = n := by rw [List.length_take]; simp [triN]; omega
  have h0 : txE (triN.take n) t = 0 := by
    unfold txE
    rw [tri_free n hn, if_pos rfl, hl]
    unfold lamE
    simp [he]
    omega
  refine ⟨h0, ?_⟩
  unfold txB
  rw [if_pos h0]
end Go.Proofs.YtfbligcampbchaaDoor
