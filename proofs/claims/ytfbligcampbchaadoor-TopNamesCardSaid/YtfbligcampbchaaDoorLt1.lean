/- The text of a lambda term. -/
import Derived.Test.YtfbligcampbchaaDoorL2
import Derived.Lib.ItoaNum
namespace Go.Proofs.YtfbligcampbchaaDoor

/-- The name of what a binder binds, by how many are around that: the program's own for those within, others for those from outside. -/
def nmAt (fr : List ByteArray) (k : Int) : List UInt8 := if k < 0 then (fr[(fr.length + k).toNat]?.getD ⟨#[]⟩).data.toList else 120 :: Lib.decDigits k.toNat

/-- In brackets, or not. -/
def brk (b : Bool) (l : List UInt8) : List UInt8 := if b then 40 :: (l ++ [41]) else l

/-- Of a knot, by the texts of those below it. -/
def ltK (fr : List ByteArray) (d : Nat) (k x : Int) (l : List Lm) (T : List (List UInt8)) : List UInt8 :=
  if k = 1 then nmAt fr (d - 1 - x) else if k = 2 then 92 :: (120 :: Lib.decDigits d ++ 46 :: T[0]?.getD [])
  else if k = 3 then brk ((l[0]?.map (·.kind)).getD 0 == 2) (T[0]?.getD []) ++ 32 :: brk ((l[1]?.map (·.kind)).getD 0 == 2 || (l[1]?.map (·.kind)).getD 0 == 3) (T[1]?.getD [])
  else 99 :: Lib.decDigits x.toNat

/-- The texts of lambda terms, with so many binders around. -/
def ltL (fr : List ByteArray) : Nat → List Lm → List (List UInt8)
  | _, [] => []
  | d, ⟨k, x, l⟩ :: r => ltK fr d k x l (ltL fr (if k = 2 then d + 1 else d) l) :: ltL fr d r

/-- The text of a lambda term. -/
def ltx (fr : List ByteArray) (d : Nat) (t : Lm) : List UInt8 := (ltL fr d [t])[0]?.getD []

theorem ltL_one (fr : List ByteArray) (d : Nat) (t : Lm) : ltL fr d [t] = [ltx fr d t] := by obtain ⟨k, x, l⟩ := t; simp [ltx, ltL]
theorem ltL_cons (fr : List ByteArray) (d : Nat) (t : Lm) (r : List Lm) : ltL fr d (t :: r) = ltx fr d t :: ltL fr d r := by obtain ⟨k, x, l⟩ := t; simp [ltx, ltL]
theorem ltx_bound (fr : List ByteArray) (d : Nat) (x : Int) (l : List Lm) : ltx fr d ⟨1, x, l⟩ = nmAt fr (d - 1 - x) := by simp [ltx, ltL, ltK]
theorem ltx_fun (fr : List ByteArray) (d : Nat) (x : Int) (b : Lm) : ltx fr d ⟨2, x, [b]⟩ = 92 :: (120 :: Lib.decDigits d ++ 46 :: ltx fr (d + 1) b) := by
  have h : ltx fr d ⟨2, x, [b]⟩ = ltK fr d 2 x [b] (ltL fr (d + 1) [b]) := by simp [ltx, ltL]
  rw [h, ltL_one]; simp [ltK]
theorem ltx_app (fr : List ByteArray) (d : Nat) (x : Int) (f a : Lm) : ltx fr d ⟨3, x, [f, a]⟩ = brk (f.kind == 2) (ltx fr d f) ++ 32 :: brk (a.kind == 2 || a.kind == 3) (ltx fr d a) := by
  have h : ltx fr d ⟨3, x, [f, a]⟩ = ltK fr d 3 x [f, a] (ltL fr d [f, a]) := by simp [ltx, ltL]
  rw [h, ltL_cons, ltL_one]; simp [ltK]
theorem ltx_con (fr : List ByteArray) (d : Nat) (x : Int) (l : List Lm) : ltx fr d ⟨4, x, l⟩ = 99 :: Lib.decDigits x.toNat := by simp [ltx, ltL, ltK]

/-- What a lambda term that may be looks like. -/
theorem may_look {u : Int} {t : Lm} (h : errM u 0 [t] = 0) : (∃ x, t = ⟨1, x, []⟩ ∧ 0 ≤ x ∧ x < u) ∨ (∃ b, t = ⟨2, 0, [b]⟩ ∧ errM (u + 1) 0 [b] = 0) ∨ (∃ f a, t = ⟨3, 0, [f, a]⟩ ∧ errM u 0 [f] = 0 ∧ errM u 0 [a] = 0) ∨ (∃ x, t = ⟨4, x, []⟩ ∧ 0 ≤ x ∧ x < 40) := by
  obtain ⟨k, x, l⟩ := t
  have hk : knE u 0 k x l.length = 0 := by
    apply Classical.byContradiction
    intro hn
    rw [errM_bad hn] at h
    exact hn h
  have hg := errM_good hk
  rw [hg] at h
  unfold knE at hk
  by_cases h1 : k < 1 ∨ 5 < k
  · rw [if_pos h1] at hk; cases hk
  rw [if_neg h1] at hk
  by_cases h2 : l.length ≠ subsK k
  · rw [if_pos h2] at hk; cases hk
  rw [if_neg h2] at hk
  by_cases h3 : x < 0 ∨ mostK u 0 k ≤ x
  · rw [if_pos h3] at hk; cases hk
  have hx : 0 ≤ x ∧ x < mostK u 0 k := by omega
  have hl : l.length = subsK k := by simpa using h2
  have hc : k = 1 ∨ k = 2 ∨ k = 3 ∨ k = 4 ∨ k = 5 := by omega
  rcases hc with rfl | rfl | rfl | rfl | rfl
  · left
    simp [mostK] at hx
    simp [subsK] at hl
    subst hl
    exact ⟨x, rfl, hx.1, hx.2⟩
  · right; left
    simp [mostK] at hx
    simp [subsK] at hl
    obtain ⟨b, rfl⟩ := List.length_eq_one_iff.1 hl
    have : x = 0 := by omega
    subst this
    exact ⟨b, rfl, by simpa [deepK] using h⟩
  · right; right; left
    simp [mostK] at hx
    simp [subsK] at hl
    match l, hl with
    | [f, a], _ =>
      have : x = 0 := by omega
      subst this
      rw [errM_cons] at h
      simp only [deepK] at h
      have e2 : (3 : Int) = 2 ↔ False := by simp
      simp only [e2, if_false] at h
      by_cases hf : errM u 0 [f] = 0
      · rw [if_pos hf] at h
        exact ⟨f, a, rfl, hf, h⟩
      · rw [if_neg hf] at h; exact absurd h hf
  · right; right; right
    simp [mostK] at hx
    simp [subsK] at hl
    subst hl
    exact ⟨x, rfl, hx.1, hx.2⟩
  · simp [mostK] at hx
    omega

theorem dec_len (n : Nat) : (Lib.decDigits n).length ≤ n + 1 := by
  induction n using Nat.strongRecOn with
  | ind n ih =>
    rw [Lib.decDigits]
    by_cases h : n < 10
    · rw [dif_pos h]; simp
    · rw [dif_neg h]
      have := ih (n / 10) (by omega)
      simp only [List.length_append, List.length_cons, List.length_nil]
      omega
theorem brk_len (b : Bool) (l : List UInt8) : (brk b l).length ≤ l.length + 2 := by unfold brk; split <;> simp
theorem brk_ge (b : Bool) (l : List UInt8) : l.length ≤ (brk b l).length := by unfold brk; split <;> simp; omega

/-- A text is not long. -/
theorem ltx_len (fr : List ByteArray) (hfr : ∀ s ∈ fr, s.size ≤ 8) (t : Lm) : ∀ (u : Int) (d N : Nat), errM u 0 [t] = 0 → u = fr.length + d → d + sizeM [t] ≤ N → (ltx fr d t).length ≤ (N + 60) * sizeM [t] := by
  induction t using Lm.ind with
  | h k x l ih =>
    intro u d N he hu hN
    rcases may_look he with ⟨y, e, h0, h1⟩ | ⟨b, e, hb⟩ | ⟨f, a, e, hf, ha⟩ | ⟨y, e, h0, h1⟩
    · cases e
      rw [ltx_bound]
      simp only [sizeM] at hN ⊢
      unfold nmAt
      split
      · cases hq : fr[(fr.length + (d - 1 - x)).toNat]? with
        | none => simp
        | some s =>
          have hs := hfr s (List.mem_of_getElem? hq)
          have h4 : s.data.toList.length = s.size := by rw [Array.length_toList]; rfl
          simp only [Option.getD_some, h4]; omega
      · have := dec_len ((d : Int) - 1 - x).toNat
        simp only [List.length_cons]; omega
    · cases e
      have h1 := ih b (by simp) (u + 1) (d + 1) N hb (by omega) (by simp only [sizeM] at hN ⊢; obtain ⟨k, y, m⟩ := b; simp only [sizeM] at hN ⊢; omega)
      rw [ltx_fun]
      have h2 := dec_len d
      have h3 : sizeM [(⟨2, 0, [b]⟩ : Lm)] = 1 + sizeM [b] := by simp [sizeM]
      rw [h3] at hN ⊢
      rw [Nat.mul_add]
      simp only [List.length_cons, List.length_append]
      omega
    · cases e
      have h3 : sizeM [(⟨3, 0, [f, a]⟩ : Lm)] = 1 + (sizeM [f] + sizeM [a]) := by
        obtain ⟨k1, y1, m1⟩ := f; obtain ⟨k2, y2, m2⟩ := a
        simp only [sizeM]; omega
      rw [h3] at hN ⊢
      have h1 := ih f (by simp) u d N hf hu (by omega)
      have h2 := ih a (by simp) u d N ha hu (by omega)
      rw [ltx_app]
      have h4 := brk_len (f.kind == 2) (ltx fr d f)
      have h5 := brk_len (a.kind == 2 || a.kind == 3) (ltx fr d a)
      rw [Nat.mul_add, Nat.mul_add]
      simp only [List.length_cons, List.length_append]
      omega
    · cases e
      rw [ltx_con]
      have := dec_len x.toNat
      simp only [sizeM, List.length_cons]
      omega
end Go.Proofs.YtfbligcampbchaaDoor
