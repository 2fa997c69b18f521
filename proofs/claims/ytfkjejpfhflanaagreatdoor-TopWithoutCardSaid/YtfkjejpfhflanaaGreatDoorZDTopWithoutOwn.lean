/- Several texts in one. -/
import Derived.Test.YtfkjejpfhflanaaGreatDoorZBTopWithoutOwn
import Derived.Lib.ItoaNum
import Derived.Test.YtfkjejpfhflanaaGreatDoorZTopWithoutOwn
import Derived.Laws.IdiomStrings
import Derived.Deep.RegionHeld
/- The text of a lambda term. -/
namespace Go.Proofs.YtfkjejpfhflanaaGreatDoor

/-- The name of what a binder binds, by how many are around that: the program's own for those within, others for those from outside. -/
def nmAt (fr : List ByteArray) (k : Int) : List UInt8 := if k < 0 then (fr[(fr.length + k).toNat]?.getD ⟨#[]⟩).data.toList else 120 :: Lib.decDigits k.toNat

/-- In brackets, or not. -/
def brk (b : Bool) (l : List UInt8) : List UInt8 := if b then 40 :: (l ++ [41]) else l

/-- Of a knot, by the texts of those below it. -/
def ltK (fr : List ByteArray) (d : Nat) (k x : Int) (l : List Lm) (T : List (List UInt8)) : List UInt8 :=
  if k = 1 then nmAt fr (d - 1 - x) else if k = 2 then 92 :: (120 :: Lib.decDigits d ++ 46 :: T[0]?.getD [])
  else if k = 3 then brk ((l[0]?.map (·.kind)).getD 0 == 2) (T[0]?.getD []) ++ 32 :: brk ((l[1]?.map (·.kind)).getD 0 == 2 || (l[1]?.map (·.kind)).getD 0 == 3) (T[1]?.getD [])
  else 99 :: Lib.decDigits x.toNat

/-- The texts of lambda terms, with so many binders around. -/
def ltL (fr : List ByteArray) : Nat → List Lm → List (List UInt8)
  | _, [] => []
  | d, ⟨k, x, l⟩ :: r => ltK fr d k x l (ltL fr (if k = 2 then d + 1 else d) l) :: ltL fr d r

/-- The text of a lambda term. -/
def ltx (fr : List ByteArray) (d : Nat) (t : Lm) : List UInt8 := (ltL fr d [t])[0]?.getD []

theorem ltL_one (fr : List ByteArray) (d : Nat) (t : Lm) : ltL fr d [t] = [ltx fr d t] := by obtain ⟨k, x, l⟩ := t; simp [ltx, ltL]
theorem ltL_cons (fr : List ByteArray) (d : Nat) (t : Lm) (r : List Lm) : ltL fr d (t :: r) = ltx fr d t :: ltL fr d r := by obtain ⟨k, x, l⟩ := t; simp [ltx, ltL]
theorem ltx_bound (fr : List ByteArray) (d : Nat) (x : Int) (l : List Lm) : ltx fr d ⟨1, x, l⟩ = nmAt fr (d - 1 - x) := by simp [ltx, ltL, ltK]
theorem ltx_fun (fr : List ByteArray) (d : Nat) (x : Int) (b : Lm) : ltx fr d ⟨2, x, [b]⟩ = 92 :: (120 :: Lib.decDigits d ++ 46 :: ltx fr (d + 1) b) := by
  have h : ltx fr d ⟨2, x, [b]⟩ = ltK fr d 2 x [b] (ltL fr (d + 1) [b]) := by simp [ltx, ltL]
  rw [h, ltL_one]; simp [ltK]
theorem ltx_app (fr : List ByteArray) (d : Nat) (x : Int) (f a : Lm) : ltx fr d ⟨3, x, [f, a]⟩ = brk (f.kind == 2) (ltx fr d f) ++ 32 :: brk (a.kind == 2 || a.kind == 3) (ltx fr d a) := by
  have h : ltx fr d ⟨3, x, [f, a]⟩ = ltK fr d 3 x [f, a] (ltL fr d [f, a]) := by simp [ltx, ltL]
  rw [h, ltL_cons, ltL_one]; simp [ltK]
theorem ltx_con (fr : List ByteArray) (d : Nat) (x : Int) (l : List Lm) : ltx fr d ⟨4, x, l⟩ = 99 :: Lib.decDigits x.toNat := by simp [ltx, ltL, ltK]

/-- What a lambda term that may be looks like. -/
theorem may_look {u : Int} {t : Lm} (h : errM u 0 [t] = 0) : (∃ x, t = ⟨1, x, []⟩ ∧ 0 ≤ x ∧ x < u) ∨ (∃ b, t = ⟨2, 0, [b]⟩ ∧ errM (u + 1) 0 [b] = 0) ∨ (∃ f a, t = ⟨3, 0, [f, a]⟩ ∧ errM u 0 [f] = 0 ∧ errM u 0 [a] = 0) ∨ (∃ x, t = ⟨4, x, []⟩ ∧ 0 ≤ x ∧ x < 40) := by
  obtain ⟨k, x, l⟩ := t
  have hk : knE u 0 k x l.length = 0 := by
    apply Classical.byContradiction
    intro hn
    rw [errM_bad hn] at h
    exact hn h
  have hg := errM_good hk
  rw [hg] at h
  unfold knE at hk
  by_cases h1 : k < 1 ∨ 5 < k
  · rw [if_pos h1] at hk; cases hk
  rw [if_neg h1] at hk
  by_cases h2 : l.length ≠ subsK k
  · rw [if_pos h2] at hk; cases hk
  rw [if_neg h2] at hk
  by_cases h3 : x < 0 ∨ mostK u 0 k ≤ x
  · rw [if_pos h3] at hk; cases hk
  have hx : 0 ≤ x ∧ x < mostK u 0 k := by omega
  have hl : l.length = subsK k := by simpa using h2
  have hc : k = 1 ∨ k = 2 ∨ k = 3 ∨ k = 4 ∨ k = 5 := by omega
  rcases hc with rfl | rfl | rfl | rfl | rfl
  · left
    simp [mostK] at hx
    simp [subsK] at hl
    subst hl
    exact ⟨x, rfl, hx.1, hx.2⟩
  · right; left
    simp [mostK] at hx
    simp [subsK] at hl
    obtain ⟨b, rfl⟩ := List.length_eq_one_iff.1 hl
    have : x = 0 := by omega
    subst this
    exact ⟨b, rfl, by simpa [deepK] using h⟩
  · right; right; left
    simp [mostK] at hx
    simp [subsK] at hl
    match l, hl with
    | [f, a], _ =>
      have : x = 0 := by omega
      subst this
      rw [errM_cons] at h
      simp only [deepK] at h
      have e2 : (3 : Int) = 2 ↔ False := by simp
      simp only [e2, if_false] at h
      by_cases hf : errM u 0 [f] = 0
      · rw [if_pos hf] at h
        exact ⟨f, a, rfl, hf, h⟩
      · rw [if_neg hf] at h; exact absurd h hf
  · right; right; right
    simp [mostK] at hx
    simp [subsK] at hl
    subst hl
    exact ⟨x, rfl, hx.1, hx.2⟩
  · simp [mostK] at hx
    omega

theorem dec_len (n : Nat) : (Lib.decDigits n).length ≤ n + 1 := by
  induction n using Nat.strongRecOn with
  | ind n ih =>
    rw [Lib.decDigits]
    by_cases h : n < 10
    · rw [dif_pos h]; simp
    · rw [dif_neg h]
      have := ih (n / 10) (by omega)
      simp only [List.length_append, List.length_cons, List.length_nil]
      omega
theorem brk_len (b : Bool) (l : List UInt8) : (brk b l).length ≤ l.length + 2 := by unfold brk; split <;> simp
/-- A text is not long. -/
theorem ltx_len (fr : List ByteArray) (hfr : ∀ s ∈ fr, s.size ≤ 8) (t : Lm) : ∀ (u : Int) (d N : Nat), errM u 0 [t] = 0 → u = fr.length + d → d + sizeM [t] ≤ N → (ltx fr d t).length ≤ (N + 60) * sizeM [t] := by
  induction t using Lm.ind with
  | h k x l ih =>
    intro u d N he hu hN
    rcases may_look he with ⟨y, e, h0, h1⟩ | ⟨b, e, hb⟩ | ⟨f, a, e, hf, ha⟩ | ⟨y, e, h0, h1⟩
    · cases e
      rw [ltx_bound]
      simp only [sizeM] at hN ⊢
      unfold nmAt
      split
      · cases hq : fr[(fr.length + (d - 1 - x)).toNat]? with
        | none => simp
        | some s =>
          have hs := hfr s (List.mem_of_getElem? hq)
          have h4 : s.data.toList.length = s.size := by rw [Array.length_toList]; rfl
          simp only [Option.getD_some, h4]; omega
      · have := dec_len ((d : Int) - 1 - x).toNat
        simp only [List.length_cons]; omega
    · cases e
      have h1 := ih b (by simp) (u + 1) (d + 1) N hb (by omega) (by simp only [sizeM] at hN ⊢; obtain ⟨k, y, m⟩ := b; simp only [sizeM] at hN ⊢; omega)
      rw [ltx_fun]
      have h2 := dec_len d
      have h3 : sizeM [(⟨2, 0, [b]⟩ : Lm)] = 1 + sizeM [b] := by simp [sizeM]
      rw [h3] at hN ⊢
      rw [Nat.mul_add]
      simp only [List.length_cons, List.length_append]
      omega
    · cases e
      have h3 : sizeM [(⟨3, 0, [f, a]⟩ : Lm)] = 1 + (sizeM [f] + sizeM [a]) := by
        obtain ⟨k1, y1, m1⟩ := f; obtain ⟨k2, y2, m2⟩ := a
        simp only [sizeM]; omega
      rw [h3] at hN ⊢
      have h1 := ih f (by simp) u d N hf hu (by omega)
      have h2 := ih a (by simp) u d N ha hu (by omega)
      rw [ltx_app]
      have h4 := brk_len (f.kind == 2) (ltx fr d f)
      have h5 := brk_len (a.kind == 2 || a.kind == 3) (ltx fr d a)
      rw [Nat.mul_add, Nat.mul_add]
      simp only [List.length_cons, List.length_append]
      omega
    · cases e
      rw [ltx_con]
      have := dec_len x.toNat
      simp only [sizeM, List.length_cons]
      omega
end Go.Proofs.YtfkjejpfhflanaaGreatDoor


/- Walks: a number's decimals, as the document writes them. -/
namespace Go.Proofs.YtfkjejpfhflanaaGreatDoor
open Go.RowKit
set_option linter.unusedSimpArgs false
set_option linter.unusedVariables false
set_option maxRecDepth 8000

theorem dec_small {n : Nat} (h : n < 10) : Lib.decDigits n = [UInt8.ofNat (48 + n)] := by rw [Lib.decDigits, dif_pos h]
theorem dec_great {n : Nat} (h : ¬ n < 10) : Lib.decDigits n = Lib.decDigits (n / 10) ++ Lib.decDigits (n % 10) := by
  conv => lhs; rw [Lib.decDigits, dif_neg h]
  rw [dec_small (n := n % 10) (by omega)]

theorem ret_strL {a b : ByteArray} (h : a.data.toList = b.data.toList) : Ending.returned (.string a) = .returned (.string b) := by
  have : a = b := by
    obtain ⟨⟨x⟩⟩ := a; obtain ⟨⟨y⟩⟩ := b; simp at h; rw [h]
  rw [this]

end Go.Proofs.YtfkjejpfhflanaaGreatDoor


/- Walks: names from outside, by the program and by the document. -/
namespace Go.Proofs.YtfkjejpfhflanaaGreatDoor
open Go.RowKit
set_option linter.unusedSimpArgs false
set_option linter.unusedVariables false
set_option maxRecDepth 8000

/-- Begins a text with x or c? -/
def xcB (s : ByteArray) : Bool := decide (byteAt s 0 = 120) || decide (byteAt s 0 = 99)
theorem name_posF {s : ByteArray} (h : nameB s = true) : 0 < s.size := by simp [nameB] at h; omega
def frI (l : List Int) : Int := (l.find? fun z => decide (z ≠ 0)).getD 0
theorem frI_take {l : List Int} {k : Nat} (hk : k < l.length) (h : ∀ z ∈ l.take k, z = 0) (hz : l[k] ≠ 0) : frI l = l[k] := by
  induction l generalizing k with
  | nil => simp at hk
  | cons x l ih =>
    cases k with
    | zero => simp only [List.getElem_cons_zero] at hz ⊢; simp [frI, hz]
    | succ k =>
      have hx : x = 0 := h x (by simp)
      subst hx
      have := ih (k := k) (by simpa using hk) (fun z hz' => h z (by simp [hz'])) (by simpa using hz)
      simp only [List.getElem_cons_succ]
      rw [← this]
      simp [frI]
theorem frI_none {l : List Int} (h : ∀ z ∈ l, z = 0) : frI l = 0 := by
  induction l with
  | nil => rfl
  | cons x l ih =>
    have hx : x = 0 := h x (by simp)
    subst hx
    have h1 := ih fun z hz => h z (by simp [hz])
    unfold frI at h1 ⊢
    rw [List.find?_cons_of_neg (by simp)]
    exact h1
/-- What is wrong with a row at a place. -/
def frAt (row : List ByteArray) (k : Nat) : Int := if nameB (row.getD k ⟨#[]⟩) = false ∨ xcB (row.getD k ⟨#[]⟩) = true then 1 else if inB (row.getD k ⟨#[]⟩) (row.take k) = true then 4 else 0
/-- What is wrong with a row. -/
def freE (row : List ByteArray) : Int := if 40 < row.length then 3 else frI ((List.range row.length).map (frAt row))
theorem frAt_get {row : List ByteArray} {k : Nat} (h : k < row.length) : frAt row k = if nameB row[k] = false ∨ xcB row[k] = true then 1 else if inB row[k] (row.take k) = true then 4 else 0 := by
  have e : row.getD k ⟨#[]⟩ = row[k] := by simp [List.getD, h]
  unfold frAt
  rw [e]
theorem fr_take {row : List ByteArray} {k : Nat} (h : k < row.length) (h0 : ∀ j < k, frAt row j = 0) (hz : frAt row k ≠ 0) : frI ((List.range row.length).map (frAt row)) = frAt row k := by
  have hl : k < ((List.range row.length).map (frAt row)).length := by simpa using h
  have hg : ((List.range row.length).map (frAt row))[k] = frAt row k := by simp
  rw [← hg]
  refine frI_take hl (fun z hz' => ?_) (by rw [hg]; exact hz)
  rw [List.mem_iff_getElem] at hz'
  obtain ⟨j, hj, rfl⟩ := hz'
  simp at hj ⊢
  exact h0 j (by omega)
theorem fr_none {row : List ByteArray} (h0 : ∀ j < row.length, frAt row j = 0) : frI ((List.range row.length).map (frAt row)) = 0 := by
  refine frI_none fun z hz => ?_
  rw [List.mem_map] at hz
  obtain ⟨j, hj, rfl⟩ := hz
  exact h0 j (by simpa using hj)
theorem freE_at {row : List ByteArray} (h : freE row = 0) : row.length ≤ 40 ∧ ∀ k, k < row.length → frAt row k = 0 := by
  unfold freE at h
  split at h
  · cases h
  · refine ⟨by omega, fun j => ?_⟩
    induction j using Nat.strongRecOn with
    | ind j ih =>
      intro hj
      apply Classical.byContradiction
      intro hne
      rw [fr_take hj (fun i hi => ih i hi (by omega)) hne] at h
      exact hne h
theorem freE_name {row : List ByteArray} (h : freE row = 0) {k : Nat} (hk : k < row.length) : nameB row[k] = true ∧ xcB row[k] = false ∧ inB row[k] (row.take k) = false := by
  have h1 := (freE_at h).2 k hk
  rw [frAt_get hk] at h1
  by_cases h2 : nameB row[k] = false ∨ xcB row[k] = true
  · rw [if_pos h2] at h1; cases h1
  · rw [if_neg h2] at h1
    by_cases h3 : inB row[k] (row.take k) = true
    · rw [if_pos h3] at h1; cases h1
    · exact ⟨by cases h4 : nameB row[k] with | true => rfl | false => exact absurd (Or.inl h4) h2, by cases h4 : xcB row[k] with | false => rfl | true => exact absurd (Or.inr h4) h2, by cases h4 : inB row[k] (row.take k) with | false => rfl | true => exact absurd h4 h3⟩
theorem LV.takeF {α : Type} {f : α → Value} {w : World} {X : Nat → Prop} {a : Option Addr} {n c : Nat} {l : List α} (h : LV f w X (.slice a n c) l) (k : Nat) (hk : k ≤ l.length) : LV f w X (.slice a k c) (l.take k) := by
  obtain ⟨a2, c2, e, ⟨h1, h2⟩, h3⟩ := h
  simp at e
  obtain ⟨rfl, rfl, rfl⟩ := e
  have hl : (l.take k).length = k := by simp; omega
  refine ⟨a, c, by rw [hl], ⟨by omega, by omega⟩, ?_⟩
  rcases h3 with h3 | ⟨b, o, e, hx, h3⟩
  · exact Or.inl (by rw [h3]; simp)
  · exact Or.inr ⟨b, o, e, hx, fun i hi => by rw [List.getElem_take]; exact h3 i (by simp at hi; omega)⟩

def FcInv (row : List ByteArray) (w : World) (i : Value) (wr : World) : Prop := ∃ k n : Nat, k ≤ row.length ∧ i = .int .i64 (k : Int) ∧ wr = w.drewN n ∧ ∀ j < k, frAt row j = 0
set_option maxHeartbeats 4000000 in
theorem lNames_any (row : List ByteArray) (u : Value) (w : World) (X : Nat → Prop) (hu : LV Value.string w X u row) :
    Calls Tryz.prog 38 #[u] w fun e w' => e = .returned (.int .i64 (freE row)) ∧ Below w.heap.size w w' := by
  have HU := hide hu
  obtain ⟨a, c, rfl, ⟨hl, hlc⟩, hu⟩ := hu
  by_cases h40 : 40 < row.length
  · have h40i : (40 : Int) < (row.length : Int) := by omega
    have HR : Hid (freE row = 3) := by unfold Hid freE; rw [if_pos h40]
    go_enter Tryz.func38, Tryz.ntmps38
    go_wp2_with fail
    go_ret
    exact ⟨by rw [HR.out]; rfl, Below.refl _ _⟩
  · have h40i : ¬ (40 : Int) < (row.length : Int) := by omega
    have HE : Hid (freE row = frI ((List.range row.length).map (frAt row))) := by unfold Hid freE; rw [if_neg h40]
    go_enter Tryz.func38, Tryz.ntmps38
    go_wp2_with fail
    go_loopw [10] (fun i wr => FcInv row w i wr) (fun i wr => row.length - (intOf i).toNat)
    case atStart => exact ⟨0, 0, Nat.zero_le _, rfl, rfl, fun j h => by omega⟩
    case round =>
      obtain ⟨k, n, hk, rfl, hwr, h0⟩ := hrel
      have H0 := hide h0
      have HWR := hide hwr
      by_cases hlt : k < row.length
      · obtain ⟨b, o, rfl, hX, hc⟩ := hu.resolve_left (fun h => by rw [h] at hlt; simp at hlt)
        have d0 : wr.cell? ⟨b, o + k, none⟩ = some (.string row[k]) := by rw [hwr]; exact hc k hlt
        have hlti : (k : Int) < (row.length : Int) := by omega
        have hkc : (k : Int) ≤ (c : Int) := by omega
        have HRA := hide (frAt_get hlt)
        have HLT := hide (HU.out.takeF k (by omega))
        have HI0 : Hid (LV Value.string wr X (.slice (some ⟨b, o, none⟩) k c) (row.take k)) := by unfold Hid; rw [hwr]; exact HLT.out
        have HIN := hide (fun (n : Nat) => show LV Value.string (wr.drewN n) X (.slice (some ⟨b, o, none⟩) k c) (row.take k) from HI0.out)
        clear h0 hc hwr
        cases hn : nameB row[k] with
        | false =>
          have HR : Hid (freE row = 1) := by unfold Hid; rw [HE.out, fr_take hlt H0.out (by rw [HRA.out, if_pos (Or.inl hn)]; decide), HRA.out, if_pos (Or.inl hn)]
          go_wp2_with (go_at_call 59; refine (isName_any _ _).mono ?_; rintro e w' ⟨rfl, rfl⟩; rw [hn])
          go_ret
          exact ⟨by rw [HR.out]; rfl, by rw [HWR.out]; exact below_drewN (Below.refl _ _) _⟩
        | true =>
          have hp := name_posF hn
          have he := isEmpty_pos hp
          have hbx := hide (byteAt_of hp)
          have hbd := byte_bd row[k] 0
          have hxc : xcB row[k] = (decide (((row[k])[0].toNat : Int) = 120) || decide (((row[k])[0].toNat : Int) = 99)) := by unfold xcB; rw [hbx.out]
          cases hv : xcB row[k] with
          | true =>
            rw [hv] at hxc
            by_cases h120 : ((row[k])[0].toNat : Int) = 120
            · have g1 : (((row[k])[0].toNat : Int) == 120) = true := by simpa using h120
              clear hxc h120
              have HR : Hid (freE row = 1) := by unfold Hid; rw [HE.out, fr_take hlt H0.out (by rw [HRA.out, if_pos (Or.inr hv)]; decide), HRA.out, if_pos (Or.inr hv)]
              go_wp2_with (first | (go_at_call 59; refine (isName_any _ _).mono ?_; rintro e w' ⟨rfl, rfl⟩; rw [hn]) | fail)
              go_ret
              exact ⟨by rw [HR.out]; rfl, by rw [HWR.out]; exact below_drewN (Below.refl _ _) _⟩
            · have g1 : (((row[k])[0].toNat : Int) == 120) = false := by simpa using h120
              have g2 : (((row[k])[0].toNat : Int) == 99) = true := by simpa [h120] using hxc
              clear hxc h120
              have HR : Hid (freE row = 1) := by unfold Hid; rw [HE.out, fr_take hlt H0.out (by rw [HRA.out, if_pos (Or.inr hv)]; decide), HRA.out, if_pos (Or.inr hv)]
              go_wp2_with (first | (go_at_call 59; refine (isName_any _ _).mono ?_; rintro e w' ⟨rfl, rfl⟩; rw [hn]) | fail)
              go_ret
              exact ⟨by rw [HR.out]; rfl, by rw [HWR.out]; exact below_drewN (Below.refl _ _) _⟩
          | false =>
            rw [hv] at hxc
            have g1 : (((row[k])[0].toNat : Int) == 120) = false := by simp at hxc ⊢; exact hxc.1
            have g2 : (((row[k])[0].toNat : Int) == 99) = false := by simp at hxc ⊢; exact hxc.2
            clear hxc
            have hno : ¬ (nameB row[k] = false ∨ xcB row[k] = true) := by rw [hn, hv]; simp
            cases hi : inB row[k] (row.take k) with
            | true =>
              have HR : Hid (freE row = 4) := by unfold Hid; rw [HE.out, fr_take hlt H0.out (by rw [HRA.out, if_neg hno, if_pos hi]; decide), HRA.out, if_neg hno, if_pos hi]
              go_wp2_with (first | (go_at_call 59; refine (isName_any _ _).mono ?_; rintro e w' ⟨rfl, rfl⟩; rw [hn]) | fail | (go_at_call 60; refine (contains_any _ _ _ _ X HI0.out).mono ?_; rintro e w' ⟨rfl, rfl⟩; rw [hi]))
              go_ret
              exact ⟨by rw [HR.out]; rfl, by rw [HWR.out]; exact below_drewN (Below.refl _ _) _⟩
            | false =>
              have HZ : Hid (frAt row k = 0) := by unfold Hid; rw [HRA.out, if_neg hno, if_neg (by rw [hi]; simp)]
              go_wp2_with (first | (go_at_call 59; refine (isName_any _ _).mono ?_; rintro e w' ⟨rfl, rfl⟩; rw [hn]) | fail | (go_at_call 60; refine (contains_any _ _ _ _ X HI0.out).mono ?_; rintro e w' ⟨rfl, rfl⟩; rw [hi]))
              go_roundw
              case rel =>
                refine ⟨k + 1, _, by omega, by go_num, HWR.out, fun j hj => ?_⟩
                by_cases e : j = k
                · subst e; exact HZ.out
                · exact H0.out j (by omega)
              case measure => simp [intOf]; omega
      · have hkk : k = row.length := by omega
        clear hwr
        have HR : Hid (freE row = 0) := by unfold Hid; rw [HE.out]; exact fr_none (by rw [← hkk]; exact H0.out)
        go_wp2_with fail
        go_ret
        exact ⟨by rw [HR.out]; rfl, by rw [HWR.out]; exact below_drewN (Below.refl _ _) _⟩
end Go.Proofs.YtfkjejpfhflanaaGreatDoor

/- Texts read as lambda terms: what both readers do. -/
namespace Go.Proofs.YtfkjejpfhflanaaGreatDoor
open Go.RowKit
set_option linter.unusedSimpArgs false
set_option linter.unusedVariables false

/-- What reading gives: an error (0: none), a lambda term, where it ended, how many knots there were. -/
structure Lrd where
  err : Int
  t : Lm
  pos : Nat
  k : Nat
def noLr (e : Int) : Lrd := ⟨e, ⟨0, 0, []⟩, 0, 0⟩
/-- The number of a constant's name. -/
def conN (n : ByteArray) : Option Nat := (List.range 40).find? fun k => decide (n.data.toList = 99 :: Lib.decDigits k)

/-- The place of the last one of a name. -/
def lastN (n : ByteArray) : List ByteArray → Option Nat
  | [] => none
  | x :: r => match lastN n r with
    | some i => some (i + 1)
    | none => if x = n then some 0 else none

/-- What a name stands for. -/
def namedL (nm : List ByteArray) (n : ByteArray) (p k : Nat) : Lrd := match lastN n nm with
  | some i => ⟨0, ⟨1, (nm.length : Int) - 1 - i, []⟩, p, k⟩
  | none => match conN n with
    | some c => ⟨0, ⟨4, c, []⟩, p, k⟩
    | none => noLr 15

/-- What is read: a term, a piece of it, or what stands behind a term. -/
inductive Lmode where
  | term
  | piece
  | behind (t : Lm)

/-- What a name is, from i on: an error or where it ends. -/
def nameE (s : ByteArray) (i : Nat) : Int := if stopAt s i = i then (if i = s.size then 13 else 12) else if nameB (s.extract i (stopAt s i)) = false then 1 else 0
/-- A sign that must be there. -/
def askE (s : ByteArray) (i : Nat) (c : Int) : Int := if i < s.size ∧ byteAt s i = c then 0 else if i = s.size then 13 else 12

def lrd (s : ByteArray) : Nat → Lmode → List ByteArray → Nat → Nat → Lrd
  | 0, _, _, _, _ => noLr 99
  | f + 1, .term, nm, i, k =>
    if i < s.size ∧ byteAt s i = 92 then
      if 200 < k + 1 then noLr 3
      else if nameE s (i + 1) ≠ 0 then noLr (nameE s (i + 1))
      else if askE s (stopAt s (i + 1)) 46 ≠ 0 then noLr (askE s (stopAt s (i + 1)) 46)
      else
        let r := lrd s f .term (nm ++ [s.extract (i + 1) (stopAt s (i + 1))]) (stopAt s (i + 1) + 1) (k + 1)
        if r.err ≠ 0 then noLr r.err else ⟨0, ⟨2, 0, [r.t]⟩, r.pos, r.k⟩
    else
      let r := lrd s f .piece nm i k
      if r.err ≠ 0 then noLr r.err else lrd s f (.behind r.t) nm r.pos r.k
  | f + 1, .behind t, nm, i, k =>
    if i < s.size ∧ byteAt s i = 32 then
      if 200 < k + 1 then noLr 3
      else
        let r := lrd s f .piece nm (i + 1) (k + 1)
        if r.err ≠ 0 then noLr r.err else lrd s f (.behind ⟨3, 0, [t, r.t]⟩) nm r.pos r.k
    else ⟨0, t, i, k⟩
  | f + 1, .piece, nm, i, k =>
    if i < s.size ∧ byteAt s i = 40 then
      let r := lrd s f .term nm (i + 1) k
      if r.err ≠ 0 then noLr r.err else if askE s r.pos 41 ≠ 0 then noLr (askE s r.pos 41) else ⟨0, r.t, r.pos + 1, r.k⟩
    else if nameE s i ≠ 0 then noLr (nameE s i)
    else if 200 < k + 1 then noLr 3
    else namedL nm (s.extract i (stopAt s i)) (stopAt s i) (k + 1)

theorem nameE_go {s : ByteArray} {i : Nat} (h : nameE s i = 0) : i < stopAt s i ∧ nameB (s.extract i (stopAt s i)) = true := by
  unfold nameE at h
  by_cases h1 : stopAt s i = i
  · rw [if_pos h1] at h; split at h <;> cases h
  · rw [if_neg h1] at h
    have := stopAt_ge s i
    refine ⟨by omega, ?_⟩
    cases h2 : nameB (s.extract i (stopAt s i)) with
    | true => rfl
    | false => rw [if_pos h2] at h; cases h
theorem askE_go {s : ByteArray} {i : Nat} {c : Int} (h : askE s i c = 0) : i < s.size ∧ byteAt s i = c := by
  unfold askE at h
  by_cases h1 : i < s.size ∧ byteAt s i = c
  · exact h1
  · rw [if_neg h1] at h; split at h <;> cases h
theorem lastN_lt {n : ByteArray} : ∀ {l : List ByteArray} {i : Nat}, lastN n l = some i → i < l.length
  | [], i, h => by simp [lastN] at h
  | x :: r, i, h => by
    unfold lastN at h
    cases hr : lastN n r with
    | some j => rw [hr] at h; simp at h; subst h; have := lastN_lt hr; simp; omega
    | none => rw [hr] at h; simp at h; simp [← h.2]
theorem named_ok {nm : List ByteArray} {n : ByteArray} {p k : Nat} (h : (namedL nm n p k).err = 0) : (namedL nm n p k).pos = p ∧ (namedL nm n p k).k = k := by
  unfold namedL at *
  split
  · exact ⟨rfl, rfl⟩
  · rename_i h1
    rw [h1] at h
    split
    · exact ⟨rfl, rfl⟩
    · rename_i h2
      rw [h2] at h
      simp [noLr] at h

/-- Where reading ends, and how many knots there were. -/
theorem lrd_pos (s : ByteArray) : ∀ f m nm i k, (lrd s f m nm i k).err = 0 → i ≤ s.size → k ≤ 200 → i ≤ (lrd s f m nm i k).pos ∧ (lrd s f m nm i k).pos ≤ s.size ∧ (lrd s f m nm i k).k ≤ 200 ∧ ((∀ t, m ≠ .behind t) → i < (lrd s f m nm i k).pos) := by
  intro f
  induction f with
  | zero => intro m nm i k h; simp [lrd, noLr] at h
  | succ f ih =>
    intro m nm i k h hi hk
    cases m with
    | term =>
      unfold lrd at h ⊢
      by_cases h1 : i < s.size ∧ byteAt s i = 92
      · rw [if_pos h1] at h ⊢
        by_cases h2 : 200 < k + 1
        · rw [if_pos h2] at h; simp [noLr] at h
        rw [if_neg h2] at h ⊢
        by_cases h3 : nameE s (i + 1) ≠ 0
        · rw [if_pos h3] at h; exact absurd h h3
        rw [if_neg h3] at h ⊢
        by_cases h4 : askE s (stopAt s (i + 1)) 46 ≠ 0
        · rw [if_pos h4] at h; exact absurd h h4
        rw [if_neg h4] at h ⊢
        simp only at h ⊢
        have h3' := nameE_go (by simpa using h3)
        have h4' := askE_go (by simpa using h4)
        by_cases h5 : (lrd s f .term (nm ++ [s.extract (i + 1) (stopAt s (i + 1))]) (stopAt s (i + 1) + 1) (k + 1)).err ≠ 0
        · rw [if_pos h5] at h; exact absurd h h5
        rw [if_neg h5]
        have := ih .term _ _ _ (by simpa using h5) (by omega) (by omega)
        refine ⟨?_, this.2.1, this.2.2.1, fun _ => ?_⟩
        · have := this.1; simp only; omega
        · have := this.1; simp only; omega
      · rw [if_neg h1] at h ⊢
        simp only at h ⊢
        by_cases h5 : (lrd s f .piece nm i k).err ≠ 0
        · rw [if_pos h5] at h; exact absurd h h5
        rw [if_neg h5] at h ⊢
        have g1 := ih .piece nm i k (by simpa using h5) hi hk
        have g2 := ih (.behind (lrd s f .piece nm i k).t) nm _ _ h g1.2.1 g1.2.2.1
        have g3 := g1.2.2.2 (fun t e => by cases e)
        exact ⟨by omega, g2.2.1, g2.2.2.1, fun _ => by omega⟩
    | behind t =>
      unfold lrd at h ⊢
      by_cases h1 : i < s.size ∧ byteAt s i = 32
      · rw [if_pos h1] at h ⊢
        by_cases h2 : 200 < k + 1
        · rw [if_pos h2] at h; simp [noLr] at h
        rw [if_neg h2] at h ⊢
        simp only at h ⊢
        by_cases h5 : (lrd s f .piece nm (i + 1) (k + 1)).err ≠ 0
        · rw [if_pos h5] at h; exact absurd h h5
        rw [if_neg h5] at h ⊢
        have g1 := ih .piece nm (i + 1) (k + 1) (by simpa using h5) (by omega) (by omega)
        have g2 := ih (.behind ⟨3, 0, [t, (lrd s f .piece nm (i + 1) (k + 1)).t]⟩) nm _ _ h g1.2.1 g1.2.2.1
        exact ⟨by omega, g2.2.1, g2.2.2.1, fun hh => absurd rfl (hh t)⟩
      · rw [if_neg h1]
        exact ⟨Nat.le_refl _, hi, hk, fun hh => absurd rfl (hh t)⟩
    | piece =>
      unfold lrd at h ⊢
      by_cases h1 : i < s.size ∧ byteAt s i = 40
      · rw [if_pos h1] at h ⊢
        simp only at h ⊢
        by_cases h5 : (lrd s f .term nm (i + 1) k).err ≠ 0
        · rw [if_pos h5] at h; exact absurd h h5
        rw [if_neg h5] at h ⊢
        by_cases h6 : askE s (lrd s f .term nm (i + 1) k).pos 41 ≠ 0
        · rw [if_pos h6] at h; exact absurd h h6
        rw [if_neg h6]
        have g1 := ih .term nm (i + 1) k (by simpa using h5) (by omega) hk
        have g2 := askE_go (by simpa using h6)
        exact ⟨by simp only; omega, by simp only; omega, g1.2.2.1, fun _ => by simp only; omega⟩
      · rw [if_neg h1] at h ⊢
        by_cases h3 : nameE s i ≠ 0
        · rw [if_pos h3] at h; exact absurd h h3
        rw [if_neg h3] at h ⊢
        by_cases h2 : 200 < k + 1
        · rw [if_pos h2] at h; simp [noLr] at h
        rw [if_neg h2] at h ⊢
        have h3' := nameE_go (by simpa using h3)
        have h4 := named_ok h
        have h5 := stopAt_le s hi
        rw [h4.1, h4.2]
        exact ⟨by omega, h5, by omega, fun _ => by omega⟩
end Go.Proofs.YtfkjejpfhflanaaGreatDoor
