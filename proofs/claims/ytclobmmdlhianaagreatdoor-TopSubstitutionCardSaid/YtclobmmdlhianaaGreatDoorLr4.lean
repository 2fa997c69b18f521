/- Walks: which names are constants'. -/
import Derived.Test.YtclobmmdlhianaaGreatDoorZDTopSubstitutionOwn
import Derived.Test.YtclobmmdlhianaaGreatDoorLt6
import Derived.Test.YtclobmmdlhianaaGreatDoorShelfA
import Derived.Lib.AtoiBound
import Derived.Lib.ItoaLen
namespace Go.Proofs.YtclobmmdlhianaaGreatDoor
open Go.RowKit
set_option linter.unusedSimpArgs false
set_option linter.unusedVariables false
set_option maxRecDepth 8000

def dec2 (k : Nat) : List UInt8 := if k < 10 then [UInt8.ofNat (48 + k)] else [UInt8.ofNat (48 + k / 10), UInt8.ofNat (48 + k % 10)]
theorem dec2_is {k : Nat} (h : k < 100) : Lib.decDigits k = dec2 k := by
  unfold dec2
  by_cases h1 : k < 10
  · rw [if_pos h1, dec_small h1]
  · rw [if_neg h1, dec_great h1, dec_small (n := k / 10) (by omega), dec_small (n := k % 10) (by omega)]
    rfl
theorem atoi_dec2 : ∀ k, k < 40 → Lib.atoi (dec2 k) = some (k : Int) := by decide
theorem dec2_inj : ∀ k, k < 40 → ∀ j, j < 40 → dec2 k = dec2 j → k = j := by decide

theorem conN_some {n : ByteArray} {k : Nat} (h : conN n = some k) : k < 40 ∧ n.data.toList = 99 :: Lib.decDigits k := by
  unfold conN at h
  have h1 := List.find?_some h
  have h2 := List.mem_of_find?_eq_some h
  exact ⟨by simpa using h2, by simpa using h1⟩
theorem conN_is {n : ByteArray} {k : Nat} (hk : k < 40) (h : n.data.toList = 99 :: Lib.decDigits k) : conN n = some k := by
  cases hc : conN n with
  | none =>
    unfold conN at hc
    rw [List.find?_eq_none] at hc
    exact absurd h (by simpa using hc k (by simpa using hk))
  | some j =>
    obtain ⟨h1, h2⟩ := conN_some hc
    rw [h2] at h
    simp only [List.cons.injEq, true_and] at h
    rw [dec2_is (by omega), dec2_is (by omega)] at h
    rw [dec2_inj j h1 k hk h]

/-- What the library tells of a name that is no number behind its first sign: an error that is there. -/
def Tse (B : Nat) (w : World) : Prop := ∃ tp p, ∀ w', Below B w w' → w'.var? Tryz.prog "strconv.ErrSyntax" = some #[.iface tp p]
theorem Tse.on {B : Nat} {w w1 : World} (h : Tse B w) (hb : Below B w w1) : Tse B w1 := by
  obtain ⟨tp, p, h⟩ := h
  exact ⟨tp, p, fun w' h' => h w' (hb.trans h')⟩
theorem Tse.raise {B B' : Nat} {w w' : World} (h : Tse B w) (hb : Below B w w') (hle : B ≤ B') : Tse B' w' := by
  obtain ⟨tp, p, h⟩ := h
  exact ⟨tp, p, fun w'' h2 => h w'' (hb.trans (h2.mono hle))⟩

theorem name_sz {s : ByteArray} (h : nameB s = true) : 1 ≤ s.size ∧ s.size ≤ 8 := by
  simp [nameB] at h
  omega
theorem tail_list (s : ByteArray) (h : 1 ≤ s.size) : ∃ c, s.data.toList = c :: (s.extract 1 s.size).data.toList := by
  have h1 : (s.extract 1 s.size).data.toList = s.data.toList.drop 1 := by
    rw [ByteArray.data_extract, Array.toList_extract]
    simp [List.extract]
    have : s.data.size = s.size := rfl
    rw [List.take_of_length_le (by simp)]
  rw [h1]
  cases hl : s.data.toList with
  | nil =>
    have : s.data.toList.length = s.size := by rw [Array.length_toList]; rfl
    rw [hl] at this; simp at this; omega
  | cons c r => exact ⟨c, by simp⟩

theorem con_tail {s : ByteArray} {c0 : UInt8} {k : Nat} (hc0 : s.data.toList = c0 :: (s.extract 1 s.size).data.toList) (h : conN s = some k) : Lib.atoi (s.extract 1 s.size).data.toList = some (k : Int) := by
  obtain ⟨h1, h2⟩ := conN_some h
  rw [hc0] at h2
  simp only [List.cons.injEq] at h2
  rw [h2.2, dec2_is (by omega)]
  exact atoi_dec2 k h1
theorem neg_name {s : ByteArray} (hn : nameB s = true) {r : List UInt8} (h : s.data.toList = 99 :: 45 :: r) : False := by
  have hz := name_sz hn
  have hl : s.size = s.data.toList.length := by rw [Array.length_toList]; rfl
  rw [h] at hl
  simp at hl
  have h1 : byteAt s 1 = 45 := by
    unfold byteAt
    rw [dif_pos (by omega)]
    have h2 : s[1]'(by omega) = 45 := by
      have h3 : s.data.toList[1]? = some 45 := by rw [h]; rfl
      rw [Array.getElem?_toList] at h3
      exact (Array.getElem?_eq_some_iff.1 h3).2
    rw [h2]; rfl
  simp [nameB] at hn
  have h4 := hn.2
  unfold alnTo at h4
  rw [List.all_eq_true] at h4
  have h5 := h4 1 (by simp; omega)
  rw [h1] at h5
  revert h5
  decide

set_option maxHeartbeats 1000000 in
theorem constant_any (s : ByteArray) (hn : nameB s = true) (B : Nat) (w : World) (hT : Tb B w) (hS : Tse B w) (hB : B ≤ w.heap.size) :
    Calls Tryz.prog 76 #[.string s] w fun e w' => (∃ n : Int, e = .returned (.tuple #[.int .i64 n, .bool (conN s).isSome]) ∧ ∀ k, conN s = some k → n = k) ∧ Below w.heap.size w w' := by
  have hz := name_sz hn
  obtain ⟨c0, hc0⟩ := tail_list s hz.1
  have hez : (s.extract 1 s.size).size ≤ 18 := by rw [ByteArray.size_extract]; omega
  have HT := hide hT
  have HS := hide hS
  have hsz : (1 : Int) ≤ (s.size : Int) := by omega
  go_enter Tryz.func76, Tryz.ntmps76
  go_wp2_with fail
  cases ha : Lib.atoi (s.extract 1 s.size).data.toList with
  | none =>
    have HC : Hid (conN s = none) := by
      cases hc : conN s with
      | none => rfl
      | some k => rw [con_tail hc0 hc] at ha; cases ha
    obtain ⟨tp, p, hvar⟩ := HS.out
    refine (Tryz.strconv_Atoi_err_var _ hez ha tp p _ (hvar _ (Below.refl _ _))).mono ?_
    rintro e w1 ⟨N, rfl, hN, hNb, hb1⟩
    have HB1 := hide hb1
    clear hb1 hNb hvar
    go_wp2_with fail
    go_ret2
    exact ⟨⟨0, by rw [HC.out]; rfl, fun k hk => by rw [HC.out] at hk; cases hk⟩, HB1.out⟩
  | some n =>
    have hbd := Lib.atoi_bound ha (by have : (s.extract 1 s.size).data.toList.length = (s.extract 1 s.size).size := by rw [Array.length_toList]; rfl
                                      omega)
    refine (Tryz.strconv_Atoi _ n hez ha _).mono ?_
    rintro e w1 ⟨rfl, t, hw1⟩
    have HB1 : Hid (Below w.heap.size w w1) := by unfold Hid; rw [hw1]; exact Lib.bytesWorld_below _ _ _
    clear hw1
    have HA := hide ha
    clear ha
    by_cases h40 : n < 40
    · have hit : (Lib.itoa n).length ≤ 1000 := by
        have := Lib.itoa_length_le n (by omega) (by omega)
        omega
      go_wp2_with fail
      refine (Tryz.strconv_Itoa n (by omega) (by omega) _ (HT.out.on (HB1.out.mono hB)).here).mono ?_
      rintro e w2 ⟨rfl, k2, os2, hw2⟩
      have HB2 : Hid (Below w.heap.size w w2) := by unfold Hid; rw [hw2]; exact HB1.out.trans (Lib.below_grow _ _ HB1.out.size _ _)
      clear hw2
      have hcat : (⟨#[99]⟩ : ByteArray) ++ ⟨(Lib.itoa n).toArray⟩ = ⟨(99 :: Lib.itoa n).toArray⟩ := str_cat [99] (Lib.itoa n)
      have HCE : Hid ((s.toList == 99 :: Lib.itoa n) = (conN s).isSome ∧ ∀ k, conN s = some k → n = k) := by
        refine ⟨?_, fun k hk => ?_⟩
        · rw [Bool.eq_iff_iff]
          constructor
          · intro h
            have h1 : s.toList = 99 :: Lib.itoa n := by simpa using h
            have h2 : s.data.toList = 99 :: Lib.itoa n := by rw [← ByteArray.toList_eq]; exact h1
            by_cases hneg : n < 0
            · rw [Lib.itoa, if_pos hneg] at h2
              exact (neg_name hn h2).elim
            · rw [Lib.itoa, if_neg hneg] at h2
              rw [conN_is (k := n.toNat) (by omega) h2]; rfl
          · intro h
            obtain ⟨k, hk⟩ := Option.isSome_iff_exists.1 h
            have h1 := con_tail hc0 hk
            rw [HA.out] at h1
            obtain ⟨h2, h3⟩ := conN_some hk
            have h4 : n = (k : Int) := Option.some.inj h1
            have h5 : s.toList = 99 :: Lib.itoa n := by rw [ByteArray.toList_eq, h3, h4]; simp [Lib.itoa]
            simpa using h5
        · have h1 := con_tail hc0 hk
          rw [HA.out] at h1
          exact Option.some.inj h1
      clear hc0
      go_wp2_with fail
      go_ret2
      exact ⟨⟨n, by rw [← HCE.out.1]; rfl, HCE.out.2⟩, HB2.out⟩
    · have HC : Hid (conN s = none) := by
        cases hc : conN s with
        | none => rfl
        | some k =>
          have h1 := con_tail hc0 hc
          rw [HA.out] at h1
          have h4 : n = (k : Int) := Option.some.inj h1
          have := (conN_some hc).1
          omega
      go_wp2_with fail
      go_ret2
      exact ⟨⟨n, by rw [HC.out]; rfl, fun k hk => by rw [HC.out] at hk; cases hk⟩, HB1.out⟩
end Go.Proofs.YtclobmmdlhianaaGreatDoor
