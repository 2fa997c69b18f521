/- Several texts in one. -/
import Derived.Test.YtfodgmnnjgcpgaaRows
import Derived.Test.YtfodgmnnjgcpgaaTm
/- Walks: letters, digits, names. -/
namespace Go.Proofs.Ytfodgmnnjgcpgaa
open Go.RowKit
set_option linter.unusedSimpArgs false
set_option linter.unusedVariables false

def digB (n : Int) : Bool := decide (48 ≤ n) && decide (n ≤ 57)
def capB (n : Int) : Bool := decide (65 ≤ n) && decide (n ≤ 90)
def lowB (n : Int) : Bool := decide (97 ≤ n) && decide (n ≤ 122)
def letB (n : Int) : Bool := lowB n || capB n
def alnB (n : Int) : Bool := letB n || digB n

theorem ret_bool {a b : Bool} (h : a = b) : Ending.returned (.bool a) = .returned (.bool b) := by rw [h]

set_option maxHeartbeats 400000 in
theorem isDigit_any (n : Int) (w : World) : Calls Try.prog 91 #[.int .u8 n] w fun e w' => e = .returned (.bool (digB n)) ∧ w' = w := by
  go_enter Try.func91, Try.ntmps91
  go_wp2_with fail
  all_goals (go_ret; refine ⟨ret_bool ?_, rfl⟩; rw [Bool.eq_iff_iff]; simp [alnB, letB, lowB, capB, digB] <;> omega)

set_option maxHeartbeats 400000 in
theorem isCapital_any (n : Int) (w : World) : Calls Try.prog 87 #[.int .u8 n] w fun e w' => e = .returned (.bool (capB n)) ∧ w' = w := by
  go_enter Try.func87, Try.ntmps87
  go_wp2_with fail
  all_goals (go_ret; refine ⟨ret_bool ?_, rfl⟩; rw [Bool.eq_iff_iff]; simp [alnB, letB, lowB, capB, digB] <;> omega)

set_option maxHeartbeats 400000 in
theorem isLetter_any (n : Int) (w : World) : Calls Try.prog 92 #[.int .u8 n] w fun e w' => e = .returned (.bool (letB n)) ∧ w' = w := by
  go_enter Try.func92, Try.ntmps92
  go_wp2_with (go_at_call 87; refine (isCapital_any _ _).mono ?_; rintro e w' ⟨rfl, rfl⟩)
  all_goals (go_ret; refine ⟨ret_bool ?_, rfl⟩; rw [Bool.eq_iff_iff]; simp [alnB, letB, lowB, capB, digB] <;> omega)

set_option maxHeartbeats 400000 in
theorem isLetterR_any (n : Int) (w : World) : Calls Try.prog 51 #[.int .u8 n] w fun e w' => e = .returned (.bool (alnB n)) ∧ w' = w := by
  go_enter Try.func51, Try.ntmps51
  go_wp2_with fail
  all_goals (go_ret; refine ⟨ret_bool ?_, rfl⟩; rw [Bool.eq_iff_iff]; simp [alnB, letB, lowB, capB, digB] <;> omega)
end Go.Proofs.Ytfodgmnnjgcpgaa

/- Walks: which texts are names, and which of them are variables'. -/
namespace Go.Proofs.Ytfodgmnnjgcpgaa
open Go.RowKit
set_option linter.unusedSimpArgs false
set_option linter.unusedVariables false

def byteAt (s : ByteArray) (i : Nat) : Int := if h : i < s.size then (s[i].toNat : Int) else 0
theorem byteAt_of {s : ByteArray} {i : Nat} (h : i < s.size) : (s[i].toNat : Int) = byteAt s i := by simp [byteAt, h]
def varB (s : ByteArray) : Bool := capB (byteAt s 0)
def alnTo (s : ByteArray) (k : Nat) : Bool := (List.range k).all fun i => alnB (byteAt s i)
def nameB (s : ByteArray) : Bool := decide (1 ≤ s.size) && decide (s.size ≤ 8) && !digB (byteAt s 0) && alnTo s s.size

theorem isEmpty_pos {s : ByteArray} (h : 0 < s.size) : s.toList.isEmpty = false := by
  rw [ByteArray.toList_eq, List.isEmpty_eq_false_iff, ← List.length_pos_iff]
  simpa using h
theorem isEmpty_zero {s : ByteArray} (h : ¬ 0 < s.size) : s.toList.isEmpty = true := by
  rw [ByteArray.toList_eq, List.isEmpty_iff, ← List.length_eq_zero_iff]
  have : s.size = 0 := by omega
  simpa using this
theorem alnTo_succ (s : ByteArray) (k : Nat) : alnTo s (k + 1) = (alnTo s k && alnB (byteAt s k)) := by
  simp [alnTo, List.range_succ, List.all_append]
theorem alnTo_false {s : ByteArray} {k n : Nat} (h : k ≤ n) (hf : alnTo s k = false) : alnTo s n = false := by
  cases hn : alnTo s n with
  | false => rfl
  | true =>
    rw [← hf]; symm
    unfold alnTo at hn ⊢
    rw [List.all_eq_true] at hn ⊢
    intro x hx; exact hn x (by rw [List.mem_range] at hx ⊢; omega)
set_option maxHeartbeats 400000 in
theorem isVarR_any (s : ByteArray) (w : World) : Calls Try.prog 23 #[.string s] w fun e w' => e = .returned (.bool (varB s)) ∧ w' = w := by
  by_cases h : 0 < s.size
  · have hb := hide (byteAt_of h)
    have he := isEmpty_pos h
    go_enter Try.func23, Try.ntmps23
    go_wp2_with fail
    all_goals (go_ret; refine ⟨ret_bool ?_, rfl⟩; have hb' := hb.out; rw [Bool.eq_iff_iff]; simp [varB, capB] <;> omega)
  · have he := isEmpty_zero h
    have hv : Hid (false = varB s) := by simp [Hid, varB, byteAt, h, capB]
    go_enter Try.func23, Try.ntmps23
    go_wp2_with fail
    go_ret
    exact ⟨ret_bool hv.out, rfl⟩

set_option maxHeartbeats 400000 in
theorem isVariable_all (s : ByteArray) (w : World) : Calls Try.prog 73 #[.string s] w fun e w' => e = .returned (.bool (varB s)) ∧ w' = w := by
  by_cases h : 0 < s.size
  · have hb := hide (byteAt_of h)
    have he := isEmpty_pos h
    go_enter Try.func73, Try.ntmps73
    go_wp2_with (go_at_call 87; refine (isCapital_any _ _).mono ?_; rintro e w' ⟨rfl, rfl⟩)
    go_ret
    refine ⟨ret_bool ?_, rfl⟩
    rw [hb.out]; rfl
  · have he := isEmpty_zero h
    have hv : Hid (false = varB s) := by simp [Hid, varB, byteAt, h, capB]
    go_enter Try.func73, Try.ntmps73
    go_wp2_with fail
    go_ret
    exact ⟨ret_bool hv.out, rfl⟩
theorem nameB_no {s : ByteArray} {k : Nat} (hk : k < s.size) (h : alnB (byteAt s k) = false) : nameB s = false := by
  have h1 : alnTo s (k + 1) = false := by rw [alnTo_succ, h]; simp
  have h2 := alnTo_false (n := s.size) (by omega) h1
  simp [nameB, h2]

set_option maxHeartbeats 400000 in
theorem isName_any (s : ByteArray) (w : World) : Calls Try.prog 84 #[.string s] w fun e w' => e = .returned (.bool (nameB s)) ∧ w' = w := by
  by_cases h0 : s.size < 1
  · have hn : Hid (false = nameB s) := by simp [Hid, nameB]; omega
    go_enter Try.func84, Try.ntmps84
    go_wp2_with fail
    go_ret
    exact ⟨ret_bool hn.out, rfl⟩
  · by_cases h8 : 8 < s.size
    · have hn : Hid (false = nameB s) := by simp [Hid, nameB]; omega
      go_enter Try.func84, Try.ntmps84
      go_wp2_with fail
      all_goals (go_ret; exact ⟨ret_bool hn.out, rfl⟩)
    · have hb := hide (byteAt_of (s := s) (i := 0) (by omega))
      by_cases hd : digB (byteAt s 0) = true
      · have hn : Hid (false = nameB s) := by simp [Hid, nameB, hd]
        have hd' := hide hd
        clear hd
        go_enter Try.func84, Try.ntmps84
        go_wp2_with (go_at_call 91; refine (isDigit_any _ _).mono ?_; rintro e w' ⟨rfl, rfl⟩; rw [hb.out, hd'.out])
        all_goals (go_ret; exact ⟨ret_bool hn.out, rfl⟩)
      · have hd' : Hid (digB (byteAt s 0) = false) := by simpa [Hid] using hd
        clear hd
        go_enter Try.func84, Try.ntmps84
        go_wp2_with (go_at_call 91; refine (isDigit_any _ _).mono ?_; rintro e w' ⟨rfl, rfl⟩; rw [hb.out, hd'.out])
        go_loop [19] (fun i => ∃ k : Nat, k ≤ s.size ∧ i = .int .i64 k ∧ alnTo s k = true) (fun i => s.size - (intOf i).toNat)
        case atStart => exact ⟨0, Nat.zero_le _, rfl, rfl⟩
        case round =>
          obtain ⟨k, hk, rfl, ha⟩ := hrel
          have HA := hide ha
          clear ha
          by_cases hlt : k < s.size
          · have hbk := hide (byteAt_of hlt)
            have hsuc := hide (alnTo_succ s k)
            cases hl : letB (byteAt s k) with
            | true =>
              have HL := hide hl
              clear hl
              go_wp2_with (go_at_call 92; refine (isLetter_any _ _).mono ?_; rintro e w' ⟨rfl, rfl⟩; rw [hbk.out, HL.out])
              go_round
              case rel => exact ⟨k + 1, by omega, by go_num, by rw [hsuc.out, HA.out, alnB, HL.out]; rfl⟩
              case measure => simp [intOf]; omega
            | false =>
              have HL := hide hl
              clear hl
              cases hg : digB (byteAt s k) with
              | true =>
                have HG := hide hg
                clear hg
                go_wp2_with (first | (go_at_call 92; refine (isLetter_any _ _).mono ?_; rintro e w' ⟨rfl, rfl⟩; rw [hbk.out, HL.out]) | (go_at_call 91; refine (isDigit_any _ _).mono ?_; rintro e w' ⟨rfl, rfl⟩; rw [hbk.out, HG.out]))
                go_round
                case rel => exact ⟨k + 1, by omega, by go_num, by rw [hsuc.out, HA.out, alnB, HL.out, HG.out]; rfl⟩
                case measure => simp [intOf]; omega
              | false =>
                have HG := hide hg
                clear hg
                go_wp2_with (first | (go_at_call 92; refine (isLetter_any _ _).mono ?_; rintro e w' ⟨rfl, rfl⟩; rw [hbk.out, HL.out]) | (go_at_call 91; refine (isDigit_any _ _).mono ?_; rintro e w' ⟨rfl, rfl⟩; rw [hbk.out, HG.out]))
                go_ret
                exact ⟨ret_bool (nameB_no hlt (by rw [alnB, HL.out, HG.out]; rfl)).symm, rfl⟩
          · have hn : Hid (true = nameB s) := by
              have e : k = s.size := by omega
              have := HA.out
              rw [e] at this
              simp [Hid, nameB, this, hd'.out]; omega
            go_wp2_with fail
            go_ret
            exact ⟨ret_bool hn.out, rfl⟩

set_option maxHeartbeats 400000 in
theorem isNameR_any (s : ByteArray) (w : World) : Calls Try.prog 22 #[.string s] w fun e w' => e = .returned (.bool (nameB s)) ∧ w' = w := by
  by_cases h0 : 0 < s.size
  · have he := isEmpty_pos h0
    have hb := hide (byteAt_of h0)
    by_cases h8 : 8 < s.size
    · have hn : Hid (false = nameB s) := by simp [Hid, nameB]; omega
      go_enter Try.func22, Try.ntmps22
      go_wp2_with fail
      all_goals (go_ret; exact ⟨ret_bool hn.out, rfl⟩)
    · cases hd : digB (byteAt s 0) with
      | true =>
        have hn : Hid (false = nameB s) := by simp [Hid, nameB, hd]
        have hd1 : 48 ≤ (s[0].toNat : Int) := by rw [hb.out]; simp [digB] at hd; exact hd.1
        have hd2 : (s[0].toNat : Int) ≤ 57 := by rw [hb.out]; simp [digB] at hd; exact hd.2
        clear hd
        go_enter Try.func22, Try.ntmps22
        go_wp2_with fail
        all_goals (go_ret; exact ⟨ret_bool hn.out, rfl⟩)
      | false =>
        have HD := hide hd
        clear hd
        have hor : (s[0].toNat : Int) < 48 ∨ (48 ≤ (s[0].toNat : Int) ∧ 57 < (s[0].toNat : Int)) := by
          have := HD.out; rw [hb.out]; simp [digB] at this; omega
        rcases hor with h1 | ⟨h1, h2⟩
        all_goals
          go_enter Try.func22, Try.ntmps22
          go_wp2_with fail
          go_loop [3] (fun i => ∃ k : Nat, k ≤ s.size ∧ i = .int .i64 k ∧ alnTo s k = true) (fun i => s.size - (intOf i).toNat)
          case atStart => exact ⟨0, Nat.zero_le _, rfl, rfl⟩
          case round =>
            obtain ⟨k, hk, rfl, ha⟩ := hrel
            have HA := hide ha
            clear ha
            by_cases hlt : k < s.size
            · have hbk := hide (byteAt_of hlt)
              have hsuc := hide (alnTo_succ s k)
              cases hl : alnB (byteAt s k) with
              | true =>
                have HL := hide hl
                clear hl
                go_wp2_with (go_at_call 51; refine (isLetterR_any _ _).mono ?_; rintro e w' ⟨rfl, rfl⟩; rw [hbk.out, HL.out])
                go_round
                case rel => exact ⟨k + 1, by omega, by go_num, by rw [hsuc.out, HA.out, HL.out]; rfl⟩
                case measure => simp [intOf]; omega
              | false =>
                have HL := hide hl
                clear hl
                go_wp2_with (go_at_call 51; refine (isLetterR_any _ _).mono ?_; rintro e w' ⟨rfl, rfl⟩; rw [hbk.out, HL.out])
                go_ret
                exact ⟨ret_bool (nameB_no hlt HL.out).symm, rfl⟩
            · have hn : Hid (true = nameB s) := by
                have e : k = s.size := by omega
                have := HA.out
                rw [e] at this
                simp [Hid, nameB, this, HD.out]; omega
              go_wp2_with fail
              go_ret
              exact ⟨ret_bool hn.out, rfl⟩
  · have he := isEmpty_zero h0
    have hn : Hid (false = nameB s) := by simp [Hid, nameB]; omega
    go_enter Try.func22, Try.ntmps22
    go_wp2_with fail
    all_goals (go_ret; exact ⟨ret_bool hn.out, rfl⟩)
end Go.Proofs.Ytfodgmnnjgcpgaa
