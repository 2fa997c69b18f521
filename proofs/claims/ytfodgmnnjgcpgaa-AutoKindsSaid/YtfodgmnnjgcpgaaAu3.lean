/- Walks: states, sets of them. -/
import Derived.Test.YtfodgmnnjgcpgaaAu2
import Derived.Laws.BitsAllLaws
namespace Go.Proofs.Ytfodgmnnjgcpgaa
open Go.RowKit
set_option linter.unusedSimpArgs false
set_option linter.unusedVariables false
set_option maxRecDepth 8000

theorem okSt_take {n : Int} {zs : List Int} {k : Nat} (h : k < zs.length) (hk : okSt n (zs.take k) = true) (h1 : 0 ≤ zs[k] ∧ zs[k] < n) : okSt n (zs.take (k + 1)) = true := by
  rw [List.take_succ_eq_append_getElem h]
  unfold okSt at *
  rw [List.all_append, hk]
  simp
  exact h1
theorem okSt_bad {n : Int} {zs : List Int} {k : Nat} (h : k < zs.length) (h1 : ¬ (0 ≤ zs[k] ∧ zs[k] < n)) : okSt n zs = false := by
  rw [Bool.eq_false_iff]
  intro h2
  exact h1 (okSt_mem h2 _ (List.getElem_mem h))
set_option maxHeartbeats 400000 in
theorem areStates_any (n : Int) (zs : List Int) (v : Value) (w : World) (X : Nat → Prop) (hv : PV w X v zs) :
    Calls Try.prog 69 #[.int .i64 n, v] w fun e w' => e = .returned (.bool (okSt n zs)) ∧ Below w.heap.size w w' := by
  obtain ⟨a, c, rfl, hl, _⟩ := id hv
  have HV := hide hv
  clear hv
  go_enter Try.func69, Try.ntmps69
  go_wp2_with fail
  go_loopw [9] (fun i wr => ∃ k : Nat, k ≤ zs.length ∧ i = .int .i64 (k : Int) ∧ okSt n (zs.take k) = true ∧ wr = w) (fun i wr => zs.length - (intOf i).toNat)
  case atStart => exact ⟨0, Nat.zero_le _, rfl, by simp [okSt], rfl⟩
  case round =>
    obtain ⟨k, hk, rfl, hok, rfl⟩ := hrel
    have HOK := hide hok
    clear hok
    by_cases hlt : k < zs.length
    · have hki : (k : Int) < (zs.length : Int) := by omega
      obtain ⟨b, o, rfl, hb, hc⟩ := HV.out.at (Below.refl wr.heap.size wr) k hlt
      obtain ⟨z, hz⟩ : ∃ z, z = zs[k] := ⟨_, rfl⟩
      have HZ := hide hz
      rw [← hz] at hc
      clear hz
      by_cases h1 : z < 0
      · have HB : Hid (okSt n zs = false) := okSt_bad hlt (by rw [← HZ.out]; omega)
        go_wp2_with fail
        go_ret
        exact ⟨by rw [HB.out]; rfl, Below.refl _ _⟩
      · by_cases h2 : n ≤ z
        · have HB : Hid (okSt n zs = false) := okSt_bad hlt (by rw [← HZ.out]; omega)
          go_wp2_with fail
          go_ret
          exact ⟨by rw [HB.out]; rfl, Below.refl _ _⟩
        · have HB : Hid (okSt n (zs.take (k + 1)) = true) := okSt_take hlt HOK.out (by rw [← HZ.out]; omega)
          go_wp2_with fail
          go_roundw
          case rel => exact ⟨k + 1, by omega, by go_num, HB.out, trivial⟩
          case measure => simp [intOf]; omega
    · have hki : ¬ (k : Int) < (zs.length : Int) := by omega
      have HB : Hid (okSt n zs = true) := by unfold Hid; rw [show zs = zs.take k by rw [List.take_of_length_le (by omega)]]; exact HOK.out
      go_wp2_with fail
      go_ret
      exact ⟨by rw [HB.out]; rfl, Below.refl _ _⟩

theorem bit_and (x s : Nat) (hx : x < 18446744073709551616) : (bits BinOp.and IntKind.u64 ((x : Int) / 2 ^ s) 1 != 0) = x.testBit s := by
  have h1 : ((x : Int) / 2 ^ s) = ((x / 2 ^ s : Nat) : Int) := by simp
  have h2 : x / 2 ^ s < 18446744073709551616 := Nat.lt_of_le_of_lt (Nat.div_le_self _ _) hx
  have h3 : bits BinOp.and IntKind.u64 ((x / 2 ^ s : Nat) : Int) ((1 : Nat) : Int) = ((x / 2 ^ s &&& 1 : Nat) : Int) := u64_and_nat _ _ h2 (by omega)
  rw [h1]
  rw [show (1 : Int) = ((1 : Nat) : Int) from rfl, h3, Nat.testBit, Nat.shiftRight_eq_div_pow, Nat.and_comm]
  cases h : (1 &&& x / 2 ^ s) with
  | zero => simp
  | succ n => simp; omega
set_option maxHeartbeats 400000 in
theorem has_any (x s : Nat) (hs : s < 64) (hx : x < 18446744073709551616) (w : World) :
    Calls Try.prog 76 #[.int .u64 (x : Int), .int .i64 (s : Int)] w fun e w' => e = .returned (.bool (x.testBit s)) ∧ w' = w := by
  have HB := hide (bit_and x s hx)
  go_enter Try.func76, Try.ntmps76
  go_wp2_with fail
  rw [HB.out]
  go_ret
  exact ⟨rfl, rfl⟩

/-- The set of these states. -/
def setN (zs : List Int) : Nat := zs.foldl (fun x z => x ||| 2 ^ z.toNat) 0
theorem setN_snoc (zs : List Int) (z : Int) : setN (zs ++ [z]) = setN zs ||| 2 ^ z.toNat := by simp [setN]
theorem setN_bit (zs : List Int) (h : ∀ z ∈ zs, 0 ≤ z) (s : Nat) : (setN zs).testBit s = decide ((s : Int) ∈ zs) := by
  have key : ∀ (zs : List Int) (x : Nat), (∀ z ∈ zs, 0 ≤ z) → (zs.foldl (fun x z => x ||| 2 ^ z.toNat) x).testBit s = (x.testBit s || decide ((s : Int) ∈ zs)) := by
    intro zs
    induction zs with
    | nil => intro x _; simp
    | cons z r ih =>
      intro x hz
      have hz0 := hz z (by simp)
      rw [List.foldl_cons, ih _ (fun y hy => hz y (List.mem_cons_of_mem _ hy)), Nat.testBit_or, Nat.testBit_two_pow]
      rw [Bool.or_assoc]
      congr 1
      by_cases e : (s : Int) = z
      · have : z.toNat = s := by omega
        simp [e, this]
      · have : z.toNat ≠ s := by omega
        simp [e, this]
  have := key zs 0 h
  simpa [setN] using this
theorem setN_lt (zs : List Int) (h : ∀ z ∈ zs, z < 64) : setN zs < 18446744073709551616 := by
  have key : ∀ (zs : List Int) (x : Nat), x < 2 ^ 64 → (∀ z ∈ zs, z < 64) → zs.foldl (fun x z => x ||| 2 ^ z.toNat) x < 2 ^ 64 := by
    intro zs
    induction zs with
    | nil => intro x hx _; exact hx
    | cons z r ih =>
      intro x hx hz
      refine ih _ (Nat.or_lt_two_pow hx ?_) (fun y hy => hz y (List.mem_cons_of_mem _ hy))
      exact Nat.pow_lt_pow_right (by omega) (by have := hz z (by simp); omega)
  exact key zs 0 (by decide) h
theorem setN_step (x s : Nat) (hx : x < 18446744073709551616) (hs : s < 64) : bits BinOp.or IntKind.u64 (x : Int) (IntKind.u64.wrap (2 ^ s)) = ((x ||| 2 ^ s : Nat) : Int) := by
  have h2 : 2 ^ s < 18446744073709551616 := Nat.pow_lt_pow_right (n := 64) (by omega) hs
  have h1 : IntKind.u64.wrap (2 ^ s) = ((2 ^ s : Nat) : Int) := by
    have h3 : (2 : Int) ^ s = ((2 ^ s : Nat) : Int) := by simp
    rw [h3, IntKind.wrap_u64]
    generalize 2 ^ s = y at *
    omega
  rw [h1]
  exact u64_or_nat _ _ hx h2
set_option maxHeartbeats 400000 in
theorem setOf_any (zs : List Int) (hz : ∀ z ∈ zs, 0 ≤ z ∧ z < 64) (v : Value) (w : World) (X : Nat → Prop) (hv : PV w X v zs) :
    Calls Try.prog 30 #[v] w fun e w' => e = .returned (.int .u64 (setN zs : Int)) ∧ w' = w := by
  obtain ⟨a, c, rfl, hl, _⟩ := id hv
  have HV := hide hv
  have HZ := hide hz
  clear hv hz
  go_enter Try.func30, Try.ntmps30
  go_wp2_with fail
  go_loopw [3, 8] (fun q i wr => ∃ k : Nat, k ≤ zs.length ∧ i = .int .i64 (k : Int) ∧ q = .int .u64 (setN (zs.take k) : Int) ∧ wr = w) (fun q i wr => zs.length - (intOf i).toNat)
  case atStart => exact ⟨0, Nat.zero_le _, rfl, rfl, rfl⟩
  case round =>
    obtain ⟨k, hk, rfl, rfl, rfl⟩ := hrel
    by_cases hlt : k < zs.length
    · have hki : (k : Int) < (zs.length : Int) := by omega
      obtain ⟨b, o, rfl, hb, hc⟩ := HV.out.at (Below.refl wr.heap.size wr) k hlt
      have h9 := HZ.out zs[k] (List.getElem_mem hlt)
      obtain ⟨s, hs⟩ : ∃ s : Nat, zs[k] = (s : Int) := ⟨zs[k].toNat, by omega⟩
      have HN : Hid (setN (zs.take (k + 1)) = setN (zs.take k) ||| 2 ^ s) := by
        unfold Hid
        rw [List.take_succ_eq_append_getElem hlt, setN_snoc, hs]
        simp
      rw [hs] at hc h9
      have HL := hide (setN_lt (zs.take k) (fun z hz => (HZ.out z (List.mem_of_mem_take hz)).2))
      generalize setN (zs.take k) = x at *
      have HST := hide (setN_step x s HL.out (by omega))
      clear hs
      go_wp2_with fail
      rw [HST.out]
      go_roundw
      case rel => exact ⟨k + 1, by omega, by go_num, by rw [HN.out], trivial⟩
      case measure => simp [intOf]; omega
    · have hki : ¬ (k : Int) < (zs.length : Int) := by omega
      have HB : Hid (zs.take k = zs) := List.take_of_length_le (by omega)
      go_wp2_with fail
      go_ret
      exact ⟨by rw [HB.out]; rfl, rfl⟩
end Go.Proofs.Ytfodgmnnjgcpgaa
