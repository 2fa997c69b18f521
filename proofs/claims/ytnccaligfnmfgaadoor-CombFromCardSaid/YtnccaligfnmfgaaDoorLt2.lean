/- Walks: a number's decimals, as the document writes them. -/
import Derived.Test.YtnccaligfnmfgaaDoorW17
import Derived.Test.YtnccaligfnmfgaaDoorLt1
import Derived.Laws.IdiomStrings
import Derived.Deep.RegionHeld
namespace Go.Proofs.YtnccaligfnmfgaaDoor
open Go.RowKit
set_option linter.unusedSimpArgs false
set_option linter.unusedVariables false
set_option maxRecDepth 8000

theorem dec_small {n : Nat} (h : n < 10) : Lib.decDigits n = [UInt8.ofNat (48 + n)] := by rw [Lib.decDigits, dif_pos h]
theorem dec_great {n : Nat} (h : ¬ n < 10) : Lib.decDigits n = Lib.decDigits (n / 10) ++ Lib.decDigits (n % 10) := by
  conv => lhs; rw [Lib.decDigits, dif_neg h]
  rw [dec_small (n := n % 10) (by omega)]

theorem ret_strL {a b : ByteArray} (h : a.data.toList = b.data.toList) : Ending.returned (.string a) = .returned (.string b) := by
  have : a = b := by
    obtain ⟨⟨x⟩⟩ := a; obtain ⟨⟨y⟩⟩ := b; simp at h; rw [h]
  rw [this]

set_option maxHeartbeats 1000000 in
theorem dec_any (n : Nat) : n ≤ 1000000 → ∀ (w : World), Calls Tryd.prog 12 #[.int .i64 n] w fun e w' => e = .returned (.string ⟨(Lib.decDigits n).toArray⟩) ∧ Below w.heap.size w w' := by
  induction n using Nat.strongRecOn with
  | ind n ih =>
    intro hn w
    by_cases h : n < 10
    · have HD := hide (dec_small h)
      generalize Lib.decDigits n = D at HD ⊢
      have h' : (n : Int) < 10 := by omega
      have hw2 : 48 + (n : Int) = ((UInt8.ofNat (48 + n)).toNat : Int) := by
        have : (UInt8.ofNat (48 + n)).toNat = 48 + n := by simp; omega
        rw [this]; omega
      have hcv : (convert 45 9 (.slice (some ⟨w.heap.size, 0, none⟩) 1 1)).run Tryd.prog (w.alloc (.cells #[.int .u8 (48 + (n : Int))] 5)) = .ok (.string ⟨([UInt8.ofNat (48 + n)]).toArray⟩) (w.alloc (.cells #[.int .u8 (48 + (n : Int))] 5)) :=
        run_convert_bytes_back _ 45 9 5 ⟨w.heap.size, 0, none⟩ 1 [UInt8.ofNat (48 + n)] Tryd.underlying45 Tryd.underlying5 Tryd.underlying9 (fun j hj => by
          have hj0 : j = 0 := by simp at hj; exact hj
          subst hj0
          have := (Blk.new w #[.int .u8 (48 + (n : Int))] 5).cell 0
          rw [hw2] at this
          rw [hw2]
          exact this)
      clear hw2
      go_enter Tryd.func12, Tryd.ntmps12
      go_wp2_with fail
      go_ret
      exact ⟨ret_strL (by rw [HD.out]; simp [UInt8.ofNat_add]), (Below.refl _ _).alloc (Nat.le_refl _) _⟩
    · have IH := hide ih
      have HD := hide (dec_great h)
      clear ih
      have h' : ¬ (n : Int) < 10 := by omega
      have e1 : (n : Int) / 10 = ((n / 10 : Nat) : Int) := by omega
      have e2 : (n : Int) % 10 = ((n % 10 : Nat) : Int) := by omega
      have E1 := hide e1
      have E2 := hide e2
      clear e1 e2
      generalize Lib.decDigits n = D at HD ⊢
      go_enter Tryd.func12, Tryd.ntmps12
      go_wp2_with fail
      rw [E1.out]
      refine (IH.out (n / 10) (by omega) (by omega) _).mono ?_
      rintro e w1 ⟨rfl, hb1⟩
      go_wp2_with fail
      rw [E2.out]
      refine (IH.out (n % 10) (by omega) (by omega) _).mono ?_
      rintro e w2 ⟨rfl, hb2⟩
      have HB2 : Hid (Below w.heap.size w w2) := hb1.trans (hb2.mono hb1.size)
      clear hb1 hb2
      have l1 : (Lib.decDigits (n / 10)).length ≤ 1000001 := by have := dec_len (n / 10); omega
      have l2 : (Lib.decDigits (n % 10)).length ≤ 1000001 := by have := dec_len (n % 10); omega
      go_wp2_with fail
      go_ret
      exact ⟨ret_strL (by rw [HD.out]; simp), HB2.out⟩
end Go.Proofs.YtnccaligfnmfgaaDoor
