/- Walks: pattern.checkPut and pattern.Put. -/
import Derived.Test.YtaifameeoipjjaaPt3
namespace Go.Proofs.Ytaifameeoipjjaa
open Go.RowKit
set_option linter.unusedSimpArgs false
set_option linter.unusedVariables false
set_option maxRecDepth 8000

/-- What is wrong first with the terms for the unknowns. -/
def wE : List Lm → Int
  | [] => 0
  | t :: r => if lamE 0 12 t = 0 then wE r else lamE 0 12 t
theorem wE_good : ∀ {W : List Lm} (k : Nat) (h : k < W.length), wE (W.take k) = 0 → lamE 0 12 W[k] = 0 → wE (W.take (k + 1)) = 0
  | t :: r, 0, _, _, h2 => by simp only [List.take_succ_cons, List.take_zero, wE]; rw [if_pos (by simpa using h2)]
  | t :: r, k + 1, h, h1, h2 => by
    simp only [List.take_succ_cons, wE] at h1 ⊢
    split at h1
    · rename_i h0
      rw [if_pos h0]
      exact wE_good k (by simpa using h) h1 (by simpa using h2)
    · rename_i h0; exact absurd h1 h0
theorem wE_bad : ∀ {W : List Lm} (k : Nat) (h : k < W.length), wE (W.take k) = 0 → lamE 0 12 W[k] ≠ 0 → wE W = lamE 0 12 W[k]
  | t :: r, 0, _, _, h2 => by simp only [wE]; rw [if_neg (by simpa using h2)]; rfl
  | t :: r, k + 1, h, h1, h2 => by
    simp only [List.take_succ_cons, wE] at h1 ⊢
    split at h1
    · rename_i h0
      rw [if_pos h0]
      exact wE_bad k (by simpa using h) h1 (by simpa using h2)
    · rename_i h0; exact absurd h1 h0
theorem wE_all : ∀ {W : List Lm}, wE W = 0 → ∀ z ∈ W, lamE 0 12 z = 0
  | [], _, z, hz => by simp at hz
  | t :: r, h, z, hz => by
    simp only [wE] at h
    split at h
    · rename_i h0
      rcases List.mem_cons.1 hz with rfl | hz
      · exact h0
      · exact wE_all h z hz
    · rename_i h0; exact absurd h h0
def pputE (W : List Lm) (t : Lm) (z : Int) : Int :=
  if 4 < W.length then 3 else if wE W = 0 then (if lamE 0 W.length t = 0 then (if z < 0 ∨ 400 < z then 10 else 0) else lamE 0 W.length t) else wE W
theorem lamE_partsP {u m : Int} {t : Lm} (h : lamE u m t = 0) : errM u m [t] = 0 ∧ sizeM [t] ≤ 200 := by
  unfold lamE at h
  split at h
  · cases h
  · split at h
    · cases h
    · exact ⟨h, by omega⟩
def CpI (W : List Lm) (w : World) (T : Nat) (t : Lm) (a : Option Addr) (c : Nat) (o : Value) (wr : World) : Prop := ∃ k : Nat, k ≤ W.length ∧ o = .int .i64 (k : Int) ∧ wE (W.take k) = 0 ∧ Below w.heap.size w wr ∧ Blk wr T #[.int .i64 t.kind, .int .i64 t.idx, .slice a t.subs.length c] 24

set_option maxHeartbeats 2000000 in
theorem checkPut_any (W : List Lm) (wa : Option Addr) (wc : Nat) (t : Lm) (v : Value) (z : Int) (w : World) (X : Nat → Prop) (hv : MV w X v t) (hw : SlM w X wa W) :
    Calls Try.prog 19 #[v, .slice wa W.length wc, .int .i64 z] w fun e w' => e = .returned (.int .i64 (pputE W t z)) ∧ Below w.heap.size w w' := by
  obtain ⟨a, c, rfl, hs⟩ := hv
  have HS := hide hs
  have HW := hide hw
  have hwl := hw.1
  have T1 := hide (Blk.new w #[.int .i64 t.kind, .int .i64 t.idx, .slice a t.subs.length c] 24)
  have HB1 : Hid (Below w.heap.size w (w.alloc (.cells #[.int .i64 t.kind, .int .i64 t.idx, .slice a t.subs.length c] 24))) := (Below.refl _ _).alloc (Nat.le_refl _) _
  clear hs hw
  by_cases h4 : 4 < W.length
  · have h4i : (4 : Int) < (W.length : Int) := by omega
    have HZ : Hid (3 = pputE W t z) := by unfold Hid pputE; rw [if_pos h4]
    go_enter Try.func19, Try.ntmps19
    go_wp2_with fail
    go_ret
    exact ⟨ret_int HZ.out, HB1.out⟩
  · have h4i : ¬ (4 : Int) < (W.length : Int) := by omega
    go_enter Try.func19, Try.ntmps19
    go_wp2_with fail
    generalize (w.alloc (.cells #[.int .i64 t.kind, .int .i64 t.idx, .slice a t.subs.length c] 24)) = w1 at *
    obtain ⟨T, eT⟩ : ∃ T, T = w.heap.size := ⟨_, rfl⟩
    have T1' : Hid (Blk w1 T #[.int .i64 t.kind, .int .i64 t.idx, .slice a t.subs.length c] 24) := by rw [eT]; exact T1.out
    rw [← eT]
    have HTl := hide eT
    clear eT T1
    go_loopw [16] (fun o wr => CpI W w T t a c o wr) (fun o wr => W.length - (intOf o).toNat)
    case atStart => exact ⟨0, Nat.zero_le _, rfl, by simp [wE], HB1.out, T1'.out⟩
    case round =>
      obtain ⟨k, hk, rfl, he, hb, hT⟩ := hrel
      have HEK := hide he
      have HBK := hide hb
      have HTK := hide hT
      clear he hT
      have hsz : w.heap.size ≤ wr.heap.size := hb.size
      by_cases hlt : k < W.length
      · obtain ⟨b, o, a', c', rfl, d0, d0', d1, hx⟩ := (HW.out.mono (Y := fun b => X b ∧ b < w.heap.size) fun b h1 h2 => ⟨h1, h2⟩).get hb (fun b h _ => h.2) k hlt
        have HX := hide hx
        have HT2 := hide (HTK.out.alloc (.cells #[.int .i64 W[k].kind, .int .i64 W[k].idx, .slice a' W[k].subs.length c'] 24))
        clear hb hx
        go_wp2_with fail
        refine (checkM_any W[k] _ _ _ _ _ (HX.out.alloc _)).mono ?_
        rintro e w2 ⟨rfl, hb2⟩
        have HB2 : Hid (Below w.heap.size w w2) := (HBK.out.alloc hsz _).trans (hb2.mono (by simp; omega))
        have HT3 := hide (HT2.out.below hb2 HT2.out.lt)
        clear hb2
        by_cases hez : lamE 0 12 W[k] = 0
        · have HZ := hide hez
          rw [hez]
          clear hez
          go_wp2_with fail
          go_roundw
          case rel => exact ⟨k + 1, by omega, by go_num, wE_good k hlt HEK.out HZ.out, HB2.out, HT3.out⟩
          case measure => simp [intOf]; omega
        · have h1 : (lamE 0 12 W[k] == 0) = false := by simpa using hez
          have h2 : (lamE 0 12 W[k] != 0) = true := by simpa using hez
          have HZ : Hid (lamE 0 12 W[k] = pputE W t z) := by
            unfold Hid pputE
            rw [if_neg h4, if_neg (by rw [wE_bad k hlt HEK.out hez]; exact hez), wE_bad k hlt HEK.out hez]
          go_wp2_with fail
          go_ret
          exact ⟨ret_int HZ.out, HB2.out⟩
      · have htk : W.take k = W := List.take_of_length_le (by omega)
        have hge : ¬ ((k : Int) < (W.length : Int)) := by omega
        have HWE : Hid (wE W = 0) := by unfold Hid; rw [← htk]; exact HEK.out
        have HMV : Hid (MV wr (fun b => X b ∧ b < w.heap.size) (.agg #[.int .i64 t.kind, .int .i64 t.idx, .slice a t.subs.length c]) t) := ⟨a, c, rfl, (HS.out.mono (Y := fun b => X b ∧ b < w.heap.size) fun b h1 h2 => ⟨h1, h2⟩).below HBK.out (fun b h _ => h.2)⟩
        have c0 : wr.cell? ⟨T, 0, none⟩ = some (.int .i64 t.kind) := HTK.out.cell 0
        have c1 : wr.cell? ⟨T, 1, none⟩ = some (.int .i64 t.idx) := HTK.out.cell 1
        have c2 : wr.cell? ⟨T, 2, none⟩ = some (.slice a t.subs.length c) := HTK.out.cell 2
        clear htk hb
        go_wp2_with fail
        refine (checkM_any t _ _ _ _ _ HMV.out).mono ?_
        rintro e w2 ⟨rfl, hb2⟩
        have HB2 := hide (HBK.out.trans (hb2.mono HBK.out.size))
        clear hb2 c0 c1 c2
        by_cases hez : lamE 0 (W.length : Int) t = 0
        · have HE0 : Hid (pputE W t z = if z < 0 ∨ 400 < z then 10 else 0) := by unfold Hid pputE; rw [if_neg h4, if_pos HWE.out, if_pos hez]
          rw [hez]
          clear hez
          by_cases hz0 : z < 0
          · have HZ : Hid (10 = pputE W t z) := by unfold Hid; rw [HE0.out, if_pos (Or.inl hz0)]
            go_wp2_with fail
            go_ret
            exact ⟨ret_int HZ.out, HB2.out⟩
          · by_cases hz4 : 400 < z
            · have HZ : Hid (10 = pputE W t z) := by unfold Hid; rw [HE0.out, if_pos (Or.inr hz4)]
              go_wp2_with fail
              go_ret
              exact ⟨ret_int HZ.out, HB2.out⟩
            · have HZ : Hid (0 = pputE W t z) := by unfold Hid; rw [HE0.out, if_neg (by omega)]
              go_wp2_with fail
              go_ret
              exact ⟨ret_int HZ.out, HB2.out⟩
        · have h1 : (lamE 0 (W.length : Int) t == 0) = false := by simpa using hez
          have h2 : (lamE 0 (W.length : Int) t != 0) = true := by simpa using hez
          have HZ : Hid (lamE 0 (W.length : Int) t = pputE W t z) := by unfold Hid pputE; rw [if_neg h4, if_pos HWE.out, if_neg hez]
          go_wp2_with fail
          go_ret
          exact ⟨ret_int HZ.out, HB2.out⟩
end Go.Proofs.Ytaifameeoipjjaa
