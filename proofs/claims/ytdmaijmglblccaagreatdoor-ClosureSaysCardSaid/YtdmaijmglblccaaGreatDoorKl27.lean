/- Walks: one kind becomes another one's (ClosureOf's join). -/
import Derived.Test.YtdmaijmglblccaaGreatDoorKl25
namespace Go.Proofs.YtdmaijmglblccaaGreatDoor
open Go.RowKit
set_option linter.unusedSimpArgs false
set_option linter.unusedVariables false
set_option maxRecDepth 8000

/-- The kinds in memory. -/
structure KdA (B G n : Nat) (K : List Nat) (w : World) : Prop where
  bx : Blk w B #[.slice (some ⟨G, 0, none⟩) n n] 45
  rw_ : Blk w G (iL K).toArray 3
  len : K.length = n
  ne : B ≠ G
theorem KdA.later {B G n : Nat} {K : List Nat} {w w' : World} (h : KdA B G n K w) (hb : Below w.heap.size w w') : KdA B G n K w' := ⟨h.bx.below hb h.bx.lt, h.rw_.below hb h.rw_.lt, h.len, h.ne⟩
theorem iL_get {K : List Nat} {i : Nat} (h : i < K.length) : (iL K)[i]? = some (.int .i64 ((gd K 0 i : Nat) : Int)) := by
  unfold iL
  rw [List.getElem?_map, List.getElem?_eq_getElem h, gd_get h]
  rfl
theorem KdA.cell {B G n : Nat} {K : List Nat} {w : World} (h : KdA B G n K w) {i : Nat} (hi : i < n) : w.cell? ⟨G, i, none⟩ = some (.int .i64 ((gd K 0 i : Nat) : Int)) := by
  rw [h.rw_.cell i, List.getElem?_toArray, iL_get (by rw [h.len]; exact hi)]
theorem KdA.box {B G n : Nat} {K : List Nat} {w : World} (h : KdA B G n K w) : w.cell? ⟨B, 0, none⟩ = some (.slice (some ⟨G, 0, none⟩) n n) := h.bx.cell 0
theorem iL_set (K : List Nat) (i x : Nat) : iL (K.set i x) = (iL K).set i (.int .i64 (x : Int)) := by
  unfold iL
  rw [List.map_set]
theorem KdA.put {B G n : Nat} {K : List Nat} {w : World} (h : KdA B G n K w) (i x : Nat) : KdA B G n (K.set i x) (w.setCell ⟨G, i, none⟩ (.int .i64 (x : Int))) :=
  ⟨h.bx.setOther _ _ h.ne, by
    have := h.rw_.set i (.int .i64 (x : Int))
    rw [iL_set]
    simpa using this, by rw [List.length_set, h.len], h.ne⟩
/-- The first ones are changed. -/
def jnP (f : Nat → Nat) (K : List Nat) (i : Nat) : List Nat := (K.take i).map f ++ K.drop i
theorem jnP_at {f : Nat → Nat} {K : List Nat} {i : Nat} (h : i < K.length) : gd (jnP f K i) 0 i = gd K 0 i := by
  unfold jnP gd
  rw [List.getElem?_append_right (by simp; omega)]
  simp
  congr 2
  omega
theorem jnP_set {f : Nat → Nat} {K : List Nat} {i : Nat} (h : i < K.length) : (jnP f K i).set i (f (gd K 0 i)) = jnP f K (i + 1) := by
  unfold jnP
  rw [List.take_succ_eq_append_getElem h, List.map_append, List.map_singleton, List.append_assoc, List.singleton_append, List.set_append_right _ _ (by simp; omega)]
  have e : i - ((K.take i).map f).length = 0 := by simp; omega
  rw [e, List.drop_eq_getElem_cons h, List.set_cons_zero, gd_get h]
theorem jnP_skip {f : Nat → Nat} {K : List Nat} {i : Nat} (h : i < K.length) (hf : f (gd K 0 i) = gd K 0 i) : jnP f K (i + 1) = jnP f K i := by
  unfold jnP
  rw [List.take_succ_eq_append_getElem h, List.map_append, List.map_singleton, List.append_assoc, List.singleton_append]
  rw [gd_get h] at hf
  rw [hf, ← List.drop_eq_getElem_cons h]
theorem jnP_zero (f : Nat → Nat) (K : List Nat) : jnP f K 0 = K := by simp [jnP]
theorem jnP_end (f : Nat → Nat) (K : List Nat) : jnP f K K.length = K.map f := by simp [jnP]
def JkP (B G n : Nat) (K : List Nat) (a b : Nat) (w : World) (e : Ending) (w' : World) : Prop :=
  e = .returned (.bool (decide (gd K 0 a ≠ gd K 0 b))) ∧ KdA B G n (joK K a b) w' ∧ ExQ (fun q => q = G) w w'
set_option maxHeartbeats 4000000 in
theorem joinK_any {B G n : Nat} {K : List Nat} {w : World} (h : KdA B G n K w) {a b : Nat} (ha : a < n) (hb : b < n) (hn : n ≤ 1000000) :
    Calls Tryz.prog 44 #[.int .i64 (a : Int), .int .i64 (b : Int), .pointer (some ⟨B, 0, none⟩)] w (JkP B G n K a b w) := by
  have c0 := h.box
  have c1 := h.cell ha
  have c2 := h.cell hb
  have hai : (a : Int) < (n : Int) := by omega
  have hbi : (b : Int) < (n : Int) := by omega
  have HH := hide h
  have HL := hide h.len
  obtain ⟨x, hx⟩ : ∃ x, x = gd K 0 a := ⟨_, rfl⟩
  obtain ⟨y, hy⟩ : ∃ y, y = gd K 0 b := ⟨_, rfl⟩
  have HX := hide hx
  have HY := hide hy
  rw [← hx] at c1
  rw [← hy] at c2
  clear h hx hy
  go_enter Tryz.func44, Tryz.ntmps44
  by_cases hxy : x = y
  · have hxi : (x : Int) = (y : Int) := by omega
    have HQ : Hid (JkP B G n K a b w (.returned (.bool false)) w) := by
      have e : gd K 0 a = gd K 0 b := by rw [← HX.out, ← HY.out]; exact hxy
      refine ⟨by rw [e]; simp, ?_, ExQ.refl _ _⟩
      unfold joK
      rw [if_pos e]
      exact HH.out
    clear hxy
    go_wp2_with fail
    go_ret
    exact HQ.out
  · have hxi : ¬ (x : Int) = (y : Int) := by omega
    have HNE : Hid (¬ gd K 0 a = gd K 0 b) := by unfold Hid; rw [← HX.out, ← HY.out]; exact hxy
    have HF : Hid (joK K a b = K.map fun c => if c = x then y else c) := by
      unfold Hid joK
      rw [if_neg HNE.out, ← HX.out, ← HY.out]
    clear hxy
    obtain ⟨f, hf⟩ : ∃ f : Nat → Nat, f = fun c => if c = x then y else c := ⟨_, rfl⟩
    rw [← hf] at HF
    have HFF := hide hf
    clear hf
    go_wp2_with fail
    clear c0 c1 c2
    go_loopw [8] (fun o wr => ∃ i : Nat, o = .int .i64 (i : Int) ∧ i ≤ n ∧ KdA B G n (jnP f K i) wr ∧ ExQ (fun q => q = G) w wr) (fun o wr => n - (intOf o).toNat)
    case atStart => exact ⟨0, rfl, Nat.zero_le _, by rw [jnP_zero]; exact HH.out, ExQ.refl _ _⟩
    case round =>
      obtain ⟨i, rfl, hi, hk, hex⟩ := hrel
      have HK := hide hk
      have HEX := hide hex
      have c0 := hk.box
      clear hk hex
      by_cases hlt : i < n
      · have hii : (i : Int) < (n : Int) := by omega
        have c1 := HK.out.cell hlt
        have hil : i < K.length := by rw [HL.out]; exact hlt
        rw [jnP_at hil] at c1
        have HSE := hide (jnP_set (f := f) hil)
        have HSK := hide (jnP_skip (f := f) hil)
        clear hil
        obtain ⟨z, hz⟩ : ∃ z, z = gd K 0 i := ⟨_, rfl⟩
        rw [← hz] at c1 HSE HSK
        clear hz
        by_cases hzx : z = x
        · have hzi : (z : Int) = (x : Int) := by omega
          have HFZ : Hid (f z = y) := by unfold Hid; rw [HFF.out]; exact if_pos hzx
          rw [HFZ.out] at HSE
          have HKN : Hid (KdA B G n (jnP f K (i + 1)) (wr.setCell ⟨G, i, none⟩ (.int .i64 (y : Int)))) := by unfold Hid; rw [← HSE.out]; exact HK.out.put i y
          have HEN : Hid (ExQ (fun q => q = G) w (wr.setCell ⟨G, i, none⟩ (.int .i64 (y : Int)))) := HEX.out.set rfl _ _
          have tf := HK.out.rw_.frozen i
          have tl := HK.out.rw_.lt
          clear hzx
          go_wp2_with fail
          go_roundw
          case rel => exact ⟨i + 1, by go_num, by omega, HKN.out, HEN.out⟩
          case measure => simp [intOf]; omega
        · have hzi : ¬ (z : Int) = (x : Int) := by omega
          have HFZ : Hid (f z = z) := by unfold Hid; rw [HFF.out]; exact if_neg hzx
          have HKN : Hid (KdA B G n (jnP f K (i + 1)) wr) := by unfold Hid; rw [HSK.out HFZ.out]; exact HK.out
          clear hzx
          go_wp2_with fail
          go_roundw
          case rel => exact ⟨i + 1, by go_num, by omega, HKN.out, HEX.out⟩
          case measure => simp [intOf]; omega
      · have hii : ¬ (i : Int) < (n : Int) := by omega
        have HKE : Hid (KdA B G n (joK K a b) wr) := by
          have h1 := HK.out
          rw [show i = K.length by rw [HL.out]; omega, jnP_end] at h1
          unfold Hid
          rw [HF.out]
          exact h1
        go_wp2_with fail
        go_ret
        exact ⟨by rw [decide_eq_true HNE.out]; rfl, HKE.out, HEX.out⟩
end Go.Proofs.YtdmaijmglblccaaGreatDoor
