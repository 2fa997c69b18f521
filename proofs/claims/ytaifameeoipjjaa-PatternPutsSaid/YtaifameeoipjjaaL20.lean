/- Walks: where a lambda term can step; how often what is bound is used. -/
import Derived.Test.YtaifameeoipjjaaL5
namespace Go.Proofs.Ytaifameeoipjjaa
open Go.RowKit
set_option linter.unusedSimpArgs false
set_option linter.unusedVariables false
set_option maxRecDepth 8000

theorem ret_boolM {a b : Bool} (h : a = b) : Ending.returned (.bool a) = .returned (.bool b) := by rw [h]
/-- Each knot has as many below it as its kind asks. -/
def ShM : List Lm → Prop
  | [] => True
  | ⟨k, _, l⟩ :: r => l.length = subsK k ∧ ShM l ∧ ShM r
theorem ShM_nil : ShM [] := by simp [ShM]
theorem ShM_cons (k x : Int) (l r : List Lm) : ShM (⟨k, x, l⟩ :: r) ↔ l.length = subsK k ∧ ShM l ∧ ShM r := by simp [ShM]
theorem ShM.at : ∀ {l : List Lm} (k : Nat) (h : k < l.length), ShM l → ShM [l[k]]
  | [], k, h, _ => by simp at h
  | ⟨s, x, l⟩ :: r, 0, h, hb => by
    rw [ShM_cons] at hb
    exact (ShM_cons s x l []).2 ⟨hb.1, hb.2.1, ShM_nil⟩
  | ⟨s, x, l⟩ :: r, k + 1, h, hb => by
    rw [ShM_cons] at hb
    have := ShM.at (l := r) k (by simpa using h) hb.2.2
    simpa using this
/-- Is there a step at this knot? -/
def rdxT (t : Lm) : Bool := decide (t.kind = 3) && (match t.subs with | [] => false | y :: _ => decide (y.kind = 2))
/-- Is there a step somewhere? -/
def stepM : List Lm → Bool
  | [] => false
  | ⟨k, x, l⟩ :: r => rdxT ⟨k, x, l⟩ || stepM l || stepM r
theorem stepM_append (a b : List Lm) : stepM (a ++ b) = (stepM a || stepM b) := by
  induction a with
  | nil => simp [stepM]
  | cons t r ih => obtain ⟨k, x, l⟩ := t; simp only [List.cons_append, stepM, ih, Bool.or_assoc]
theorem stepM_take (l : List Lm) (k : Nat) (h : k < l.length) : stepM (l.take (k + 1)) = (stepM (l.take k) || stepM [l[k]]) := by
  rw [List.take_succ_eq_append_getElem h, stepM_append]
theorem stepM_of {l : List Lm} {k : Nat} (h : k < l.length) (hs : stepM [l[k]] = true) : stepM l = true := by
  have h1 := stepM_append (l.take (k + 1)) (l.drop (k + 1))
  rw [List.take_append_drop, stepM_take l k h, hs] at h1
  simpa using h1
theorem stepM_one (k x : Int) (l : List Lm) : stepM [⟨k, x, l⟩] = (rdxT ⟨k, x, l⟩ || stepM l) := by simp [stepM]
/-- How often what is bound is used. -/
def usesM : Int → List Lm → Nat
  | _, [] => 0
  | i, ⟨k, x, l⟩ :: r => (if k = 1 then (if x = i then 1 else 0) else usesM (deepK i k) l) + usesM i r
theorem usesM_append (i : Int) (a b : List Lm) : usesM i (a ++ b) = usesM i a + usesM i b := by
  induction a with
  | nil => simp [usesM]
  | cons t r ih => obtain ⟨k, x, l⟩ := t; simp only [List.cons_append, usesM, ih]; omega
theorem usesM_take (i : Int) (l : List Lm) (k : Nat) (h : k < l.length) : usesM i (l.take (k + 1)) = usesM i (l.take k) + usesM i [l[k]] := by
  rw [List.take_succ_eq_append_getElem h, usesM_append]
theorem usesM_le (l : List Lm) : ∀ i, usesM i l ≤ sizeM l := by
  induction l using Lm.indL with
  | h0 => intro i; simp [usesM]
  | h k x l r ihl ihr =>
    intro i
    have h1 := ihl (deepK i k)
    have h2 := ihr i
    rw [usesM, sizeM]
    split
    · split <;> omega
    · omega

set_option maxHeartbeats 1000000 in
theorem isRedex_any (t : Lm) (v : Value) (w : World) (X : Nat → Prop) (hv : MV w X v t) (h3 : t.kind = 3 → t.subs ≠ []) :
    Calls Try.prog 25 #[v] w fun e w' => e = .returned (.bool (rdxT t)) ∧ Below w.heap.size w w' := by
  obtain ⟨kd, ix, l⟩ := t
  obtain ⟨a, c, rfl, hs⟩ := hv
  have HB0 : Hid (Below w.heap.size w (w.alloc (.cells #[.int .i64 kd, .int .i64 ix, .slice a l.length c] 24))) := (Below.refl _ _).alloc (Nat.le_refl _) _
  have hl9 := hs.1
  by_cases k3 : kd = 3
  · subst k3
    cases l with
    | nil => exact absurd rfl (h3 rfl)
    | cons y r =>
      obtain ⟨b, o, a', c', rfl, d0, d0', d1, hx⟩ := hs.get HB0.out (fun _ _ h => h) 0 (by simp)
      simp only [Nat.zero_mul, Nat.add_zero, List.getElem_cons_zero, List.length_cons] at d0
      have HR : Hid (decide (y.kind = 2) = rdxT ⟨3, ix, y :: r⟩) := by unfold Hid rdxT; simp
      clear hx d0' d1 h3 hs
      by_cases hy : y.kind = 2
      · have HY : Hid (true = rdxT ⟨3, ix, y :: r⟩) := by unfold Hid; rw [← HR.out, hy]; rfl
        rw [hy] at d0
        clear hy HR
        go_enter Try.func25, Try.ntmps25
        go_wp2_with fail
        go_ret
        exact ⟨ret_boolM HY.out, HB0.out⟩
      · have HY : Hid (false = rdxT ⟨3, ix, y :: r⟩) := by unfold Hid; rw [← HR.out]; simp [hy]
        have hy2 : (y.kind == 2) = false := by simpa using hy
        clear hy HR
        go_enter Try.func25, Try.ntmps25
        go_wp2_with fail
        go_ret
        exact ⟨ret_boolM HY.out, HB0.out⟩
  · have e3 : (kd == 3) = false := by simpa using k3
    have HR : Hid (false = rdxT ⟨kd, ix, l⟩) := by unfold Hid rdxT; simp [k3]
    go_enter Try.func25, Try.ntmps25
    go_wp2_with fail
    go_ret
    exact ⟨ret_boolM HR.out, HB0.out⟩
set_option maxHeartbeats 1000000 in
theorem hasStep_any (t : Lm) : ∀ (v : Value) (w : World) (X : Nat → Prop), MV w X v t → ShM [t] →
    Calls Try.prog 13 #[v] w fun e w' => e = .returned (.bool (stepM [t])) ∧ Below w.heap.size w w' := by
  induction t using Lm.ind with
  | h kd ix l ih =>
    intro v w X hv hsh
    obtain ⟨a, c, rfl, hs⟩ := hv
    have IH := hide ih
    have HS := hide hs
    have hl9 := hs.1
    rw [ShM_cons] at hsh
    obtain ⟨hn, hsh, _⟩ := hsh
    have HSH := hide hsh
    have HN3 : Hid (kd = 3 → l ≠ []) := fun h e => by rw [e, h] at hn; simp [subsK] at hn
    clear ih hs hsh hn
    have HB0 : Hid (Below w.heap.size w (w.alloc (.cells #[.int .i64 kd, .int .i64 ix, .slice a l.length c] 24))) := (Below.refl _ _).alloc (Nat.le_refl _) _
    have HT0 := hide (Blk.new w #[.int .i64 kd, .int .i64 ix, .slice a l.length c] 24)
    go_enter Try.func13, Try.ntmps13
    go_wp2_with fail
    refine (isRedex_any ⟨kd, ix, l⟩ _ _ X ⟨a, c, rfl, HS.out.later HB0.out⟩ HN3.out).mono ?_
    rintro e w1 ⟨rfl, hb1⟩
    have HB1 := hide (HB0.out.trans (hb1.mono (by simp)))
    have HT1 := hide (HT0.out.below hb1 HT0.out.lt)
    clear hb1 HB0 HT0
    cases hr : rdxT ⟨kd, ix, l⟩ with
    | true =>
      have HZ : Hid (true = stepM [⟨kd, ix, l⟩]) := by unfold Hid; rw [stepM_one, hr]; rfl
      clear hr
      go_wp2_with fail
      go_ret
      exact ⟨ret_boolM HZ.out, HB1.out⟩
    | false =>
      have HZ : Hid (stepM [⟨kd, ix, l⟩] = stepM l) := by unfold Hid; rw [stepM_one, hr]; rfl
      clear hr
      go_wp2_with fail
      go_loopw [3] (fun i wr => ∃ k : Nat, k ≤ l.length ∧ i = .int .i64 (k : Int) ∧ stepM (l.take k) = false ∧ Below w.heap.size w wr ∧ Blk wr w.heap.size #[.int .i64 kd, .int .i64 ix, .slice a l.length c] 24) (fun i wr => l.length - (intOf i).toNat)
      case atStart => exact ⟨0, Nat.zero_le _, rfl, by simp [stepM], HB1.out, HT1.out⟩
      case round =>
        obtain ⟨k, hk, rfl, he, hb, hT⟩ := hrel
        have HEK := hide he
        have HBK := hide hb
        have HTK := hide hT
        have hsz : w.heap.size ≤ wr.heap.size := hb.size
        have t0 : wr.cell? ⟨w.heap.size, 0, none⟩ = some (.int .i64 kd) := hT.cell 0
        have t1 : wr.cell? ⟨w.heap.size, 1, none⟩ = some (.int .i64 ix) := hT.cell 1
        have t2 : wr.cell? ⟨w.heap.size, 2, none⟩ = some (.slice a l.length c) := hT.cell 2
        by_cases hlt : k < l.length
        · obtain ⟨b, o, a', c', rfl, d0, d0', d1, hx⟩ := HS.out.get hb (fun _ _ h => h) k hlt
          have hlt2 : (k : Int) < (l.length : Int) := by omega
          have HX := hide hx
          clear hx he hb hT
          go_wp2_with fail
          refine (IH.out _ (List.getElem_mem hlt) _ _ X HX.out (ShM.at k hlt HSH.out)).mono ?_
          rintro e w2 ⟨rfl, hb2⟩
          have HB2 : Hid (Below w.heap.size w w2) := HBK.out.trans (hb2.mono hsz)
          have HT2 := hide (HTK.out.below hb2 HTK.out.lt)
          clear hb2
          cases hst : stepM [l[k]] with
          | true =>
            have HZ2 : Hid (true = stepM [⟨kd, ix, l⟩]) := by unfold Hid; rw [HZ.out, stepM_of hlt hst]
            clear hst
            go_wp2_with fail
            go_ret
            exact ⟨ret_boolM HZ2.out, HB2.out⟩
          | false =>
            have HST := hide hst
            clear hst
            go_wp2_with fail
            go_roundw
            case rel => exact ⟨k + 1, by omega, by go_num, by rw [stepM_take l k hlt, HEK.out, HST.out]; rfl, HB2.out, HT2.out⟩
            case measure => simp [intOf]; omega
        · have htk : l.take k = l := List.take_of_length_le (by omega)
          have hge : ¬ ((k : Int) < (l.length : Int)) := by omega
          have HZ2 : Hid (false = stepM [⟨kd, ix, l⟩]) := by unfold Hid; rw [HZ.out, ← htk, HEK.out]
          go_wp2_with fail
          go_ret
          exact ⟨ret_boolM HZ2.out, HBK.out⟩
end Go.Proofs.Ytaifameeoipjjaa
