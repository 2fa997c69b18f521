/- Walks: may a lambda term be? -/
import Derived.Test.YtnccaligfnmfgaaDoorL1
import Derived.Test.YtnccaligfnmfgaaDoorZCombFromOwn
namespace Go.Proofs.YtnccaligfnmfgaaDoor
open Go.RowKit
set_option linter.unusedSimpArgs false
set_option linter.unusedVariables false
set_option maxRecDepth 8000

/-- How many stand below a knot of a kind. -/
def subsK (k : Int) : Nat := if k = 2 then 1 else if k = 3 then 2 else 0
/-- What its number is below, with u binders around it and m unknowns. -/
def mostK (u m k : Int) : Int := if k = 1 then u else if k = 4 then 40 else if k = 5 then m else 1
/-- The binders around what stands below it. -/
def deepK (u k : Int) : Int := if k = 2 then u + 1 else u
/-- What is wrong with a knot. -/
def knE (u m k x : Int) (n : Nat) : Int := if k < 1 ∨ 5 < k then 2 else if n ≠ subsK k then 2 else if x < 0 ∨ mostK u m k ≤ x then 15 else 0
/-- What is wrong first. -/
def errM : Int → Int → List Lm → Int
  | _, _, [] => 0
  | u, m, ⟨k, x, l⟩ :: r => if knE u m k x l.length = 0 then (if errM (deepK u k) m l = 0 then errM u m r else errM (deepK u k) m l) else knE u m k x l.length
theorem errM_cons (u m : Int) (t : Lm) (r : List Lm) : errM u m (t :: r) = if errM u m [t] = 0 then errM u m r else errM u m [t] := by
  obtain ⟨k, x, l⟩ := t
  simp only [errM]
  split
  · split <;> simp_all
  · simp_all
theorem errM_append (u m : Int) (a b : List Lm) : errM u m (a ++ b) = if errM u m a = 0 then errM u m b else errM u m a := by
  induction a with
  | nil => simp [errM]
  | cons t r ih =>
    rw [List.cons_append, errM_cons, errM_cons u m t r, ih]
    by_cases h : errM u m [t] = 0 <;> simp [h]
theorem errM_take (u m : Int) (l : List Lm) (k : Nat) (h : k < l.length) : errM u m (l.take (k + 1)) = if errM u m (l.take k) = 0 then errM u m [l[k]] else errM u m (l.take k) := by
  rw [List.take_succ_eq_append_getElem h, errM_append]
theorem errM_of_take {u m : Int} {l : List Lm} {k : Nat} (h : errM u m (l.take k) ≠ 0) : errM u m l = errM u m (l.take k) := by
  have := errM_append u m (l.take k) (l.drop k)
  rw [List.take_append_drop, if_neg h] at this
  exact this
theorem errM_good {u m kd ix : Int} {l : List Lm} (h : knE u m kd ix l.length = 0) : errM u m [⟨kd, ix, l⟩] = errM (deepK u kd) m l := by
  simp only [errM, h, if_true]
  by_cases h0 : errM (deepK u kd) m l = 0 <;> simp [h0]
theorem errM_bad {u m kd ix : Int} {l : List Lm} (h : knE u m kd ix l.length ≠ 0) : errM u m [⟨kd, ix, l⟩] = knE u m kd ix l.length := by
  simp [errM, h]
/-- May a lambda term be, under so many binders? -/
def lamE (u m : Int) (t : Lm) : Int := if u < 0 ∨ 40 < u then 10 else if 200 < sizeM [t] then 3 else errM u m [t]

set_option maxHeartbeats 1000000 in
theorem checkKnot_any (kd ix u m : Int) (a : Option Addr) (n c : Nat) (w : World) (hn : n ≤ 9223372036854775807) :
    Calls Tryd.prog 36 #[.agg #[.int .i64 kd, .int .i64 ix, .slice a n c], .int .i64 u, .int .i64 m] w fun e w' => e = .returned (.int .i64 (knE u m kd ix n)) ∧ Below w.heap.size w w' := by
  have HB : Hid (Below w.heap.size w (w.alloc (.cells #[.int .i64 kd, .int .i64 ix, .slice a n c] 24))) := (Below.refl _ _).alloc (Nat.le_refl _) _
  by_cases k1 : kd = 1
  case pos =>
    subst k1
    by_cases hl : n = 0
    case pos =>
      subst hl
      by_cases hi : ix < 0
      · have HE : Hid (knE u m 1 ix 0 = 15) := by unfold Hid knE mostK subsK; simp [hi]
        go_enter Tryd.func36, Tryd.ntmps36
        go_wp2_with fail
        go_ret
        exact ⟨ret_int HE.out.symm, HB.out⟩
      · by_cases hj : (u : Int) ≤ ix
        · have HE : Hid (knE u m 1 ix 0 = 15) := by unfold Hid knE mostK subsK; simp [hi, hj]
          go_enter Tryd.func36, Tryd.ntmps36
          go_wp2_with fail
          go_ret
          exact ⟨ret_int HE.out.symm, HB.out⟩
        · have HE : Hid (knE u m 1 ix 0 = 0) := by unfold Hid knE mostK subsK; simp [hi, hj]
          go_enter Tryd.func36, Tryd.ntmps36
          go_wp2_with fail
          go_ret
          exact ⟨ret_int HE.out.symm, HB.out⟩
    case neg =>
      have HE : Hid (knE u m 1 ix n = 2) := by unfold Hid knE mostK subsK; simp [hl]
      have hl2 : ¬ (n : Int) = 0 := by omega
      have hl3 : ((n : Int) != 0) = true := by simpa using hl2
      clear hl
      go_enter Tryd.func36, Tryd.ntmps36
      go_wp2_with fail
      go_ret
      exact ⟨ret_int HE.out.symm, HB.out⟩
  case neg =>
    by_cases k2 : kd = 2
    case pos =>
      subst k2
      by_cases hl : n = 1
      case pos =>
        subst hl
        by_cases hi : ix < 0
        · have HE : Hid (knE u m 2 ix 1 = 15) := by unfold Hid knE mostK subsK; simp [hi]
          go_enter Tryd.func36, Tryd.ntmps36
          go_wp2_with fail
          go_ret
          exact ⟨ret_int HE.out.symm, HB.out⟩
        · by_cases hj : (1 : Int) ≤ ix
          · have HE : Hid (knE u m 2 ix 1 = 15) := by unfold Hid knE mostK subsK; simp [hi, hj]
            go_enter Tryd.func36, Tryd.ntmps36
            go_wp2_with fail
            go_ret
            exact ⟨ret_int HE.out.symm, HB.out⟩
          · have HE : Hid (knE u m 2 ix 1 = 0) := by unfold Hid knE mostK subsK; simp [hi, hj]
            go_enter Tryd.func36, Tryd.ntmps36
            go_wp2_with fail
            go_ret
            exact ⟨ret_int HE.out.symm, HB.out⟩
      case neg =>
        have HE : Hid (knE u m 2 ix n = 2) := by unfold Hid knE mostK subsK; simp [hl]
        have hl2 : ¬ (n : Int) = 1 := by omega
        have hl3 : ((n : Int) != 1) = true := by simpa using hl2
        clear hl
        go_enter Tryd.func36, Tryd.ntmps36
        go_wp2_with fail
        go_ret
        exact ⟨ret_int HE.out.symm, HB.out⟩
    case neg =>
      by_cases k3 : kd = 3
      case pos =>
        subst k3
        by_cases hl : n = 2
        case pos =>
          subst hl
          by_cases hi : ix < 0
          · have HE : Hid (knE u m 3 ix 2 = 15) := by unfold Hid knE mostK subsK; simp [hi]
            go_enter Tryd.func36, Tryd.ntmps36
            go_wp2_with fail
            go_ret
            exact ⟨ret_int HE.out.symm, HB.out⟩
          · by_cases hj : (1 : Int) ≤ ix
            · have HE : Hid (knE u m 3 ix 2 = 15) := by unfold Hid knE mostK subsK; simp [hi, hj]
              go_enter Tryd.func36, Tryd.ntmps36
              go_wp2_with fail
              go_ret
              exact ⟨ret_int HE.out.symm, HB.out⟩
            · have HE : Hid (knE u m 3 ix 2 = 0) := by unfold Hid knE mostK subsK; simp [hi, hj]
              go_enter Tryd.func36, Tryd.ntmps36
              go_wp2_with fail
              go_ret
              exact ⟨ret_int HE.out.symm, HB.out⟩
        case neg =>
          have HE : Hid (knE u m 3 ix n = 2) := by unfold Hid knE mostK subsK; simp [hl]
          have hl2 : ¬ (n : Int) = 2 := by omega
          have hl3 : ((n : Int) != 2) = true := by simpa using hl2
          clear hl
          go_enter Tryd.func36, Tryd.ntmps36
          go_wp2_with fail
          go_ret
          exact ⟨ret_int HE.out.symm, HB.out⟩
      case neg =>
        by_cases k4 : kd = 4
        case pos =>
          subst k4
          by_cases hl : n = 0
          case pos =>
            subst hl
            by_cases hi : ix < 0
            · have HE : Hid (knE u m 4 ix 0 = 15) := by unfold Hid knE mostK subsK; simp [hi]
              go_enter Tryd.func36, Tryd.ntmps36
              go_wp2_with fail
              go_ret
              exact ⟨ret_int HE.out.symm, HB.out⟩
            · by_cases hj : (40 : Int) ≤ ix
              · have HE : Hid (knE u m 4 ix 0 = 15) := by unfold Hid knE mostK subsK; simp [hi, hj]
                go_enter Tryd.func36, Tryd.ntmps36
                go_wp2_with fail
                go_ret
                exact ⟨ret_int HE.out.symm, HB.out⟩
              · have HE : Hid (knE u m 4 ix 0 = 0) := by unfold Hid knE mostK subsK; simp [hi, hj]
                go_enter Tryd.func36, Tryd.ntmps36
                go_wp2_with fail
                go_ret
                exact ⟨ret_int HE.out.symm, HB.out⟩
          case neg =>
            have HE : Hid (knE u m 4 ix n = 2) := by unfold Hid knE mostK subsK; simp [hl]
            have hl2 : ¬ (n : Int) = 0 := by omega
            have hl3 : ((n : Int) != 0) = true := by simpa using hl2
            clear hl
            go_enter Tryd.func36, Tryd.ntmps36
            go_wp2_with fail
            go_ret
            exact ⟨ret_int HE.out.symm, HB.out⟩
        case neg =>
          by_cases k5 : kd = 5
          case pos =>
            subst k5
            by_cases hl : n = 0
            case pos =>
              subst hl
              by_cases hi : ix < 0
              · have HE : Hid (knE u m 5 ix 0 = 15) := by unfold Hid knE mostK subsK; simp [hi]
                go_enter Tryd.func36, Tryd.ntmps36
                go_wp2_with fail
                go_ret
                exact ⟨ret_int HE.out.symm, HB.out⟩
              · by_cases hj : (m : Int) ≤ ix
                · have HE : Hid (knE u m 5 ix 0 = 15) := by unfold Hid knE mostK subsK; simp [hi, hj]
                  go_enter Tryd.func36, Tryd.ntmps36
                  go_wp2_with fail
                  go_ret
                  exact ⟨ret_int HE.out.symm, HB.out⟩
                · have HE : Hid (knE u m 5 ix 0 = 0) := by unfold Hid knE mostK subsK; simp [hi, hj]
                  go_enter Tryd.func36, Tryd.ntmps36
                  go_wp2_with fail
                  go_ret
                  exact ⟨ret_int HE.out.symm, HB.out⟩
            case neg =>
              have HE : Hid (knE u m 5 ix n = 2) := by unfold Hid knE mostK subsK; simp [hl]
              have hl2 : ¬ (n : Int) = 0 := by omega
              have hl3 : ((n : Int) != 0) = true := by simpa using hl2
              clear hl
              go_enter Tryd.func36, Tryd.ntmps36
              go_wp2_with fail
              go_ret
              exact ⟨ret_int HE.out.symm, HB.out⟩
          case neg =>
            have HE : Hid (knE u m kd ix n = 2) := by unfold Hid knE; rw [if_pos (by omega)]
            have e1 : (kd == 1) = false := by simpa using k1
            have e2 : (kd == 2) = false := by simpa using k2
            have e3 : (kd == 3) = false := by simpa using k3
            have e4 : (kd == 4) = false := by simpa using k4
            have e5 : (kd == 5) = false := by simpa using k5
            go_enter Tryd.func36, Tryd.ntmps36
            go_wp2_with fail
            go_ret
            exact ⟨ret_int HE.out.symm, HB.out⟩

def KnInv2 (u m : Int) (l : List Lm) (w : World) (o : Value) (wr : World) : Prop := ∃ k : Nat, k ≤ l.length ∧ o = .int .i64 (k : Int) ∧ errM u m (l.take k) = 0 ∧ Below w.heap.size w wr

set_option maxHeartbeats 1000000 in
theorem checkKnotsM_any (m : Int) (t : Lm) : ∀ (v : Value) (u : Int) (w : World) (X : Nat → Prop), MV w X v t → 0 ≤ u → u + sizeM [t] ≤ 1000000 →
    Calls Tryd.prog 29 #[v, .int .i64 u, .int .i64 m] w fun e w' => e = .returned (.int .i64 (errM u m [t])) ∧ Below w.heap.size w w' := by
  induction t using Lm.ind with
  | h kd ix l ih =>
    intro v u w X hv hu0 hu1
    obtain ⟨a, c, rfl, hs⟩ := hv
    have IH := hide ih
    clear ih
    have hl := hs.1
    have hz : sizeM [(⟨kd, ix, l⟩ : Lm)] = 1 + sizeM l := by simp [sizeM]
    rw [hz] at hu1
    clear hz
    have HB0 : Hid (Below w.heap.size w (w.alloc (.cells #[.int .i64 kd, .int .i64 ix, .slice a l.length c] 24))) := (Below.refl _ _).alloc (Nat.le_refl _) _
    have hT0 := Blk.new w #[.int .i64 kd, .int .i64 ix, .slice a l.length c] 24
    go_enter Tryd.func29, Tryd.ntmps29
    go_wp2_with fail
    refine (checkKnot_any kd ix u m a l.length c _ hl).mono ?_
    rintro e w1 ⟨rfl, hb1⟩
    have HB1 := hide (HB0.out.trans (hb1.mono (by simp)))
    have T1 := hide (hT0.below hb1 hT0.lt)
    have t0 : w1.cell? ⟨w.heap.size, 0, none⟩ = some (.int .i64 kd) := T1.out.cell 0
    have t1 : w1.cell? ⟨w.heap.size, 1, none⟩ = some (.int .i64 ix) := T1.out.cell 1
    have t2 : w1.cell? ⟨w.heap.size, 2, none⟩ = some (.slice a l.length c) := T1.out.cell 2
    clear hb1 hT0 HB0
    by_cases h0 : knE u m kd ix l.length = 0
    case neg =>
      have HE := hide (errM_bad h0)
      have h1 : (knE u m kd ix l.length == 0) = false := by simpa using h0
      have h2 : (knE u m kd ix l.length != 0) = true := by simpa using h0
      go_wp2_with fail
      go_ret
      exact ⟨ret_int HE.out.symm, HB1.out⟩
    case pos =>
      have HE := hide (errM_good h0)
      rw [h0]
      clear h0
      by_cases k2 : kd = 2
      case pos =>
        subst k2
        have HD : Hid (deepK u 2 = u + 1) := by unfold Hid deepK; rfl
        go_wp2_with fail
        go_loopw [26] (fun o wr => KnInv2 (u + 1) m l w o wr) (fun o wr => l.length - (intOf o).toNat)
        case atStart => exact ⟨0, Nat.zero_le _, rfl, by simp [errM], HB1.out⟩
        case round =>
          obtain ⟨k, hk, rfl, he, hb⟩ := hrel
          have HEK := hide he
          have HBK := hide hb
          clear he
          have hsz : w.heap.size ≤ wr.heap.size := hb.size
          by_cases hlt : k < l.length
          · obtain ⟨b, o, a', c', rfl, d0, d0', d1, hx⟩ := hs.get hb (fun _ _ h => h) k hlt
            have HT := hide (errM_take (u + 1) m l k hlt)
            have hzk : 1 + sizeM [l[k]] ≤ 1 + sizeM l := by
              have h1 := sizeM_take l k hlt
              have h2 := sizeM_take_le l (k + 1)
              omega
            clear hb
            go_wp2_with fail
            refine (IH.out _ (List.getElem_mem hlt) _ _ _ X (hx.alloc _) (by omega) (by omega)).mono ?_
            rintro e w2 ⟨rfl, hb2⟩
            have HB2 : Hid (Below w.heap.size w w2) := (HBK.out.alloc hsz _).trans (hb2.mono (by simp; omega))
            clear hb2
            by_cases hez : errM (u + 1) m [l[k]] = 0
            · have HZ := hide hez
              rw [hez]
              clear hez
              go_wp2_with fail
              go_roundw
              case rel => exact ⟨k + 1, by omega, by go_num, by rw [HT.out, HEK.out, HZ.out]; rfl, HB2.out⟩
              case measure => simp [intOf]; omega
            · have h1 : (errM (u + 1) m [l[k]] == 0) = false := by simpa using hez
              have h2 : (errM (u + 1) m [l[k]] != 0) = true := by simpa using hez
              have HZ : Hid (errM (u + 1) m [l[k]] = errM u m [(⟨2, ix, l⟩ : Lm)]) := by
                have h1 : errM (u + 1) m (l.take (k + 1)) = errM (u + 1) m [l[k]] := by rw [HT.out, HEK.out]; rfl
                unfold Hid
                rw [HE.out, HD.out, errM_of_take (l := l) (k := k + 1) (by rw [h1]; exact hez), h1]
              go_wp2_with fail
              go_ret
              exact ⟨ret_int HZ.out, HB2.out⟩
          · have htk : l.take k = l := List.take_of_length_le (by omega)
            have hge : ¬ ((k : Int) < (l.length : Int)) := by omega
            have HZ : Hid (0 = errM u m [(⟨2, ix, l⟩ : Lm)]) := by unfold Hid; rw [HE.out, HD.out, ← htk, HEK.out]
            go_wp2_with fail
            go_ret
            exact ⟨ret_int HZ.out, HBK.out⟩
      case neg =>
        have HD : Hid (deepK u kd = u) := by unfold Hid deepK; rw [if_neg k2]
        have e2 : (kd == 2) = false := by simpa using k2
        go_wp2_with fail
        go_loopw [26] (fun o wr => KnInv2 (u) m l w o wr) (fun o wr => l.length - (intOf o).toNat)
        case atStart => exact ⟨0, Nat.zero_le _, rfl, by simp [errM], HB1.out⟩
        case round =>
          obtain ⟨k, hk, rfl, he, hb⟩ := hrel
          have HEK := hide he
          have HBK := hide hb
          clear he
          have hsz : w.heap.size ≤ wr.heap.size := hb.size
          by_cases hlt : k < l.length
          · obtain ⟨b, o, a', c', rfl, d0, d0', d1, hx⟩ := hs.get hb (fun _ _ h => h) k hlt
            have HT := hide (errM_take (u) m l k hlt)
            have hzk : 1 + sizeM [l[k]] ≤ 1 + sizeM l := by
              have h1 := sizeM_take l k hlt
              have h2 := sizeM_take_le l (k + 1)
              omega
            clear hb
            go_wp2_with fail
            refine (IH.out _ (List.getElem_mem hlt) _ _ _ X (hx.alloc _) (by omega) (by omega)).mono ?_
            rintro e w2 ⟨rfl, hb2⟩
            have HB2 : Hid (Below w.heap.size w w2) := (HBK.out.alloc hsz _).trans (hb2.mono (by simp; omega))
            clear hb2
            by_cases hez : errM (u) m [l[k]] = 0
            · have HZ := hide hez
              rw [hez]
              clear hez
              go_wp2_with fail
              go_roundw
              case rel => exact ⟨k + 1, by omega, by go_num, by rw [HT.out, HEK.out, HZ.out]; rfl, HB2.out⟩
              case measure => simp [intOf]; omega
            · have h1 : (errM (u) m [l[k]] == 0) = false := by simpa using hez
              have h2 : (errM (u) m [l[k]] != 0) = true := by simpa using hez
              have HZ : Hid (errM (u) m [l[k]] = errM u m [(⟨kd, ix, l⟩ : Lm)]) := by
                have h1 : errM (u) m (l.take (k + 1)) = errM (u) m [l[k]] := by rw [HT.out, HEK.out]; rfl
                unfold Hid
                rw [HE.out, HD.out, errM_of_take (l := l) (k := k + 1) (by rw [h1]; exact hez), h1]
              go_wp2_with fail
              go_ret
              exact ⟨ret_int HZ.out, HB2.out⟩
          · have htk : l.take k = l := List.take_of_length_le (by omega)
            have hge : ¬ ((k : Int) < (l.length : Int)) := by omega
            have HZ : Hid (0 = errM u m [(⟨kd, ix, l⟩ : Lm)]) := by unfold Hid; rw [HE.out, HD.out, ← htk, HEK.out]
            go_wp2_with fail
            go_ret
            exact ⟨ret_int HZ.out, HBK.out⟩

set_option maxHeartbeats 1000000 in
theorem checkM_any (t : Lm) (v : Value) (u m : Int) (w : World) (X : Nat → Prop) (hv : MV w X v t) :
    Calls Tryd.prog 20 #[v, .int .i64 u, .int .i64 m] w fun e w' => e = .returned (.int .i64 (lamE u m t)) ∧ Below w.heap.size w w' := by
  obtain ⟨a, c, rfl, hs⟩ := hv
  have hv : MV w X (.agg #[.int .i64 t.kind, .int .i64 t.idx, .slice a t.subs.length c]) t := ⟨a, c, rfl, hs⟩
  have HB0 : Hid (Below w.heap.size w (w.alloc (.cells #[.int .i64 t.kind, .int .i64 t.idx, .slice a t.subs.length c] 24))) := (Below.refl _ _).alloc (Nat.le_refl _) _
  have hT0 := Blk.new w #[.int .i64 t.kind, .int .i64 t.idx, .slice a t.subs.length c] 24
  go_enter Tryd.func20, Tryd.ntmps20
  by_cases h1 : u < 0
  · have HE : Hid (lamE u m t = 10) := by unfold Hid lamE; rw [if_pos (Or.inl h1)]
    go_wp2_with fail
    go_ret
    exact ⟨ret_int HE.out.symm, HB0.out⟩
  by_cases h2 : 40 < u
  · have HE : Hid (lamE u m t = 10) := by unfold Hid lamE; rw [if_pos (Or.inr h2)]
    go_wp2_with fail
    go_ret
    exact ⟨ret_int HE.out.symm, HB0.out⟩
  go_wp2_with fail
  refine (countM_any 200 (by omega) (by omega) t _ _ X (hv.alloc _)).mono ?_
  rintro e w1 ⟨rfl, hb1⟩
  have HB1 := hide (HB0.out.trans (hb1.mono (by simp)))
  have T1 := hide (hT0.below hb1 hT0.lt)
  have t0 : w1.cell? ⟨w.heap.size, 0, none⟩ = some (.int .i64 t.kind) := T1.out.cell 0
  have t1 : w1.cell? ⟨w.heap.size, 1, none⟩ = some (.int .i64 t.idx) := T1.out.cell 1
  have t2 : w1.cell? ⟨w.heap.size, 2, none⟩ = some (.slice a t.subs.length c) := T1.out.cell 2
  clear hb1 hT0 HB0
  by_cases h3 : 200 < sizeM [t]
  · have HE : Hid (lamE u m t = 3) := by unfold Hid lamE; rw [if_neg (by omega), if_pos h3]
    have e : min (sizeM [t] : Int) (200 + 1) = 201 := by omega
    rw [e]
    go_wp2_with fail
    go_ret
    exact ⟨ret_int HE.out.symm, HB1.out⟩
  · have HE : Hid (lamE u m t = errM u m [t]) := by unfold Hid lamE; rw [if_neg (by omega), if_neg h3]
    have e : min (sizeM [t] : Int) (200 + 1) = sizeM [t] := by omega
    rw [e]
    have hle : ¬ (200 : Int) < (sizeM [t] : Int) := by omega
    go_wp2_with fail
    refine (checkKnotsM_any m t _ u _ X (hv.later HB1.out) (by omega) (by omega)).mono ?_
    rintro e w2 ⟨rfl, hb2⟩
    go_wp2_with fail
    go_ret
    exact ⟨ret_int HE.out.symm, HB1.out.trans (hb2.mono HB1.out.size)⟩
theorem lCheck_any (t : Lm) (v : Value) (u : Int) (w : World) (X : Nat → Prop) (hv : MV w X v t) :
    Calls Tryd.prog 16 #[v, .int .i64 u] w fun e w' => e = .returned (.int .i64 (lamE u 0 t)) ∧ Below w.heap.size w w' := by
  obtain ⟨a, c, rfl, hs⟩ := hv
  have hv : MV w X (.agg #[.int .i64 t.kind, .int .i64 t.idx, .slice a t.subs.length c]) t := ⟨a, c, rfl, hs⟩
  go_enter Tryd.func16, Tryd.ntmps16
  go_wp2_with fail
  refine (checkM_any t _ u 0 _ X (hv.alloc _)).mono ?_
  rintro e w1 ⟨rfl, hb1⟩
  go_wp2_with fail
  go_ret
  exact ⟨rfl, ((Below.refl _ _).alloc (Nat.le_refl _) _).trans (hb1.mono (by simp))⟩
end Go.Proofs.YtnccaligfnmfgaaDoor
