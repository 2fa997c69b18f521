/- Walks: how many knots a lambda term has. -/
import Derived.Test.YtnccaligfnmfgaaDoorRows
import Derived.Test.YtnccaligfnmfgaaDoorLm
import Derived.Test.YtnccaligfnmfgaaDoorZCombFromOwn
namespace Go.Proofs.YtnccaligfnmfgaaDoor
open Go.RowKit
set_option linter.unusedSimpArgs false
set_option linter.unusedVariables false

set_option maxHeartbeats 400000 in
theorem lamSize_any (t : Lm) : ∀ (v : Value) (most : Int) (w : World) (X : Nat → Prop), MV w X v t → 0 ≤ most → most ≤ 1000000 →
    Calls Tryd.prog 6 #[v, .int .i64 most] w fun e w' => e = .returned (.int .i64 (min (sizeM [t]) (most + 1))) ∧ Below w.heap.size w w' := by
  induction t using Lm.ind with
  | h kd ix l ih =>
    intro v most w X hv hm0 hm1
    obtain ⟨a, c, rfl, hs⟩ := hv
    have IH := hide ih
    clear ih
    go_enter Tryd.func6, Tryd.ntmps6
    go_wp2_with fail
    go_loopw [5, 6] (fun n i wr => ∃ k : Nat, k ≤ l.length ∧ i = .int .i64 k ∧ n = .int .i64 (min (1 + sizeM (l.take k)) (most + 1)) ∧ Below (w.heap.size + 1) (w.alloc (Obj.cells #[Value.int .i64 kd, Value.int .i64 ix, Value.slice a l.length c] 24)) wr) (fun n i wr => l.length - (intOf i).toNat)
    case atStart => exact ⟨0, Nat.zero_le _, rfl, by simp [sizeM]; omega, Below.refl _ _⟩
    case round =>
      obtain ⟨k, hk, rfl, rfl, hb⟩ := hrel
      have hc := bcell hb
      have c0 : wr.cell? ⟨w.heap.size, 0, none⟩ = some (.int .i64 kd) := by rw [hc.1 _ _ (by omega)]; simp
      have c0' : wr.cell? ⟨w.heap.size, 1, none⟩ = some (.int .i64 ix) := by rw [hc.1 _ _ (by omega)]; simp
      have c1 : wr.cell? ⟨w.heap.size, 2, none⟩ = some (.slice a l.length c) := by rw [hc.1 _ _ (by omega)]; simp
      have hl := hs.1
      have hn : 0 ≤ ((1 : Int) + sizeM (l.take k)) := by omega
      by_cases hlt : k < l.length
      · obtain ⟨b, o, a', c', rfl, d0, d0', d1, hx⟩ := hs.get (((Below.refl _ _).alloc (Nat.le_refl _) _).trans (hb.mono (Nat.le_succ _))) (fun _ _ h => h) k hlt
        by_cases hle : 1 + (sizeM (l.take k) : Int) ≤ most
        · have hmin : min (1 + (sizeM (l.take k) : Int)) (most + 1) = 1 + (sizeM (l.take k) : Int) := by omega
          rw [hmin]
          go_wp2_with fail
          refine (IH.out _ (List.getElem_mem hlt) _ _ _ X hx (by omega) (by omega)).mono ?_
          rintro e w1 ⟨rfl, hb1⟩
          have hsz : w.heap.size + 1 ≤ wr.heap.size := by have := hb.size; simpa using this
          have Hst := hide (sizeM_take l k hlt)
          have hm2 : 0 ≤ min ((sizeM [l[k]] : Int)) (most - (1 + (sizeM (l.take k) : Int)) + 1) := by omega
          have hm3 : min ((sizeM [l[k]] : Int)) (most - (1 + (sizeM (l.take k) : Int)) + 1) ≤ 1000001 := by omega
          go_wp2_with fail
          go_roundw
          case rel => exact ⟨k + 1, by omega, by go_num, by rw [Hst.out]; congr 1; omega, hb.trans (hb1.mono hsz)⟩
          case measure => simp [intOf]; omega
        · have hmin : min (1 + (sizeM (l.take k) : Int)) (most + 1) = most + 1 := by omega
          rw [hmin]
          have hz : (sizeM [(⟨kd, ix, l⟩ : Lm)] : Int) = 1 + sizeM l := by simp [sizeM]
          have hle2 : sizeM (l.take k) ≤ sizeM l := sizeM_take_le l k
          have HF := hide (show (most + 1 : Int) = min (sizeM [(⟨kd, ix, l⟩ : Lm)] : Int) (most + 1) by omega)
          clear hz
          go_wp2_with fail
          go_ret
          exact ⟨ret_int HF.out, below_box hb⟩
      · have htk : l.take k = l := List.take_of_length_le (by omega)
        rw [htk]
        have hz : (sizeM [(⟨kd, ix, l⟩ : Lm)] : Int) = 1 + sizeM l := by simp [sizeM]
        have HZ := hide hz
        clear hz
        go_wp2_with fail
        · go_ret
          exact ⟨ret_int (by have := HZ.out; omega), below_box hb⟩
        · go_ret
          exact ⟨ret_int (by have := HZ.out; omega), below_box hb⟩

theorem hugeLam_any (t : Lm) (v : Value) (w : World) (X : Nat → Prop) (hv : MV w X v t) :
    Calls Tryd.prog 4 #[v] w fun e w' => e = .returned (.bool (decide (3000 < sizeM [t]))) ∧ Below w.heap.size w w' := by
  obtain ⟨a, c, rfl, hs⟩ := hv
  have hv : MV w X (.agg #[.int .i64 t.kind, .int .i64 t.idx, .slice a t.subs.length c]) t := ⟨a, c, rfl, hs⟩
  go_enter Tryd.func4, Tryd.ntmps4
  go_wp2_with fail
  refine (lamSize_any t _ _ _ X (hv.alloc _) (by omega) (by omega)).mono ?_
  rintro e w1 ⟨rfl, hb1⟩
  by_cases h : 3000 < sizeM [t]
  · have e : min (sizeM [t] : Int) (3000 + 1) = 3001 := by omega
    rw [e]
    go_wp2_with fail
    go_ret
    exact ⟨by simp [h], ((Below.refl _ _).alloc (Nat.le_refl _) _).trans (hb1.mono (by simp))⟩
  · have e : min (sizeM [t] : Int) (3000 + 1) = sizeM [t] := by omega
    rw [e]
    go_wp2_with fail
    go_ret
    exact ⟨by simp [h] <;> omega, ((Below.refl _ _).alloc (Nat.le_refl _) _).trans (hb1.mono (by simp))⟩

theorem subsOf_any (kd ix : Int) (a : Option Addr) (n c : Nat) (w : World) :
    Calls Tryd.prog 35 #[.agg #[.int .i64 kd, .int .i64 ix, .slice a n c]] w fun e w' => e = .returned (.slice a n c) ∧ w' = w.alloc (.cells #[.int .i64 kd, .int .i64 ix, .slice a n c] 24) := by
  go_enter Tryd.func35, Tryd.ntmps35
  go_wp2_with fail
  go_ret
  exact ⟨rfl, rfl⟩

set_option maxHeartbeats 400000 in
theorem countOnM_any (M : Int) (hM0 : 0 ≤ M) (hM1 : M ≤ 1000000) (t : Lm) : ∀ (v : Value) (n : Int) (w : World) (X : Nat → Prop), MV w X v t → 0 ≤ n → n ≤ M →
    Calls Tryd.prog 39 #[v, .func (.func 35) #[] #[], .int .i64 M, .int .i64 n] w fun e w' => e = .returned (.int .i64 (min (n + sizeM [t]) (M + 1))) ∧ Below w.heap.size w w' := by
  induction t using Lm.ind with
  | h kd ix l ih =>
    intro v n w X hv hn0 hn1
    obtain ⟨a, c, rfl, hs⟩ := hv
    have IH := hide ih
    clear ih
    have hz : Hid ((sizeM [(⟨kd, ix, l⟩ : Lm)] : Int) = 1 + sizeM l) := by simp [Hid, sizeM]
    go_enter Tryd.func39, Tryd.ntmps39
    go_wp2_with (go_at_call 35; refine (subsOf_any _ _ _ _ _ _).mono ?_; rintro e w' ⟨rfl, rfl⟩)
    have hB0 : Hid (Below w.heap.size w ((w.alloc (Obj.cells #[Value.int .i64 kd, Value.int .i64 ix, Value.slice a l.length c] 24)).alloc (Obj.cells #[Value.int .i64 kd, Value.int .i64 ix, Value.slice a l.length c] 24))) := ((Below.refl _ _).alloc (Nat.le_refl _) _).alloc (by simp) _
    have hZ0 : Hid (w.heap.size + 2 ≤ ((w.alloc (Obj.cells #[Value.int .i64 kd, Value.int .i64 ix, Value.slice a l.length c] 24)).alloc (Obj.cells #[Value.int .i64 kd, Value.int .i64 ix, Value.slice a l.length c] 24)).heap.size) := by simp [Hid]
    generalize ((w.alloc (Obj.cells #[Value.int .i64 kd, Value.int .i64 ix, Value.slice a l.length c] 24)).alloc (Obj.cells #[Value.int .i64 kd, Value.int .i64 ix, Value.slice a l.length c] 24)) = w0 at *
    go_loopw [9, 18] (fun m i wr => ∃ k : Nat, k ≤ l.length ∧ i = .int .i64 k ∧ m = .int .i64 (min (n + 1 + sizeM (l.take k)) (M + 1)) ∧ Below w.heap.size w wr) (fun m i wr => l.length - (intOf i).toNat)
    case atStart => exact ⟨0, Nat.zero_le _, rfl, by rw [show sizeM (l.take 0) = 0 by simp [sizeM]]; congr 1; omega, hB0.out⟩
    case round =>
      obtain ⟨k, hk, rfl, rfl, hb⟩ := hrel
      have hl := hs.1
      have hsz : w.heap.size ≤ wr.heap.size := hb.size
      by_cases hlt : k < l.length
      · obtain ⟨b, o, a', c', rfl, d0, d0', d1, hx⟩ := hs.get hb (fun _ _ h => h) k hlt
        by_cases hle : n + 1 + (sizeM (l.take k) : Int) ≤ M
        · have hmin : min (n + 1 + (sizeM (l.take k) : Int)) (M + 1) = n + 1 + (sizeM (l.take k) : Int) := by omega
          rw [hmin]
          go_wp2_with fail
          refine (IH.out _ (List.getElem_mem hlt) _ _ _ X (hx.alloc _) (by omega) (by omega)).mono ?_
          rintro e w1 ⟨rfl, hb1⟩
          have Hst := hide (sizeM_take l k hlt)
          go_wp2_with fail
          go_roundw
          case rel => exact ⟨k + 1, by omega, by go_num, by rw [Hst.out]; congr 1; omega, (hb.alloc hsz _).trans (hb1.mono (by simp; omega))⟩
          case measure => simp [intOf]; omega
        · have hmin : min (n + 1 + (sizeM (l.take k) : Int)) (M + 1) = M + 1 := by omega
          rw [hmin]
          have hle2 : sizeM (l.take k) ≤ sizeM l := sizeM_take_le l k
          go_wp2_with fail
          go_ret
          refine ⟨ret_int (by have := hz.out; omega), ?_⟩
          exact hb.alloc (by omega) _
      · have htk : l.take k = l := List.take_of_length_le (by omega)
        rw [htk]
        go_wp2_with fail
        go_ret
        exact ⟨ret_int (by have := hz.out; omega), hb⟩

theorem countTM_any (M : Int) (hM0 : 0 ≤ M) (hM1 : M ≤ 1000000) (t : Lm) (v : Value) (w : World) (X : Nat → Prop) (hv : MV w X v t) :
    Calls Tryd.prog 34 #[v, .func (.func 35) #[] #[], .int .i64 M] w fun e w' => e = .returned (.int .i64 (min (sizeM [t] : Int) (M + 1))) ∧ Below w.heap.size w w' := by
  obtain ⟨a, c, rfl, hs⟩ := hv
  have hv : MV w X (.agg #[.int .i64 t.kind, .int .i64 t.idx, .slice a t.subs.length c]) t := ⟨a, c, rfl, hs⟩
  go_enter Tryd.func34, Tryd.ntmps34
  go_wp2_with fail
  refine (countOnM_any M hM0 hM1 t _ _ _ X (hv.alloc _) (by omega) (by omega)).mono ?_
  rintro e w1 ⟨rfl, hb1⟩
  go_wp2_with fail
  go_ret
  exact ⟨ret_int (by omega), ((Below.refl _ _).alloc (Nat.le_refl _) _).trans (hb1.mono (by simp))⟩

theorem countM_any (M : Int) (hM0 : 0 ≤ M) (hM1 : M ≤ 1000000) (t : Lm) (v : Value) (w : World) (X : Nat → Prop) (hv : MV w X v t) :
    Calls Tryd.prog 28 #[v, .int .i64 M] w fun e w' => e = .returned (.int .i64 (min (sizeM [t] : Int) (M + 1))) ∧ Below w.heap.size w w' := by
  obtain ⟨a, c, rfl, hs⟩ := hv
  have hv : MV w X (.agg #[.int .i64 t.kind, .int .i64 t.idx, .slice a t.subs.length c]) t := ⟨a, c, rfl, hs⟩
  go_enter Tryd.func28, Tryd.ntmps28
  go_wp2_with fail
  refine (countTM_any M hM0 hM1 t _ _ X (hv.alloc _)).mono ?_
  rintro e w1 ⟨rfl, hb1⟩
  go_wp2_with fail
  go_ret
  exact ⟨ret_int (by omega), ((Below.refl _ _).alloc (Nat.le_refl _) _).trans (hb1.mono (by simp))⟩

end Go.Proofs.YtnccaligfnmfgaaDoor
