/- Walks: a row worked on by the symbol at its front; a row with another term at a place. -/
import Derived.Test.YtcdabjekppddjaaGreatDoorCb8
namespace Go.Proofs.YtcdabjekppddjaaGreatDoor
open Go.RowKit
set_option linter.unusedSimpArgs false
set_option linter.unusedVariables false
set_option maxRecDepth 8000

theorem fieldT0_run (a b : Value) (w : World) : Sem.run Tryz.prog (Instr.field 24 (.agg #[a, b]) 0) w = .ok a w := by
  rfl
def WkPost (H : Tm) (L : List Tm) (B n : Nat) (w : World) (e : Ending) (w' : World) : Prop :=
  Below w.heap.size w w' ∧ Blk w' w.heap.size #[.int .i64 (n : Int), ro1 B] 88 ∧
    ((H.name = iB ∧ 1 ≤ L.length ∧ e = .returned (.tuple #[.agg #[.int .i64 ((n : Int) - 1), .func (.func 95) #[] #[.pointer (some ⟨w.heap.size, 0, none⟩)]], .bool true])) ∨
     (H.name = kB ∧ 2 ≤ L.length ∧ e = .returned (.tuple #[.agg #[.int .i64 ((n : Int) - 2), .func (.func 96) #[] #[.pointer (some ⟨w.heap.size, 0, none⟩)]], .bool true])) ∨
     (H.name = sB ∧ 3 ≤ L.length ∧ e = .returned (.tuple #[.agg #[.int .i64 ((n : Int) - 1), .func (.func 97) #[.agg #[.int .i64 (n : Int), ro1 B]] #[]], .bool true])) ∨
     (workC H.name L = none ∧ e = .returned (.tuple #[.agg #[.int .i64 0, .nilFunc], .bool false])))

set_option maxHeartbeats 2000000 in
theorem work_any (H : Tm) (L : List Tm) (B n : Nat) (hn : n = L.length + 1) (w : World) (Y : Nat → Prop) (hR : RoL w Y B (H :: L)) :
    Calls Tryz.prog 81 #[.agg #[.int .i64 (n : Int), ro1 B]] w fun e w' => WkPost H L B n w e w' := by
  have hmf : ∀ (fn : Fn) (first cap : Array Value) (w : World), (Instr.makeFunc fn first cap).run Tryz.prog w = .ok (.func fn first cap) w := fun _ _ _ _ => rfl
  have hl := hR.len
  simp only [List.length_cons] at hl
  have HR := hide hR
  clear hR
  unfold ro1
  have HN := hide hn
  have hn1 : n ≤ 100001 := by omega
  have HA := hide (((HR.out.small).later (below2 (.cells #[.int .i64 (n : Int), .func (.func 94) #[] #[.pointer (some ⟨B, 0, none⟩)]] 88) (.cells #[.int .i64 0, .nilFunc] 88))).at 0 (by simp))
  simp only [List.getElem_cons_zero] at HA
  have HQ : Hid (Blk ((w.alloc (.cells #[.int .i64 (n : Int), .func (.func 94) #[] #[.pointer (some ⟨B, 0, none⟩)]] 88)).alloc (.cells #[.int .i64 0, .nilFunc] 88)) w.heap.size #[.int .i64 (n : Int), .func (.func 94) #[] #[.pointer (some ⟨B, 0, none⟩)]] 88) := (Blk.new w _ _).alloc _
  have HK : Hid (Blk ((w.alloc (.cells #[.int .i64 (n : Int), .func (.func 94) #[] #[.pointer (some ⟨B, 0, none⟩)]] 88)).alloc (.cells #[.int .i64 0, .nilFunc] 88)) (w.heap.size + 1) #[.int .i64 0, .nilFunc] 88) := by
    have h := Blk.new (w.alloc (.cells #[.int .i64 (n : Int), .func (.func 94) #[] #[.pointer (some ⟨B, 0, none⟩)]] 88)) #[.int .i64 0, .nilFunc] 88
    unfold Hid
    simpa using h
  clear hn HR
  go_enter Tryz.func81, Tryz.ntmps81
  go_wp2_with fail
  refine HA.out.mono ?_
  rintro e w1 ⟨v1, rfl, ⟨a1, c1, rfl, hs1⟩, hb1⟩
  have HB1 := hide ((below2 (w := w) (.cells #[.int .i64 (n : Int), .func (.func 94) #[] #[.pointer (some ⟨B, 0, none⟩)]] 88) (.cells #[.int .i64 0, .nilFunc] 88)).trans (hb1.mono (by simp; omega)))
  have HQ1 := hide (HQ.out.below hb1 (by simp; omega))
  have HK1 := hide (HK.out.below hb1 (by simp))
  have s0 : w1.cell? ⟨w.heap.size, 0, none⟩ = some (.int .i64 (n : Int)) := HQ1.out.cell 0
  have s1 : w1.cell? ⟨w.heap.size, 1, none⟩ = some (.func (.func 94) #[] #[.pointer (some ⟨B, 0, none⟩)]) := HQ1.out.cell 1
  have r0 : w1.cell? ⟨w.heap.size + 1, 0, none⟩ = some (.int .i64 0) := HK1.out.cell 0
  have r1 : w1.cell? ⟨w.heap.size + 1, 1, none⟩ = some .nilFunc := HK1.out.cell 1
  have rf : ∀ i, w1.frozen? ⟨w.heap.size + 1, i, none⟩ = false := HK1.out.frozen
  have hfd : Sem.run Tryz.prog (Instr.field 24 (.agg #[.string H.name, .slice a1 H.args.length c1]) 0) w1 = .ok (.string H.name) w1 := fieldT0_run _ _ _
  clear hs1 hb1 HA HQ HK
  have HEND : Hid (∀ u u', Below w.heap.size w ((w1.setCell ⟨w.heap.size + 1, 0, none⟩ u).setCell ⟨w.heap.size + 1, 1, none⟩ u') ∧ Blk ((w1.setCell ⟨w.heap.size + 1, 0, none⟩ u).setCell ⟨w.heap.size + 1, 1, none⟩ u') w.heap.size #[.int .i64 (n : Int), ro1 B] 88) := fun u u' => ⟨(HB1.out.setCell (p := ⟨w.heap.size + 1, 0, none⟩) (by simp) _).setCell (p := ⟨w.heap.size + 1, 1, none⟩) (by simp) _, (HQ1.out.setOther _ _ (by omega)).setOther _ _ (by omega)⟩
  by_cases zi : H.name = iB
  · have n1 : (H.name.toList == [105]) = true := nm_yes zi
    have n2 : (H.name.toList == [107]) = false := nm_no (by rw [zi]; decide)
    have n3 : (H.name.toList == [115]) = false := nm_no (by rw [zi]; decide)
    have HZ := hide zi
    by_cases hlo : 1 ≤ L.length
    · have g1 : decide ((n : Int) > 1) = true := decide_eq_true (by have := HN.out; omega)
      clear zi
      go_wp2_with fail
      refine bodyPost_ret (v := .tuple #[.agg #[.int .i64 ((n : Int) - 1), .func (.func 95) #[] #[.pointer (some ⟨w.heap.size, 0, none⟩)]], .bool true]) (by simp [results, Tryz.results81, go_sem, World.cell?_setCell_same, World.cell?_setCell_other, r0, r1]) rfl ?_
      exact ⟨(HEND.out _ _).1, (HEND.out _ _).2, Or.inl ⟨HZ.out, hlo, rfl⟩⟩
    · have g1 : decide ((n : Int) > 1) = false := decide_eq_false (by have := HN.out; omega)
      have HWN : Hid (workC H.name L = none) := workC_none (fun h => hlo h.2) (fun h => absurd (HZ.out.symm.trans h.1) (by decide)) (fun h => absurd (HZ.out.symm.trans h.1) (by decide))
      clear zi
      go_wp2_with fail
      refine bodyPost_ret (v := .tuple #[.agg #[.int .i64 0, .nilFunc], .bool false]) (by simp [results, Tryz.results81, go_sem, World.cell?_setCell_same, World.cell?_setCell_other, r0, r1]) rfl ?_
      exact ⟨(HEND.out _ _).1, (HEND.out _ _).2, Or.inr (Or.inr (Or.inr ⟨HWN.out, rfl⟩))⟩
  · skip
    by_cases zk : H.name = kB
    · have n1 : (H.name.toList == [107]) = true := nm_yes zk
      have n2 : (H.name.toList == [105]) = false := nm_no (by rw [zk]; decide)
      have n3 : (H.name.toList == [115]) = false := nm_no (by rw [zk]; decide)
      have HZ := hide zk
      by_cases hlo : 2 ≤ L.length
      · have g1 : decide ((n : Int) > 2) = true := decide_eq_true (by have := HN.out; omega)
        clear zk
        go_wp2_with fail
        refine bodyPost_ret (v := .tuple #[.agg #[.int .i64 ((n : Int) - 2), .func (.func 96) #[] #[.pointer (some ⟨w.heap.size, 0, none⟩)]], .bool true]) (by simp [results, Tryz.results81, go_sem, World.cell?_setCell_same, World.cell?_setCell_other, r0, r1]) rfl ?_
        exact ⟨(HEND.out _ _).1, (HEND.out _ _).2, Or.inr (Or.inl ⟨HZ.out, hlo, rfl⟩)⟩
      · have g1 : decide ((n : Int) > 2) = false := decide_eq_false (by have := HN.out; omega)
        have HWN : Hid (workC H.name L = none) := workC_none (fun h => absurd (HZ.out.symm.trans h.1) (by decide)) (fun h => hlo h.2) (fun h => absurd (HZ.out.symm.trans h.1) (by decide))
        clear zk
        go_wp2_with fail
        refine bodyPost_ret (v := .tuple #[.agg #[.int .i64 0, .nilFunc], .bool false]) (by simp [results, Tryz.results81, go_sem, World.cell?_setCell_same, World.cell?_setCell_other, r0, r1]) rfl ?_
        exact ⟨(HEND.out _ _).1, (HEND.out _ _).2, Or.inr (Or.inr (Or.inr ⟨HWN.out, rfl⟩))⟩
    · skip
      by_cases zs : H.name = sB
      · have n1 : (H.name.toList == [115]) = true := nm_yes zs
        have n2 : (H.name.toList == [105]) = false := nm_no (by rw [zs]; decide)
        have n3 : (H.name.toList == [107]) = false := nm_no (by rw [zs]; decide)
        have HZ := hide zs
        by_cases hlo : 3 ≤ L.length
        · have g1 : decide ((n : Int) > 3) = true := decide_eq_true (by have := HN.out; omega)
          clear zs
          go_wp2_with fail
          refine bodyPost_ret (v := .tuple #[.agg #[.int .i64 ((n : Int) - 1), .func (.func 97) #[.agg #[.int .i64 (n : Int), .func (.func 94) #[] #[.pointer (some ⟨B, 0, none⟩)]]] #[]], .bool true]) (by simp [results, Tryz.results81, go_sem, World.cell?_setCell_same, World.cell?_setCell_other, r0, r1]) rfl ?_
          exact ⟨(HEND.out _ _).1, (HEND.out _ _).2, Or.inr (Or.inr (Or.inl ⟨HZ.out, hlo, rfl⟩))⟩
        · have g1 : decide ((n : Int) > 3) = false := decide_eq_false (by have := HN.out; omega)
          have HWN : Hid (workC H.name L = none) := workC_none (fun h => absurd (HZ.out.symm.trans h.1) (by decide)) (fun h => absurd (HZ.out.symm.trans h.1) (by decide)) (fun h => hlo h.2)
          clear zs
          go_wp2_with fail
          refine bodyPost_ret (v := .tuple #[.agg #[.int .i64 0, .nilFunc], .bool false]) (by simp [results, Tryz.results81, go_sem, World.cell?_setCell_same, World.cell?_setCell_other, r0, r1]) rfl ?_
          exact ⟨(HEND.out _ _).1, (HEND.out _ _).2, Or.inr (Or.inr (Or.inr ⟨HWN.out, rfl⟩))⟩
      · skip
        have n1 : (H.name.toList == [105]) = false := nm_no zi
        have n2 : (H.name.toList == [107]) = false := nm_no zk
        have n3 : (H.name.toList == [115]) = false := nm_no zs
        have HWN : Hid (workC H.name L = none) := workC_none (fun h => zi h.1) (fun h => zk h.1) (fun h => zs h.1)
        clear zi zk zs
        go_wp2_with fail
        refine bodyPost_ret (v := .tuple #[.agg #[.int .i64 0, .nilFunc], .bool false]) (by simp [results, Tryz.results81, go_sem, World.cell?_setCell_same, World.cell?_setCell_other, r0, r1]) rfl ?_
        exact ⟨(HEND.out _ _).1, (HEND.out _ _).2, Or.inr (Or.inr (Or.inr ⟨HWN.out, rfl⟩))⟩
set_option maxHeartbeats 2000000 in
theorem with_any (B n q : Nat) (x : Tm) (ax : Option Addr) (cx : Nat) (w : World) :
    Calls Tryz.prog 83 #[.agg #[.int .i64 (n : Int), ro1 B], .int .i64 (q : Int), .agg #[.string x.name, .slice ax x.args.length cx]] w fun e w' => e = .returned (.agg #[.int .i64 (n : Int), .func (.func 98) #[] #[.pointer (some ⟨w.heap.size + 1, 0, none⟩), .pointer (some ⟨w.heap.size + 2, 0, none⟩), .pointer (some ⟨w.heap.size, 0, none⟩)]]) ∧ Blk w' w.heap.size #[.int .i64 (n : Int), ro1 B] 88 ∧ Blk w' (w.heap.size + 1) #[.int .i64 (q : Int)] 3 ∧ Blk w' (w.heap.size + 2) #[.string x.name, .slice ax x.args.length cx] 24 ∧ Below w.heap.size w w' := by
  have hmf : ∀ (fn : Fn) (first cap : Array Value) (w : World), (Instr.makeFunc fn first cap).run Tryz.prog w = .ok (.func fn first cap) w := fun _ _ _ _ => rfl
  unfold ro1
  go_enter Tryz.func83, Tryz.ntmps83
  go_wp2_with fail
  refine bodyPost_ret (v := .agg #[.int .i64 (n : Int), .func (.func 98) #[] #[.pointer (some ⟨w.heap.size + 1, 0, none⟩), .pointer (some ⟨w.heap.size + 2, 0, none⟩), .pointer (some ⟨w.heap.size, 0, none⟩)]]) (by simp [results, Tryz.results83, go_sem]) rfl ?_
  refine ⟨rfl, (((Blk.new w _ _).alloc _).alloc _).alloc _, ?_, ?_, below4 _ _ _ _⟩
  · have h := ((Blk.new (w.alloc (.cells #[.int .i64 (n : Int), .func (.func 94) #[] #[.pointer (some ⟨B, 0, none⟩)]] 88)) #[.int .i64 (q : Int)] 3).alloc (.cells #[.string x.name, .slice ax x.args.length cx] 24)).alloc (.cells #[.int .i64 (n : Int), .func (.func 98) #[] #[.pointer (some ⟨w.heap.size + 1, 0, none⟩), .pointer (some ⟨w.heap.size + 1 + 1, 0, none⟩), .pointer (some ⟨w.heap.size, 0, none⟩)]] 88)
    simpa using h
  · have h := (Blk.new ((w.alloc (.cells #[.int .i64 (n : Int), .func (.func 94) #[] #[.pointer (some ⟨B, 0, none⟩)]] 88)).alloc (.cells #[.int .i64 (q : Int)] 3)) #[.string x.name, .slice ax x.args.length cx] 24).alloc (.cells #[.int .i64 (n : Int), .func (.func 98) #[] #[.pointer (some ⟨w.heap.size + 1, 0, none⟩), .pointer (some ⟨w.heap.size + 1 + 1, 0, none⟩), .pointer (some ⟨w.heap.size, 0, none⟩)]] 88)
    simpa using h
end Go.Proofs.YtcdabjekppddjaaGreatDoor
