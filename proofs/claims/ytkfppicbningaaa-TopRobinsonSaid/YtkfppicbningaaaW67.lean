/- Walks: whether bindings just name variables otherwise. -/
import Derived.Test.YtkfppicbningaaaStM
import Derived.Test.YtkfppicbningaaaZBTopRobinsonOwn
namespace Go.Proofs.Ytkfppicbningaaa
open Go.RowKit
set_option linter.unusedSimpArgs false
set_option linter.unusedVariables false
set_option maxRecDepth 8000

/-- How often each name was met: once. -/
def onceL (l : List Bd) : List (ByteArray × Value) := l.map fun d => (d.t.name, .int .i64 1)
theorem onceL_get (n : ByteArray) : ∀ l : List Bd, (inB n (l.map fun d => d.t.name) = false → mapGet (onceL l) n = none) ∧ (inB n (l.map fun d => d.t.name) = true → mapGet (onceL l) n = some (.int .i64 1))
  | [] => ⟨fun _ => rfl, fun h => by simp [inB] at h⟩
  | d :: r => by
    obtain ⟨h1, h2⟩ := onceL_get n r
    by_cases hd : d.t.name = n
    · refine ⟨fun h => ?_, fun _ => by simp [onceL, mapGet, hd]⟩
      simp [inB, hd] at h
    · have hb := bytes_no hd
      refine ⟨fun h => ?_, fun h => ?_⟩
      · simp only [inB, List.map_cons, List.any_cons, hb, Bool.false_or] at h
        simp only [onceL, List.map_cons, mapGet, hd, if_false]
        exact h1 h
      · simp only [inB, List.map_cons, List.any_cons, hb, Bool.false_or] at h
        simp only [onceL, List.map_cons, mapGet, hd, if_false]
        exact h2 h
def DnInv (ls : List Bd) (w : World) (v : Value) (wr : World) : Prop := ∃ k : Nat, v = .int .i64 (k : Int) ∧ k ≤ ls.length ∧ nmT ls k = true ∧ MapAt wr w.heap.size (onceL (ls.take k)) ∧ Below w.heap.size w wr

set_option maxHeartbeats 1000000 in
theorem doesName_any (ls : List Bd) (u : Value) (w : World) (X : Nat → Prop) (hu : BV w X u ls) :
    Calls Try.prog 46 #[u] w fun e w' => e = .returned (.bool (namesB ls)) ∧ Below w.heap.size w w' := by
  have HU := hide (hu.mono (Y := fun b => X b ∧ b < w.heap.size) fun b h1 h2 => ⟨h1, h2⟩)
  obtain ⟨a, c, rfl, hl, hu2⟩ := hu
  clear hu2
  have hmm := @run_makeMap Try.prog
  go_enter Try.func46, Try.ntmps46
  go_wp2_with fail
  go_loopw [9] (fun v wr => DnInv ls w v wr) (fun v wr => ls.length - (intOf v).toNat)
  case atStart => exact ⟨0, rfl, Nat.zero_le _, rfl, MapAt.new w, (Below.refl _ _).alloc (Nat.le_refl _) _⟩
  case round =>
    obtain ⟨k, rfl, hk, hT, hM, hb⟩ := hrel
    have HM := hide hM
    have HT := hide hT
    have HB := hide hb
    clear hT
    by_cases hlt : k < ls.length
    · obtain ⟨b, o, a', c', rfl, d0, d1, d2, hs⟩ := (HU.out.later hb).get k hlt
      have hlt2 : (k : Int) < (ls.length : Int) := by omega
      have hMr := hM.lt
      have htk : ls.take (k + 1) = ls.take k ++ [ls[k]] := List.take_succ_eq_append_getElem hlt
      have HTK : Hid (onceL (ls.take (k + 1)) = onceL (ls.take k) ++ [(ls[k].t.name, .int .i64 1)]) := by unfold Hid onceL; rw [htk, List.map_append]; rfl
      have HNK := hide (nmK_at hlt)
      have HG := hide (onceL_get ls[k].t.name (ls.take k))
      have HNO := hide (names_no (ls := ls) hlt)
      clear hb hs hM htk
      have hz : ∀ w', (zeroValue 3).run Try.prog w' = .ok (.int .i64 0) w' := fun w' => Try.zeroValue3 w'
      have HM1 := hide (HM.out.kept (w' := wr.alloc (.cells #[.string ls[k].nm, .string ls[k].t.name, .slice a' ls[k].t.args.length c'] 50)) (Below.heap_alloc _ _ _ hMr))
      have HB1 := hide (HB.out.alloc HB.out.size (.cells #[.string ls[k].nm, .string ls[k].t.name, .slice a' ls[k].t.args.length c'] 50))
      generalize ls[k] = d at *
      cases hin : inB d.t.name ((ls.take k).map fun d => d.t.name) with
      | false =>
        have hg := HG.out.1 hin
        have hlk : (Instr.lookup 93 (.map (some w.heap.size)) (.string d.t.name) false).run Try.prog (wr.alloc (.cells #[.string d.nm, .string d.t.name, .slice a' d.t.args.length c'] 50)) = .ok (.int .i64 0) (wr.alloc (.cells #[.string d.nm, .string d.t.name, .slice a' d.t.args.length c'] 50)) := by
          rw [run_look1 (P := Try.prog) Try.underlying93 Try.underlying9 (hz _) HM1.out d.t.name, hg]; rfl
        obtain ⟨w2, hrun, hM2, hz2, ho2, ht2, hu2, hk2⟩ := run_put (P := Try.prog) Try.underlying93 Try.underlying9 HM1.out d.t.name (.int .i64 1) hg
        have HM2 : Hid (MapAt w2 w.heap.size (onceL (ls.take (k + 1)))) := by unfold Hid; rw [HTK.out]; exact hM2
        have HB2 : Hid (Below w.heap.size w w2) := ⟨ho2.trans HB1.out.os, ht2.trans HB1.out.tape, hu2.trans HB1.out.output, by rw [hz2]; exact HB1.out.size, fun j hj => (hk2 j (by omega)).trans (HB1.out.block j hj)⟩
        have hlk2 : (Instr.lookup 93 (.map (some w.heap.size)) (.string d.t.name) false).run Try.prog w2 = .ok (.int .i64 1) w2 := by
          rw [run_look1 (P := Try.prog) Try.underlying93 Try.underlying9 (hz _) hM2 d.t.name, mapGet_append _ _ _ hg]; simp
        have BK := hide (show Blk w2 wr.heap.size #[.string d.nm, .string d.t.name, .slice a' d.t.args.length c'] 50 from (hk2 _ (by omega)).trans (Blk.new wr _ _))
        have e1 : w2.cell? ⟨wr.heap.size, 1, none⟩ = some (.string d.t.name) := BK.out.cell 1
        rw [hin] at HNK
        clear hM2 hz2 ho2 ht2 hu2 hk2 hg hin
        cases hv : varB d.t.name with
        | false =>
          have HV := hide hv
          have HN : Hid (false = namesB ls) := by unfold Hid; rw [HNO.out (by rw [HNK.out, hv]; rfl)]
          clear hv
          go_wp2_with (go_at_call 49; refine (isVariable_all _ _).mono ?_; rintro e w' ⟨rfl, rfl⟩; rw [HV.out])
          go_ret
          exact ⟨ret_bool HN.out, HB2.out⟩
        | true =>
          have HV := hide hv
          have HN : Hid (nmT ls (k + 1) = true) := by unfold Hid; rw [nmT, HT.out, HNK.out, hv]; rfl
          clear hv
          go_wp2_with (go_at_call 49; refine (isVariable_all _ _).mono ?_; rintro e w' ⟨rfl, rfl⟩; rw [HV.out])
          go_roundw
          case rel => exact ⟨k + 1, by go_num, by omega, HN.out, HM2.out, HB2.out⟩
          case measure => simp [intOf]; omega
      | true =>
        have hg := HG.out.2 hin
        have hlk : (Instr.lookup 93 (.map (some w.heap.size)) (.string d.t.name) false).run Try.prog (wr.alloc (.cells #[.string d.nm, .string d.t.name, .slice a' d.t.args.length c'] 50)) = .ok (.int .i64 1) (wr.alloc (.cells #[.string d.nm, .string d.t.name, .slice a' d.t.args.length c'] 50)) := by
          rw [run_look1 (P := Try.prog) Try.underlying93 Try.underlying9 (hz _) HM1.out d.t.name, hg]; rfl
        obtain ⟨w2, hrun, hM2, hz2, ho2, ht2, hu2, hk2⟩ := run_set (P := Try.prog) Try.underlying93 Try.underlying9 HM1.out d.t.name (.int .i64 2) _ hg
        have HB2 : Hid (Below w.heap.size w w2) := ⟨ho2.trans HB1.out.os, ht2.trans HB1.out.tape, hu2.trans HB1.out.output, by rw [hz2]; exact HB1.out.size, fun j hj => (hk2 j (by omega)).trans (HB1.out.block j hj)⟩
        have hlk2 : (Instr.lookup 93 (.map (some w.heap.size)) (.string d.t.name) false).run Try.prog w2 = .ok (.int .i64 2) w2 := by
          rw [run_look1 (P := Try.prog) Try.underlying93 Try.underlying9 (hz _) hM2 d.t.name, mapGet_setAt, hg]; rfl
        have BK := hide (show Blk w2 wr.heap.size #[.string d.nm, .string d.t.name, .slice a' d.t.args.length c'] 50 from (hk2 _ (by omega)).trans (Blk.new wr _ _))
        have e1 : w2.cell? ⟨wr.heap.size, 1, none⟩ = some (.string d.t.name) := BK.out.cell 1
        rw [hin] at HNK
        have HN : Hid (false = namesB ls) := by unfold Hid; rw [HNO.out (by rw [HNK.out]; simp)]
        clear hM2 hz2 ho2 ht2 hu2 hk2 hg hin
        cases hv : varB d.t.name with
        | false =>
          have HV := hide hv
          clear hv
          go_wp2_with (go_at_call 49; refine (isVariable_all _ _).mono ?_; rintro e w' ⟨rfl, rfl⟩; rw [HV.out])
          go_ret
          exact ⟨ret_bool HN.out, HB2.out⟩
        | true =>
          have HV := hide hv
          clear hv
          go_wp2_with (go_at_call 49; refine (isVariable_all _ _).mono ?_; rintro e w' ⟨rfl, rfl⟩; rw [HV.out])
          go_ret
          exact ⟨ret_bool HN.out, HB2.out⟩
    · have HN : Hid (true = namesB ls) := by
        have h := HT.out
        have e : k = ls.length := by omega
        rw [e] at h
        exact h.symm
      go_wp2_with fail
      go_ret
      exact ⟨ret_bool HN.out, HB.out⟩
#print axioms doesName_any
end Go.Proofs.Ytkfppicbningaaa
