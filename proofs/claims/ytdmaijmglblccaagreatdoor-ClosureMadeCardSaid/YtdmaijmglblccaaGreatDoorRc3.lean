/- Walks: texts in their order, each once (SortedTexts). -/
import Derived.Test.YtdmaijmglblccaaGreatDoorRc2
import Derived.Laws.CopyOwn
import Derived.Deep.RegionHeld3
namespace Go.Proofs.YtdmaijmglblccaaGreatDoor
open Go.RowKit
set_option linter.unusedSimpArgs false
set_option linter.unusedVariables false
set_option maxRecDepth 8000

/-- The texts so far. -/
structure SrI (l : List ByteArray) (wN : World) (i : Nat) (out : List ByteArray) (ov : Value) (wr : World) : Prop where
  own : wr.ownsRow wN.heap.size 9 1 ov out.length (out.map Value.string)
  asc : AscB out
  mem : ∀ s, s ∈ out ↔ s ∈ l.take i
  len : out.length ≤ i
  bl : Below wN.heap.size wN wr
def SrO (l : List ByteArray) (wN : World) (v o : Value) (wr : World) : Prop := ∃ (i : Nat) (out : List ByteArray), o = .int .i64 (i : Int) ∧ i ≤ l.length ∧ SrI l wN i out v wr
def SrK (x : ByteArray) (out : List ByteArray) (w1 : World) (o : Value) (wr : World) : Prop := ∃ (k n : Nat), o = .int .i64 (k : Int) ∧ k ≤ out.length ∧ (∀ y ∈ out.drop k, ltB x y = true) ∧ wr = w1.drewN n
theorem own_cell {w : World} {N T : Nat} {v : Value} {l : List ByteArray} (h : w.ownsRow N T 1 v l.length (l.map Value.string)) {k : Nat} (hk : k < l.length) : ∃ g cap, v = .slice (some ⟨g, 0, none⟩) l.length cap ∧ w.cell? ⟨g, k, none⟩ = some (.string l[k]) := by
  rcases h.2 with ⟨h1, h0⟩ | ⟨g, cap, cur, h1, _⟩
  · omega
  · have hc := h.cells (g := g) (by rw [h1]; rfl) k (.string l[k]) (by simp [hk])
    rw [addH] at hc
    exact ⟨g, cap, h1, hc⟩
theorem slice_from {g n k cap : Nat} (hk : k ≤ n) (w' : World) : Sem.run Tryz.prog (Instr.slice 31 (.slice (some ⟨g, 0, none⟩) n cap) (some (.int .i64 (k : Int))) none none) w' = .ok (.slice (if cap = k then some ⟨g, 0, none⟩ else some ⟨g, k, none⟩) (n - k) (cap - k)) w' := by
  rw [run_slice_l (P := Tryz.prog) (ht := Tryz.underlying31) (h0 := by omega) (h1 := by omega)]
  by_cases hc : cap = k
  · subst hc
    simp [go_sem, sliced]
  · simp [go_sem, sliced, hc]
/-- What is behind is moved on, and the text is put in. -/
theorem own_ins {w' : World} {N g n k cap : Nat} {out : List ByteArray} {e0 x : ByteArray} {cur : Array Value} (hn : out.length = n) (hk : k ≤ n) (hg : N ≤ g) (hc : n + 1 ≤ cap) (hm : cap ≤ maxLen) (hs : cur.size = cap) (ht : cur.toList.take (n + 1) = (out ++ [e0]).map Value.string)
    (h : w'.heap[g]? = some (.cells (splice cur.toList (k + 1) ((out.drop k).map Value.string)).toArray 9 (0, 0))) :
    (w'.setCell ⟨g, k, none⟩ (.string x)).ownsRow N 9 1 (.slice (some ⟨g, 0, none⟩) (n + 1) cap) (out.take k ++ x :: out.drop k).length ((out.take k ++ x :: out.drop k).map Value.string) := by
  have hlen : (out.take k ++ x :: out.drop k).length = n + 1 := by simp; omega
  have hlc : cur.toList.length = cap := by simpa using hs
  refine ⟨by simp, Or.inr ⟨g, cap, (splice cur.toList (k + 1) ((out.drop k).map Value.string)).toArray.setIfInBounds k (.string x), by rw [hlen], hg, (by simp [World.setCell, Array.getElem?_modify, h]), by rw [hlen]; exact hc, hm, ?_, ?_⟩⟩
  · rw [Array.size_setIfInBounds, List.size_toArray, length_splice]
    · omega
    · simp; omega
  · rw [hlen, Nat.mul_one, Array.toList_setIfInBounds]
    apply List.ext_getElem?
    intro j
    rw [List.getElem?_take]
    by_cases hj : j < n + 1
    · rw [if_pos hj, List.getElem?_set]
      have hl2 : (splice cur.toList (k + 1) ((out.drop k).map Value.string)).length = cap := by
        rw [length_splice _ _ _ (by simp; omega)]
        omega
      by_cases hjk : k = j
      · subst hjk
        rw [if_pos rfl, if_pos (by rw [hl2]; omega)]
        simp [List.getElem?_append, hn, Nat.min_eq_left hk]
      · rw [if_neg hjk]
        have hcur : ∀ i, i < n → cur.toList[i]? = some (Value.string (out.getD i x)) := fun i hi => by
          have h1 := congrArg (fun l => l[i]?) ht
          simp only [List.getElem?_take, if_pos (show i < n + 1 by omega)] at h1
          rw [h1]
          have : i < out.length := by omega
          simp [List.getElem?_append, this, List.getD_eq_getElem?_getD]
        unfold splice
        by_cases hlt : j < k
        · have h2 : j < n := by omega
          have h3 : j < out.length := by omega
          rw [List.getElem?_append_left (by simp; omega), List.getElem?_take, if_pos (by omega), hcur j h2]
          have h4 : ¬ min k out.length ≤ j := by omega
          simp [List.getElem?_append, hlt, h3, List.getD_eq_getElem?_getD]
          intro h5
          exact absurd h5 h4
        · have h2 : k + 1 ≤ j := by omega
          have h3 : j - (k + 1) < out.length - k := by omega
          rw [List.getElem?_append_right (by simp; omega), List.getElem?_append_left (by simp; omega)]
          have e1 : (cur.toList.take (k + 1)).length = k + 1 := by simp; omega
          rw [e1]
          have h4 : k + (j - (k + 1)) < out.length := by omega
          have e2 : j - k = (j - (k + 1)) + 1 := by omega
          simp [List.getElem?_append, hn, Nat.min_eq_left hk, hlt, e2, List.getElem?_drop]
    · rw [if_neg hj]
      symm
      exact List.getElem?_eq_none (by simp; omega)
theorem lt_of_kept {x : ByteArray} {out : List ByteArray} {k : Nat} (hasc : AscB out) (hk : k < out.length) (h : ltB x out[k] = false) (hne : out[k] ≠ x) : ∀ y ∈ out.take (k + 1), ltB y x = true := by
  intro y hy
  have h1 : ltB out[k] x = true := by
    cases h2 : ltB out[k] x with
    | true => rfl
    | false => exact absurd (ltB_conn h2 h) hne
  rw [List.take_succ_eq_append_getElem hk] at hy
  rcases List.mem_append.1 hy with hy | hy
  · have h3 := List.pairwise_append.1 (show (out.take k ++ out.drop k).Pairwise _ by rw [List.take_append_drop]; exact hasc)
    exact ltB_trans (h3.2.2 y hy out[k] (by rw [List.mem_drop_iff_getElem]; exact ⟨0, by omega, by simp⟩)) h1
  · simp at hy
    subst hy
    exact h1
theorem srt_src {w : World} {g n k cap d1 : Nat} {out : List ByteArray} {e0 : ByteArray} {cur : Array Value} {dp sp : Option Addr} (hn : out.length = n) (hk : k ≤ n) (hd1 : n + 1 - (k + 1) = d1) (hg : w.heap[g]? = some (.cells cur 9 (0, 0))) (hc : n + 1 ≤ cap) (ht : cur.toList.take (n + 1) = (out ++ [e0]).map Value.string) (h1 : k + 1 < cap → dp = some ⟨g, k + 1, none⟩) (h2 : k < cap → sp = some ⟨g, k, none⟩) :
    0 < ((out.drop k).map Value.string).length → dp = some ⟨g, k + 1, none⟩ ∧ ∃ ad, sp = some ad ∧ ∀ j v, ((out.drop k).map Value.string)[j]? = some v → w.cell? (ad.add j) = some v := by
  intro h0
  simp [hn] at h0
  refine ⟨h1 (by omega), _, h2 (by omega), fun j v hj => ?_⟩
  have hj2 : k + j < out.length := by
    have := (List.getElem?_eq_some_iff.1 hj).1
    simp at this
    omega
  have e1 : v = .string out[k + j] := by
    simp [List.getElem?_drop, List.getElem?_eq_getElem hj2] at hj
    exact hj.symm
  subst e1
  have e2 : (⟨g, k, none⟩ : Addr).add j = ⟨g, k + j, none⟩ := by by_cases h0 : j = 0 <;> simp [Addr.add, h0]
  have h3 := congrArg (fun l => l[k + j]?) ht
  simp only [List.getElem?_take, if_pos (show k + j < n + 1 by omega)] at h3
  rw [e2]
  simp only [World.cell?, hg]
  rw [← Array.getElem?_toList, h3]
  simp [List.getElem?_append, hj2]
theorem srt_cell {w : World} {g k : Nat} {cur cs : List Value} {o : Nat} (hg : w.heap[g]? = some (.cells (splice cur o cs).toArray 9 (0, 0))) (hfit : o + cs.length ≤ cur.length) (hk : k < cur.length) : ∃ v, w.cell? ⟨g, k, none⟩ = some v := by
  have h1 := length_splice cur o cs hfit
  have h2 : k < (splice cur o cs).length := by omega
  exact ⟨(splice cur o cs)[k], by simp [World.cell?, hg, h2]⟩
set_option maxHeartbeats 4000000 in
theorem sortedTexts_any (l : List ByteArray) (hl : l.length ≤ 1000) (v : Value) (w : World) (X : Nat → Prop) (hv : LV Value.string w X v l) :
    Calls Tryz.prog 28 #[v] w fun e w' => ∃ ov out, e = .returned ov ∧ AscB out ∧ (∀ s, s ∈ out ↔ s ∈ l) ∧ LV Value.string w' (fun b => w.heap.size ≤ b) ov out ∧ Below w.heap.size w w' := by
  have HV := hide hv
  obtain ⟨a, c, rfl, ⟨hl2, _⟩, _⟩ := hv
  go_enter Tryz.func28, Tryz.ntmps28
  go_wp2_with fail
  go_loopw [3, 4] (fun v o wr => SrO l w v o wr) (fun v o wr => l.length - (intOf o).toNat)
  case atStart => exact ⟨0, [], rfl, Nat.zero_le _, ⟨World.ownsRow_nil _ _ _ _, List.Pairwise.nil, by simp, Nat.le_refl _, Below.refl _ _⟩⟩
  case round =>
    obtain ⟨i, out, rfl, hi, hI⟩ := hrel
    have HI := hide hI
    by_cases hlt : i < l.length
    · obtain ⟨oa, oc, rfl⟩ := own_shapeH hI.own
      have hol : out.length ≤ 1000 := by have := hI.len; omega
      have LC0 : Hid (∀ w', Below w.heap.size w w' → ∃ b o, a = some ⟨b, o, none⟩ ∧ w'.cell? ⟨b, o + i, none⟩ = some (.string l[i])) := fun w' hb => by
        obtain ⟨a', c', e, _, h1⟩ := HV.out.later hb
        obtain ⟨b, o, h2, _, h3⟩ := h1.resolve_left (fun h => by rw [h] at hlt; simp at hlt)
        cases e
        exact ⟨b, o, h2, h3 i hlt⟩
      obtain ⟨lb, lo, rfl, lc⟩ := LC0.out wr hI.bl
      have LC : Hid (∀ w', Below w.heap.size w w' → w'.cell? ⟨lb, lo + i, none⟩ = some (.string l[i])) := fun w' hb => by
        obtain ⟨b, o, e, h⟩ := LC0.out w' hb
        cases e
        exact h
      clear LC0
      have hlt2 : (i : Int) < (l.length : Int) := by omega
      obtain ⟨w1, hw1⟩ : ∃ w1, w1 = wr := ⟨wr, rfl⟩
      subst hw1
      generalize hx : l[i] = x at *
      have HX := hide hx
      clear hx hI
      generalize hn : out.length = n at *
      have HN := hide hn
      clear hn
      go_wp2_with fail
      go_loopw [5] (fun o w2 => SrK x out w1 o w2) (fun o w2 => (intOf o).toNat)
      case atStart => exact ⟨n, 0, rfl, by rw [HN.out]; exact Nat.le_refl _, by rw [← HN.out]; simp, rfl⟩
      case round =>
        obtain ⟨k, m, rfl, hk, hd, rfl⟩ := hrel
        have HD := hide hd
        clear hd
        rw [HN.out] at hk
        rcases Nat.eq_zero_or_pos k with rfl | hk0
        · go_wp2_with fail
          go_quiet (fail)
          obtain ⟨nq1, hnq⟩ : ∃ x, x = nq := ⟨_, rfl⟩
          subst hnq
          go_wp2_with fail
          go_quiet (fail)
          have HI5 : Hid (SrI l w i out (.slice oa n oc) (((w1.drewN m).drewN nq1).drewN nq)) := ⟨HI.out.own, HI.out.asc, HI.out.mem, HI.out.len, below_drewN (below_drewN (below_drewN HI.out.bl _) _) _⟩
          generalize ((w1.drewN m).drewN nq1).drewN nq = w5 at *
          clear lc HI
          obtain ⟨kk, hkk⟩ : ∃ kk : Nat, kk = 0 := ⟨0, rfl⟩
          have HLO : Hid (∀ y ∈ out.take kk, ltB y x = true) := fun y hy => by rw [hkk] at hy; simp at hy
          rw [← hkk] at HD
          rw [show ((0 : Nat) : Int) = (kk : Int) by rw [hkk]]
          clear hk
          have hk : kk ≤ n := by omega
          clear hkk
          obtain ⟨g8, cap8, w8, hr8, ho8, hx8, hat8⟩ := app_strH (s := ⟨#[]⟩) HI5.out.own HI5.out.bl.size (by rw [HN.out]; omega)
          rw [HN.out] at hr8 ho8
          have HR8 := hide hr8
          have HB8 : Hid (Below w.heap.size w w8) := HI5.out.bl.trans (hx8.below HI5.out.bl.size fun b e => (HI5.out.own.lt b e.symm).1)
          obtain ⟨cur8, hg8, hh8, hnc8, hcm8, hcs8, htk8⟩ : ∃ cur : Array Value, w.heap.size ≤ g8 ∧ w8.heap[g8]? = some (.cells cur 9 (0, 0)) ∧ n + 1 ≤ cap8 ∧ cap8 ≤ maxLen ∧ cur.size = cap8 ∧ cur.toList.take (n + 1) = (out ++ [(⟨#[]⟩ : ByteArray)]).map Value.string := by
            have e0 : (out ++ [(⟨#[]⟩ : ByteArray)]).length = n + 1 := by simp [HN.out]
            rw [e0] at ho8
            rcases ho8.2 with ⟨h1, _⟩ | ⟨g', cap', cur, h1, h2, h3, h4, h5, h6, h7⟩
            · cases h1
            · cases h1
              exact ⟨cur, h2, h3, h4, h5, by omega, by simpa using h7⟩
          have HG8 := hide hh8
          have HGB := hide hg8
          have HTK := hide htk8
          have HNC := hide hnc8
          have HCM := hide hcm8
          have HCS := hide hcs8
          clear hr8 ho8 hx8 hat8 hg8 hh8 hnc8 hcm8 hcs8 htk8
          have hKn : kk ≤ n := by omega
          have HKN := hide hKn
          have HWK : Hid (IntKind.i64.wrap ((kk : Int) + 1) = (kk : Int) + 1) := by unfold Hid; rw [IntKind.wrap_i64] <;> omega
          have HSL1 : Hid (∀ w', Sem.run Tryz.prog (Instr.slice 31 (.slice (some ⟨g8, 0, none⟩) (n + 1) cap8) (some (.int .i64 ((kk : Int) + 1))) none none) w' = .ok (.slice (if cap8 = kk + 1 then some ⟨g8, 0, none⟩ else some ⟨g8, kk + 1, none⟩) (n + 1 - (kk + 1)) (cap8 - (kk + 1))) w') := fun w' => by rw [show ((kk : Int) + 1) = ((kk + 1 : Nat) : Int) by omega]; exact slice_from (by omega) w'
          have HSL2 : Hid (∀ w', Sem.run Tryz.prog (Instr.slice 31 (.slice (some ⟨g8, 0, none⟩) (n + 1) cap8) (some (.int .i64 (kk : Int))) none none) w' = .ok (.slice (if cap8 = kk then some ⟨g8, 0, none⟩ else some ⟨g8, kk, none⟩) (n + 1 - kk) (cap8 - kk)) w') := fun w' => slice_from (by omega) w'
          generalize hdp : (if cap8 = kk + 1 then some ⟨g8, 0, none⟩ else some (⟨g8, kk + 1, none⟩ : Addr)) = dp at HSL1
          have HDP : Hid (kk + 1 < cap8 → dp = some ⟨g8, kk + 1, none⟩) := fun h => by rw [← hdp, if_neg (by omega)]
          generalize hsp : (if cap8 = kk then some ⟨g8, 0, none⟩ else some (⟨g8, kk, none⟩ : Addr)) = sp at HSL2
          have HSP : Hid (kk < cap8 → sp = some ⟨g8, kk, none⟩) := fun h => by rw [← hsp, if_neg (by omega)]
          clear hdp hsp
          generalize hd1 : n + 1 - (kk + 1) = d1 at HSL1
          generalize hd2 : n + 1 - kk = d2 at HSL2
          generalize cap8 - (kk + 1) = c1 at HSL1
          generalize cap8 - kk = c2 at HSL2
          have HD1 := hide hd1
          have HD2 := hide hd2
          clear hd1 hd2
          go_wp2_with (at_builtin; refine wpList_append_eq rfl _ _ _ _ rfl rfl rfl HR8.out ?_)
          have HB8d : Hid (Below w.heap.size w w8.drew) := below_drewN HB8.out 1
          refine wp_region_held_drew (S := fun w' => Below w.heap.size w w') (by kernel_rfl) HB8d.out (fun hHeld => ?_)
          have HG8d : Hid (w8.drew.heap[g8]? = some (.cells cur8 9 (0, 0))) := HG8.out
          generalize w8.drew = wd at *
          refine wpAnyH_take (i := 0) (v := ?_) rfl (by kernel_rfl) (by kernel_rfl) (by kernel_rfl) (fun _ _ _ h => h) (Or.inl ⟨by rfl, ?_⟩) (by assumption) ?_
          rotate_left
          · intro w' hSw
            go_simp <;> with_reducible rfl
          try simp only [Act.put, List.setIfInBounds_toArray, List.set_cons_zero, List.set_cons_succ, List.getElem_toArray, List.getElem_cons_succ, List.getElem_cons_zero]
          refine wpAnyH_take (i := 1) (v := ?_) rfl (by kernel_rfl) (by kernel_rfl) (by kernel_rfl) (fun _ _ _ h => h) (Or.inl ⟨by rfl, ?_⟩) (by assumption) ?_
          rotate_left
          · intro w' hSw
            go_simp <;> with_reducible rfl
          try simp only [Act.put, List.setIfInBounds_toArray, List.set_cons_zero, List.set_cons_succ, List.getElem_toArray, List.getElem_cons_succ, List.getElem_cons_zero]
          refine wpAnyH_take (i := 2) (v := ?_) rfl (by kernel_rfl) (by kernel_rfl) (by kernel_rfl) (fun _ _ _ h => h) (Or.inl ⟨by rfl, ?_⟩) (by assumption) ?_
          rotate_left
          · intro w' hSw
            have hwk := HWK.out
            go_simp <;> with_reducible rfl
          try simp only [Act.put, List.setIfInBounds_toArray, List.set_cons_zero, List.set_cons_succ, List.getElem_toArray, List.getElem_cons_succ, List.getElem_cons_zero]
          refine wpAnyH_take (i := 3) (v := ?_) rfl (by kernel_rfl) (by kernel_rfl) (by kernel_rfl) (fun _ _ _ h => h) (Or.inl ⟨by rfl, ?_⟩) (by assumption) ?_
          rotate_left
          · intro w' hSw
            have hs1 := HSL1.out w'
            go_simp <;> with_reducible rfl
          try simp only [Act.put, List.setIfInBounds_toArray, List.set_cons_zero, List.set_cons_succ, List.getElem_toArray, List.getElem_cons_succ, List.getElem_cons_zero]
          refine wpAnyH_take (i := 4) (v := ?_) rfl (by kernel_rfl) (by kernel_rfl) (by kernel_rfl) (fun _ _ _ h => h) (Or.inl ⟨by rfl, ?_⟩) (by assumption) ?_
          rotate_left
          · intro w' hSw
            go_simp <;> with_reducible rfl
          try simp only [Act.put, List.setIfInBounds_toArray, List.set_cons_zero, List.set_cons_succ, List.getElem_toArray, List.getElem_cons_succ, List.getElem_cons_zero]
          refine wpAnyH_take (i := 5) (v := ?_) rfl (by kernel_rfl) (by kernel_rfl) (by kernel_rfl) (fun _ _ _ h => h) (Or.inl ⟨by rfl, ?_⟩) (by assumption) ?_
          rotate_left
          · intro w' hSw
            go_simp <;> with_reducible rfl
          try simp only [Act.put, List.setIfInBounds_toArray, List.set_cons_zero, List.set_cons_succ, List.getElem_toArray, List.getElem_cons_succ, List.getElem_cons_zero]
          refine wpAnyH_take (i := 6) (v := ?_) rfl (by kernel_rfl) (by kernel_rfl) (by kernel_rfl) (fun _ _ _ h => h) (Or.inl ⟨by rfl, ?_⟩) (by assumption) ?_
          rotate_left
          · intro w' hSw
            have hs2 := HSL2.out w'
            go_simp <;> with_reducible rfl
          try simp only [Act.put, List.setIfInBounds_toArray, List.set_cons_zero, List.set_cons_succ, List.getElem_toArray, List.getElem_cons_succ, List.getElem_cons_zero]
          refine wpAnyH_ready (rs := [7]) (by kernel_rfl) (by simp) ?_
          refine AllReadyH.cons rfl (fun K hK => ?_) AllReadyH.nil
          refine step_copy_splice rfl _ _ _ _ rfl 9 Tryz.underlying31 (by kernel_rfl) _ _ _ _ _ _ rfl rfl g8 (kk + 1) cur8.toList 9 (by simpa using HG8d.out) ((out.drop (kk)).map Value.string) ?_ ?_ ?_ (fun v hv => by obtain ⟨s, _, rfl⟩ := List.mem_map.1 hv; rfl) w.heap.size w HB8d.out HGB.out (fun w4 HG4 hb4 => ?_)
          · have h1 := HD1.out; have h2 := HD2.out; have h3 := HKN.out; rw [List.length_map, List.length_drop, HN.out, ← h1, ← h2]; show _ = min _ _; omega
          · exact srt_src HN.out HKN.out HD1.out HG8d.out HNC.out HTK.out HDP.out HSP.out
          · have h1 := HCS.out; have h2 := HNC.out; have h3 := HKN.out; simp [HN.out]; omega
          have HB4 := hide hb4
          clear hb4
          refine hK.out _ _ (by exact HB4.out) (fun hHeld => ?_)
          clear hK K
          try simp only [Act.put, List.setIfInBounds_toArray, List.set_cons_zero, List.set_cons_succ, List.getElem_toArray, List.getElem_cons_succ, List.getElem_cons_zero]
          refine wpAnyH_done (by kernel_rfl) ?_ _
          have lc4 := LC.out w4 HB4.out
          obtain ⟨yv, c4⟩ : ∃ yv, w4.cell? ⟨g8, kk, none⟩ = some yv := srt_cell HG4.out (by have := HCS.out; have := HNC.out; have := HKN.out; simp [HN.out]; omega) (by have := HCS.out; have := HNC.out; have := HKN.out; simp; omega)
          have f4 : w4.frozen? ⟨g8, kk, none⟩ = false := by have h := HG4.out; simp [World.frozen?, h]
          have z4 : g8 < w4.heap.size := World.block_lt_of_cell? w4 _ c4
          have k1 : ((kk : Nat) : Int) < (n : Int) + 1 := by have := HKN.out; omega
          go_wp2_with fail
          go_roundw
          case rel =>
            refine ⟨i + 1, out.take (kk) ++ x :: out.drop (kk), by go_num, by omega, ⟨own_ins HN.out HKN.out HGB.out HNC.out HCM.out HCS.out HTK.out HG4.out, asc_ins (by rw [List.take_append_drop]; exact HI5.out.asc) HLO.out HD.out, fun s => ?_, ?_, HB4.out.setCell (p := ⟨g8, kk, none⟩) (by exact HGB.out) _⟩⟩
            · rw [List.take_succ_eq_append_getElem hlt, HX.out, List.mem_append, List.mem_append, ← HI5.out.mem]
              conv => rhs; rw [← List.take_append_drop (kk) out]
              simp only [List.mem_append, List.mem_cons, List.not_mem_nil, or_false]
              constructor
              · rintro (h | h | h)
                · exact Or.inl (Or.inl h)
                · exact Or.inr h
                · exact Or.inl (Or.inr h)
              · rintro ((h | h) | h)
                · exact Or.inl h
                · exact Or.inr (Or.inr h)
                · exact Or.inr (Or.inl h)
            · have h1 := HI5.out.len
              have h2 := HN.out
              simp
              omega
          case measure => simp [intOf]; omega
        · obtain ⟨k', rfl⟩ : ∃ k', k = k' + 1 := ⟨k - 1, by omega⟩
          have hk2 : k' < out.length := by rw [HN.out]; omega
          obtain ⟨g, cap, e, yc⟩ := own_cell HI.out.own hk2
          rw [HN.out] at e
          cases e
          generalize hy : out[k'] = y at *
          have HY := hide hy
          clear hy
          have hk3 : (k' : Int) < (n : Int) := by omega
          have hk4 : (0 : Int) < (k' : Int) + 1 := by omega
          have hk5 : (0 : Int) ≤ (k' : Int) := by omega
          cases hq : Op.bytesLess x.toList y.toList with
          | true =>
            go_wp2_with fail
            go_quiet (fail)
            go_wp2_with fail
            go_roundw
            case rel =>
              refine ⟨k', m + nq, rfl, by rw [HN.out]; omega, fun y2 hy2 => ?_, by simp [World.drewN, Nat.add_assoc]⟩
              rw [List.drop_eq_getElem_cons hk2] at hy2
              rcases List.mem_cons.1 hy2 with e | e
              · rw [e, HY.out]; exact hq
              · exact HD.out y2 e
            case measure => simp [intOf]
          | false =>
            cases he : (y.toList == x.toList) with
            | true =>
              go_wp2_with fail
              go_quiet (fail)
              obtain ⟨nq1, hnq⟩ : ∃ x, x = nq := ⟨_, rfl⟩
              subst hnq
              go_wp2_with fail
              go_quiet (fail)
              have HI5 : Hid (SrI l w i out (.slice (some ⟨g, 0, none⟩) n oc) (((w1.drewN m).drewN nq1).drewN nq)) := ⟨HI.out.own, HI.out.asc, HI.out.mem, HI.out.len, below_drewN (below_drewN (below_drewN HI.out.bl _) _) _⟩
              generalize ((w1.drewN m).drewN nq1).drewN nq = w5 at *
              go_wp2_with fail
              go_roundw
              case rel =>
                have e1 : y = x := bytes_inj (eq_of_beq he)
                have hxm : x ∈ out := by rw [← e1, ← HY.out]; exact List.getElem_mem hk2
                refine ⟨i + 1, out, by go_num, by omega, ⟨HI5.out.own, HI.out.asc, fun s => ?_, by have := HI.out.len; omega, HI5.out.bl⟩⟩
                rw [List.take_succ_eq_append_getElem hlt, HX.out, List.mem_append, ← HI.out.mem]
                constructor
                · exact Or.inl
                · rintro (h | h)
                  · exact h
                  · simp at h; subst h; exact hxm
              case measure => simp [intOf]; omega
            | false =>
              go_wp2_with fail
              go_quiet (fail)
              obtain ⟨nq1, hnq⟩ : ∃ x, x = nq := ⟨_, rfl⟩
              subst hnq
              go_wp2_with fail
              go_quiet (fail)
              have HI5 : Hid (SrI l w i out (.slice (some ⟨g, 0, none⟩) n oc) (((w1.drewN m).drewN nq1).drewN nq)) := ⟨HI.out.own, HI.out.asc, HI.out.mem, HI.out.len, below_drewN (below_drewN (below_drewN HI.out.bl _) _) _⟩
              have HLO : Hid (∀ y ∈ out.take (k' + 1), ltB y x = true) := lt_of_kept HI.out.asc hk2 (by rw [HY.out]; exact hq) (by rw [HY.out]; intro e; rw [e] at he; simp at he)
              generalize ((w1.drewN m).drewN nq1).drewN nq = w5 at *
              clear lc HI yc hq he HY hk2 hk0
              have hk : k' + 1 ≤ n := by omega
              clear hk3 hk4 hk5
              generalize k' + 1 = kk at *
              obtain ⟨g8, cap8, w8, hr8, ho8, hx8, hat8⟩ := app_strH (s := ⟨#[]⟩) HI5.out.own HI5.out.bl.size (by rw [HN.out]; omega)
              rw [HN.out] at hr8 ho8
              have HR8 := hide hr8
              have HB8 : Hid (Below w.heap.size w w8) := HI5.out.bl.trans (hx8.below HI5.out.bl.size fun b e => (HI5.out.own.lt b e.symm).1)
              obtain ⟨cur8, hg8, hh8, hnc8, hcm8, hcs8, htk8⟩ : ∃ cur : Array Value, w.heap.size ≤ g8 ∧ w8.heap[g8]? = some (.cells cur 9 (0, 0)) ∧ n + 1 ≤ cap8 ∧ cap8 ≤ maxLen ∧ cur.size = cap8 ∧ cur.toList.take (n + 1) = (out ++ [(⟨#[]⟩ : ByteArray)]).map Value.string := by
                have e0 : (out ++ [(⟨#[]⟩ : ByteArray)]).length = n + 1 := by simp [HN.out]
                rw [e0] at ho8
                rcases ho8.2 with ⟨h1, _⟩ | ⟨g', cap', cur, h1, h2, h3, h4, h5, h6, h7⟩
                · cases h1
                · cases h1
                  exact ⟨cur, h2, h3, h4, h5, by omega, by simpa using h7⟩
              have HG8 := hide hh8
              have HGB := hide hg8
              have HTK := hide htk8
              have HNC := hide hnc8
              have HCM := hide hcm8
              have HCS := hide hcs8
              clear hr8 ho8 hx8 hat8 hg8 hh8 hnc8 hcm8 hcs8 htk8
              have hKn : kk ≤ n := by omega
              have HKN := hide hKn
              have HWK : Hid (IntKind.i64.wrap ((kk : Int) + 1) = (kk : Int) + 1) := by unfold Hid; rw [IntKind.wrap_i64] <;> omega
              have HSL1 : Hid (∀ w', Sem.run Tryz.prog (Instr.slice 31 (.slice (some ⟨g8, 0, none⟩) (n + 1) cap8) (some (.int .i64 ((kk : Int) + 1))) none none) w' = .ok (.slice (if cap8 = kk + 1 then some ⟨g8, 0, none⟩ else some ⟨g8, kk + 1, none⟩) (n + 1 - (kk + 1)) (cap8 - (kk + 1))) w') := fun w' => by rw [show ((kk : Int) + 1) = ((kk + 1 : Nat) : Int) by omega]; exact slice_from (by omega) w'
              have HSL2 : Hid (∀ w', Sem.run Tryz.prog (Instr.slice 31 (.slice (some ⟨g8, 0, none⟩) (n + 1) cap8) (some (.int .i64 (kk : Int))) none none) w' = .ok (.slice (if cap8 = kk then some ⟨g8, 0, none⟩ else some ⟨g8, kk, none⟩) (n + 1 - kk) (cap8 - kk)) w') := fun w' => slice_from (by omega) w'
              generalize hdp : (if cap8 = kk + 1 then some ⟨g8, 0, none⟩ else some (⟨g8, kk + 1, none⟩ : Addr)) = dp at HSL1
              have HDP : Hid (kk + 1 < cap8 → dp = some ⟨g8, kk + 1, none⟩) := fun h => by rw [← hdp, if_neg (by omega)]
              generalize hsp : (if cap8 = kk then some ⟨g8, 0, none⟩ else some (⟨g8, kk, none⟩ : Addr)) = sp at HSL2
              have HSP : Hid (kk < cap8 → sp = some ⟨g8, kk, none⟩) := fun h => by rw [← hsp, if_neg (by omega)]
              clear hdp hsp
              generalize hd1 : n + 1 - (kk + 1) = d1 at HSL1
              generalize hd2 : n + 1 - kk = d2 at HSL2
              generalize cap8 - (kk + 1) = c1 at HSL1
              generalize cap8 - kk = c2 at HSL2
              have HD1 := hide hd1
              have HD2 := hide hd2
              clear hd1 hd2
              go_wp2_with (at_builtin; refine wpList_append_eq rfl _ _ _ _ rfl rfl rfl HR8.out ?_)
              have HB8d : Hid (Below w.heap.size w w8.drew) := below_drewN HB8.out 1
              refine wp_region_held_drew (S := fun w' => Below w.heap.size w w') (by kernel_rfl) HB8d.out (fun hHeld => ?_)
              have HG8d : Hid (w8.drew.heap[g8]? = some (.cells cur8 9 (0, 0))) := HG8.out
              generalize w8.drew = wd at *
              refine wpAnyH_take (i := 0) (v := ?_) rfl (by kernel_rfl) (by kernel_rfl) (by kernel_rfl) (fun _ _ _ h => h) (Or.inl ⟨by rfl, ?_⟩) (by assumption) ?_
              rotate_left
              · intro w' hSw
                go_simp <;> with_reducible rfl
              try simp only [Act.put, List.setIfInBounds_toArray, List.set_cons_zero, List.set_cons_succ, List.getElem_toArray, List.getElem_cons_succ, List.getElem_cons_zero]
              refine wpAnyH_take (i := 1) (v := ?_) rfl (by kernel_rfl) (by kernel_rfl) (by kernel_rfl) (fun _ _ _ h => h) (Or.inl ⟨by rfl, ?_⟩) (by assumption) ?_
              rotate_left
              · intro w' hSw
                go_simp <;> with_reducible rfl
              try simp only [Act.put, List.setIfInBounds_toArray, List.set_cons_zero, List.set_cons_succ, List.getElem_toArray, List.getElem_cons_succ, List.getElem_cons_zero]
              refine wpAnyH_take (i := 2) (v := ?_) rfl (by kernel_rfl) (by kernel_rfl) (by kernel_rfl) (fun _ _ _ h => h) (Or.inl ⟨by rfl, ?_⟩) (by assumption) ?_
              rotate_left
              · intro w' hSw
                have hwk := HWK.out
                go_simp <;> with_reducible rfl
              try simp only [Act.put, List.setIfInBounds_toArray, List.set_cons_zero, List.set_cons_succ, List.getElem_toArray, List.getElem_cons_succ, List.getElem_cons_zero]
              refine wpAnyH_take (i := 3) (v := ?_) rfl (by kernel_rfl) (by kernel_rfl) (by kernel_rfl) (fun _ _ _ h => h) (Or.inl ⟨by rfl, ?_⟩) (by assumption) ?_
              rotate_left
              · intro w' hSw
                have hs1 := HSL1.out w'
                go_simp <;> with_reducible rfl
              try simp only [Act.put, List.setIfInBounds_toArray, List.set_cons_zero, List.set_cons_succ, List.getElem_toArray, List.getElem_cons_succ, List.getElem_cons_zero]
              refine wpAnyH_take (i := 4) (v := ?_) rfl (by kernel_rfl) (by kernel_rfl) (by kernel_rfl) (fun _ _ _ h => h) (Or.inl ⟨by rfl, ?_⟩) (by assumption) ?_
              rotate_left
              · intro w' hSw
                go_simp <;> with_reducible rfl
              try simp only [Act.put, List.setIfInBounds_toArray, List.set_cons_zero, List.set_cons_succ, List.getElem_toArray, List.getElem_cons_succ, List.getElem_cons_zero]
              refine wpAnyH_take (i := 5) (v := ?_) rfl (by kernel_rfl) (by kernel_rfl) (by kernel_rfl) (fun _ _ _ h => h) (Or.inl ⟨by rfl, ?_⟩) (by assumption) ?_
              rotate_left
              · intro w' hSw
                go_simp <;> with_reducible rfl
              try simp only [Act.put, List.setIfInBounds_toArray, List.set_cons_zero, List.set_cons_succ, List.getElem_toArray, List.getElem_cons_succ, List.getElem_cons_zero]
              refine wpAnyH_take (i := 6) (v := ?_) rfl (by kernel_rfl) (by kernel_rfl) (by kernel_rfl) (fun _ _ _ h => h) (Or.inl ⟨by rfl, ?_⟩) (by assumption) ?_
              rotate_left
              · intro w' hSw
                have hs2 := HSL2.out w'
                go_simp <;> with_reducible rfl
              try simp only [Act.put, List.setIfInBounds_toArray, List.set_cons_zero, List.set_cons_succ, List.getElem_toArray, List.getElem_cons_succ, List.getElem_cons_zero]
              refine wpAnyH_ready (rs := [7]) (by kernel_rfl) (by simp) ?_
              refine AllReadyH.cons rfl (fun K hK => ?_) AllReadyH.nil
              refine step_copy_splice rfl _ _ _ _ rfl 9 Tryz.underlying31 (by kernel_rfl) _ _ _ _ _ _ rfl rfl g8 (kk + 1) cur8.toList 9 (by simpa using HG8d.out) ((out.drop (kk)).map Value.string) ?_ ?_ ?_ (fun v hv => by obtain ⟨s, _, rfl⟩ := List.mem_map.1 hv; rfl) w.heap.size w HB8d.out HGB.out (fun w4 HG4 hb4 => ?_)
              · have h1 := HD1.out; have h2 := HD2.out; have h3 := HKN.out; rw [List.length_map, List.length_drop, HN.out, ← h1, ← h2]; show _ = min _ _; omega
              · exact srt_src HN.out HKN.out HD1.out HG8d.out HNC.out HTK.out HDP.out HSP.out
              · have h1 := HCS.out; have h2 := HNC.out; have h3 := HKN.out; simp [HN.out]; omega
              have HB4 := hide hb4
              clear hb4
              refine hK.out _ _ (by exact HB4.out) (fun hHeld => ?_)
              clear hK K
              try simp only [Act.put, List.setIfInBounds_toArray, List.set_cons_zero, List.set_cons_succ, List.getElem_toArray, List.getElem_cons_succ, List.getElem_cons_zero]
              refine wpAnyH_done (by kernel_rfl) ?_ _
              have lc4 := LC.out w4 HB4.out
              obtain ⟨yv, c4⟩ : ∃ yv, w4.cell? ⟨g8, kk, none⟩ = some yv := srt_cell HG4.out (by have := HCS.out; have := HNC.out; have := HKN.out; simp [HN.out]; omega) (by have := HCS.out; have := HNC.out; have := HKN.out; simp; omega)
              have f4 : w4.frozen? ⟨g8, kk, none⟩ = false := by have h := HG4.out; simp [World.frozen?, h]
              have z4 : g8 < w4.heap.size := World.block_lt_of_cell? w4 _ c4
              have k1 : ((kk : Nat) : Int) < (n : Int) + 1 := by have := HKN.out; omega
              go_wp2_with fail
              go_roundw
              case rel =>
                refine ⟨i + 1, out.take (kk) ++ x :: out.drop (kk), by go_num, by omega, ⟨own_ins HN.out HKN.out HGB.out HNC.out HCM.out HCS.out HTK.out HG4.out, asc_ins (by rw [List.take_append_drop]; exact HI5.out.asc) HLO.out HD.out, fun s => ?_, ?_, HB4.out.setCell (p := ⟨g8, kk, none⟩) (by exact HGB.out) _⟩⟩
                · rw [List.take_succ_eq_append_getElem hlt, HX.out, List.mem_append, List.mem_append, ← HI5.out.mem]
                  conv => rhs; rw [← List.take_append_drop (kk) out]
                  simp only [List.mem_append, List.mem_cons, List.not_mem_nil, or_false]
                  constructor
                  · rintro (h | h | h)
                    · exact Or.inl (Or.inl h)
                    · exact Or.inr h
                    · exact Or.inl (Or.inr h)
                  · rintro ((h | h) | h)
                    · exact Or.inl h
                    · exact Or.inr (Or.inr h)
                    · exact Or.inr (Or.inl h)
                · have h1 := HI5.out.len
                  have h2 := HN.out
                  simp
                  omega
              case measure => simp [intOf]; omega
    · have hie : i = l.length := by omega
      go_wp2_with fail
      go_ret
      refine ⟨_, out, rfl, HI.out.asc, fun s => ?_, (LV.of_own HI.out.own), HI.out.bl⟩
      rw [HI.out.mem, hie, List.take_length]
end Go.Proofs.YtdmaijmglblccaaGreatDoor
