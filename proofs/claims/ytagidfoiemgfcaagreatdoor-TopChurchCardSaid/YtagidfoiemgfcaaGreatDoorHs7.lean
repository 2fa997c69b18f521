/- Walks: reduce.Steps, to its end. -/
import Derived.Test.YtagidfoiemgfcaaGreatDoorHs8
namespace Go.Proofs.YtagidfoiemgfcaaGreatDoor
open Go.RowKit Go.Shelf
attribute [local go_sem] Oper.semAt_some
set_option linter.unusedSimpArgs false
set_option linter.unusedVariables false
set_option maxRecDepth 8000

open Classical in
noncomputable def stE (t : Lm) (u : Int) : Int := if lamE u 0 t = 0 then (if ∃ p ∈ hndT 2001 t, badH p then 8 else 0) else lamE u 0 t
def StPost (t : Lm) (u : Int) (w : World) (e : Ending) (w' : World) : Prop :=
  Below w.heap.size w w' ∧ ((stE t u = 0 ∧ ∃ a c, e = .returned (.tuple #[.slice a (stsT 2001 t).length c, .int .i64 0]) ∧ SlM w' (fun b => w.heap.size ≤ b) a (stsT 2001 t)) ∨ (stE t u ≠ 0 ∧ e = .returned (.tuple #[.slice none 0 0, .int .i64 (stE t u)])))
/-- The same, and the steps lie in a row of their own. -/
def StPostR (t : Lm) (u : Int) (w : World) (e : Ending) (w' : World) : Prop :=
  Below w.heap.size w w' ∧ ((stE t u = 0 ∧ ∃ a c, e = .returned (.tuple #[.slice a (stsT 2001 t).length c, .int .i64 0]) ∧ SlM w' (fun b => w.heap.size ≤ b) a (stsT 2001 t) ∧ ∃ N xs, w.heap.size ≤ N ∧ N ≤ w'.heap.size ∧ RowM w' N 26 (fun _ => False) (.slice a (stsT 2001 t).length c) (stsT 2001 t) xs) ∨ (stE t u ≠ 0 ∧ e = .returned (.tuple #[.slice none 0 0, .int .i64 (stE t u)])))
theorem owns_keptS {w w' : World} {N T s n : Nat} {v : Value} {xs : List Value} (h : w.ownsRow N T s v n xs) (hk : ∀ b, v.ownBlock = some b → w'.heap[b]? = w.heap[b]?) : w'.ownsRow N T s v n xs := by
  obtain ⟨hl, h1⟩ := h
  refine ⟨hl, ?_⟩
  rcases h1 with h1 | ⟨g, cap, cur, hv, hg, hh, hr⟩
  · exact Or.inl h1
  · exact Or.inr ⟨g, cap, cur, hv, hg, by rw [hk g (by rw [hv]; rfl)]; exact hh, hr⟩

theorem appZ {N P : Nat} {cur : World} {v : Value} {l : List Lm} {xs : List Value} (ho : cur.ownsRow N 26 3 v l.length xs) (hP : Blk cur P #[.int .i64 0, .int .i64 0, .slice none 0 0] 26) (hn : l.length ≤ 1000000) (hW : N ≤ cur.heap.size) :
    ∃ g cap w3, (Builtin.append_ #[24, 24] 24 #[v, .slice (some ⟨P, 0, none⟩) 1 1]).run Tryz.prog cur = .ok (.slice (some ⟨g, 0, none⟩) (l.length + 1) cap) w3 ∧ w3.ownsRow N 26 3 (.slice (some ⟨g, 0, none⟩) (l.length + 1) cap) (l.length + 1) (xs ++ [.int .i64 0, .int .i64 0, .slice none 0 0]) ∧ cur.grownBy w3 v.ownBlock ∧ (v.ownBlock = some g ∨ g = cur.heap.size) ∧ g < w3.heap.size := by
  obtain ⟨i0, hi, hz0, hz1, hz2⟩ := info_parts Tryz.infoLam
  exact run_append_lies (P := Tryz.prog) (w := cur) 24 24 N 26 i0 _ 3 40 Tryz.underlying24 hi hz0 hz1 hz2 rfl (by decide) v l.length xs ho
    ⟨P, 0, none⟩ 1 1 [.int .i64 0, .int .i64 0, .slice none 0 0] rfl (fun j u hj => by
      have e : (⟨P, 0, none⟩ : Addr).add j = ⟨P, j, none⟩ := by
        by_cases h0 : j = 0
        · subst h0; simp [Addr.add]
        · simp [Addr.add, h0]
      rw [e, hP.cell j]
      simpa using hj) (fun y hy => by simp at hy; rcases hy with rfl | rfl | rfl <;> rfl) (by decide) (by unfold maxLen; omega) (by omega) hW _ rfl

set_option maxHeartbeats 8000000 in
theorem rStepsR_any (t : Lm) (u : Int) (v : Value) (w : World) (X0 : Nat → Prop) (hv : MV w X0 v t) :
    Calls Tryz.prog 10 #[v, .int .i64 u] w fun e w' => StPostR t u w e w' := by
  obtain ⟨a, c, rfl, hs0⟩ := hv
  obtain ⟨X, hX, hs⟩ : ∃ X : Nat → Prop, (∀ b, X b → b < w.heap.size) ∧ SlM w X a t.subs := ⟨fun b => X0 b ∧ b < w.heap.size, fun _ h => h.2, hs0.mono fun b h1 h2 => ⟨h1, h2⟩⟩
  have HX := hide hX
  have HS := hide hs
  clear hX hs hs0
  obtain ⟨W3, hW3⟩ : ∃ W3, W3 = (((w.alloc (.cells #[.int .i64 t.kind, .int .i64 t.idx, .slice a t.subs.length c] 26)).alloc (.cells #[.slice none 0 0] 24)).alloc (.cells #[.int .i64 0] 28)) := ⟨_, rfl⟩
  have HW3 := hide hW3
  have hAF := allocsM_facts [(.cells #[.int .i64 t.kind, .int .i64 t.idx, .slice a t.subs.length c] 26 : Obj), (.cells #[.slice none 0 0] 24 : Obj), (.cells #[.int .i64 0] 28 : Obj)] w
  have eA : allocsM w [(.cells #[.int .i64 t.kind, .int .i64 t.idx, .slice a t.subs.length c] 26 : Obj), (.cells #[.slice none 0 0] 24 : Obj), (.cells #[.int .i64 0] 28 : Obj)] = W3 := by rw [hW3]; rfl
  rw [eA] at hAF
  have hz3 : W3.heap.size = w.heap.size + 3 := hAF.2.1
  have HB3 : Hid (Below w.heap.size w W3) := hAF.1
  have T3 : Hid (Blk W3 w.heap.size #[.int .i64 t.kind, .int .i64 t.idx, .slice a t.subs.length c] 26) := hAF.2.2 0 _ rfl
  have A3 : Hid (Blk W3 (w.heap.size + 1) #[.slice none 0 0] 24) := hAF.2.2 1 _ rfl
  have E3 : Hid (Blk W3 (w.heap.size + 2) #[.int .i64 0] 28) := hAF.2.2 2 _ rfl
  have HV3 : Hid (MV W3 X (.agg #[.int .i64 t.kind, .int .i64 t.idx, .slice a t.subs.length c]) t) := ⟨a, c, rfl, HS.out.later HB3.out⟩
  clear hAF eA hW3
  refine (callsIn_wide (n := 3)).1 ?_
  refine callsIn_of_wp_marks Tryz.func10 rfl trivial ?_ rfl
  simp only [Tryz.ntmps10, List.size_toArray, List.length_cons, List.length_nil, Nat.reduceAdd, Nat.reduceSub, Array.replicate_succ, Array.replicate_zero, List.push_toArray, List.append_toArray, List.nil_append, List.cons_append]
  have hf1 : Fence.wide.fn 19 := trivial
  have hf2 : Fence.wide.fn 15 := trivial
  gi_wp2
  rw [← HW3.out]
  refine (callsIn_wide.2 (lCheck_any t _ u W3 X HV3.out)).mono ?_
  rintro e w1 ⟨rfl, hb1⟩
  have hz1 := hb1.size
  have HB1 := hide (HB3.out.trans (hb1.mono (by omega)))
  have T1 := hide (T3.out.below hb1 (by omega))
  have A1 := hide (A3.out.below hb1 (by omega))
  have E1 := hide (E3.out.below hb1 (by omega))
  clear hb1
  by_cases h : lamE u 0 t = 0
  case neg =>
    have HE : Hid (stE t u = lamE u 0 t) := by unfold Hid stE; rw [if_neg h]
    have HNE := hide h
    have hne : (lamE u 0 t == 0) = false := beq_eq_false_iff_ne.2 h
    have r4 : w1.cell? ⟨w.heap.size + 1, 0, none⟩ = some (.slice none 0 0) := A1.out.cell 0
    have r5 : w1.cell? ⟨w.heap.size + 1 + 1, 0, none⟩ = some (.int .i64 0) := E1.out.cell 0
    have rf4 := A1.out.frozen
    have rf5 : ∀ i, w1.frozen? ⟨w.heap.size + 1 + 1, i, none⟩ = false := E1.out.frozen
    clear h
    gi_wp2
    refine ⟨.tuple #[.slice none 0 0, .int .i64 (lamE u 0 t)], by simp [results, Tryz.results10, go_sem, World.cell?_setCell_same, World.cell?_setCell_other, r4, r5], ?_⟩
    unfold StPostR
    rw [HE.out]
    exact ⟨(HB1.out.setCell (p := ⟨w.heap.size + 1, 0, none⟩) (by simp) _).setCell (p := ⟨w.heap.size + 1 + 1, 0, none⟩) (by simp; omega) _, Or.inr ⟨HNE.out, rfl⟩⟩
  case pos =>
  have hle := lamE_ok h
  rw [h]
  have c0 : w1.cell? ⟨w.heap.size, 0, none⟩ = some (.int .i64 t.kind) := T1.out.cell 0
  have c1 : w1.cell? ⟨w.heap.size, 1, none⟩ = some (.int .i64 t.idx) := T1.out.cell 1
  have c2 : w1.cell? ⟨w.heap.size, 2, none⟩ = some (.slice a t.subs.length c) := T1.out.cell 2
  have HSE : Hid (stE t u = 8 ∨ stE t u = 0) := by
    unfold Hid stE
    rw [if_pos h]
    split
    · exact Or.inl rfl
    · exact Or.inr rfl
  have HS8 : Hid ((∃ p ∈ hndT 2001 t, badH p) → stE t u = 8) := fun hp => by unfold stE; rw [if_pos h, if_pos hp]
  have HS0 : Hid ((¬ ∃ p ∈ hndT 2001 t, badH p) → stE t u = 0) := fun hp => by unfold stE; rw [if_pos h, if_neg hp]
  have HOG := hide (outerG_at 2001 t u (by omega) ⟨hle.1.1, by omega, hle.2.1, by omega⟩)
  have HER := hide (fun p hp => hnd_err 0 2001 t u p hle.1.1 hle.2.1 hp)
  have HOK := hide (fun p hp => hnd_ok 2001 t p hp)
  have HLN : Hid ((hndT 2001 t).length ≤ 200) := by have := hnd_len 2001 t; unfold Hid; omega
  have hub : 0 ≤ u ∧ u ≤ 40 := hle.1
  clear h hle
  have BQ : Hid (Below w1.heap.size w1 (w1.alloc (.cells #[.slice none 0 0] 24))) := (Below.refl _ _).alloc (Nat.le_refl _) _
  have KQ : Hid (Blk (w1.alloc (.cells #[.slice none 0 0] 24)) w1.heap.size #[.slice none 0 0] 24) := Blk.new _ _ _
  have hzQ : (w1.alloc (.cells #[.slice none 0 0] 24)).heap.size = w1.heap.size + 1 := by simp
  have HBQ := hide (HB1.out.trans (BQ.out.mono (by omega)))
  have AQ := hide (A1.out.below BQ.out (by omega))
  have EQ := hide (E1.out.below BQ.out (by omega))
  have TQ := hide (T1.out.below BQ.out (by omega))
  have q0 : (w1.alloc (.cells #[.slice none 0 0] 24)).cell? ⟨w.heap.size, 0, none⟩ = some (.int .i64 t.kind) := TQ.out.cell 0
  have q1 : (w1.alloc (.cells #[.slice none 0 0] 24)).cell? ⟨w.heap.size, 1, none⟩ = some (.int .i64 t.idx) := TQ.out.cell 1
  have q2 : (w1.alloc (.cells #[.slice none 0 0] 24)).cell? ⟨w.heap.size, 2, none⟩ = some (.slice a t.subs.length c) := TQ.out.cell 2
  clear hzQ
  gi_wp2
  have hzQ : (w1.alloc (.cells #[.slice none 0 0] 24)).heap.size = w1.heap.size + 1 := by simp
  clear c0 c1 c2 q0 q1 q2
  generalize (w1.alloc (.cells #[.slice none 0 0] 24)) = wQ at *
  obtain ⟨A, eA⟩ : ∃ A, A = w1.heap.size := ⟨_, rfl⟩
  rw [← eA] at KQ
  simp only [← eA]
  have hA1 : w.heap.size + 3 ≤ A := by omega
  have hA2 : A < wQ.heap.size := by omega
  clear eA hzQ
  refine (callsIn_wide.2 (outerF_any _ t wQ X ⟨a, c, rfl, HS.out.later HBQ.out⟩)).mono ?_
  rintro e w4 ⟨T, aT, cT, rfl, hBT, hsT, hb4⟩
  have hz4 := hb4.size
  have B4 := hide (HBQ.out.trans (hb4.mono (by omega)))
  have A4 := hide (AQ.out.below hb4 (by omega))
  have E4 := hide (EQ.out.below hb4 (by omega))
  have K4 := hide (KQ.out.below hb4 (by omega))
  have T4 := hide hBT
  have S4 := hide hsT
  have hTl := hBT.lt
  clear hb4 hBT hsT
  gi_wp2
  refine wp_range2 (gf := 29) (lb := #[.pointer (some ⟨T, 0, none⟩)]) rfl (enters_of Tryz.func29 (by kernel_rfl) rfl) ?_
  intro r hr1 hr2 hr3 hr4 hr5 hr6
  obtain ⟨D, eD⟩ : ∃ D, D = w4.heap.size := ⟨_, rfl⟩
  have HW5 := hide (allocsM_facts [(.deferred (some []) : Obj), (.loop r : Obj)] w4)
  have eW : allocsM w4 [(.deferred (some []) : Obj), (.loop r : Obj)] = (w4.alloc (.deferred (some []))).alloc (.loop r) := rfl
  rw [eW, ← eD] at HW5
  clear eW
  rw [← eD]
  generalize ((w4.alloc (.deferred (some []))).alloc (.loop r)) = W5 at *
  have hz5 : W5.heap.size = D + 2 := HW5.out.2.1
  have B45 : Hid (Below w4.heap.size w4 W5) := by unfold Hid; rw [← eD]; exact HW5.out.1
  have HD5 : Hid (W5.heap[D]? = some (.deferred (some []))) := HW5.out.2.2 0 _ rfl
  have HL5 : Hid (W5.heap[D + 1]? = some (.loop r)) := HW5.out.2.2 1 _ rfl
  have hD4 : A < D ∧ T < D ∧ w.heap.size + 3 ≤ D := by omega
  have T5 := hide (T4.out.below B45.out (by omega))
  have S5 := hide (S4.out.later B45.out)
  have R45 := hide (A4.out.below B45.out (by omega))
  have R55 := hide (E4.out.below B45.out (by omega))
  have K5 := hide (K4.out.below B45.out (by omega))
  have B5 := hide (B4.out.trans (B45.out.mono (by omega)))
  clear HW5 eD B45 T4 S4 A4 E4 K4
  obtain ⟨rd, hrd⟩ : ∃ rd : Loop, rd = { r with state := .done, pending := some .ret } := ⟨_, rfl⟩
  obtain ⟨rb, hrb⟩ : ∃ rb : Loop, rb = { r with state := .busy } := ⟨_, rfl⟩
  have RH : GoTk (.func (.yield (D + 1)) #[] #[]) (JS X A (w.heap.size + 1) (w.heap.size + 2) (D + 1) r rd W5) (hndT 2001 t) (hndT 2001 t).length := by
    have HR1 := hide hr1
    have HR2 := hide hr2
    have HR3 := hide hr3
    have HR4 := hide hr4
    have HR5 := hide hr5
    have HR6 := hide hr6
    clear hr1 hr2 hr3 hr4 hr5 hr6
    refine Or.inr ⟨D + 1, rfl, fun pre p v Z f W hp hpn hj hv hZ n' => ?_⟩
    obtain ⟨x, ok, z⟩ := p
    have hok := HOK.out _ hp
    have her := HER.out _ hp
    obtain ⟨hK1, hzW, hC, hL, h4, h5, ⟨v9, l, xs, E, hf, hE, hA, ho, hr, hll⟩, hnf, -⟩ := hj
    obtain ⟨xa, xc, rfl, hxs⟩ := hv
    dsimp only at hok her hxs ⊢
    simp only [if_true] at hL h5
    have hLL := hll rfl
    have HNF := hide (hnf rfl)
    have HF := hide hf
    have HE := hide hE
    have HA := hide hA
    have HO := hide ho
    have HRW := hide hr
    have HK1 := hide hK1
    have HC := hide hC
    have H4W := hide h4
    have H5W := hide h5
    have HXS := hide hxs
    have HZ := hide hZ
    have HPK := hide hok
    have HPE := hide her
    have HLL := hide hLL
    have hlL : D + 1 < W.heap.size := (Array.getElem?_eq_some_iff.1 hL).1
    have hdd : D + 1 ≠ A ∧ w.heap.size + 1 ≠ A ∧ w.heap.size + 2 ≠ A ∧ w.heap.size + 1 ≠ D + 1 ∧ w.heap.size + 2 ≠ D + 1 ∧ w.heap.size + 1 ≠ w.heap.size + 2 := by omega
    have HLE : Hid (l.length ≤ 1000000) := by have h1 := HLL.out; have h2 := HLN.out; unfold Hid; rw [h1, List.length_map]; omega
    clear hf hE hA ho hr hK1 hC h4 h5 hxs hZ hll hnf hok her hLL hp
    refine yield_two hrb hrd HR5.out HR6.out HR4.out HR3.out hL HR1.out HR2.out rfl ?_
    have hL2 : (W.alloc (.cells #[.int .i64 x.kind, .int .i64 x.idx, .slice xa x.subs.length xc] 26)).heap[D + 1]? = some (.loop r) := (Below.heap_alloc _ _ _ hlL).trans hL
    have kV : ∀ b, b < W.heap.size → b ≠ D + 1 → ((W.alloc (.cells #[.int .i64 x.kind, .int .i64 x.idx, .slice xa x.subs.length xc] 26)).putObj (D + 1) (.loop rb)).heap[b]? = W.heap[b]? := fun b hb hne => (World.putObj_heap_other hne).trans (Below.heap_alloc _ _ _ hb)
    have hzV : ((W.alloc (.cells #[.int .i64 x.kind, .int .i64 x.idx, .slice xa x.subs.length xc] 26)).putObj (D + 1) (.loop rb)).heap.size = W.heap.size + 1 := by simp
    have hCB : Blk ((W.alloc (.cells #[.int .i64 x.kind, .int .i64 x.idx, .slice xa x.subs.length xc] 26)).putObj (D + 1) (.loop rb)) W.heap.size #[.int .i64 x.kind, .int .i64 x.idx, .slice xa x.subs.length xc] 26 := (World.putObj_heap_other (by omega)).trans (Blk.new W _ _)
    have hLV : ((W.alloc (.cells #[.int .i64 x.kind, .int .i64 x.idx, .slice xa x.subs.length xc] 26)).putObj (D + 1) (.loop rb)).heap[D + 1]? = some (.loop rb) := World.putObj_heap_same (by simp; omega)
    have HOSV : Hid (((W.alloc (.cells #[.int .i64 x.kind, .int .i64 x.idx, .slice xa x.subs.length xc] 26)).putObj (D + 1) (.loop rb)).os = W.os ∧ ((W.alloc (.cells #[.int .i64 x.kind, .int .i64 x.idx, .slice xa x.subs.length xc] 26)).putObj (D + 1) (.loop rb)).tape = W.tape ∧ ((W.alloc (.cells #[.int .i64 x.kind, .int .i64 x.idx, .slice xa x.subs.length xc] 26)).putObj (D + 1) (.loop rb)).output = W.output) := ⟨rfl, rfl, rfl⟩
    have HLV := hide hLV
    have HKV := hide kV
    have HCB := hide hCB
    have c0 : ((W.alloc (.cells #[.int .i64 x.kind, .int .i64 x.idx, .slice xa x.subs.length xc] 26)).putObj (D + 1) (.loop rb)).cell? ⟨W.heap.size, 0, none⟩ = some (.int .i64 x.kind) := HCB.out.cell 0
    have c1 : ((W.alloc (.cells #[.int .i64 x.kind, .int .i64 x.idx, .slice xa x.subs.length xc] 26)).putObj (D + 1) (.loop rb)).cell? ⟨W.heap.size, 1, none⟩ = some (.int .i64 x.idx) := HCB.out.cell 1
    have c2 : ((W.alloc (.cells #[.int .i64 x.kind, .int .i64 x.idx, .slice xa x.subs.length xc] 26)).putObj (D + 1) (.loop rb)).cell? ⟨W.heap.size, 2, none⟩ = some (.slice xa x.subs.length xc) := HCB.out.cell 2
    have hltv := HO.out.lt
    have hZne : ∀ b, Z b → b < W.heap.size ∧ b ≠ D + 1 := fun b hb => ⟨(HZ.out b hb).1, fun h => (HZ.out b hb).2 ((HF.out b).2 (Or.inl h))⟩
    have HVX : Hid (MV ((W.alloc (.cells #[.int .i64 x.kind, .int .i64 x.idx, .slice xa x.subs.length xc] 26)).putObj (D + 1) (.loop rb)) Z (.agg #[.int .i64 x.kind, .int .i64 x.idx, .slice xa x.subs.length xc]) x) := ⟨xa, xc, rfl, HXS.out.kept fun b hb => HKV.out b (hZne b hb).1 (hZne b hb).2⟩
    clear hrb hrd hCB hLV kV hZne
    cases ok with
    | false =>
      have HR4V : Hid (Blk ((W.alloc (.cells #[.int .i64 x.kind, .int .i64 x.idx, .slice xa x.subs.length xc] 26)).putObj (D + 1) (.loop rb)) (w.heap.size + 1) #[.slice none 0 0] 24) := (HKV.out _ H4W.out.lt (by omega)).trans H4W.out
      have HR5V : Hid (Blk ((W.alloc (.cells #[.int .i64 x.kind, .int .i64 x.idx, .slice xa x.subs.length xc] 26)).putObj (D + 1) (.loop rb)) (w.heap.size + 1 + 1) #[.int .i64 0] 28) := (HKV.out _ H5W.out.lt (by omega)).trans H5W.out
      have b4 : ((W.alloc (.cells #[.int .i64 x.kind, .int .i64 x.idx, .slice xa x.subs.length xc] 26)).putObj (D + 1) (.loop rb)).cell? ⟨w.heap.size + 1, 0, none⟩ = some (.slice none 0 0) := HR4V.out.cell 0
      have b5 : ((W.alloc (.cells #[.int .i64 x.kind, .int .i64 x.idx, .slice xa x.subs.length xc] 26)).putObj (D + 1) (.loop rb)).cell? ⟨w.heap.size + 1 + 1, 0, none⟩ = some (.int .i64 0) := HR5V.out.cell 0
      have f4 : ((W.alloc (.cells #[.int .i64 x.kind, .int .i64 x.idx, .slice xa x.subs.length xc] 26)).putObj (D + 1) (.loop rb)).frozen? ⟨w.heap.size + 1, 0, none⟩ = false := HR4V.out.frozen 0
      have f5 : ((W.alloc (.cells #[.int .i64 x.kind, .int .i64 x.idx, .slice xa x.subs.length xc] 26)).putObj (D + 1) (.loop rb)).frozen? ⟨w.heap.size + 1 + 1, 0, none⟩ = false := HR5V.out.frozen 0
      gi_wp2
      refine ⟨trivial, ?_⟩
      gi_wp2
      exact js_stop (by omega) (by omega) (by omega) (by omega) hdd HK1.out hzW HC.out H4W.out H5W.out HF.out HE.out HA.out HO.out HRW.out (HPK.out.2 (by first | rfl | trivial)) HOSV.out (by omega) HKV.out HLV.out _ rfl rfl
    | true =>
      gi_wp2
      clear hL2
      generalize ((W.alloc (.cells #[.int .i64 x.kind, .int .i64 x.idx, .slice xa x.subs.length xc] 26)).putObj (D + 1) (.loop rb)) = V at *
      refine ⟨trivial, (fun h => by simp [Fence.wide] at h), ?_⟩
      refine (CallsIn.inRound _ (callsIn_wide.2 (countM_any 2000 (by omega) (by omega) x _ V Z HVX.out))).mono ?_
      rintro e w9 ⟨rfl, hb9⟩
      have hz9 := hb9.size
      have HOS9 : Hid (w9.os = W.os ∧ w9.tape = W.tape ∧ w9.output = W.output) := ⟨hb9.os.trans HOSV.out.1, hb9.tape.trans HOSV.out.2.1, hb9.output.trans HOSV.out.2.2⟩
      have HK9 : Hid (∀ b, b < W.heap.size → b ≠ D + 1 → w9.heap[b]? = W.heap[b]?) := fun b hb hne => (hb9.block b (by omega)).trans (HKV.out b hb hne)
      have HL9 : Hid (w9.heap[D + 1]? = some (.loop rb)) := (hb9.block _ (by omega)).trans HLV.out
      by_cases hbig : 2000 < sizeM [x]
      · have hbi : decide (2000 < min (sizeM [x] : Int) 2001) = true := decide_eq_true (by omega)
        have HR4V : Hid (Blk w9 (w.heap.size + 1) #[.slice none 0 0] 24) := (HK9.out _ H4W.out.lt (by omega)).trans H4W.out
        have HR5V : Hid (Blk w9 (w.heap.size + 1 + 1) #[.int .i64 0] 28) := (HK9.out _ H5W.out.lt (by omega)).trans H5W.out
        have b4 : w9.cell? ⟨w.heap.size + 1, 0, none⟩ = some (.slice none 0 0) := HR4V.out.cell 0
        have b5 : w9.cell? ⟨w.heap.size + 1 + 1, 0, none⟩ = some (.int .i64 0) := HR5V.out.cell 0
        have f4 : w9.frozen? ⟨w.heap.size + 1, 0, none⟩ = false := HR4V.out.frozen 0
        have f5 : w9.frozen? ⟨w.heap.size + 1 + 1, 0, none⟩ = false := HR5V.out.frozen 0
        have hbp : badH (x, true, z) := by
          have e := HPK.out.1 (by first | rfl | trivial)
          subst e
          exact hbig
        have HBP := hide hbp
        clear c0 c1 c2 hb9 hbp hbig
        gi_wp2
        exact js_stop (by omega) (by omega) (by omega) (by omega) hdd HK1.out hzW HC.out H4W.out H5W.out HF.out HE.out HA.out HO.out HRW.out HBP.out HOS9.out (by omega) HK9.out HL9.out _ rfl rfl
      · have hbi : decide (2000 < min (sizeM [x] : Int) 2001) = false := decide_eq_false (by omega)
        have hzx := HPK.out.1 (by first | rfl | trivial)
        subst hzx
        have hnp : ¬ badH (x, true, x) := hbig
        have HV9 := hide (HVX.out.later hb9)
        have HX9 := hide (HCB.out.below hb9 (by omega))
        have x0 : w9.cell? ⟨W.heap.size, 0, none⟩ = some (.int .i64 x.kind) := HX9.out.cell 0
        have x1 : w9.cell? ⟨W.heap.size, 1, none⟩ = some (.int .i64 x.idx) := HX9.out.cell 1
        have x2 : w9.cell? ⟨W.heap.size, 2, none⟩ = some (.slice xa x.subs.length xc) := HX9.out.cell 2
        have hmo : Tryz.prog.follows .mixedOrders = true := by kernel_rfl
        obtain ⟨va, vc, hv9⟩ : ∃ va vc, v9 = .slice va l.length vc := by
          rcases HO.out.2 with ⟨h1, h2⟩ | ⟨g, cap, cur, hv, _⟩
          · exact ⟨none, 0, by rw [h1, h2]⟩
          · exact ⟨_, _, hv⟩
        subst hv9
        have BA9 : Hid (Blk w9 A #[.slice va l.length vc] 24) := (HK9.out _ HA.out.lt (by omega)).trans HA.out
        have hn1 : l.length ≤ 1000000 := HLE.out
        have hxl : xs.length = l.length * 3 := HRW.out.len
        have KX : Hid (∀ w', Below w9.heap.size w9 w' → Blk w' W.heap.size #[.int .i64 x.kind, .int .i64 x.idx, .slice xa x.subs.length xc] 26) := fun w' hb => HX9.out.below hb (by omega)
        have KA : Hid (∀ w', Below w9.heap.size w9 w' → w'.cell? ⟨A, 0, none⟩ = some (.slice va l.length vc)) := fun w' hb => (BA9.out.below hb (by omega)).cell 0
        have OW : Hid (∀ w', Below w9.heap.size w9 w' → w'.ownsRow W5.heap.size 26 3 (.slice va l.length vc) l.length xs) := fun w' hb => ownsRow_at HO.out fun g hg => by
          have h1 := hltv g hg
          exact (hb.block g (by omega)).trans (HK9.out g h1.2 (by omega))
        have XD : Hid (Blk w9.drew W.heap.size #[.int .i64 x.kind, .int .i64 x.idx, .slice xa x.subs.length xc] 26) := KX.out _ ((Below.refl _ _).drew)
        have CPY : Hid (∀ w', Below w9.heap.size w9 w' → Calls Tryz.prog 21 #[.agg #[.int .i64 x.kind, .int .i64 x.idx, .slice xa x.subs.length xc]] w' fun e w'' => ∃ a9 c9, e = .returned (.agg #[.int .i64 x.kind, .int .i64 x.idx, .slice a9 x.subs.length c9]) ∧ SlM w'' (fun b => W.heap.size ≤ b) a9 x.subs ∧ Below w'.heap.size w' w'') := fun w' hb => by
          refine (copyM_any x u ⟨hub.1, by omega, HPE.out, by omega⟩ _ w' _ (HV9.out.later hb)).mono ?_
          rintro e w'' ⟨v', rfl, ⟨a9, c9, rfl, hs9⟩, hb9'⟩
          exact ⟨a9, c9, rfl, hs9.mono fun b h _ => by have := hb.size; omega, hb9'⟩
        have hXA : W.heap.size ≠ A := by omega
        have hl5 : (l.length : Int) < (l.length : Int) + 1 := by omega
        have hdd5 : D + 1 ≠ A ∧ w.heap.size + 1 ≠ A ∧ w.heap.size + 2 ≠ A ∧ w.heap.size + 1 ≠ D + 1 ∧ w.heap.size + 2 ≠ D + 1 := by omega
        clear c0 c1 c2 hb9
        gi_wp2
        clear x0 x1 x2
        refine region_round (S := (fun w' => Blk w' W.heap.size #[.int .i64 x.kind, .int .i64 x.idx, .slice xa x.subs.length xc] 26)) hmo ?_ XD.out (fun hHeld => ?_)
        · intro i o ho c' hc'
          match i, ho with
          | 0, ho => simp at ho; subst ho; cases hc'
          | 1, ho => simp at ho; subst ho; cases hc'
          | 2, ho => simp at ho; subst ho; cases hc'
          | 3, ho => simp at ho; subst ho; cases hc'
          | 4, ho => simp at ho; subst ho; cases hc'
          | 5, ho => simp at ho; subst ho; cases hc'
          | 6, ho => simp at ho; subst ho; cases hc'
          | 7, ho => simp at ho; subst ho; cases hc'
          | 8, ho => simp at ho; subst ho; cases hc'
          | i + 9, ho => simp at ho
        refine wpAnyH_take (i := 1) (v := ?_) rfl (by kernel_rfl) (by kernel_rfl) (by kernel_rfl) (fun _ _ _ h => h) (Or.inl ⟨by rfl, ?_⟩) (by assumption) ?_
        rotate_left
        · intro w' hSw
          have e0 : w'.cell? ⟨W.heap.size, 0, none⟩ = some (.int .i64 x.kind) := Blk.cell hSw 0
          have e1 : w'.cell? ⟨W.heap.size, 1, none⟩ = some (.int .i64 x.idx) := Blk.cell hSw 1
          have e2 : w'.cell? ⟨W.heap.size, 2, none⟩ = some (.slice xa x.subs.length xc) := Blk.cell hSw 2
          go_simp <;> with_reducible rfl
        try simp only [Act.put, List.setIfInBounds_toArray, List.set_cons_zero, List.set_cons_succ, List.getElem_toArray, List.getElem_cons_succ, List.getElem_cons_zero]
        have k0 : Hid (Below w9.heap.size w9 w9.drew) := (Below.refl _ _).drew
        refine wpAnyH_ready (rs := [0, 2, 4]) (by kernel_rfl) (by simp) ?_
        refine AllReadyH.cons rfl (fun K hK => ?_) (AllReadyH.cons rfl (fun K hK => ?_) (AllReadyH.cons rfl (fun K hK => ?_) AllReadyH.nil))
        · have a00 := KA.out _ k0.out
          go_simp
          refine hK.out _ _ (by exact (KX.out _ k0.out)) (fun hHeld => ?_)
          clear hK K
          try simp only [Act.put, List.setIfInBounds_toArray, List.set_cons_zero, List.set_cons_succ, List.getElem_toArray, List.getElem_cons_succ, List.getElem_cons_zero]
          refine wpAnyH_take (i := 3) (v := ?_) rfl (by kernel_rfl) (by kernel_rfl) (by kernel_rfl) (fun _ _ _ h => h) (Or.inl ⟨by rfl, ?_⟩) (by assumption) ?_
          rotate_left
          · intro w' hSw
            go_simp <;> with_reducible rfl
          try simp only [Act.put, List.setIfInBounds_toArray, List.set_cons_zero, List.set_cons_succ, List.getElem_toArray, List.getElem_cons_succ, List.getElem_cons_zero]
          have k1 := k0
          refine wpAnyH_ready (rs := [2, 4]) (by kernel_rfl) (by simp) ?_
          refine AllReadyH.cons rfl (fun K hK => ?_) (AllReadyH.cons rfl (fun K hK => ?_) AllReadyH.nil)
          · go_simp
            go_at_call 21
            refine (CPY.out _ k1.out).mono ?_
            rintro e w51 ⟨a9, c9, rfl, hs9, hb9'⟩
            have k2 := hide (k1.out.trans (hb9'.mono k1.out.size))
            have SC2 : Hid (SlM w51 (fun b => W.heap.size ≤ b) a9 x.subs) := hs9
            clear hs9 hb9'
            go_simp
            refine hK.out _ _ (by exact (KX.out _ k2.out)) (fun hHeld => ?_)
            clear hK K
            try simp only [Act.put, List.setIfInBounds_toArray, List.set_cons_zero, List.set_cons_succ, List.getElem_toArray, List.getElem_cons_succ, List.getElem_cons_zero]
            refine wpAnyH_ready (rs := [4]) (by kernel_rfl) (by simp) ?_
            refine AllReadyH.cons rfl (fun K hK => ?_) AllReadyH.nil
            have k3 := hide (k2.out.alloc k2.out.size (.cells #[.int .i64 0, .int .i64 0, .slice none 0 0] 26))
            have PB3 : Hid (Blk (w51.alloc (.cells #[.int .i64 0, .int .i64 0, .slice none 0 0] 26)) w51.heap.size #[.int .i64 0, .int .i64 0, .slice none 0 0] 26) := Blk.new _ _ _
            have SC3 := hide (SC2.out.later ((Below.refl _ _).alloc (Nat.le_refl _) (.cells #[.int .i64 0, .int .i64 0, .slice none 0 0] 26)))
            go_simp
            refine hK.out _ _ (by exact (KX.out _ k3.out)) (fun hHeld => ?_)
            clear hK K
            try simp only [Act.put, List.setIfInBounds_toArray, List.set_cons_zero, List.set_cons_succ, List.getElem_toArray, List.getElem_cons_succ, List.getElem_cons_zero]
            obtain ⟨g, cap, w3, hrun, hown3, hgrow, hat, hglt⟩ := appZ (v := .slice va l.length vc) (OW.out _ k3.out) PB3.out hn1 (by have := k3.out.size; omega)
            have HRUN := hide hrun
            obtain ⟨q1, q2, q3, qf, _⟩ := row_last3 (u1 := .int .i64 x.kind) (u2 := .int .i64 x.idx) (u3 := .slice a9 x.subs.length c9) hown3 hxl
            have hgN : W5.heap.size ≤ g := by
              rcases hat with e | e
              · exact (hltv g e).1
              · have := k3.out.size; omega
            have hAg : A ≠ g := by omega
            have hXg : W.heap.size ≠ g := by
              rcases hat with e | e
              · have := (hltv _ e).2; omega
              · have := k3.out.size; omega
            have hz3 := hgrow.size
            have hkz := k3.out.size
            have HA3 : Hid (Blk w3 A #[.slice va l.length vc] 24) := (hgrow.block A (by omega) (fun e => by have := (hltv A e.symm).1; omega)).trans (BA9.out.below k3.out (by omega))
            have X3 : Hid (Blk w3 W.heap.size #[.int .i64 x.kind, .int .i64 x.idx, .slice xa x.subs.length xc] 26) := (hgrow.block W.heap.size (by omega) (fun e => by have := (hltv _ e.symm).2; omega)).trans (KX.out _ k3.out)
            have X36 := hide (((X3.out.setOther (l.length * 3) (.int .i64 x.kind) hXg).setOther (l.length * 3 + 1) (.int .i64 x.idx) hXg).setOther (l.length * 3 + 2) (.slice a9 x.subs.length c9) hXg)
            have X367 := hide (X36.out.setOther 0 (.slice (some ⟨g, 0, none⟩) (l.length + 1) cap) hXA)
            have X37 := hide (X3.out.setOther 0 (.slice (some ⟨g, 0, none⟩) (l.length + 1) cap) hXA)
            have X376 := hide (((X37.out.setOther (l.length * 3) (.int .i64 x.kind) hXg).setOther (l.length * 3 + 1) (.int .i64 x.idx) hXg).setOther (l.length * 3 + 2) (.slice a9 x.subs.length c9) hXg)
            have a3 : w3.cell? ⟨A, 0, none⟩ = some (.slice va l.length vc) := HA3.out.cell 0
            have af : w3.frozen? ⟨A, 0, none⟩ = false := HA3.out.frozen 0
            have HG := hide (And.intro hgrow (And.intro hown3 hat))
            clear hrun hgrow hown3 hat
            refine wpAnyH_ready (rs := [5]) (by kernel_rfl) (by simp) ?_
            refine AllReadyH.cons rfl (fun K hK => ?_) AllReadyH.nil
            refine step_append_eqM rfl _ _ _ _ rfl rfl rfl HRUN.out ?_
            refine hK.out _ _ (by exact X3.out) (fun hHeld => ?_)
            clear hK K
            try simp only [Act.put, List.setIfInBounds_toArray, List.set_cons_zero, List.set_cons_succ, List.getElem_toArray, List.getElem_cons_succ, List.getElem_cons_zero]
            refine wpAnyH_take (i := 6) (v := ?_) rfl (by kernel_rfl) (by kernel_rfl) (by kernel_rfl) (fun _ _ _ h => h) (Or.inl ⟨by rfl, ?_⟩) (by assumption) ?_
            rotate_left
            · intro w' hSw
              go_simp <;> with_reducible rfl
            try simp only [Act.put, List.setIfInBounds_toArray, List.set_cons_zero, List.set_cons_succ, List.getElem_toArray, List.getElem_cons_succ, List.getElem_cons_zero]
            refine wpAnyH_ready (rs := [7, 8]) (by kernel_rfl) (by simp) ?_
            refine AllReadyH.cons rfl (fun K hK => ?_) (AllReadyH.cons rfl (fun K hK => ?_) AllReadyH.nil)
            · go_simp
              refine hK.out _ _ (by exact X36.out) (fun hHeld => ?_)
              clear hK K
              try simp only [Act.put, List.setIfInBounds_toArray, List.set_cons_zero, List.set_cons_succ, List.getElem_toArray, List.getElem_cons_succ, List.getElem_cons_zero]
              refine wpAnyH_ready (rs := [8]) (by kernel_rfl) (by simp) ?_
              refine AllReadyH.cons rfl (fun K hK => ?_) AllReadyH.nil
              go_simp
              refine hK.out _ _ (by exact X367.out) (fun hHeld => ?_)
              clear hK K
              try simp only [Act.put, List.setIfInBounds_toArray, List.set_cons_zero, List.set_cons_succ, List.getElem_toArray, List.getElem_cons_succ, List.getElem_cons_zero]
              refine wpAnyH_done (by kernel_rfl) ?_ _
              refine ⟨by simp, ?_⟩
              exact js_step (by omega) (by omega) (by omega) (by omega) hdd5 HK1.out hzW HC.out H4W.out H5W.out HF.out HE.out HO.out HRW.out HLL.out HNF.out hnp HOS9.out (by omega) HK9.out HL9.out k3.out SC3.out HG.out.1 HG.out.2.1 HG.out.2.2 (fw3_a hAg HA3.out)
            · go_simp
              refine hK.out _ _ (by exact X37.out) (fun hHeld => ?_)
              clear hK K
              try simp only [Act.put, List.setIfInBounds_toArray, List.set_cons_zero, List.set_cons_succ, List.getElem_toArray, List.getElem_cons_succ, List.getElem_cons_zero]
              refine wpAnyH_ready (rs := [7]) (by kernel_rfl) (by simp) ?_
              refine AllReadyH.cons rfl (fun K hK => ?_) AllReadyH.nil
              go_simp
              refine hK.out _ _ (by exact X376.out) (fun hHeld => ?_)
              clear hK K
              try simp only [Act.put, List.setIfInBounds_toArray, List.set_cons_zero, List.set_cons_succ, List.getElem_toArray, List.getElem_cons_succ, List.getElem_cons_zero]
              refine wpAnyH_done (by kernel_rfl) ?_ _
              refine ⟨by simp, ?_⟩
              exact js_step (by omega) (by omega) (by omega) (by omega) hdd5 HK1.out hzW HC.out H4W.out H5W.out HF.out HE.out HO.out HRW.out HLL.out HNF.out hnp HOS9.out (by omega) HK9.out HL9.out k3.out SC3.out HG.out.1 HG.out.2.1 HG.out.2.2 (fw3_b hAg HA3.out)
          · have k2 : Hid (Below w9.heap.size w9 (w9.alloc (.cells #[.int .i64 0, .int .i64 0, .slice none 0 0] 26)).drew) := ((Below.refl _ _).alloc (Nat.le_refl _) _).drew
            have PB2 : Hid (Blk (w9.alloc (.cells #[.int .i64 0, .int .i64 0, .slice none 0 0] 26)).drew w9.heap.size #[.int .i64 0, .int .i64 0, .slice none 0 0] 26) := (Blk.new w9 _ _).drewN 1
            go_simp
            refine hK.out _ _ (by exact (KX.out _ k2.out)) (fun hHeld => ?_)
            clear hK K
            try simp only [Act.put, List.setIfInBounds_toArray, List.set_cons_zero, List.set_cons_succ, List.getElem_toArray, List.getElem_cons_succ, List.getElem_cons_zero]
            refine wpAnyH_ready (rs := [2]) (by kernel_rfl) (by simp) ?_
            refine AllReadyH.cons rfl (fun K hK => ?_) AllReadyH.nil
            go_simp
            go_at_call 21
            refine (CPY.out _ k2.out).mono ?_
            rintro e w52 ⟨a9, c9, rfl, hs9, hb9'⟩
            have k3 := hide (k2.out.trans (hb9'.mono k2.out.size))
            have SC3 : Hid (SlM w52 (fun b => W.heap.size ≤ b) a9 x.subs) := hs9
            have PB3 := hide (PB2.out.below hb9' PB2.out.lt)
            clear hs9 hb9'
            go_simp
            refine hK.out _ _ (by exact (KX.out _ k3.out)) (fun hHeld => ?_)
            clear hK K
            try simp only [Act.put, List.setIfInBounds_toArray, List.set_cons_zero, List.set_cons_succ, List.getElem_toArray, List.getElem_cons_succ, List.getElem_cons_zero]
            obtain ⟨g, cap, w3, hrun, hown3, hgrow, hat, hglt⟩ := appZ (v := .slice va l.length vc) (OW.out _ k3.out) PB3.out hn1 (by have := k3.out.size; omega)
            have HRUN := hide hrun
            obtain ⟨q1, q2, q3, qf, _⟩ := row_last3 (u1 := .int .i64 x.kind) (u2 := .int .i64 x.idx) (u3 := .slice a9 x.subs.length c9) hown3 hxl
            have hgN : W5.heap.size ≤ g := by
              rcases hat with e | e
              · exact (hltv g e).1
              · have := k3.out.size; omega
            have hAg : A ≠ g := by omega
            have hXg : W.heap.size ≠ g := by
              rcases hat with e | e
              · have := (hltv _ e).2; omega
              · have := k3.out.size; omega
            have hz3 := hgrow.size
            have hkz := k3.out.size
            have HA3 : Hid (Blk w3 A #[.slice va l.length vc] 24) := (hgrow.block A (by omega) (fun e => by have := (hltv A e.symm).1; omega)).trans (BA9.out.below k3.out (by omega))
            have X3 : Hid (Blk w3 W.heap.size #[.int .i64 x.kind, .int .i64 x.idx, .slice xa x.subs.length xc] 26) := (hgrow.block W.heap.size (by omega) (fun e => by have := (hltv _ e.symm).2; omega)).trans (KX.out _ k3.out)
            have X36 := hide (((X3.out.setOther (l.length * 3) (.int .i64 x.kind) hXg).setOther (l.length * 3 + 1) (.int .i64 x.idx) hXg).setOther (l.length * 3 + 2) (.slice a9 x.subs.length c9) hXg)
            have X367 := hide (X36.out.setOther 0 (.slice (some ⟨g, 0, none⟩) (l.length + 1) cap) hXA)
            have X37 := hide (X3.out.setOther 0 (.slice (some ⟨g, 0, none⟩) (l.length + 1) cap) hXA)
            have X376 := hide (((X37.out.setOther (l.length * 3) (.int .i64 x.kind) hXg).setOther (l.length * 3 + 1) (.int .i64 x.idx) hXg).setOther (l.length * 3 + 2) (.slice a9 x.subs.length c9) hXg)
            have a3 : w3.cell? ⟨A, 0, none⟩ = some (.slice va l.length vc) := HA3.out.cell 0
            have af : w3.frozen? ⟨A, 0, none⟩ = false := HA3.out.frozen 0
            have HG := hide (And.intro hgrow (And.intro hown3 hat))
            clear hrun hgrow hown3 hat
            refine wpAnyH_ready (rs := [5]) (by kernel_rfl) (by simp) ?_
            refine AllReadyH.cons rfl (fun K hK => ?_) AllReadyH.nil
            refine step_append_eqM rfl _ _ _ _ rfl rfl rfl HRUN.out ?_
            refine hK.out _ _ (by exact X3.out) (fun hHeld => ?_)
            clear hK K
            try simp only [Act.put, List.setIfInBounds_toArray, List.set_cons_zero, List.set_cons_succ, List.getElem_toArray, List.getElem_cons_succ, List.getElem_cons_zero]
            refine wpAnyH_take (i := 6) (v := ?_) rfl (by kernel_rfl) (by kernel_rfl) (by kernel_rfl) (fun _ _ _ h => h) (Or.inl ⟨by rfl, ?_⟩) (by assumption) ?_
            rotate_left
            · intro w' hSw
              go_simp <;> with_reducible rfl
            try simp only [Act.put, List.setIfInBounds_toArray, List.set_cons_zero, List.set_cons_succ, List.getElem_toArray, List.getElem_cons_succ, List.getElem_cons_zero]
            refine wpAnyH_ready (rs := [7, 8]) (by kernel_rfl) (by simp) ?_
            refine AllReadyH.cons rfl (fun K hK => ?_) (AllReadyH.cons rfl (fun K hK => ?_) AllReadyH.nil)
            · go_simp
              refine hK.out _ _ (by exact X36.out) (fun hHeld => ?_)
              clear hK K
              try simp only [Act.put, List.setIfInBounds_toArray, List.set_cons_zero, List.set_cons_succ, List.getElem_toArray, List.getElem_cons_succ, List.getElem_cons_zero]
              refine wpAnyH_ready (rs := [8]) (by kernel_rfl) (by simp) ?_
              refine AllReadyH.cons rfl (fun K hK => ?_) AllReadyH.nil
              go_simp
              refine hK.out _ _ (by exact X367.out) (fun hHeld => ?_)
              clear hK K
              try simp only [Act.put, List.setIfInBounds_toArray, List.set_cons_zero, List.set_cons_succ, List.getElem_toArray, List.getElem_cons_succ, List.getElem_cons_zero]
              refine wpAnyH_done (by kernel_rfl) ?_ _
              refine ⟨by simp, ?_⟩
              exact js_step (by omega) (by omega) (by omega) (by omega) hdd5 HK1.out hzW HC.out H4W.out H5W.out HF.out HE.out HO.out HRW.out HLL.out HNF.out hnp HOS9.out (by omega) HK9.out HL9.out k3.out SC3.out HG.out.1 HG.out.2.1 HG.out.2.2 (fw3_a hAg HA3.out)
            · go_simp
              refine hK.out _ _ (by exact X37.out) (fun hHeld => ?_)
              clear hK K
              try simp only [Act.put, List.setIfInBounds_toArray, List.set_cons_zero, List.set_cons_succ, List.getElem_toArray, List.getElem_cons_succ, List.getElem_cons_zero]
              refine wpAnyH_ready (rs := [7]) (by kernel_rfl) (by simp) ?_
              refine AllReadyH.cons rfl (fun K hK => ?_) AllReadyH.nil
              go_simp
              refine hK.out _ _ (by exact X376.out) (fun hHeld => ?_)
              clear hK K
              try simp only [Act.put, List.setIfInBounds_toArray, List.set_cons_zero, List.set_cons_succ, List.getElem_toArray, List.getElem_cons_succ, List.getElem_cons_zero]
              refine wpAnyH_done (by kernel_rfl) ?_ _
              refine ⟨by simp, ?_⟩
              exact js_step (by omega) (by omega) (by omega) (by omega) hdd5 HK1.out hzW HC.out H4W.out H5W.out HF.out HE.out HO.out HRW.out HLL.out HNF.out hnp HOS9.out (by omega) HK9.out HL9.out k3.out SC3.out HG.out.1 HG.out.2.1 HG.out.2.2 (fw3_b hAg HA3.out)
        · go_simp
          go_at_call 21
          refine (CPY.out _ k0.out).mono ?_
          rintro e w50 ⟨a9, c9, rfl, hs9, hb9'⟩
          have k1 := hide (k0.out.trans (hb9'.mono k0.out.size))
          have SC1 : Hid (SlM w50 (fun b => W.heap.size ≤ b) a9 x.subs) := hs9
          clear hs9 hb9'
          go_simp
          refine hK.out _ _ (by exact (KX.out _ k1.out)) (fun hHeld => ?_)
          clear hK K
          try simp only [Act.put, List.setIfInBounds_toArray, List.set_cons_zero, List.set_cons_succ, List.getElem_toArray, List.getElem_cons_succ, List.getElem_cons_zero]
          refine wpAnyH_ready (rs := [0, 4]) (by kernel_rfl) (by simp) ?_
          refine AllReadyH.cons rfl (fun K hK => ?_) (AllReadyH.cons rfl (fun K hK => ?_) AllReadyH.nil)
          · have a10 := KA.out _ k1.out
            go_simp
            refine hK.out _ _ (by exact (KX.out _ k1.out)) (fun hHeld => ?_)
            clear hK K
            try simp only [Act.put, List.setIfInBounds_toArray, List.set_cons_zero, List.set_cons_succ, List.getElem_toArray, List.getElem_cons_succ, List.getElem_cons_zero]
            refine wpAnyH_take (i := 3) (v := ?_) rfl (by kernel_rfl) (by kernel_rfl) (by kernel_rfl) (fun _ _ _ h => h) (Or.inl ⟨by rfl, ?_⟩) (by assumption) ?_
            rotate_left
            · intro w' hSw
              go_simp <;> with_reducible rfl
            try simp only [Act.put, List.setIfInBounds_toArray, List.set_cons_zero, List.set_cons_succ, List.getElem_toArray, List.getElem_cons_succ, List.getElem_cons_zero]
            have k2 := k1
            have SC2 := SC1
            refine wpAnyH_ready (rs := [4]) (by kernel_rfl) (by simp) ?_
            refine AllReadyH.cons rfl (fun K hK => ?_) AllReadyH.nil
            have k3 := hide (k2.out.alloc k2.out.size (.cells #[.int .i64 0, .int .i64 0, .slice none 0 0] 26))
            have PB3 : Hid (Blk (w50.alloc (.cells #[.int .i64 0, .int .i64 0, .slice none 0 0] 26)) w50.heap.size #[.int .i64 0, .int .i64 0, .slice none 0 0] 26) := Blk.new _ _ _
            have SC3 := hide (SC2.out.later ((Below.refl _ _).alloc (Nat.le_refl _) (.cells #[.int .i64 0, .int .i64 0, .slice none 0 0] 26)))
            go_simp
            refine hK.out _ _ (by exact (KX.out _ k3.out)) (fun hHeld => ?_)
            clear hK K
            try simp only [Act.put, List.setIfInBounds_toArray, List.set_cons_zero, List.set_cons_succ, List.getElem_toArray, List.getElem_cons_succ, List.getElem_cons_zero]
            obtain ⟨g, cap, w3, hrun, hown3, hgrow, hat, hglt⟩ := appZ (v := .slice va l.length vc) (OW.out _ k3.out) PB3.out hn1 (by have := k3.out.size; omega)
            have HRUN := hide hrun
            obtain ⟨q1, q2, q3, qf, _⟩ := row_last3 (u1 := .int .i64 x.kind) (u2 := .int .i64 x.idx) (u3 := .slice a9 x.subs.length c9) hown3 hxl
            have hgN : W5.heap.size ≤ g := by
              rcases hat with e | e
              · exact (hltv g e).1
              · have := k3.out.size; omega
            have hAg : A ≠ g := by omega
            have hXg : W.heap.size ≠ g := by
              rcases hat with e | e
              · have := (hltv _ e).2; omega
              · have := k3.out.size; omega
            have hz3 := hgrow.size
            have hkz := k3.out.size
            have HA3 : Hid (Blk w3 A #[.slice va l.length vc] 24) := (hgrow.block A (by omega) (fun e => by have := (hltv A e.symm).1; omega)).trans (BA9.out.below k3.out (by omega))
            have X3 : Hid (Blk w3 W.heap.size #[.int .i64 x.kind, .int .i64 x.idx, .slice xa x.subs.length xc] 26) := (hgrow.block W.heap.size (by omega) (fun e => by have := (hltv _ e.symm).2; omega)).trans (KX.out _ k3.out)
            have X36 := hide (((X3.out.setOther (l.length * 3) (.int .i64 x.kind) hXg).setOther (l.length * 3 + 1) (.int .i64 x.idx) hXg).setOther (l.length * 3 + 2) (.slice a9 x.subs.length c9) hXg)
            have X367 := hide (X36.out.setOther 0 (.slice (some ⟨g, 0, none⟩) (l.length + 1) cap) hXA)
            have X37 := hide (X3.out.setOther 0 (.slice (some ⟨g, 0, none⟩) (l.length + 1) cap) hXA)
            have X376 := hide (((X37.out.setOther (l.length * 3) (.int .i64 x.kind) hXg).setOther (l.length * 3 + 1) (.int .i64 x.idx) hXg).setOther (l.length * 3 + 2) (.slice a9 x.subs.length c9) hXg)
            have a3 : w3.cell? ⟨A, 0, none⟩ = some (.slice va l.length vc) := HA3.out.cell 0
            have af : w3.frozen? ⟨A, 0, none⟩ = false := HA3.out.frozen 0
            have HG := hide (And.intro hgrow (And.intro hown3 hat))
            clear hrun hgrow hown3 hat
            refine wpAnyH_ready (rs := [5]) (by kernel_rfl) (by simp) ?_
            refine AllReadyH.cons rfl (fun K hK => ?_) AllReadyH.nil
            refine step_append_eqM rfl _ _ _ _ rfl rfl rfl HRUN.out ?_
            refine hK.out _ _ (by exact X3.out) (fun hHeld => ?_)
            clear hK K
            try simp only [Act.put, List.setIfInBounds_toArray, List.set_cons_zero, List.set_cons_succ, List.getElem_toArray, List.getElem_cons_succ, List.getElem_cons_zero]
            refine wpAnyH_take (i := 6) (v := ?_) rfl (by kernel_rfl) (by kernel_rfl) (by kernel_rfl) (fun _ _ _ h => h) (Or.inl ⟨by rfl, ?_⟩) (by assumption) ?_
            rotate_left
            · intro w' hSw
              go_simp <;> with_reducible rfl
            try simp only [Act.put, List.setIfInBounds_toArray, List.set_cons_zero, List.set_cons_succ, List.getElem_toArray, List.getElem_cons_succ, List.getElem_cons_zero]
            refine wpAnyH_ready (rs := [7, 8]) (by kernel_rfl) (by simp) ?_
            refine AllReadyH.cons rfl (fun K hK => ?_) (AllReadyH.cons rfl (fun K hK => ?_) AllReadyH.nil)
            · go_simp
              refine hK.out _ _ (by exact X36.out) (fun hHeld => ?_)
              clear hK K
              try simp only [Act.put, List.setIfInBounds_toArray, List.set_cons_zero, List.set_cons_succ, List.getElem_toArray, List.getElem_cons_succ, List.getElem_cons_zero]
              refine wpAnyH_ready (rs := [8]) (by kernel_rfl) (by simp) ?_
              refine AllReadyH.cons rfl (fun K hK => ?_) AllReadyH.nil
              go_simp
              refine hK.out _ _ (by exact X367.out) (fun hHeld => ?_)
              clear hK K
              try simp only [Act.put, List.setIfInBounds_toArray, List.set_cons_zero, List.set_cons_succ, List.getElem_toArray, List.getElem_cons_succ, List.getElem_cons_zero]
              refine wpAnyH_done (by kernel_rfl) ?_ _
              refine ⟨by simp, ?_⟩
              exact js_step (by omega) (by omega) (by omega) (by omega) hdd5 HK1.out hzW HC.out H4W.out H5W.out HF.out HE.out HO.out HRW.out HLL.out HNF.out hnp HOS9.out (by omega) HK9.out HL9.out k3.out SC3.out HG.out.1 HG.out.2.1 HG.out.2.2 (fw3_a hAg HA3.out)
            · go_simp
              refine hK.out _ _ (by exact X37.out) (fun hHeld => ?_)
              clear hK K
              try simp only [Act.put, List.setIfInBounds_toArray, List.set_cons_zero, List.set_cons_succ, List.getElem_toArray, List.getElem_cons_succ, List.getElem_cons_zero]
              refine wpAnyH_ready (rs := [7]) (by kernel_rfl) (by simp) ?_
              refine AllReadyH.cons rfl (fun K hK => ?_) AllReadyH.nil
              go_simp
              refine hK.out _ _ (by exact X376.out) (fun hHeld => ?_)
              clear hK K
              try simp only [Act.put, List.setIfInBounds_toArray, List.set_cons_zero, List.set_cons_succ, List.getElem_toArray, List.getElem_cons_succ, List.getElem_cons_zero]
              refine wpAnyH_done (by kernel_rfl) ?_ _
              refine ⟨by simp, ?_⟩
              exact js_step (by omega) (by omega) (by omega) (by omega) hdd5 HK1.out hzW HC.out H4W.out H5W.out HF.out HE.out HO.out HRW.out HLL.out HNF.out hnp HOS9.out (by omega) HK9.out HL9.out k3.out SC3.out HG.out.1 HG.out.2.1 HG.out.2.2 (fw3_b hAg HA3.out)
          · have k2 := hide (k1.out.alloc k1.out.size (.cells #[.int .i64 0, .int .i64 0, .slice none 0 0] 26))
            have PB2 : Hid (Blk (w50.alloc (.cells #[.int .i64 0, .int .i64 0, .slice none 0 0] 26)) w50.heap.size #[.int .i64 0, .int .i64 0, .slice none 0 0] 26) := Blk.new _ _ _
            have SC2 := hide (SC1.out.later ((Below.refl _ _).alloc (Nat.le_refl _) (.cells #[.int .i64 0, .int .i64 0, .slice none 0 0] 26)))
            go_simp
            refine hK.out _ _ (by exact (KX.out _ k2.out)) (fun hHeld => ?_)
            clear hK K
            try simp only [Act.put, List.setIfInBounds_toArray, List.set_cons_zero, List.set_cons_succ, List.getElem_toArray, List.getElem_cons_succ, List.getElem_cons_zero]
            refine wpAnyH_ready (rs := [0]) (by kernel_rfl) (by simp) ?_
            refine AllReadyH.cons rfl (fun K hK => ?_) AllReadyH.nil
            have a20 := KA.out _ k2.out
            go_simp
            refine hK.out _ _ (by exact (KX.out _ k2.out)) (fun hHeld => ?_)
            clear hK K
            try simp only [Act.put, List.setIfInBounds_toArray, List.set_cons_zero, List.set_cons_succ, List.getElem_toArray, List.getElem_cons_succ, List.getElem_cons_zero]
            refine wpAnyH_take (i := 3) (v := ?_) rfl (by kernel_rfl) (by kernel_rfl) (by kernel_rfl) (fun _ _ _ h => h) (Or.inl ⟨by rfl, ?_⟩) (by assumption) ?_
            rotate_left
            · intro w' hSw
              go_simp <;> with_reducible rfl
            try simp only [Act.put, List.setIfInBounds_toArray, List.set_cons_zero, List.set_cons_succ, List.getElem_toArray, List.getElem_cons_succ, List.getElem_cons_zero]
            have k3 := k2
            have SC3 := SC2
            have PB3 := PB2
            obtain ⟨g, cap, w3, hrun, hown3, hgrow, hat, hglt⟩ := appZ (v := .slice va l.length vc) (OW.out _ k3.out) PB3.out hn1 (by have := k3.out.size; omega)
            have HRUN := hide hrun
            obtain ⟨q1, q2, q3, qf, _⟩ := row_last3 (u1 := .int .i64 x.kind) (u2 := .int .i64 x.idx) (u3 := .slice a9 x.subs.length c9) hown3 hxl
            have hgN : W5.heap.size ≤ g := by
              rcases hat with e | e
              · exact (hltv g e).1
              · have := k3.out.size; omega
            have hAg : A ≠ g := by omega
            have hXg : W.heap.size ≠ g := by
              rcases hat with e | e
              · have := (hltv _ e).2; omega
              · have := k3.out.size; omega
            have hz3 := hgrow.size
            have hkz := k3.out.size
            have HA3 : Hid (Blk w3 A #[.slice va l.length vc] 24) := (hgrow.block A (by omega) (fun e => by have := (hltv A e.symm).1; omega)).trans (BA9.out.below k3.out (by omega))
            have X3 : Hid (Blk w3 W.heap.size #[.int .i64 x.kind, .int .i64 x.idx, .slice xa x.subs.length xc] 26) := (hgrow.block W.heap.size (by omega) (fun e => by have := (hltv _ e.symm).2; omega)).trans (KX.out _ k3.out)
            have X36 := hide (((X3.out.setOther (l.length * 3) (.int .i64 x.kind) hXg).setOther (l.length * 3 + 1) (.int .i64 x.idx) hXg).setOther (l.length * 3 + 2) (.slice a9 x.subs.length c9) hXg)
            have X367 := hide (X36.out.setOther 0 (.slice (some ⟨g, 0, none⟩) (l.length + 1) cap) hXA)
            have X37 := hide (X3.out.setOther 0 (.slice (some ⟨g, 0, none⟩) (l.length + 1) cap) hXA)
            have X376 := hide (((X37.out.setOther (l.length * 3) (.int .i64 x.kind) hXg).setOther (l.length * 3 + 1) (.int .i64 x.idx) hXg).setOther (l.length * 3 + 2) (.slice a9 x.subs.length c9) hXg)
            have a3 : w3.cell? ⟨A, 0, none⟩ = some (.slice va l.length vc) := HA3.out.cell 0
            have af : w3.frozen? ⟨A, 0, none⟩ = false := HA3.out.frozen 0
            have HG := hide (And.intro hgrow (And.intro hown3 hat))
            clear hrun hgrow hown3 hat
            refine wpAnyH_ready (rs := [5]) (by kernel_rfl) (by simp) ?_
            refine AllReadyH.cons rfl (fun K hK => ?_) AllReadyH.nil
            refine step_append_eqM rfl _ _ _ _ rfl rfl rfl HRUN.out ?_
            refine hK.out _ _ (by exact X3.out) (fun hHeld => ?_)
            clear hK K
            try simp only [Act.put, List.setIfInBounds_toArray, List.set_cons_zero, List.set_cons_succ, List.getElem_toArray, List.getElem_cons_succ, List.getElem_cons_zero]
            refine wpAnyH_take (i := 6) (v := ?_) rfl (by kernel_rfl) (by kernel_rfl) (by kernel_rfl) (fun _ _ _ h => h) (Or.inl ⟨by rfl, ?_⟩) (by assumption) ?_
            rotate_left
            · intro w' hSw
              go_simp <;> with_reducible rfl
            try simp only [Act.put, List.setIfInBounds_toArray, List.set_cons_zero, List.set_cons_succ, List.getElem_toArray, List.getElem_cons_succ, List.getElem_cons_zero]
            refine wpAnyH_ready (rs := [7, 8]) (by kernel_rfl) (by simp) ?_
            refine AllReadyH.cons rfl (fun K hK => ?_) (AllReadyH.cons rfl (fun K hK => ?_) AllReadyH.nil)
            · go_simp
              refine hK.out _ _ (by exact X36.out) (fun hHeld => ?_)
              clear hK K
              try simp only [Act.put, List.setIfInBounds_toArray, List.set_cons_zero, List.set_cons_succ, List.getElem_toArray, List.getElem_cons_succ, List.getElem_cons_zero]
              refine wpAnyH_ready (rs := [8]) (by kernel_rfl) (by simp) ?_
              refine AllReadyH.cons rfl (fun K hK => ?_) AllReadyH.nil
              go_simp
              refine hK.out _ _ (by exact X367.out) (fun hHeld => ?_)
              clear hK K
              try simp only [Act.put, List.setIfInBounds_toArray, List.set_cons_zero, List.set_cons_succ, List.getElem_toArray, List.getElem_cons_succ, List.getElem_cons_zero]
              refine wpAnyH_done (by kernel_rfl) ?_ _
              refine ⟨by simp, ?_⟩
              exact js_step (by omega) (by omega) (by omega) (by omega) hdd5 HK1.out hzW HC.out H4W.out H5W.out HF.out HE.out HO.out HRW.out HLL.out HNF.out hnp HOS9.out (by omega) HK9.out HL9.out k3.out SC3.out HG.out.1 HG.out.2.1 HG.out.2.2 (fw3_a hAg HA3.out)
            · go_simp
              refine hK.out _ _ (by exact X37.out) (fun hHeld => ?_)
              clear hK K
              try simp only [Act.put, List.setIfInBounds_toArray, List.set_cons_zero, List.set_cons_succ, List.getElem_toArray, List.getElem_cons_succ, List.getElem_cons_zero]
              refine wpAnyH_ready (rs := [7]) (by kernel_rfl) (by simp) ?_
              refine AllReadyH.cons rfl (fun K hK => ?_) AllReadyH.nil
              go_simp
              refine hK.out _ _ (by exact X376.out) (fun hHeld => ?_)
              clear hK K
              try simp only [Act.put, List.setIfInBounds_toArray, List.set_cons_zero, List.set_cons_succ, List.getElem_toArray, List.getElem_cons_succ, List.getElem_cons_zero]
              refine wpAnyH_done (by kernel_rfl) ?_ _
              refine ⟨by simp, ?_⟩
              exact js_step (by omega) (by omega) (by omega) (by omega) hdd5 HK1.out hzW HC.out H4W.out H5W.out HF.out HE.out HO.out HRW.out HLL.out HNF.out hnp HOS9.out (by omega) HK9.out HL9.out k3.out SC3.out HG.out.1 HG.out.2.1 HG.out.2.2 (fw3_b hAg HA3.out)
        · have k1 : Hid (Below w9.heap.size w9 (w9.alloc (.cells #[.int .i64 0, .int .i64 0, .slice none 0 0] 26)).drew) := ((Below.refl _ _).alloc (Nat.le_refl _) _).drew
          have PB1 : Hid (Blk (w9.alloc (.cells #[.int .i64 0, .int .i64 0, .slice none 0 0] 26)).drew w9.heap.size #[.int .i64 0, .int .i64 0, .slice none 0 0] 26) := (Blk.new w9 _ _).drewN 1
          go_simp
          refine hK.out _ _ (by exact (KX.out _ k1.out)) (fun hHeld => ?_)
          clear hK K
          try simp only [Act.put, List.setIfInBounds_toArray, List.set_cons_zero, List.set_cons_succ, List.getElem_toArray, List.getElem_cons_succ, List.getElem_cons_zero]
          refine wpAnyH_ready (rs := [0, 2]) (by kernel_rfl) (by simp) ?_
          refine AllReadyH.cons rfl (fun K hK => ?_) (AllReadyH.cons rfl (fun K hK => ?_) AllReadyH.nil)
          · have a10 := KA.out _ k1.out
            go_simp
            refine hK.out _ _ (by exact (KX.out _ k1.out)) (fun hHeld => ?_)
            clear hK K
            try simp only [Act.put, List.setIfInBounds_toArray, List.set_cons_zero, List.set_cons_succ, List.getElem_toArray, List.getElem_cons_succ, List.getElem_cons_zero]
            refine wpAnyH_take (i := 3) (v := ?_) rfl (by kernel_rfl) (by kernel_rfl) (by kernel_rfl) (fun _ _ _ h => h) (Or.inl ⟨by rfl, ?_⟩) (by assumption) ?_
            rotate_left
            · intro w' hSw
              go_simp <;> with_reducible rfl
            try simp only [Act.put, List.setIfInBounds_toArray, List.set_cons_zero, List.set_cons_succ, List.getElem_toArray, List.getElem_cons_succ, List.getElem_cons_zero]
            have k2 := k1
            have PB2 := PB1
            refine wpAnyH_ready (rs := [2]) (by kernel_rfl) (by simp) ?_
            refine AllReadyH.cons rfl (fun K hK => ?_) AllReadyH.nil
            go_simp
            go_at_call 21
            refine (CPY.out _ k2.out).mono ?_
            rintro e w52 ⟨a9, c9, rfl, hs9, hb9'⟩
            have k3 := hide (k2.out.trans (hb9'.mono k2.out.size))
            have SC3 : Hid (SlM w52 (fun b => W.heap.size ≤ b) a9 x.subs) := hs9
            have PB3 := hide (PB2.out.below hb9' PB2.out.lt)
            clear hs9 hb9'
            go_simp
            refine hK.out _ _ (by exact (KX.out _ k3.out)) (fun hHeld => ?_)
            clear hK K
            try simp only [Act.put, List.setIfInBounds_toArray, List.set_cons_zero, List.set_cons_succ, List.getElem_toArray, List.getElem_cons_succ, List.getElem_cons_zero]
            obtain ⟨g, cap, w3, hrun, hown3, hgrow, hat, hglt⟩ := appZ (v := .slice va l.length vc) (OW.out _ k3.out) PB3.out hn1 (by have := k3.out.size; omega)
            have HRUN := hide hrun
            obtain ⟨q1, q2, q3, qf, _⟩ := row_last3 (u1 := .int .i64 x.kind) (u2 := .int .i64 x.idx) (u3 := .slice a9 x.subs.length c9) hown3 hxl
            have hgN : W5.heap.size ≤ g := by
              rcases hat with e | e
              · exact (hltv g e).1
              · have := k3.out.size; omega
            have hAg : A ≠ g := by omega
            have hXg : W.heap.size ≠ g := by
              rcases hat with e | e
              · have := (hltv _ e).2; omega
              · have := k3.out.size; omega
            have hz3 := hgrow.size
            have hkz := k3.out.size
            have HA3 : Hid (Blk w3 A #[.slice va l.length vc] 24) := (hgrow.block A (by omega) (fun e => by have := (hltv A e.symm).1; omega)).trans (BA9.out.below k3.out (by omega))
            have X3 : Hid (Blk w3 W.heap.size #[.int .i64 x.kind, .int .i64 x.idx, .slice xa x.subs.length xc] 26) := (hgrow.block W.heap.size (by omega) (fun e => by have := (hltv _ e.symm).2; omega)).trans (KX.out _ k3.out)
            have X36 := hide (((X3.out.setOther (l.length * 3) (.int .i64 x.kind) hXg).setOther (l.length * 3 + 1) (.int .i64 x.idx) hXg).setOther (l.length * 3 + 2) (.slice a9 x.subs.length c9) hXg)
            have X367 := hide (X36.out.setOther 0 (.slice (some ⟨g, 0, none⟩) (l.length + 1) cap) hXA)
            have X37 := hide (X3.out.setOther 0 (.slice (some ⟨g, 0, none⟩) (l.length + 1) cap) hXA)
            have X376 := hide (((X37.out.setOther (l.length * 3) (.int .i64 x.kind) hXg).setOther (l.length * 3 + 1) (.int .i64 x.idx) hXg).setOther (l.length * 3 + 2) (.slice a9 x.subs.length c9) hXg)
            have a3 : w3.cell? ⟨A, 0, none⟩ = some (.slice va l.length vc) := HA3.out.cell 0
            have af : w3.frozen? ⟨A, 0, none⟩ = false := HA3.out.frozen 0
            have HG := hide (And.intro hgrow (And.intro hown3 hat))
            clear hrun hgrow hown3 hat
            refine wpAnyH_ready (rs := [5]) (by kernel_rfl) (by simp) ?_
            refine AllReadyH.cons rfl (fun K hK => ?_) AllReadyH.nil
            refine step_append_eqM rfl _ _ _ _ rfl rfl rfl HRUN.out ?_
            refine hK.out _ _ (by exact X3.out) (fun hHeld => ?_)
            clear hK K
            try simp only [Act.put, List.setIfInBounds_toArray, List.set_cons_zero, List.set_cons_succ, List.getElem_toArray, List.getElem_cons_succ, List.getElem_cons_zero]
            refine wpAnyH_take (i := 6) (v := ?_) rfl (by kernel_rfl) (by kernel_rfl) (by kernel_rfl) (fun _ _ _ h => h) (Or.inl ⟨by rfl, ?_⟩) (by assumption) ?_
            rotate_left
            · intro w' hSw
              go_simp <;> with_reducible rfl
            try simp only [Act.put, List.setIfInBounds_toArray, List.set_cons_zero, List.set_cons_succ, List.getElem_toArray, List.getElem_cons_succ, List.getElem_cons_zero]
            refine wpAnyH_ready (rs := [7, 8]) (by kernel_rfl) (by simp) ?_
            refine AllReadyH.cons rfl (fun K hK => ?_) (AllReadyH.cons rfl (fun K hK => ?_) AllReadyH.nil)
            · go_simp
              refine hK.out _ _ (by exact X36.out) (fun hHeld => ?_)
              clear hK K
              try simp only [Act.put, List.setIfInBounds_toArray, List.set_cons_zero, List.set_cons_succ, List.getElem_toArray, List.getElem_cons_succ, List.getElem_cons_zero]
              refine wpAnyH_ready (rs := [8]) (by kernel_rfl) (by simp) ?_
              refine AllReadyH.cons rfl (fun K hK => ?_) AllReadyH.nil
              go_simp
              refine hK.out _ _ (by exact X367.out) (fun hHeld => ?_)
              clear hK K
              try simp only [Act.put, List.setIfInBounds_toArray, List.set_cons_zero, List.set_cons_succ, List.getElem_toArray, List.getElem_cons_succ, List.getElem_cons_zero]
              refine wpAnyH_done (by kernel_rfl) ?_ _
              refine ⟨by simp, ?_⟩
              exact js_step (by omega) (by omega) (by omega) (by omega) hdd5 HK1.out hzW HC.out H4W.out H5W.out HF.out HE.out HO.out HRW.out HLL.out HNF.out hnp HOS9.out (by omega) HK9.out HL9.out k3.out SC3.out HG.out.1 HG.out.2.1 HG.out.2.2 (fw3_a hAg HA3.out)
            · go_simp
              refine hK.out _ _ (by exact X37.out) (fun hHeld => ?_)
              clear hK K
              try simp only [Act.put, List.setIfInBounds_toArray, List.set_cons_zero, List.set_cons_succ, List.getElem_toArray, List.getElem_cons_succ, List.getElem_cons_zero]
              refine wpAnyH_ready (rs := [7]) (by kernel_rfl) (by simp) ?_
              refine AllReadyH.cons rfl (fun K hK => ?_) AllReadyH.nil
              go_simp
              refine hK.out _ _ (by exact X376.out) (fun hHeld => ?_)
              clear hK K
              try simp only [Act.put, List.setIfInBounds_toArray, List.set_cons_zero, List.set_cons_succ, List.getElem_toArray, List.getElem_cons_succ, List.getElem_cons_zero]
              refine wpAnyH_done (by kernel_rfl) ?_ _
              refine ⟨by simp, ?_⟩
              exact js_step (by omega) (by omega) (by omega) (by omega) hdd5 HK1.out hzW HC.out H4W.out H5W.out HF.out HE.out HO.out HRW.out HLL.out HNF.out hnp HOS9.out (by omega) HK9.out HL9.out k3.out SC3.out HG.out.1 HG.out.2.1 HG.out.2.2 (fw3_b hAg HA3.out)
          · go_simp
            go_at_call 21
            refine (CPY.out _ k1.out).mono ?_
            rintro e w51 ⟨a9, c9, rfl, hs9, hb9'⟩
            have k2 := hide (k1.out.trans (hb9'.mono k1.out.size))
            have SC2 : Hid (SlM w51 (fun b => W.heap.size ≤ b) a9 x.subs) := hs9
            have PB2 := hide (PB1.out.below hb9' PB1.out.lt)
            clear hs9 hb9'
            go_simp
            refine hK.out _ _ (by exact (KX.out _ k2.out)) (fun hHeld => ?_)
            clear hK K
            try simp only [Act.put, List.setIfInBounds_toArray, List.set_cons_zero, List.set_cons_succ, List.getElem_toArray, List.getElem_cons_succ, List.getElem_cons_zero]
            refine wpAnyH_ready (rs := [0]) (by kernel_rfl) (by simp) ?_
            refine AllReadyH.cons rfl (fun K hK => ?_) AllReadyH.nil
            have a20 := KA.out _ k2.out
            go_simp
            refine hK.out _ _ (by exact (KX.out _ k2.out)) (fun hHeld => ?_)
            clear hK K
            try simp only [Act.put, List.setIfInBounds_toArray, List.set_cons_zero, List.set_cons_succ, List.getElem_toArray, List.getElem_cons_succ, List.getElem_cons_zero]
            refine wpAnyH_take (i := 3) (v := ?_) rfl (by kernel_rfl) (by kernel_rfl) (by kernel_rfl) (fun _ _ _ h => h) (Or.inl ⟨by rfl, ?_⟩) (by assumption) ?_
            rotate_left
            · intro w' hSw
              go_simp <;> with_reducible rfl
            try simp only [Act.put, List.setIfInBounds_toArray, List.set_cons_zero, List.set_cons_succ, List.getElem_toArray, List.getElem_cons_succ, List.getElem_cons_zero]
            have k3 := k2
            have SC3 := SC2
            have PB3 := PB2
            obtain ⟨g, cap, w3, hrun, hown3, hgrow, hat, hglt⟩ := appZ (v := .slice va l.length vc) (OW.out _ k3.out) PB3.out hn1 (by have := k3.out.size; omega)
            have HRUN := hide hrun
            obtain ⟨q1, q2, q3, qf, _⟩ := row_last3 (u1 := .int .i64 x.kind) (u2 := .int .i64 x.idx) (u3 := .slice a9 x.subs.length c9) hown3 hxl
            have hgN : W5.heap.size ≤ g := by
              rcases hat with e | e
              · exact (hltv g e).1
              · have := k3.out.size; omega
            have hAg : A ≠ g := by omega
            have hXg : W.heap.size ≠ g := by
              rcases hat with e | e
              · have := (hltv _ e).2; omega
              · have := k3.out.size; omega
            have hz3 := hgrow.size
            have hkz := k3.out.size
            have HA3 : Hid (Blk w3 A #[.slice va l.length vc] 24) := (hgrow.block A (by omega) (fun e => by have := (hltv A e.symm).1; omega)).trans (BA9.out.below k3.out (by omega))
            have X3 : Hid (Blk w3 W.heap.size #[.int .i64 x.kind, .int .i64 x.idx, .slice xa x.subs.length xc] 26) := (hgrow.block W.heap.size (by omega) (fun e => by have := (hltv _ e.symm).2; omega)).trans (KX.out _ k3.out)
            have X36 := hide (((X3.out.setOther (l.length * 3) (.int .i64 x.kind) hXg).setOther (l.length * 3 + 1) (.int .i64 x.idx) hXg).setOther (l.length * 3 + 2) (.slice a9 x.subs.length c9) hXg)
            have X367 := hide (X36.out.setOther 0 (.slice (some ⟨g, 0, none⟩) (l.length + 1) cap) hXA)
            have X37 := hide (X3.out.setOther 0 (.slice (some ⟨g, 0, none⟩) (l.length + 1) cap) hXA)
            have X376 := hide (((X37.out.setOther (l.length * 3) (.int .i64 x.kind) hXg).setOther (l.length * 3 + 1) (.int .i64 x.idx) hXg).setOther (l.length * 3 + 2) (.slice a9 x.subs.length c9) hXg)
            have a3 : w3.cell? ⟨A, 0, none⟩ = some (.slice va l.length vc) := HA3.out.cell 0
            have af : w3.frozen? ⟨A, 0, none⟩ = false := HA3.out.frozen 0
            have HG := hide (And.intro hgrow (And.intro hown3 hat))
            clear hrun hgrow hown3 hat
            refine wpAnyH_ready (rs := [5]) (by kernel_rfl) (by simp) ?_
            refine AllReadyH.cons rfl (fun K hK => ?_) AllReadyH.nil
            refine step_append_eqM rfl _ _ _ _ rfl rfl rfl HRUN.out ?_
            refine hK.out _ _ (by exact X3.out) (fun hHeld => ?_)
            clear hK K
            try simp only [Act.put, List.setIfInBounds_toArray, List.set_cons_zero, List.set_cons_succ, List.getElem_toArray, List.getElem_cons_succ, List.getElem_cons_zero]
            refine wpAnyH_take (i := 6) (v := ?_) rfl (by kernel_rfl) (by kernel_rfl) (by kernel_rfl) (fun _ _ _ h => h) (Or.inl ⟨by rfl, ?_⟩) (by assumption) ?_
            rotate_left
            · intro w' hSw
              go_simp <;> with_reducible rfl
            try simp only [Act.put, List.setIfInBounds_toArray, List.set_cons_zero, List.set_cons_succ, List.getElem_toArray, List.getElem_cons_succ, List.getElem_cons_zero]
            refine wpAnyH_ready (rs := [7, 8]) (by kernel_rfl) (by simp) ?_
            refine AllReadyH.cons rfl (fun K hK => ?_) (AllReadyH.cons rfl (fun K hK => ?_) AllReadyH.nil)
            · go_simp
              refine hK.out _ _ (by exact X36.out) (fun hHeld => ?_)
              clear hK K
              try simp only [Act.put, List.setIfInBounds_toArray, List.set_cons_zero, List.set_cons_succ, List.getElem_toArray, List.getElem_cons_succ, List.getElem_cons_zero]
              refine wpAnyH_ready (rs := [8]) (by kernel_rfl) (by simp) ?_
              refine AllReadyH.cons rfl (fun K hK => ?_) AllReadyH.nil
              go_simp
              refine hK.out _ _ (by exact X367.out) (fun hHeld => ?_)
              clear hK K
              try simp only [Act.put, List.setIfInBounds_toArray, List.set_cons_zero, List.set_cons_succ, List.getElem_toArray, List.getElem_cons_succ, List.getElem_cons_zero]
              refine wpAnyH_done (by kernel_rfl) ?_ _
              refine ⟨by simp, ?_⟩
              exact js_step (by omega) (by omega) (by omega) (by omega) hdd5 HK1.out hzW HC.out H4W.out H5W.out HF.out HE.out HO.out HRW.out HLL.out HNF.out hnp HOS9.out (by omega) HK9.out HL9.out k3.out SC3.out HG.out.1 HG.out.2.1 HG.out.2.2 (fw3_a hAg HA3.out)
            · go_simp
              refine hK.out _ _ (by exact X37.out) (fun hHeld => ?_)
              clear hK K
              try simp only [Act.put, List.setIfInBounds_toArray, List.set_cons_zero, List.set_cons_succ, List.getElem_toArray, List.getElem_cons_succ, List.getElem_cons_zero]
              refine wpAnyH_ready (rs := [7]) (by kernel_rfl) (by simp) ?_
              refine AllReadyH.cons rfl (fun K hK => ?_) AllReadyH.nil
              go_simp
              refine hK.out _ _ (by exact X376.out) (fun hHeld => ?_)
              clear hK K
              try simp only [Act.put, List.setIfInBounds_toArray, List.set_cons_zero, List.set_cons_succ, List.getElem_toArray, List.getElem_cons_succ, List.getElem_cons_zero]
              refine wpAnyH_done (by kernel_rfl) ?_ _
              refine ⟨by simp, ?_⟩
              exact js_step (by omega) (by omega) (by omega) (by omega) hdd5 HK1.out hzW HC.out H4W.out H5W.out HF.out HE.out HO.out HRW.out HLL.out HNF.out hnp HOS9.out (by omega) HK9.out HL9.out k3.out SC3.out HG.out.1 HG.out.2.1 HG.out.2.2 (fw3_b hAg HA3.out)
  obtain ⟨f0, hf0⟩ : ∃ f0 : Nat → Prop, f0 = fun b => b = D + 1 ∨ b = A ∨ b = w.heap.size + 1 ∨ b = w.heap.size + 2 ∨ (Value.slice none 0 0).ownBlock = some b ∨ False := ⟨_, rfl⟩
  have HF0 : Hid (∀ b, f0 b → b = D + 1 ∨ b = A ∨ b = w.heap.size + 1 ∨ b = w.heap.size + 2) := fun b hb => by
    rw [hf0] at hb
    rcases hb with h | h | h | h | h | h
    · exact Or.inl h
    · exact Or.inr (Or.inl h)
    · exact Or.inr (Or.inr (Or.inl h))
    · exact Or.inr (Or.inr (Or.inr h))
    · simp [Value.ownBlock] at h
    · exact h.elim
  have hj0 : JS X A (w.heap.size + 1) (w.heap.size + 2) (D + 1) r rd W5 [] true f0 W5 := by
    refine ⟨fun b hb => ⟨by have := HX.out b hb; omega, fun h => ?_⟩, Nat.le_refl _, fun _ _ => rfl, by simpa using HL5.out, R45.out, by simpa using R55.out, ⟨.slice none 0 0, [], [], fun _ => False, fun b => by rw [hf0], fun b h => h.elim, K5.out, World.ownsRow_nil _ _ _ _, rfl, fun _ => rfl⟩, (fun _ p hp => by cases hp), (fun h => by cases h)⟩
    have h1 := HX.out b hb
    rcases HF0.out b h with h | h | h | h <;> omega
  clear hf0
  refine (outer1G_any HOG.out RH JS.ok (fun _ h => h) T aT cT W5 X f0 [] (by simp) T5.out S5.out (fun _ h => h) hj0).mono ?_
  rintro e Wf ⟨hret, s, hw⟩
  obtain ⟨m, f', hm, hms, hj, he, hff⟩ := hw
  rw [List.nil_append] at hj
  obtain ⟨hK9, hz9, hC9, hL9, h49, h59, ⟨v, l, xs, E, hf9, hE9, hA9, ho9, hr9, hl9⟩, hnf9, hfl9⟩ := hj
  have hlt9 := ho9.lt
  have HD9 : Hid (Wf.heap[D]? = some (.deferred (some []))) := (he.block _ (by omega) (fun h => by
    rcases h with h | h
    · rcases HF0.out _ h with h | h | h | h <;> omega
    · exact h)).trans HD5.out
  have HBF : Hid (∀ b, b < w.heap.size → Wf.heap[b]? = w.heap[b]?) := fun b hb => (he.block b (by omega) (fun h => by
    rcases h with h | h
    · rcases HF0.out _ h with h | h | h | h <;> omega
    · exact h)).trans (B5.out.block b hb)
  have HOSF : Hid (Wf.os = w.os ∧ Wf.tape = w.tape ∧ Wf.output = w.output) := ⟨he.os.trans B5.out.os, he.tape.trans B5.out.tape, he.output.trans B5.out.output⟩
  have HRET := hide hret
  have HL9 := hide hL9
  clear he hff hj0 RH hret
  refine ⟨HRET.out, ?_⟩
  have hRD : w.heap.size + 1 ≠ D + 1 ∧ w.heap.size + 1 + 1 ≠ D + 1 ∧ A ≠ D + 1 ∧ w.heap.size + 1 ≠ D ∧ w.heap.size + 1 + 1 ≠ D ∧ D ≠ D + 1 ∧ w.heap.size + 1 ≠ w.heap.size + 1 + 1 := by omega
  cases s with
  | true =>
    left
    refine ⟨HL9.out, ?_⟩
    have em := hms rfl
    subst em
    rw [List.take_length] at hl9 hnf9
    have HLL : Hid (l = stsT 2001 t) := hl9 rfl
    have HNF := hide (hnf9 rfl)
    have HZE : Hid (stE t u = 0) := HS0.out fun ⟨p, hp, hb⟩ => HNF.out p hp hb
    clear hl9 hnf9 hfl9 hms hm hr1 hr2 hr3 hr4 hr5 hr6
    simp only [if_true] at h59
    obtain ⟨va, vc, hvv⟩ : ∃ va vc, v = .slice va l.length vc := by
      rcases ho9.2 with ⟨h1, h2⟩ | ⟨g, cap, cur, hv, _⟩
      · exact ⟨none, 0, by rw [h1, h2]⟩
      · exact ⟨_, _, hv⟩
    subst hvv
    have HRM : Hid (RowM Wf W5.heap.size 26 (fun _ => False) (.slice va l.length vc) l xs) := ⟨ho9, hr9.imp fun a' k' hs' => hs'.mono fun b hb _ => Or.inr ⟨(hE9 b hb).1, fun e => (hE9 b hb).2.2 e.symm⟩⟩
    have q4 : ∀ o, (Wf.putObj (D + 1) o).cell? ⟨w.heap.size + 1, 0, none⟩ = some (.slice none 0 0) := fun o => (World.cell?_of_block (World.putObj_heap_other hRD.1)).trans (h49.cell 0)
    have q5 : ∀ o, (Wf.putObj (D + 1) o).cell? ⟨w.heap.size + 1 + 1, 0, none⟩ = some (.int .i64 0) := fun o => (World.cell?_of_block (World.putObj_heap_other hRD.2.1)).trans (h59.cell 0)
    have qa : ∀ o, (Wf.putObj (D + 1) o).cell? ⟨A, 0, none⟩ = some (.slice va l.length vc) := fun o => (World.cell?_of_block (World.putObj_heap_other hRD.2.2.1)).trans (hA9.cell 0)
    have g4 : ∀ o, (Wf.putObj (D + 1) o).frozen? ⟨w.heap.size + 1, 0, none⟩ = false := fun o => Blk.frozen (show Blk (Wf.putObj (D + 1) o) (w.heap.size + 1) _ _ from (World.putObj_heap_other hRD.1).trans h49) 0
    have g5 : ∀ o, (Wf.putObj (D + 1) o).frozen? ⟨w.heap.size + 1 + 1, 0, none⟩ = false := fun o => Blk.frozen (show Blk (Wf.putObj (D + 1) o) (w.heap.size + 1 + 1) _ _ from (World.putObj_heap_other hRD.2.1).trans h59) 0
    have pf : ∀ (o o1 : Obj) b, b ≠ D + 1 → b ≠ D → b ≠ w.heap.size + 1 → b ≠ w.heap.size + 2 → ((((Wf.putObj (D + 1) o).setCell ⟨w.heap.size + 1, 0, none⟩ (.slice va l.length vc)).setCell ⟨w.heap.size + 1 + 1, 0, none⟩ (.int .i64 0)).putObj D o1).heap[b]? = Wf.heap[b]? := fun o o1 b h9 h8 h1 h2 => by
      rw [World.putObj_heap_other h8, Below.heap_setCell _ _ _ _ (by simpa using h2), Below.heap_setCell _ _ _ _ (by simpa using h1), World.putObj_heap_other h9]
    have HDD : Hid (∀ o, (((Wf.putObj (D + 1) o).setCell ⟨w.heap.size + 1, 0, none⟩ (.slice va l.length vc)).setCell ⟨w.heap.size + 1 + 1, 0, none⟩ (.int .i64 0)).heap[D]? = some (.deferred (some []))) := fun o => by
      rw [Below.heap_setCell _ _ _ _ (by simpa using fun e => hRD.2.2.2.2.1 e.symm), Below.heap_setCell _ _ _ _ (by simpa using fun e => hRD.2.2.2.1 e.symm), World.putObj_heap_other hRD.2.2.2.2.2.1]
      exact HD9.out
    have r4 : ∀ (o o1 : Obj), ((((Wf.putObj (D + 1) o).setCell ⟨w.heap.size + 1, 0, none⟩ (.slice va l.length vc)).setCell ⟨w.heap.size + 1 + 1, 0, none⟩ (.int .i64 0)).putObj D o1).cell? ⟨w.heap.size + 1, 0, none⟩ = some (.slice va l.length vc) := fun o o1 => by
      have h : Blk ((((Wf.putObj (D + 1) o).setCell ⟨w.heap.size + 1, 0, none⟩ (.slice va l.length vc)).setCell ⟨w.heap.size + 1 + 1, 0, none⟩ (.int .i64 0)).putObj D o1) (w.heap.size + 1) #[.slice va l.length vc] 24 := (World.putObj_heap_other hRD.2.2.2.1).trans ((Blk.set1M ((World.putObj_heap_other hRD.1).trans h49)).setOther _ _ hRD.2.2.2.2.2.2)
      exact h.cell 0
    have r5 : ∀ (o o1 : Obj), ((((Wf.putObj (D + 1) o).setCell ⟨w.heap.size + 1, 0, none⟩ (.slice va l.length vc)).setCell ⟨w.heap.size + 1 + 1, 0, none⟩ (.int .i64 0)).putObj D o1).cell? ⟨w.heap.size + 1 + 1, 0, none⟩ = some (.int .i64 0) := fun o o1 => by
      have h : Blk ((((Wf.putObj (D + 1) o).setCell ⟨w.heap.size + 1, 0, none⟩ (.slice va l.length vc)).setCell ⟨w.heap.size + 1 + 1, 0, none⟩ (.int .i64 0)).putObj D o1) (w.heap.size + 1 + 1) #[.int .i64 0] 28 := (World.putObj_heap_other hRD.2.2.2.2.1).trans (Blk.set1M (Blk.setOther (show Blk (Wf.putObj (D + 1) o) (w.heap.size + 1 + 1) #[.int .i64 0] 28 from (World.putObj_heap_other hRD.2.1).trans h59) _ _ (fun e => hRD.2.2.2.2.2.2 e.symm)))
      exact h.cell 0
    have HRW := HRM
    obtain ⟨ae, ce, hse0, hse⟩ := HRM.out.sl
    simp only [Value.slice.injEq] at hse0
    obtain ⟨rfl, _, rfl⟩ := hse0
    have HFIN : Hid (∀ (o o1 : Obj), StPostR t u w (.returned (.tuple #[.slice va l.length vc, .int .i64 0])) ((((Wf.putObj (D + 1) o).setCell ⟨w.heap.size + 1, 0, none⟩ (.slice va l.length vc)).setCell ⟨w.heap.size + 1 + 1, 0, none⟩ (.int .i64 0)).putObj D o1)) := fun o o1 => by
      refine ⟨⟨HOSF.out.1, HOSF.out.2.1, HOSF.out.2.2, by simp [World.setCell]; omega, fun b hb => (pf o o1 b (by omega) (by omega) (by omega) (by omega)).trans (HBF.out b hb)⟩, Or.inl ⟨HZE.out, _, _, by rw [HLL.out], ?_, W5.heap.size, xs, ?_, ?_, ?_⟩⟩
      · rw [← HLL.out]
        refine (hse.kept fun b hb => ?_).mono fun b hb _ => ?_
        · rcases hb with h | h
          · exact h.elim
          · exact pf o o1 b (by omega) (by omega) (by omega) (by omega)
        · rcases hb with h | h
          · exact h.elim
          · omega
      · omega
      · simp [World.setCell]; omega
      · rw [← HLL.out]
        refine ⟨owns_keptS HRW.out.own fun b hb => ?_, HRW.out.row.imp fun a' k' h' => h'.kept fun b hb => ?_⟩
        · have := (HRW.out.own.lt b hb).1
          exact pf o o1 b (by omega) (by omega) (by omega) (by omega)
        · rcases hb with h | h
          · exact h.elim
          · exact pf o o1 b (by omega) (by omega) (by omega) (by omega)
    clear hse HRM HRW
    gi_wp2
    refine ⟨by simp, .inl ⟨_, _, rfl, run_takeDeferred (HDD.out _), ?_⟩⟩
    exact ⟨.tuple #[.slice va l.length vc, .int .i64 0], by simp [results, Tryz.results10, go_sem, r4, r5], HFIN.out _ _⟩
  | false =>
    right
    refine ⟨by rw [← hrd]; exact HL9.out, ?_⟩
    have HFL := hide (hfl9 rfl)
    have HZE : Hid (stE t u = 8) := HS8.out (by
      obtain ⟨p, hp, hb⟩ := HFL.out
      exact ⟨p, List.mem_of_mem_take hp, hb⟩)
    clear hl9 hnf9 hfl9 hms hm hr1 hr2 hr3 hr4 hr5 hr6
    simp only [Bool.false_eq_true, if_false] at h59
    have pf : ∀ (o o1 : Obj) b, b ≠ D + 1 → b ≠ D → ((Wf.putObj (D + 1) o).putObj D o1).heap[b]? = Wf.heap[b]? := fun o o1 b h9 h8 => (World.putObj_heap_other h8).trans (World.putObj_heap_other h9)
    have HDD : Hid (∀ o, (Wf.putObj (D + 1) o).heap[D]? = some (.deferred (some []))) := fun o => (World.putObj_heap_other hRD.2.2.2.2.2.1).trans HD9.out
    have r4 : ∀ (o o1 : Obj), ((Wf.putObj (D + 1) o).putObj D o1).cell? ⟨w.heap.size + 1, 0, none⟩ = some (.slice none 0 0) := fun o o1 => (World.cell?_of_block (pf o o1 _ hRD.1 hRD.2.2.2.1)).trans (h49.cell 0)
    have r5 : ∀ (o o1 : Obj), ((Wf.putObj (D + 1) o).putObj D o1).cell? ⟨w.heap.size + 1 + 1, 0, none⟩ = some (.int .i64 8) := fun o o1 => (World.cell?_of_block (pf o o1 _ hRD.2.1 hRD.2.2.2.2.1)).trans (h59.cell 0)
    have HFIN : Hid (∀ (o o1 : Obj), StPostR t u w (.returned (.tuple #[.slice none 0 0, .int .i64 8])) ((Wf.putObj (D + 1) o).putObj D o1)) := fun o o1 => by
      refine ⟨⟨HOSF.out.1, HOSF.out.2.1, HOSF.out.2.2, by simp; omega, fun b hb => (pf o o1 b (by omega) (by omega)).trans (HBF.out b hb)⟩, Or.inr ⟨by rw [HZE.out]; decide, by rw [HZE.out]⟩⟩
    gi_wp2
    refine ⟨by simp, .inl ⟨_, _, rfl, run_takeDeferred (HDD.out _), ?_⟩⟩
    exact ⟨.tuple #[.slice none 0 0, .int .i64 8], by simp [results, Tryz.results10, go_sem, r4, r5], HFIN.out _ _⟩
theorem rSteps_any (t : Lm) (u : Int) (v : Value) (w : World) (X0 : Nat → Prop) (hv : MV w X0 v t) :
    Calls Tryz.prog 10 #[v, .int .i64 u] w fun e w' => StPost t u w e w' := by
  refine (rStepsR_any t u v w X0 hv).mono ?_
  rintro e w' ⟨hb, h⟩
  rcases h with ⟨h1, a, c, h2, h3, _⟩ | h
  · exact ⟨hb, Or.inl ⟨h1, a, c, h2, h3⟩⟩
  · exact ⟨hb, Or.inr h⟩
end Go.Proofs.YtagidfoiemgfcaaGreatDoor
