/- Walks: may an automaton be? -/
import Derived.Test.YtfodgmnnjgcpgaaAu4
import Derived.Deep.DeepCutAuto
namespace Go.Proofs.Ytfodgmnnjgcpgaa
open Go.RowKit
set_option linter.unusedSimpArgs false
set_option linter.unusedVariables false
set_option maxRecDepth 8000

theorem pv_one (w : World) (x : Int) : PV (w.alloc (.cells #[.int .i64 x] 3)) (fun _ => True) (.slice (some ⟨w.heap.size, 0, none⟩) 1 1) [x] :=
  ⟨_, _, rfl, by simp, Or.inr ⟨w.heap.size, 0, rfl, trivial, fun i hi => by simp at hi; subst hi; exact (Blk.new w #[.int .i64 x] 3).cell 0⟩⟩
set_option maxHeartbeats 1000000 in
theorem checkMove_any (n : Int) (m : Mv) (a : Option Addr) (c : Nat) (w : World) (X : Nat → Prop) (hp : PV w X (.slice a m.frm.length c) m.frm) :
    Calls Try.prog 68 #[.int .i64 n, .agg #[.string m.name, .slice a m.frm.length c, .int .i64 m.to]] w fun e w' => e = .returned (.int .i64 (mvE n m)) ∧ Below w.heap.size w w' := by
  have hml := hp.len.1
  have B1 : Hid (Below w.heap.size w (w.alloc (.cells #[.string m.name, .slice a m.frm.length c, .int .i64 m.to] 49))) := (Below.refl _ _).alloc (Nat.le_refl _) _
  have T1 : Hid (Blk (w.alloc (.cells #[.string m.name, .slice a m.frm.length c, .int .i64 m.to] 49)) w.heap.size #[.string m.name, .slice a m.frm.length c, .int .i64 m.to] 49) := Blk.new w _ _
  have P1 := hide (hp.later B1.out)
  clear hp
  generalize hE : mvE n m = E
  unfold mvE at hE
  have HE := hide hE
  clear hE
  go_enter Try.func68, Try.ntmps68
  go_upto_region 1 with fail
  generalize (w.alloc (.cells #[.string m.name, .slice a m.frm.length c, .int .i64 m.to] 49)) = w1 at *
  have c0 : w1.cell? ⟨w.heap.size, 0, none⟩ = some (.string m.name) := T1.out.cell 0
  have c1 : w1.cell? ⟨w.heap.size, 1, none⟩ = some (.slice a m.frm.length c) := T1.out.cell 1
  have c2 : w1.cell? ⟨w.heap.size, 2, none⟩ = some (.int .i64 m.to) := T1.out.cell 2
  have hlt1 := T1.out.lt
  go_wp2_with fail
  refine (isName_any m.name _).mono ?_
  rintro e w2 ⟨rfl, rfl⟩
  cases h1 : nameB m.name with
  | false =>
    have hE : E = 1 := by rw [← HE.out, h1]; rfl
    subst hE
    clear h1
    go_wp2_with fail
    go_ret
    exact ⟨rfl, B1.out⟩
  | true =>
    go_wp2_with fail
    refine (isVariable_all m.name _).mono ?_
    rintro e w3 ⟨rfl, rfl⟩
    cases h2 : varB m.name with
    | true =>
      have hE : E = 1 := by rw [← HE.out, h1, h2]; rfl
      subst hE
      clear h1 h2
      go_wp2_with fail
      go_ret
      exact ⟨rfl, B1.out⟩
    | false =>
      have HE2 : Hid ((if 4 < m.frm.length then 3 else if (okSt n m.frm && okSt n [m.to]) = true then 0 else 10) = E) := by
        unfold Hid; rw [← HE.out, h1, h2]; rfl
      clear h1 h2 HE
      by_cases h3 : 4 < m.frm.length
      · have h3i : (4 : Int) < (m.frm.length : Int) := by omega
        have hE : E = 3 := by rw [← HE2.out, if_pos h3]
        subst hE
        go_wp2_with fail
        go_ret
        exact ⟨rfl, B1.out⟩
      · have h3i : ¬ (4 : Int) < (m.frm.length : Int) := by omega
        have HE3 : Hid ((if (okSt n m.frm && okSt n [m.to]) = true then 0 else 10) = E) := by
          unfold Hid; rw [← HE2.out, if_neg h3]
        clear HE2
        go_wp2_with fail
        refine (areStates_any n m.frm _ _ X (by exact P1.out)).mono ?_
        rintro e w4 ⟨rfl, hb4⟩
        have B4 := hide (B1.out.trans (hb4.mono B1.out.size))
        have T4 := hide (T1.out.below hb4 T1.out.lt)
        clear hb4 c0 c1 c2 hlt1
        cases h5 : okSt n m.frm with
        | false =>
          have hE : E = 10 := by rw [← HE3.out, h5]; rfl
          subst hE
          clear h5
          go_wp2_with fail
          go_ret
          exact ⟨rfl, B4.out⟩
        | true =>
          have HE4 : Hid ((if okSt n [m.to] = true then 0 else 10) = E) := by
            unfold Hid; rw [← HE3.out, h5]; rfl
          clear h5 HE3
          have c2 : w4.cell? ⟨w.heap.size, 2, none⟩ = some (.int .i64 m.to) := T4.out.cell 2
          have hlt1 := T4.out.lt
          go_wp2_with fail
          refine (areStates_any n [m.to] _ _ (fun _ => True) (by exact pv_one _ _)).mono ?_
          rintro e w5 ⟨rfl, hb5⟩
          have B5 := hide ((B4.out.alloc B4.out.size (.cells #[.int .i64 m.to] 3)).trans (hb5.mono (B4.out.alloc B4.out.size (.cells #[.int .i64 m.to] 3)).size))
          clear hb5 c2 hlt1
          cases h6 : okSt n [m.to] with
          | false =>
            have hE : E = 10 := by rw [← HE4.out, h6]; rfl
            subst hE
            clear h6
            go_wp2_with fail
            go_ret
            exact ⟨rfl, B5.out⟩
          | true =>
            have hE : E = 0 := by rw [← HE4.out, h6]; rfl
            subst hE
            clear h6
            go_wp2_with fail
            go_ret
            exact ⟨rfl, B5.out⟩
theorem mvsE_take {n : Int} {l : List Mv} {k : Nat} (h : k < l.length) (hk : mvsE n (l.take k) = 0) (h1 : mvE n l[k] = 0) : mvsE n (l.take (k + 1)) = 0 := by
  rw [List.take_succ_eq_append_getElem h]
  rw [mvsE_zero] at *
  intro m hm
  rcases List.mem_append.1 hm with hm | hm
  · exact hk m hm
  · simp at hm; subst hm; exact mvE_zero.1 h1
theorem mvsE_bad {n : Int} : ∀ {l : List Mv} {k : Nat} (h : k < l.length), mvsE n (l.take k) = 0 → mvE n l[k] ≠ 0 → mvsE n l = mvE n l[k]
  | m :: r, 0, _, _, h1 => by simp only [List.getElem_cons_zero] at *; unfold mvsE; rw [if_neg h1]
  | m :: r, k + 1, h, hk, h1 => by
    rw [List.take_succ_cons] at hk
    unfold mvsE at hk
    by_cases h0 : mvE n m = 0
    · rw [if_pos h0] at hk
      simp only [List.getElem_cons_succ] at *
      conv => lhs; unfold mvsE
      rw [if_pos h0]
      exact mvsE_bad (by simpa using h) hk h1
    · rw [if_neg h0] at hk; exact absurd hk h0
set_option maxHeartbeats 1000000 in
theorem aCheck_any (A : Au) (v : Value) (w : World) (X : Nat → Prop) (hv : AV w X v A) :
    Calls Try.prog 43 #[v] w fun e w' => e = .returned (.int .i64 (auE 8 40 A)) ∧ Below w.heap.size w w' := by
  obtain ⟨am, cm, al, cl, rfl, hm, hp⟩ := hv
  have hml := hm.1
  have B1 : Hid (Below w.heap.size w (w.alloc (.cells #[.int .i64 A.st, .slice am A.mv.length cm, .slice al A.la.length cl] 25))) := (Below.refl _ _).alloc (Nat.le_refl _) _
  have T1 : Hid (Blk (w.alloc (.cells #[.int .i64 A.st, .slice am A.mv.length cm, .slice al A.la.length cl] 25)) w.heap.size #[.int .i64 A.st, .slice am A.mv.length cm, .slice al A.la.length cl] 25) := Blk.new w _ _
  have P1 := hide (hp.later B1.out)
  have M1 := hide (hm.later B1.out)
  clear hp hm
  generalize hE : auE 8 40 A = E
  unfold auE at hE
  have HE := hide hE
  clear hE
  go_enter Try.func43, Try.ntmps43
  go_upto_region 1 with fail
  generalize (w.alloc (.cells #[.int .i64 A.st, .slice am A.mv.length cm, .slice al A.la.length cl] 25)) = w1 at *
  have c0 : w1.cell? ⟨w.heap.size, 0, none⟩ = some (.int .i64 A.st) := T1.out.cell 0
  have c1 : w1.cell? ⟨w.heap.size, 1, none⟩ = some (.slice am A.mv.length cm) := T1.out.cell 1
  have c2 : w1.cell? ⟨w.heap.size, 2, none⟩ = some (.slice al A.la.length cl) := T1.out.cell 2
  have hlt1 := T1.out.lt
  by_cases h1 : A.st < 0
  · have hE : E = 3 := by rw [← HE.out, if_pos (Or.inl h1)]
    subst hE
    go_wp2_with fail
    go_ret
    exact ⟨rfl, B1.out⟩
  by_cases h2 : 8 < A.st
  · have hE : E = 3 := by rw [← HE.out, if_pos (Or.inr (Or.inl (by exact_mod_cast h2)))]
    subst hE
    go_wp2_with fail
    go_ret
    exact ⟨rfl, B1.out⟩
  by_cases h3 : 40 < A.mv.length
  · have hE : E = 3 := by rw [← HE.out, if_pos (Or.inr (Or.inr h3))]
    have h3i : (40 : Int) < (A.mv.length : Int) := by omega
    subst hE
    go_wp2_with fail
    go_ret
    exact ⟨rfl, B1.out⟩
  have h3i : ¬ (40 : Int) < (A.mv.length : Int) := by omega
  have HE2 : Hid ((if mvsE A.st A.mv = 0 then (if okSt A.st A.la = true then 0 else 10) else mvsE A.st A.mv) = E) := by
    unfold Hid
    rw [← HE.out, if_neg (show ¬ (A.st < 0 ∨ ((8 : Nat) : Int) < A.st ∨ 40 < A.mv.length) by omega)]
  clear HE
  go_wp2_with fail
  go_loopw [23] (fun i wr => ∃ k : Nat, k ≤ A.mv.length ∧ i = .int .i64 (k : Int) ∧ mvsE A.st (A.mv.take k) = 0 ∧ Below w1.heap.size w1 wr) (fun i wr => A.mv.length - (intOf i).toNat)
  case atStart => exact ⟨0, Nat.zero_le _, rfl, rfl, Below.refl _ _⟩
  case round =>
    obtain ⟨k, hk, rfl, hok, hb⟩ := hrel
    obtain ⟨w2, rfl⟩ : ∃ w2, w2 = wr := ⟨_, rfl⟩
    have HOK := hide hok
    have HB := hide hb
    have T2 := hide (T1.out.below hb T1.out.lt)
    clear hok c0 c1 c2 hlt1
    have c0 : w2.cell? ⟨w.heap.size, 0, none⟩ = some (.int .i64 A.st) := T2.out.cell 0
    have c2 : w2.cell? ⟨w.heap.size, 2, none⟩ = some (.slice al A.la.length cl) := T2.out.cell 2
    have hlt2 := T2.out.lt
    by_cases hlt : k < A.mv.length
    · have hki : (k : Int) < (A.mv.length : Int) := by omega
      obtain ⟨b, o, af, cf, rfl, hbl, d0, d1, d2, hpf⟩ := M1.out.get hb k hlt
      obtain ⟨m, hm⟩ : ∃ m, m = A.mv[k] := ⟨_, rfl⟩
      have HM := hide hm
      rw [← hm] at d0 d1 d2 hpf
      have hbl2 : b < w2.heap.size := Nat.lt_of_lt_of_le hbl hb.size
      have PF := hide (hpf.later ((Below.refl w2.heap.size w2).alloc (Nat.le_refl _) (.cells #[.string m.name, .slice af m.frm.length cf, .int .i64 m.to] 49)))
      clear hm hpf hb
      go_wp2_with fail
      refine (checkMove_any A.st m af cf _ X (by exact PF.out)).mono ?_
      rintro e w3 ⟨rfl, hb3⟩
      have HB3 := hide ((HB.out.alloc HB.out.size (.cells #[.string m.name, .slice af m.frm.length cf, .int .i64 m.to] 49)).trans (hb3.mono (HB.out.alloc HB.out.size (.cells #[.string m.name, .slice af m.frm.length cf, .int .i64 m.to] 49)).size))
      clear hb3 c0 c2 d0 d1 d2
      by_cases h5 : mvE A.st m = 0
      · have HNX : Hid (mvsE A.st (A.mv.take (k + 1)) = 0) := mvsE_take hlt HOK.out (by rw [← HM.out]; exact h5)
        rw [h5]
        clear h5
        go_wp2_with fail
        go_roundw
        case rel => exact ⟨k + 1, by omega, by go_num, HNX.out, HB3.out⟩
        case measure => simp [intOf]; omega
      · have HNX : Hid (mvE A.st m = E) := by
          unfold Hid
          have h6 := mvsE_bad hlt HOK.out (by rw [← HM.out]; exact h5)
          rw [← HM.out] at h6
          rw [← HE2.out, if_neg (by rw [h6]; exact h5), h6]
        rw [HNX.out]
        rw [HNX.out] at h5
        have hne : (E == 0) = false := by simpa using h5
        have hne2 : (E != 0) = true := by simpa using h5
        clear h5
        go_wp2_with fail
        go_ret
        exact ⟨rfl, B1.out.trans (HB3.out.mono B1.out.size)⟩
    · have hki : ¬ (k : Int) < (A.mv.length : Int) := by omega
      have HE3 : Hid ((if okSt A.st A.la = true then 0 else 10) = E) := by
        unfold Hid
        have h6 := HOK.out
        rw [List.take_of_length_le (by omega)] at h6
        rw [← HE2.out, if_pos h6]
      have P2 := hide (P1.out.later hb)
      clear hb
      go_wp2_with fail
      refine (areStates_any A.st A.la _ _ X (by exact P2.out)).mono ?_
      rintro e w3 ⟨rfl, hb3⟩
      have HB3 := hide (HB.out.trans (hb3.mono HB.out.size))
      clear hb3
      cases h6 : okSt A.st A.la with
      | false =>
        have hE : E = 10 := by rw [← HE3.out, h6]; rfl
        subst hE
        clear h6
        go_wp2_with fail
        go_ret
        exact ⟨rfl, B1.out.trans (HB3.out.mono B1.out.size)⟩
      | true =>
        have hE : E = 0 := by rw [← HE3.out, h6]; rfl
        subst hE
        clear h6
        go_wp2_with fail
        go_ret
        exact ⟨rfl, B1.out.trans (HB3.out.mono B1.out.size)⟩
end Go.Proofs.Ytfodgmnnjgcpgaa
