import Derived.Test.YtofebfjkodceeaaZMAutoMadeOwn
import Derived.BigQuiet
namespace Go.Proofs.Ytofebfjkodceeaa
open Go.RowKit
set_option linter.unusedSimpArgs false
set_option linter.unusedVariables false
set_option maxRecDepth 8000
def hugA (A : Au) : Bool := (A.mv.any fun m => decide (50 < m.frm.length)) || decide (100 < A.mv.length) || decide (100 < A.la.length)
theorem hug_take {l : List Mv} {k : Nat} (h : k < l.length) (hk : ((l.take k).any fun m => decide (50 < m.frm.length)) = false) (h1 : ¬ 50 < l[k].frm.length) : ((l.take (k + 1)).any fun m => decide (50 < m.frm.length)) = false := by
 rw [List.take_succ_eq_append_getElem h, List.any_append, hk]
 simp
 omega
set_option maxHeartbeats 1000000 in
theorem hugeAuto_any (A : Au) (v : Value) (w : World) (X : Nat → Prop) (hv : AV w X v A) :
  Calls Try.prog 12 #[v] w fun e w' => e = .returned (.bool (hugA A)) ∧ Below w.heap.size w w' := by
 obtain ⟨am, cm, al, cl, rfl, hm, hp⟩ := hv
 have hml := hm.1
 have hpl := hp.len.1
 have B1 : Hid (Below w.heap.size w (w.alloc (.cells #[.int .i64 A.st, .slice am A.mv.length cm, .slice al A.la.length cl] 25))) := (Below.refl _ _).alloc (Nat.le_refl _) _
 have T1 : Hid (Blk (w.alloc (.cells #[.int .i64 A.st, .slice am A.mv.length cm, .slice al A.la.length cl] 25)) w.heap.size #[.int .i64 A.st, .slice am A.mv.length cm, .slice al A.la.length cl] 25) := Blk.new w _ _
 have M1 := hide (hm.later B1.out)
 clear hp hm
 generalize hE : hugA A = E
 unfold hugA at hE
 have HE := hide hE
 clear hE
 go_enter Try.func12, Try.ntmps12
 go_upto_region 1 with fail
 generalize (w.alloc (.cells #[.int .i64 A.st, .slice am A.mv.length cm, .slice al A.la.length cl] 25)) = w1 at *
 have c1 : w1.cell? ⟨w.heap.size, 1, none⟩ = some (.slice am A.mv.length cm) := T1.out.cell 1
 have c2 : w1.cell? ⟨w.heap.size, 2, none⟩ = some (.slice al A.la.length cl) := T1.out.cell 2
 have hlt1 := T1.out.lt
 go_wp2_with fail
 go_loopw [3] (fun i wr => ∃ k : Nat, k ≤ A.mv.length ∧ i = .int .i64 (k : Int) ∧ ((A.mv.take k).any fun m => decide (50 < m.frm.length)) = false ∧ wr = w1) (fun i wr => A.mv.length - (intOf i).toNat)
 case atStart => exact ⟨0, Nat.zero_le _, rfl, rfl, rfl⟩
 case round =>
  obtain ⟨k, hk, rfl, hok, rfl⟩ := hrel
  have HOK := hide hok
  clear hok
  by_cases hlt : k < A.mv.length
  ·have hki : (k : Int) < (A.mv.length : Int) := by omega
   obtain ⟨b, o, af, cf, rfl, hbl, d0, d1, d2, hpf⟩ := M1.out.get (Below.refl wr.heap.size wr) k hlt
   have hfl := hpf.len.1
   obtain ⟨n, hn⟩ : ∃ n, n = A.mv[k].frm.length := ⟨_, rfl⟩
   have HN := hide hn
   rw [← hn] at d1 hfl
   clear hn hpf d0 d2
   by_cases h5 : 50 < n
   ·have h5i : (50 : Int) < (n : Int) := by omega
    have hE : E = true := by
     have h6 : (A.mv.any fun m => decide (50 < m.frm.length)) = true := List.any_eq_true.2 ⟨A.mv[k], List.getElem_mem hlt, by simp; rw [← HN.out]; exact h5⟩
     rw [← HE.out, h6]; rfl
    subst hE
    go_wp2_with fail
    go_ret
    exact ⟨rfl, B1.out⟩
   ·have h5i : ¬ (50 : Int) < (n : Int) := by omega
    have HNX := hide (hug_take hlt HOK.out (by rw [← HN.out]; exact h5))
    go_wp2_with fail
    go_roundw
    case rel => exact ⟨k + 1, by omega, by go_num, HNX.out, trivial⟩
    case measure => simp [intOf]; omega
  ·have hki : ¬ (k : Int) < (A.mv.length : Int) := by omega
   have HE2 : Hid ((decide (100 < A.mv.length) || decide (100 < A.la.length)) = E) := by
    unfold Hid
    have h6 := HOK.out
    rw [List.take_of_length_le (by omega)] at h6
    rw [← HE.out, h6]; rfl
   clear HE
   by_cases h1 : 100 < A.mv.length
   ·have h1i : (100 : Int) < (A.mv.length : Int) := by omega
    have hE : E = true := by rw [← HE2.out]; simp [h1]
    subst hE
    go_wp2_with fail
    go_ret
    exact ⟨rfl, B1.out⟩
   ·have h1i : ¬ (100 : Int) < (A.mv.length : Int) := by omega
    by_cases h2 : 100 < A.la.length
    ·have h2i : (100 : Int) < (A.la.length : Int) := by omega
     have hE : E = true := by rw [← HE2.out]; simp [h2]
     subst hE
     go_wp2_with fail
     go_ret
     exact ⟨rfl, B1.out⟩
    ·have h2i : ¬ (100 : Int) < (A.la.length : Int) := by omega
     have hE : E = false := by rw [← HE2.out]; simp; omega
     subst hE
     go_wp2_with fail
     go_ret
     exact ⟨rfl, B1.out⟩
theorem okSt_one {n z : Int} : okSt n [z] = true ↔ (0 ≤ z ∧ z < n) := by simp [okSt]
set_option maxHeartbeats 4000000 in
theorem autoMay_any (A : Au) (S M : Nat) (hS : S ≤ 1000000) (hM : M ≤ 1000000) (v : Value) (w : World) (X : Nat → Prop) (hv : AV w X v A) :
  Calls Try.prog 14 #[v, .int .i64 (S : Int), .int .i64 (M : Int)] w fun e w' => e = .returned (.int .i64 (auE S M A)) ∧ Below w.heap.size w w' := by
 obtain ⟨am, cm, al, cl, rfl, hm, hp⟩ := hv
 have hml := hm.1
 have hpl := hp.len.1
 have B1 : Hid (Below w.heap.size w (w.alloc (.cells #[.int .i64 A.st, .slice am A.mv.length cm, .slice al A.la.length cl] 25))) := (Below.refl _ _).alloc (Nat.le_refl _) _
 have T1 : Hid (Blk (w.alloc (.cells #[.int .i64 A.st, .slice am A.mv.length cm, .slice al A.la.length cl] 25)) w.heap.size #[.int .i64 A.st, .slice am A.mv.length cm, .slice al A.la.length cl] 25) := Blk.new w _ _
 have P1 := hide (hp.later B1.out)
 have M1 := hide (hm.later B1.out)
 clear hp hm
 generalize hE : auE S M A = E
 unfold auE at hE
 have HE := hide hE
 clear hE
 go_enter Try.func14, Try.ntmps14
 go_upto_region 1 with fail
 generalize (w.alloc (.cells #[.int .i64 A.st, .slice am A.mv.length cm, .slice al A.la.length cl] 25)) = w1 at *
 have c0 : w1.cell? ⟨w.heap.size, 0, none⟩ = some (.int .i64 A.st) := T1.out.cell 0
 have c1 : w1.cell? ⟨w.heap.size, 1, none⟩ = some (.slice am A.mv.length cm) := T1.out.cell 1
 have c2 : w1.cell? ⟨w.heap.size, 2, none⟩ = some (.slice al A.la.length cl) := T1.out.cell 2
 have hlt1 := T1.out.lt
 by_cases h1 : A.st < 0
 ·have hE : E = 3 := by rw [← HE.out, if_pos (Or.inl h1)]
  subst hE
  go_wp2_with fail
  go_ret
  exact ⟨rfl, B1.out⟩
 by_cases h2 : (S : Int) < A.st
 ·have hE : E = 3 := by rw [← HE.out, if_pos (Or.inr (Or.inl h2))]
  subst hE
  go_wp2_with fail
  go_ret
  exact ⟨rfl, B1.out⟩
 by_cases h3 : M < A.mv.length
 ·have hE : E = 3 := by rw [← HE.out, if_pos (Or.inr (Or.inr h3))]
  have h3i : (M : Int) < (A.mv.length : Int) := by omega
  subst hE
  go_wp2_with fail
  go_ret
  exact ⟨rfl, B1.out⟩
 have h3i : ¬ (M : Int) < (A.mv.length : Int) := by omega
 have HE2 : Hid ((if mvsE A.st A.mv = 0 then (if okSt A.st A.la = true then 0 else 10) else mvsE A.st A.mv) = E) := by
  unfold Hid
  rw [← HE.out, if_neg (show ¬ (A.st < 0 ∨ (S : Int) < A.st ∨ M < A.mv.length) by omega)]
 clear HE
 go_wp2_with fail
 go_loopw [7] (fun i wr => ∃ k : Nat, k ≤ A.mv.length ∧ i = .int .i64 (k : Int) ∧ mvsE A.st (A.mv.take k) = 0 ∧ Below w1.heap.size w1 wr) (fun i wr => A.mv.length - (intOf i).toNat)
 case atStart => exact ⟨0, Nat.zero_le _, rfl, rfl, Below.refl _ _⟩
 case round =>
  obtain ⟨k, hk, rfl, hok, hb⟩ := hrel
  obtain ⟨w2, rfl⟩ : ∃ w2, w2 = wr := ⟨_, rfl⟩
  have HOK := hide hok
  have HB := hide hb
  have T2 := hide (T1.out.below hb T1.out.lt)
  clear hok c0 c1 c2 hlt1
  have c0 : w2.cell? ⟨w.heap.size, 0, none⟩ = some (.int .i64 A.st) := T2.out.cell 0
  have c1 : w2.cell? ⟨w.heap.size, 1, none⟩ = some (.slice am A.mv.length cm) := T2.out.cell 1
  have c2 : w2.cell? ⟨w.heap.size, 2, none⟩ = some (.slice al A.la.length cl) := T2.out.cell 2
  have hlt2 := T2.out.lt
  by_cases hlt : k < A.mv.length
  ·have hki : (k : Int) < (A.mv.length : Int) := by omega
   obtain ⟨b, o, af, cf, rfl, hbl, d0, d1, d2, hpf⟩ := M1.out.get hb k hlt
   obtain ⟨m, hm⟩ : ∃ m, m = A.mv[k] := ⟨_, rfl⟩
   have HMK := hide hm
   rw [← hm] at d0 d1 d2 hpf
   have hbl2 : b < w2.heap.size := Nat.lt_of_lt_of_le hbl hb.size
   have hfl := hpf.len.1
   have B3 : Hid (Below w2.heap.size w2 (w2.alloc (.cells #[.string m.name, .slice af m.frm.length cf, .int .i64 m.to] 40))) := (Below.refl _ _).alloc (Nat.le_refl _) _
   have V3 : Hid (Blk (w2.alloc (.cells #[.string m.name, .slice af m.frm.length cf, .int .i64 m.to] 40)) w2.heap.size #[.string m.name, .slice af m.frm.length cf, .int .i64 m.to] 40) := Blk.new w2 _ _
   have PF := hide (hpf.later B3.out)
   have T3 := hide (T2.out.alloc (.cells #[.string m.name, .slice af m.frm.length cf, .int .i64 m.to] 40))
   have HBB := hide (HB.out.alloc HB.out.size (.cells #[.string m.name, .slice af m.frm.length cf, .int .i64 m.to] 40))
   -- what is wrong with the move
   have HBAD : Hid (∀ x : Int, mvE A.st m = x → x ≠ 0 → x = E) := fun x hx h0 => by
    have h5 : mvE A.st A.mv[k] ≠ 0 := by rw [← HMK.out, hx]; exact h0
    have h6 := mvsE_bad hlt HOK.out h5
    rw [← HE2.out, if_neg (by rw [h6]; exact h5), h6, ← HMK.out, hx]
   have HGOOD : Hid (mvE A.st m = 0 → mvsE A.st (A.mv.take (k + 1)) = 0) := fun h0 => mvsE_take hlt HOK.out (by rw [← HMK.out]; exact h0)
   clear hm hpf hb
   go_upto_region 7 with fail
   generalize (w2.alloc (.cells #[.string m.name, .slice af m.frm.length cf, .int .i64 m.to] 40)) = w3 at *
   obtain ⟨V, hV⟩ : ∃ V, V = w2.heap.size := ⟨_, rfl⟩
   rw [← hV] at V3 ⊢
   clear hV c0 c1 c2 d0 d1 d2 hlt2
   have v0 : w3.cell? ⟨V, 0, none⟩ = some (.string m.name) := V3.out.cell 0
   have v1 : w3.cell? ⟨V, 1, none⟩ = some (.slice af m.frm.length cf) := V3.out.cell 1
   have v2 : w3.cell? ⟨V, 2, none⟩ = some (.int .i64 m.to) := V3.out.cell 2
   have vl := V3.out.lt
   have c0 : w3.cell? ⟨w.heap.size, 0, none⟩ = some (.int .i64 A.st) := T3.out.cell 0
   have cl3 := T3.out.lt
   generalize hEM : mvE A.st m = EM at *
   unfold mvE at hEM
   have HEM := hide hEM
   clear hEM
   go_wp2_with fail
   refine (isNameR_any m.name _).mono ?_
   rintro e w4 ⟨rfl, rfl⟩
   cases h4 : nameB m.name with
   | false =>
    have hE : E = 1 := (HBAD.out 1 (by rw [← HEM.out, h4]; rfl) (by omega)).symm
    subst hE
    clear h4
    go_wp2_with fail
    go_ret
    exact ⟨rfl, B1.out.trans (HBB.out.mono B1.out.size)⟩
   | true =>
    go_wp2_with fail
    refine (isVarR_any m.name _).mono ?_
    rintro e w5 ⟨rfl, rfl⟩
    cases h5 : varB m.name with
    | true =>
     have hE : E = 1 := (HBAD.out 1 (by rw [← HEM.out, h4, h5]; rfl) (by omega)).symm
     subst hE
     clear h4 h5
     go_wp2_with fail
     go_ret
     exact ⟨rfl, B1.out.trans (HBB.out.mono B1.out.size)⟩
    | false =>
     have HE3 : Hid ((if 4 < m.frm.length then 3 else if (okSt A.st m.frm && okSt A.st [m.to]) = true then 0 else 10) = EM) := by
      unfold Hid; rw [← HEM.out, h4, h5]; rfl
     clear h4 h5 HEM
     by_cases h6 : 4 < m.frm.length
     ·have h6i : (4 : Int) < (m.frm.length : Int) := by omega
      have hE : E = 3 := (HBAD.out 3 (by rw [← HE3.out, if_pos h6]) (by omega)).symm
      subst hE
      go_wp2_with fail
      go_ret
      exact ⟨rfl, B1.out.trans (HBB.out.mono B1.out.size)⟩
     ·have h6i : ¬ (4 : Int) < (m.frm.length : Int) := by omega
      have HE4 : Hid ((if (okSt A.st m.frm && okSt A.st [m.to]) = true then 0 else 10) = EM) := by unfold Hid; rw [← HE3.out, if_neg h6]
      clear HE3
      go_wp2_with fail
      go_loopw [9] (fun i wr => ∃ q : Nat, q ≤ m.frm.length ∧ i = .int .i64 (q : Int) ∧ okSt A.st (m.frm.take q) = true ∧ Below w5.heap.size w5 wr) (fun i wr => m.frm.length - (intOf i).toNat)
      case atStart => exact ⟨0, Nat.zero_le _, rfl, by simp [okSt], Below.refl _ _⟩
      case round =>
       obtain ⟨q, hq, rfl, hokq, hbq⟩ := hrel
       obtain ⟨w6, rfl⟩ : ∃ w6, w6 = wr := ⟨_, rfl⟩
       have HOKQ := hide hokq
       have HBQ := hide (HBB.out.trans (hbq.mono HBB.out.size))
       have HB56 := hide hbq
       have V6 := hide (V3.out.below hbq V3.out.lt)
       have T6 := hide (T3.out.below hbq T3.out.lt)
       clear hokq v0 v1 v2 vl c0 cl3
       have v1 : w6.cell? ⟨V, 1, none⟩ = some (.slice af m.frm.length cf) := V6.out.cell 1
       have v2 : w6.cell? ⟨V, 2, none⟩ = some (.int .i64 m.to) := V6.out.cell 2
       have vl := V6.out.lt
       have c0 : w6.cell? ⟨w.heap.size, 0, none⟩ = some (.int .i64 A.st) := T6.out.cell 0
       have cl3 := T6.out.lt
       by_cases hqlt : q < m.frm.length
       ·have hqi : (q : Int) < (m.frm.length : Int) := by omega
        obtain ⟨bf, of, rfl, hbf, hcf⟩ := PF.out.at hbq q hqlt
        obtain ⟨z, hz⟩ : ∃ z, z = m.frm[q] := ⟨_, rfl⟩
        have HZ := hide hz
        rw [← hz] at hcf
        have hbf6 : bf < w6.heap.size := Nat.lt_of_lt_of_le hbf hbq.size
        clear hz hbq
        by_cases hz0 : z < 0
        ·have hE : E = 10 := (HBAD.out 10 (by rw [← HE4.out, if_neg (by rw [okSt_bad hqlt (by rw [← HZ.out]; omega)]; simp)]) (by omega)).symm
         subst hE
         have hd : decide (z < 0) = true := by simpa using hz0
         go_wp2_with fail
         go_quiet (fail)
         go_wp2_with fail
         go_ret
         exact ⟨rfl, B1.out.trans ((below_drewN HBQ.out _).mono B1.out.size)⟩
        ·have hd : decide (z < 0) = false := by simpa using hz0
         by_cases hz1 : A.st ≤ z
         ·have hE : E = 10 := (HBAD.out 10 (by rw [← HE4.out, if_neg (by rw [okSt_bad hqlt (by rw [← HZ.out]; omega)]; simp)]) (by omega)).symm
          subst hE
          go_wp2_with fail
          go_quiet (fail)
          go_wp2_with fail
          go_ret
          exact ⟨rfl, B1.out.trans ((below_drewN HBQ.out _).mono B1.out.size)⟩
         ·have HNX : Hid (okSt A.st (m.frm.take (q + 1)) = true) := okSt_take hqlt HOKQ.out (by rw [← HZ.out]; omega)
          go_wp2_with fail
          go_quiet (fail)
          go_wp2_with fail
          go_roundw
          case rel => exact ⟨q + 1, by omega, by go_num, HNX.out, below_drewN HB56.out _⟩
          case measure => simp [intOf]; omega
       ·have hqi : ¬ (q : Int) < (m.frm.length : Int) := by omega
        have hf : okSt A.st m.frm = true := by rw [show m.frm = m.frm.take q by rw [List.take_of_length_le (by omega)]]; exact HOKQ.out
        have HE5 : Hid ((if okSt A.st [m.to] = true then 0 else 10) = EM) := by unfold Hid; rw [← HE4.out, hf]; rfl
        clear hf hbq HE4
        by_cases hz0 : m.to < 0
        ·have hE : E = 10 := (HBAD.out 10 (by rw [← HE5.out, if_neg (by rw [okSt_one]; omega)]) (by omega)).symm
         subst hE
         go_wp2_with fail
         go_ret
         exact ⟨rfl, B1.out.trans (HBQ.out.mono B1.out.size)⟩
        ·by_cases hz1 : A.st ≤ m.to
         ·have hE : E = 10 := (HBAD.out 10 (by rw [← HE5.out, if_neg (by rw [okSt_one]; omega)]) (by omega)).symm
          subst hE
          go_wp2_with fail
          go_ret
          exact ⟨rfl, B1.out.trans (HBQ.out.mono B1.out.size)⟩
         ·have HNX : Hid (mvsE A.st (A.mv.take (k + 1)) = 0) := HGOOD.out (by rw [← HE5.out, if_pos (okSt_one.2 (by omega))])
          go_wp2_with fail
          go_roundw
          case rel => exact ⟨k + 1, by omega, by go_num, HNX.out, HBQ.out⟩
          case measure => simp [intOf]; omega
  ·have hki : ¬ (k : Int) < (A.mv.length : Int) := by omega
   have HE3 : Hid ((if okSt A.st A.la = true then 0 else 10) = E) := by
    unfold Hid
    have h6 := HOK.out
    rw [List.take_of_length_le (by omega)] at h6
    rw [← HE2.out, if_pos h6]
   have P2 := hide (P1.out.later hb)
   clear hb
   go_wp2_with fail
   go_loopw [10] (fun i wr => ∃ q : Nat, q ≤ A.la.length ∧ i = .int .i64 (q : Int) ∧ okSt A.st (A.la.take q) = true ∧ Below w2.heap.size w2 wr) (fun i wr => A.la.length - (intOf i).toNat)
   case atStart => exact ⟨0, Nat.zero_le _, rfl, by simp [okSt], Below.refl _ _⟩
   case round =>
    obtain ⟨q, hq, rfl, hokq, hbq⟩ := hrel
    obtain ⟨w6, rfl⟩ : ∃ w6, w6 = wr := ⟨_, rfl⟩
    have HOKQ := hide hokq
    have HBQ := hide (HB.out.trans (hbq.mono HB.out.size))
    have HB56 := hide hbq
    have T6 := hide (T2.out.below hbq T2.out.lt)
    clear hokq c0 c1 c2 hlt2
    have c0 : w6.cell? ⟨w.heap.size, 0, none⟩ = some (.int .i64 A.st) := T6.out.cell 0
    have c2 : w6.cell? ⟨w.heap.size, 2, none⟩ = some (.slice al A.la.length cl) := T6.out.cell 2
    have cl3 := T6.out.lt
    by_cases hqlt : q < A.la.length
    ·have hqi : (q : Int) < (A.la.length : Int) := by omega
     obtain ⟨bf, of, rfl, hbf, hcf⟩ := P2.out.at hbq q hqlt
     obtain ⟨z, hz⟩ : ∃ z, z = A.la[q] := ⟨_, rfl⟩
     have HZ := hide hz
     rw [← hz] at hcf
     have hbf6 : bf < w6.heap.size := Nat.lt_of_lt_of_le hbf hbq.size
     clear hz hbq
     by_cases hz0 : z < 0
     ·have hE : E = 10 := by rw [← HE3.out, if_neg (by rw [okSt_bad hqlt (by rw [← HZ.out]; omega)]; simp)]
      subst hE
      have hd : decide (z < 0) = true := by simpa using hz0
      go_wp2_with fail
      go_quiet (fail)
      go_wp2_with fail
      go_ret
      exact ⟨rfl, B1.out.trans ((below_drewN HBQ.out _).mono B1.out.size)⟩
     ·have hd : decide (z < 0) = false := by simpa using hz0
      by_cases hz1 : A.st ≤ z
      ·have hE : E = 10 := by rw [← HE3.out, if_neg (by rw [okSt_bad hqlt (by rw [← HZ.out]; omega)]; simp)]
       subst hE
       go_wp2_with fail
       go_quiet (fail)
       go_wp2_with fail
       go_ret
       exact ⟨rfl, B1.out.trans ((below_drewN HBQ.out _).mono B1.out.size)⟩
      ·have HNX : Hid (okSt A.st (A.la.take (q + 1)) = true) := okSt_take hqlt HOKQ.out (by rw [← HZ.out]; omega)
       go_wp2_with fail
       go_quiet (fail)
       go_wp2_with fail
       go_roundw
       case rel => exact ⟨q + 1, by omega, by go_num, HNX.out, below_drewN HB56.out _⟩
       case measure => simp [intOf]; omega
    ·have hqi : ¬ (q : Int) < (A.la.length : Int) := by omega
     have hE : E = 0 := by
      rw [← HE3.out, if_pos]
      rw [show A.la = A.la.take q by rw [List.take_of_length_le (by omega)]]; exact HOKQ.out
     subst hE
     clear hbq
     go_wp2_with fail
     go_ret
     exact ⟨rfl, B1.out.trans (HBQ.out.mono B1.out.size)⟩
end Go.Proofs.Ytofebfjkodceeaa
