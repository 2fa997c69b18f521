/- Walks: one step, as the program does it. -/
import Derived.Test.YtcdabjekppddjaaGreatDoorCb11
import Derived.Test.YtcdabjekppddjaaGreatDoorCb5
namespace Go.Proofs.YtcdabjekppddjaaGreatDoor
open Go.RowKit
set_option linter.unusedSimpArgs false
set_option linter.unusedVariables false
set_option maxRecDepth 8000

def YY (w : World) (X : Nat → Prop) (b : Nat) : Prop := (X b ∧ b < w.heap.size) ∨ w.heap.size + 2 ≤ b
theorem RoL.mono {w : World} {Y Y' : Nat → Prop} {B : Nat} {R : List Tm} (h : RoL w Y B R) (hY : ∀ b, Y b → Y' b) : RoL w Y' B R := by
  obtain ⟨al, cl, h1, h2, h3⟩ := h
  exact ⟨al, cl, h1, h2.mono fun b h _ => hY b h, h3⟩
/-- What is laid while the program looks for a step. -/
def CsI (w w1 : World) (B n : Nat) (wr : World) : Prop :=
  Below w.heap.size w wr ∧ Below w1.heap.size w1 wr ∧ Blk wr w1.heap.size #[.int .i64 (n : Int), ro1 B] 88 ∧ Blk wr (w.heap.size + 1) #[.string ⟨#[]⟩, .slice none 0 0] 24 ∧ w1.heap.size < wr.heap.size
theorem CsI.below {w w1 wr w2 : World} {B n : Nat} (h : CsI w w1 B n wr) (hb : Below wr.heap.size wr w2) (hw : w.heap.size + 2 ≤ w1.heap.size) : CsI w w1 B n w2 := by
  obtain ⟨h1, h2, h3, h4, h5⟩ := h
  have := hb.size
  exact ⟨h1.trans (hb.mono (by omega)), h2.trans (hb.mono (by omega)), h3.below hb (by omega), h4.below hb (by omega), by omega⟩
theorem cs_fin {w wr : World} {X : Nat → Prop} {x : Tm} {r : Option Tm} {a : Option Addr} {c : Nat} (h1 : Below w.heap.size w wr) (hs : Sl wr (YY w X) a x.args) (hr : r = some x) (u u' : Value) :
    StPost w X r (.returned (.tuple #[.agg #[.string x.name, .slice a x.args.length c], .bool true])) ((wr.setCell ⟨w.heap.size + 1, 0, none⟩ u).setCell ⟨w.heap.size + 1, 1, none⟩ u') := by
  refine ⟨(h1.setCell (p := ⟨w.heap.size + 1, 0, none⟩) (by simp) _).setCell (p := ⟨w.heap.size + 1, 1, none⟩) (by simp) _, Or.inl ⟨x, _, hr, rfl, a, c, rfl, ?_⟩⟩
  refine (hs.kept fun b hb => ?_).mono fun b hb _ => hb.imp id fun h => by omega
  have hne : b ≠ w.heap.size + 1 := by rcases hb with hb | hb <;> omega
  rw [Below.heap_setCell _ _ _ _ (by simpa using hne), Below.heap_setCell _ _ _ _ (by simpa using hne)]

set_option maxHeartbeats 4000000 in
theorem cstep_any (n : Nat) : ∀ (t : Tm) (v : Value) (w : World) (X : Nat → Prop), sizeL [t] ≤ n → n ≤ 90000 → isC t = true → TV w X v t →
    Calls Tryz.prog 67 #[v] w fun e w' => StPost w X (stepN n t) e w' := by
  induction n with
  | zero => intro t v w X h; have := size_posC t; omega
  | succ n ih =>
    intro t v w X hn hm hc hv
    obtain ⟨a, c, rfl, hs⟩ := hv
    have IH := hide ih
    have HV : Hid (TV w (fun b => X b ∧ b < w.heap.size) (.agg #[.string t.name, .slice a t.args.length c]) t) := ⟨a, c, rfl, hs.mono fun b h1 h2 => ⟨h1, h2⟩⟩
    obtain ⟨H, L, eH, eL, HF⟩ := rwF (n := n) hc
    have HF := hide HF
    have hl := HF.out.len
    clear ih hs
    go_enter Tryz.func67, Tryz.ntmps67
    go_wp2_with fail
    refine (rowOf_any t _ _ (fun b => X b ∧ b < w.heap.size) hc (by omega) ((HV.out.alloc _).alloc _)).mono ?_
    rintro e w1 ⟨B, al, cl, rfl, hBw, hBB, hsl, hb1⟩
    rw [eL, eH] at hBB hsl
    rw [eL]
    clear eL eH
    have hw : w.heap.size + 2 ≤ w1.heap.size := by have := hb1.size; simp at this; omega
    have hR0 : RoL w1 (YY w X) B (H :: L) := ⟨al, cl, hBB, hsl.mono fun b hb _ => hb.elim (fun h => Or.inl h.1) fun h => Or.inr (by have := h.1; simp at this; omega), by simp; omega⟩
    have HR := hide hR0
    obtain ⟨N, hN⟩ : ∃ N, N = L.length + 1 := ⟨_, rfl⟩
    have HN := hide hN
    have B1 : Hid (Below w.heap.size w w1) := (below2 _ _).trans (hb1.mono (by simp; omega))
    have R1 : Hid (Blk w1 (w.heap.size + 1) #[.string ⟨#[]⟩, .slice none 0 0] 24) := by
      have h := (Blk.new (w.alloc (.cells #[.string t.name, .slice a t.args.length c] 24)) #[.string ⟨#[]⟩, .slice none 0 0] 24).below hb1 (by simp)
      unfold Hid
      simpa using h
    have I1 : Hid (CsI w w1 B N (w1.alloc (.cells #[.int .i64 (N : Int), .func (.func 94) #[] #[.pointer (some ⟨B, 0, none⟩)]] 88))) := ⟨B1.out.alloc (by omega) _, (Below.refl _ _).alloc (Nat.le_refl _) _, Blk.new w1 _ _, R1.out.alloc _, by simp⟩
    rw [← hN]
    have hN1 : N ≤ 90001 := by omega
    clear hb1 hBB hsl hN HV hc hR0
    go_wp2_with fail
    refine (work_any H L B N HN.out _ (YY w X) (by exact HR.out.later ((Below.refl _ _).alloc (Nat.le_refl _) _))).mono ?_
    rintro e w3 ⟨hb3, hP3, hcase⟩
    have hz3 := hb3.size
    simp only [World.size_alloc] at hz3
    have I3 := hide (I1.out.below hb3 hw)
    have R3 := hide (HR.out.later I3.out.2.1)
    have P3 := hide hP3
    simp only [World.size_alloc] at hcase P3
    clear hb3 hP3 I1
    rcases hcase with ⟨z1, z2, rfl⟩ | ⟨z1, z2, rfl⟩ | ⟨z1, z2, rfl⟩ | ⟨z1, rfl⟩
    · have HWK : Hid (workC H.name L = some (apAll L[0] (L.drop 1))) := by
        unfold Hid
        rw [z1]
        match L, z2 with
        | x :: l, _ => exact workC_i x l
      have HT := hide (termI H L B (w1.heap.size + 1) N (w3.alloc (.cells #[.int .i64 ((N : Int) - 1), .func (.func 95) #[] #[.pointer (some ⟨w1.heap.size + 1, 0, none⟩)]] 88)) (YY w X) HN.out (R3.out.later ((Below.refl _ _).alloc (Nat.le_refl _) _)) (P3.out.alloc _) z2)
      have I4 := hide (I3.out.below ((Below.refl _ _).alloc (Nat.le_refl _) (.cells #[.int .i64 ((N : Int) - 1), .func (.func 95) #[] #[.pointer (some ⟨w1.heap.size + 1, 0, none⟩)]] 88)) hw)
      unfold ro1 at HT I4
      clear z1
      go_wp2_with fail
      refine HT.out.mono ?_
      rintro e w5 ⟨v5, rfl, ⟨a5, c5, rfl, hs5⟩, hb5⟩
      obtain ⟨q1, _, _, q4, q5⟩ := I4.out
      have HS5 : Hid (Sl w5 (YY w X) a5 (apAll L[0] (L.drop 1)).args) := hs5.mono fun b hb _ => hb.elim id fun h => Or.inr (by omega)
      have HB5 := hide (q1.trans (hb5.mono q1.size))
      have K5 := q4.below hb5 (by omega)
      have r0 := K5.cell 0
      have r1 := K5.cell 1
      have rf := K5.frozen
      simp only [List.getElem?_toArray, List.getElem?_cons_succ, List.getElem?_cons_zero] at r0 r1
      clear hs5 hb5 q1 q4 K5
      go_wp2_with fail
      refine bodyPost_ret (v := .tuple #[.agg #[.string (apAll L[0] (L.drop 1)).name, .slice a5 (apAll L[0] (L.drop 1)).args.length c5], .bool true]) (by simp [results, Tryz.results67, go_sem, World.cell?_setCell_same, World.cell?_setCell_other, r0, r1]) rfl ?_
      exact cs_fin HB5.out HS5.out (HF.out.work _ HWK.out) _ _
    · have HWK : Hid (workC H.name L = some (apAll L[0] (L.drop 2))) := by
        unfold Hid
        rw [z1]
        match L, z2 with
        | x :: y :: l, _ => exact workC_k x y l
      have HT := hide (termK H L B (w1.heap.size + 1) N (w3.alloc (.cells #[.int .i64 ((N : Int) - 2), .func (.func 96) #[] #[.pointer (some ⟨w1.heap.size + 1, 0, none⟩)]] 88)) (YY w X) HN.out (R3.out.later ((Below.refl _ _).alloc (Nat.le_refl _) _)) (P3.out.alloc _) z2)
      have I4 := hide (I3.out.below ((Below.refl _ _).alloc (Nat.le_refl _) (.cells #[.int .i64 ((N : Int) - 2), .func (.func 96) #[] #[.pointer (some ⟨w1.heap.size + 1, 0, none⟩)]] 88)) hw)
      unfold ro1 at HT I4
      clear z1
      go_wp2_with fail
      refine HT.out.mono ?_
      rintro e w5 ⟨v5, rfl, ⟨a5, c5, rfl, hs5⟩, hb5⟩
      obtain ⟨q1, _, _, q4, q5⟩ := I4.out
      have HS5 : Hid (Sl w5 (YY w X) a5 (apAll L[0] (L.drop 2)).args) := hs5.mono fun b hb _ => hb.elim id fun h => Or.inr (by omega)
      have HB5 := hide (q1.trans (hb5.mono q1.size))
      have K5 := q4.below hb5 (by omega)
      have r0 := K5.cell 0
      have r1 := K5.cell 1
      have rf := K5.frozen
      simp only [List.getElem?_toArray, List.getElem?_cons_succ, List.getElem?_cons_zero] at r0 r1
      clear hs5 hb5 q1 q4 K5
      go_wp2_with fail
      refine bodyPost_ret (v := .tuple #[.agg #[.string (apAll L[0] (L.drop 2)).name, .slice a5 (apAll L[0] (L.drop 2)).args.length c5], .bool true]) (by simp [results, Tryz.results67, go_sem, World.cell?_setCell_same, World.cell?_setCell_other, r0, r1]) rfl ?_
      exact cs_fin HB5.out HS5.out (HF.out.work _ HWK.out) _ _
    · have HWK : Hid (workC H.name L = some (apAll (apT (apT L[0] L[2]) (apT L[1] L[2])) (L.drop 3))) := by
        unfold Hid
        rw [z1]
        match L, z2 with
        | x :: y :: z :: l, _ => exact workC_s x y z l
      have HT := hide (termS H L B N (w3.alloc (.cells #[.int .i64 ((N : Int) - 1), .func (.func 97) #[.agg #[.int .i64 (N : Int), ro1 B]] #[]] 88)) (YY w X) HN.out (R3.out.later ((Below.refl _ _).alloc (Nat.le_refl _) _)) z2)
      have I4 := hide (I3.out.below ((Below.refl _ _).alloc (Nat.le_refl _) (.cells #[.int .i64 ((N : Int) - 1), .func (.func 97) #[.agg #[.int .i64 (N : Int), ro1 B]] #[]] 88)) hw)
      unfold ro1 at HT I4
      clear z1
      go_wp2_with fail
      refine HT.out.mono ?_
      rintro e w5 ⟨v5, rfl, ⟨a5, c5, rfl, hs5⟩, hb5⟩
      obtain ⟨q1, _, _, q4, q5⟩ := I4.out
      have HS5 : Hid (Sl w5 (YY w X) a5 (apAll (apT (apT L[0] L[2]) (apT L[1] L[2])) (L.drop 3)).args) := hs5.mono fun b hb _ => hb.elim id fun h => Or.inr (by omega)
      have HB5 := hide (q1.trans (hb5.mono q1.size))
      have K5 := q4.below hb5 (by omega)
      have r0 := K5.cell 0
      have r1 := K5.cell 1
      have rf := K5.frozen
      simp only [List.getElem?_toArray, List.getElem?_cons_succ, List.getElem?_cons_zero] at r0 r1
      clear hs5 hb5 q1 q4 K5
      go_wp2_with fail
      refine bodyPost_ret (v := .tuple #[.agg #[.string (apAll (apT (apT L[0] L[2]) (apT L[1] L[2])) (L.drop 3)).name, .slice a5 (apAll (apT (apT L[0] L[2]) (apT L[1] L[2])) (L.drop 3)).args.length c5], .bool true]) (by simp [results, Tryz.results67, go_sem, World.cell?_setCell_same, World.cell?_setCell_other, r0, r1]) rfl ?_
      exact cs_fin HB5.out HS5.out (HF.out.work _ HWK.out) _ _
    · have I4 := hide (I3.out.below ((Below.refl _ _).alloc (Nat.le_refl _) (.cells #[.int .i64 0, .nilFunc] 88)) hw)
      have HW := hide z1
      clear z1 I3 R3 P3
      go_wp2_with fail
      go_loopw [7] (fun i wr => ∃ k : Nat, k ≤ L.length ∧ i = .int .i64 ((k + 1 : Nat) : Int) ∧ (∀ j (hj : j < k) (hk : k ≤ L.length), stepN n (L[j]'(by omega)) = none) ∧ CsI w w1 B N wr) (fun i wr => L.length + 1 - (intOf i).toNat)
      case atStart => exact ⟨0, Nat.zero_le _, rfl, fun j hj => by omega, I4.out⟩
      case round =>
        obtain ⟨k, hk, rfl, hno, hI⟩ := hrel
        have HI := hide hI
        have HNO := hide hno
        obtain ⟨q1, q2, q3, q4, q5⟩ := hI
        have n0 : wr.cell? ⟨w1.heap.size, 0, none⟩ = some (.int .i64 (N : Int)) := q3.cell 0
        have n1 : wr.cell? ⟨w1.heap.size, 1, none⟩ = some (.func (.func 94) #[] #[.pointer (some ⟨B, 0, none⟩)]) := q3.cell 1
        have Q2 := hide q2
        have Q1 := hide q1
        have hs1 := q1.size
        by_cases hlt : k < L.length
        · have g1 : decide ((k : Int) + 1 < (N : Int)) = true := decide_eq_true (by have := HN.out; omega)
          have HA := hide ((HR.out.later q2).at (k + 1) (by simpa using hlt))
          simp only [List.getElem_cons_succ] at HA
          have HIC := hide (HF.out.isC k hlt)
          clear q1 q2 q3 q4 hno
          go_wp2_with fail
          refine HA.out.mono ?_
          rintro e w2 ⟨v2, rfl, ⟨a2, c2, rfl, hs2⟩, hb2⟩
          go_wp2_with fail
          refine (IH.out L[k] _ _ (YY w X) (by have := HIC.out.2; omega) (by omega) HIC.out.1 ⟨a2, c2, rfl, hs2.mono fun b hb _ => hb.elim id fun h => Or.inr (by omega)⟩).mono ?_
          rintro e w4 ⟨hb4, ⟨x, v4, hst, rfl, ⟨a4, c4, rfl, hs4⟩⟩ | ⟨hst, s4, a4, n4, c4, rfl⟩⟩
          · have HSM := hide (HF.out.som x k hlt HW.out (fun j hj => HNO.out j hj hk) hst)
            have hb24 := hb2.trans (hb4.mono hb2.size)
            have hs4' : Sl w4 (YY w X) a4 x.args := hs4.mono fun b hb _ => hb.elim And.left fun h => Or.inr (by have := hb2.size; omega)
            have HI4 := hide ((HI.out.below hb24 hw).below ((Below.refl _ _).alloc (Nat.le_refl _) (.cells #[.string x.name, .slice a4 x.args.length c4] 24)) hw)
            have HS4 := hide (hs4'.later ((Below.refl _ _).alloc (Nat.le_refl _) (.cells #[.string x.name, .slice a4 x.args.length c4] 24)))
            obtain ⟨p1, p2, p3, p4, p5⟩ := HI4.out
            have P2 := hide p2
            have m0 : (w4.alloc (.cells #[.string x.name, .slice a4 x.args.length c4] 24)).cell? ⟨w1.heap.size, 0, none⟩ = some (.int .i64 (N : Int)) := p3.cell 0
            have m1 : (w4.alloc (.cells #[.string x.name, .slice a4 x.args.length c4] 24)).cell? ⟨w1.heap.size, 1, none⟩ = some (.func (.func 94) #[] #[.pointer (some ⟨B, 0, none⟩)]) := p3.cell 1
            clear hb2 hb4 hs2 hs4 hs4' hst hb24 p1 p2 p3 p4
            go_wp2_with fail
            generalize (w4.alloc (.cells #[.string x.name, .slice a4 x.args.length c4] 24)) = w6 at *
            rw [show ((k : Int) + 1) = ((k + 1 : Nat) : Int) by omega]
            refine (with_any B N (k + 1) x a4 c4 _).mono ?_
            rintro e w5 ⟨rfl, hP5, hQ5, hV5, hb5⟩
            have HT := hide (termW H L B w6.heap.size (w6.heap.size + 1) (w6.heap.size + 2) N k x a4 c4 w5 (YY w X) HN.out (HR.out.later (P2.out.trans (hb5.mono (by omega)))) hP5 hQ5 hV5 (HS4.out.later hb5))
            have HI5 := hide (HI4.out.below hb5 hw)
            clear hP5 hQ5 hV5 hb5 m0 m1
            go_wp2_with fail
            refine HT.out.mono ?_
            rintro e w7 ⟨v7, rfl, ⟨a7, c7, rfl, hs7⟩, hb7⟩
            obtain ⟨q1, _, _, q4, q5'⟩ := HI5.out
            have HS7 : Hid (Sl w7 (YY w X) a7 (apAll H (L.set k x)).args) := hs7.mono fun b hb _ => hb.elim id fun h => Or.inr (by omega)
            have HB7 := hide (q1.trans (hb7.mono q1.size))
            have K7 := q4.below hb7 (by omega)
            have r0 := K7.cell 0
            have r1 := K7.cell 1
            have rf := K7.frozen
            simp only [List.getElem?_toArray, List.getElem?_cons_succ, List.getElem?_cons_zero] at r0 r1
            clear hs7 hb7 q1 q4 K7
            go_wp2_with fail
            refine bodyPost_ret (v := .tuple #[.agg #[.string (apAll H (L.set k x)).name, .slice a7 (apAll H (L.set k x)).args.length c7], .bool true]) (by simp [results, Tryz.results67, go_sem, World.cell?_setCell_same, World.cell?_setCell_other, r0, r1]) rfl ?_
            exact cs_fin HB7.out HS7.out HSM.out _ _
          · have HN1 := hide hst
            have HI4 := hide ((HI.out.below (hb2.trans (hb4.mono hb2.size)) hw).below ((Below.refl _ _).alloc (Nat.le_refl _) (.cells #[.string s4, .slice a4 n4 c4] 24)) hw)
            clear hb2 hb4 hs2 hst
            go_wp2_with fail
            go_roundw
            case rel => exact ⟨k + 1, by omega, by go_num, fun j hj hk => by by_cases e9 : j = k; subst e9; exact HN1.out; exact HNO.out j (by omega) (by omega), HI4.out⟩
            case measure => simp [intOf]; omega
        · have g1 : decide ((k : Int) + 1 < (N : Int)) = false := decide_eq_false (by have := HN.out; omega)
          have HFN := hide (HF.out.non HW.out (fun j hj => HNO.out j (by omega) hk))
          have r0 := q4.cell 0
          have r1 := q4.cell 1
          have rf := q4.frozen
          simp only [List.getElem?_toArray, List.getElem?_cons_succ, List.getElem?_cons_zero] at r0 r1
          clear q1 q2 q3 q4 hno
          go_wp2_with fail
          refine bodyPost_ret (v := .tuple #[.agg #[.string ⟨#[]⟩, .slice none 0 0], .bool false]) (by simp [results, Tryz.results67, go_sem, World.cell?_setCell_same, World.cell?_setCell_other, r0, r1]) rfl ?_
          exact ⟨(Q1.out.setCell (p := ⟨w.heap.size + 1, 0, none⟩) (by simp) _).setCell (p := ⟨w.heap.size + 1, 1, none⟩) (by simp) _, Or.inr ⟨HFN.out, _, _, _, _, rfl⟩⟩
end Go.Proofs.YtcdabjekppddjaaGreatDoor
