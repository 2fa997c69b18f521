/- Walks: where steps end, as the document says. -/
import Derived.Test.YtcdabjekppddjaaGreatDoorCb5
namespace Go.Proofs.YtcdabjekppddjaaGreatDoor
open Go.RowKit
set_option linter.unusedSimpArgs false
set_option linter.unusedVariables false
set_option maxRecDepth 8000

/-- What it comes to at last. -/
def EnPost (w : World) (X : Nat → Prop) (m : Nat) (t : Tm) (e : Ending) (w' : World) : Prop :=
  Below w.heap.size w w' ∧ (((endC m t).1 = 0 ∧ ∃ v, e = .returned (.tuple #[v, .int .i64 ((endC m t).2.2 : Int), .int .i64 0]) ∧ TV w' (fun b => (X b ∧ b < w.heap.size) ∨ w.heap.size ≤ b) v (endC m t).2.1) ∨
    ((endC m t).1 ≠ 0 ∧ e = .returned (.tuple #[.agg #[.string ⟨#[]⟩, .slice none 0 0], .int .i64 0, .int .i64 (endC m t).1])))
def EnY (w : World) (X : Nat → Prop) (b : Nat) : Prop := (X b ∧ b < w.heap.size) ∨ w.heap.size + 2 ≤ b
def EnI (w : World) (X : Nat → Prop) (m : Nat) (t0 : Tm) (i : Value) (wr : World) : Prop :=
  ∃ (d : Nat) (t : Tm) (a : Option Addr) (c : Nat), i = .int .i64 (d : Int) ∧ OnWay m t0 d t ∧ Below w.heap.size w wr ∧ w.heap.size + 2 ≤ wr.heap.size ∧ Blk wr w.heap.size #[.string t.name, .slice a t.args.length c] 24 ∧ Blk wr (w.heap.size + 1) #[.string ⟨#[]⟩, .slice none 0 0] 24 ∧ Sl wr (EnY w X) a t.args

set_option maxHeartbeats 4000000 in
theorem docEnd_any (m : Nat) (t0 : Tm) (v : Value) (w : World) (X : Nat → Prop) (hm : m ≤ 1000) (hc : isC t0 = true) (hz : sizeL [t0] ≤ 2000) (hv : TV w X v t0) :
    Calls Tryz.prog 50 #[v, .int .i64 (m : Int)] w fun e w' => EnPost w X m t0 e w' := by
  obtain ⟨a, c, rfl, hs⟩ := hv
  have HS : Hid (Sl w (EnY w X) a t0.args) := hs.mono fun b h1 h2 => Or.inl ⟨h1, h2⟩
  have HW := hide (OnWay.start (m := m) hc hz)
  clear hs hc hz
  have I0 : Hid (EnI w X m t0 (.int .i64 ((0 : Nat) : Int)) ((w.alloc (.cells #[.string t0.name, .slice a t0.args.length c] 24)).alloc (.cells #[.string ⟨#[]⟩, .slice none 0 0] 24))) := by
    refine ⟨0, t0, a, c, rfl, HW.out, below2 _ _, by simp, (Blk.new w _ _).alloc _, ?_, HS.out.later (below2 _ _)⟩
    have h := Blk.new (w.alloc (.cells #[.string t0.name, .slice a t0.args.length c] 24)) #[.string ⟨#[]⟩, .slice none 0 0] 24
    simpa using h
  clear HW HS
  go_enter Tryz.func50, Tryz.ntmps50
  go_wp2_with fail
  go_loopw [7] (fun i wr => EnI w X m t0 i wr) (fun i wr => m - (intOf i).toNat)
  case atStart => exact I0.out
  case round =>
    obtain ⟨d, t, at', ct, rfl, hon, hb, hsz, hT, hR, hs⟩ := hrel
    have HON := hide hon
    have HBW := hide hb
    have HT := hide hT
    have HR := hide hR
    have HSL := hide hs
    have hdm := hon.1
    have t0' := hT.cell 0
    have t1' := hT.cell 1
    simp only [List.getElem?_toArray, List.getElem?_cons_succ, List.getElem?_cons_zero] at t0' t1'
    clear hon hb hT hR hs I0
    go_wp2_with fail
    refine (docStep_any 2001 t _ _ (EnY w X) (by have := HON.out.2.2.2.2.2; omega) (by omega) HON.out.2.2.2.2.1 ⟨at', ct, rfl, HSL.out⟩).mono ?_
    rintro e w2 ⟨hb2, ⟨x, v2, hst, rfl, ⟨a2, c2, rfl, hs2⟩⟩ | ⟨hst, s2, a2, n2, c2, rfl⟩⟩
    · have HS2 : Hid (Sl w2 (EnY w X) a2 x.args) := hs2.mono fun b hb _ => hb.elim And.left fun h => Or.inr (by omega)
      have HST := hide hst
      have HB2 := hide hb2
      have hsz2 := hb2.size
      have r0 : ∀ o, (w2.alloc o).cell? ⟨w.heap.size + 1, 0, none⟩ = some (.string ⟨#[]⟩) := fun o => ((HR.out.below hb2 (by omega)).alloc o).cell 0
      have r1 : ∀ o, (w2.alloc o).cell? ⟨w.heap.size + 1, 1, none⟩ = some (.slice none 0 0) := fun o => ((HR.out.below hb2 (by omega)).alloc o).cell 1
      have rf : ∀ o i, (w2.alloc o).frozen? ⟨w.heap.size + 1, i, none⟩ = false := fun o => ((HR.out.below hb2 (by omega)).alloc o).frozen
      have r0' : w2.cell? ⟨w.heap.size + 1, 0, none⟩ = some (.string ⟨#[]⟩) := (HR.out.below hb2 (by omega)).cell 0
      have r1' : w2.cell? ⟨w.heap.size + 1, 1, none⟩ = some (.slice none 0 0) := (HR.out.below hb2 (by omega)).cell 1
      have rf' : ∀ i, w2.frozen? ⟨w.heap.size + 1, i, none⟩ = false := (HR.out.below hb2 (by omega)).frozen
      have q0 : w2.cell? ⟨w.heap.size, 0, none⟩ = some (.string t.name) := (HT.out.below hb2 (by omega)).cell 0
      have q1 : w2.cell? ⟨w.heap.size, 1, none⟩ = some (.slice at' t.args.length ct) := (HT.out.below hb2 (by omega)).cell 1
      have qf : ∀ i, w2.frozen? ⟨w.heap.size, i, none⟩ = false := (HT.out.below hb2 (by omega)).frozen
      have q0a : ∀ o, (w2.alloc o).cell? ⟨w.heap.size, 0, none⟩ = some (.string t.name) := fun o => ((HT.out.below hb2 (by omega)).alloc o).cell 0
      have q1a : ∀ o, (w2.alloc o).cell? ⟨w.heap.size, 1, none⟩ = some (.slice at' t.args.length ct) := fun o => ((HT.out.below hb2 (by omega)).alloc o).cell 1
      have qfa : ∀ o i, (w2.alloc o).frozen? ⟨w.heap.size, i, none⟩ = false := fun o => ((HT.out.below hb2 (by omega)).alloc o).frozen
      clear hs2 hst hb2 t0' t1'
      by_cases hd : d = m
      · subst hd
        have HE := hide (HON.out.fuel HST.out)
        have HBF : Hid (∀ o u u', Below w.heap.size w (((w2.setCell ⟨w.heap.size + 1, 0, none⟩ u).setCell ⟨w.heap.size + 1, 1, none⟩ u').alloc o) ∧ Below w.heap.size w (((w2.alloc o).setCell ⟨w.heap.size + 1, 0, none⟩ u).setCell ⟨w.heap.size + 1, 1, none⟩ u')) := fun o u u' => by
          have h0 := HBW.out.trans (HB2.out.mono (by omega))
          exact ⟨((h0.setCell (p := ⟨w.heap.size + 1, 0, none⟩) (by simp) u).setCell (p := ⟨w.heap.size + 1, 1, none⟩) (by simp) u').alloc (by simp [World.setCell]; omega) o, ((h0.alloc (by omega) o).setCell (p := ⟨w.heap.size + 1, 0, none⟩) (by simp) u).setCell (p := ⟨w.heap.size + 1, 1, none⟩) (by simp) u'⟩
        go_wp2_with fail
        refine bodyPost_ret (v := .tuple #[.agg #[.string ⟨#[]⟩, .slice none 0 0], .int .i64 0, .int .i64 9]) (by simp [results, Tryz.results50, go_sem, World.cell?_setCell_same, World.cell?_setCell_other, r0, r1, r0', r1']) rfl ?_
        refine ⟨by first | exact (HBF.out _ _ _).1 | exact (HBF.out _ _ _).2, Or.inr ⟨by rw [HE.out]; decide, by rw [HE.out]⟩⟩
      · have hdi : ((d : Int) == (m : Int)) = false := beq_eq_false_iff_ne.2 (by omega)
        have W4 : Hid (Below w.heap.size w (((w2.alloc (.cells #[.string x.name, .slice a2 x.args.length c2] 24)).setCell ⟨w.heap.size, 0, none⟩ (.string x.name)).setCell ⟨w.heap.size, 1, none⟩ (.slice a2 x.args.length c2))) := (((HBW.out.trans (HB2.out.mono (by omega))).alloc (by omega) _).setCell (p := ⟨w.heap.size, 0, none⟩) (by simp) _).setCell (p := ⟨w.heap.size, 1, none⟩) (by simp) _
        have T4 : Hid (Blk (((w2.alloc (.cells #[.string x.name, .slice a2 x.args.length c2] 24)).setCell ⟨w.heap.size, 0, none⟩ (.string x.name)).setCell ⟨w.heap.size, 1, none⟩ (.slice a2 x.args.length c2)) w.heap.size #[.string x.name, .slice a2 x.args.length c2] 24) := (((HT.out.below HB2.out (by omega)).alloc _).set 0 _).set 1 _
        have R4 : Hid (Blk (((w2.alloc (.cells #[.string x.name, .slice a2 x.args.length c2] 24)).setCell ⟨w.heap.size, 0, none⟩ (.string x.name)).setCell ⟨w.heap.size, 1, none⟩ (.slice a2 x.args.length c2)) (w.heap.size + 1) #[.string ⟨#[]⟩, .slice none 0 0] 24) := (((HR.out.below HB2.out (by omega)).alloc _).setOther _ _ (by omega)).setOther _ _ (by omega)
        have S4 : Hid (Sl (((w2.alloc (.cells #[.string x.name, .slice a2 x.args.length c2] 24)).setCell ⟨w.heap.size, 0, none⟩ (.string x.name)).setCell ⟨w.heap.size, 1, none⟩ (.slice a2 x.args.length c2)) (EnY w X) a2 x.args) := by
          refine (HS2.out.later ((Below.refl _ _).alloc (Nat.le_refl _) (.cells #[.string x.name, .slice a2 x.args.length c2] 24))).kept fun b hb => ?_
          have hne : b ≠ w.heap.size := by rcases hb with hb | hb <;> omega
          rw [Below.heap_setCell _ _ _ _ (by simpa using hne), Below.heap_setCell _ _ _ _ (by simpa using hne)]
        have hs4 : w.heap.size + 2 ≤ (((w2.alloc (.cells #[.string x.name, .slice a2 x.args.length c2] 24)).setCell ⟨w.heap.size, 0, none⟩ (.string x.name)).setCell ⟨w.heap.size, 1, none⟩ (.slice a2 x.args.length c2)).heap.size := by simp [World.setCell]; omega
        go_wp2_with fail
        refine (size_any x _ 2000 _ (EnY w X) ⟨a2, c2, rfl, S4.out⟩ (by omega) (by omega)).mono ?_
        rintro e w5 ⟨rfl, hb5⟩
        have HB5 := hide hb5
        have hs5 := hb5.size
        have B5 := hide (W4.out.trans (hb5.mono (Nat.le_trans (Nat.le_add_right _ _) hs4)))
        have y0 : w5.cell? ⟨w.heap.size + 1, 0, none⟩ = some (.string ⟨#[]⟩) := (R4.out.below hb5 (by omega)).cell 0
        have y1 : w5.cell? ⟨w.heap.size + 1, 1, none⟩ = some (.slice none 0 0) := (R4.out.below hb5 (by omega)).cell 1
        have yf : ∀ i, w5.frozen? ⟨w.heap.size + 1, i, none⟩ = false := (R4.out.below hb5 (by omega)).frozen
        have T5 := hide (T4.out.below hb5 (by omega))
        have R5 := hide (R4.out.below hb5 (by omega))
        have S5 := hide (S4.out.later hb5)
        clear hb5 r0 r1 rf r0' r1' rf' q0 q1 qf q0a q1a qfa
        by_cases hbig : 2000 < sizeL [x]
        · have e : min ((sizeL [x] : Int)) (2000 + 1) = 2001 := by omega
          rw [e]
          have HE := hide (HON.out.full hd HST.out hbig)
          go_wp2_with fail
          refine bodyPost_ret (v := .tuple #[.agg #[.string ⟨#[]⟩, .slice none 0 0], .int .i64 0, .int .i64 8]) (by simp [results, Tryz.results50, go_sem, World.cell?_setCell_same, World.cell?_setCell_other, y0, y1]) rfl ?_
          exact ⟨(B5.out.setCell (p := ⟨w.heap.size + 1, 0, none⟩) (by simp) _).setCell (p := ⟨w.heap.size + 1, 1, none⟩) (by simp) _, Or.inr ⟨by rw [HE.out]; decide, by rw [HE.out]⟩⟩
        · have e : min ((sizeL [x] : Int)) (2000 + 1) = sizeL [x] := by omega
          rw [e]
          have e3 : decide ((sizeL [x] : Int) > 2000) = false := decide_eq_false (by omega)
          have HE := hide (HON.out.on hd HST.out hbig)
          go_wp2_with fail
          go_roundw
          case rel => exact ⟨d + 1, x, a2, c2, by go_num, HE.out, B5.out, by omega, T5.out, R5.out, S5.out⟩
          case measure => simp [intOf]; omega
    · have HE := hide (HON.out.fin hst)
      have HB2 := hide hb2
      have hsz2 := hb2.size
      have r0 : ∀ o, (w2.alloc o).cell? ⟨w.heap.size + 1, 0, none⟩ = some (.string ⟨#[]⟩) := fun o => ((HR.out.below hb2 (by omega)).alloc o).cell 0
      have r1 : ∀ o, (w2.alloc o).cell? ⟨w.heap.size + 1, 1, none⟩ = some (.slice none 0 0) := fun o => ((HR.out.below hb2 (by omega)).alloc o).cell 1
      have rf : ∀ o i, (w2.alloc o).frozen? ⟨w.heap.size + 1, i, none⟩ = false := fun o => ((HR.out.below hb2 (by omega)).alloc o).frozen
      have r0' : w2.cell? ⟨w.heap.size + 1, 0, none⟩ = some (.string ⟨#[]⟩) := (HR.out.below hb2 (by omega)).cell 0
      have r1' : w2.cell? ⟨w.heap.size + 1, 1, none⟩ = some (.slice none 0 0) := (HR.out.below hb2 (by omega)).cell 1
      have rf' : ∀ i, w2.frozen? ⟨w.heap.size + 1, i, none⟩ = false := (HR.out.below hb2 (by omega)).frozen
      have q0 : ∀ o, (w2.alloc o).cell? ⟨w.heap.size, 0, none⟩ = some (.string t.name) := fun o => ((HT.out.below hb2 (by omega)).alloc o).cell 0
      have q1 : ∀ o, (w2.alloc o).cell? ⟨w.heap.size, 1, none⟩ = some (.slice at' t.args.length ct) := fun o => ((HT.out.below hb2 (by omega)).alloc o).cell 1
      have S2 := hide (HSL.out.later hb2)
      have HBF : Hid (∀ o u u', (Below w.heap.size w (((w2.setCell ⟨w.heap.size + 1, 0, none⟩ u).setCell ⟨w.heap.size + 1, 1, none⟩ u').alloc o) ∧ Sl (((w2.setCell ⟨w.heap.size + 1, 0, none⟩ u).setCell ⟨w.heap.size + 1, 1, none⟩ u').alloc o) (fun b => (X b ∧ b < w.heap.size) ∨ w.heap.size ≤ b) at' t.args) ∧ (Below w.heap.size w (((w2.alloc o).setCell ⟨w.heap.size + 1, 0, none⟩ u).setCell ⟨w.heap.size + 1, 1, none⟩ u') ∧ Sl (((w2.alloc o).setCell ⟨w.heap.size + 1, 0, none⟩ u).setCell ⟨w.heap.size + 1, 1, none⟩ u') (fun b => (X b ∧ b < w.heap.size) ∨ w.heap.size ≤ b) at' t.args)) := fun o u u' => by
        have h0 := HBW.out.trans (HB2.out.mono (by omega))
        have hk : ∀ W : World, ∀ b, EnY w X b → ((W.setCell ⟨w.heap.size + 1, 0, none⟩ u).setCell ⟨w.heap.size + 1, 1, none⟩ u').heap[b]? = W.heap[b]? := fun W b hb => by
          have hne : b ≠ w.heap.size + 1 := by rcases hb with hb | hb <;> omega
          rw [Below.heap_setCell _ _ _ _ (by simpa using hne), Below.heap_setCell _ _ _ _ (by simpa using hne)]
        have hw : ∀ b, EnY w X b → (X b ∧ b < w.heap.size) ∨ w.heap.size ≤ b := fun b hb => hb.imp id fun h => by omega
        exact ⟨⟨((h0.setCell (p := ⟨w.heap.size + 1, 0, none⟩) (by simp) u).setCell (p := ⟨w.heap.size + 1, 1, none⟩) (by simp) u').alloc (by simp [World.setCell]; omega) o, ((S2.out.kept fun b hb => hk w2 b hb).later ((Below.refl _ _).alloc (Nat.le_refl _) _)).mono fun b hb _ => hw b hb⟩,
          ⟨((h0.alloc (by omega) o).setCell (p := ⟨w.heap.size + 1, 0, none⟩) (by simp) u).setCell (p := ⟨w.heap.size + 1, 1, none⟩) (by simp) u', ((S2.out.later ((Below.refl _ _).alloc (Nat.le_refl _) o)).kept fun b hb => hk (w2.alloc o) b hb).mono fun b hb _ => hw b hb⟩⟩
      clear hst hb2 t0' t1'
      go_wp2_with fail
      refine bodyPost_ret (v := .tuple #[.agg #[.string t.name, .slice at' t.args.length ct], .int .i64 (d : Int), .int .i64 0]) (by simp [results, Tryz.results50, go_sem, World.cell?_setCell_same, World.cell?_setCell_other, r0, r1, r0', r1']) rfl ?_
      obtain ⟨e1, e2, e3⟩ := HE.out
      refine ⟨by first | exact (HBF.out _ _ _).1.1 | exact (HBF.out _ _ _).2.1, Or.inl ⟨e1, _, by rw [e3], ?_⟩⟩
      rw [e2]
      exact ⟨at', ct, rfl, by first | exact (HBF.out _ _ _).1.2 | exact (HBF.out _ _ _).2.2⟩
end Go.Proofs.YtcdabjekppddjaaGreatDoor
