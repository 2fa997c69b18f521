/- Walks: what s makes of a row; the terms of rows; a row worked on. -/
import Derived.Test.YtcdabjekppddjaaGreatDoorCb8
namespace Go.Proofs.YtcdabjekppddjaaGreatDoor
open Go.RowKit
set_option linter.unusedSimpArgs false
set_option linter.unusedVariables false
set_option maxRecDepth 8000

set_option maxHeartbeats 2000000 in
theorem term2_any (R : List Tm) (P : Nat) (w : World) (Y : Nat → Prop) (hR : ∀ w', Below w.heap.size w w' → ∀ p (hp : p < R.length), Calls Tryz.prog 96 #[.int .i64 (p : Int), .pointer (some ⟨P, 0, none⟩)] w' fun e w'' => TPost w' (fun b => Y b ∧ b < w.heap.size) R[p] e w'') (hl : 0 < R.length) (hl2 : R.length ≤ 100000) :
    Calls Tryz.prog 82 #[.agg #[.int .i64 (R.length : Int), .func (.func 96) #[] #[.pointer (some ⟨P, 0, none⟩)]]] w fun e w' => TPost w Y (apAll R[0] (R.drop 1)) e w' := by
  have HR := hide hR
  clear hR
  have HA0 := hide (HR.out _ (below2 (.cells #[.int .i64 (R.length : Int), .func (.func 96) #[] #[.pointer (some ⟨P, 0, none⟩)]] 88) (.cells #[.string ⟨#[]⟩, .slice none 0 0] 24)) 0 hl)
  go_enter Tryz.func82, Tryz.ntmps82
  go_wp2_with fail
  refine HA0.out.mono ?_
  rintro e w1 ⟨v1, rfl, ⟨a1, c1, rfl, hs1⟩, hb1⟩
  have hz1 := hb1.size
  simp only [World.size_alloc] at hz1
  have I0 : Hid (TmI w Y (R.length : Int) (.func (.func 96) #[] #[.pointer (some ⟨P, 0, none⟩)]) w1.heap.size R[0] (w1.alloc (.cells #[.string R[0].name, .slice a1 R[0].args.length c1] 24))) := by
    have hbw : Below w.heap.size w w1 := (below2 _ _).trans (hb1.mono (by simp; omega))
    refine ⟨hbw.alloc (by omega) _, (((Blk.new w _ _).alloc _).below hb1 (by simp; omega)).alloc _, ?_, by omega, by simp, a1, c1, Blk.new w1 _ _, (hs1.mono (Y := fun b => (Y b ∧ b < w.heap.size) ∨ (w.heap.size + 2 ≤ b ∧ b ≠ w1.heap.size)) fun b hb hlt => hb.imp id fun h => ⟨by simp at h; omega, by omega⟩).later ((Below.refl _ _).alloc (Nat.le_refl _) _)⟩
    have h := ((Blk.new (w.alloc (.cells #[.int .i64 (R.length : Int), .func (.func 96) #[] #[.pointer (some ⟨P, 0, none⟩)]] 88)) #[.string ⟨#[]⟩, .slice none 0 0] 24).below hb1 (by simp)).alloc (.cells #[.string R[0].name, .slice a1 R[0].args.length c1] 24)
    simpa using h
  clear hs1 hb1 HA0
  go_wp2_with fail
  generalize w1.heap.size = T at *
  go_loopw [4] (fun i wr => ∃ m : Nat, 1 ≤ m ∧ m ≤ R.length ∧ i = .int .i64 (m : Int) ∧ TmI w Y (R.length : Int) (.func (.func 96) #[] #[.pointer (some ⟨P, 0, none⟩)]) T (apAll R[0] ((R.drop 1).take (m - 1))) wr) (fun i wr => R.length - (intOf i).toNat)
  case atStart => exact ⟨1, Nat.le_refl _, hl, rfl, by simpa [apAll] using I0.out⟩
  case round =>
    obtain ⟨m, hm0, hm, rfl, hI⟩ := hrel
    have HI := hide hI
    obtain ⟨p1, p2, p3, p4, p5, ax, cx, p6, p7⟩ := hI
    have P1 := hide p1
    have P6 := hide p6
    have P7 := hide p7
    have hz1' := p1.size
    have n0 := p2.cell 0
    have n1 := p2.cell 1
    have o0 := p6.cell 0
    have o1 := p6.cell 1
    simp only [List.getElem?_toArray, List.getElem?_cons_succ, List.getElem?_cons_zero] at o0 o1 n0 n1
    by_cases hlt : m < R.length
    · have HST := hide (apAll_from R[0] R 1 m hm0 hlt)
      have HAK := hide (HR.out wr.drew (p1.trans (below_drewN (Below.refl _ _) 1)) m hlt)
      generalize R[m] = z at *
      generalize apAll R[0] ((R.drop 1).take (m - 1)) = y at *
      clear p1 p2 p3 p6 p7
      go_wp2_with fail
      go_region_law (first
        | (go_simp; go_at_call 96; refine HAK.out.mono ?_; rintro e w2 ⟨v2, rfl, ⟨a2, c2, rfl, hs2⟩, hb2⟩; have HS2 := hide hs2; have HB2 := hide (drew_below (w := wr) hb2); have z6 := P6.out.below HB2.out p5; have x0 := z6.cell 0; have x1 := z6.cell 1; simp only [List.getElem?_toArray, List.getElem?_cons_succ, List.getElem?_cons_zero] at x0 x1; clear z6 hs2 hb2)
        | (go_simp; go_at_call 68; refine (ap_any y z _ _ _ (fun b => ((Y b ∧ b < w.heap.size) ∨ (w.heap.size + 2 ≤ b ∧ b ≠ T)) ∨ wr.heap.size ≤ b) (by exact ⟨ax, cx, rfl, (P7.out.later HB2.out).mono fun b h _ => Or.inl h⟩) (by exact ⟨a2, c2, rfl, HS2.out.mono fun b h _ => h.elim (fun h => Or.inl (Or.inl h)) Or.inr⟩)).mono ?_; rintro e w3 ⟨v3, rfl, ⟨a3, c3, rfl, hs3⟩, hb3⟩; have HS3 : Hid (Sl w3 (fun b => ((Y b ∧ b < w.heap.size) ∨ (w.heap.size + 2 ≤ b ∧ b ≠ T)) ∨ wr.heap.size ≤ b) a3 (apT y z).args) := (hs3.mono fun b h _ => h.elim id fun h => Or.inr (Nat.le_trans HB2.out.size h)); have HB3 := hide (HB2.out.trans (hb3.mono HB2.out.size)); have z6 := P6.out.below HB3.out p5; have y0 := z6.cell 0; have y1 := z6.cell 1; have yf := z6.frozen; simp only [List.getElem?_toArray, List.getElem?_cons_succ, List.getElem?_cons_zero] at y0 y1; clear z6 hs3 hb3))
      all_goals
        go_wp2_with fail
        go_roundw
        case rel => exact ⟨m + 1, by omega, by omega, by go_num, by rw [HST.out]; exact HI.out.put HB3.out HS3.out⟩
        case measure => simp [intOf]; omega
    · have htk : (R.drop 1).take (m - 1) = R.drop 1 := List.take_of_length_le (by simp; omega)
      have HI2 : Hid (TmI w Y (R.length : Int) (.func (.func 96) #[] #[.pointer (some ⟨P, 0, none⟩)]) T (apAll R[0] (R.drop 1)) wr) := by have h := HI.out; rw [htk] at h; exact h
      have P72 : Hid (Sl wr (fun b => (Y b ∧ b < w.heap.size) ∨ (w.heap.size + 2 ≤ b ∧ b ≠ T)) ax (apAll R[0] (R.drop 1)).args) := by have h := P7.out; rw [htk] at h; exact h
      rw [htk] at o0 o1
      have r0 := p3.cell 0
      have r1 := p3.cell 1
      have rf := p3.frozen
      simp only [List.getElem?_toArray, List.getElem?_cons_succ, List.getElem?_cons_zero] at r0 r1
      clear p1 p2 p3 p6 p7
      go_wp2_with fail
      refine bodyPost_ret (v := .agg #[.string (apAll R[0] (R.drop 1)).name, .slice ax (apAll R[0] (R.drop 1)).args.length cx]) (by simp [results, Tryz.results82, go_sem, World.cell?_setCell_same, World.cell?_setCell_other, r0, r1]) rfl ?_
      exact HI2.out.fin P72.out _ _

set_option maxHeartbeats 2000000 in
theorem term3_any (R : List Tm) (P Q V : Nat) (w : World) (Y : Nat → Prop) (hR : ∀ w', Below w.heap.size w w' → ∀ p (hp : p < R.length), Calls Tryz.prog 98 #[.int .i64 (p : Int), .pointer (some ⟨Q, 0, none⟩), .pointer (some ⟨V, 0, none⟩), .pointer (some ⟨P, 0, none⟩)] w' fun e w'' => TPost w' (fun b => Y b ∧ b < w.heap.size) R[p] e w'') (hl : 0 < R.length) (hl2 : R.length ≤ 100000) :
    Calls Tryz.prog 82 #[.agg #[.int .i64 (R.length : Int), .func (.func 98) #[] #[.pointer (some ⟨Q, 0, none⟩), .pointer (some ⟨V, 0, none⟩), .pointer (some ⟨P, 0, none⟩)]]] w fun e w' => TPost w Y (apAll R[0] (R.drop 1)) e w' := by
  have HR := hide hR
  clear hR
  have HA0 := hide (HR.out _ (below2 (.cells #[.int .i64 (R.length : Int), .func (.func 98) #[] #[.pointer (some ⟨Q, 0, none⟩), .pointer (some ⟨V, 0, none⟩), .pointer (some ⟨P, 0, none⟩)]] 88) (.cells #[.string ⟨#[]⟩, .slice none 0 0] 24)) 0 hl)
  go_enter Tryz.func82, Tryz.ntmps82
  go_wp2_with fail
  refine HA0.out.mono ?_
  rintro e w1 ⟨v1, rfl, ⟨a1, c1, rfl, hs1⟩, hb1⟩
  have hz1 := hb1.size
  simp only [World.size_alloc] at hz1
  have I0 : Hid (TmI w Y (R.length : Int) (.func (.func 98) #[] #[.pointer (some ⟨Q, 0, none⟩), .pointer (some ⟨V, 0, none⟩), .pointer (some ⟨P, 0, none⟩)]) w1.heap.size R[0] (w1.alloc (.cells #[.string R[0].name, .slice a1 R[0].args.length c1] 24))) := by
    have hbw : Below w.heap.size w w1 := (below2 _ _).trans (hb1.mono (by simp; omega))
    refine ⟨hbw.alloc (by omega) _, (((Blk.new w _ _).alloc _).below hb1 (by simp; omega)).alloc _, ?_, by omega, by simp, a1, c1, Blk.new w1 _ _, (hs1.mono (Y := fun b => (Y b ∧ b < w.heap.size) ∨ (w.heap.size + 2 ≤ b ∧ b ≠ w1.heap.size)) fun b hb hlt => hb.imp id fun h => ⟨by simp at h; omega, by omega⟩).later ((Below.refl _ _).alloc (Nat.le_refl _) _)⟩
    have h := ((Blk.new (w.alloc (.cells #[.int .i64 (R.length : Int), .func (.func 98) #[] #[.pointer (some ⟨Q, 0, none⟩), .pointer (some ⟨V, 0, none⟩), .pointer (some ⟨P, 0, none⟩)]] 88)) #[.string ⟨#[]⟩, .slice none 0 0] 24).below hb1 (by simp)).alloc (.cells #[.string R[0].name, .slice a1 R[0].args.length c1] 24)
    simpa using h
  clear hs1 hb1 HA0
  go_wp2_with fail
  generalize w1.heap.size = T at *
  go_loopw [4] (fun i wr => ∃ m : Nat, 1 ≤ m ∧ m ≤ R.length ∧ i = .int .i64 (m : Int) ∧ TmI w Y (R.length : Int) (.func (.func 98) #[] #[.pointer (some ⟨Q, 0, none⟩), .pointer (some ⟨V, 0, none⟩), .pointer (some ⟨P, 0, none⟩)]) T (apAll R[0] ((R.drop 1).take (m - 1))) wr) (fun i wr => R.length - (intOf i).toNat)
  case atStart => exact ⟨1, Nat.le_refl _, hl, rfl, by simpa [apAll] using I0.out⟩
  case round =>
    obtain ⟨m, hm0, hm, rfl, hI⟩ := hrel
    have HI := hide hI
    obtain ⟨p1, p2, p3, p4, p5, ax, cx, p6, p7⟩ := hI
    have P1 := hide p1
    have P6 := hide p6
    have P7 := hide p7
    have hz1' := p1.size
    have n0 := p2.cell 0
    have n1 := p2.cell 1
    have o0 := p6.cell 0
    have o1 := p6.cell 1
    simp only [List.getElem?_toArray, List.getElem?_cons_succ, List.getElem?_cons_zero] at o0 o1 n0 n1
    by_cases hlt : m < R.length
    · have HST := hide (apAll_from R[0] R 1 m hm0 hlt)
      have HAK := hide (HR.out wr.drew (p1.trans (below_drewN (Below.refl _ _) 1)) m hlt)
      generalize R[m] = z at *
      generalize apAll R[0] ((R.drop 1).take (m - 1)) = y at *
      clear p1 p2 p3 p6 p7
      go_wp2_with fail
      go_region_law (first
        | (go_simp; go_at_call 98; refine HAK.out.mono ?_; rintro e w2 ⟨v2, rfl, ⟨a2, c2, rfl, hs2⟩, hb2⟩; have HS2 := hide hs2; have HB2 := hide (drew_below (w := wr) hb2); have z6 := P6.out.below HB2.out p5; have x0 := z6.cell 0; have x1 := z6.cell 1; simp only [List.getElem?_toArray, List.getElem?_cons_succ, List.getElem?_cons_zero] at x0 x1; clear z6 hs2 hb2)
        | (go_simp; go_at_call 68; refine (ap_any y z _ _ _ (fun b => ((Y b ∧ b < w.heap.size) ∨ (w.heap.size + 2 ≤ b ∧ b ≠ T)) ∨ wr.heap.size ≤ b) (by exact ⟨ax, cx, rfl, (P7.out.later HB2.out).mono fun b h _ => Or.inl h⟩) (by exact ⟨a2, c2, rfl, HS2.out.mono fun b h _ => h.elim (fun h => Or.inl (Or.inl h)) Or.inr⟩)).mono ?_; rintro e w3 ⟨v3, rfl, ⟨a3, c3, rfl, hs3⟩, hb3⟩; have HS3 : Hid (Sl w3 (fun b => ((Y b ∧ b < w.heap.size) ∨ (w.heap.size + 2 ≤ b ∧ b ≠ T)) ∨ wr.heap.size ≤ b) a3 (apT y z).args) := (hs3.mono fun b h _ => h.elim id fun h => Or.inr (Nat.le_trans HB2.out.size h)); have HB3 := hide (HB2.out.trans (hb3.mono HB2.out.size)); have z6 := P6.out.below HB3.out p5; have y0 := z6.cell 0; have y1 := z6.cell 1; have yf := z6.frozen; simp only [List.getElem?_toArray, List.getElem?_cons_succ, List.getElem?_cons_zero] at y0 y1; clear z6 hs3 hb3))
      all_goals
        go_wp2_with fail
        go_roundw
        case rel => exact ⟨m + 1, by omega, by omega, by go_num, by rw [HST.out]; exact HI.out.put HB3.out HS3.out⟩
        case measure => simp [intOf]; omega
    · have htk : (R.drop 1).take (m - 1) = R.drop 1 := List.take_of_length_le (by simp; omega)
      have HI2 : Hid (TmI w Y (R.length : Int) (.func (.func 98) #[] #[.pointer (some ⟨Q, 0, none⟩), .pointer (some ⟨V, 0, none⟩), .pointer (some ⟨P, 0, none⟩)]) T (apAll R[0] (R.drop 1)) wr) := by have h := HI.out; rw [htk] at h; exact h
      have P72 : Hid (Sl wr (fun b => (Y b ∧ b < w.heap.size) ∨ (w.heap.size + 2 ≤ b ∧ b ≠ T)) ax (apAll R[0] (R.drop 1)).args) := by have h := P7.out; rw [htk] at h; exact h
      rw [htk] at o0 o1
      have r0 := p3.cell 0
      have r1 := p3.cell 1
      have rf := p3.frozen
      simp only [List.getElem?_toArray, List.getElem?_cons_succ, List.getElem?_cons_zero] at r0 r1
      clear p1 p2 p3 p6 p7
      go_wp2_with fail
      refine bodyPost_ret (v := .agg #[.string (apAll R[0] (R.drop 1)).name, .slice ax (apAll R[0] (R.drop 1)).args.length cx]) (by simp [results, Tryz.results82, go_sem, World.cell?_setCell_same, World.cell?_setCell_other, r0, r1]) rfl ?_
      exact HI2.out.fin P72.out _ _

set_option maxHeartbeats 2000000 in
theorem term4_any (R : List Tm) (B n : Nat) (w : World) (Y : Nat → Prop) (hR : ∀ w', Below w.heap.size w w' → ∀ p (hp : p < R.length), Calls Tryz.prog 97 #[.agg #[.int .i64 (n : Int), ro1 B], .int .i64 (p : Int)] w' fun e w'' => TPost w' (fun b => Y b ∧ b < w.heap.size) R[p] e w'') (hl : 0 < R.length) (hl2 : R.length ≤ 100000) :
    Calls Tryz.prog 82 #[.agg #[.int .i64 (R.length : Int), .func (.func 97) #[.agg #[.int .i64 (n : Int), ro1 B]] #[]]] w fun e w' => TPost w Y (apAll R[0] (R.drop 1)) e w' := by
  have HR := hide hR
  clear hR
  have HA0 := hide (HR.out _ (below2 (.cells #[.int .i64 (R.length : Int), .func (.func 97) #[.agg #[.int .i64 (n : Int), ro1 B]] #[]] 88) (.cells #[.string ⟨#[]⟩, .slice none 0 0] 24)) 0 hl)
  go_enter Tryz.func82, Tryz.ntmps82
  go_wp2_with fail
  refine HA0.out.mono ?_
  rintro e w1 ⟨v1, rfl, ⟨a1, c1, rfl, hs1⟩, hb1⟩
  have hz1 := hb1.size
  simp only [World.size_alloc] at hz1
  have I0 : Hid (TmI w Y (R.length : Int) (.func (.func 97) #[.agg #[.int .i64 (n : Int), ro1 B]] #[]) w1.heap.size R[0] (w1.alloc (.cells #[.string R[0].name, .slice a1 R[0].args.length c1] 24))) := by
    have hbw : Below w.heap.size w w1 := (below2 _ _).trans (hb1.mono (by simp; omega))
    refine ⟨hbw.alloc (by omega) _, (((Blk.new w _ _).alloc _).below hb1 (by simp; omega)).alloc _, ?_, by omega, by simp, a1, c1, Blk.new w1 _ _, (hs1.mono (Y := fun b => (Y b ∧ b < w.heap.size) ∨ (w.heap.size + 2 ≤ b ∧ b ≠ w1.heap.size)) fun b hb hlt => hb.imp id fun h => ⟨by simp at h; omega, by omega⟩).later ((Below.refl _ _).alloc (Nat.le_refl _) _)⟩
    have h := ((Blk.new (w.alloc (.cells #[.int .i64 (R.length : Int), .func (.func 97) #[.agg #[.int .i64 (n : Int), ro1 B]] #[]] 88)) #[.string ⟨#[]⟩, .slice none 0 0] 24).below hb1 (by simp)).alloc (.cells #[.string R[0].name, .slice a1 R[0].args.length c1] 24)
    simpa using h
  clear hs1 hb1 HA0
  go_wp2_with fail
  generalize w1.heap.size = T at *
  go_loopw [4] (fun i wr => ∃ m : Nat, 1 ≤ m ∧ m ≤ R.length ∧ i = .int .i64 (m : Int) ∧ TmI w Y (R.length : Int) (.func (.func 97) #[.agg #[.int .i64 (n : Int), ro1 B]] #[]) T (apAll R[0] ((R.drop 1).take (m - 1))) wr) (fun i wr => R.length - (intOf i).toNat)
  case atStart => exact ⟨1, Nat.le_refl _, hl, rfl, by simpa [apAll] using I0.out⟩
  case round =>
    obtain ⟨m, hm0, hm, rfl, hI⟩ := hrel
    have HI := hide hI
    obtain ⟨p1, p2, p3, p4, p5, ax, cx, p6, p7⟩ := hI
    have P1 := hide p1
    have P6 := hide p6
    have P7 := hide p7
    have hz1' := p1.size
    have n0 := p2.cell 0
    have n1 := p2.cell 1
    have o0 := p6.cell 0
    have o1 := p6.cell 1
    simp only [List.getElem?_toArray, List.getElem?_cons_succ, List.getElem?_cons_zero] at o0 o1 n0 n1
    by_cases hlt : m < R.length
    · have HST := hide (apAll_from R[0] R 1 m hm0 hlt)
      have HAK := hide (HR.out wr.drew (p1.trans (below_drewN (Below.refl _ _) 1)) m hlt)
      generalize R[m] = z at *
      generalize apAll R[0] ((R.drop 1).take (m - 1)) = y at *
      clear p1 p2 p3 p6 p7
      go_wp2_with fail
      go_region_law (first
        | (go_simp; go_at_call 97; refine HAK.out.mono ?_; rintro e w2 ⟨v2, rfl, ⟨a2, c2, rfl, hs2⟩, hb2⟩; have HS2 := hide hs2; have HB2 := hide (drew_below (w := wr) hb2); have z6 := P6.out.below HB2.out p5; have x0 := z6.cell 0; have x1 := z6.cell 1; simp only [List.getElem?_toArray, List.getElem?_cons_succ, List.getElem?_cons_zero] at x0 x1; clear z6 hs2 hb2)
        | (go_simp; go_at_call 68; refine (ap_any y z _ _ _ (fun b => ((Y b ∧ b < w.heap.size) ∨ (w.heap.size + 2 ≤ b ∧ b ≠ T)) ∨ wr.heap.size ≤ b) (by exact ⟨ax, cx, rfl, (P7.out.later HB2.out).mono fun b h _ => Or.inl h⟩) (by exact ⟨a2, c2, rfl, HS2.out.mono fun b h _ => h.elim (fun h => Or.inl (Or.inl h)) Or.inr⟩)).mono ?_; rintro e w3 ⟨v3, rfl, ⟨a3, c3, rfl, hs3⟩, hb3⟩; have HS3 : Hid (Sl w3 (fun b => ((Y b ∧ b < w.heap.size) ∨ (w.heap.size + 2 ≤ b ∧ b ≠ T)) ∨ wr.heap.size ≤ b) a3 (apT y z).args) := (hs3.mono fun b h _ => h.elim id fun h => Or.inr (Nat.le_trans HB2.out.size h)); have HB3 := hide (HB2.out.trans (hb3.mono HB2.out.size)); have z6 := P6.out.below HB3.out p5; have y0 := z6.cell 0; have y1 := z6.cell 1; have yf := z6.frozen; simp only [List.getElem?_toArray, List.getElem?_cons_succ, List.getElem?_cons_zero] at y0 y1; clear z6 hs3 hb3))
      all_goals
        go_wp2_with fail
        go_roundw
        case rel => exact ⟨m + 1, by omega, by omega, by go_num, by rw [HST.out]; exact HI.out.put HB3.out HS3.out⟩
        case measure => simp [intOf]; omega
    · have htk : (R.drop 1).take (m - 1) = R.drop 1 := List.take_of_length_le (by simp; omega)
      have HI2 : Hid (TmI w Y (R.length : Int) (.func (.func 97) #[.agg #[.int .i64 (n : Int), ro1 B]] #[]) T (apAll R[0] (R.drop 1)) wr) := by have h := HI.out; rw [htk] at h; exact h
      have P72 : Hid (Sl wr (fun b => (Y b ∧ b < w.heap.size) ∨ (w.heap.size + 2 ≤ b ∧ b ≠ T)) ax (apAll R[0] (R.drop 1)).args) := by have h := P7.out; rw [htk] at h; exact h
      rw [htk] at o0 o1
      have r0 := p3.cell 0
      have r1 := p3.cell 1
      have rf := p3.frozen
      simp only [List.getElem?_toArray, List.getElem?_cons_succ, List.getElem?_cons_zero] at r0 r1
      clear p1 p2 p3 p6 p7
      go_wp2_with fail
      refine bodyPost_ret (v := .agg #[.string (apAll R[0] (R.drop 1)).name, .slice ax (apAll R[0] (R.drop 1)).args.length cx]) (by simp [results, Tryz.results82, go_sem, World.cell?_setCell_same, World.cell?_setCell_other, r0, r1]) rfl ?_
      exact HI2.out.fin P72.out _ _

theorem cl_end2 {w w1 : World} {o1 o2 : Obj} {Y : Nat → Prop} {x : Tm} {a : Option Addr} {c : Nat} (hs : Sl w1 (fun b => (Y b ∧ b < w.heap.size) ∨ w.heap.size + 2 ≤ b) a x.args) (hb : Below (w.heap.size + 2) ((w.alloc o1).alloc o2) w1) (u u' : Value) :
    TPost w Y x (.returned (.agg #[.string x.name, .slice a x.args.length c])) ((w1.setCell ⟨w.heap.size + 1, 0, none⟩ u).setCell ⟨w.heap.size + 1, 1, none⟩ u') := by
  have h0 : Below w.heap.size w w1 := (below2 o1 o2).trans (hb.mono (by omega))
  refine ⟨_, rfl, ⟨a, c, rfl, ?_⟩, (h0.setCell (p := ⟨w.heap.size + 1, 0, none⟩) (by simp) _).setCell (p := ⟨w.heap.size + 1, 1, none⟩) (by simp) _⟩
  refine (hs.kept fun b hb => ?_).mono fun b hb _ => hb.imp And.left fun h => by omega
  have hne : b ≠ w.heap.size + 1 := by rcases hb with hb | hb <;> omega
  rw [Below.heap_setCell _ _ _ _ (by simpa using hne), Below.heap_setCell _ _ _ _ (by simpa using hne)]
theorem cl_end3 {w w1 : World} {Y : Nat → Prop} {x : Tm} {a : Option Addr} {c : Nat} (hs : Sl w1 (fun b => (Y b ∧ b < w.heap.size) ∨ w.heap.size + 2 ≤ b) a x.args) (h0 : Below w.heap.size w w1) (u u' : Value) :
    TPost w Y x (.returned (.agg #[.string x.name, .slice a x.args.length c])) ((w1.setCell ⟨w.heap.size + 1, 0, none⟩ u).setCell ⟨w.heap.size + 1, 1, none⟩ u') := by
  refine ⟨_, rfl, ⟨a, c, rfl, ?_⟩, (h0.setCell (p := ⟨w.heap.size + 1, 0, none⟩) (by simp) _).setCell (p := ⟨w.heap.size + 1, 1, none⟩) (by simp) _⟩
  refine (hs.kept fun b hb => ?_).mono fun b hb _ => hb.imp And.left fun h => by omega
  have hne : b ≠ w.heap.size + 1 := by rcases hb with hb | hb <;> omega
  rw [Below.heap_setCell _ _ _ _ (by simpa using hne), Below.heap_setCell _ _ _ _ (by simpa using hne)]
set_option maxHeartbeats 2000000 in
theorem shared0 (R : List Tm) (B n : Nat) (w : World) (Y : Nat → Prop) (hR : RoL w Y B R) (hp : 1 < R.length) :
    Calls Tryz.prog 97 #[.agg #[.int .i64 (n : Int), ro1 B], .int .i64 ((0 : Nat) : Int)] w fun e w' => TPost w Y R[1] e w' := by
  have HR := hide ((hR.small).later (below2 (.cells #[.int .i64 (n : Int), ro1 B] 88) (.cells #[.string ⟨#[]⟩, .slice none 0 0] 24)))
  have hl := hR.len
  have HA := hide (HR.out.at 1 hp)
  have HK : Hid (Blk ((w.alloc (.cells #[.int .i64 (n : Int), ro1 B] 88)).alloc (.cells #[.string ⟨#[]⟩, .slice none 0 0] 24)) (w.heap.size + 1) #[.string ⟨#[]⟩, .slice none 0 0] 24) := by
    have h := Blk.new (w.alloc (.cells #[.int .i64 (n : Int), ro1 B] 88)) #[.string ⟨#[]⟩, .slice none 0 0] 24
    unfold Hid
    simpa using h
  clear hR HR
  generalize R[1] = x at *
  go_enter Tryz.func97, Tryz.ntmps97
  go_wp2_with fail
  refine HA.out.mono ?_
  rintro e w1 ⟨v1, rfl, ⟨a1, c1', rfl, hs1⟩, hb1⟩
  have HS1 := hide hs1
  have HB1 := hide hb1
  have HK1 := hide (HK.out.below hb1 (by simp))
  have r0 : w1.cell? ⟨w.heap.size + 1, 0, none⟩ = some (.string ⟨#[]⟩) := HK1.out.cell 0
  have r1 : w1.cell? ⟨w.heap.size + 1, 1, none⟩ = some (.slice none 0 0) := HK1.out.cell 1
  have rf : ∀ i, w1.frozen? ⟨w.heap.size + 1, i, none⟩ = false := HK1.out.frozen
  clear hs1 hb1
  go_wp2_with fail
  refine bodyPost_ret (v := .agg #[.string x.name, .slice a1 x.args.length c1']) (by simp [results, Tryz.results97, go_sem, World.cell?_setCell_same, World.cell?_setCell_other, r0, r1]) rfl ?_
  exact cl_end2 (by have h := HS1.out; simp only [World.size_alloc] at h; exact h) (by have h := HB1.out; simp only [World.size_alloc] at h; exact h) _ _

set_option maxHeartbeats 2000000 in
theorem shared1 (R : List Tm) (B n : Nat) (w : World) (Y : Nat → Prop) (hR : RoL w Y B R) (hp : 3 < R.length) :
    Calls Tryz.prog 97 #[.agg #[.int .i64 (n : Int), ro1 B], .int .i64 ((1 : Nat) : Int)] w fun e w' => TPost w Y R[3] e w' := by
  have HR := hide ((hR.small).later (below2 (.cells #[.int .i64 (n : Int), ro1 B] 88) (.cells #[.string ⟨#[]⟩, .slice none 0 0] 24)))
  have hl := hR.len
  have HA := hide (HR.out.at 3 hp)
  have HK : Hid (Blk ((w.alloc (.cells #[.int .i64 (n : Int), ro1 B] 88)).alloc (.cells #[.string ⟨#[]⟩, .slice none 0 0] 24)) (w.heap.size + 1) #[.string ⟨#[]⟩, .slice none 0 0] 24) := by
    have h := Blk.new (w.alloc (.cells #[.int .i64 (n : Int), ro1 B] 88)) #[.string ⟨#[]⟩, .slice none 0 0] 24
    unfold Hid
    simpa using h
  clear hR HR
  generalize R[3] = x at *
  go_enter Tryz.func97, Tryz.ntmps97
  go_wp2_with fail
  refine HA.out.mono ?_
  rintro e w1 ⟨v1, rfl, ⟨a1, c1', rfl, hs1⟩, hb1⟩
  have HS1 := hide hs1
  have HB1 := hide hb1
  have HK1 := hide (HK.out.below hb1 (by simp))
  have r0 : w1.cell? ⟨w.heap.size + 1, 0, none⟩ = some (.string ⟨#[]⟩) := HK1.out.cell 0
  have r1 : w1.cell? ⟨w.heap.size + 1, 1, none⟩ = some (.slice none 0 0) := HK1.out.cell 1
  have rf : ∀ i, w1.frozen? ⟨w.heap.size + 1, i, none⟩ = false := HK1.out.frozen
  clear hs1 hb1
  go_wp2_with fail
  refine bodyPost_ret (v := .agg #[.string x.name, .slice a1 x.args.length c1']) (by simp [results, Tryz.results97, go_sem, World.cell?_setCell_same, World.cell?_setCell_other, r0, r1]) rfl ?_
  exact cl_end2 (by have h := HS1.out; simp only [World.size_alloc] at h; exact h) (by have h := HB1.out; simp only [World.size_alloc] at h; exact h) _ _

set_option maxHeartbeats 2000000 in
theorem shared3 (R : List Tm) (B n p : Nat) (w : World) (Y : Nat → Prop) (hR : RoL w Y B R) (hp3 : 3 ≤ p) (hp : p + 1 < R.length) :
    Calls Tryz.prog 97 #[.agg #[.int .i64 (n : Int), ro1 B], .int .i64 (p : Int)] w fun e w' => TPost w Y R[p + 1] e w' := by
  have HR := hide ((hR.small).later (below2 (.cells #[.int .i64 (n : Int), ro1 B] 88) (.cells #[.string ⟨#[]⟩, .slice none 0 0] 24)))
  have hl := hR.len
  have q0 : ((p : Int) == 0) = false := beq_eq_false_iff_ne.2 (by omega)
  have q1 : ((p : Int) == 1) = false := beq_eq_false_iff_ne.2 (by omega)
  have q2 : ((p : Int) == 2) = false := beq_eq_false_iff_ne.2 (by omega)
  have HA := hide (HR.out.at (p + 1) hp)
  have HK : Hid (Blk ((w.alloc (.cells #[.int .i64 (n : Int), ro1 B] 88)).alloc (.cells #[.string ⟨#[]⟩, .slice none 0 0] 24)) (w.heap.size + 1) #[.string ⟨#[]⟩, .slice none 0 0] 24) := by
    have h := Blk.new (w.alloc (.cells #[.int .i64 (n : Int), ro1 B] 88)) #[.string ⟨#[]⟩, .slice none 0 0] 24
    unfold Hid
    simpa using h
  clear hR HR
  generalize R[p + 1] = x at *
  go_enter Tryz.func97, Tryz.ntmps97
  go_wp2_with fail
  rw [show ((p : Int) + 1) = ((p + 1 : Nat) : Int) by omega]
  refine HA.out.mono ?_
  rintro e w1 ⟨v1, rfl, ⟨a1, c1', rfl, hs1⟩, hb1⟩
  have HS1 := hide hs1
  have HB1 := hide hb1
  have HK1 := hide (HK.out.below hb1 (by simp))
  have r0 : w1.cell? ⟨w.heap.size + 1, 0, none⟩ = some (.string ⟨#[]⟩) := HK1.out.cell 0
  have r1 : w1.cell? ⟨w.heap.size + 1, 1, none⟩ = some (.slice none 0 0) := HK1.out.cell 1
  have rf : ∀ i, w1.frozen? ⟨w.heap.size + 1, i, none⟩ = false := HK1.out.frozen
  clear hs1 hb1
  go_wp2_with fail
  refine bodyPost_ret (v := .agg #[.string x.name, .slice a1 x.args.length c1']) (by simp [results, Tryz.results97, go_sem, World.cell?_setCell_same, World.cell?_setCell_other, r0, r1]) rfl ?_
  exact cl_end2 (by have h := HS1.out; simp only [World.size_alloc] at h; exact h) (by have h := HB1.out; simp only [World.size_alloc] at h; exact h) _ _

end Go.Proofs.YtcdabjekppddjaaGreatDoor
