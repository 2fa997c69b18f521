/- Walks: Both. -/
import Derived.Test.YtheknfgkilckfaaAu10
namespace Go.Proofs.Ytheknfgkilckfaa
open Go.RowKit
set_option linter.unusedSimpArgs false
set_option linter.unusedVariables false
set_option maxRecDepth 8000

set_option maxHeartbeats 2000000 in
theorem both_any (A B : Au) (va vb : Value) (w : World) (X : Nat → Prop) (hva : AV w X va A) (hvb : AV w X vb B) :
    Calls Try.prog 9 #[va, vb] w fun e w' => MkE (eachE A B) (prA A B) w e w' := by
  obtain ⟨am, cm, al, cl, rfl, ham, hal⟩ := hva
  obtain ⟨bm, dm, bl, dl, rfl, hbm, hbl⟩ := hvb
  have HVA : Hid (AV w X (.agg #[.int .i64 A.st, .slice am A.mv.length cm, .slice al A.la.length cl]) A) := ⟨am, cm, al, cl, rfl, ham, hal⟩
  have HVB : Hid (AV w X (.agg #[.int .i64 B.st, .slice bm B.mv.length dm, .slice bl B.la.length dl]) B) := ⟨bm, dm, bl, dl, rfl, hbm, hbl⟩
  clear ham hal hbm hbl
  generalize hW : (((w.alloc (.cells #[.int .i64 A.st, .slice am A.mv.length cm, .slice al A.la.length cl] 25)).alloc (.cells #[.int .i64 B.st, .slice bm B.mv.length dm, .slice bl B.la.length dl] 25)).alloc (.cells #[.int .i64 0, .slice none 0 0, .slice none 0 0] 25)) = w3
  have hz3 : w3.heap.size = w.heap.size + 3 := by rw [← hW]; simp
  have B3 : Hid (Below w.heap.size w w3) := by unfold Hid; rw [← hW]; exact (((Below.refl _ _).alloc (Nat.le_refl _) _).alloc (by simp) _).alloc (by simp; omega) _
  have A3 : Hid (Blk w3 w.heap.size #[.int .i64 A.st, .slice am A.mv.length cm, .slice al A.la.length cl] 25) := by unfold Hid; rw [← hW]; exact ((Blk.new w _ _).alloc _).alloc _
  have C3 : Hid (Blk w3 (w.heap.size + 1) #[.int .i64 B.st, .slice bm B.mv.length dm, .slice bl B.la.length dl] 25) := by
    unfold Hid; rw [← hW]
    have h := (Blk.new (w.alloc (.cells #[.int .i64 A.st, .slice am A.mv.length cm, .slice al A.la.length cl] 25)) #[.int .i64 B.st, .slice bm B.mv.length dm, .slice bl B.la.length dl] 25).alloc (.cells #[.int .i64 0, .slice none 0 0, .slice none 0 0] 25)
    rw [World.size_alloc] at h
    exact h
  have R3 : Hid (Blk w3 (w.heap.size + 1 + 1) #[.int .i64 0, .slice none 0 0, .slice none 0 0] 25) := by
    unfold Hid; rw [← hW]
    have h := Blk.new ((w.alloc (.cells #[.int .i64 A.st, .slice am A.mv.length cm, .slice al A.la.length cl] 25)).alloc (.cells #[.int .i64 B.st, .slice bm B.mv.length dm, .slice bl B.la.length dl] 25)) #[.int .i64 0, .slice none 0 0, .slice none 0 0] 25
    rw [World.size_alloc, World.size_alloc] at h
    exact h
  have HW := hide hW
  have HZ3 := hide hz3
  clear hW hz3
  generalize hE : eachE A B = E
  have HE := hide hE
  clear hE
  go_enter Try.func9, Try.ntmps9
  go_upto_region 1 with fail
  rw [HW.out]
  have HNE : Hid (w.heap.size < w.heap.size + 1 ∧ w.heap.size + 1 < w.heap.size + 1 + 1 ∧ w.heap.size + 1 + 1 < w3.heap.size) := by have := HZ3.out; unfold Hid; omega
  clear HZ3 HW
  generalize w.heap.size + 1 + 1 = R at *
  generalize w.heap.size + 1 = Q at *
  have a0 : w3.cell? ⟨w.heap.size, 0, none⟩ = some (.int .i64 A.st) := A3.out.cell 0
  have a1 : w3.cell? ⟨w.heap.size, 1, none⟩ = some (.slice am A.mv.length cm) := A3.out.cell 1
  have a2 : w3.cell? ⟨w.heap.size, 2, none⟩ = some (.slice al A.la.length cl) := A3.out.cell 2
  have al4 := A3.out.lt
  have b0 : w3.cell? ⟨Q, 0, none⟩ = some (.int .i64 B.st) := C3.out.cell 0
  have b1 : w3.cell? ⟨Q, 1, none⟩ = some (.slice bm B.mv.length dm) := C3.out.cell 1
  have b2 : w3.cell? ⟨Q, 2, none⟩ = some (.slice bl B.la.length dl) := C3.out.cell 2
  have bl4 := C3.out.lt
  have K4 : Hid (Below w3.heap.size w3 (w3.alloc (.cells #[.int .i64 A.st, .slice am A.mv.length cm, .slice al A.la.length cl, .int .i64 B.st, .slice bm B.mv.length dm, .slice bl B.la.length dl] 25))) := (Below.refl _ _).alloc (Nat.le_refl _) _
  have VA4 := hide ((HVA.out.later B3.out).later K4.out)
  have VB4 := hide ((HVB.out.later B3.out).later K4.out)
  go_wp2_with fail
  refine (checkEach_any A B am bm al bl cm dm cl dl _ _ X (by exact VA4.out) (by exact VB4.out) (by exact Blk.new w3 _ _)).mono ?_
  rintro e w5 ⟨rfl, hb5⟩
  have K5 := hide (K4.out.trans (hb5.mono K4.out.size))
  have B5 := hide (B3.out.trans (K5.out.mono B3.out.size))
  have A5 := hide (A3.out.below K5.out A3.out.lt)
  have C5 := hide (C3.out.below K5.out C3.out.lt)
  have R5 := hide (R3.out.below K5.out R3.out.lt)
  rw [HE.out]
  clear hb5 a0 a1 a2 al4 b0 b1 b2 bl4 VA4 VB4
  have r0 : w5.cell? ⟨R, 0, none⟩ = some (.int .i64 0) := R5.out.cell 0
  have r1 : w5.cell? ⟨R, 1, none⟩ = some (.slice none 0 0) := R5.out.cell 1
  have r2 : w5.cell? ⟨R, 2, none⟩ = some (.slice none 0 0) := R5.out.cell 2
  have rl := R5.out.lt
  have rf := R5.out.frozen
  by_cases h0 : E = 0
  · have HA : Hid (OkAu 8 40 A ∧ OkAu 8 40 B) := by
      have h1 := HE.out
      unfold eachE at h1
      by_cases h2 : auE 8 40 A = 0
      · rw [if_pos h2] at h1
        exact ⟨auE_zero.1 h2, auE_zero.1 (by rw [h1, h0])⟩
      · rw [if_neg h2] at h1
        exact absurd (by rw [h1, h0]) h2
    have H0 := hide h0
    rw [h0]
    clear h0 r0 r1 r2 rl rf
    have a0 : w5.cell? ⟨w.heap.size, 0, none⟩ = some (.int .i64 A.st) := A5.out.cell 0
    have a1 : w5.cell? ⟨w.heap.size, 1, none⟩ = some (.slice am A.mv.length cm) := A5.out.cell 1
    have a2 : w5.cell? ⟨w.heap.size, 2, none⟩ = some (.slice al A.la.length cl) := A5.out.cell 2
    have al4 := A5.out.lt
    have b0 : w5.cell? ⟨Q, 0, none⟩ = some (.int .i64 B.st) := C5.out.cell 0
    have b1 : w5.cell? ⟨Q, 1, none⟩ = some (.slice bm B.mv.length dm) := C5.out.cell 1
    have b2 : w5.cell? ⟨Q, 2, none⟩ = some (.slice bl B.la.length dl) := C5.out.cell 2
    have bl4 := C5.out.lt
    have VA5 := hide (HVA.out.later B5.out)
    have VB5 := hide (HVB.out.later B5.out)
    go_wp2_with fail
    refine (product_any A B HA.out.1 HA.out.2 _ _ _ X (by exact VA5.out) (by exact VB5.out)).mono ?_
    rintro e w6 ⟨xm, ym, xl, yl, rfl, hsm, hsl, hb6⟩
    have R6 := hide (R5.out.below hb6 R5.out.lt)
    have HSM := hide hsm
    have HSL := hide hsl
    have B6 := hide (B5.out.trans (hb6.mono B5.out.size))
    have HS6 := hide hb6.size
    have HS5 : Hid (R < w5.heap.size) := R5.out.lt
    generalize hn0 : (prA A B).st = n0 at *
    generalize hn1 : (prA A B).mv.length = n1 at *
    generalize hn2 : (prA A B).la.length = n2 at *
    have HN0 := hide hn0
    have HN1 := hide hn1
    have HN2 := hide hn2
    clear hn0 hn1 hn2 hsm hsl hb6 a0 a1 a2 al4 b0 b1 b2 bl4
    have r0 : w6.cell? ⟨R, 0, none⟩ = some (.int .i64 0) := R6.out.cell 0
    have r1 : w6.cell? ⟨R, 1, none⟩ = some (.slice none 0 0) := R6.out.cell 1
    have r2 : w6.cell? ⟨R, 2, none⟩ = some (.slice none 0 0) := R6.out.cell 2
    have rl := R6.out.lt
    have rf := R6.out.frozen
    go_wp2_with fail
    refine bodyPost_ret (v := .tuple #[.agg #[.int .i64 n0, .slice xm n1 ym, .slice xl n2 yl], .int .i64 0]) (by simp [results, Try.results9, go_sem, World.cell?_setCell_same, World.cell?_setCell_other, r0, r1, r2]) rfl ?_
    have hex := set3_ex (w := w6) R (.int .i64 n0) (.slice xm n1 ym) (.slice xl n2 yl)
    refine ⟨?_, Or.inl ⟨H0.out, xm, ym, xl, yl, by rw [HN0.out, HN1.out, HN2.out], ?_, ?_⟩⟩
    · exact ((B6.out.setCell (by have := HNE.out; simp; omega) _).setCell (by have := HNE.out; simp; omega) _).setCell (by have := HNE.out; simp; omega) _
    · exact (HSM.out.ex hex (fun b hb => by have := HS5.out; omega)).mono fun _ _ _ => trivial
    · rw [HN2.out]
      exact (HSL.out.ex hex (fun b hb => by have := HS5.out; omega)).mono fun _ _ _ => trivial
  · have hne : (E == 0) = false := by simpa using h0
    have hne2 : (E != 0) = true := by simpa using h0
    have H0 := hide h0
    clear h0
    go_wp2_with fail
    refine bodyPost_ret (v := .tuple #[.agg #[.int .i64 0, .slice none 0 0, .slice none 0 0], .int .i64 E]) (by simp [results, Try.results9, go_sem, World.cell?_setCell_same, World.cell?_setCell_other, r0, r1, r2]) rfl ?_
    exact ⟨((B5.out.setCell (by have := HNE.out; simp; omega) _).setCell (by have := HNE.out; simp; omega) _).setCell (by have := HNE.out; simp; omega) _, Or.inr ⟨H0.out, rfl⟩⟩
end Go.Proofs.Ytheknfgkilckfaa
