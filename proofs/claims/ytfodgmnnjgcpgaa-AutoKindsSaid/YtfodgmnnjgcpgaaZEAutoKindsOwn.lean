/- Several texts in one. -/
import Derived.Test.YtfodgmnnjgcpgaaAu6
/- Walks: Either. -/
namespace Go.Proofs.Ytfodgmnnjgcpgaa
open Go.RowKit
set_option linter.unusedSimpArgs false
set_option linter.unusedVariables false
set_option maxRecDepth 8000

theorem AV.mono {w : World} {X Y : Nat → Prop} {v : Value} {A : Au} (h : AV w X v A) (hk : ∀ b, X b → b < w.heap.size → Y b) : AV w Y v A := by
  obtain ⟨am, cm, al, cl, e, h1, h2⟩ := h
  exact ⟨am, cm, al, cl, e, h1.mono hk, h2.mono hk⟩
theorem AV.ex {w w' : World} {O : Nat} {X : Nat → Prop} {v : Value} {A : Au} (h : AV w X v A) (he : Ex O w w') (hX : ∀ b, X b → b ≠ O) : AV w' X v A := by
  obtain ⟨am, cm, al, cl, e, h1, h2⟩ := h
  exact ⟨am, cm, al, cl, e, h1.ex he hX, h2.ex he hX⟩
/-- What a call that makes an automaton tells. -/
def MkA (A : Au) (w : World) (e : Ending) (w' : World) : Prop := ∃ am cm al cl, e = .returned (.agg #[.int .i64 A.st, .slice am A.mv.length cm, .slice al A.la.length cl]) ∧ SlV w' (fun b => w.heap.size ≤ b) am A.mv ∧ PV w' (fun b => w.heap.size ≤ b) (.slice al A.la.length cl) A.la ∧ Below w.heap.size w w'
theorem set3_ex {w : World} (R : Nat) (u0 u1 u2 : Value) : Ex R w (((w.setCell ⟨R, 0, none⟩ u0).setCell ⟨R, 1, none⟩ u1).setCell ⟨R, 2, none⟩ u2) := (((Ex.refl R w).set 0 u0).set 1 u1).set 2 u2
set_option maxHeartbeats 2000000 in
theorem sum_any (A B : Au) (hA : OkAu 8 40 A) (hB : OkAu 8 40 B) (va vb : Value) (w : World) (X : Nat → Prop) (hva : AV w X va A) (hvb : AV w X vb B) :
    Calls Try.prog 32 #[va, vb] w fun e w' => MkA (smA A B) w e w' := by
  have hmf : ∀ (fn : Fn) (first cap : Array Value) (w : World), (Instr.makeFunc fn first cap).run Try.prog w = .ok (.func fn first cap) w := fun _ _ _ _ => rfl
  have HVA := hide (hva.mono (Y := fun b => b < w.heap.size) fun _ _ h => h)
  have HVB := hide (hvb.mono (Y := fun b => b < w.heap.size) fun _ _ h => h)
  obtain ⟨am, cm, al, cl, rfl, _, _⟩ := hva
  obtain ⟨bm, dm, bl, dl, rfl, _, _⟩ := hvb
  have ha1 := hA.st
  have ha2 := hA.pos
  have hb1 := hB.st
  have hb2 := hB.pos
  have hwr : IntKind.i64.wrap (A.st + B.st) = A.st + B.st := by rw [IntKind.wrap_i64]; omega
  generalize hW : ((((w.alloc (.cells #[.int .i64 A.st, .slice am A.mv.length cm, .slice al A.la.length cl] 25)).alloc (.cells #[.int .i64 B.st, .slice bm B.mv.length dm, .slice bl B.la.length dl] 25)).alloc (.cells #[.int .i64 0, .slice none 0 0, .slice none 0 0] 25)).alloc (.cells #[.int .i64 (A.st + B.st), .slice none 0 0, .slice none 0 0] 25)) = w4
  have hz4 : w4.heap.size = w.heap.size + 4 := by rw [← hW]; simp
  have B4 : Hid (Below w.heap.size w w4) := by unfold Hid; rw [← hW]; exact ((((Below.refl _ _).alloc (Nat.le_refl _) _).alloc (by simp) _).alloc (by simp; omega) _).alloc (by simp; omega) _
  have A4 : Hid (Blk w4 w.heap.size #[.int .i64 A.st, .slice am A.mv.length cm, .slice al A.la.length cl] 25) := by unfold Hid; rw [← hW]; exact (((Blk.new w _ _).alloc _).alloc _).alloc _
  have C4 : Hid (Blk w4 (w.heap.size + 1) #[.int .i64 B.st, .slice bm B.mv.length dm, .slice bl B.la.length dl] 25) := by
    unfold Hid; rw [← hW]
    have h := ((Blk.new (w.alloc (.cells #[.int .i64 A.st, .slice am A.mv.length cm, .slice al A.la.length cl] 25)) #[.int .i64 B.st, .slice bm B.mv.length dm, .slice bl B.la.length dl] 25).alloc (.cells #[.int .i64 0, .slice none 0 0, .slice none 0 0] 25)).alloc (.cells #[.int .i64 (A.st + B.st), .slice none 0 0, .slice none 0 0] 25)
    rw [World.size_alloc] at h
    exact h
  have R4 : Hid (Blk w4 (w.heap.size + 1 + 1) #[.int .i64 0, .slice none 0 0, .slice none 0 0] 25) := by
    unfold Hid; rw [← hW]
    have h := (Blk.new ((w.alloc (.cells #[.int .i64 A.st, .slice am A.mv.length cm, .slice al A.la.length cl] 25)).alloc (.cells #[.int .i64 B.st, .slice bm B.mv.length dm, .slice bl B.la.length dl] 25)) #[.int .i64 0, .slice none 0 0, .slice none 0 0] 25).alloc (.cells #[.int .i64 (A.st + B.st), .slice none 0 0, .slice none 0 0] 25)
    rw [World.size_alloc, World.size_alloc] at h
    exact h
  have O4 : Hid (Blk w4 (w.heap.size + 1 + 1 + 1) #[.int .i64 (A.st + B.st), .slice none 0 0, .slice none 0 0] 25) := by
    unfold Hid; rw [← hW]
    have h := Blk.new (((w.alloc (.cells #[.int .i64 A.st, .slice am A.mv.length cm, .slice al A.la.length cl] 25)).alloc (.cells #[.int .i64 B.st, .slice bm B.mv.length dm, .slice bl B.la.length dl] 25)).alloc (.cells #[.int .i64 0, .slice none 0 0, .slice none 0 0] 25)) #[.int .i64 (A.st + B.st), .slice none 0 0, .slice none 0 0] 25
    rw [World.size_alloc, World.size_alloc, World.size_alloc] at h
    exact h
  have HW := hide hW
  have HZ4 := hide hz4
  clear hW hz4
  have HA := hide hA
  have HB := hide hB
  go_enter Try.func32, Try.ntmps32
  go_upto_region 2 with fail
  rw [HW.out]
  have HNE : Hid (w.heap.size < w.heap.size + 1 ∧ w.heap.size + 1 < w.heap.size + 1 + 1 ∧ w.heap.size + 1 + 1 < w.heap.size + 1 + 1 + 1 ∧ w.heap.size + 1 + 1 + 1 < w4.heap.size) := by have := HZ4.out; unfold Hid; omega
  clear HZ4 HW
  generalize w.heap.size + 1 + 1 + 1 = O at *
  generalize w.heap.size + 1 + 1 = R at *
  generalize w.heap.size + 1 = Q at *
  have VA4 : Hid (AV w4 (fun b => b ≠ O) (.agg #[.int .i64 A.st, .slice am A.mv.length cm, .slice al A.la.length cl]) A) := (HVA.out.later B4.out).mono fun b h _ => by have := HNE.out; omega
  have VB4 : Hid (AV w4 (fun b => b ≠ O) (.agg #[.int .i64 B.st, .slice bm B.mv.length dm, .slice bl B.la.length dl]) B) := (HVB.out.later B4.out).mono fun b h _ => by have := HNE.out; omega
  have a0 : w4.cell? ⟨w.heap.size, 0, none⟩ = some (.int .i64 A.st) := A4.out.cell 0
  have a1 : w4.cell? ⟨w.heap.size, 1, none⟩ = some (.slice am A.mv.length cm) := A4.out.cell 1
  have a2 : w4.cell? ⟨w.heap.size, 2, none⟩ = some (.slice al A.la.length cl) := A4.out.cell 2
  have al4 := A4.out.lt
  go_wp2_with fail
  refine (sumAdd_any A HA.out 0 (by omega) _ w4 w4 O (A.st + B.st) [] [] (.slice none 0 0) (.slice none 0 0) [] (fun _ => False) VA4.out (Ex.refl O w4) (OutA.start O4.out) (by simp) (by simp)).mono ?_
  rintro e w5 ⟨rfl, mv, lv, xs, X1, ho, he⟩
  have HO := hide ho
  have HE := hide he
  have A5 := hide (A4.out.ex he (by have := HNE.out; omega))
  have C5 := hide (C4.out.ex he (by have := HNE.out; omega))
  have HLM : Hid (([] ++ A.mv.map (shMv 0)).length ≤ 1000 ∧ ([] ++ (lastO A).map (0 + ·)).length ≤ 1000) := by
    have h1 := HA.out.len
    have h2 := lastO_len A
    unfold Hid
    simp only [List.nil_append, List.length_map]
    omega
  clear ho he a0 a1 a2 al4
  have a0 : w5.cell? ⟨w.heap.size, 0, none⟩ = some (.int .i64 A.st) := A5.out.cell 0
  have al4 := A5.out.lt
  have b0 : w5.cell? ⟨Q, 0, none⟩ = some (.int .i64 B.st) := C5.out.cell 0
  have b1 : w5.cell? ⟨Q, 1, none⟩ = some (.slice bm B.mv.length dm) := C5.out.cell 1
  have b2 : w5.cell? ⟨Q, 2, none⟩ = some (.slice bl B.la.length dl) := C5.out.cell 2
  have bl4 := C5.out.lt
  go_wp2_with fail
  refine (sumAdd_any B HB.out A.st ⟨ha2, ha1⟩ _ w4 w5 O (A.st + B.st) _ _ mv lv xs X1 VB4.out HE.out HO.out HLM.out.1 HLM.out.2).mono ?_
  rintro e w6 ⟨rfl, mv2, lv2, xs2, X2, ho2, he2⟩
  have hav := ho2.av
  obtain ⟨am', cm', al', cl', e9, h9, k9⟩ := hav
  simp only [Value.agg.injEq, Array.mk.injEq, List.cons.injEq, and_true, true_and] at e9
  obtain ⟨rfl, rfl⟩ := e9
  have HSL : Hid (SlV w6 (fun b => w4.heap.size ≤ b) am' (smA A B).mv) := h9
  have HPL : Hid (PV w6 (fun b => w4.heap.size ≤ b) (.slice al' (smA A B).la.length cl') (smA A B).la) := k9
  have O6 : Hid (Blk w6 O #[.int .i64 (A.st + B.st), .slice am' (smA A B).mv.length cm', .slice al' (smA A B).la.length cl'] 25) := ho2.blk
  have R6 := hide (R4.out.ex he2 (by have := HNE.out; omega))
  have HE6 := hide he2
  generalize hn1 : (smA A B).mv.length = n1 at *
  generalize hn2 : (smA A B).la.length = n2 at *
  have HN1 := hide hn1
  have HN2 := hide hn2
  clear ho2 he2 h9 k9 hn1 hn2 a0 al4 b0 b1 b2 bl4
  have x0 : w6.cell? ⟨O, 0, none⟩ = some (.int .i64 (A.st + B.st)) := O6.out.cell 0
  have x1 : w6.cell? ⟨O, 1, none⟩ = some (.slice am' n1 cm') := O6.out.cell 1
  have x2 : w6.cell? ⟨O, 2, none⟩ = some (.slice al' n2 cl') := O6.out.cell 2
  have xl := O6.out.lt
  have r0 : w6.cell? ⟨R, 0, none⟩ = some (.int .i64 0) := R6.out.cell 0
  have r1 : w6.cell? ⟨R, 1, none⟩ = some (.slice none 0 0) := R6.out.cell 1
  have r2 : w6.cell? ⟨R, 2, none⟩ = some (.slice none 0 0) := R6.out.cell 2
  have rl := R6.out.lt
  have rf := R6.out.frozen
  go_wp2_with fail
  refine bodyPost_ret (v := .agg #[.int .i64 (A.st + B.st), .slice am' n1 cm', .slice al' n2 cl']) (by simp [results, Try.results32, go_sem, World.cell?_setCell_same, World.cell?_setCell_other, r0, r1, r2]) rfl ?_
  have hex := set3_ex (w := w6) R (.int .i64 (A.st + B.st)) (.slice am' n1 cm') (.slice al' n2 cl')
  refine ⟨am', cm', al', cl', by rw [HN1.out, HN2.out]; rfl, ?_, ?_, ?_⟩
  · exact (HSL.out.ex hex (fun b hb => by have := HNE.out; omega)).mono fun b hb _ => Nat.le_trans B4.out.size hb
  · rw [HN2.out]
    exact (HPL.out.ex hex (fun b hb => by have := HNE.out; omega)).mono fun b hb _ => Nat.le_trans B4.out.size hb
  · have h1 := HE6.out.trans (Ex.refl O w6)
    refine ⟨hex.os.trans (h1.os.trans B4.out.os), hex.tape.trans (h1.tape.trans B4.out.tape), hex.output.trans (h1.output.trans B4.out.output), Nat.le_trans B4.out.size (Nat.le_trans h1.size hex.size), fun q hq => ?_⟩
    have hz := B4.out.size
    have hz2 := h1.size
    rw [hex.block q (by omega) (by have := HNE.out; omega), h1.block q (by omega) (by have := HNE.out; omega), B4.out.block q hq]
end Go.Proofs.Ytfodgmnnjgcpgaa

/- Walks: Either, and what is asked first. -/
namespace Go.Proofs.Ytfodgmnnjgcpgaa
open Go.RowKit
set_option linter.unusedSimpArgs false
set_option linter.unusedVariables false
set_option maxRecDepth 8000

end Go.Proofs.Ytfodgmnnjgcpgaa

/- Walks: Either. -/
namespace Go.Proofs.Ytfodgmnnjgcpgaa
open Go.RowKit
set_option linter.unusedSimpArgs false
set_option linter.unusedVariables false
set_option maxRecDepth 8000

end Go.Proofs.Ytfodgmnnjgcpgaa
