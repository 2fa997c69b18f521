/- Several texts in one. -/
import Derived.Test.YtofebfjkodceeaaAu6
namespace Go.Proofs.Ytofebfjkodceeaa
open Go.RowKit
set_option linter.unusedSimpArgs false
set_option linter.unusedVariables false
set_option maxRecDepth 8000
theorem AV.mono {w : World} {X Y : Nat → Prop} {v : Value} {A : Au} (h : AV w X v A) (hk : ∀ b, X b → b < w.heap.size → Y b) : AV w Y v A := by
 obtain ⟨am, cm, al, cl, e, h1, h2⟩ := h
 exact ⟨am, cm, al, cl, e, h1.mono hk, h2.mono hk⟩
theorem AV.ex {w w' : World} {O : Nat} {X : Nat → Prop} {v : Value} {A : Au} (h : AV w X v A) (he : Ex O w w') (hX : ∀ b, X b → b ≠ O) : AV w' X v A := by
 obtain ⟨am, cm, al, cl, e, h1, h2⟩ := h
 exact ⟨am, cm, al, cl, e, h1.ex he hX, h2.ex he hX⟩
def MkA (A : Au) (w : World) (e : Ending) (w' : World) : Prop := ∃ am cm al cl, e = .returned (.agg #[.int .i64 A.st, .slice am A.mv.length cm, .slice al A.la.length cl]) ∧ SlV w' (fun b => w.heap.size ≤ b) am A.mv ∧ PV w' (fun b => w.heap.size ≤ b) (.slice al A.la.length cl) A.la ∧ Below w.heap.size w w'
theorem set3_ex {w : World} (R : Nat) (u0 u1 u2 : Value) : Ex R w (((w.setCell ⟨R, 0, none⟩ u0).setCell ⟨R, 1, none⟩ u1).setCell ⟨R, 2, none⟩ u2) := (((Ex.refl R w).set 0 u0).set 1 u1).set 2 u2
set_option maxHeartbeats 2000000 in
theorem sum_any (A B : Au) (hA : OkAu 8 40 A) (hB : OkAu 8 40 B) (va vb : Value) (w : World) (X : Nat → Prop) (hva : AV w X va A) (hvb : AV w X vb B) :
  Calls Try.prog 52 #[va, vb] w fun e w' => MkA (smA A B) w e w' := by
 have hmf : ∀ (fn : Fn) (first cap : Array Value) (w : World), (Instr.makeFunc fn first cap).run Try.prog w = .ok (.func fn first cap) w := fun _ _ _ _ => rfl
 have HVA := hide (hva.mono (Y := fun b => b < w.heap.size) fun _ _ h => h)
 have HVB := hide (hvb.mono (Y := fun b => b < w.heap.size) fun _ _ h => h)
 obtain ⟨am, cm, al, cl, rfl, _, _⟩ := hva
 obtain ⟨bm, dm, bl, dl, rfl, _, _⟩ := hvb
 have ha1 := hA.st
 have ha2 := hA.pos
 have hb1 := hB.st
 have hb2 := hB.pos
 have hwr : IntKind.i64.wrap (A.st + B.st) = A.st + B.st := by rw [IntKind.wrap_i64]; omega
 generalize hW : ((((w.alloc (.cells #[.int .i64 A.st, .slice am A.mv.length cm, .slice al A.la.length cl] 25)).alloc (.cells #[.int .i64 B.st, .slice bm B.mv.length dm, .slice bl B.la.length dl] 25)).alloc (.cells #[.int .i64 0, .slice none 0 0, .slice none 0 0] 25)).alloc (.cells #[.int .i64 (A.st + B.st), .slice none 0 0, .slice none 0 0] 25)) = w4
 have hz4 : w4.heap.size = w.heap.size + 4 := by rw [← hW]; simp
 have B4 : Hid (Below w.heap.size w w4) := by unfold Hid; rw [← hW]; exact ((((Below.refl _ _).alloc (Nat.le_refl _) _).alloc (by simp) _).alloc (by simp; omega) _).alloc (by simp; omega) _
 have A4 : Hid (Blk w4 w.heap.size #[.int .i64 A.st, .slice am A.mv.length cm, .slice al A.la.length cl] 25) := by unfold Hid; rw [← hW]; exact (((Blk.new w _ _).alloc _).alloc _).alloc _
 have C4 : Hid (Blk w4 (w.heap.size + 1) #[.int .i64 B.st, .slice bm B.mv.length dm, .slice bl B.la.length dl] 25) := by
  unfold Hid; rw [← hW]
  have h := ((Blk.new (w.alloc (.cells #[.int .i64 A.st, .slice am A.mv.length cm, .slice al A.la.length cl] 25)) #[.int .i64 B.st, .slice bm B.mv.length dm, .slice bl B.la.length dl] 25).alloc (.cells #[.int .i64 0, .slice none 0 0, .slice none 0 0] 25)).alloc (.cells #[.int .i64 (A.st + B.st), .slice none 0 0, .slice none 0 0] 25)
  rw [World.size_alloc] at h
  exact h
 have R4 : Hid (Blk w4 (w.heap.size + 1 + 1) #[.int .i64 0, .slice none 0 0, .slice none 0 0] 25) := by
  unfold Hid; rw [← hW]
  have h := (Blk.new ((w.alloc (.cells #[.int .i64 A.st, .slice am A.mv.length cm, .slice al A.la.length cl] 25)).alloc (.cells #[.int .i64 B.st, .slice bm B.mv.length dm, .slice bl B.la.length dl] 25)) #[.int .i64 0, .slice none 0 0, .slice none 0 0] 25).alloc (.cells #[.int .i64 (A.st + B.st), .slice none 0 0, .slice none 0 0] 25)
  rw [World.size_alloc, World.size_alloc] at h
  exact h
 have O4 : Hid (Blk w4 (w.heap.size + 1 + 1 + 1) #[.int .i64 (A.st + B.st), .slice none 0 0, .slice none 0 0] 25) := by
  unfold Hid; rw [← hW]
  have h := Blk.new (((w.alloc (.cells #[.int .i64 A.st, .slice am A.mv.length cm, .slice al A.la.length cl] 25)).alloc (.cells #[.int .i64 B.st, .slice bm B.mv.length dm, .slice bl B.la.length dl] 25)).alloc (.cells #[.int .i64 0, .slice none 0 0, .slice none 0 0] 25)) #[.int .i64 (A.st + B.st), .slice none 0 0, .slice none 0 0] 25
  rw [World.size_alloc, World.size_alloc, World.size_alloc] at h
  exact h
 have HW := hide hW
 have HZ4 := hide hz4
 clear hW hz4
 have HA := hide hA
 have HB := hide hB
 go_enter Try.func52, Try.ntmps52
 go_upto_region 2 with fail
 rw [HW.out]
 have HNE : Hid (w.heap.size < w.heap.size + 1 ∧ w.heap.size + 1 < w.heap.size + 1 + 1 ∧ w.heap.size + 1 + 1 < w.heap.size + 1 + 1 + 1 ∧ w.heap.size + 1 + 1 + 1 < w4.heap.size) := by have := HZ4.out; unfold Hid; omega
 clear HZ4 HW
 generalize w.heap.size + 1 + 1 + 1 = O at *
 generalize w.heap.size + 1 + 1 = R at *
 generalize w.heap.size + 1 = Q at *
 have VA4 : Hid (AV w4 (fun b => b ≠ O) (.agg #[.int .i64 A.st, .slice am A.mv.length cm, .slice al A.la.length cl]) A) := (HVA.out.later B4.out).mono fun b h _ => by have := HNE.out; omega
 have VB4 : Hid (AV w4 (fun b => b ≠ O) (.agg #[.int .i64 B.st, .slice bm B.mv.length dm, .slice bl B.la.length dl]) B) := (HVB.out.later B4.out).mono fun b h _ => by have := HNE.out; omega
 have a0 : w4.cell? ⟨w.heap.size, 0, none⟩ = some (.int .i64 A.st) := A4.out.cell 0
 have a1 : w4.cell? ⟨w.heap.size, 1, none⟩ = some (.slice am A.mv.length cm) := A4.out.cell 1
 have a2 : w4.cell? ⟨w.heap.size, 2, none⟩ = some (.slice al A.la.length cl) := A4.out.cell 2
 have al4 := A4.out.lt
 go_wp2_with fail
 refine (sumAdd_any A HA.out 0 (by omega) _ w4 w4 O (A.st + B.st) [] [] (.slice none 0 0) (.slice none 0 0) [] (fun _ => False) VA4.out (Ex.refl O w4) (OutA.start O4.out) (by simp) (by simp)).mono ?_
 rintro e w5 ⟨rfl, mv, lv, xs, X1, ho, he⟩
 have HO := hide ho
 have HE := hide he
 have A5 := hide (A4.out.ex he (by have := HNE.out; omega))
 have C5 := hide (C4.out.ex he (by have := HNE.out; omega))
 have HLM : Hid (([] ++ A.mv.map (shMv 0)).length ≤ 1000 ∧ ([] ++ (lastO A).map (0 + ·)).length ≤ 1000) := by
  have h1 := HA.out.len
  have h2 := lastO_len A
  unfold Hid
  simp only [List.nil_append, List.length_map]
  omega
 clear ho he a0 a1 a2 al4
 have a0 : w5.cell? ⟨w.heap.size, 0, none⟩ = some (.int .i64 A.st) := A5.out.cell 0
 have al4 := A5.out.lt
 have b0 : w5.cell? ⟨Q, 0, none⟩ = some (.int .i64 B.st) := C5.out.cell 0
 have b1 : w5.cell? ⟨Q, 1, none⟩ = some (.slice bm B.mv.length dm) := C5.out.cell 1
 have b2 : w5.cell? ⟨Q, 2, none⟩ = some (.slice bl B.la.length dl) := C5.out.cell 2
 have bl4 := C5.out.lt
 go_wp2_with fail
 refine (sumAdd_any B HB.out A.st ⟨ha2, ha1⟩ _ w4 w5 O (A.st + B.st) _ _ mv lv xs X1 VB4.out HE.out HO.out HLM.out.1 HLM.out.2).mono ?_
 rintro e w6 ⟨rfl, mv2, lv2, xs2, X2, ho2, he2⟩
 have hav := ho2.av
 obtain ⟨am', cm', al', cl', e9, h9, k9⟩ := hav
 simp only [Value.agg.injEq, Array.mk.injEq, List.cons.injEq, and_true, true_and] at e9
 obtain ⟨rfl, rfl⟩ := e9
 have HSL : Hid (SlV w6 (fun b => w4.heap.size ≤ b) am' (smA A B).mv) := h9
 have HPL : Hid (PV w6 (fun b => w4.heap.size ≤ b) (.slice al' (smA A B).la.length cl') (smA A B).la) := k9
 have O6 : Hid (Blk w6 O #[.int .i64 (A.st + B.st), .slice am' (smA A B).mv.length cm', .slice al' (smA A B).la.length cl'] 25) := ho2.blk
 have R6 := hide (R4.out.ex he2 (by have := HNE.out; omega))
 have HE6 := hide he2
 generalize hn1 : (smA A B).mv.length = n1 at *
 generalize hn2 : (smA A B).la.length = n2 at *
 have HN1 := hide hn1
 have HN2 := hide hn2
 clear ho2 he2 h9 k9 hn1 hn2 a0 al4 b0 b1 b2 bl4
 have x0 : w6.cell? ⟨O, 0, none⟩ = some (.int .i64 (A.st + B.st)) := O6.out.cell 0
 have x1 : w6.cell? ⟨O, 1, none⟩ = some (.slice am' n1 cm') := O6.out.cell 1
 have x2 : w6.cell? ⟨O, 2, none⟩ = some (.slice al' n2 cl') := O6.out.cell 2
 have xl := O6.out.lt
 have r0 : w6.cell? ⟨R, 0, none⟩ = some (.int .i64 0) := R6.out.cell 0
 have r1 : w6.cell? ⟨R, 1, none⟩ = some (.slice none 0 0) := R6.out.cell 1
 have r2 : w6.cell? ⟨R, 2, none⟩ = some (.slice none 0 0) := R6.out.cell 2
 have rl := R6.out.lt
 have rf := R6.out.frozen
 go_wp2_with fail
 refine bodyPost_ret (v := .agg #[.int .i64 (A.st + B.st), .slice am' n1 cm', .slice al' n2 cl']) (by simp [results, Try.results52, go_sem, World.cell?_setCell_same, World.cell?_setCell_other, r0, r1, r2]) rfl ?_
 have hex := set3_ex (w := w6) R (.int .i64 (A.st + B.st)) (.slice am' n1 cm') (.slice al' n2 cl')
 refine ⟨am', cm', al', cl', by rw [HN1.out, HN2.out]; rfl, ?_, ?_, ?_⟩
 ·exact (HSL.out.ex hex (fun b hb => by have := HNE.out; omega)).mono fun b hb _ => Nat.le_trans B4.out.size hb
 ·rw [HN2.out]
  exact (HPL.out.ex hex (fun b hb => by have := HNE.out; omega)).mono fun b hb _ => Nat.le_trans B4.out.size hb
 ·have h1 := HE6.out.trans (Ex.refl O w6)
  refine ⟨hex.os.trans (h1.os.trans B4.out.os), hex.tape.trans (h1.tape.trans B4.out.tape), hex.output.trans (h1.output.trans B4.out.output), Nat.le_trans B4.out.size (Nat.le_trans h1.size hex.size), fun q hq => ?_⟩
  have hz := B4.out.size
  have hz2 := h1.size
  rw [hex.block q (by omega) (by have := HNE.out; omega), h1.block q (by omega) (by have := HNE.out; omega), B4.out.block q hq]
def eachE (A B : Au) : Int := if auE 8 40 A = 0 then auE 8 40 B else auE 8 40 A
set_option maxHeartbeats 2000000 in
theorem checkEach_any (A B : Au) (am bm al bl : Option Addr) (cm dm cl dl P : Nat) (w : World) (X : Nat → Prop) (hva : AV w X (.agg #[.int .i64 A.st, .slice am A.mv.length cm, .slice al A.la.length cl]) A) (hvb : AV w X (.agg #[.int .i64 B.st, .slice bm B.mv.length dm, .slice bl B.la.length dl]) B)
  (hP : Blk w P #[.int .i64 A.st, .slice am A.mv.length cm, .slice al A.la.length cl, .int .i64 B.st, .slice bm B.mv.length dm, .slice bl B.la.length dl] 25) :
  Calls Try.prog 50 #[.slice (some ⟨P, 0, none⟩) 2 2] w fun e w' => e = .returned (.int .i64 (eachE A B)) ∧ Below w.heap.size w w' := by
 have HVA := hide hva
 have HVB := hide hvb
 have HP := hide hP
 clear hva hvb hP
 generalize hE : eachE A B = E
 unfold eachE at hE
 have HE := hide hE
 clear hE
 go_enter Try.func50, Try.ntmps50
 go_wp2_with fail
 go_loopw [8] (fun i wr => ∃ k : Nat, k ≤ 2 ∧ i = .int .i64 (k : Int) ∧ (1 ≤ k → auE 8 40 A = 0) ∧ (2 ≤ k → auE 8 40 B = 0) ∧ Below w.heap.size w wr) (fun i wr => 2 - (intOf i).toNat)
 case atStart => exact ⟨0, Nat.zero_le _, rfl, by simp, by simp, Below.refl _ _⟩
 case round =>
  obtain ⟨k, hk, rfl, h1, h2, hb⟩ := hrel
  obtain ⟨w2, rfl⟩ : ∃ w2, w2 = wr := ⟨_, rfl⟩
  have HB := hide hb
  have P2 := hide (HP.out.below hb HP.out.lt)
  have pl := P2.out.lt
  have H1 := hide h1
  have H2 := hide h2
  clear h1 h2
  match k, hk with
  | 0, _ =>
   have p0 : w2.cell? ⟨P, 0, none⟩ = some (.int .i64 A.st) := P2.out.cell 0
   have p1 : w2.cell? ⟨P, 1, none⟩ = some (.slice am A.mv.length cm) := P2.out.cell 1
   have p2 : w2.cell? ⟨P, 2, none⟩ = some (.slice al A.la.length cl) := P2.out.cell 2
   have V3 := hide ((HVA.out.later hb).later ((Below.refl w2.heap.size w2).alloc (Nat.le_refl _) (.cells #[.int .i64 A.st, .slice am A.mv.length cm, .slice al A.la.length cl] 25)))
   clear hb
   go_wp2_with fail
   refine (aCheck_any A _ _ _ (by exact V3.out)).mono ?_
   rintro e w3 ⟨rfl, hb3⟩
   have HB3 := hide ((HB.out.alloc HB.out.size (.cells #[.int .i64 A.st, .slice am A.mv.length cm, .slice al A.la.length cl] 25)).trans (hb3.mono (HB.out.alloc HB.out.size (.cells #[.int .i64 A.st, .slice am A.mv.length cm, .slice al A.la.length cl] 25)).size))
   clear hb3 p0 p1 p2
   by_cases h0 : auE 8 40 A = 0
   ·have H0 := hide h0
    rw [h0]
    clear h0
    go_wp2_with fail
    go_roundw
    case rel => exact ⟨1, by omega, rfl, fun _ => H0.out, fun h => by omega, HB3.out⟩
    case measure => simp [intOf]
   ·have hE : auE 8 40 A = E := by rw [← HE.out, if_neg h0]
    rw [hE] at h0 ⊢
    have hne : (E == 0) = false := by simpa using h0
    have hne2 : (E != 0) = true := by simpa using h0
    clear h0 hE
    go_wp2_with fail
    go_ret
    exact ⟨rfl, HB3.out⟩
  | 1, _ =>
   have p0 : w2.cell? ⟨P, 3, none⟩ = some (.int .i64 B.st) := P2.out.cell 3
   have p1 : w2.cell? ⟨P, 4, none⟩ = some (.slice bm B.mv.length dm) := P2.out.cell 4
   have p2 : w2.cell? ⟨P, 5, none⟩ = some (.slice bl B.la.length dl) := P2.out.cell 5
   have V3 := hide ((HVB.out.later hb).later ((Below.refl w2.heap.size w2).alloc (Nat.le_refl _) (.cells #[.int .i64 B.st, .slice bm B.mv.length dm, .slice bl B.la.length dl] 25)))
   have HEB : Hid (auE 8 40 B = E) := by unfold Hid; rw [← HE.out, if_pos (H1.out (Nat.le_refl _))]
   clear hb
   go_wp2_with fail
   refine (aCheck_any B _ _ _ (by exact V3.out)).mono ?_
   rintro e w3 ⟨rfl, hb3⟩
   have HB3 := hide ((HB.out.alloc HB.out.size (.cells #[.int .i64 B.st, .slice bm B.mv.length dm, .slice bl B.la.length dl] 25)).trans (hb3.mono (HB.out.alloc HB.out.size (.cells #[.int .i64 B.st, .slice bm B.mv.length dm, .slice bl B.la.length dl] 25)).size))
   clear hb3 p0 p1 p2
   rw [HEB.out]
   by_cases h0 : E = 0
   ·have H0 := hide h0
    rw [h0]
    clear h0
    go_wp2_with fail
    go_roundw
    case rel => exact ⟨2, by omega, rfl, fun _ => H1.out (Nat.le_refl _), fun _ => by rw [HEB.out, H0.out], HB3.out⟩
    case measure => simp [intOf]
   ·have hne : (E == 0) = false := by simpa using h0
    have hne2 : (E != 0) = true := by simpa using h0
    clear h0
    go_wp2_with fail
    go_ret
    exact ⟨rfl, HB3.out⟩
  | 2, _ =>
   have hE : E = 0 := by rw [← HE.out, if_pos (H1.out (by omega)), H2.out (Nat.le_refl _)]
   subst hE
   clear hb
   go_wp2_with fail
   go_ret
   exact ⟨rfl, HB.out⟩
def MkE (E : Int) (A : Au) (w : World) (e : Ending) (w' : World) : Prop :=
 Below w.heap.size w w' ∧ ((E = 0 ∧ ∃ am cm al cl, e = .returned (.tuple #[.agg #[.int .i64 A.st, .slice am A.mv.length cm, .slice al A.la.length cl], .int .i64 0]) ∧ SlV w' (fun _ => True) am A.mv ∧ PV w' (fun _ => True) (.slice al A.la.length cl) A.la) ∨ (E ≠ 0 ∧ e = .returned (.tuple #[.agg #[.int .i64 0, .slice none 0 0, .slice none 0 0], .int .i64 E])))
set_option maxHeartbeats 2000000 in
theorem either_any (A B : Au) (va vb : Value) (w : World) (X : Nat → Prop) (hva : AV w X va A) (hvb : AV w X vb B) :
  Calls Try.prog 25 #[va, vb] w fun e w' => MkE (eachE A B) (smA A B) w e w' := by
 obtain ⟨am, cm, al, cl, rfl, ham, hal⟩ := hva
 obtain ⟨bm, dm, bl, dl, rfl, hbm, hbl⟩ := hvb
 have HVA : Hid (AV w X (.agg #[.int .i64 A.st, .slice am A.mv.length cm, .slice al A.la.length cl]) A) := ⟨am, cm, al, cl, rfl, ham, hal⟩
 have HVB : Hid (AV w X (.agg #[.int .i64 B.st, .slice bm B.mv.length dm, .slice bl B.la.length dl]) B) := ⟨bm, dm, bl, dl, rfl, hbm, hbl⟩
 clear ham hal hbm hbl
 generalize hW : (((w.alloc (.cells #[.int .i64 A.st, .slice am A.mv.length cm, .slice al A.la.length cl] 25)).alloc (.cells #[.int .i64 B.st, .slice bm B.mv.length dm, .slice bl B.la.length dl] 25)).alloc (.cells #[.int .i64 0, .slice none 0 0, .slice none 0 0] 25)) = w3
 have hz3 : w3.heap.size = w.heap.size + 3 := by rw [← hW]; simp
 have B3 : Hid (Below w.heap.size w w3) := by unfold Hid; rw [← hW]; exact (((Below.refl _ _).alloc (Nat.le_refl _) _).alloc (by simp) _).alloc (by simp; omega) _
 have A3 : Hid (Blk w3 w.heap.size #[.int .i64 A.st, .slice am A.mv.length cm, .slice al A.la.length cl] 25) := by unfold Hid; rw [← hW]; exact ((Blk.new w _ _).alloc _).alloc _
 have C3 : Hid (Blk w3 (w.heap.size + 1) #[.int .i64 B.st, .slice bm B.mv.length dm, .slice bl B.la.length dl] 25) := by
  unfold Hid; rw [← hW]
  have h := (Blk.new (w.alloc (.cells #[.int .i64 A.st, .slice am A.mv.length cm, .slice al A.la.length cl] 25)) #[.int .i64 B.st, .slice bm B.mv.length dm, .slice bl B.la.length dl] 25).alloc (.cells #[.int .i64 0, .slice none 0 0, .slice none 0 0] 25)
  rw [World.size_alloc] at h
  exact h
 have R3 : Hid (Blk w3 (w.heap.size + 1 + 1) #[.int .i64 0, .slice none 0 0, .slice none 0 0] 25) := by
  unfold Hid; rw [← hW]
  have h := Blk.new ((w.alloc (.cells #[.int .i64 A.st, .slice am A.mv.length cm, .slice al A.la.length cl] 25)).alloc (.cells #[.int .i64 B.st, .slice bm B.mv.length dm, .slice bl B.la.length dl] 25)) #[.int .i64 0, .slice none 0 0, .slice none 0 0] 25
  rw [World.size_alloc, World.size_alloc] at h
  exact h
 have HW := hide hW
 have HZ3 := hide hz3
 clear hW hz3
 generalize hE : eachE A B = E
 have HE := hide hE
 clear hE
 go_enter Try.func25, Try.ntmps25
 go_upto_region 1 with fail
 rw [HW.out]
 have HNE : Hid (w.heap.size < w.heap.size + 1 ∧ w.heap.size + 1 < w.heap.size + 1 + 1 ∧ w.heap.size + 1 + 1 < w3.heap.size) := by have := HZ3.out; unfold Hid; omega
 clear HZ3 HW
 generalize w.heap.size + 1 + 1 = R at *
 generalize w.heap.size + 1 = Q at *
 have a0 : w3.cell? ⟨w.heap.size, 0, none⟩ = some (.int .i64 A.st) := A3.out.cell 0
 have a1 : w3.cell? ⟨w.heap.size, 1, none⟩ = some (.slice am A.mv.length cm) := A3.out.cell 1
 have a2 : w3.cell? ⟨w.heap.size, 2, none⟩ = some (.slice al A.la.length cl) := A3.out.cell 2
 have al4 := A3.out.lt
 have b0 : w3.cell? ⟨Q, 0, none⟩ = some (.int .i64 B.st) := C3.out.cell 0
 have b1 : w3.cell? ⟨Q, 1, none⟩ = some (.slice bm B.mv.length dm) := C3.out.cell 1
 have b2 : w3.cell? ⟨Q, 2, none⟩ = some (.slice bl B.la.length dl) := C3.out.cell 2
 have bl4 := C3.out.lt
 have K4 : Hid (Below w3.heap.size w3 (w3.alloc (.cells #[.int .i64 A.st, .slice am A.mv.length cm, .slice al A.la.length cl, .int .i64 B.st, .slice bm B.mv.length dm, .slice bl B.la.length dl] 25))) := (Below.refl _ _).alloc (Nat.le_refl _) _
 have VA4 := hide ((HVA.out.later B3.out).later K4.out)
 have VB4 := hide ((HVB.out.later B3.out).later K4.out)
 go_wp2_with fail
 refine (checkEach_any A B am bm al bl cm dm cl dl _ _ X (by exact VA4.out) (by exact VB4.out) (by exact Blk.new w3 _ _)).mono ?_
 rintro e w5 ⟨rfl, hb5⟩
 have K5 := hide (K4.out.trans (hb5.mono K4.out.size))
 have B5 := hide (B3.out.trans (K5.out.mono B3.out.size))
 have A5 := hide (A3.out.below K5.out A3.out.lt)
 have C5 := hide (C3.out.below K5.out C3.out.lt)
 have R5 := hide (R3.out.below K5.out R3.out.lt)
 rw [HE.out]
 clear hb5 a0 a1 a2 al4 b0 b1 b2 bl4 VA4 VB4
 have r0 : w5.cell? ⟨R, 0, none⟩ = some (.int .i64 0) := R5.out.cell 0
 have r1 : w5.cell? ⟨R, 1, none⟩ = some (.slice none 0 0) := R5.out.cell 1
 have r2 : w5.cell? ⟨R, 2, none⟩ = some (.slice none 0 0) := R5.out.cell 2
 have rl := R5.out.lt
 have rf := R5.out.frozen
 by_cases h0 : E = 0
 ·have HA : Hid (OkAu 8 40 A ∧ OkAu 8 40 B) := by
   have h1 := HE.out
   unfold eachE at h1
   by_cases h2 : auE 8 40 A = 0
   ·rw [if_pos h2] at h1
    exact ⟨auE_zero.1 h2, auE_zero.1 (by rw [h1, h0])⟩
   ·rw [if_neg h2] at h1
    exact absurd (by rw [h1, h0]) h2
  have H0 := hide h0
  rw [h0]
  clear h0 r0 r1 r2 rl rf
  have a0 : w5.cell? ⟨w.heap.size, 0, none⟩ = some (.int .i64 A.st) := A5.out.cell 0
  have a1 : w5.cell? ⟨w.heap.size, 1, none⟩ = some (.slice am A.mv.length cm) := A5.out.cell 1
  have a2 : w5.cell? ⟨w.heap.size, 2, none⟩ = some (.slice al A.la.length cl) := A5.out.cell 2
  have al4 := A5.out.lt
  have b0 : w5.cell? ⟨Q, 0, none⟩ = some (.int .i64 B.st) := C5.out.cell 0
  have b1 : w5.cell? ⟨Q, 1, none⟩ = some (.slice bm B.mv.length dm) := C5.out.cell 1
  have b2 : w5.cell? ⟨Q, 2, none⟩ = some (.slice bl B.la.length dl) := C5.out.cell 2
  have bl4 := C5.out.lt
  have VA5 := hide (HVA.out.later B5.out)
  have VB5 := hide (HVB.out.later B5.out)
  go_wp2_with fail
  refine (sum_any A B HA.out.1 HA.out.2 _ _ _ X (by exact VA5.out) (by exact VB5.out)).mono ?_
  rintro e w6 ⟨xm, ym, xl, yl, rfl, hsm, hsl, hb6⟩
  have R6 := hide (R5.out.below hb6 R5.out.lt)
  have HSM := hide hsm
  have HSL := hide hsl
  have B6 := hide (B5.out.trans (hb6.mono B5.out.size))
  have HS6 := hide hb6.size
  have HS5 : Hid (R < w5.heap.size) := R5.out.lt
  generalize hn0 : (smA A B).st = n0 at *
  generalize hn1 : (smA A B).mv.length = n1 at *
  generalize hn2 : (smA A B).la.length = n2 at *
  have HN0 := hide hn0
  have HN1 := hide hn1
  have HN2 := hide hn2
  clear hn0 hn1 hn2 hsm hsl hb6 a0 a1 a2 al4 b0 b1 b2 bl4
  have r0 : w6.cell? ⟨R, 0, none⟩ = some (.int .i64 0) := R6.out.cell 0
  have r1 : w6.cell? ⟨R, 1, none⟩ = some (.slice none 0 0) := R6.out.cell 1
  have r2 : w6.cell? ⟨R, 2, none⟩ = some (.slice none 0 0) := R6.out.cell 2
  have rl := R6.out.lt
  have rf := R6.out.frozen
  go_wp2_with fail
  refine bodyPost_ret (v := .tuple #[.agg #[.int .i64 n0, .slice xm n1 ym, .slice xl n2 yl], .int .i64 0]) (by simp [results, Try.results25, go_sem, World.cell?_setCell_same, World.cell?_setCell_other, r0, r1, r2]) rfl ?_
  have hex := set3_ex (w := w6) R (.int .i64 n0) (.slice xm n1 ym) (.slice xl n2 yl)
  refine ⟨?_, Or.inl ⟨H0.out, xm, ym, xl, yl, by rw [HN0.out, HN1.out, HN2.out], ?_, ?_⟩⟩
  ·exact ((B6.out.setCell (by have := HNE.out; simp; omega) _).setCell (by have := HNE.out; simp; omega) _).setCell (by have := HNE.out; simp; omega) _
  ·exact (HSM.out.ex hex (fun b hb => by have := HS5.out; omega)).mono fun _ _ _ => trivial
  ·rw [HN2.out]
   exact (HSL.out.ex hex (fun b hb => by have := HS5.out; omega)).mono fun _ _ _ => trivial
 ·have hne : (E == 0) = false := by simpa using h0
  have hne2 : (E != 0) = true := by simpa using h0
  have H0 := hide h0
  clear h0
  go_wp2_with fail
  refine bodyPost_ret (v := .tuple #[.agg #[.int .i64 0, .slice none 0 0, .slice none 0 0], .int .i64 E]) (by simp [results, Try.results25, go_sem, World.cell?_setCell_same, World.cell?_setCell_other, r0, r1, r2]) rfl ?_
  exact ⟨((B5.out.setCell (by have := HNE.out; simp; omega) _).setCell (by have := HNE.out; simp; omega) _).setCell (by have := HNE.out; simp; omega) _, Or.inr ⟨H0.out, rfl⟩⟩
end Go.Proofs.Ytofebfjkodceeaa
