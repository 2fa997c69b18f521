import Derived.Test.YtofebfjkodceeaaSq
import Derived.Test.YtofebfjkodceeaaAx3
import Derived.Test.YtofebfjkodceeaaAx4
import Derived.Test.YtofebfjkodceeaaZHAutoMadeOwn
import Derived.Test.YtofebfjkodceeaaZIAutoMadeOwn
namespace Go.Proofs.Ytofebfjkodceeaa
open Go.RowKit
set_option linter.unusedSimpArgs false
set_option linter.unusedVariables false
set_option maxRecDepth 8000
theorem auRow_two {w : World} {P : Nat} {A B : Au} {am bm al bl : Option Addr} {cm dm cl dl : Nat} {X : Nat → Prop} (hva : AV w X (.agg #[.int .i64 A.st, .slice am A.mv.length cm, .slice al A.la.length cl]) A) (hvb : AV w X (.agg #[.int .i64 B.st, .slice bm B.mv.length dm, .slice bl B.la.length dl]) B)
  (hP : Blk w P #[.int .i64 A.st, .slice am A.mv.length cm, .slice al A.la.length cl, .int .i64 B.st, .slice bm B.mv.length dm, .slice bl B.la.length dl] 25) : AuRow w X P [A, B] := by
 intro i hi
 obtain ⟨am', cm', al', cl', e1, h1, h2⟩ := hva
 obtain ⟨bm', dm', bl', dl', e2, h3, h4⟩ := hvb
 simp at e1 e2
 obtain ⟨⟨rfl, rfl⟩, rfl, rfl⟩ := e1
 obtain ⟨⟨rfl, rfl⟩, rfl, rfl⟩ := e2
 match i, hi with
 | 0, _ => exact ⟨am, cm, al, cl, hP.cell 0, hP.cell 1, hP.cell 2, h1, h2⟩
 | 1, _ => exact ⟨bm, dm, bl, dl, hP.cell 3, hP.cell 4, hP.cell 5, h3, h4⟩
theorem auRow_one {w : World} {P : Nat} {A : Au} {am al : Option Addr} {cm cl : Nat} {X : Nat → Prop} (hva : AV w X (.agg #[.int .i64 A.st, .slice am A.mv.length cm, .slice al A.la.length cl]) A)
  (hP : Blk w P #[.int .i64 A.st, .slice am A.mv.length cm, .slice al A.la.length cl] 25) : AuRow w X P [A] := by
 intro i hi
 obtain ⟨am', cm', al', cl', e1, h1, h2⟩ := hva
 simp at e1
 obtain ⟨⟨rfl, rfl⟩, rfl, rfl⟩ := e1
 match i, hi with
 | 0, _ => exact ⟨am, cm, al, cl, hP.cell 0, hP.cell 1, hP.cell 2, h1, h2⟩
noncomputable def wiB (A B : Au) : Bool := @decide (∀ t, accB A t = true → accB B t = true) (Classical.propDecidable _)
theorem wiB_iff {A B : Au} : wiB A B = true ↔ ∀ t, accB A t = true → accB B t = true := by unfold wiB; simp
def WiP (l : List Nat) (a b : Nat) : Prop := ∀ x ∈ l, x &&& a ≠ 0 → x &&& b ≠ 0
noncomputable def wiR (A B : Au) : Bool := if fewL [A, B] = 0 then wiB A B else false
theorem sm_ls {A B : Au} (hA : OkAu 8 40 A) (hB : OkAu 8 40 B) {p q : Nat} (hp : A.st = (p : Int)) (hq : B.st = (q : Int)) : MvsLs (p + q) (smA A B).mv := by
 have hAp := hA.pos
 have hBp := hB.pos
 intro m hm
 unfold smA at hm
 rcases List.mem_append.1 hm with hm | hm
 ·obtain ⟨m', hm', rfl⟩ := List.mem_map.1 hm
  have o := hA.mv m' hm'
  have o1 := o.to
  refine ⟨⟨by show 0 ≤ 0 + m'.to; omega, by show 0 + m'.to < _; omega⟩, fun z hz => ?_, by show (m'.frm.map (0 + ·)).length ≤ 4; rw [List.length_map]; exact o.len⟩
  obtain ⟨y, hy, rfl⟩ := List.mem_map.1 (show z ∈ m'.frm.map (0 + ·) from hz)
  have := o.frm y hy
  omega
 ·obtain ⟨m', hm', rfl⟩ := List.mem_map.1 hm
  have o := hB.mv m' hm'
  have o1 := o.to
  refine ⟨⟨by show 0 ≤ A.st + m'.to; omega, by show A.st + m'.to < _; omega⟩, fun z hz => ?_, by show (m'.frm.map (A.st + ·)).length ≤ 4; rw [List.length_map]; exact o.len⟩
  obtain ⟨y, hy, rfl⟩ := List.mem_map.1 (show z ∈ m'.frm.map (A.st + ·) from hz)
  have := o.frm y hy
  omega
theorem sm_sy {A B : Au} (hA : OkAu 8 40 A) (hB : OkAu 8 40 B) : ∀ m ∈ (smA A B).mv, SyOk (symM m) := by
 intro m hm
 unfold smA at hm
 rcases List.mem_append.1 hm with hm | hm
 ·obtain ⟨m', hm', rfl⟩ := List.mem_map.1 hm
  have := okMv_sy (hA.mv m' hm')
  exact ⟨this.1, by have h := this.2; show (m'.frm.map (0 + ·)).length ≤ _; rw [List.length_map]; exact h⟩
 ·obtain ⟨m', hm', rfl⟩ := List.mem_map.1 hm
  have := okMv_sy (hB.mv m' hm')
  exact ⟨this.1, by have h := this.2; show (m'.frm.map (A.st + ·)).length ≤ _; rw [List.length_map]; exact h⟩
theorem shl_ok {x p : Nat} (hx : x < 8) (hp : p ≤ 3) : IntKind.u64.wrap ((x : Int) * 2 ^ p) = ((x <<< p : Nat) : Int) := by
 rw [Nat.shiftLeft_eq, IntKind.wrap_u64]
 match p, hp with
 | 0, _ => simp; omega
 | 1, _ => simp; omega
 | 2, _ => simp; omega
 | 3, _ => simp; omega
theorem and_nz {x y : Nat} (hx : x < 18446744073709551616) (hy : y < 18446744073709551616) : (bits BinOp.and IntKind.u64 (x : Int) (y : Int) != 0) = decide (x &&& y ≠ 0) := by
 rw [u64_and_nat _ _ hx hy, Bool.eq_iff_iff]
 simp
theorem and_ez {x y : Nat} (hx : x < 18446744073709551616) (hy : y < 18446744073709551616) : (bits BinOp.and IntKind.u64 (x : Int) (y : Int) == 0) = decide (x &&& y = 0) := by
 rw [u64_and_nat _ _ hx hy, Bool.eq_iff_iff]
 simp
set_option maxHeartbeats 4000000 in
theorem within_any (A B : Au) (va vb : Value) (w : World) (X : Nat → Prop) (hva : AV w X va A) (hvb : AV w X vb B) :
  Calls Try.prog 29 #[va, vb] w fun e w' => e = .returned (.tuple #[.bool (wiR A B), .int .i64 (fewL [A, B])]) ∧ Below w.heap.size w w' := by
 obtain ⟨am, cm, al, cl, rfl, ham, hal⟩ := hva
 obtain ⟨bm, dm, bl, dl, rfl, hbm, hbl⟩ := hvb
 generalize hE : fewL [A, B] = E
 have HEE := hide hE
 clear hE
 have hAF := allocsX_facts [(.cells #[.int .i64 A.st, .slice am A.mv.length cm, .slice al A.la.length cl] 25 : Obj), (.cells #[.int .i64 B.st, .slice bm B.mv.length dm, .slice bl B.la.length dl] 25 : Obj), (.cells #[.int .i64 A.st, .slice am A.mv.length cm, .slice al A.la.length cl, .int .i64 B.st, .slice bm B.mv.length dm, .slice bl B.la.length dl] 25 : Obj)] w
 have eW : allocsX w [(.cells #[.int .i64 A.st, .slice am A.mv.length cm, .slice al A.la.length cl] 25 : Obj), (.cells #[.int .i64 B.st, .slice bm B.mv.length dm, .slice bl B.la.length dl] 25 : Obj), (.cells #[.int .i64 A.st, .slice am A.mv.length cm, .slice al A.la.length cl, .int .i64 B.st, .slice bm B.mv.length dm, .slice bl B.la.length dl] 25 : Obj)] = ((w.alloc (.cells #[.int .i64 A.st, .slice am A.mv.length cm, .slice al A.la.length cl] 25)).alloc (.cells #[.int .i64 B.st, .slice bm B.mv.length dm, .slice bl B.la.length dl] 25)).alloc (.cells #[.int .i64 A.st, .slice am A.mv.length cm, .slice al A.la.length cl, .int .i64 B.st, .slice bm B.mv.length dm, .slice bl B.la.length dl] 25) := rfl
 rw [eW] at hAF
 obtain ⟨hF1, hF2, hF3⟩ := hAF
 have KA : Hid (Blk (((w.alloc (.cells #[.int .i64 A.st, .slice am A.mv.length cm, .slice al A.la.length cl] 25)).alloc (.cells #[.int .i64 B.st, .slice bm B.mv.length dm, .slice bl B.la.length dl] 25)).alloc (.cells #[.int .i64 A.st, .slice am A.mv.length cm, .slice al A.la.length cl, .int .i64 B.st, .slice bm B.mv.length dm, .slice bl B.la.length dl] 25)) w.heap.size #[.int .i64 A.st, .slice am A.mv.length cm, .slice al A.la.length cl] 25) := hF3 0 _ rfl
 have KB : Hid (Blk (((w.alloc (.cells #[.int .i64 A.st, .slice am A.mv.length cm, .slice al A.la.length cl] 25)).alloc (.cells #[.int .i64 B.st, .slice bm B.mv.length dm, .slice bl B.la.length dl] 25)).alloc (.cells #[.int .i64 A.st, .slice am A.mv.length cm, .slice al A.la.length cl, .int .i64 B.st, .slice bm B.mv.length dm, .slice bl B.la.length dl] 25)) (w.heap.size + 1) #[.int .i64 B.st, .slice bm B.mv.length dm, .slice bl B.la.length dl] 25) := hF3 1 _ rfl
 have KP : Hid (Blk (((w.alloc (.cells #[.int .i64 A.st, .slice am A.mv.length cm, .slice al A.la.length cl] 25)).alloc (.cells #[.int .i64 B.st, .slice bm B.mv.length dm, .slice bl B.la.length dl] 25)).alloc (.cells #[.int .i64 A.st, .slice am A.mv.length cm, .slice al A.la.length cl, .int .i64 B.st, .slice bm B.mv.length dm, .slice bl B.la.length dl] 25)) (w.heap.size + 2) #[.int .i64 A.st, .slice am A.mv.length cm, .slice al A.la.length cl, .int .i64 B.st, .slice bm B.mv.length dm, .slice bl B.la.length dl] 25) := hF3 2 _ rfl
 have BW := hide hF1
 have AVW : Hid (∀ w', Below w.heap.size w w' → AV w' X (.agg #[.int .i64 A.st, .slice am A.mv.length cm, .slice al A.la.length cl]) A) := fun w' hb => ⟨am, cm, al, cl, rfl, ham.later hb, hal.later hb⟩
 have BVW : Hid (∀ w', Below w.heap.size w w' → AV w' X (.agg #[.int .i64 B.st, .slice bm B.mv.length dm, .slice bl B.la.length dl]) B) := fun w' hb => ⟨bm, dm, bl, dl, rfl, hbm.later hb, hbl.later hb⟩
 have HLA := hide hal
 have HLB := hide hbl
 have hl1 := ham.1
 have hl2 := hbm.1
 have c0 := (Blk.new w #[.int .i64 A.st, .slice am A.mv.length cm, .slice al A.la.length cl] 25).cell 0
 clear eW hF1 hF2 hF3 ham hal hbm hbl c0
 go_enter Try.func29, Try.ntmps29
 go_wp2_with fail
 try rw [show w.heap.size + 1 + 1 = w.heap.size + 2 from rfl]
 generalize (((w.alloc (.cells #[.int .i64 A.st, .slice am A.mv.length cm, .slice al A.la.length cl] 25)).alloc (.cells #[.int .i64 B.st, .slice bm B.mv.length dm, .slice bl B.la.length dl] 25)).alloc (.cells #[.int .i64 A.st, .slice am A.mv.length cm, .slice al A.la.length cl, .int .i64 B.st, .slice bm B.mv.length dm, .slice bl B.la.length dl] 25)) = w3 at *
 refine (checkFew_any [A, B] (by simp) (w.heap.size + 2) w3 X (auRow_two (AVW.out _ BW.out) (BVW.out _ BW.out) KP.out) KP.out.lt).mono ?_
 rintro e w4 ⟨rfl, hb4⟩
 have B4 := hide (BW.out.trans (hb4.mono BW.out.size))
 have KA4 := hide (KA.out.below hb4 KA.out.lt)
 have KB4 := hide (KB.out.below hb4 KB.out.lt)
 clear hb4 KA KB KP BW
 rw [HEE.out]
 by_cases h0 : E = 0
 case neg =>
  have HR : Hid (wiR A B = false) := if_neg (by rw [HEE.out]; exact h0)
  have hne : (E == 0) = false := by simpa using h0
  have hne2 : (E != 0) = true := by simpa using h0
  clear h0
  go_wp2_with fail
  go_ret2
  exact ⟨by rw [HR.out]; rfl, B4.out⟩
 case pos =>
 subst h0
 have h0 := HEE.out
 have HR : Hid (wiR A B = wiB A B) := if_pos h0
 have OKS := fewL_zero h0
 obtain ⟨OA, sA⟩ := OKS A (by simp)
 obtain ⟨OB, sB⟩ := OKS B (by simp)
 clear h0 OKS
 unfold smB at sA sB
 rw [Bool.and_eq_true, decide_eq_true_eq] at sA sB
 obtain ⟨p, hp⟩ : ∃ p : Nat, A.st = (p : Int) := ⟨A.st.toNat, by have := OA.pos; omega⟩
 obtain ⟨q, hq⟩ : ∃ q : Nat, B.st = (q : Int) := ⟨B.st.toNat, by have := OB.pos; omega⟩
 have hp3 : p ≤ 3 := by omega
 have hq3 : q ≤ 3 := by omega
 have HOA := hide OA
 have HOB := hide OB
 have HP := hide hp
 have HQ := hide hq
 have HLL : Hid (∀ z ∈ A.la, 0 ≤ z ∧ z < 64) := fun z hz => by have := OA.la z hz; omega
 have HRR : Hid (∀ z ∈ B.la, 0 ≤ z ∧ z < 64) := fun z hz => by have := OB.la z hz; omega
 have XL : Hid (setN A.la < 8) := by
  have h : setN A.la < 2 ^ 3 := setN_ltK fun z hz => by have := OA.la z hz; omega
  exact h
 have XR : Hid (setN B.la < 8) := by
  have h : setN B.la < 2 ^ 3 := setN_ltK fun z hz => by have := OB.la z hz; omega
  exact h
 obtain ⟨R, hR⟩ : ∃ R, R = setN B.la <<< p := ⟨_, rfl⟩
 have SH : Hid (IntKind.u64.wrap ((setN B.la : Int) * 2 ^ p) = (R : Int)) := by rw [hR]; exact shl_ok XR.out hp3
 have SR : Hid (R < 64) := by
  unfold Hid
  rw [hR, Nat.shiftLeft_eq]
  have h1 := XR.out
  have h2 : 2 ^ p ≤ 2 ^ 3 := Nat.pow_le_pow_right (by decide) hp3
  have h3 : setN B.la * 2 ^ p ≤ 7 * 8 := Nat.mul_le_mul (by omega) h2
  omega
 have HIFF : Hid (∀ all, EndsOk (smA A B).mv (p + q) all → (WiP all (setN A.la) R ↔ ∀ t, accB A t = true → accB B t = true)) := fun all h => by rw [hR]; exact within_iff (all := all) OA OB hp hq h
 clear hR
 have HML : Hid ((smA A B).mv.length ≤ 1000) := by have h1 := OA.len; have h2 := OB.len; unfold Hid smA; simp; omega
 have HSY := hide (sm_sy OA OB)
 have HLS := hide (sm_ls OA OB hp hq)
 clear OA OB sA sB hq
 rw [hp] at KA4
 clear hp
 have KPS : Hid (∀ w', Below w4.heap.size w4 w' → w'.cell? ⟨w.heap.size, 0, none⟩ = some (.int .i64 (p : Int)) ∧ w'.cell? ⟨w.heap.size, 2, none⟩ = some (.slice al A.la.length cl) ∧ w'.cell? ⟨w.heap.size + 1, 2, none⟩ = some (.slice bl B.la.length dl)) := fun w' hb =>
  ⟨(KA4.out.below hb KA4.out.lt).cell 0, (KA4.out.below hb KA4.out.lt).cell 2, (KB4.out.below hb KB4.out.lt).cell 2⟩
 have kd : Below w4.heap.size w4 w4.drew := (Below.refl _ _).drew
 have UP : Hid (∀ w', Below w4.heap.size w4 w' → Below w.heap.size w w') := fun w' hb => B4.out.trans (hb.mono B4.out.size)
 go_upto_region 4 with fail
 refine wp_region_held_drew (S := Below w4.heap.size w4) (by kernel_rfl) kd (fun hHeld => ?_)
 generalize w4.drew = w5 at *
 refine tkq (v := ?_) 0 rfl ?_ ?_
 rotate_left
 ·intro w' hSw
  go_simp <;> with_reducible rfl
 try simp only [Act.put, sqA, sqB, sqC, sqD, sqE, sqF]
 refine tkq (v := ?_) 1 rfl ?_ ?_
 rotate_left
 ·intro w' hSw
  obtain ⟨x0, x1, x2⟩ := KPS.out w' hSw
  go_simp <;> with_reducible rfl
 try simp only [Act.put, sqA, sqB, sqC, sqD, sqE, sqF]
 refine tkq (v := ?_) 3 rfl ?_ ?_
 rotate_left
 ·intro w' hSw
  go_simp <;> with_reducible rfl
 try simp only [Act.put, sqA, sqB, sqC, sqD, sqE, sqF]
 refine tkq (v := ?_) 4 rfl ?_ ?_
 rotate_left
 ·intro w' hSw
  obtain ⟨x0, x1, x2⟩ := KPS.out w' hSw
  go_simp <;> with_reducible rfl
 try simp only [Act.put, sqA, sqB, sqC, sqD, sqE, sqF]
 refine tkq (v := ?_) 6 rfl ?_ ?_
 rotate_left
 ·intro w' hSw
  go_simp <;> with_reducible rfl
 try simp only [Act.put, sqA, sqB, sqC, sqD, sqE, sqF]
 refine tkq (v := ?_) 7 rfl ?_ ?_
 rotate_left
 ·intro w' hSw
  obtain ⟨x0, x1, x2⟩ := KPS.out w' hSw
  go_simp <;> with_reducible rfl
 try simp only [Act.put, sqA, sqB, sqC, sqD, sqE, sqF]
 refine rdq 2 rfl fun K hK => ?_
 go_simp
 go_at_call 42
 refine (setOf_any A.la HLL.out _ _ X (HLA.out.later (UP.out _ kd))).mono ?_
 rintro e w5 ⟨rfl, rfl⟩
 go_simp
 refine hK.out _ _ (by exact kd) (fun hHeld => ?_)
 clear hK K
 try simp only [Act.put, sqA, sqB, sqC, sqD, sqE, sqF]
 refine rdq 5 rfl fun K hK => ?_
 go_simp
 go_at_call 42
 refine (setOf_any B.la HRR.out _ _ X (HLB.out.later (UP.out _ kd))).mono ?_
 rintro e w5 ⟨rfl, rfl⟩
 go_simp
 refine hK.out _ _ (by exact kd) (fun hHeld => ?_)
 clear hK K
 try simp only [Act.put, sqA, sqB, sqC, sqD, sqE, sqF]
 refine tkq (v := ?_) 8 rfl ?_ ?_
 rotate_left
 ·intro w' hSw
  go_simp <;> with_reducible rfl
 try simp only [Act.put, sqA, sqB, sqC, sqD, sqE, sqF]
 refine tkq (v := ?_) 9 rfl ?_ ?_
 rotate_left
 ·intro w' hSw
  go_simp <;> with_reducible rfl
 try simp only [Act.put, sqA, sqB, sqC, sqD, sqE, sqF]
 refine tkq (v := ?_) 10 rfl ?_ ?_
 rotate_left
 ·intro w' hSw
  go_simp <;> with_reducible rfl
 try simp only [Act.put, sqA, sqB, sqC, sqD, sqE, sqF]
 refine wpAnyH_done (by kernel_rfl) ?_ _
 rw [SH.out]
 have KA5 := hide (KA4.out.below kd KA4.out.lt)
 have KB5 := hide (KB4.out.below kd KB4.out.lt)
 have B5 := hide (UP.out _ kd)
 clear KA4 KB4 B4 kd UP KPS
 have a0 : w5.cell? ⟨w.heap.size, 0, none⟩ = some (.int .i64 (p : Int)) := KA5.out.cell 0
 have a1 : w5.cell? ⟨w.heap.size, 1, none⟩ = some (.slice am A.mv.length cm) := KA5.out.cell 1
 have a2 : w5.cell? ⟨w.heap.size, 2, none⟩ = some (.slice al A.la.length cl) := KA5.out.cell 2
 have b0 : w5.cell? ⟨w.heap.size + 1, 0, none⟩ = some (.int .i64 B.st) := KB5.out.cell 0
 have b1 : w5.cell? ⟨w.heap.size + 1, 1, none⟩ = some (.slice bm B.mv.length dm) := KB5.out.cell 1
 have b2 : w5.cell? ⟨w.heap.size + 1, 2, none⟩ = some (.slice bl B.la.length dl) := KB5.out.cell 2
 go_wp2_with fail
 refine (sum_any A B HOA.out HOB.out _ _ _ X (by rw [← HP.out]; exact AVW.out _ B5.out) (BVW.out _ B5.out)).mono ?_
 rintro e w6 ⟨ym, zm, yl, zl, rfl, hsm, hsl, hb6⟩
 have B6 := hide (B5.out.trans (hb6.mono B5.out.size))
 have SM6 := hide hsm
 clear hb6 hsm hsl a0 a1 a2 b0 b1 b2 KA5 KB5 B5
 have hfd : ∀ w : World, (Instr.field 25 (.agg #[.int .i64 (smA A B).st, .slice ym (smA A B).mv.length zm, .slice yl (smA A B).la.length zl]) 1).run Try.prog w = .ok (.slice ym (smA A B).mv.length zm) w := fun _ => rfl
 go_wp2_with fail
 refine (tableOf_any (smA A B).mv HML.out HSY.out ym zm _ _ SM6.out).mono ?_
 rintro e w7 ⟨tv, rfl, htv, hb7⟩
 have B7 := hide (B6.out.trans (hb7.mono B6.out.size))
 have TV7 := hide htv
 obtain ⟨rr, LL, aa, cc, htve, _⟩ := id htv.ex
 subst htve
 clear hb7 htv hfd SM6 B6
 go_wp2_with fail
 refine (ends_any (smA A B).mv (p + q) (by omega) HLS.out _ _ TV7.out).mono ?_
 rintro e w8 ⟨all, u, rfl, hlv, ⟨hpl, hok⟩, hb8⟩
 have B8 := hide (B7.out.trans (hb8.mono B7.out.size))
 obtain ⟨ua, uc, hue, hul, _⟩ := id hlv
 subst hue
 have HLV := hide hlv
 have HPL := hide hpl
 have HWI := hide (HIFF.out all hok)
 have hlen := hul.1
 clear hb8 hlv hpl hok TV7 B7 HIFF hul
 go_wp2_with fail
 go_loopw [34] (fun i wr => ∃ k : Nat, k ≤ all.length ∧ i = .int .i64 (k : Int) ∧ WiP (all.take k) (setN A.la) R ∧ wr = w8) (fun i wr => all.length - (intOf i).toNat)
 case atStart => exact ⟨0, Nat.zero_le _, rfl, (fun x hx => by simp at hx), rfl⟩
 case round =>
  obtain ⟨k, hk, rfl, hin, rfl⟩ := hrel
  have HIN := hide hin
  clear hin
  by_cases hlt : k < all.length
  ·have hki : (k : Int) < (all.length : Int) := by omega
   obtain ⟨bb, oo, rfl, hbb, hcc⟩ := HLV.out.at (Below.refl wr.heap.size wr) k hlt
   unfold stV at hcc
   have HX64 := hide (HPL.out.lt _ (List.getElem_mem hlt))
   obtain ⟨x, hx⟩ : ∃ x, x = all[k] := ⟨_, rfl⟩
   have HXE := hide hx
   rw [← hx] at hcc HX64
   clear hx
   have HN1 := hide (and_nz (x := x) (y := setN A.la) (by have := HX64.out; omega) (by have := XL.out; omega))
   have HN2 := hide (and_ez (x := x) (y := R) (by have := HX64.out; omega) (by have := SR.out; omega))
   have HTA : Hid ((x &&& setN A.la ≠ 0 → x &&& R ≠ 0) → WiP (all.take (k + 1)) (setN A.la) R) := fun h => take_all (P := fun y => y &&& setN A.la ≠ 0 → y &&& R ≠ 0) hlt HIN.out (by rw [← HXE.out]; exact h)
   have HTN : Hid ((x &&& setN A.la ≠ 0 ∧ x &&& R = 0) → wiB A B = false) := fun h => by
    cases hw : wiB A B with
    | false => rfl
    | true => exact absurd h.2 (HWI.out.2 (wiB_iff.1 hw) x (by rw [HXE.out]; exact List.getElem_mem hlt) h.1)
   by_cases h1 : x &&& setN A.la ≠ 0
   ·rw [decide_eq_true h1] at HN1
    have hn1 := HN1.out
    by_cases h2 : x &&& R = 0
    ·rw [decide_eq_true h2] at HN2
     have hn2 := HN2.out
     have hn3 := beq_iff_eq.1 HN2.out
     have HREL := hide (HTN.out ⟨h1, h2⟩)
     clear h1 h2
     go_wp2_with fail
     go_ret2
     exact ⟨by rw [HR.out, HREL.out]; rfl, B8.out⟩
    ·rw [decide_eq_false h2] at HN2
     have hn2 := HN2.out
     have hn3 := beq_eq_false_iff_ne.1 HN2.out
     have HREL := hide (HTA.out fun _ => h2)
     clear h1 h2
     go_wp2_with fail
     go_roundw
     case rel => exact ⟨k + 1, by omega, by go_num, HREL.out, by trivial⟩
     case measure => simp [intOf]; omega
   ·rw [decide_eq_false h1] at HN1
    have hn1 := HN1.out
    have HREL := hide (HTA.out fun h => absurd h h1)
    clear h1
    go_wp2_with fail
    go_roundw
    case rel => exact ⟨k + 1, by omega, by go_num, HREL.out, by trivial⟩
    case measure => simp [intOf]; omega
  ·have hki : ¬ (k : Int) < (all.length : Int) := by omega
   have htk : all.take k = all := List.take_of_length_le (by omega)
   rw [htk] at HIN
   have HREL : Hid (wiB A B = true) := wiB_iff.2 (HWI.out.1 HIN.out)
   go_wp2_with fail
   go_ret2
   exact ⟨by rw [HR.out, HREL.out]; rfl, B8.out⟩
end Go.Proofs.Ytofebfjkodceeaa
