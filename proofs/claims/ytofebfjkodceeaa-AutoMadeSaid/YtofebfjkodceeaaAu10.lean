import Derived.Test.YtofebfjkodceeaaSq
import Derived.Test.YtofebfjkodceeaaAu10a
import Derived.Deep.RegionHeld3
import Derived.Test.YtofebfjkodceeaaL4
namespace Go.Proofs.Ytofebfjkodceeaa
open Go.RowKit
set_option linter.unusedSimpArgs false
set_option linter.unusedVariables false
set_option maxRecDepth 8000
def PI1 (A B : Au) (w4 : World) (O : Nat) (i : Value) (wr : World) : Prop := ∃ (j : Nat) (mv lv : Value) (xs : List Value) (X : Nat → Prop), j ≤ A.mv.length ∧ i = .int .i64 (j : Int) ∧ OutA wr w4.heap.size O (A.st * B.st) (prMvs B.st (A.mv.take j) B.mv) [] mv lv xs X ∧ Ex O w4 wr
def PI2 (st : Int) (B : Au) (m : Mv) (pre : List Mv) (M : Nat) (bx : Array Value) (w4 : World) (O : Nat) (i : Value) (wr : World) : Prop := ∃ (j : Nat) (mv lv : Value) (xs : List Value) (X : Nat → Prop), j ≤ B.mv.length ∧ i = .int .i64 (j : Int) ∧ OutA wr w4.heap.size O st (pre ++ prRow B.st m (B.mv.take j)) [] mv lv xs X ∧ Ex O w4 wr ∧ Blk wr M bx 40 ∧ X M
def PI3 (m n : Mv) (q : Int) (w7 : World) (V N3 : Nat) (j : Nat) (wr : World) : Prop := ∃ fv : Value, Blk wr V #[.string m.name, fv, .int .i64 (twoI q m.to n.to)] 40 ∧ wr.ownsRow N3 3 1 fv (List.zipWith (twoI q) (m.frm.take j) (n.frm.take j)).length ((List.zipWith (twoI q) (m.frm.take j) (n.frm.take j)).map fun z => .int .i64 z) ∧ N3 ≤ wr.heap.size ∧ Below w7.heap.size w7 wr
def PI4 (L : List Int) (lq : Value) (q : Int) (LB : List Int) (w4 : World) (O : Nat) (st : Int) (ms : List Mv) (i : Value) (wr : World) : Prop := ∃ (j : Nat) (mv lv : Value) (xs : List Value) (X : Nat → Prop), j ≤ L.length ∧ i = .int .i64 (j : Int) ∧ OutA wr w4.heap.size O st ms ((L.take j).flatMap fun s => LB.map (twoI q s)) mv lv xs X ∧ Ex O w4 wr ∧ PV wr X lq L
def PI5 (L : List Int) (lq lq2 : Value) (q s : Int) (pre LB : List Int) (w4 : World) (O : Nat) (st : Int) (ms : List Mv) (i : Value) (wr : World) : Prop := ∃ (j : Nat) (mv lv : Value) (xs : List Value) (X : Nat → Prop), j ≤ LB.length ∧ i = .int .i64 (j : Int) ∧ OutA wr w4.heap.size O st ms (pre ++ (LB.take j).map (twoI q s)) mv lv xs X ∧ Ex O w4 wr ∧ PV wr X lq L ∧ PV wr X lq2 LB
set_option maxHeartbeats 8000000 in
theorem product_any (A B : Au) (hA : OkAu 8 40 A) (hB : OkAu 8 40 B) (va vb : Value) (w : World) (X : Nat → Prop) (hva : AV w X va A) (hvb : AV w X vb B) :
  Calls Try.prog 51 #[va, vb] w fun e w' => MkA (prA A B) w e w' := by
 have hmf : ∀ (fn : Fn) (first cap : Array Value) (w : World), (Instr.makeFunc fn first cap).run Try.prog w = .ok (.func fn first cap) w := fun _ _ _ _ => rfl
 have HVA := hide (hva.mono (Y := fun b => b < w.heap.size) fun _ _ h => h)
 have HVB := hide (hvb.mono (Y := fun b => b < w.heap.size) fun _ _ h => h)
 obtain ⟨am, cm, al, cl, rfl, _, _⟩ := hva
 obtain ⟨bm, dm, bl, dl, rfl, _, _⟩ := hvb
 have ha1 := hA.st
 have ha2 := hA.pos
 have hb1 := hB.st
 have hb2 := hB.pos
 have hwr : IntKind.i64.wrap (A.st * B.st) = A.st * B.st := by rw [IntKind.wrap_i64]; have := two_small (q := B.st) (s := A.st) (r := 0) ⟨hb2, hb1⟩ ⟨ha2, ha1⟩ (by omega); omega
 generalize hW : ((((w.alloc (.cells #[.int .i64 A.st, .slice am A.mv.length cm, .slice al A.la.length cl] 25)).alloc (.cells #[.int .i64 B.st, .slice bm B.mv.length dm, .slice bl B.la.length dl] 25)).alloc (.cells #[.int .i64 0, .slice none 0 0, .slice none 0 0] 25)).alloc (.cells #[.int .i64 (A.st * B.st), .slice none 0 0, .slice none 0 0] 25)) = w4
 have hz4 : w4.heap.size = w.heap.size + 4 := by rw [← hW]; simp
 have B4 : Hid (Below w.heap.size w w4) := by unfold Hid; rw [← hW]; exact ((((Below.refl _ _).alloc (Nat.le_refl _) _).alloc (by simp) _).alloc (by simp; omega) _).alloc (by simp; omega) _
 have A4 : Hid (Blk w4 w.heap.size #[.int .i64 A.st, .slice am A.mv.length cm, .slice al A.la.length cl] 25) := by unfold Hid; rw [← hW]; exact (((Blk.new w _ _).alloc _).alloc _).alloc _
 have C4 : Hid (Blk w4 (w.heap.size + 1) #[.int .i64 B.st, .slice bm B.mv.length dm, .slice bl B.la.length dl] 25) := by
  unfold Hid; rw [← hW]
  have h := ((Blk.new (w.alloc (.cells #[.int .i64 A.st, .slice am A.mv.length cm, .slice al A.la.length cl] 25)) #[.int .i64 B.st, .slice bm B.mv.length dm, .slice bl B.la.length dl] 25).alloc (.cells #[.int .i64 0, .slice none 0 0, .slice none 0 0] 25)).alloc (.cells #[.int .i64 (A.st * B.st), .slice none 0 0, .slice none 0 0] 25)
  rw [World.size_alloc] at h
  exact h
 have R4 : Hid (Blk w4 (w.heap.size + 1 + 1) #[.int .i64 0, .slice none 0 0, .slice none 0 0] 25) := by
  unfold Hid; rw [← hW]
  have h := (Blk.new ((w.alloc (.cells #[.int .i64 A.st, .slice am A.mv.length cm, .slice al A.la.length cl] 25)).alloc (.cells #[.int .i64 B.st, .slice bm B.mv.length dm, .slice bl B.la.length dl] 25)) #[.int .i64 0, .slice none 0 0, .slice none 0 0] 25).alloc (.cells #[.int .i64 (A.st * B.st), .slice none 0 0, .slice none 0 0] 25)
  rw [World.size_alloc, World.size_alloc] at h
  exact h
 have O4 : Hid (Blk w4 (w.heap.size + 1 + 1 + 1) #[.int .i64 (A.st * B.st), .slice none 0 0, .slice none 0 0] 25) := by
  unfold Hid; rw [← hW]
  have h := Blk.new (((w.alloc (.cells #[.int .i64 A.st, .slice am A.mv.length cm, .slice al A.la.length cl] 25)).alloc (.cells #[.int .i64 B.st, .slice bm B.mv.length dm, .slice bl B.la.length dl] 25)).alloc (.cells #[.int .i64 0, .slice none 0 0, .slice none 0 0] 25)) #[.int .i64 (A.st * B.st), .slice none 0 0, .slice none 0 0] 25
  rw [World.size_alloc, World.size_alloc, World.size_alloc] at h
  exact h
 have HW := hide hW
 have HZ4 := hide hz4
 clear hW hz4
 have HA := hide hA
 have HB := hide hB
 go_enter Try.func51, Try.ntmps51
 go_upto_region 2 with fail
 rw [HW.out]
 have HNE : Hid (w.heap.size < w.heap.size + 1 ∧ w.heap.size + 1 < w.heap.size + 1 + 1 ∧ w.heap.size + 1 + 1 < w.heap.size + 1 + 1 + 1 ∧ w.heap.size + 1 + 1 + 1 < w4.heap.size) := by have := HZ4.out; unfold Hid; omega
 clear HZ4 HW
 generalize w.heap.size + 1 + 1 + 1 = O at *
 generalize w.heap.size + 1 + 1 = R at *
 generalize w.heap.size + 1 = Q at *
 have a1 : w4.cell? ⟨w.heap.size, 1, none⟩ = some (.slice am A.mv.length cm) := A4.out.cell 1
 have al4 := A4.out.lt
 have hml40 := hA.len
 have hnl40 := hB.len
 have VA4 : Hid (AV w4 (fun b => b ≠ O) (.agg #[.int .i64 A.st, .slice am A.mv.length cm, .slice al A.la.length cl]) A) := (HVA.out.later B4.out).mono fun b h _ => by have := HNE.out; omega
 have VB4 : Hid (AV w4 (fun b => b ≠ O) (.agg #[.int .i64 B.st, .slice bm B.mv.length dm, .slice bl B.la.length dl]) B) := (HVB.out.later B4.out).mono fun b h _ => by have := HNE.out; omega
 have SA4 : Hid (SlV w4 (fun b => b ≠ O) am A.mv) := by
  obtain ⟨x1, x2, x3, x4, e9, h9, _⟩ := VA4.out
  simp only [Value.agg.injEq, Array.mk.injEq, List.cons.injEq, Value.slice.injEq, and_true, true_and] at e9
  obtain ⟨⟨rfl, rfl⟩, rfl, rfl⟩ := e9
  exact h9
 have SB4 : Hid (SlV w4 (fun b => b ≠ O) bm B.mv) := by
  obtain ⟨x1, x2, x3, x4, e9, h9, _⟩ := VB4.out
  simp only [Value.agg.injEq, Array.mk.injEq, List.cons.injEq, Value.slice.injEq, and_true, true_and] at e9
  obtain ⟨⟨rfl, rfl⟩, rfl, rfl⟩ := e9
  exact h9
 clear hA hB
 go_wp2_with fail
 go_loopw [27] (fun i wr => PI1 A B w4 O i wr) (fun i wr => A.mv.length - (intOf i).toNat)
 case atStart => exact ⟨0, .slice none 0 0, .slice none 0 0, [], _, Nat.zero_le _, rfl, OutA.start O4.out, Ex.refl _ _⟩
 case round =>
  obtain ⟨j, mv, lv, xs, X1, hj, rfl, ho, he⟩ := hrel
  obtain ⟨w2, rfl⟩ : ∃ w2, w2 = wr := ⟨_, rfl⟩
  have HO := hide ho
  have HE := hide he
  clear a1 al4
  by_cases hlt : j < A.mv.length
  ·have hji : (j : Int) < (A.mv.length : Int) := by omega
   obtain ⟨b, o, af, cf, rfl, hbO, f0, f1, f2, hp4⟩ := SA4.out.at j hlt
   obtain ⟨m, hm⟩ : ∃ m, m = A.mv[j] := ⟨_, rfl⟩
   have HMJ := hide hm
   have HOM : Hid (OkMv A.st m) := by unfold Hid; rw [hm]; exact HA.out.mv _ (List.getElem_mem hlt)
   rw [← hm] at f0 f1 f2 hp4
   have d0 := cell_ex f0 he hbO
   have d1 := cell_ex f1 he hbO
   have d2 := cell_ex f2 he hbO
   have hbl := cell_ltA d0
   have HPF := hide hp4
   have BW : Hid (Below w2.heap.size w2 (w2.alloc (.cells #[.string m.name, .slice af m.frm.length cf, .int .i64 m.to] 40))) := (Below.refl _ _).alloc (Nat.le_refl _) _
   have M5 : Hid (Blk (w2.alloc (.cells #[.string m.name, .slice af m.frm.length cf, .int .i64 m.to] 40)) w2.heap.size #[.string m.name, .slice af m.frm.length cf, .int .i64 m.to] 40) := Blk.new w2 _ _
   have O5 : Hid (OutA (w2.alloc (.cells #[.string m.name, .slice af m.frm.length cf, .int .i64 m.to] 40)) w4.heap.size O (A.st * B.st) (prMvs B.st (A.mv.take j) B.mv) [] mv lv xs (fun b => X1 b ∨ b = w2.heap.size)) := (ho.below BW.out).more (fun b => b = w2.heap.size) (fun b hb => by subst hb; exact ⟨he.size, fun e => by have := (ho.own.lt _ e.symm).2; omega, fun e => by have := (ho.las.lt _ e.symm).2; omega⟩)
   have E5 : Hid (Ex O w4 (w2.alloc (.cells #[.string m.name, .slice af m.frm.length cf, .int .i64 m.to] 40))) := he.alloc _
   have HFL := hide HOM.out.len
   clear hm ho he hp4 f0 f1 f2
   go_upto_region 6 with fail
   generalize (w2.alloc (.cells #[.string m.name, .slice af m.frm.length cf, .int .i64 m.to] 40)) = w5 at *
   obtain ⟨M, hM⟩ : ∃ M, M = w2.heap.size := ⟨_, rfl⟩
   rw [← hM] at M5 O5 ⊢
   clear hM d0 d1 d2
   have C5 := hide (C4.out.ex E5.out (by have := HNE.out; omega))
   have e1 : w5.cell? ⟨Q, 1, none⟩ = some (.slice bm B.mv.length dm) := C5.out.cell 1
   have el := C5.out.lt
   obtain ⟨pre, hpre⟩ : ∃ pre, pre = prMvs B.st (A.mv.take j) B.mv := ⟨_, rfl⟩
   have HPRE := hide hpre
   have HPL : Hid (pre.length ≤ 1600) := by
    unfold Hid
    rw [hpre]
    refine Nat.le_trans (prMvs_len _ _ _) ?_
    have h1 : (A.mv.take j).length ≤ 40 := by rw [List.length_take]; omega
    exact Nat.le_trans (Nat.mul_le_mul h1 hnl40) (by omega)
   rw [← hpre] at O5
   clear hpre
   go_wp2_with fail
   go_loopw [34] (fun i wr => PI2 (A.st * B.st) B m pre M #[.string m.name, .slice af m.frm.length cf, .int .i64 m.to] w4 O i wr) (fun i wr => B.mv.length - (intOf i).toNat)
   case atStart => exact ⟨0, mv, lv, xs, _, Nat.zero_le _, rfl, by simpa [prRow] using O5.out, E5.out, M5.out, Or.inr rfl⟩
   case round =>
    obtain ⟨j2, mv2, lv2, xs2, X2, hj2, rfl, ho2, he2, hm2, hx2⟩ := hrel
    obtain ⟨w6, rfl⟩ : ∃ w6, w6 = wr := ⟨_, rfl⟩
    have HO2 := hide ho2
    have HE2 := hide he2
    have HM2 := hide hm2
    have HX2 := hide hx2
    clear e1 el hx2
    by_cases hlt2 : j2 < B.mv.length
    ·have hj2i : (j2 : Int) < (B.mv.length : Int) := by omega
     obtain ⟨b', o', ag, cg, rfl, hbO', f0, f1, f2, hp4⟩ := SB4.out.at j2 hlt2
     obtain ⟨n, hn⟩ : ∃ n, n = B.mv[j2] := ⟨_, rfl⟩
     have HNJ := hide hn
     have HON : Hid (OkMv B.st n) := by unfold Hid; rw [hn]; exact HB.out.mv _ (List.getElem_mem hlt2)
     rw [← hn] at f0 f1 f2 hp4
     have d0 := cell_ex f0 he2 hbO'
     have d1 := cell_ex f1 he2 hbO'
     have d2 := cell_ex f2 he2 hbO'
     have hbl' := cell_ltA d0
     have HPG := hide hp4
     have BW7 : Hid (Below w6.heap.size w6 (w6.alloc (.cells #[.string n.name, .slice ag n.frm.length cg, .int .i64 n.to] 40))) := (Below.refl _ _).alloc (Nat.le_refl _) _
     have N7 : Hid (Blk (w6.alloc (.cells #[.string n.name, .slice ag n.frm.length cg, .int .i64 n.to] 40)) w6.heap.size #[.string n.name, .slice ag n.frm.length cg, .int .i64 n.to] 40) := Blk.new w6 _ _
     have M7 := hide (hm2.alloc (.cells #[.string n.name, .slice ag n.frm.length cg, .int .i64 n.to] 40))
     have E7 : Hid (Ex O w4 (w6.alloc (.cells #[.string n.name, .slice ag n.frm.length cg, .int .i64 n.to] 40))) := he2.alloc _
     have HTK : Hid (prRow B.st m (B.mv.take (j2 + 1)) = prRow B.st m (B.mv.take j2) ++ (if alike m n = true then [prMv B.st m n] else [])) := by unfold Hid; rw [hn]; exact prRow_take hlt2
     clear hn ho2 he2 hm2 hp4 f0 f1 f2
     go_upto_region 9 with fail
     generalize (w6.alloc (.cells #[.string n.name, .slice ag n.frm.length cg, .int .i64 n.to] 40)) = w7 at *
     have m0 : w7.cell? ⟨M, 0, none⟩ = some (.string m.name) := M7.out.cell 0
     have m1 : w7.cell? ⟨M, 1, none⟩ = some (.slice af m.frm.length cf) := M7.out.cell 1
     have ml := M7.out.lt
     have n0 : w7.cell? ⟨w6.heap.size, 0, none⟩ = some (.string n.name) := N7.out.cell 0
     have n1 : w7.cell? ⟨w6.heap.size, 1, none⟩ = some (.slice ag n.frm.length cg) := N7.out.cell 1
     have nl := N7.out.lt
     clear d0 d1 d2
     obtain ⟨Nn, hNn⟩ : ∃ Nn, Nn = w6.heap.size := ⟨_, rfl⟩
     rw [← hNn] at N7 n0 n1 nl ⊢
     clear hNn
     by_cases hnm : m.name = n.name
     ·have hnL : m.name.toList = n.name.toList := by rw [hnm]
      have HNM := hide hnm
      clear hnm
      by_cases hlen : m.frm.length = n.frm.length
      ·have hle : ((m.frm.length : Int) != (n.frm.length : Int)) = false := by rw [hlen]; simp
       have HLEN := hide hlen
       have HAL : Hid (alike m n = true) := alike_iff.2 ⟨HNM.out, hlen⟩
       clear hlen
       have C7 := hide (C4.out.ex E7.out (by have := HNE.out; omega))
       have HQ8 : Hid (0 ≤ B.st ∧ B.st ≤ 8) := ⟨hb2, hb1⟩
       have HM8 : Hid (0 ≤ m.to ∧ m.to ≤ 8) := by have := HOM.out.to; unfold Hid; omega
       have HN8 : Hid (0 ≤ n.to ∧ n.to ≤ 8) := by have := HON.out.to; unfold Hid; omega
       have KP10 : Hid (∀ w', Below w7.heap.size w7 w' → w'.cell? ⟨M, 0, none⟩ = some (.string m.name) ∧ w'.cell? ⟨M, 2, none⟩ = some (.int .i64 m.to) ∧ w'.cell? ⟨Nn, 2, none⟩ = some (.int .i64 n.to) ∧ w'.cell? ⟨Q, 0, none⟩ = some (.int .i64 B.st)) := fun w' hb => ⟨(M7.out.below hb M7.out.lt).cell 0, (M7.out.below hb M7.out.lt).cell 2, (N7.out.below hb N7.out.lt).cell 2, (C7.out.below hb C7.out.lt).cell 0⟩
       have k7 : Below w7.heap.size w7 w7.drew := (Below.refl _ _).drew
       have HS10 := hide (KP10.out _ k7)
       have cl7 := C7.out.lt
       go_upto_region 10 with fail
       clear m0 m1 n0 n1
       go_cut [11] (fun o wd => ∃ V, o = .pointer (some ⟨V, 0, none⟩) ∧ w7.heap.size ≤ V ∧ Blk wd V #[.string m.name, .slice none 0 0, .int .i64 (twoI B.st m.to n.to)] 40 ∧ Below w7.heap.size w7 wd)
       case first =>
        refine wp_region_held_drew (S := (fun w' => w'.cell? ⟨M, 0, none⟩ = some (.string m.name) ∧ w'.cell? ⟨M, 2, none⟩ = some (.int .i64 m.to) ∧ w'.cell? ⟨Nn, 2, none⟩ = some (.int .i64 n.to) ∧ w'.cell? ⟨Q, 0, none⟩ = some (.int .i64 B.st))) (by kernel_rfl) HS10.out (fun hHeld => ?_)
        refine tkq (v := ?_) 0 rfl ?_ ?_
        rotate_left
        ·intro w' hSw
         go_simp <;> with_reducible rfl
        try simp only [Act.put, sqA, sqB, sqC, sqD, sqE, sqF]
        refine tkq (v := ?_) 1 rfl ?_ ?_
        rotate_left
        ·intro w' hSw
         obtain ⟨e0, e1, e2, e3⟩ := hSw
         go_simp <;> with_reducible rfl
        try simp only [Act.put, sqA, sqB, sqC, sqD, sqE, sqF]
        refine tkq (v := ?_) 2 rfl ?_ ?_
        rotate_left
        ·intro w' hSw
         go_simp <;> with_reducible rfl
        try simp only [Act.put, sqA, sqB, sqC, sqD, sqE, sqF]
        refine tkq (v := ?_) 3 rfl ?_ ?_
        rotate_left
        ·intro w' hSw
         go_simp <;> with_reducible rfl
        try simp only [Act.put, sqA, sqB, sqC, sqD, sqE, sqF]
        refine tkq (v := ?_) 4 rfl ?_ ?_
        rotate_left
        ·intro w' hSw
         obtain ⟨e0, e1, e2, e3⟩ := hSw
         go_simp <;> with_reducible rfl
        try simp only [Act.put, sqA, sqB, sqC, sqD, sqE, sqF]
        refine tkq (v := ?_) 5 rfl ?_ ?_
        rotate_left
        ·intro w' hSw
         go_simp <;> with_reducible rfl
        try simp only [Act.put, sqA, sqB, sqC, sqD, sqE, sqF]
        refine tkq (v := ?_) 6 rfl ?_ ?_
        rotate_left
        ·intro w' hSw
         obtain ⟨e0, e1, e2, e3⟩ := hSw
         go_simp <;> with_reducible rfl
        try simp only [Act.put, sqA, sqB, sqC, sqD, sqE, sqF]
        refine wpAnyH_ready (rs := [7, 9]) (by kernel_rfl) (by simp) ?_
        refine AllReadyH.cons rfl (fun K hK => ?_) (AllReadyH.cons rfl (fun K hK => ?_) AllReadyH.nil)
        ·go_simp
         go_at_call 71
         refine (both1_any B.st m.to n.to HQ8.out HM8.out HN8.out Q _ (by exact (KP10.out _ k7).2.2.2)).mono ?_
         rintro e w9 ⟨rfl, hb9⟩
         have k9 : Below w7.heap.size w7 w9 := k7.trans (hb9.mono k7.size)
         clear hb9
         go_simp
         refine hK.out _ _ (by exact KP10.out _ k9) (fun hHeld => ?_)
         clear hK K
         try simp only [Act.put, sqA, sqB, sqC, sqD, sqE, sqF]
         refine tkq (v := ?_) 8 rfl ?_ ?_
         rotate_left
         ·intro w' hSw
          go_simp <;> with_reducible rfl
         try simp only [Act.put, sqA, sqB, sqC, sqD, sqE, sqF]
         refine rdq 9 rfl fun K hK => ?_
         go_simp
         have kz : Below w7.heap.size w7 (w9.alloc (.cells #[.string ⟨#[]⟩, .slice none 0 0, .int .i64 0] 40)) := k9.alloc k9.size _
         have Zz : Hid (Blk (w9.alloc (.cells #[.string ⟨#[]⟩, .slice none 0 0, .int .i64 0] 40)) w9.heap.size #[.string ⟨#[]⟩, .slice none 0 0, .int .i64 0] 40) := Blk.new w9 _ _
         have hAz : w7.heap.size ≤ w9.heap.size := k9.size
         refine hK.out _ _ (by exact KP10.out _ kz) (fun hHeld => ?_)
         clear hK K
         try simp only [Act.put, sqA, sqB, sqC, sqD, sqE, sqF]
         generalize (w9.alloc (.cells #[.string ⟨#[]⟩, .slice none 0 0, .int .i64 0] 40)) = wz at *
         have az := Zz.out.lt
         have y0 : wz.cell? ⟨w9.heap.size, 0, none⟩ = some (.string ⟨#[]⟩) := Zz.out.cell 0
         have y1 : wz.cell? ⟨w9.heap.size, 1, none⟩ = some (.slice none 0 0) := Zz.out.cell 1
         have y2 : wz.cell? ⟨w9.heap.size, 2, none⟩ = some (.int .i64 0) := Zz.out.cell 2
         have yf := Zz.out.frozen
         have kq : Below w7.heap.size w7 (((wz.setCell ⟨w9.heap.size, 0, none⟩ (.string m.name)).setCell ⟨w9.heap.size, 1, none⟩ (.slice none 0 0)).setCell ⟨w9.heap.size, 2, none⟩ (.int .i64 (twoI B.st m.to n.to))) := ((kz.setCell (p := ⟨w9.heap.size, 0, none⟩) hAz _).setCell (p := ⟨w9.heap.size, 1, none⟩) hAz _).setCell (p := ⟨w9.heap.size, 2, none⟩) hAz _
         have QB : Hid (Blk (((wz.setCell ⟨w9.heap.size, 0, none⟩ (.string m.name)).setCell ⟨w9.heap.size, 1, none⟩ (.slice none 0 0)).setCell ⟨w9.heap.size, 2, none⟩ (.int .i64 (twoI B.st m.to n.to))) w9.heap.size #[.string m.name, .slice none 0 0, .int .i64 (twoI B.st m.to n.to)] 40) := blk_set3A Zz.out _ _ _
         refine rdq 10 rfl fun K hK => ?_
         go_simp
         refine hK.out _ _ (by exact KP10.out _ kq) (fun hHeld => ?_)
         clear hK K
         try simp only [Act.put, sqA, sqB, sqC, sqD, sqE, sqF]
         refine wpAnyH_done (by kernel_rfl) ?_ _
         go_wp2_with fail
         go_meet
         exact ⟨_, rfl, hAz, QB.out, kq⟩
        ·go_simp
         have kz : Below w7.heap.size w7 (w7.alloc (.cells #[.string ⟨#[]⟩, .slice none 0 0, .int .i64 0] 40)).drew := ((Below.refl w7.heap.size w7).alloc (Nat.le_refl _) _).drew
         have Zz : Hid (Blk (w7.alloc (.cells #[.string ⟨#[]⟩, .slice none 0 0, .int .i64 0] 40)).drew w7.heap.size #[.string ⟨#[]⟩, .slice none 0 0, .int .i64 0] 40) := Blk.new w7 _ _
         have hAz : w7.heap.size ≤ w7.heap.size := Nat.le_refl _
         refine hK.out _ _ (by exact KP10.out _ kz) (fun hHeld => ?_)
         clear hK K
         try simp only [Act.put, sqA, sqB, sqC, sqD, sqE, sqF]
         generalize (w7.alloc (.cells #[.string ⟨#[]⟩, .slice none 0 0, .int .i64 0] 40)).drew = wz at *
         have az := Zz.out.lt
         refine rdq 7 rfl fun K hK => ?_
         go_simp
         go_at_call 71
         refine (both1_any B.st m.to n.to HQ8.out HM8.out HN8.out Q _ (by exact (KP10.out _ kz).2.2.2)).mono ?_
         rintro e w9 ⟨rfl, hb9⟩
         have k9 : Below w7.heap.size w7 w9 := kz.trans (hb9.mono kz.size)
         have Z9 := hide (Zz.out.below hb9 Zz.out.lt)
         have a9 := Z9.out.lt
         clear hb9
         go_simp
         refine hK.out _ _ (by exact KP10.out _ k9) (fun hHeld => ?_)
         clear hK K
         try simp only [Act.put, sqA, sqB, sqC, sqD, sqE, sqF]
         refine tkq (v := ?_) 8 rfl ?_ ?_
         rotate_left
         ·intro w' hSw
          go_simp <;> with_reducible rfl
         try simp only [Act.put, sqA, sqB, sqC, sqD, sqE, sqF]
         have y0 : w9.cell? ⟨w7.heap.size, 0, none⟩ = some (.string ⟨#[]⟩) := Z9.out.cell 0
         have y1 : w9.cell? ⟨w7.heap.size, 1, none⟩ = some (.slice none 0 0) := Z9.out.cell 1
         have y2 : w9.cell? ⟨w7.heap.size, 2, none⟩ = some (.int .i64 0) := Z9.out.cell 2
         have yf := Z9.out.frozen
         have kq : Below w7.heap.size w7 (((w9.setCell ⟨w7.heap.size, 0, none⟩ (.string m.name)).setCell ⟨w7.heap.size, 1, none⟩ (.slice none 0 0)).setCell ⟨w7.heap.size, 2, none⟩ (.int .i64 (twoI B.st m.to n.to))) := ((k9.setCell (p := ⟨w7.heap.size, 0, none⟩) hAz _).setCell (p := ⟨w7.heap.size, 1, none⟩) hAz _).setCell (p := ⟨w7.heap.size, 2, none⟩) hAz _
         have QB : Hid (Blk (((w9.setCell ⟨w7.heap.size, 0, none⟩ (.string m.name)).setCell ⟨w7.heap.size, 1, none⟩ (.slice none 0 0)).setCell ⟨w7.heap.size, 2, none⟩ (.int .i64 (twoI B.st m.to n.to))) w7.heap.size #[.string m.name, .slice none 0 0, .int .i64 (twoI B.st m.to n.to)] 40) := blk_set3A Z9.out _ _ _
         refine rdq 10 rfl fun K hK => ?_
         go_simp
         refine hK.out _ _ (by exact KP10.out _ kq) (fun hHeld => ?_)
         clear hK K
         try simp only [Act.put, sqA, sqB, sqC, sqD, sqE, sqF]
         refine wpAnyH_done (by kernel_rfl) ?_ _
         go_wp2_with fail
         go_meet
         exact ⟨_, rfl, hAz, QB.out, kq⟩
       obtain ⟨V, rfl, hV7, hvb, hbc⟩ := hcut
       have HV7 := hide hV7
       have HBC := hide hbc
       have MC := hide (M7.out.below hbc M7.out.lt)
       have VC := hide hvb
       have m1 : wc.cell? ⟨M, 1, none⟩ = some (.slice af m.frm.length cf) := MC.out.cell 1
       have mlc := MC.out.lt
       have hfl := HOM.out.len
       clear hV7 hbc hvb
       go_wp2_with fail
       go_loopw [64] (fun i wr => ∃ j3 : Nat, j3 ≤ m.frm.length ∧ i = .int .i64 (j3 : Int) ∧ PI3 m n B.st w7 V wc.heap.size j3 wr) (fun i wr => m.frm.length - (intOf i).toNat)
       case atStart => exact ⟨0, Nat.zero_le _, rfl, .slice none 0 0, VC.out, World.ownsRow_nil _ _ _ _, Nat.le_refl _, HBC.out⟩
       case round =>
        obtain ⟨j3, hj3, rfl, fv, hv9, hown, hn9, hb9⟩ := hrel
        obtain ⟨w9, rfl⟩ : ∃ w9, w9 = wr := ⟨_, rfl⟩
        have HVB := hide hv9
        have HOWN := hide hown
        have HN9 := hide hn9
        have HB9 := hide hb9
        have HVN : Hid (V < wc.heap.size) := VC.out.lt
        have HN37 : Hid (w7.heap.size ≤ wc.heap.size) := HBC.out.size
        clear hv9 hown hn9 m1 mlc
        have E9 : Hid (Ex O w4 w9) := E7.out.trans (ex_below hb9 O)
        by_cases hlt3 : j3 < m.frm.length
        ·have hj3i : (j3 : Int) < (m.frm.length : Int) := by omega
         have hlt4 : j3 < n.frm.length := by rw [← HLEN.out]; exact hlt3
         have hj4i : (j3 : Int) < (n.frm.length : Int) := by omega
         obtain ⟨bf, of, rfl, hbf, hcf⟩ := (HPF.out.ex E7.out (fun b h => h)).at (Below.refl w7.heap.size w7) j3 hlt3
         obtain ⟨bg, og, rfl, hbg, hcg⟩ := (HPG.out.ex E7.out (fun b h => h)).at (Below.refl w7.heap.size w7) j3 hlt4
         obtain ⟨zm, hzm⟩ : ∃ zm, zm = m.frm[j3] := ⟨_, rfl⟩
         obtain ⟨zn, hzn⟩ : ∃ zn, zn = n.frm[j3] := ⟨_, rfl⟩
         have HZT : Hid (List.zipWith (twoI B.st) (m.frm.take (j3 + 1)) (n.frm.take (j3 + 1)) = List.zipWith (twoI B.st) (m.frm.take j3) (n.frm.take j3) ++ [twoI B.st zm zn]) := by unfold Hid; rw [hzm, hzn]; exact zip_take hlt3 hlt4
         have HZM : Hid (0 ≤ zm ∧ zm ≤ 8) := by have := HOM.out.frm zm (by rw [hzm]; exact List.getElem_mem hlt3); unfold Hid; omega
         have HZN : Hid (0 ≤ zn ∧ zn ≤ 8) := by have := HON.out.frm zn (by rw [hzn]; exact List.getElem_mem hlt4); unfold Hid; omega
         rw [← hzm] at hcf
         rw [← hzn] at hcg
         have hb49 : b ≠ O := hbO
         have M9 := hide (M7.out.below hb9 M7.out.lt)
         have N9 := hide (N7.out.below hb9 N7.out.lt)
         have HLE : Hid ((List.zipWith (twoI B.st) (m.frm.take j3) (n.frm.take j3)).length ≤ 100000) := by unfold Hid; rw [List.length_zipWith, List.length_take]; omega
         have HCF := hide hcf
         have HCG := hide hcg
         have C9 := hide (C7.out.below hb9 C7.out.lt)
         have KP14 : Hid (∀ w', Below w7.heap.size w7 w' → w'.cell? ⟨M, 1, none⟩ = some (.slice (some ⟨bf, of, none⟩) m.frm.length cf) ∧ w'.cell? ⟨Nn, 1, none⟩ = some (.slice (some ⟨bg, og, none⟩) n.frm.length cg) ∧ w'.cell? ⟨bf, of + j3, none⟩ = some (.int .i64 zm) ∧ w'.cell? ⟨bg, og + j3, none⟩ = some (.int .i64 zn) ∧ w'.cell? ⟨Q, 0, none⟩ = some (.int .i64 B.st)) := fun w' hb => ⟨(M7.out.below hb M7.out.lt).cell 1, (N7.out.below hb N7.out.lt).cell 1, (hb.cell (p := ⟨bf, of + j3, none⟩) hbf).trans HCF.out, (hb.cell (p := ⟨bg, og + j3, none⟩) hbg).trans HCG.out, (C7.out.below hb C7.out.lt).cell 0⟩
         have k9d : Below w9.heap.size w9 w9.drew := (Below.refl _ _).drew
         have HS14 := hide (KP14.out _ (HB9.out.trans (k9d.mono HB9.out.size)))
         have hVl := HVB.out.lt
         have ml9 := M9.out.lt
         have nl9 := N9.out.lt
         have cl9 := C9.out.lt
         have hbf9 : bf < w9.heap.size := Nat.lt_of_lt_of_le hbf hb9.size
         have hbg9 : bg < w9.heap.size := Nat.lt_of_lt_of_le hbg hb9.size
         clear hcf hcg hzm hzn
         go_upto_region 14 with fail
         refine wp_region_held_drew (S := (fun w' => w'.cell? ⟨M, 1, none⟩ = some (.slice (some ⟨bf, of, none⟩) m.frm.length cf) ∧ w'.cell? ⟨Nn, 1, none⟩ = some (.slice (some ⟨bg, og, none⟩) n.frm.length cg) ∧ w'.cell? ⟨bf, of + j3, none⟩ = some (.int .i64 zm) ∧ w'.cell? ⟨bg, og + j3, none⟩ = some (.int .i64 zn) ∧ w'.cell? ⟨Q, 0, none⟩ = some (.int .i64 B.st))) (by kernel_rfl) HS14.out (fun hHeld => ?_)
         refine tkq (v := ?_) 0 rfl ?_ ?_
         rotate_left
         ·intro w' hSw
          go_simp <;> with_reducible rfl
         try simp only [Act.put, sqA, sqB, sqC, sqD, sqE, sqF]
         refine tkq (v := ?_) 2 rfl ?_ ?_
         rotate_left
         ·intro w' hSw
          go_simp <;> with_reducible rfl
         try simp only [Act.put, sqA, sqB, sqC, sqD, sqE, sqF]
         refine tkq (v := ?_) 3 rfl ?_ ?_
         rotate_left
         ·intro w' hSw
          go_simp <;> with_reducible rfl
         try simp only [Act.put, sqA, sqB, sqC, sqD, sqE, sqF]
         refine tkq (v := ?_) 4 rfl ?_ ?_
         rotate_left
         ·intro w' hSw
          obtain ⟨e0, e1, e2, e3, e4⟩ := hSw
          go_simp <;> with_reducible rfl
         try simp only [Act.put, sqA, sqB, sqC, sqD, sqE, sqF]
         refine tkq (v := ?_) 5 rfl ?_ ?_
         rotate_left
         ·intro w' hSw
          go_simp <;> with_reducible rfl
         try simp only [Act.put, sqA, sqB, sqC, sqD, sqE, sqF]
         refine tkq (v := ?_) 6 rfl ?_ ?_
         rotate_left
         ·intro w' hSw
          go_simp <;> with_reducible rfl
         try simp only [Act.put, sqA, sqB, sqC, sqD, sqE, sqF]
         refine tkq (v := ?_) 7 rfl ?_ ?_
         rotate_left
         ·intro w' hSw
          obtain ⟨e0, e1, e2, e3, e4⟩ := hSw
          go_simp <;> with_reducible rfl
         try simp only [Act.put, sqA, sqB, sqC, sqD, sqE, sqF]
         refine tkq (v := ?_) 8 rfl ?_ ?_
         rotate_left
         ·intro w' hSw
          go_simp <;> with_reducible rfl
         try simp only [Act.put, sqA, sqB, sqC, sqD, sqE, sqF]
         refine tkq (v := ?_) 9 rfl ?_ ?_
         rotate_left
         ·intro w' hSw
          obtain ⟨e0, e1, e2, e3, e4⟩ := hSw
          go_simp <;> with_reducible rfl
         try simp only [Act.put, sqA, sqB, sqC, sqD, sqE, sqF]
         refine tkq (v := ?_) 10 rfl ?_ ?_
         rotate_left
         ·intro w' hSw
          go_simp <;> with_reducible rfl
         try simp only [Act.put, sqA, sqB, sqC, sqD, sqE, sqF]
         refine tkq (v := ?_) 11 rfl ?_ ?_
         rotate_left
         ·intro w' hSw
          go_simp <;> with_reducible rfl
         try simp only [Act.put, sqA, sqB, sqC, sqD, sqE, sqF]
         refine tkq (v := ?_) 12 rfl ?_ ?_
         rotate_left
         ·intro w' hSw
          obtain ⟨e0, e1, e2, e3, e4⟩ := hSw
          go_simp <;> with_reducible rfl
         try simp only [Act.put, sqA, sqB, sqC, sqD, sqE, sqF]
         refine wpAnyH_ready (rs := [1, 13]) (by kernel_rfl) (by simp) ?_
         refine AllReadyH.cons rfl (fun K hK => ?_) (AllReadyH.cons rfl (fun K hK => ?_) AllReadyH.nil)
         ·have q1d : w9.drew.cell? ⟨V, 1, none⟩ = some fv := HVB.out.cell 1
          go_simp
          refine hK.out _ _ (by exact KP14.out _ (HB9.out.trans (k9d.mono HB9.out.size))) (fun hHeld => ?_)
          clear hK K
          try simp only [Act.put, sqA, sqB, sqC, sqD, sqE, sqF]
          refine rdq 13 rfl fun K hK => ?_
          go_simp
          go_at_call 71
          refine (both1_any B.st zm zn HQ8.out HZM.out HZN.out Q _ (by exact (KP14.out _ (HB9.out.trans (k9d.mono HB9.out.size))).2.2.2.2)).mono ?_
          rintro e w11 ⟨rfl, hb11⟩
          have k11 : Below w9.heap.size w9 w11 := k9d.trans (hb11.mono k9d.size)
          clear hb11
          go_simp
          refine hK.out _ _ (by exact KP14.out _ (HB9.out.trans (k11.mono HB9.out.size))) (fun hHeld => ?_)
          clear hK K
          try simp only [Act.put, sqA, sqB, sqC, sqD, sqE, sqF]
          have ka : Below w9.heap.size w9 (w11.alloc (.cells #[.int .i64 (twoI B.st zm zn)] 3)) := k11.alloc k11.size _
          obtain ⟨g, n', cap, W1, hr, ho1, hg⟩ := rowZ_more (x := twoI B.st zm zn) (P := w11.heap.size) (W := (w11.alloc (.cells #[.int .i64 (twoI B.st zm zn)] 3))) (owns_keptA HOWN.out (fun b e => ka.block b (HOWN.out.lt b e).2)) (by have := HN9.out; have := ka.size; omega) (Blk.new w11 _ _) HLE.out
          have HRUN := hide hr
          have HV1 : Hid (Blk W1 V #[.string m.name, fv, .int .i64 (twoI B.st m.to n.to)] 40) := (HVB.out.below ka HVB.out.lt).grown hg (fun e => by have := (HOWN.out.lt V e.symm).1; have := HVN.out; omega)
          have HOV := hide ho1
          have HBW : Hid (Below w7.heap.size w7 W1) := (HB9.out.trans (ka.mono HB9.out.size)).grown hg (by have := HB9.out.size; have := ka.size; omega) (fun q hq => by have := (HOWN.out.lt q hq).1; have := HN37.out; omega)
          have HS1 : Hid (w9.heap.size ≤ W1.heap.size) := Nat.le_trans ka.size hg.size
          have KPW : Hid (W1.cell? ⟨M, 1, none⟩ = some (.slice (some ⟨bf, of, none⟩) m.frm.length cf) ∧ W1.cell? ⟨Nn, 1, none⟩ = some (.slice (some ⟨bg, og, none⟩) n.frm.length cg) ∧ W1.cell? ⟨bf, of + j3, none⟩ = some (.int .i64 zm) ∧ W1.cell? ⟨bg, og + j3, none⟩ = some (.int .i64 zn) ∧ W1.cell? ⟨Q, 0, none⟩ = some (.int .i64 B.st)) := KP14.out W1 HBW.out
          have qf : W1.frozen? ⟨V, 1, none⟩ = false := HV1.out.frozen 1
          have qc : W1.cell? ⟨V, 1, none⟩ = some fv := HV1.out.cell 1
          have ql : V < W1.heap.size := HV1.out.lt
          clear hr ho1 hg
          refine rdq 14 rfl fun K hK => ?_
          go_simp
          refine hK.out _ _ (by exact KP14.out _ (HB9.out.trans (ka.mono HB9.out.size))) (fun hHeld => ?_)
          clear hK K
          try simp only [Act.put, sqA, sqB, sqC, sqD, sqE, sqF]
          refine rdq 15 rfl fun K hK => ?_
          refine step_append_eqM rfl _ _ _ _ rfl rfl rfl HRUN.out ?_
          refine hK.out _ _ (by exact KPW.out) (fun hHeld => ?_)
          clear hK K
          try simp only [Act.put, sqA, sqB, sqC, sqD, sqE, sqF]
          refine tkq (v := ?_) 16 rfl ?_ ?_
          rotate_left
          ·intro w' hSw
           go_simp <;> with_reducible rfl
          try simp only [Act.put, sqA, sqB, sqC, sqD, sqE, sqF]
          have kE : Below w7.heap.size w7 (W1.setCell ⟨V, 1, none⟩ (.slice (some ⟨g, 0, none⟩) n' cap)) := HBW.out.setCell (p := ⟨V, 1, none⟩) HV7.out _
          refine rdq 17 rfl fun K hK => ?_
          go_simp
          refine hK.out _ _ (by exact KP14.out _ kE) (fun hHeld => ?_)
          clear hK K
          try simp only [Act.put, sqA, sqB, sqC, sqD, sqE, sqF]
          refine wpAnyH_done (by kernel_rfl) ?_ _
          go_wp2_with fail
          go_roundw
          case rel =>
           refine ⟨j3 + 1, by omega, by go_num, .slice (some ⟨g, 0, none⟩) n' cap, HV1.out.set 1 _, ?_, ?_, kE⟩
           ·rw [HZT.out]
            exact owns_keptA HOV.out fun b e => Below.heap_setCell _ _ _ _ (by have := (HOV.out.lt b e).1; have := HVN.out; simp; omega)
           ·have := HN9.out; have := HS1.out; simp [World.setCell]; omega
          case measure => simp [intOf]; omega
         ·go_simp
          go_at_call 71
          refine (both1_any B.st zm zn HQ8.out HZM.out HZN.out Q _ (by exact (KP14.out _ (HB9.out.trans (k9d.mono HB9.out.size))).2.2.2.2)).mono ?_
          rintro e w11 ⟨rfl, hb11⟩
          have k11 : Below w9.heap.size w9 w11 := k9d.trans (hb11.mono k9d.size)
          clear hb11
          go_simp
          refine hK.out _ _ (by exact KP14.out _ (HB9.out.trans (k11.mono HB9.out.size))) (fun hHeld => ?_)
          clear hK K
          try simp only [Act.put, sqA, sqB, sqC, sqD, sqE, sqF]
          have ka : Below w9.heap.size w9 (w11.alloc (.cells #[.int .i64 (twoI B.st zm zn)] 3)) := k11.alloc k11.size _
          obtain ⟨g, n', cap, W1, hr, ho1, hg⟩ := rowZ_more (x := twoI B.st zm zn) (P := w11.heap.size) (W := (w11.alloc (.cells #[.int .i64 (twoI B.st zm zn)] 3))) (owns_keptA HOWN.out (fun b e => ka.block b (HOWN.out.lt b e).2)) (by have := HN9.out; have := ka.size; omega) (Blk.new w11 _ _) HLE.out
          have HRUN := hide hr
          have HV1 : Hid (Blk W1 V #[.string m.name, fv, .int .i64 (twoI B.st m.to n.to)] 40) := (HVB.out.below ka HVB.out.lt).grown hg (fun e => by have := (HOWN.out.lt V e.symm).1; have := HVN.out; omega)
          have HOV := hide ho1
          have HBW : Hid (Below w7.heap.size w7 W1) := (HB9.out.trans (ka.mono HB9.out.size)).grown hg (by have := HB9.out.size; have := ka.size; omega) (fun q hq => by have := (HOWN.out.lt q hq).1; have := HN37.out; omega)
          have HS1 : Hid (w9.heap.size ≤ W1.heap.size) := Nat.le_trans ka.size hg.size
          have KPW : Hid (W1.cell? ⟨M, 1, none⟩ = some (.slice (some ⟨bf, of, none⟩) m.frm.length cf) ∧ W1.cell? ⟨Nn, 1, none⟩ = some (.slice (some ⟨bg, og, none⟩) n.frm.length cg) ∧ W1.cell? ⟨bf, of + j3, none⟩ = some (.int .i64 zm) ∧ W1.cell? ⟨bg, og + j3, none⟩ = some (.int .i64 zn) ∧ W1.cell? ⟨Q, 0, none⟩ = some (.int .i64 B.st)) := KP14.out W1 HBW.out
          have qf : W1.frozen? ⟨V, 1, none⟩ = false := HV1.out.frozen 1
          have qc : W1.cell? ⟨V, 1, none⟩ = some fv := HV1.out.cell 1
          have ql : V < W1.heap.size := HV1.out.lt
          clear hr ho1 hg
          refine wpAnyH_ready (rs := [1, 14]) (by kernel_rfl) (by simp) ?_
          refine AllReadyH.cons rfl (fun K hK => ?_) (AllReadyH.cons rfl (fun K hK => ?_) AllReadyH.nil)
          ·have q1w : w11.cell? ⟨V, 1, none⟩ = some fv := (HVB.out.below k11 HVB.out.lt).cell 1
           go_simp
           refine hK.out _ _ (by exact KP14.out _ (HB9.out.trans (k11.mono HB9.out.size))) (fun hHeld => ?_)
           clear hK K
           try simp only [Act.put, sqA, sqB, sqC, sqD, sqE, sqF]
           refine rdq 14 rfl fun K hK => ?_
           go_simp
           refine hK.out _ _ (by exact KP14.out _ (HB9.out.trans (ka.mono HB9.out.size))) (fun hHeld => ?_)
           clear hK K
           try simp only [Act.put, sqA, sqB, sqC, sqD, sqE, sqF]
           refine rdq 15 rfl fun K hK => ?_
           refine step_append_eqM rfl _ _ _ _ rfl rfl rfl HRUN.out ?_
           refine hK.out _ _ (by exact KPW.out) (fun hHeld => ?_)
           clear hK K
           try simp only [Act.put, sqA, sqB, sqC, sqD, sqE, sqF]
           refine tkq (v := ?_) 16 rfl ?_ ?_
           rotate_left
           ·intro w' hSw
            go_simp <;> with_reducible rfl
           try simp only [Act.put, sqA, sqB, sqC, sqD, sqE, sqF]
           have kE : Below w7.heap.size w7 (W1.setCell ⟨V, 1, none⟩ (.slice (some ⟨g, 0, none⟩) n' cap)) := HBW.out.setCell (p := ⟨V, 1, none⟩) HV7.out _
           refine rdq 17 rfl fun K hK => ?_
           go_simp
           refine hK.out _ _ (by exact KP14.out _ kE) (fun hHeld => ?_)
           clear hK K
           try simp only [Act.put, sqA, sqB, sqC, sqD, sqE, sqF]
           refine wpAnyH_done (by kernel_rfl) ?_ _
           go_wp2_with fail
           go_roundw
           case rel =>
            refine ⟨j3 + 1, by omega, by go_num, .slice (some ⟨g, 0, none⟩) n' cap, HV1.out.set 1 _, ?_, ?_, kE⟩
            ·rw [HZT.out]
             exact owns_keptA HOV.out fun b e => Below.heap_setCell _ _ _ _ (by have := (HOV.out.lt b e).1; have := HVN.out; simp; omega)
            ·have := HN9.out; have := HS1.out; simp [World.setCell]; omega
           case measure => simp [intOf]; omega
          ·go_simp
           refine hK.out _ _ (by exact KP14.out _ (HB9.out.trans (ka.mono HB9.out.size))) (fun hHeld => ?_)
           clear hK K
           try simp only [Act.put, sqA, sqB, sqC, sqD, sqE, sqF]
           refine rdq 1 rfl fun K hK => ?_
           have q1x : (w11.alloc (.cells #[.int .i64 (twoI B.st zm zn)] 3)).cell? ⟨V, 1, none⟩ = some fv := (HVB.out.below ka HVB.out.lt).cell 1
           have q1l : V < (w11.alloc (.cells #[.int .i64 (twoI B.st zm zn)] 3)).heap.size := (HVB.out.below ka HVB.out.lt).lt
           go_simp
           refine hK.out _ _ (by exact KP14.out _ (HB9.out.trans (ka.mono HB9.out.size))) (fun hHeld => ?_)
           clear hK K
           try simp only [Act.put, sqA, sqB, sqC, sqD, sqE, sqF]
           refine rdq 15 rfl fun K hK => ?_
           refine step_append_eqM rfl _ _ _ _ rfl rfl rfl HRUN.out ?_
           refine hK.out _ _ (by exact KPW.out) (fun hHeld => ?_)
           clear hK K
           try simp only [Act.put, sqA, sqB, sqC, sqD, sqE, sqF]
           refine tkq (v := ?_) 16 rfl ?_ ?_
           rotate_left
           ·intro w' hSw
            go_simp <;> with_reducible rfl
           try simp only [Act.put, sqA, sqB, sqC, sqD, sqE, sqF]
           have kE : Below w7.heap.size w7 (W1.setCell ⟨V, 1, none⟩ (.slice (some ⟨g, 0, none⟩) n' cap)) := HBW.out.setCell (p := ⟨V, 1, none⟩) HV7.out _
           refine rdq 17 rfl fun K hK => ?_
           go_simp
           refine hK.out _ _ (by exact KP14.out _ kE) (fun hHeld => ?_)
           clear hK K
           try simp only [Act.put, sqA, sqB, sqC, sqD, sqE, sqF]
           refine wpAnyH_done (by kernel_rfl) ?_ _
           go_wp2_with fail
           go_roundw
           case rel =>
            refine ⟨j3 + 1, by omega, by go_num, .slice (some ⟨g, 0, none⟩) n' cap, HV1.out.set 1 _, ?_, ?_, kE⟩
            ·rw [HZT.out]
             exact owns_keptA HOV.out fun b e => Below.heap_setCell _ _ _ _ (by have := (HOV.out.lt b e).1; have := HVN.out; simp; omega)
            ·have := HN9.out; have := HS1.out; simp [World.setCell]; omega
           case measure => simp [intOf]; omega
        ·have hj3i : ¬ (j3 : Int) < (m.frm.length : Int) := by omega
         have HTM : Hid (m.frm.take j3 = m.frm ∧ n.frm.take j3 = n.frm) := ⟨List.take_of_length_le (by omega), List.take_of_length_le (by rw [← HLEN.out]; omega)⟩
         have HOW2 : Hid (w9.ownsRow wc.heap.size 3 1 fv (List.zipWith (twoI B.st) m.frm n.frm).length ((List.zipWith (twoI B.st) m.frm n.frm).map fun z => .int .i64 z)) := by have h9 := HOWN.out; rw [HTM.out.1, HTM.out.2] at h9; exact h9
         have HPV := hide (pv_of_own HOW2.out)
         obtain ⟨fa, n2, fc, hfv, hn2⟩ : ∃ fa n2 fc, fv = .slice fa n2 fc ∧ n2 = (prMv B.st m n).frm.length := by obtain ⟨fa, fc, h, _⟩ := pv_of_own HOW2.out; exact ⟨fa, _, fc, h, rfl⟩
         subst hfv
         have HB69 : Hid (Below w6.heap.size w6 w9) := BW7.out.trans (hb9.mono BW7.out.size)
         have HB7 : Hid (Below w6.heap.size w6 (w9.alloc (.cells #[.string m.name, .slice fa n2 fc, .int .i64 (twoI B.st m.to n.to)] 40))) := HB69.out.alloc HB69.out.size _
         have HLM : Hid ((pre ++ prRow B.st m (B.mv.take j2)).length ≤ 100000) := by
          have h1 : (prRow B.st m (B.mv.take j2)).length ≤ (B.mv.take j2).length := by unfold prRow; rw [List.length_map]; exact List.length_filter_le _ _
          have h2 := HPL.out
          rw [List.length_take] at h1
          unfold Hid
          rw [List.length_append]
          omega
         obtain ⟨g, cap, W1, ys, X', hr, hO1, hout, hex, hfr⟩ := HO2.out.push (wN := w4) (W := w9.alloc (.cells #[.string m.name, .slice fa n2 fc, .int .i64 (twoI B.st m.to n.to)] 40)) (m := prMv B.st m n) (P := w9.heap.size) (a := fa) (c := fc) HE2.out.size HB7.out (HE2.out.trans (ex_below HB7.out O)) rfl (by rw [← hn2]; exact Blk.new w9 _ _) (by
          have h9 : PV (w9.alloc (.cells #[.string m.name, .slice fa n2 fc, .int .i64 (twoI B.st m.to n.to)] 40)) (fun b => w6.heap.size ≤ b) (.slice fa n2 fc) (List.zipWith (twoI B.st) m.frm n.frm) := (HPV.out.mono fun b h1 _ => by have := BW7.out.size; have := HN37.out; omega).later ((Below.refl _ _).alloc (Nat.le_refl _) _)
          rw [← hn2]
          exact h9) HLM.out
         generalize hv' : ((pre ++ prRow B.st m (B.mv.take j2)).length + 1) = n' at *
         have HRUN := hide hr
         have HO1 := hide hO1
         have HOUT := hide hout
         have HEX := hide hex
         have HFR := hide (hfr M HX2.out HM2.out.lt)
         have q0 : w9.cell? ⟨V, 0, none⟩ = some (.string m.name) := HVB.out.cell 0
         have q1 : w9.cell? ⟨V, 1, none⟩ = some (.slice fa n2 fc) := HVB.out.cell 1
         have q2 : w9.cell? ⟨V, 2, none⟩ = some (.int .i64 (twoI B.st m.to n.to)) := HVB.out.cell 2
         have qv := HVB.out.lt
         have o1 : w9.cell? ⟨O, 1, none⟩ = some mv2 := (HO2.out.blk.below HB69.out HO2.out.blk.lt).cell 1
         have ol6 : O < w9.heap.size := Nat.lt_of_lt_of_le HO2.out.blk.lt HB69.out.size
         have of : W1.frozen? ⟨O, 1, none⟩ = false := HO1.out.frozen 1
         have oc : W1.cell? ⟨O, 1, none⟩ = some mv2 := HO1.out.cell 1
         have ol1 : O < W1.heap.size := HO1.out.lt
         have HST : Hid (pre ++ prRow B.st m (B.mv.take (j2 + 1)) = pre ++ prRow B.st m (B.mv.take j2) ++ [prMv B.st m n]) := by unfold Hid; rw [HTK.out, if_pos HAL.out, List.append_assoc]
         clear hr hO1 hout hex hfr hv' hn2
         go_wp2_with (at_builtin; refine wpList_append_eq rfl _ _ _ _ rfl rfl rfl HRUN.out ?_)
         go_roundw
         case rel => exact ⟨j2 + 1, .slice (some ⟨g, 0, none⟩) n' cap, lv2, ys, X', by omega, by go_num, by rw [HST.out]; exact HOUT.out, HEX.out, by have h9 := HM2.out; unfold Blk at *; rw [HFR.out.2]; exact h9, HFR.out.1⟩
         case measure => simp [intOf]; omega
      ·have hle : ((m.frm.length : Int) != (n.frm.length : Int)) = true := by simp; omega
       have HNX : Hid (prRow B.st m (B.mv.take (j2 + 1)) = prRow B.st m (B.mv.take j2)) := by unfold Hid; rw [HTK.out, if_neg (fun h => hlen (alike_iff.1 h).2), List.append_nil]
       clear hlen
       go_wp2_with fail
       go_roundw
       case rel => exact ⟨j2 + 1, mv2, lv2, xs2, X2, by omega, by go_num, by rw [HNX.out]; exact HO2.out.below BW7.out, E7.out, M7.out, HX2.out⟩
       case measure => simp [intOf]; omega
     ·have hnL : ¬ m.name.toList = n.name.toList := fun h => hnm (name_inj h)
      have HNX : Hid (prRow B.st m (B.mv.take (j2 + 1)) = prRow B.st m (B.mv.take j2)) := by unfold Hid; rw [HTK.out, if_neg (fun h => hnm (alike_iff.1 h).1), List.append_nil]
      clear hnm
      go_wp2_with fail
      go_roundw
      case rel => exact ⟨j2 + 1, mv2, lv2, xs2, X2, by omega, by go_num, by rw [HNX.out]; exact HO2.out.below BW7.out, E7.out, M7.out, HX2.out⟩
      case measure => simp [intOf]; omega
    ·have hj2i : ¬ (j2 : Int) < (B.mv.length : Int) := by omega
     have HST : Hid (pre ++ prRow B.st m (B.mv.take j2) = prMvs B.st (A.mv.take (j + 1)) B.mv) := by unfold Hid; rw [prMvs_take hlt, ← HMJ.out, ← HPRE.out, List.take_of_length_le (by omega)]
     clear ho2 he2 hm2
     go_wp2_with fail
     go_roundw
     case rel => exact ⟨j + 1, mv2, lv2, xs2, X2, by omega, by go_num, by rw [← HST.out]; exact HO2.out, HE2.out⟩
     case measure => simp [intOf]; omega
  ·have hji : ¬ (j : Int) < (A.mv.length : Int) := by omega
   have A2 := hide (A4.out.ex he (by have := HNE.out; omega))
   have t0 : w2.cell? ⟨w.heap.size, 0, none⟩ = some (.int .i64 A.st) := A2.out.cell 0
   have t1 : w2.cell? ⟨w.heap.size, 1, none⟩ = some (.slice am A.mv.length cm) := A2.out.cell 1
   have t2 : w2.cell? ⟨w.heap.size, 2, none⟩ = some (.slice al A.la.length cl) := A2.out.cell 2
   have tl := A2.out.lt
   have HAV := hide (VA4.out.ex he (fun b h => h))
   obtain ⟨ms, hms⟩ : ∃ ms, ms = prMvs B.st A.mv B.mv := ⟨_, rfl⟩
   have HMS := hide hms
   have HO0 : Hid (OutA w2 w4.heap.size O (A.st * B.st) ms [] mv lv xs X1) := by have h9 := ho; rw [List.take_of_length_le (by omega), ← hms] at h9; exact h9
   clear ho he hms
   go_wp2_with fail
   refine (lastOnce_any A (S := 8) (M := 40) (by omega) HA.out _ _ _ (by exact HAV.out)).mono ?_
   rintro e w3 ⟨a9, c9, rfl, hp9, hb9⟩
   obtain ⟨L, hL⟩ : ∃ L, L = lastO A := ⟨_, rfl⟩
   obtain ⟨LB, hLB⟩ : ∃ LB, LB = lastO B := ⟨_, rfl⟩
   have HLL : Hid (L.length ≤ 8 ∧ ∀ z ∈ L, 0 ≤ z ∧ z ≤ 8) := by
    refine ⟨by rw [hL]; have := lastO_len A; omega, fun z hz => ?_⟩
    rw [hL, lastO_mem HA.out.la] at hz
    have := HA.out.la z hz
    omega
   have HLB : Hid (LB.length ≤ 8 ∧ ∀ z ∈ LB, 0 ≤ z ∧ z ≤ 8) := by
    refine ⟨by rw [hLB]; have := lastO_len B; omega, fun z hz => ?_⟩
    rw [hLB, lastO_mem HB.out.la] at hz
    have := HB.out.la z hz
    omega
   rw [← hL] at hp9 ⊢
   have HL := hide hL
   have HLBE := hide hLB
   obtain ⟨laq, hlaq⟩ : ∃ laq, laq = Value.slice a9 L.length c9 := ⟨_, rfl⟩
   have HLAQ := hide hlaq
   have HP9 : Hid (PV w3 (fun b => w2.heap.size ≤ b) laq L) := by unfold Hid; rw [hlaq]; exact hp9
   have O3 : Hid (OutA w3 w4.heap.size O (A.st * B.st) ms [] mv lv xs (fun b => X1 b ∨ w2.heap.size ≤ b)) := (HO0.out.below hb9).more (fun b => w2.heap.size ≤ b) (fun b hb => ⟨Nat.le_trans HE.out.size hb, fun e => by have := (HO0.out.own.lt b e.symm).2; omega, fun e => by have := (HO0.out.las.lt b e.symm).2; omega⟩)
   have E3 := hide (HE.out.trans (ex_below hb9 O))
   clear hp9 hb9 t0 t1 t2 tl hL hLB hlaq
   have hL8 := HLL.out.1
   have hLB8 := HLB.out.1
   have HQ8 : Hid (0 ≤ B.st ∧ B.st ≤ 8) := ⟨hb2, hb1⟩
   go_wp2_with fail
   go_loopw [96] (fun i wr => PI4 L laq B.st LB w4 O (A.st * B.st) ms i wr) (fun i wr => L.length - (intOf i).toNat)
   case atStart => exact ⟨0, mv, lv, xs, _, Nat.zero_le _, rfl, O3.out, E3.out, HP9.out.mono fun b h _ => Or.inr h⟩
   case round =>
    obtain ⟨j4, mv4, lv4, xs4, X4, hj4, rfl, ho4, he4, hp4⟩ := hrel
    obtain ⟨w5, rfl⟩ : ∃ w5, w5 = wr := ⟨_, rfl⟩
    have HO4 := hide ho4
    have HE4 := hide he4
    have HP4 := hide hp4
    by_cases hlt4 : j4 < L.length
    ·have hj4i : (j4 : Int) < (L.length : Int) := by omega
     have hp4' := hp4
     rw [HLAQ.out] at hp4'
     obtain ⟨b4, o4, rfl, hb4, hc4⟩ := hp4'.at (Below.refl w5.heap.size w5) j4 hlt4
     obtain ⟨s, hs⟩ : ∃ s, s = L[j4] := ⟨_, rfl⟩
     have HS8 : Hid (0 ≤ s ∧ s ≤ 8) := HLL.out.2 s (by rw [hs]; exact List.getElem_mem hlt4)
     rw [← hs] at hc4
     obtain ⟨pre, hpre⟩ : ∃ pre, pre = (L.take j4).flatMap fun s => LB.map (twoI B.st s) := ⟨_, rfl⟩
     have HFT : Hid ((L.take (j4 + 1)).flatMap (fun s => LB.map (twoI B.st s)) = pre ++ LB.map (twoI B.st s)) := by unfold Hid; rw [flat_take hlt4, ← hs, hpre]
     have HPL : Hid (pre.length ≤ 64) := by unfold Hid; rw [hpre]; exact flat_len8 (by rw [List.length_take]; omega) HLB.out.1
     rw [← hpre] at ho4
     have HO5 := hide ho4
     have C5 := hide (C4.out.ex he4 (by have := HNE.out; omega))
     have u0 : w5.cell? ⟨Q, 0, none⟩ = some (.int .i64 B.st) := C5.out.cell 0
     have u1 : w5.cell? ⟨Q, 1, none⟩ = some (.slice bm B.mv.length dm) := C5.out.cell 1
     have u2 : w5.cell? ⟨Q, 2, none⟩ = some (.slice bl B.la.length dl) := C5.out.cell 2
     have ul := C5.out.lt
     have HBV := hide (VB4.out.ex he4 (fun b h => h))
     clear hp4' hp4 ho4 he4 HO4 hpre hs
     go_wp2_with fail
     refine (lastOnce_any B (S := 8) (M := 40) (by omega) HB.out _ _ _ (by exact HBV.out)).mono ?_
     rintro e w6 ⟨a8, c8, rfl, hp8, hb8⟩
     rw [← HLBE.out] at hp8 ⊢
     have HP8 := hide hp8
     have O6 : Hid (OutA w6 w4.heap.size O (A.st * B.st) ms pre mv4 lv4 xs4 (fun b => X4 b ∨ w5.heap.size ≤ b)) := (HO5.out.below hb8).more (fun b => w5.heap.size ≤ b) (fun b hb => ⟨Nat.le_trans HE4.out.size hb, fun e => by have := (HO5.out.own.lt b e.symm).2; omega, fun e => by have := (HO5.out.las.lt b e.symm).2; omega⟩)
     have E6 := hide (HE4.out.trans (ex_below hb8 O))
     have PA6 := hide (HP4.out.later hb8)
     clear hp8 hb8 u0 u1 u2 ul hc4
     go_wp2_with fail
     go_loopw [103] (fun i wr => PI5 L laq (.slice a8 LB.length c8) B.st s pre LB w4 O (A.st * B.st) ms i wr) (fun i wr => LB.length - (intOf i).toNat)
     case atStart => exact ⟨0, mv4, lv4, xs4, _, Nat.zero_le _, rfl, by simpa using O6.out, E6.out, PA6.out.mono fun b h _ => Or.inl h, HP8.out.mono fun b h _ => Or.inr h⟩
     case round =>
      obtain ⟨j5, mv9, lv9, xs9, X9, hj5, rfl, ho9, he9, hpa9, hpb9⟩ := hrel
      obtain ⟨w9, rfl⟩ : ∃ w9, w9 = wr := ⟨_, rfl⟩
      have HO9 := hide ho9
      have HE9 := hide he9
      have HPA9 := hide hpa9
      by_cases hlt5 : j5 < LB.length
      ·have hj5i : (j5 : Int) < (LB.length : Int) := by omega
       obtain ⟨b5, o5, rfl, hb5, hc5⟩ := hpb9.at (Below.refl w9.heap.size w9) j5 hlt5
       have HPB9 := hide hpb9
       obtain ⟨r, hr⟩ : ∃ r, r = LB[j5] := ⟨_, rfl⟩
       have HR8 : Hid (0 ≤ r ∧ r ≤ 8) := HLB.out.2 r (by rw [hr]; exact List.getElem_mem hlt5)
       rw [← hr] at hc5
       have HST : Hid (pre ++ (LB.take (j5 + 1)).map (twoI B.st s) = pre ++ (LB.take j5).map (twoI B.st s) ++ [twoI B.st s r]) := by unfold Hid; rw [map_take hlt5, ← hr, List.append_assoc]
       have HL9 : Hid ((pre ++ (LB.take j5).map (twoI B.st s)).length ≤ 100000) := by have := HPL.out; unfold Hid; rw [List.length_append, List.length_map, List.length_take]; omega
       have C9 := hide (C4.out.ex he9 (by have := HNE.out; omega))
       have KP25 : Hid (∀ w', Below w9.heap.size w9 w' → w'.cell? ⟨Q, 0, none⟩ = some (.int .i64 B.st)) := fun w' hb => (C9.out.below hb C9.out.lt).cell 0
       have k9d : Below w9.heap.size w9 w9.drew := (Below.refl _ _).drew
       have HS25 := hide (KP25.out _ k9d)
       have cl9 := C9.out.lt
       have ol9 := HO9.out.blk.lt
       clear hr ho9 he9 hpa9 hpb9
       go_upto_region 25 with fail
       refine wp_region_held_drew (S := (fun w' => w'.cell? ⟨Q, 0, none⟩ = some (.int .i64 B.st))) (by kernel_rfl) HS25.out (fun hHeld => ?_)
       refine tkq (v := ?_) 0 rfl ?_ ?_
       rotate_left
       ·intro w' hSw
        go_simp <;> with_reducible rfl
       try simp only [Act.put, sqA, sqB, sqC, sqD, sqE, sqF]
       refine tkq (v := ?_) 2 rfl ?_ ?_
       rotate_left
       ·intro w' hSw
        go_simp <;> with_reducible rfl
       try simp only [Act.put, sqA, sqB, sqC, sqD, sqE, sqF]
       refine tkq (v := ?_) 3 rfl ?_ ?_
       rotate_left
       ·intro w' hSw
        go_simp <;> with_reducible rfl
       try simp only [Act.put, sqA, sqB, sqC, sqD, sqE, sqF]
       refine tkq (v := ?_) 4 rfl ?_ ?_
       rotate_left
       ·intro w' hSw
        go_simp <;> with_reducible rfl
       try simp only [Act.put, sqA, sqB, sqC, sqD, sqE, sqF]
       refine wpAnyH_ready (rs := [1, 5]) (by kernel_rfl) (by simp) ?_
       refine AllReadyH.cons rfl (fun K hK => ?_) (AllReadyH.cons rfl (fun K hK => ?_) AllReadyH.nil)
       ·have q1d : w9.drew.cell? ⟨O, 2, none⟩ = some lv9 := HO9.out.blk.cell 2
        go_simp
        refine hK.out _ _ (by exact KP25.out _ k9d) (fun hHeld => ?_)
        clear hK K
        try simp only [Act.put, sqA, sqB, sqC, sqD, sqE, sqF]
        refine rdq 5 rfl fun K hK => ?_
        go_simp
        go_at_call 71
        refine (both1_any B.st s r HQ8.out HS8.out HR8.out Q _ (by exact KP25.out _ k9d)).mono ?_
        rintro e w11 ⟨rfl, hb11⟩
        have k11 : Below w9.heap.size w9 w11 := k9d.trans (hb11.mono k9d.size)
        clear hb11
        go_simp
        refine hK.out _ _ (by exact KP25.out _ k11) (fun hHeld => ?_)
        clear hK K
        try simp only [Act.put, sqA, sqB, sqC, sqD, sqE, sqF]
        have ka : Below w9.heap.size w9 (w11.alloc (.cells #[.int .i64 (twoI B.st s r)] 3)) := k11.alloc k11.size _
        obtain ⟨g, cap, W1, X', hr, hO1, hout, hex, hfr⟩ := HO9.out.pushL (wN := w4) (x := twoI B.st s r) (P := w11.heap.size) HE9.out.size ka (HE9.out.trans (ex_below ka O)) rfl (Blk.new w11 _ _) HL9.out
        generalize hv' : ((pre ++ (LB.take j5).map (twoI B.st s)).length + 1) = n' at *
        have HRUN := hide hr
        have HO1 := hide hO1
        have HOUT := hide hout
        have HEX := hide hex
        have HPA : Hid (PV (W1.setCell ⟨O, 2, none⟩ (.slice (some ⟨g, 0, none⟩) n' cap)) X' laq L) := ((HPA9.out.mono (Y := fun b => X9 b ∧ b < w9.heap.size) fun b h1 h2 => ⟨h1, h2⟩).kept fun b hb => (hfr b hb.1 hb.2).2).mono fun b hb _ => (hfr b hb.1 hb.2).1
        have HPB : Hid (PV (W1.setCell ⟨O, 2, none⟩ (.slice (some ⟨g, 0, none⟩) n' cap)) X' (.slice (some ⟨b5, o5, none⟩) LB.length c8) LB) := ((HPB9.out.mono (Y := fun b => X9 b ∧ b < w9.heap.size) fun b h1 h2 => ⟨h1, h2⟩).kept fun b hb => (hfr b hb.1 hb.2).2).mono fun b hb _ => (hfr b hb.1 hb.2).1
        have HXB : Hid (Ex O w4 W1) := by
         have h8 := HEX.out
         refine ⟨h8.os, h8.tape, h8.output, by have := h8.size; simpa [World.setCell] using this, fun q hq hn => ?_⟩
         rw [← h8.block q hq hn]
         exact (Below.heap_setCell _ _ _ _ (by simpa using hn)).symm
        have KPW : Hid (W1.cell? ⟨Q, 0, none⟩ = some (.int .i64 B.st)) := (C4.out.ex HXB.out (by have := HNE.out; omega)).cell 0
        have KPE : Hid ((W1.setCell ⟨O, 2, none⟩ (.slice (some ⟨g, 0, none⟩) n' cap)).cell? ⟨Q, 0, none⟩ = some (.int .i64 B.st)) := (C4.out.ex HEX.out (by have := HNE.out; omega)).cell 0
        have qf : W1.frozen? ⟨O, 2, none⟩ = false := HO1.out.frozen 2
        have qc : W1.cell? ⟨O, 2, none⟩ = some lv9 := HO1.out.cell 2
        have ql : O < W1.heap.size := HO1.out.lt
        clear hr hO1 hout hex hfr hv'
        refine rdq 6 rfl fun K hK => ?_
        go_simp
        refine hK.out _ _ (by exact KP25.out _ ka) (fun hHeld => ?_)
        clear hK K
        try simp only [Act.put, sqA, sqB, sqC, sqD, sqE, sqF]
        refine rdq 7 rfl fun K hK => ?_
        refine step_append_eqM rfl _ _ _ _ rfl rfl rfl HRUN.out ?_
        refine hK.out _ _ (by exact KPW.out) (fun hHeld => ?_)
        clear hK K
        try simp only [Act.put, sqA, sqB, sqC, sqD, sqE, sqF]
        refine tkq (v := ?_) 8 rfl ?_ ?_
        rotate_left
        ·intro w' hSw
         go_simp <;> with_reducible rfl
        try simp only [Act.put, sqA, sqB, sqC, sqD, sqE, sqF]
        refine rdq 9 rfl fun K hK => ?_
        go_simp
        refine hK.out _ _ (by exact KPE.out) (fun hHeld => ?_)
        clear hK K
        try simp only [Act.put, sqA, sqB, sqC, sqD, sqE, sqF]
        refine wpAnyH_done (by kernel_rfl) ?_ _
        go_wp2_with fail
        go_roundw
        case measure => simp [intOf]; omega
        case rel => exact ⟨j5 + 1, mv9, .slice (some ⟨g, 0, none⟩) n' cap, xs9, X', by omega, by go_num, by rw [HST.out]; exact HOUT.out, HEX.out, HPA.out, HPB.out⟩
       ·go_simp
        go_at_call 71
        refine (both1_any B.st s r HQ8.out HS8.out HR8.out Q _ (by exact KP25.out _ k9d)).mono ?_
        rintro e w11 ⟨rfl, hb11⟩
        have k11 : Below w9.heap.size w9 w11 := k9d.trans (hb11.mono k9d.size)
        clear hb11
        go_simp
        refine hK.out _ _ (by exact KP25.out _ k11) (fun hHeld => ?_)
        clear hK K
        try simp only [Act.put, sqA, sqB, sqC, sqD, sqE, sqF]
        have ka : Below w9.heap.size w9 (w11.alloc (.cells #[.int .i64 (twoI B.st s r)] 3)) := k11.alloc k11.size _
        obtain ⟨g, cap, W1, X', hr, hO1, hout, hex, hfr⟩ := HO9.out.pushL (wN := w4) (x := twoI B.st s r) (P := w11.heap.size) HE9.out.size ka (HE9.out.trans (ex_below ka O)) rfl (Blk.new w11 _ _) HL9.out
        generalize hv' : ((pre ++ (LB.take j5).map (twoI B.st s)).length + 1) = n' at *
        have HRUN := hide hr
        have HO1 := hide hO1
        have HOUT := hide hout
        have HEX := hide hex
        have HPA : Hid (PV (W1.setCell ⟨O, 2, none⟩ (.slice (some ⟨g, 0, none⟩) n' cap)) X' laq L) := ((HPA9.out.mono (Y := fun b => X9 b ∧ b < w9.heap.size) fun b h1 h2 => ⟨h1, h2⟩).kept fun b hb => (hfr b hb.1 hb.2).2).mono fun b hb _ => (hfr b hb.1 hb.2).1
        have HPB : Hid (PV (W1.setCell ⟨O, 2, none⟩ (.slice (some ⟨g, 0, none⟩) n' cap)) X' (.slice (some ⟨b5, o5, none⟩) LB.length c8) LB) := ((HPB9.out.mono (Y := fun b => X9 b ∧ b < w9.heap.size) fun b h1 h2 => ⟨h1, h2⟩).kept fun b hb => (hfr b hb.1 hb.2).2).mono fun b hb _ => (hfr b hb.1 hb.2).1
        have HXB : Hid (Ex O w4 W1) := by
         have h8 := HEX.out
         refine ⟨h8.os, h8.tape, h8.output, by have := h8.size; simpa [World.setCell] using this, fun q hq hn => ?_⟩
         rw [← h8.block q hq hn]
         exact (Below.heap_setCell _ _ _ _ (by simpa using hn)).symm
        have KPW : Hid (W1.cell? ⟨Q, 0, none⟩ = some (.int .i64 B.st)) := (C4.out.ex HXB.out (by have := HNE.out; omega)).cell 0
        have KPE : Hid ((W1.setCell ⟨O, 2, none⟩ (.slice (some ⟨g, 0, none⟩) n' cap)).cell? ⟨Q, 0, none⟩ = some (.int .i64 B.st)) := (C4.out.ex HEX.out (by have := HNE.out; omega)).cell 0
        have qf : W1.frozen? ⟨O, 2, none⟩ = false := HO1.out.frozen 2
        have qc : W1.cell? ⟨O, 2, none⟩ = some lv9 := HO1.out.cell 2
        have ql : O < W1.heap.size := HO1.out.lt
        clear hr hO1 hout hex hfr hv'
        refine wpAnyH_ready (rs := [1, 6]) (by kernel_rfl) (by simp) ?_
        refine AllReadyH.cons rfl (fun K hK => ?_) (AllReadyH.cons rfl (fun K hK => ?_) AllReadyH.nil)
        ·have q1w : w11.cell? ⟨O, 2, none⟩ = some lv9 := (HO9.out.blk.below k11 HO9.out.blk.lt).cell 2
         go_simp
         refine hK.out _ _ (by exact KP25.out _ k11) (fun hHeld => ?_)
         clear hK K
         try simp only [Act.put, sqA, sqB, sqC, sqD, sqE, sqF]
         refine rdq 6 rfl fun K hK => ?_
         go_simp
         refine hK.out _ _ (by exact KP25.out _ ka) (fun hHeld => ?_)
         clear hK K
         try simp only [Act.put, sqA, sqB, sqC, sqD, sqE, sqF]
         refine rdq 7 rfl fun K hK => ?_
         refine step_append_eqM rfl _ _ _ _ rfl rfl rfl HRUN.out ?_
         refine hK.out _ _ (by exact KPW.out) (fun hHeld => ?_)
         clear hK K
         try simp only [Act.put, sqA, sqB, sqC, sqD, sqE, sqF]
         refine tkq (v := ?_) 8 rfl ?_ ?_
         rotate_left
         ·intro w' hSw
          go_simp <;> with_reducible rfl
         try simp only [Act.put, sqA, sqB, sqC, sqD, sqE, sqF]
         refine rdq 9 rfl fun K hK => ?_
         go_simp
         refine hK.out _ _ (by exact KPE.out) (fun hHeld => ?_)
         clear hK K
         try simp only [Act.put, sqA, sqB, sqC, sqD, sqE, sqF]
         refine wpAnyH_done (by kernel_rfl) ?_ _
         go_wp2_with fail
         go_roundw
         case measure => simp [intOf]; omega
         case rel => exact ⟨j5 + 1, mv9, .slice (some ⟨g, 0, none⟩) n' cap, xs9, X', by omega, by go_num, by rw [HST.out]; exact HOUT.out, HEX.out, HPA.out, HPB.out⟩
        ·go_simp
         refine hK.out _ _ (by exact KP25.out _ ka) (fun hHeld => ?_)
         clear hK K
         try simp only [Act.put, sqA, sqB, sqC, sqD, sqE, sqF]
         refine rdq 1 rfl fun K hK => ?_
         have q1x : (w11.alloc (.cells #[.int .i64 (twoI B.st s r)] 3)).cell? ⟨O, 2, none⟩ = some lv9 := (HO9.out.blk.below ka HO9.out.blk.lt).cell 2
         go_simp
         refine hK.out _ _ (by exact KP25.out _ ka) (fun hHeld => ?_)
         clear hK K
         try simp only [Act.put, sqA, sqB, sqC, sqD, sqE, sqF]
         refine rdq 7 rfl fun K hK => ?_
         refine step_append_eqM rfl _ _ _ _ rfl rfl rfl HRUN.out ?_
         refine hK.out _ _ (by exact KPW.out) (fun hHeld => ?_)
         clear hK K
         try simp only [Act.put, sqA, sqB, sqC, sqD, sqE, sqF]
         refine tkq (v := ?_) 8 rfl ?_ ?_
         rotate_left
         ·intro w' hSw
          go_simp <;> with_reducible rfl
         try simp only [Act.put, sqA, sqB, sqC, sqD, sqE, sqF]
         refine rdq 9 rfl fun K hK => ?_
         go_simp
         refine hK.out _ _ (by exact KPE.out) (fun hHeld => ?_)
         clear hK K
         try simp only [Act.put, sqA, sqB, sqC, sqD, sqE, sqF]
         refine wpAnyH_done (by kernel_rfl) ?_ _
         go_wp2_with fail
         go_roundw
         case measure => simp [intOf]; omega
         case rel => exact ⟨j5 + 1, mv9, .slice (some ⟨g, 0, none⟩) n' cap, xs9, X', by omega, by go_num, by rw [HST.out]; exact HOUT.out, HEX.out, HPA.out, HPB.out⟩
      ·have hj5i : ¬ (j5 : Int) < (LB.length : Int) := by omega
       have HO10 : Hid (OutA w9 w4.heap.size O (A.st * B.st) ms ((L.take (j4 + 1)).flatMap fun s => LB.map (twoI B.st s)) mv9 lv9 xs9 X9) := by have h9 := ho9; rw [List.take_of_length_le (by omega), ← HFT.out] at h9; exact h9
       clear ho9 he9 hpa9 hpb9
       go_wp2_with fail
       go_roundw
       case rel => exact ⟨j4 + 1, mv9, lv9, xs9, X9, by omega, by go_num, HO10.out, HE9.out, HPA9.out⟩
       case measure => simp [intOf]; omega
    ·have hj4i : ¬ (j4 : Int) < (L.length : Int) := by omega
     have hav := ho4.av
     rw [List.take_of_length_le (by omega), HMS.out, HL.out, HLBE.out] at hav
     obtain ⟨am', cm', al', cl', e9, h9, k9⟩ := hav
     simp only [Value.agg.injEq, Array.mk.injEq, List.cons.injEq, and_true, true_and] at e9
     obtain ⟨rfl, rfl⟩ := e9
     have HSL : Hid (SlV w5 (fun b => w4.heap.size ≤ b) am' (prA A B).mv) := h9
     have HPL : Hid (PV w5 (fun b => w4.heap.size ≤ b) (.slice al' (prA A B).la.length cl') (prA A B).la) := k9
     have O6 : Hid (Blk w5 O #[.int .i64 (A.st * B.st), .slice am' (prA A B).mv.length cm', .slice al' (prA A B).la.length cl'] 25) := ho4.blk
     have R6 := hide (R4.out.ex he4 (by have := HNE.out; omega))
     have HE6 := hide he4
     generalize hn1 : (prA A B).mv.length = n1 at *
     generalize hn2 : (prA A B).la.length = n2 at *
     have HN1 := hide hn1
     have HN2 := hide hn2
     clear ho4 he4 h9 k9 hn1 hn2 hp4
     have x0 : w5.cell? ⟨O, 0, none⟩ = some (.int .i64 (A.st * B.st)) := O6.out.cell 0
     have x1 : w5.cell? ⟨O, 1, none⟩ = some (.slice am' n1 cm') := O6.out.cell 1
     have x2 : w5.cell? ⟨O, 2, none⟩ = some (.slice al' n2 cl') := O6.out.cell 2
     have xl := O6.out.lt
     have r0 : w5.cell? ⟨R, 0, none⟩ = some (.int .i64 0) := R6.out.cell 0
     have r1 : w5.cell? ⟨R, 1, none⟩ = some (.slice none 0 0) := R6.out.cell 1
     have r2 : w5.cell? ⟨R, 2, none⟩ = some (.slice none 0 0) := R6.out.cell 2
     have rl := R6.out.lt
     have rf := R6.out.frozen
     go_wp2_with fail
     refine bodyPost_ret (v := .agg #[.int .i64 (A.st * B.st), .slice am' n1 cm', .slice al' n2 cl']) (by simp [results, Try.results51, go_sem, World.cell?_setCell_same, World.cell?_setCell_other, r0, r1, r2]) rfl ?_
     have hex := set3_ex (w := w5) R (.int .i64 (A.st * B.st)) (.slice am' n1 cm') (.slice al' n2 cl')
     refine ⟨am', cm', al', cl', by rw [HN1.out, HN2.out]; rfl, ?_, ?_, ?_⟩
     ·exact (HSL.out.ex hex (fun b hb => by have := HNE.out; omega)).mono fun b hb _ => Nat.le_trans B4.out.size hb
     ·rw [HN2.out]
      exact (HPL.out.ex hex (fun b hb => by have := HNE.out; omega)).mono fun b hb _ => Nat.le_trans B4.out.size hb
     ·have h1 := HE6.out
      refine ⟨hex.os.trans (h1.os.trans B4.out.os), hex.tape.trans (h1.tape.trans B4.out.tape), hex.output.trans (h1.output.trans B4.out.output), Nat.le_trans B4.out.size (Nat.le_trans h1.size hex.size), fun q hq => ?_⟩
      have hz := B4.out.size
      have hz2 := h1.size
      rw [hex.block q (by omega) (by have := HNE.out; omega), h1.block q (by omega) (by have := HNE.out; omega), B4.out.block q hq]
end Go.Proofs.Ytofebfjkodceeaa
