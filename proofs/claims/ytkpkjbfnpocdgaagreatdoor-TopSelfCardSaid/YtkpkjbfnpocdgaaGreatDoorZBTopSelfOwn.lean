/- Several texts in one. -/
import Derived.Test.YtkpkjbfnpocdgaaGreatDoorZTopSelfOwn
import Derived.Deep.RegionHeld3
import Derived.Laws.EntriesVeiled
import Derived.Test.YtkpkjbfnpocdgaaGreatDoorRows
import Derived.Test.YtkpkjbfnpocdgaaGreatDoorShelf
import Derived.Ground.SlgnProg
import Derived.Shelf.SlicesE.Clone
import Derived.Deep.DeepCutAuto
namespace Go.Proofs.YtkpkjbfnpocdgaaGreatDoor
open Go.RowKit
set_option linter.unusedSimpArgs false
set_option linter.unusedVariables false
set_option maxRecDepth 8000
def TyP (p : UInt8) (E : Nat → Prop) (N P T n : Nat) (q : Value) (cs : List Pc) (t : Lm) (ar : List Tm) (w : World) (e : Ending) (w' : World) : Prop :=
 ∃ a c q' cs', e = .returned (.agg #[.string (tyT p t ar n).1.name, .slice a (tyT p t ar n).1.args.length c]) ∧ Sl w' (Zq E N P q') a (tyT p t ar n).1.args ∧ AsK E w' N P T (tyT p t ar n).2.2 q' cs' ∧ cs'.map (·.1) = cs.map (·.1) ++ (tyT p t ar n).2.1 ∧ AsF w w' P q q'
theorem slice_full {w : World} {Z : Nat → Prop} {au : Option Addr} {ar : List Tm} {ac : Nat} (hac : ar.length ≤ ac) (hs : Sl w Z au ar) (w' : World) : Sem.run Tryz.prog (Instr.slice 52 (.slice au ar.length ac) none (some (.int .i64 (ar.length : Int))) (some (.int .i64 (ar.length : Int)))) w' = .ok (.slice au ar.length ar.length) w' := by
 have h1 := Tryz.underlying52
 have hm := hs.1
 rw [run_slice_hm (P := Tryz.prog) (ht := h1) (h0 := by omega) (h2 := by omega) (h3 := by omega)]
 simp [go_sem, sliced]
theorem belSizeI {B : Nat} {w w' : World} (h : Below B w w') (hB : B ≤ w.heap.size) : B ≤ w'.heap.size := Nat.le_trans hB h.size
theorem belSetI {B : Nat} {w w' : World} (h : Below B w w') {R : Nat} (hR : B ≤ R) (i : Nat) (v : Value) : Below B w (w'.setCell ⟨R, i, none⟩ v) :=
 ⟨h.os, h.tape, h.output, by have := h.size; simp [World.setCell]; omega, fun k hk => by rw [Below.heap_setCell _ _ _ _ (by simp; omega)]; exact h.block k hk⟩
theorem ty_cnt {p : UInt8} (t : Lm) : ∀ (ar : List Tm) (n : Nat), errM ar.length 0 [t] = 0 → csL [t] = false → (tyT p t ar n).2.2 ≤ n + sizeM [t] ∧ 2 * (tyT p t ar n).2.1.length + 1 ≤ sizeM [t] := by
 induction t using Lm.ind with
 | h k i l ih =>
  intro ar n he hc
  rcases may_look he with ⟨x, e, h1, h2⟩ | ⟨b, e, hb⟩ | ⟨f, a, e, hf, hx⟩ | ⟨x, e, _, _⟩
  ·cases e
   rw [tyT_bound]
   simp [sizeM]
  ·cases e
   rw [tyT_fun]
   have hc' : csL [b] = false := by rw [csL_one] at hc; simpa using hc
   have hz := sizeM_oneI 2 0 [b]
   have hl : ((ar ++ [vrT p (n + 1)]).length : Int) = (ar.length : Int) + 1 := by simp
   have h := ih b (by simp) (ar ++ [vrT p (n + 1)]) (n + 1) (by rw [hl]; exact hb) hc'
   simp only
   omega
  ·cases e
   rw [tyT_app]
   have hc1 : csL [f] = false ∧ csL [a] = false := by
    rw [csL_one, csL_cons] at hc
    simpa using hc
   have hz : sizeM [(⟨3, 0, [f, a]⟩ : Lm)] = 1 + (sizeM [f] + sizeM [a]) := by rw [sizeM_oneI, sizeM_two]
   have h1 := ih f (by simp) ar n hf hc1.1
   have h2 := ih a (by simp) ar (tyT p f ar n).2.2 hx hc1.2
   simp only [List.length_append, List.length_singleton]
   omega
  ·cases e
   rw [csL_one] at hc
   simp at hc
theorem tyM_pos (t : Lm) : 1 ≤ sizeM [t] := by obtain ⟨k, x, l⟩ := t; simp [sizeM]
theorem zq_alloc {w : World} {E : Nat → Prop} {N P T n : Nat} {q : Value} {cs : List Pc} (h : AsK E w N P T n q cs) (hE : ∀ b, E b → b < w.heap.size) : ∀ b, w.heap.size ≤ b → Zq E N P q b := fun b hb => ⟨Nat.le_trans h.le hb, by have := h.box.lt; omega, fun e => by have := (h.own.lt b e.symm).2; omega, fun e => by have := hE b e; omega⟩
set_option maxHeartbeats 8000000 in
theorem typeI_any {B : Nat} (t : Lm) : ∀ (E : Nat → Prop) (N P n : Nat) (q v : Value) (cs : List Pc) (ar : List Tm) (au : Option Addr) (ac : Nat) (w : World) (X : Nat → Prop), errM ar.length 0 [t] = 0 → csL [t] = false → n + sizeM [t] ≤ 900 → cs.length + sizeM [t] ≤ 100000 → ar.length + sizeM [t] ≤ 1000 → ar.length ≤ ac → MV w X v t → (∀ x, X x → x < B) → B ≤ N → Tb B w → AsK E w N P 51 n q cs → Sl w (Zq E N P q) au ar → (∀ b, E b → b < w.heap.size) →
  Calls Tryz.prog 21 #[.pointer (some ⟨P, 0, none⟩), v, .slice au ar.length ac] w fun e w' => TyP 86 E N P 51 n q cs t ar w e w' := by
 induction t using Lm.ind with
 | h k0 i0 l0 ih =>
  intro E N P n q v cs ar au ac w X he hc hn hcs har hac hv hX hBN hT hK hS hEw
  have IH := hide ih
  clear ih
  obtain ⟨a, c, rfl, hs⟩ := hv
  have HX := hide hX
  have HT := hide hT
  have HAR := hide har
  have HN := hide hn
  have HCS := hide hcs
  rcases may_look he with ⟨x, e, h1, h2⟩ | ⟨b, e, hb⟩ | ⟨f, x, e, hf, hx⟩ | ⟨x, e, _, _⟩
  ·cases e
   obtain ⟨i, rfl⟩ : ∃ i : Nat, i0 = (i : Int) := ⟨i0.toNat, by omega⟩
   have hil : i < ar.length := by omega
   have K1 := hide (hK.later ((Below.refl _ _).alloc (Nat.le_refl _) (.cells #[.int .i64 1, .int .i64 (i : Int), .slice a 0 c] 25)))
   have K2 : Hid (AsK (fun b => E b ∨ b = w.heap.size + 1) ((w.alloc (.cells #[.int .i64 1, .int .i64 (i : Int), .slice a 0 c] 25)).alloc (.cells #[.string ⟨#[]⟩, .slice none 0 0] 54)) N P 51 n q cs) := (hK.excl (E' := fun b => E b ∨ b = w.heap.size + 1) fun b hb h => h.elim id (fun h => by omega)).later (((Below.refl _ _).alloc (Nat.le_refl _) _).alloc (by simp) _)
   have A2 : Hid (Bq ((w.alloc (.cells #[.int .i64 1, .int .i64 (i : Int), .slice a 0 c] 25)).alloc (.cells #[.string ⟨#[]⟩, .slice none 0 0] 54)) P q w.heap.size #[.int .i64 1, .int .i64 (i : Int), .slice a 0 c] 25) := (Bq.new hK _ _).later ((Below.refl _ _).alloc (Nat.le_refl _) _)
   have R2 : Hid (Bq ((w.alloc (.cells #[.int .i64 1, .int .i64 (i : Int), .slice a 0 c] 25)).alloc (.cells #[.string ⟨#[]⟩, .slice none 0 0] 54)) P q (w.heap.size + 1) #[.string ⟨#[]⟩, .slice none 0 0] 54) := by have h := Bq.new K1.out #[.string ⟨#[]⟩, .slice none 0 0] 54; rw [World.size_alloc] at h; exact h
   have B2 : Hid (Below w.heap.size w ((w.alloc (.cells #[.int .i64 1, .int .i64 (i : Int), .slice a 0 c] 25)).alloc (.cells #[.string ⟨#[]⟩, .slice none 0 0] 54))) := ((Below.refl _ _).alloc (Nat.le_refl _) _).alloc (by simp) _
   have S2 := hide ((sl_excl (E' := fun b => E b ∨ b = w.heap.size + 1) hS fun b hb h => h.elim id (fun h => by omega)).later B2.out)
   have F2 := hide (AsF.ofBelow B2.out P q)
   clear hK hS K1
   have HR := hide (tyT_bound 86 (i : Int) ar n)
   have hlt : ar.length - 1 - i < ar.length := by omega
   have HG : Hid ((tyT 86 ⟨1, (i : Int), []⟩ ar n).1 = ar[ar.length - 1 - i]) := by unfold Hid; rw [HR.out]; show ar.getD (ar.length - 1 - (i : Int).toNat) noT = _; rw [Int.toNat_natCast, List.getD_eq_getElem?_getD, List.getElem?_eq_getElem hlt]; rfl
   have HR2 : Hid ((tyT 86 ⟨1, (i : Int), []⟩ ar n).2 = ([], n)) := by unfold Hid; rw [HR.out]
   obtain ⟨b, o, a', c', rfl, d0, d1, hx⟩ := S2.out.get (Below.refl _ _) (fun _ _ h => h) (ar.length - 1 - i) hlt
   obtain ⟨j, hj⟩ : ∃ j, j = ar.length - 1 - i := ⟨_, rfl⟩
   have hji : (ar.length : Int) - 1 - (i : Int) = (j : Int) := by omega
   have HJ : Hid (ar.length - 1 - i = j) := hj.symm
   have hjl : (j : Int) < (ar.length : Int) := by omega
   have HM := S2.out.1
   obtain ⟨y, hy⟩ : ∃ y, y = ar[ar.length - 1 - i] := ⟨_, rfl⟩
   rw [← hy] at d0 d1 hx HG
   rw [← hj] at d0 d1
   clear hy hj hlt
   obtain ⟨a9, c9, e9, hy9⟩ := hx
   cases e9
   have Y9 := hide hy9
   clear hy9
   go_enter Tryz.func21, Tryz.ntmps21
   go_upto_region 1 with fail
   generalize ((w.alloc (.cells #[.int .i64 1, .int .i64 (i : Int), .slice a 0 c] 25)).alloc (.cells #[.string ⟨#[]⟩, .slice none 0 0] 54)) = w2 at *
   have x0 := A2.out.1.c0
   have x1 := A2.out.1.c1
   have x2 := A2.out.1.c2
   have r0 := R2.out.1.c0
   have r1 := R2.out.1.c1
   have f0 : w2.frozen? ⟨w.heap.size + 1, 0, none⟩ = false := R2.out.1.frozen 0
   have f1 : w2.frozen? ⟨w.heap.size + 1, 1, none⟩ = false := R2.out.1.frozen 1
   have hneg : ¬ ((ar.length : Int) - 1 - (i : Int) < 0) := by omega
   go_wp2_with fail
   obtain ⟨K3, F3, R3, S3⟩ := K2.out.store F2.out R2.out (by omega) (.string y.name) (.slice a' y.args.length c') Y9.out
   generalize ((w2.setCell ⟨w.heap.size + 1, 0, none⟩ (.string y.name)).setCell ⟨w.heap.size + 1, 1, none⟩ (.slice a' y.args.length c')) = w5 at *
   have c0 := R3.cell 0
   have c1 := R3.cell 1
   simp only [List.getElem?_toArray, List.getElem?_cons_zero, List.getElem?_cons_succ] at c0 c1
   refine bodyPost_ret (v := .agg #[.string y.name, .slice a' y.args.length c']) (by simp [results, Tryz.results21, go_sem, c0, c1]) rfl ?_
   refine ⟨a', c', q, cs, ?_, ?_, ?_, ?_, F3⟩
   ·rw [HG.out]
   ·rw [HG.out]; exact S3
   ·rw [HR2.out]; exact K3
   ·rw [HR2.out]; simp
  ·cases e
   obtain ⟨b', o', a1, c1, rfl, hKP⟩ := slM_one (B := B) hs hX
   have KP := hide hKP
   have hK0 := hK.le
   have hq0 : ∀ b, some b = q.ownBlock → N ≤ b ∧ b < w.heap.size := fun b hb => hK.own.lt b hb.symm
   have IHB := hide (IH.out b (by simp))
   clear hKP hs IH
   have e1 : ([b] : List Lm).length = 1 := rfl
   rw [e1]
   clear e1
   have K1 := hide (hK.later ((Below.refl _ _).alloc (Nat.le_refl _) (.cells #[.int .i64 2, .int .i64 0, .slice (some ⟨b', o', none⟩) 1 c] 25)))
   have K2 : Hid (AsK (fun b => E b ∨ b = w.heap.size + 1) ((w.alloc (.cells #[.int .i64 2, .int .i64 0, .slice (some ⟨b', o', none⟩) 1 c] 25)).alloc (.cells #[.string ⟨#[]⟩, .slice none 0 0] 54)) N P 51 n q cs) := (hK.excl (E' := fun b => E b ∨ b = w.heap.size + 1) fun b hb h => h.elim id (fun h => by omega)).later (((Below.refl _ _).alloc (Nat.le_refl _) _).alloc (by simp) _)
   have A2 : Hid (Bq ((w.alloc (.cells #[.int .i64 2, .int .i64 0, .slice (some ⟨b', o', none⟩) 1 c] 25)).alloc (.cells #[.string ⟨#[]⟩, .slice none 0 0] 54)) P q w.heap.size #[.int .i64 2, .int .i64 0, .slice (some ⟨b', o', none⟩) 1 c] 25) := (Bq.new hK _ _).later ((Below.refl _ _).alloc (Nat.le_refl _) _)
   have R2 : Hid (Bq ((w.alloc (.cells #[.int .i64 2, .int .i64 0, .slice (some ⟨b', o', none⟩) 1 c] 25)).alloc (.cells #[.string ⟨#[]⟩, .slice none 0 0] 54)) P q (w.heap.size + 1) #[.string ⟨#[]⟩, .slice none 0 0] 54) := by have h := Bq.new K1.out #[.string ⟨#[]⟩, .slice none 0 0] 54; rw [World.size_alloc] at h; exact h
   have B2 : Hid (Below w.heap.size w ((w.alloc (.cells #[.int .i64 2, .int .i64 0, .slice (some ⟨b', o', none⟩) 1 c] 25)).alloc (.cells #[.string ⟨#[]⟩, .slice none 0 0] 54))) := ((Below.refl _ _).alloc (Nat.le_refl _) _).alloc (by simp) _
   have S2 := hide ((sl_excl (E' := fun b => E b ∨ b = w.heap.size + 1) hS fun b hb h => h.elim id (fun h => by omega)).later B2.out)
   have F2 := hide (AsF.ofBelow B2.out P q)
   clear hK hS K1
   have HF := hide (tyT_fun 86 0 b ar n)
   have hzb : sizeM [(⟨2, 0, [b]⟩ : Lm)] = 1 + sizeM [b] := sizeM_oneI 2 0 [b]
   have HZB := hide hzb
   rw [hzb] at hn hcs har
   clear hzb HN HCS HAR
   have hcb : csL [b] = false := by rw [csL_one] at hc; simpa using hc
   have HCB := hide hcb
   clear hcb hc he
   have HEB : Hid (errM ((ar ++ [vrT 86 (n + 1)]).length) 0 [b] = 0) := by unfold Hid; rw [show ((ar ++ [vrT 86 (n + 1)]).length : Int) = (ar.length : Int) + 1 by simp]; exact hb
   clear hb hX hT
   have UP2 : Hid (Below B w _) := B2.out.mono (Nat.le_trans hBN hK0)
   have HT2 := hide (HT.out.on UP2.out)
   go_enter Tryz.func21, Tryz.ntmps21
   go_upto_region 1 with fail
   generalize ((w.alloc (.cells #[.int .i64 2, .int .i64 0, .slice (some ⟨b', o', none⟩) 1 c] 25)).alloc (.cells #[.string ⟨#[]⟩, .slice none 0 0] 54)) = w2 at *
   have x0 := A2.out.1.c0
   have x1 := A2.out.1.c1
   have x2 := A2.out.1.c2
   go_wp2_with fail
   refine (freshI_any K2.out (by omega) hBN HT2.out).mono ?_
   rintro e w3 ⟨rfl, hk3, hf3⟩
   have K4 : Hid (AsK (fun b => E b ∨ b = w.heap.size + 1) (w3.alloc (.cells #[.string (vrN 86 (n + 1)), .slice none 0 0] 54)) N P 51 (n + 1) q cs) := hk3.later ((Below.refl _ _).alloc (Nat.le_refl _) _)
   have F4 : Hid (AsF w (w3.alloc (.cells #[.string (vrN 86 (n + 1)), .slice none 0 0] 54)) P q q) := (F2.out.trans hf3).then ((Below.refl _ _).alloc (Nat.le_refl _) _)
   have V4 : Hid (Bq (w3.alloc (.cells #[.string (vrN 86 (n + 1)), .slice none 0 0] 54)) P q w3.heap.size #[.string (vrN 86 (n + 1)), .slice none 0 0] 54) := Bq.new hk3 _ _
   have A4 := hide ((hf3.bq A2.out).later ((Below.refl _ _).alloc (Nat.le_refl _) (.cells #[.string (vrN 86 (n + 1)), .slice none 0 0] 54)))
   have R4 := hide ((hf3.bq R2.out).later ((Below.refl _ _).alloc (Nat.le_refl _) (.cells #[.string (vrN 86 (n + 1)), .slice none 0 0] 54)))
   have S4 := hide ((hf3.sl S2.out).later ((Below.refl _ _).alloc (Nat.le_refl _) (.cells #[.string (vrN 86 (n + 1)), .slice none 0 0] 54)))
   clear hk3 hf3 K2 F2 A2 R2 S2 x0 x1 x2
   go_upto_region 6 with fail
   generalize w3.heap.size = V at *
   generalize w3.alloc (.cells #[.string (vrN 86 (n + 1)), .slice none 0 0] 54) = w4 at *
   have KV : Hid (∀ w', Below w4.heap.size w4 w' → w'.cell? ⟨V, 0, none⟩ = some (.string (vrN 86 (n + 1))) ∧ w'.cell? ⟨V, 1, none⟩ = some (.slice none 0 0)) := fun w' hb => ⟨(V4.out.later hb).1.cell 0, (V4.out.later hb).1.cell 1⟩
   have kd : Below w4.heap.size w4 w4.drew := (Below.refl _ _).drew
   have sliced : ∀ w' : World, Sem.run Tryz.prog (Instr.slice 52 (.slice au ar.length ac) none (some (.int .i64 (ar.length : Int))) (some (.int .i64 (ar.length : Int)))) w' = .ok (.slice au ar.length ar.length) w' := fun w' => slice_full hac S4.out w'
   refine wp_region_held_drew (S := Below w4.heap.size w4) (by kernel_rfl) kd (fun hHeld => ?_)
   refine tkq (v := ?_) 0 rfl ?_ ?_
   rotate_left
   ·intro w' hSw
    go_simp <;> with_reducible rfl
   try simp only [Act.put, sq]
   refine tkq (v := ?_) 1 rfl ?_ ?_
   rotate_left
   ·intro w' hSw
    go_simp <;> with_reducible rfl
   try simp only [Act.put, sq]
   refine tkq (v := ?_) 2 rfl ?_ ?_
   rotate_left
   ·intro w' hSw
    go_simp <;> with_reducible rfl
   try simp only [Act.put, sq]
   refine tkq (v := ?_) 3 rfl ?_ ?_
   rotate_left
   ·intro w' hSw
    go_simp <;> with_reducible rfl
   try simp only [Act.put, sq]
   refine tkq (v := ?_) 4 rfl ?_ ?_
   rotate_left
   ·intro w' hSw
    go_simp <;> with_reducible rfl
   try simp only [Act.put, sq]
   refine tkq (v := ?_) 5 rfl ?_ ?_
   rotate_left
   ·intro w' hSw
    have hsl := sliced w'
    go_simp <;> with_reducible rfl
   try simp only [Act.put, sq]
   refine tkq (v := ?_) 6 rfl ?_ ?_
   rotate_left
   ·intro w' hSw
    obtain ⟨y0, y1⟩ := KV.out w' hSw
    go_simp <;> with_reducible rfl
   try simp only [Act.put, sq]
   have k5 : Below w4.heap.size w4 ((w4.alloc (.cells #[.string (vrN 86 (n + 1)), .slice none 0 0] 54)).drew) := ((Below.refl _ _).alloc (Nat.le_refl _) _).drew
   have Q5 : Hid (Blk ((w4.alloc (.cells #[.string (vrN 86 (n + 1)), .slice none 0 0] 54)).drew) w4.heap.size #[.string (vrN 86 (n + 1)), .slice none 0 0] 54) := Blk.new w4 _ _
   have S5 := hide (S4.out.later k5)
   refine rdq 7 rfl fun K hK => ?_
   go_simp
   refine hK.out _ _ (by exact k5) (fun hHeld => ?_)
   clear hK K
   try simp only [Act.put, sq]
   generalize ((w4.alloc (.cells #[.string (vrN 86 (n + 1)), .slice none 0 0] 54)).drew) = w5 at *
   obtain ⟨g, cap, w6, hap, hs6, hb6, hg6, hc6⟩ := ar_app (N := N) S5.out (by omega) Q5.out
   have HAP := hide hap
   have k6 : Below w4.heap.size w4 w6 := k5.trans (hb6.mono k5.size)
   refine rdq 8 rfl fun K hK => ?_
   refine step_append_eqM rfl _ _ _ _ rfl rfl rfl HAP.out ?_
   refine hK.out _ _ (by exact k6) (fun hHeld => ?_)
   clear hK K
   try simp only [Act.put, sq]
   refine tkq (v := ?_) 9 rfl ?_ ?_
   rotate_left
   ·intro w' hSw
    go_simp <;> with_reducible rfl
   try simp only [Act.put, sq]
   refine wpAnyH_done (by kernel_rfl) ?_ _
   have hE4 : ∀ b, (E b ∨ b = w.heap.size + 1) → b < w4.heap.size := fun b hb => by have h1 := R4.out.1.lt; rcases hb with hb | hb; exact Nat.lt_trans (hEw b hb) (by omega); omega
   have S6 : Hid (Sl w6 (Zq (fun b => E b ∨ b = w.heap.size + 1) N P q) (some ⟨g, 0, none⟩) (ar ++ [vrT 86 (n + 1)])) := hs6.mono fun b hb _ => hb.elim id (fun e => by rw [e]; exact zq_alloc K4.out hE4 g (Nat.le_trans k5.size hg6))
   have K6 := hide (K4.out.later k6)
   have F6 := hide (F4.out.then k6)
   have A6 := hide (A4.out.later k6)
   have R6 := hide (R4.out.later k6)
   have V6 := hide (V4.out.later k6)
   have HE6 : Hid (∀ b, (E b ∨ b = w.heap.size + 1) → b < w6.heap.size) := fun b hb => Nat.lt_of_lt_of_le (hE4 b hb) k6.size
   have HVR : Hid (V ≠ w.heap.size + 1) := fun e => by have h1 := V4.out.1; have h2 := R4.out.1; rw [e] at h1; have h3 := h1.cell 0; have h4 := h2.cell 0; rw [h3] at h4; simp [vrN] at h4
   have HCAP := hide hc6
   clear hs6 hb6 hg6 hc6 k6 k5 kd S5 Q5 S4 K4 F4 A4 R4 V4 KV hE4 HAP hap sliced
   skip
   have UP6 : Hid (Below B w w6) := (F6.out.1.below hK0 (fun b hb => by rcases hb with rfl | hb; exact K6.out.ge; exact (hq0 b hb).1)).mono hBN
   have KS : Hid (∀ w', (Blk w' V #[.string (vrN 86 (n + 1)), .slice none 0 0] 54 ∧ Blk w' w.heap.size #[.int .i64 2, .int .i64 0, .slice (some ⟨b', o', none⟩) 1 c] 25 ∧ Below B w w') → (w'.cell? ⟨V, 0, none⟩ = some (.string (vrN 86 (n + 1))) ∧ w'.cell? ⟨V, 1, none⟩ = some (.slice none 0 0)) ∧ w'.cell? ⟨w.heap.size, 2, none⟩ = some (.slice (some ⟨b', o', none⟩) 1 c) ∧ (w'.cell? ⟨b', o', none⟩ = some (.int .i64 b.kind) ∧ w'.cell? ⟨b', o' + 1, none⟩ = some (.int .i64 b.idx) ∧ w'.cell? ⟨b', o' + 2, none⟩ = some (.slice a1 b.subs.length c1))) := fun w' h => ⟨⟨h.1.cell 0, h.1.cell 1⟩, h.2.1.cell 2, (KP.out w' h.2.2).1⟩
   go_wp2_with fail
   have kd : Blk w6.drew V #[.string (vrN 86 (n + 1)), .slice none 0 0] 54 ∧ Blk w6.drew w.heap.size #[.int .i64 2, .int .i64 0, .slice (some ⟨b', o', none⟩) 1 c] 25 ∧ Below B w w6.drew := ⟨V6.out.1, A6.out.1, UP6.out.drew⟩
   refine wp_region_held_drew (S := fun w' => Blk w' V #[.string (vrN 86 (n + 1)), .slice none 0 0] 54 ∧ Blk w' w.heap.size #[.int .i64 2, .int .i64 0, .slice (some ⟨b', o', none⟩) 1 c] 25 ∧ Below B w w') (by kernel_rfl) kd (fun hHeld => ?_)
   refine tkq (v := ?_) 0 rfl ?_ ?_
   rotate_left
   ·intro w' hSw
    obtain ⟨⟨y0, y1⟩, y2, y3, y4, y5⟩ := KS.out w' hSw
    go_simp <;> with_reducible rfl
   try simp only [Act.put, sq]
   refine tkq (v := ?_) 1 rfl ?_ ?_
   rotate_left
   ·intro w' hSw
    go_simp <;> with_reducible rfl
   try simp only [Act.put, sq]
   refine tkq (v := ?_) 2 rfl ?_ ?_
   rotate_left
   ·intro w' hSw
    go_simp <;> with_reducible rfl
   try simp only [Act.put, sq]
   refine tkq (v := ?_) 3 rfl ?_ ?_
   rotate_left
   ·intro w' hSw
    obtain ⟨⟨y0, y1⟩, y2, y3, y4, y5⟩ := KS.out w' hSw
    go_simp <;> with_reducible rfl
   try simp only [Act.put, sq]
   refine tkq (v := ?_) 4 rfl ?_ ?_
   rotate_left
   ·intro w' hSw
    go_simp <;> with_reducible rfl
   try simp only [Act.put, sq]
   refine tkq (v := ?_) 5 rfl ?_ ?_
   rotate_left
   ·intro w' hSw
    obtain ⟨⟨y0, y1⟩, y2, y3, y4, y5⟩ := KS.out w' hSw
    go_simp <;> with_reducible rfl
   try simp only [Act.put, sq]
   refine tkq (v := ?_) 6 rfl ?_ ?_
   rotate_left
   ·intro w' hSw
    go_simp <;> with_reducible rfl
   try simp only [Act.put, sq]
   have CALL := IHB.out (fun b => E b ∨ b = w.heap.size + 1) N P (n + 1) q (.agg #[.int .i64 b.kind, .int .i64 b.idx, .slice a1 b.subs.length c1]) cs (ar ++ [vrT 86 (n + 1)]) (some ⟨g, 0, none⟩) cap w6.drew X HEB.out HCB.out (by omega) (by omega) (by simp; omega) (by simp; exact HCAP.out) (KP.out w6.drew kd.2.2).2 HX.out hBN (HT.out.on kd.2.2) (K6.out.later (Below.refl _ _).drew) (S6.out.later (Below.refl _ _).drew) HE6.out
   rw [show (ar ++ [vrT 86 (n + 1)]).length = ar.length + 1 by simp] at CALL
   have HCALL := hide CALL
   clear CALL
   refine rdq 7 rfl fun K hK => ?_
   go_simp
   go_at_call 21
   refine HCALL.out.mono ?_
   rintro e w7 ⟨a7, c7, q7, cs7, rfl, hs7, hk7, hm7, hf7⟩
   have F7 : Hid (AsF w w7 P q q7) := (F6.out.then (Below.refl _ _).drew).trans hf7
   have V7 := hide (hf7.bq (V6.out.later (Below.refl _ _).drew))
   have A7 := hide (hf7.bq (A6.out.later (Below.refl _ _).drew))
   have R7 := hide (hf7.bq (R6.out.later (Below.refl _ _).drew))
   have UP7 : Hid (Below B w w7) := (F7.out.1.below hK0 (fun b hb => by rcases hb with rfl | hb; exact K6.out.ge; exact (hq0 b hb).1)).mono hBN
   have k7 : Blk w7 V #[.string (vrN 86 (n + 1)), .slice none 0 0] 54 ∧ Blk w7 w.heap.size #[.int .i64 2, .int .i64 0, .slice (some ⟨b', o', none⟩) 1 c] 25 ∧ Below B w w7 := ⟨V7.out.1, A7.out.1, UP7.out⟩
   have K7 := hide hk7
   have S7 := hide hs7
   have M7 := hide hm7
   have hE7 : Hid (∀ b, (E b ∨ b = w.heap.size + 1) → b < w7.heap.size) := fun b hb => Nat.lt_of_lt_of_le (HE6.out b hb) hf7.1.size
   clear hs7 hk7 hm7 hf7 V6 A6 R6 K6 F6 HE6 HCALL S6 UP6
   generalize hty : tyT 86 b (ar ++ [vrT 86 (n + 1)]) (n + 1) = r at *
   clear hty
   go_simp
   refine hK.out _ _ (by exact k7) (fun hHeld => ?_)
   clear hK K
   try simp only [Act.put, sq]
   refine rdq 8 rfl fun K hK => ?_
   go_simp
   go_at_call 36
   refine (arrowI_any (vrT 86 (n + 1)) r.1 _ _ _ (Zq (fun b => E b ∨ b = w.heap.size + 1) N P q7) ⟨none, 0, rfl, by simp [vrT], Or.inl rfl⟩ ⟨_, _, rfl, S7.out⟩).mono ?_
   rintro e w8 ⟨v8, rfl, ⟨a8, c8, rfl, hs8⟩, hb8⟩
   rw [show (arT (vrT 86 (n + 1)) r.1).name = ⟨#[102]⟩ from rfl, show (arT (vrT 86 (n + 1)) r.1).args.length = 2 from rfl]
   have K8 := hide (K7.out.later hb8)
   have F8 := hide (F7.out.then hb8)
   have V8 := hide (V7.out.later hb8)
   have A8 := hide (A7.out.later hb8)
   have R8 := hide (R7.out.later hb8)
   have S8 : Hid (Sl w8 (Zq (fun b => E b ∨ b = w.heap.size + 1) N P q7) a8 (arT (vrT 86 (n + 1)) r.1).args) := hs8.mono fun b hb _ => hb.elim id (zq_alloc K7.out hE7.out b)
   have k8 : Blk w8 V #[.string (vrN 86 (n + 1)), .slice none 0 0] 54 ∧ Blk w8 w.heap.size #[.int .i64 2, .int .i64 0, .slice (some ⟨b', o', none⟩) 1 c] 25 ∧ Below B w w8 := ⟨V8.out.1, A8.out.1, UP7.out.trans (hb8.mono (belSizeI UP7.out (Nat.le_trans hBN hK0)))⟩
   clear hs8 hb8 K7 F7 V7 A7 R7 S7
   go_simp
   refine hK.out _ _ (by exact k8) (fun hHeld => ?_)
   clear hK K
   try simp only [Act.put, sq]
   have r0 := R8.out.1.c0
   have r1 := R8.out.1.c1
   have f0 : w8.frozen? ⟨w.heap.size + 1, 0, none⟩ = false := R8.out.1.frozen 0
   have f1 : w8.frozen? ⟨w.heap.size + 1, 1, none⟩ = false := R8.out.1.frozen 1
   have k9 : Blk ((w8.setCell ⟨w.heap.size + 1, 0, none⟩ (.string ⟨#[102]⟩)).setCell ⟨w.heap.size + 1, 1, none⟩ (.slice a8 2 c8)) V #[.string (vrN 86 (n + 1)), .slice none 0 0] 54 ∧ Blk ((w8.setCell ⟨w.heap.size + 1, 0, none⟩ (.string ⟨#[102]⟩)).setCell ⟨w.heap.size + 1, 1, none⟩ (.slice a8 2 c8)) w.heap.size #[.int .i64 2, .int .i64 0, .slice (some ⟨b', o', none⟩) 1 c] 25 ∧ Below B w ((w8.setCell ⟨w.heap.size + 1, 0, none⟩ (.string ⟨#[102]⟩)).setCell ⟨w.heap.size + 1, 1, none⟩ (.slice a8 2 c8)) := ⟨(V8.out.1.setOther 0 _ HVR.out).setOther 1 _ HVR.out, (A8.out.1.setOther 0 _ (by omega)).setOther 1 _ (by omega), belSetI (belSetI k8.2.2 (by omega) 0 _) (by omega) 1 _⟩
   refine rdq 9 rfl fun K hK => ?_
   go_simp
   refine hK.out _ _ (by exact k9) (fun hHeld => ?_)
   clear hK K
   try simp only [Act.put, sq]
   refine wpAnyH_done (by kernel_rfl) ?_ _
   obtain ⟨K9, F9, R9, S9⟩ := K8.out.store F8.out R8.out (by omega) (.string ⟨#[102]⟩) (.slice a8 2 c8) S8.out
   generalize ((w8.setCell ⟨w.heap.size + 1, 0, none⟩ (.string ⟨#[102]⟩)).setCell ⟨w.heap.size + 1, 1, none⟩ (.slice a8 2 c8)) = w9 at *
   have c0 := R9.cell 0
   have c1 := R9.cell 1
   simp only [List.getElem?_toArray, List.getElem?_cons_zero, List.getElem?_cons_succ] at c0 c1
   clear r0 r1 f0 f1
   go_wp2_with fail
   refine bodyPost_ret (v := .agg #[.string ⟨#[102]⟩, .slice a8 2 c8]) (by simp [results, Tryz.results21, go_sem, c0, c1]) rfl ?_
   refine ⟨a8, c8, q7, cs7, ?_, ?_, ?_, ?_, F9⟩
   ·rw [HF.out]; rfl
   ·rw [HF.out]; exact S9
   ·rw [HF.out]; exact K9
   ·rw [HF.out]; exact M7.out
  ·cases e
   obtain ⟨b', o', a1, c1, a2, c2, rfl, hKP⟩ := slM_two (B := B) hs hX
   have KP := hide hKP
   have hK0 := hK.le
   have hq0 : ∀ b, some b = q.ownBlock → N ≤ b ∧ b < w.heap.size := fun b hb => hK.own.lt b hb.symm
   have IHF := hide (IH.out f (by simp))
   have IHX := hide (IH.out x (by simp))
   clear hKP hs IH
   have e1 : ([f, x] : List Lm).length = 2 := rfl
   rw [e1]
   clear e1
   have K1 := hide (hK.later ((Below.refl _ _).alloc (Nat.le_refl _) (.cells #[.int .i64 3, .int .i64 0, .slice (some ⟨b', o', none⟩) 2 c] 25)))
   have K2 : Hid (AsK (fun b => E b ∨ b = w.heap.size + 1) ((w.alloc (.cells #[.int .i64 3, .int .i64 0, .slice (some ⟨b', o', none⟩) 2 c] 25)).alloc (.cells #[.string ⟨#[]⟩, .slice none 0 0] 54)) N P 51 n q cs) := (hK.excl (E' := fun b => E b ∨ b = w.heap.size + 1) fun b hb h => h.elim id (fun h => by omega)).later (((Below.refl _ _).alloc (Nat.le_refl _) _).alloc (by simp) _)
   have A2 : Hid (Bq ((w.alloc (.cells #[.int .i64 3, .int .i64 0, .slice (some ⟨b', o', none⟩) 2 c] 25)).alloc (.cells #[.string ⟨#[]⟩, .slice none 0 0] 54)) P q w.heap.size #[.int .i64 3, .int .i64 0, .slice (some ⟨b', o', none⟩) 2 c] 25) := (Bq.new hK _ _).later ((Below.refl _ _).alloc (Nat.le_refl _) _)
   have R2 : Hid (Bq ((w.alloc (.cells #[.int .i64 3, .int .i64 0, .slice (some ⟨b', o', none⟩) 2 c] 25)).alloc (.cells #[.string ⟨#[]⟩, .slice none 0 0] 54)) P q (w.heap.size + 1) #[.string ⟨#[]⟩, .slice none 0 0] 54) := by have h := Bq.new K1.out #[.string ⟨#[]⟩, .slice none 0 0] 54; rw [World.size_alloc] at h; exact h
   have B2 : Hid (Below w.heap.size w ((w.alloc (.cells #[.int .i64 3, .int .i64 0, .slice (some ⟨b', o', none⟩) 2 c] 25)).alloc (.cells #[.string ⟨#[]⟩, .slice none 0 0] 54))) := ((Below.refl _ _).alloc (Nat.le_refl _) _).alloc (by simp) _
   have S2 := hide ((sl_excl (E' := fun b => E b ∨ b = w.heap.size + 1) hS fun b hb h => h.elim id (fun h => by omega)).later B2.out)
   have F2 := hide (AsF.ofBelow B2.out P q)
   clear hK hS K1
   have HF := hide (tyT_app 86 0 f x ar n)
   have hzb : sizeM [(⟨3, 0, [f, x]⟩ : Lm)] = 1 + (sizeM [f] + sizeM [x]) := by rw [sizeM_oneI, sizeM_two]
   rw [hzb] at hn hcs har
   clear hzb HN HCS HAR
   have hcb : csL [f] = false ∧ csL [x] = false := by rw [csL_one, csL_cons] at hc; simpa using hc
   have HCB := hide hcb
   have HEF := hide hf
   have HEX := hide hx
   have HOK := hide (fun m => ty_cnt (p := 86) f ar m hf hcb.1)
   have HOX := hide (fun m => ty_cnt (p := 86) x ar m hx hcb.2)
   clear hcb hc he hf hx hX hT
   have hsf := tyM_pos f
   have hsx := tyM_pos x
   have UP2 : Hid (Below B w _) := B2.out.mono (Nat.le_trans hBN hK0)
   have HT2 := hide (HT.out.on UP2.out)
   have HE2 : Hid (∀ b, (E b ∨ b = w.heap.size + 1) → b < ((w.alloc (.cells #[.int .i64 3, .int .i64 0, .slice (some ⟨b', o', none⟩) 2 c] 25)).alloc (.cells #[.string ⟨#[]⟩, .slice none 0 0] 54)).heap.size) := fun b hb => by have h1 := R2.out.1.lt; rcases hb with hb | hb; exact Nat.lt_trans (hEw b hb) (by omega); omega
   go_enter Tryz.func21, Tryz.ntmps21
   go_upto_region 1 with fail
   generalize ((w.alloc (.cells #[.int .i64 3, .int .i64 0, .slice (some ⟨b', o', none⟩) 2 c] 25)).alloc (.cells #[.string ⟨#[]⟩, .slice none 0 0] 54)) = w2 at *
   have x0 := A2.out.1.c0
   have x1 := A2.out.1.c1
   have x2 := A2.out.1.c2
   obtain ⟨⟨⟨y0, y1, y2⟩, y3, y4, y5⟩, hmf, hmx⟩ := KP.out w2 UP2.out
   go_wp2_with fail
   refine (IHF.out (fun b => E b ∨ b = w.heap.size + 1) N P n q _ cs ar au ac w2 X HEF.out HCB.out.1 (by omega) (by omega) (by omega) hac hmf HX.out hBN HT2.out K2.out S2.out HE2.out).mono ?_
   rintro e w3 ⟨a3, c3, q3, cs3, rfl, hs3, hk3, hm3, hf3⟩
   have hcnt := HOK.out n
   have hlen3 := congrArg List.length hm3
   simp only [List.length_map, List.length_append] at hlen3
   obtain ⟨rf, hrf⟩ : ∃ r, r = tyT 86 f ar n := ⟨_, rfl⟩
   rw [← hrf] at hs3 hk3 hm3 hcnt hlen3 HF ⊢
   clear hrf
   have hbd3 : cs3.length ≤ cs.length + sizeM [f] := by omega
   clear hlen3
   have W3 := hide (And.intro hs3 (And.intro hk3 (And.intro hm3 hf3)))
   clear hs3 hk3 hm3 hf3 y0 y1 y2 y3 y4 y5 hmf hmx x0 x1 x2
   have O4 : Hid (Below w3.heap.size w3 (w3.alloc (.cells #[.string rf.1.name, .slice a3 rf.1.args.length c3] 54))) := (Below.refl _ _).alloc (Nat.le_refl _) _
   have V4 : Hid (Bq (w3.alloc (.cells #[.string rf.1.name, .slice a3 rf.1.args.length c3] 54)) P q3 w3.heap.size #[.string rf.1.name, .slice a3 rf.1.args.length c3] 54) := Bq.new W3.out.2.1 _ _
   have SF4 := hide (W3.out.1.later O4.out)
   have K4 := hide (W3.out.2.1.later O4.out)
   have F4 := hide ((F2.out.trans W3.out.2.2.2).then O4.out)
   have A4 := hide ((W3.out.2.2.2.bq A2.out).later O4.out)
   have R4 := hide ((W3.out.2.2.2.bq R2.out).later O4.out)
   have S4 := hide ((W3.out.2.2.2.sl S2.out).later O4.out)
   have M3 := hide W3.out.2.2.1
   have HE4 : Hid (∀ b, (E b ∨ b = w.heap.size + 1) → b < (w3.alloc (.cells #[.string rf.1.name, .slice a3 rf.1.args.length c3] 54)).heap.size) := fun b hb => Nat.lt_of_lt_of_le (HE2.out b hb) (Nat.le_trans W3.out.2.2.2.1.size O4.out.size)
   clear W3 O4 K2 F2 A2 R2 S2 HE2
   go_upto_region 9 with fail
   generalize w3.heap.size = V1 at *
   generalize w3.alloc (.cells #[.string rf.1.name, .slice a3 rf.1.args.length c3] 54) = w4 at *
   skip
   have UP4 : Hid (Below B w w4) := (F4.out.1.below hK0 (fun b hb => by rcases hb with rfl | hb; exact K4.out.ge; exact (hq0 b hb).1)).mono hBN
   obtain ⟨⟨⟨y0, y1, y2⟩, y3, y4, y5⟩, hmf, hmx⟩ := KP.out w4 UP4.out
   have x2 := A4.out.1.c2
   go_wp2_with fail
   refine (IHX.out (fun b => E b ∨ b = w.heap.size + 1) N P rf.2.2 q3 _ cs3 ar au ac w4 X HEX.out HCB.out.2 (by omega) (by omega) (by omega) hac hmx HX.out hBN (HT.out.on UP4.out) K4.out S4.out HE4.out).mono ?_
   rintro e w5 ⟨a5, c5, q5, cs5, rfl, hs5, hk5, hm5, hf5⟩
   have hcnx := HOX.out rf.2.2
   have hlen5 := congrArg List.length hm5
   simp only [List.length_map, List.length_append] at hlen5
   obtain ⟨rx, hrx⟩ : ∃ r, r = tyT 86 x ar rf.2.2 := ⟨_, rfl⟩
   rw [← hrx] at hs5 hk5 hm5 hcnx hlen5 HF ⊢
   clear hrx
   have hbd5 : cs5.length ≤ cs3.length + sizeM [x] := by omega
   clear hlen5
   have W5 := hide (And.intro hs5 (And.intro hk5 (And.intro hm5 hf5)))
   clear hs5 hk5 hm5 hf5 y0 y1 y2 y3 y4 y5 hmf hmx x2
   have O6 : Hid (Below w5.heap.size w5 (w5.alloc (.cells #[.string rx.1.name, .slice a5 rx.1.args.length c5] 54))) := (Below.refl _ _).alloc (Nat.le_refl _) _
   have V6 : Hid (Bq (w5.alloc (.cells #[.string rx.1.name, .slice a5 rx.1.args.length c5] 54)) P q5 w5.heap.size #[.string rx.1.name, .slice a5 rx.1.args.length c5] 54) := Bq.new W5.out.2.1 _ _
   have SX6 := hide (W5.out.1.later O6.out)
   have SF6 := hide ((W5.out.2.2.2.sl SF4.out).later O6.out)
   have K6 := hide (W5.out.2.1.later O6.out)
   have F6 := hide ((F4.out.trans W5.out.2.2.2).then O6.out)
   have R6 := hide ((W5.out.2.2.2.bq R4.out).later O6.out)
   have VF6 := hide ((W5.out.2.2.2.bq V4.out).later O6.out)
   have M5 := hide W5.out.2.2.1
   have HE6 : Hid (∀ b, (E b ∨ b = w.heap.size + 1) → b < (w5.alloc (.cells #[.string rx.1.name, .slice a5 rx.1.args.length c5] 54)).heap.size) := fun b hb => Nat.lt_of_lt_of_le (HE4.out b hb) (Nat.le_trans W5.out.2.2.2.1.size O6.out.size)
   clear W5 O6 K4 F4 A4 R4 S4 V4 SF4 HE4 UP4
   go_upto_region 10 with fail
   generalize w5.heap.size = V2 at *
   generalize w5.alloc (.cells #[.string rx.1.name, .slice a5 rx.1.args.length c5] 54) = w6 at *
   have UP6 : Hid (Below B w w6) := (F6.out.1.below hK0 (fun b hb => by rcases hb with rfl | hb; exact K6.out.ge; exact (hq0 b hb).1)).mono hBN
   go_wp2_with fail
   refine (freshI_any K6.out (by omega) hBN (HT.out.on UP6.out)).mono ?_
   rintro e w7 ⟨rfl, hk7, hf7⟩
   obtain ⟨m, hm⟩ : ∃ m, m = rx.2.2 + 1 := ⟨_, rfl⟩
   rw [← hm] at hk7 HF ⊢
   have HMM := hide hm
   clear hm
   have W7 := hide (And.intro hk7 hf7)
   clear hk7 hf7
   have O8 : Hid (Below w7.heap.size w7 (w7.alloc (.cells #[.string (vrN 86 m), .slice none 0 0] 54))) := (Below.refl _ _).alloc (Nat.le_refl _) _
   have VV8 : Hid (Bq (w7.alloc (.cells #[.string (vrN 86 m), .slice none 0 0] 54)) P q5 w7.heap.size #[.string (vrN 86 m), .slice none 0 0] 54) := Bq.new W7.out.1 _ _
   have SX8 := hide ((W7.out.2.sl SX6.out).later O8.out)
   have SF8 := hide ((W7.out.2.sl SF6.out).later O8.out)
   have K8 := hide (W7.out.1.later O8.out)
   have F8 := hide ((F6.out.trans W7.out.2).then O8.out)
   have R8 := hide ((W7.out.2.bq R6.out).later O8.out)
   have VF8 := hide ((W7.out.2.bq VF6.out).later O8.out)
   have VX8 := hide ((W7.out.2.bq V6.out).later O8.out)
   have HE8 : Hid (∀ b, (E b ∨ b = w.heap.size + 1) → b < (w7.alloc (.cells #[.string (vrN 86 m), .slice none 0 0] 54)).heap.size) := fun b hb => Nat.lt_of_lt_of_le (HE6.out b hb) (Nat.le_trans W7.out.2.1.size O8.out.size)
   have HVR : Hid (w7.heap.size ≠ w.heap.size + 1) := by have h1 := R6.out.1.lt; have h2 := W7.out.2.1.size; unfold Hid; omega
   clear W7 O8 K6 F6 R6 V6 VF6 SX6 SF6 HE6 UP6
   go_upto_region 11 with fail
   generalize w7.heap.size = V3 at *
   generalize w7.alloc (.cells #[.string (vrN 86 m), .slice none 0 0] 54) = w8 at *
   have KS : Hid (∀ w', (Blk w' V1 #[.string rf.1.name, .slice a3 rf.1.args.length c3] 54 ∧ Blk w' V2 #[.string rx.1.name, .slice a5 rx.1.args.length c5] 54 ∧ Blk w' V3 #[.string (vrN 86 m), .slice none 0 0] 54) → (w'.cell? ⟨V1, 0, none⟩ = some (.string rf.1.name) ∧ w'.cell? ⟨V1, 1, none⟩ = some (.slice a3 rf.1.args.length c3)) ∧ (w'.cell? ⟨V2, 0, none⟩ = some (.string rx.1.name) ∧ w'.cell? ⟨V2, 1, none⟩ = some (.slice a5 rx.1.args.length c5)) ∧ w'.cell? ⟨V3, 0, none⟩ = some (.string (vrN 86 m)) ∧ w'.cell? ⟨V3, 1, none⟩ = some (.slice none 0 0)) := fun w' h => ⟨⟨h.1.cell 0, h.1.cell 1⟩, ⟨h.2.1.cell 0, h.2.1.cell 1⟩, h.2.2.cell 0, h.2.2.cell 1⟩
   have kd : Blk w8.drew V1 #[.string rf.1.name, .slice a3 rf.1.args.length c3] 54 ∧ Blk w8.drew V2 #[.string rx.1.name, .slice a5 rx.1.args.length c5] 54 ∧ Blk w8.drew V3 #[.string (vrN 86 m), .slice none 0 0] 54 := ⟨VF8.out.1, VX8.out.1, VV8.out.1⟩
   refine wp_region_held_drew (S := fun w' => Blk w' V1 #[.string rf.1.name, .slice a3 rf.1.args.length c3] 54 ∧ Blk w' V2 #[.string rx.1.name, .slice a5 rx.1.args.length c5] 54 ∧ Blk w' V3 #[.string (vrN 86 m), .slice none 0 0] 54) (by kernel_rfl) kd (fun hHeld => ?_)
   refine tkq (v := ?_) 0 rfl ?_ ?_
   rotate_left
   ·intro w' hSw
    go_simp <;> with_reducible rfl
   try simp only [Act.put, sq]
   refine tkq (v := ?_) 1 rfl ?_ ?_
   rotate_left
   ·intro w' hSw
    go_simp <;> with_reducible rfl
   try simp only [Act.put, sq]
   refine tkq (v := ?_) 2 rfl ?_ ?_
   rotate_left
   ·intro w' hSw
    go_simp <;> with_reducible rfl
   try simp only [Act.put, sq]
   refine tkq (v := ?_) 3 rfl ?_ ?_
   rotate_left
   ·intro w' hSw
    go_simp <;> with_reducible rfl
   try simp only [Act.put, sq]
   refine tkq (v := ?_) 5 rfl ?_ ?_
   rotate_left
   ·intro w' hSw
    obtain ⟨⟨y0, y1⟩, ⟨y2, y3⟩, y4, y5⟩ := KS.out w' hSw
    go_simp <;> with_reducible rfl
   try simp only [Act.put, sq]
   refine tkq (v := ?_) 6 rfl ?_ ?_
   rotate_left
   ·intro w' hSw
    obtain ⟨⟨y0, y1⟩, ⟨y2, y3⟩, y4, y5⟩ := KS.out w' hSw
    go_simp <;> with_reducible rfl
   try simp only [Act.put, sq]
   refine tkq (v := ?_) 7 rfl ?_ ?_
   rotate_left
   ·intro w' hSw
    obtain ⟨⟨y0, y1⟩, ⟨y2, y3⟩, y4, y5⟩ := KS.out w' hSw
    go_simp <;> with_reducible rfl
   try simp only [Act.put, sq]
   refine wpAnyH_ready (rs := [4, 8]) (by kernel_rfl) (by simp) ?_
   refine AllReadyH.cons rfl (fun K hK => ?_) (AllReadyH.cons rfl (fun K hK => ?_) AllReadyH.nil)
   ·have p0 : w8.cell? ⟨P, 0, none⟩ = some q5 := K8.out.box.cell 0
    go_simp
    refine hK.out _ _ (by exact kd) (fun hHeld => ?_)
    clear hK K
    try simp only [Act.put, sq]
    clear p0
    refine rdq 8 rfl fun K hK => ?_
    go_simp
    go_at_call 36
    refine (arrowI_any rx.1 (vrT 86 m) _ _ _ (Zq (fun b => E b ∨ b = w.heap.size + 1) N P q5) ⟨_, _, rfl, SX8.out.later (Below.refl _ _).drew⟩ ⟨none, 0, rfl, by simp [vrT], Or.inl rfl⟩).mono ?_
    rintro e w9 ⟨v9, rfl, ⟨a9, c9, rfl, hs9⟩, hb9⟩
    rw [show (arT rx.1 (vrT 86 m)).name = ⟨#[102]⟩ from rfl, show (arT rx.1 (vrT 86 m)).args.length = 2 from rfl]
    have hb9 : Below w8.heap.size w8 w9 := (Below.refl w8.heap.size w8).drew.trans hb9
    have K9 := hide (K8.out.later hb9)
    have F9 := hide (F8.out.then hb9)
    have SF9 := hide (SF8.out.later hb9)
    have R9 := hide (R8.out.later hb9)
    have VF9 := hide (VF8.out.later hb9)
    have VX9 := hide (VX8.out.later hb9)
    have VV9 := hide (VV8.out.later hb9)
    have SA9 : Hid (Sl w9 (Zq (fun b => E b ∨ b = w.heap.size + 1) N P q5) a9 (arT rx.1 (vrT 86 m)).args) := hs9.mono fun b hb _ => hb.elim id (zq_alloc K8.out HE8.out b)
    have k9 : Blk w9 V1 #[.string rf.1.name, .slice a3 rf.1.args.length c3] 54 ∧ Blk w9 V2 #[.string rx.1.name, .slice a5 rx.1.args.length c5] 54 ∧ Blk w9 V3 #[.string (vrN 86 m), .slice none 0 0] 54 := ⟨VF9.out.1, VX9.out.1, VV9.out.1⟩
    clear hs9 hb9
    go_simp
    refine hK.out _ _ (by exact k9) (fun hHeld => ?_)
    clear hK K
    try simp only [Act.put, sq]
    refine tkq (v := ?_) 9 rfl ?_ ?_
    rotate_left
    ·intro w' hSw
     go_simp <;> with_reducible rfl
    try simp only [Act.put, sq]
    refine rdq 10 rfl fun K hK => ?_
    go_simp
    have kA : Blk (w9.alloc (.cells #[.string rf.1.name, .slice a3 rf.1.args.length c3, .string ⟨#[102]⟩, .slice a9 2 c9] 81)) V1 #[.string rf.1.name, .slice a3 rf.1.args.length c3] 54 ∧ Blk (w9.alloc (.cells #[.string rf.1.name, .slice a3 rf.1.args.length c3, .string ⟨#[102]⟩, .slice a9 2 c9] 81)) V2 #[.string rx.1.name, .slice a5 rx.1.args.length c5] 54 ∧ Blk (w9.alloc (.cells #[.string rf.1.name, .slice a3 rf.1.args.length c3, .string ⟨#[102]⟩, .slice a9 2 c9] 81)) V3 #[.string (vrN 86 m), .slice none 0 0] 54 := ⟨k9.1.alloc _, k9.2.1.alloc _, k9.2.2.alloc _⟩
    refine hK.out _ _ (by exact kA) (fun hHeld => ?_)
    clear hK K
    try simp only [Act.put, sq]
    obtain ⟨g, cap, wB, hap, hst, hexB, hboxB⟩ := app_pairK (⟨⟨rf.1, arT rx.1 (vrT 86 m)⟩, (a3, c3), (a9, c9)⟩ : Pc) K9.out (by omega) ⟨SF9.out, SA9.out⟩
    have HAP := hide hap
    have kB : Blk wB V1 #[.string rf.1.name, .slice a3 rf.1.args.length c3] 54 ∧ Blk wB V2 #[.string rx.1.name, .slice a5 rx.1.args.length c5] 54 ∧ Blk wB V3 #[.string (vrN 86 m), .slice none 0 0] 54 := ⟨VF9.out.1.exq hexB (fun e => e.elim VF9.out.2.1 VF9.out.2.2), VX9.out.1.exq hexB (fun e => e.elim VX9.out.2.1 VX9.out.2.2), VV9.out.1.exq hexB (fun e => e.elim VV9.out.2.1 VV9.out.2.2)⟩
    clear hap
    refine rdq 11 rfl fun K hK => ?_
    refine step_append_eqM rfl _ _ _ _ rfl rfl rfl HAP.out ?_
    refine hK.out _ _ (by exact kB) (fun hHeld => ?_)
    clear hK K
    try simp only [Act.put, sq]
    have p0 : wB.cell? ⟨P, 0, none⟩ = some q5 := hboxB.cell 0
    have pf : wB.frozen? ⟨P, 0, none⟩ = false := hboxB.frozen 0
    obtain ⟨KC, FC⟩ := hst _ rfl
    have kC : Blk (wB.setCell ⟨P, 0, none⟩ (.slice (some ⟨g, 0, none⟩) (cs5.length + 1) cap)) V1 #[.string rf.1.name, .slice a3 rf.1.args.length c3] 54 ∧ Blk (wB.setCell ⟨P, 0, none⟩ (.slice (some ⟨g, 0, none⟩) (cs5.length + 1) cap)) V2 #[.string rx.1.name, .slice a5 rx.1.args.length c5] 54 ∧ Blk (wB.setCell ⟨P, 0, none⟩ (.slice (some ⟨g, 0, none⟩) (cs5.length + 1) cap)) V3 #[.string (vrN 86 m), .slice none 0 0] 54 := ⟨kB.1.setOther 0 _ VF9.out.2.1, kB.2.1.setOther 0 _ VX9.out.2.1, kB.2.2.setOther 0 _ VV9.out.2.1⟩
    refine tkq (v := ?_) 12 rfl ?_ ?_
    rotate_left
    ·intro w' hSw
     go_simp <;> with_reducible rfl
    try simp only [Act.put, sq]
    refine tkq (v := ?_) 13 rfl ?_ ?_
    rotate_left
    ·intro w' hSw
     go_simp <;> with_reducible rfl
    try simp only [Act.put, sq]
    refine rdq 14 rfl fun K hK => ?_
    go_simp
    refine hK.out _ _ (by exact kC) (fun hHeld => ?_)
    clear hK K
    try simp only [Act.put, sq]
    refine wpAnyH_done (by kernel_rfl) ?_ _
    have R10 := hide (FC.bq R9.out)
    have F10 := hide (F9.out.trans FC)
    have K10 := hide KC
    clear KC FC hst hexB hboxB p0 pf
    generalize (wB.setCell ⟨P, 0, none⟩ (.slice (some ⟨g, 0, none⟩) (cs5.length + 1) cap)) = w10 at *
    generalize (Value.slice (some ⟨g, 0, none⟩) (cs5.length + 1) cap) = q10 at *
    have v0 := kC.2.2.cell 0
    have v1 := kC.2.2.cell 1
    simp only [List.getElem?_toArray, List.getElem?_cons_zero, List.getElem?_cons_succ] at v0 v1
    have r0 := R10.out.1.c0
    have r1 := R10.out.1.c1
    have f0 : w10.frozen? ⟨w.heap.size + 1, 0, none⟩ = false := R10.out.1.frozen 0
    have f1 : w10.frozen? ⟨w.heap.size + 1, 1, none⟩ = false := R10.out.1.frozen 1
    go_wp2_with fail
    obtain ⟨K11, F11, R11, S11⟩ := K10.out.store F10.out R10.out (by omega) (.string (vrN 86 m)) (.slice none 0 0) (a := none) (l := []) ⟨by simp, Or.inl rfl⟩
    generalize ((w10.setCell ⟨w.heap.size + 1, 0, none⟩ (.string (vrN 86 m))).setCell ⟨w.heap.size + 1, 1, none⟩ (.slice none 0 0)) = w11 at *
    have c0 := R11.cell 0
    have c1 := R11.cell 1
    simp only [List.getElem?_toArray, List.getElem?_cons_zero, List.getElem?_cons_succ] at c0 c1
    refine bodyPost_ret (v := .agg #[.string (vrN 86 m), .slice none 0 0]) (by simp [results, Tryz.results21, go_sem, c0, c1]) rfl ?_
    refine ⟨none, 0, q10, cs5 ++ [⟨⟨rf.1, arT rx.1 (vrT 86 m)⟩, (a3, c3), (a9, c9)⟩], ?_, ?_, ?_, ?_, F11⟩
    ·rw [HF.out]; rfl
    ·rw [HF.out]; exact S11
    ·rw [HF.out]; exact K11
    ·rw [HF.out, List.map_append, M5.out, M3.out]; simp
   ·go_simp
    go_at_call 36
    refine (arrowI_any rx.1 (vrT 86 m) _ _ _ (Zq (fun b => E b ∨ b = w.heap.size + 1) N P q5) ⟨_, _, rfl, SX8.out.later (Below.refl _ _).drew⟩ ⟨none, 0, rfl, by simp [vrT], Or.inl rfl⟩).mono ?_
    rintro e w9 ⟨v9, rfl, ⟨a9, c9, rfl, hs9⟩, hb9⟩
    rw [show (arT rx.1 (vrT 86 m)).name = ⟨#[102]⟩ from rfl, show (arT rx.1 (vrT 86 m)).args.length = 2 from rfl]
    have hb9 : Below w8.heap.size w8 w9 := (Below.refl w8.heap.size w8).drew.trans hb9
    have K9 := hide (K8.out.later hb9)
    have F9 := hide (F8.out.then hb9)
    have SF9 := hide (SF8.out.later hb9)
    have R9 := hide (R8.out.later hb9)
    have VF9 := hide (VF8.out.later hb9)
    have VX9 := hide (VX8.out.later hb9)
    have VV9 := hide (VV8.out.later hb9)
    have SA9 : Hid (Sl w9 (Zq (fun b => E b ∨ b = w.heap.size + 1) N P q5) a9 (arT rx.1 (vrT 86 m)).args) := hs9.mono fun b hb _ => hb.elim id (zq_alloc K8.out HE8.out b)
    have k9 : Blk w9 V1 #[.string rf.1.name, .slice a3 rf.1.args.length c3] 54 ∧ Blk w9 V2 #[.string rx.1.name, .slice a5 rx.1.args.length c5] 54 ∧ Blk w9 V3 #[.string (vrN 86 m), .slice none 0 0] 54 := ⟨VF9.out.1, VX9.out.1, VV9.out.1⟩
    clear hs9 hb9
    go_simp
    refine hK.out _ _ (by exact k9) (fun hHeld => ?_)
    clear hK K
    try simp only [Act.put, sq]
    refine tkq (v := ?_) 9 rfl ?_ ?_
    rotate_left
    ·intro w' hSw
     go_simp <;> with_reducible rfl
    try simp only [Act.put, sq]
    refine wpAnyH_ready (rs := [4, 10]) (by kernel_rfl) (by simp) ?_
    refine AllReadyH.cons rfl (fun K hK => ?_) (AllReadyH.cons rfl (fun K hK => ?_) AllReadyH.nil)
    ·have p0 : w9.cell? ⟨P, 0, none⟩ = some q5 := K9.out.box.cell 0
     go_simp
     refine hK.out _ _ (by exact k9) (fun hHeld => ?_)
     clear hK K
     try simp only [Act.put, sq]
     clear p0
     refine rdq 10 rfl fun K hK => ?_
     go_simp
     have kA : Blk (w9.alloc (.cells #[.string rf.1.name, .slice a3 rf.1.args.length c3, .string ⟨#[102]⟩, .slice a9 2 c9] 81)) V1 #[.string rf.1.name, .slice a3 rf.1.args.length c3] 54 ∧ Blk (w9.alloc (.cells #[.string rf.1.name, .slice a3 rf.1.args.length c3, .string ⟨#[102]⟩, .slice a9 2 c9] 81)) V2 #[.string rx.1.name, .slice a5 rx.1.args.length c5] 54 ∧ Blk (w9.alloc (.cells #[.string rf.1.name, .slice a3 rf.1.args.length c3, .string ⟨#[102]⟩, .slice a9 2 c9] 81)) V3 #[.string (vrN 86 m), .slice none 0 0] 54 := ⟨k9.1.alloc _, k9.2.1.alloc _, k9.2.2.alloc _⟩
     refine hK.out _ _ (by exact kA) (fun hHeld => ?_)
     clear hK K
     try simp only [Act.put, sq]
     obtain ⟨g, cap, wB, hap, hst, hexB, hboxB⟩ := app_pairK (⟨⟨rf.1, arT rx.1 (vrT 86 m)⟩, (a3, c3), (a9, c9)⟩ : Pc) K9.out (by omega) ⟨SF9.out, SA9.out⟩
     have HAP := hide hap
     have kB : Blk wB V1 #[.string rf.1.name, .slice a3 rf.1.args.length c3] 54 ∧ Blk wB V2 #[.string rx.1.name, .slice a5 rx.1.args.length c5] 54 ∧ Blk wB V3 #[.string (vrN 86 m), .slice none 0 0] 54 := ⟨VF9.out.1.exq hexB (fun e => e.elim VF9.out.2.1 VF9.out.2.2), VX9.out.1.exq hexB (fun e => e.elim VX9.out.2.1 VX9.out.2.2), VV9.out.1.exq hexB (fun e => e.elim VV9.out.2.1 VV9.out.2.2)⟩
     clear hap
     refine rdq 11 rfl fun K hK => ?_
     refine step_append_eqM rfl _ _ _ _ rfl rfl rfl HAP.out ?_
     refine hK.out _ _ (by exact kB) (fun hHeld => ?_)
     clear hK K
     try simp only [Act.put, sq]
     have p0 : wB.cell? ⟨P, 0, none⟩ = some q5 := hboxB.cell 0
     have pf : wB.frozen? ⟨P, 0, none⟩ = false := hboxB.frozen 0
     obtain ⟨KC, FC⟩ := hst _ rfl
     have kC : Blk (wB.setCell ⟨P, 0, none⟩ (.slice (some ⟨g, 0, none⟩) (cs5.length + 1) cap)) V1 #[.string rf.1.name, .slice a3 rf.1.args.length c3] 54 ∧ Blk (wB.setCell ⟨P, 0, none⟩ (.slice (some ⟨g, 0, none⟩) (cs5.length + 1) cap)) V2 #[.string rx.1.name, .slice a5 rx.1.args.length c5] 54 ∧ Blk (wB.setCell ⟨P, 0, none⟩ (.slice (some ⟨g, 0, none⟩) (cs5.length + 1) cap)) V3 #[.string (vrN 86 m), .slice none 0 0] 54 := ⟨kB.1.setOther 0 _ VF9.out.2.1, kB.2.1.setOther 0 _ VX9.out.2.1, kB.2.2.setOther 0 _ VV9.out.2.1⟩
     refine tkq (v := ?_) 12 rfl ?_ ?_
     rotate_left
     ·intro w' hSw
      go_simp <;> with_reducible rfl
     try simp only [Act.put, sq]
     refine tkq (v := ?_) 13 rfl ?_ ?_
     rotate_left
     ·intro w' hSw
      go_simp <;> with_reducible rfl
     try simp only [Act.put, sq]
     refine rdq 14 rfl fun K hK => ?_
     go_simp
     refine hK.out _ _ (by exact kC) (fun hHeld => ?_)
     clear hK K
     try simp only [Act.put, sq]
     refine wpAnyH_done (by kernel_rfl) ?_ _
     have R10 := hide (FC.bq R9.out)
     have F10 := hide (F9.out.trans FC)
     have K10 := hide KC
     clear KC FC hst hexB hboxB p0 pf
     generalize (wB.setCell ⟨P, 0, none⟩ (.slice (some ⟨g, 0, none⟩) (cs5.length + 1) cap)) = w10 at *
     generalize (Value.slice (some ⟨g, 0, none⟩) (cs5.length + 1) cap) = q10 at *
     have v0 := kC.2.2.cell 0
     have v1 := kC.2.2.cell 1
     simp only [List.getElem?_toArray, List.getElem?_cons_zero, List.getElem?_cons_succ] at v0 v1
     have r0 := R10.out.1.c0
     have r1 := R10.out.1.c1
     have f0 : w10.frozen? ⟨w.heap.size + 1, 0, none⟩ = false := R10.out.1.frozen 0
     have f1 : w10.frozen? ⟨w.heap.size + 1, 1, none⟩ = false := R10.out.1.frozen 1
     go_wp2_with fail
     obtain ⟨K11, F11, R11, S11⟩ := K10.out.store F10.out R10.out (by omega) (.string (vrN 86 m)) (.slice none 0 0) (a := none) (l := []) ⟨by simp, Or.inl rfl⟩
     generalize ((w10.setCell ⟨w.heap.size + 1, 0, none⟩ (.string (vrN 86 m))).setCell ⟨w.heap.size + 1, 1, none⟩ (.slice none 0 0)) = w11 at *
     have c0 := R11.cell 0
     have c1 := R11.cell 1
     simp only [List.getElem?_toArray, List.getElem?_cons_zero, List.getElem?_cons_succ] at c0 c1
     refine bodyPost_ret (v := .agg #[.string (vrN 86 m), .slice none 0 0]) (by simp [results, Tryz.results21, go_sem, c0, c1]) rfl ?_
     refine ⟨none, 0, q10, cs5 ++ [⟨⟨rf.1, arT rx.1 (vrT 86 m)⟩, (a3, c3), (a9, c9)⟩], ?_, ?_, ?_, ?_, F11⟩
     ·rw [HF.out]; rfl
     ·rw [HF.out]; exact S11
     ·rw [HF.out]; exact K11
     ·rw [HF.out, List.map_append, M5.out, M3.out]; simp
    ·go_simp
     have kA : Blk (w9.alloc (.cells #[.string rf.1.name, .slice a3 rf.1.args.length c3, .string ⟨#[102]⟩, .slice a9 2 c9] 81)) V1 #[.string rf.1.name, .slice a3 rf.1.args.length c3] 54 ∧ Blk (w9.alloc (.cells #[.string rf.1.name, .slice a3 rf.1.args.length c3, .string ⟨#[102]⟩, .slice a9 2 c9] 81)) V2 #[.string rx.1.name, .slice a5 rx.1.args.length c5] 54 ∧ Blk (w9.alloc (.cells #[.string rf.1.name, .slice a3 rf.1.args.length c3, .string ⟨#[102]⟩, .slice a9 2 c9] 81)) V3 #[.string (vrN 86 m), .slice none 0 0] 54 := ⟨k9.1.alloc _, k9.2.1.alloc _, k9.2.2.alloc _⟩
     refine hK.out _ _ (by exact kA) (fun hHeld => ?_)
     clear hK K
     try simp only [Act.put, sq]
     refine rdq 4 rfl fun K hK => ?_
     have p0 : (w9.alloc (.cells #[.string rf.1.name, .slice a3 rf.1.args.length c3, .string ⟨#[102]⟩, .slice a9 2 c9] 81)).cell? ⟨P, 0, none⟩ = some q5 := (K9.out.later ((Below.refl _ _).alloc (Nat.le_refl _) (.cells #[.string rf.1.name, .slice a3 rf.1.args.length c3, .string ⟨#[102]⟩, .slice a9 2 c9] 81))).box.cell 0
     go_simp
     refine hK.out _ _ (by exact kA) (fun hHeld => ?_)
     clear hK K
     try simp only [Act.put, sq]
     clear p0
     obtain ⟨g, cap, wB, hap, hst, hexB, hboxB⟩ := app_pairK (⟨⟨rf.1, arT rx.1 (vrT 86 m)⟩, (a3, c3), (a9, c9)⟩ : Pc) K9.out (by omega) ⟨SF9.out, SA9.out⟩
     have HAP := hide hap
     have kB : Blk wB V1 #[.string rf.1.name, .slice a3 rf.1.args.length c3] 54 ∧ Blk wB V2 #[.string rx.1.name, .slice a5 rx.1.args.length c5] 54 ∧ Blk wB V3 #[.string (vrN 86 m), .slice none 0 0] 54 := ⟨VF9.out.1.exq hexB (fun e => e.elim VF9.out.2.1 VF9.out.2.2), VX9.out.1.exq hexB (fun e => e.elim VX9.out.2.1 VX9.out.2.2), VV9.out.1.exq hexB (fun e => e.elim VV9.out.2.1 VV9.out.2.2)⟩
     clear hap
     refine rdq 11 rfl fun K hK => ?_
     refine step_append_eqM rfl _ _ _ _ rfl rfl rfl HAP.out ?_
     refine hK.out _ _ (by exact kB) (fun hHeld => ?_)
     clear hK K
     try simp only [Act.put, sq]
     have p0 : wB.cell? ⟨P, 0, none⟩ = some q5 := hboxB.cell 0
     have pf : wB.frozen? ⟨P, 0, none⟩ = false := hboxB.frozen 0
     obtain ⟨KC, FC⟩ := hst _ rfl
     have kC : Blk (wB.setCell ⟨P, 0, none⟩ (.slice (some ⟨g, 0, none⟩) (cs5.length + 1) cap)) V1 #[.string rf.1.name, .slice a3 rf.1.args.length c3] 54 ∧ Blk (wB.setCell ⟨P, 0, none⟩ (.slice (some ⟨g, 0, none⟩) (cs5.length + 1) cap)) V2 #[.string rx.1.name, .slice a5 rx.1.args.length c5] 54 ∧ Blk (wB.setCell ⟨P, 0, none⟩ (.slice (some ⟨g, 0, none⟩) (cs5.length + 1) cap)) V3 #[.string (vrN 86 m), .slice none 0 0] 54 := ⟨kB.1.setOther 0 _ VF9.out.2.1, kB.2.1.setOther 0 _ VX9.out.2.1, kB.2.2.setOther 0 _ VV9.out.2.1⟩
     refine tkq (v := ?_) 12 rfl ?_ ?_
     rotate_left
     ·intro w' hSw
      go_simp <;> with_reducible rfl
     try simp only [Act.put, sq]
     refine tkq (v := ?_) 13 rfl ?_ ?_
     rotate_left
     ·intro w' hSw
      go_simp <;> with_reducible rfl
     try simp only [Act.put, sq]
     refine rdq 14 rfl fun K hK => ?_
     go_simp
     refine hK.out _ _ (by exact kC) (fun hHeld => ?_)
     clear hK K
     try simp only [Act.put, sq]
     refine wpAnyH_done (by kernel_rfl) ?_ _
     have R10 := hide (FC.bq R9.out)
     have F10 := hide (F9.out.trans FC)
     have K10 := hide KC
     clear KC FC hst hexB hboxB p0 pf
     generalize (wB.setCell ⟨P, 0, none⟩ (.slice (some ⟨g, 0, none⟩) (cs5.length + 1) cap)) = w10 at *
     generalize (Value.slice (some ⟨g, 0, none⟩) (cs5.length + 1) cap) = q10 at *
     have v0 := kC.2.2.cell 0
     have v1 := kC.2.2.cell 1
     simp only [List.getElem?_toArray, List.getElem?_cons_zero, List.getElem?_cons_succ] at v0 v1
     have r0 := R10.out.1.c0
     have r1 := R10.out.1.c1
     have f0 : w10.frozen? ⟨w.heap.size + 1, 0, none⟩ = false := R10.out.1.frozen 0
     have f1 : w10.frozen? ⟨w.heap.size + 1, 1, none⟩ = false := R10.out.1.frozen 1
     go_wp2_with fail
     obtain ⟨K11, F11, R11, S11⟩ := K10.out.store F10.out R10.out (by omega) (.string (vrN 86 m)) (.slice none 0 0) (a := none) (l := []) ⟨by simp, Or.inl rfl⟩
     generalize ((w10.setCell ⟨w.heap.size + 1, 0, none⟩ (.string (vrN 86 m))).setCell ⟨w.heap.size + 1, 1, none⟩ (.slice none 0 0)) = w11 at *
     have c0 := R11.cell 0
     have c1 := R11.cell 1
     simp only [List.getElem?_toArray, List.getElem?_cons_zero, List.getElem?_cons_succ] at c0 c1
     refine bodyPost_ret (v := .agg #[.string (vrN 86 m), .slice none 0 0]) (by simp [results, Tryz.results21, go_sem, c0, c1]) rfl ?_
     refine ⟨none, 0, q10, cs5 ++ [⟨⟨rf.1, arT rx.1 (vrT 86 m)⟩, (a3, c3), (a9, c9)⟩], ?_, ?_, ?_, ?_, F11⟩
     ·rw [HF.out]; rfl
     ·rw [HF.out]; exact S11
     ·rw [HF.out]; exact K11
     ·rw [HF.out, List.map_append, M5.out, M3.out]; simp
  ·cases e
   rw [csL_one] at hc
   simp at hc
def S8 (B n V : Nat) (w : World) (b' o' c : Nat) (w' : World) : Prop := Blk w' V #[.string (vrN 84 (n + 1)), .slice none 0 0] 54 ∧ Blk w' w.heap.size #[.int .i64 2, .int .i64 0, .slice (some ⟨b', o', none⟩) 1 c] 25 ∧ Below B w w'
structure Ty where
 base : Int
 subs : List Ty
theorem Ty.ind {P : Ty → Prop} (h : ∀ x l, (∀ y ∈ l, P y) → P ⟨x, l⟩) (t : Ty) : P t :=
 Ty.rec (motive_1 := P) (motive_2 := fun l => ∀ x ∈ l, P x) (fun x l ih => h x l ih) (fun x hx => by cases hx)
  (fun a l ha hl x hx => by
   rcases List.mem_cons.1 hx with e | e
   ·subst e; exact ha
   ·exact hl x e) t
theorem Ty.indL {P : List Ty → Prop} (h0 : P []) (h : ∀ x l r, P l → P r → P (⟨x, l⟩ :: r)) (l : List Ty) : P l :=
 Ty.rec_1 (motive_1 := fun t => P t.subs) (motive_2 := P) (fun _ _ ih => ih) h0 (fun a l ha hl => by obtain ⟨x, m⟩ := a; exact h x m l ha hl) l
def sizeY : List Ty → Nat
 | [] => 0
 | ⟨_, l⟩ :: r => 1 + sizeY l + sizeY r
theorem sizeY_append (a b : List Ty) : sizeY (a ++ b) = sizeY a + sizeY b := by
 induction a with
 | nil => simp [sizeY]
 | cons t r ih => obtain ⟨x, l⟩ := t; simp only [List.cons_append, sizeY, ih]; omega
theorem sizeY_take (l : List Ty) (k : Nat) (h : k < l.length) : sizeY (l.take (k + 1)) = sizeY (l.take k) + sizeY [l[k]] := by
 rw [List.take_succ_eq_append_getElem h, sizeY_append]
theorem sizeY_take_le (l : List Ty) (k : Nat) : sizeY (l.take k) ≤ sizeY l := by
 have h := sizeY_append (l.take k) (l.drop k)
 rw [List.take_append_drop] at h
 omega
def LiesY (w : World) (X : Nat → Prop) : Nat → Nat → List Ty → Prop
 | _, _, [] => True
 | b, o, ⟨x, l⟩ :: r => X b ∧ w.cell? ⟨b, o, none⟩ = some (.int .i64 x) ∧
   (∃ a c, w.cell? ⟨b, o + 1, none⟩ = some (.slice a l.length c) ∧ l.length ≤ 9223372036854775807 ∧ (l = [] ∨ ∃ b' o', a = some ⟨b', o', none⟩ ∧ LiesY w X b' o' l)) ∧ LiesY w X b (o + 2) r
def SlY (w : World) (X : Nat → Prop) (a : Option Addr) (l : List Ty) : Prop := l.length ≤ 9223372036854775807 ∧ (l = [] ∨ ∃ b o, a = some ⟨b, o, none⟩ ∧ LiesY w X b o l)
def YV (w : World) (X : Nat → Prop) (v : Value) (t : Ty) : Prop := ∃ a c, v = .agg #[.int .i64 t.base, .slice a t.subs.length c] ∧ SlY w X a t.subs
theorem liesY_kept {w w' : World} {X : Nat → Prop} (h : ∀ b, X b → w'.heap[b]? = w.heap[b]?) (l : List Ty) : ∀ b o, LiesY w X b o l → LiesY w' X b o l := by
 induction l using Ty.indL with
 | h0 => intro b o _; simp [LiesY]
 | h x l r ihl ihr =>
  intro b o hl
  simp only [LiesY] at hl ⊢
  obtain ⟨hx, h1, ⟨a, c, h2, h2', h3⟩, h4⟩ := hl
  refine ⟨hx, by rw [World.cell?_of_block (h b hx)]; exact h1, ⟨a, c, by rw [World.cell?_of_block (h b hx)]; exact h2, h2', ?_⟩, ihr _ _ h4⟩
  rcases h3 with h3 | ⟨b', o', h3, h5⟩
  ·exact Or.inl h3
  ·exact Or.inr ⟨b', o', h3, ihl _ _ h5⟩
theorem liesY_mono {w : World} {X Y : Nat → Prop} (h : ∀ b, X b → b < w.heap.size → Y b) (l : List Ty) : ∀ b o, LiesY w X b o l → LiesY w Y b o l := by
 induction l using Ty.indL with
 | h0 => intro b o _; simp [LiesY]
 | h x l r ihl ihr =>
  intro b o hl
  simp only [LiesY] at hl ⊢
  obtain ⟨hx, h1, ⟨a, c, h2, h2', h3⟩, h4⟩ := hl
  have hb : b < w.heap.size := by
   apply Classical.byContradiction
   intro hn
   have e : w.heap[b]? = none := Array.getElem?_eq_none (by omega)
   simp [World.cell?, e] at h1
  refine ⟨h b hx hb, h1, ⟨a, c, h2, h2', ?_⟩, ihr _ _ h4⟩
  rcases h3 with h3 | ⟨b', o', h3, h5⟩
  ·exact Or.inl h3
  ·exact Or.inr ⟨b', o', h3, ihl _ _ h5⟩
theorem SlY.kept {w w' : World} {X : Nat → Prop} {a : Option Addr} {l : List Ty} (h : SlY w X a l) (hk : ∀ b, X b → w'.heap[b]? = w.heap[b]?) : SlY w' X a l := by
 obtain ⟨hl, h⟩ := h
 refine ⟨hl, ?_⟩
 rcases h with h | ⟨b, o, e, h⟩
 ·exact Or.inl h
 ·exact Or.inr ⟨b, o, e, liesY_kept hk _ _ _ h⟩
theorem SlY.mono {w : World} {X Y : Nat → Prop} {a : Option Addr} {l : List Ty} (h : SlY w X a l) (hk : ∀ b, X b → b < w.heap.size → Y b) : SlY w Y a l := by
 obtain ⟨hl, h⟩ := h
 refine ⟨hl, ?_⟩
 rcases h with h | ⟨b, o, e, h⟩
 ·exact Or.inl h
 ·exact Or.inr ⟨b, o, e, liesY_mono hk _ _ _ h⟩
theorem SlY.below {w w' : World} {X : Nat → Prop} {a : Option Addr} {l : List Ty} {B : Nat} (h : SlY w X a l) (hb : Below B w w') (hX : ∀ b, X b → b < w.heap.size → b < B) : SlY w' X a l := by
 have h1 : SlY w (fun b => X b ∧ b < B) a l := h.mono fun b hx hs => ⟨hx, hX b hx hs⟩
 have h2 : SlY w' (fun b => X b ∧ b < B) a l := h1.kept fun b hx => hb.block b hx.2
 exact h2.mono fun b hx _ => hx.1
theorem YV.kept {w w' : World} {X : Nat → Prop} {v : Value} {t : Ty} (h : YV w X v t) (hk : ∀ b, X b → w'.heap[b]? = w.heap[b]?) : YV w' X v t := by
 obtain ⟨a, c, e, h⟩ := h
 exact ⟨a, c, e, h.kept hk⟩
theorem YV.mono {w : World} {X Y : Nat → Prop} {v : Value} {t : Ty} (h : YV w X v t) (hk : ∀ b, X b → b < w.heap.size → Y b) : YV w Y v t := by
 obtain ⟨a, c, e, h⟩ := h
 exact ⟨a, c, e, h.mono hk⟩
theorem YV.below {w w' : World} {X : Nat → Prop} {v : Value} {t : Ty} {B : Nat} (h : YV w X v t) (hb : Below B w w') (hX : ∀ b, X b → b < w.heap.size → b < B) : YV w' X v t := by
 obtain ⟨a, c, e, h⟩ := h
 exact ⟨a, c, e, h.below hb hX⟩
theorem YV.alloc {w : World} {X : Nat → Prop} {v : Value} {t : Ty} (h : YV w X v t) (o : Obj) : YV (w.alloc o) X v t :=
 h.below ((Below.refl _ _).alloc (Nat.le_refl _) o) (fun _ _ h => h)
theorem YV.later {w w' : World} {X : Nat → Prop} {v : Value} {t : Ty} (h : YV w X v t) (hb : Below w.heap.size w w') : YV w' X v t := h.below hb (fun _ _ h => h)
theorem SlY.later {w w' : World} {X : Nat → Prop} {a : Option Addr} {l : List Ty} (h : SlY w X a l) (hb : Below w.heap.size w w') : SlY w' X a l := h.below hb (fun _ _ h => h)
theorem liesY_get {w : World} {X : Nat → Prop} : ∀ (l : List Ty) (b o : Nat), LiesY w X b o l → ∀ i (h : i < l.length),
  X b ∧ w.cell? ⟨b, o + i * 2, none⟩ = some (.int .i64 l[i].base) ∧ ∃ a c, w.cell? ⟨b, o + i * 2 + 1, none⟩ = some (.slice a l[i].subs.length c) ∧ SlY w X a l[i].subs := by
 intro l
 induction l with
 | nil => intro b o _ i h; simp at h
 | cons t r ih =>
  intro b o hl i h
  obtain ⟨x, k⟩ := t
  simp only [LiesY] at hl
  obtain ⟨hx, h1, ⟨a, c, h2, h3⟩, h4⟩ := hl
  cases i with
  | zero => exact ⟨hx, h1, a, c, h2, h3⟩
  | succ i =>
   have := ih b (o + 2) h4 i (by simpa using h)
   simp only [List.getElem_cons_succ]
   rw [show o + (i + 1) * 2 = o + 2 + i * 2 by omega]
   exact this
theorem SlY.get {w wr : World} {X : Nat → Prop} {a : Option Addr} {l : List Ty} {B : Nat} (h : SlY w X a l) (hb : Below B w wr) (hX : ∀ b, X b → b < w.heap.size → b < B) (k : Nat) (hk : k < l.length) :
  ∃ b o a' c', a = some ⟨b, o, none⟩ ∧ wr.cell? ⟨b, o + k * 2, none⟩ = some (.int .i64 l[k].base) ∧ wr.cell? ⟨b, o + k * 2 + 1, none⟩ = some (.slice a' l[k].subs.length c') ∧ YV wr X (.agg #[.int .i64 l[k].base, .slice a' l[k].subs.length c']) l[k] := by
 have h' := h.below hb hX
 obtain ⟨_, h1⟩ := h'
 rcases h1 with h1 | ⟨b, o, e, h1⟩
 ·subst h1; simp at hk
 ·obtain ⟨_, h2, a', c', h3, h4⟩ := liesY_get _ _ _ h1 k hk
  exact ⟨b, o, a', c', e, h2, h3, a', c', rfl, h4⟩
def CpPost (w : World) (F : Nat) (sv : Value) (t : Tm) (n : Nat) (e : Ending) (w' : World) : Prop :=
 ∃ (s' : ByteArray) (a' : Option Addr) (l' c' : Nat) (m : Int), e = .returned (.agg #[.string s', .slice a' l' c']) ∧ Blk w' F #[.int .i64 m, sv] 84 ∧ Ex F w w' ∧ (sizeL [t] ≤ n → m = (n : Int) - sizeL [t] ∧ s' = t.name ∧ l' = t.args.length ∧ Sl w' (fun b => w.heap.size ≤ b) a' t.args) ∧ (n < sizeL [t] → m = -1)
theorem fcopy_of (F : Nat) (sv : Value) (t : Tm) (n : Nat) (a : Option Addr) (c : Nat) (w : World) (hFl : F < w.heap.size) (h : Calls Tryz.prog 54 #[.pointer (some ⟨F, 0, none⟩), .agg #[.string t.name, .slice a t.args.length c], .func (.func 55) #[.pointer (some ⟨F, 0, none⟩)] #[]] ((w.alloc (.cells #[.string t.name, .slice a t.args.length c] 54)).alloc (.cells #[.string ⟨#[]⟩, .slice none 0 0] 54)) fun e w' => CpPost ((w.alloc (.cells #[.string t.name, .slice a t.args.length c] 54)).alloc (.cells #[.string ⟨#[]⟩, .slice none 0 0] 54)) F sv t n e w') :
  Calls Tryz.prog 55 #[.pointer (some ⟨F, 0, none⟩), .agg #[.string t.name, .slice a t.args.length c]] w fun e w' => CpPost w F sv t n e w' := by
 have hmf : ∀ (fn : Fn) (first cap : Array Value) (w : World), (Instr.makeFunc fn first cap).run Tryz.prog w = .ok (.func fn first cap) w := fun _ _ _ _ => rfl
 have H := hide h
 clear h
 go_enter Tryz.func55, Tryz.ntmps55
 go_wp2_with fail
 refine H.out.mono ?_
 rintro e w1 ⟨s', a', l', c', m, rfl, hF1, hx1, hy1, hn1⟩
 have R1 : Hid (Blk w1 (w.heap.size + 1) #[.string ⟨#[]⟩, .slice none 0 0] 54) := by
  have h := (Blk.new (w.alloc (.cells #[.string t.name, .slice a t.args.length c] 54)) #[.string ⟨#[]⟩, .slice none 0 0] 54).ex hx1 (by simp; omega)
  unfold Hid
  simpa using h
 have HX := hide ((((Ex.refl F w).alloc (.cells #[.string t.name, .slice a t.args.length c] 54)).alloc (.cells #[.string ⟨#[]⟩, .slice none 0 0] 54)).trans hx1)
 have HF := hide hF1
 have HY := hide hy1
 have HN := hide hn1
 clear hF1 hx1 hy1 hn1
 have r0 := R1.out.c0
 have r1 := R1.out.c1
 have rf := R1.out.frozen
 go_wp2_with fail
 refine bodyPost_ret (v := .agg #[.string s', .slice a' l' c']) (by simp [results, Tryz.results55, go_sem, World.cell?_setCell_same, World.cell?_setCell_other, r0, r1]) rfl ?_
 refine ⟨s', a', l', c', m, rfl, (HF.out.setOther _ _ (by omega)).setOther _ _ (by omega), (HX.out.setNew (by omega) _ _).setNew (by omega) _ _, fun h => ?_, HN.out⟩
 obtain ⟨h1, h2, h3, h4⟩ := HY.out h
 refine ⟨h1, h2, h3, (h4.kept fun b hb => ?_).mono fun b hb _ => by simp at hb; omega⟩
 simp at hb
 rw [Below.heap_setCell _ _ _ _ (by simp; omega), Below.heap_setCell _ _ _ _ (by simp; omega)]
theorem Sl.ex {w w' : World} {F : Nat} {X : Nat → Prop} {a : Option Addr} {l : List Tm} (h : Sl w X a l) (he : Ex F w w') (hX : ∀ b, X b → b ≠ F) : Sl w' X a l :=
 ((h.mono (Y := fun b => X b ∧ b < w.heap.size) fun b h1 h2 => ⟨h1, h2⟩).kept fun b hb => he.block b hb.2 (hX b hb.1)).mono fun b hb _ => hb.1
def KnSet (w : World) (F O : Nat) (s : ByteArray) (u : Value) (cF : Array Value) (wr : World) : Prop :=
 Ex F w wr ∧ Blk wr (w.heap.size + 1) #[.string ⟨#[]⟩, .slice none 0 0] 54 ∧ Blk wr O #[.string s, u] 54 ∧ Blk wr F cF 84 ∧ O < wr.heap.size
theorem kn_set {w wr w1 w3 : World} {F O : Nat} {s : ByteArray} {u v : Value} {cF cF' : Array Value} {o2 : Obj} (hFw : F < w.heap.size) (hO : w.heap.size + 2 ≤ O) (h : KnSet w F O s u cF wr) (hu : ∀ k, u.ownBlock = some k → O + 1 ≤ k)
  (he1 : Ex F wr w1) (hF1 : Blk w1 F cF' 84) (hg : (w1.alloc o2).grownBy w3 u.ownBlock) : KnSet w F O s v cF' (w3.setCell ⟨O, 1, none⟩ v) := by
 obtain ⟨h1, h2, h3, h4, h5⟩ := h
 have hne : ∀ b, b < O + 1 → some b ≠ u.ownBlock := fun b hb e => by have := hu b e.symm; omega
 have hs1 := he1.size
 have hs3 := hg.size
 simp at hs3
 refine ⟨(((h1.trans he1).alloc o2).grown hg (fun k hk => by have := hu k hk; omega)).setNew (by omega) _ _, ?_, ?_, ?_, by simp [World.setCell]; omega⟩
 ·exact (((h2.ex he1 (by omega)).alloc o2).grown hg (hne _ (by omega))).setOther _ _ (by omega)
 ·exact (((h3.ex he1 (by omega)).alloc o2).grown hg (hne _ (by omega))).set 1 _
 ·exact ((hF1.alloc o2).grown hg (hne _ (by omega))).setOther _ _ (by omega)
theorem kn_row {wr w1 w3 : World} {F O : Nat} {u : Value} {L : List Tm} {xs : List Value} {o2 : Obj} {s' : ByteArray} {a1 : Option Addr} {n1 c1 g cap : Nat} {t : Tm} (hFO : F < O) (hOr : O < wr.heap.size) (hrow : Row wr (O + 1) 54 (fun _ => False) u L xs)
  (he1 : Ex F wr w1) (ht : TV w1 (fun b => wr.heap.size ≤ b) (.agg #[.string s', .slice a1 n1 c1]) t)
  (hown : w3.ownsRow (O + 1) 54 2 (.slice (some ⟨g, 0, none⟩) (L.length + 1) cap) (L.length + 1) (xs ++ [.string s', .slice a1 n1 c1])) (hg : (w1.alloc o2).grownBy w3 u.ownBlock) (hat : u.ownBlock = some g ∨ g = (w1.alloc o2).heap.size) :
  Row (w3.setCell ⟨O, 1, none⟩ (.slice (some ⟨g, 0, none⟩) (L.length + 1) cap)) (O + 1) 54 (fun _ => False) (.slice (some ⟨g, 0, none⟩) (L.length + 1) cap) (L ++ [t]) (xs ++ [.string s', .slice a1 n1 c1]) := by
 obtain ⟨wm, hbm, hsm, hem⟩ := he1.mid
 have hrm := hrow.ex hem (by omega) (fun h => h)
 exact (hrm.push (w1 := w1) (w2 := w1.alloc o2) (w3 := w3) (by omega) (fun _ h => h.elim) hbm (ht.mono fun b h _ => Or.inr (by omega)) o2 rfl hown hg hat).setCell (by omega) (fun h => h) _
def KnInv (w : World) (F O : Nat) (s : ByteArray) (sv : Value) (l : List Tm) (n : Nat) (i : Value) (wr : World) : Prop :=
 ∃ (k : Nat) (u : Value), k ≤ l.length ∧ i = .int .i64 (k : Int) ∧
  ((∃ (m : Nat) (xs : List Value), (m : Int) = (n : Int) - 1 - sizeL (l.take k) ∧ KnSet w F O s u #[.int .i64 (m : Int), sv] wr ∧ Row wr (O + 1) 54 (fun _ => False) u (l.take k) xs) ∨
   (n < 1 + sizeL l ∧ KnSet w F O s u #[.int .i64 (-1), sv] wr ∧ ∃ a9 l9 c9, u = .slice a9 l9 c9))
set_option maxHeartbeats 1000000 in
theorem knotC_any (F : Nat) (sv : Value) (t : Tm) : ∀ (n : Nat) (v : Value) (w : World) (X : Nat → Prop), TV w X v t → (∀ b, X b → b ≠ F) → n ≤ 1000000 → Blk w F #[.int .i64 (n : Int), sv] 84 →
  Calls Tryz.prog 54 #[.pointer (some ⟨F, 0, none⟩), v, .func (.func 55) #[.pointer (some ⟨F, 0, none⟩)] #[]] w fun e w' => CpPost w F sv t n e w' := by
 induction t using Tm.ind with
 | h s l ih =>
  intro n v w X hv hXF hn hF
  obtain ⟨a, c, rfl, hs⟩ := hv
  have IH := hide ih
  clear ih
  obtain ⟨i0, hi0, hz0, hz1, hz2⟩ := info_parts Tryz.infoTerm
  have f0 : ∀ o, (w.alloc o).cell? ⟨F, 0, none⟩ = some (.int .i64 (n : Int)) := fun o => (hF.alloc o).cell 0
  have ff : ∀ o, (w.alloc o).frozen? ⟨F, 0, none⟩ = false := fun o => (hF.alloc o).frozen 0
  have hFl : F < w.heap.size := hF.lt
  go_enter Tryz.func54, Tryz.ntmps54
  go_wp2_with fail
  have E3 : Hid (KnSet w F (w.heap.size + 1 + 1) s (.slice none 0 0) #[.int .i64 ((n : Int) - 1), sv] ((((w.setCell ⟨F, 0, none⟩ (.int .i64 ((n : Int) - 1))).alloc (.cells #[.string s, .slice a l.length c] 54)).alloc (.cells #[.string ⟨#[]⟩, .slice none 0 0] 54)).alloc (.cells #[.string s, .slice none 0 0] 54))) := by
   refine ⟨((((Ex.refl F w).set 0 _).alloc _).alloc _).alloc _, ?_, ?_, (((hF.set 0 _).alloc _).alloc _).alloc _, by simp [World.setCell]⟩
   ·have h := (Blk.new ((w.setCell ⟨F, 0, none⟩ (.int .i64 ((n : Int) - 1))).alloc (.cells #[.string s, .slice a l.length c] 54)) #[.string ⟨#[]⟩, .slice none 0 0] 54).alloc (.cells #[.string s, .slice none 0 0] 54)
    simpa [World.setCell] using h
   ·have h := Blk.new (((w.setCell ⟨F, 0, none⟩ (.int .i64 ((n : Int) - 1))).alloc (.cells #[.string s, .slice a l.length c] 54)).alloc (.cells #[.string ⟨#[]⟩, .slice none 0 0] 54)) #[.string s, .slice none 0 0] 54
    simpa [World.setCell] using h
  generalize ((((w.setCell ⟨F, 0, none⟩ (.int .i64 ((n : Int) - 1))).alloc (.cells #[.string s, .slice a l.length c] 54)).alloc (.cells #[.string ⟨#[]⟩, .slice none 0 0] 54)).alloc (.cells #[.string s, .slice none 0 0] 54)) = w3 at *
  generalize hOe : w.heap.size + 1 + 1 = O at *
  have hO : w.heap.size + 2 ≤ O := by omega
  clear hOe
  clear f0 ff
  have HS := hide hs
  have hl := hs.1
  have HXF := hide hXF
  have hz : sizeL [(⟨s, l⟩ : Tm)] = 1 + sizeL l := by simp [sizeL]
  clear hs hXF
  go_loopw [23] (fun i wr => KnInv w F O s sv l n i wr) (fun i wr => l.length - (intOf i).toNat)
  case atStart =>
   refine ⟨0, .slice none 0 0, Nat.zero_le _, rfl, ?_⟩
   by_cases hn0 : n = 0
   ·subst hn0
    exact Or.inr ⟨by omega, E3.out, none, 0, 0, rfl⟩
   ·refine Or.inl ⟨n - 1, [], by simp [sizeL]; omega, ?_, Row.start _ _ _ _⟩
    rw [show ((n - 1 : Nat) : Int) = (n : Int) - 1 by omega]
    exact E3.out
  case round =>
   obtain ⟨k, u, hk, rfl, hcase⟩ := hrel
   rcases hcase with ⟨m, xs, hm, hset, hrow⟩ | ⟨hbig, hset, a9, l9, c9, rfl⟩
   ·have XS := hide hset
    have XW := hide hrow
    have HMM := hide hm
    clear hset hrow
    by_cases hlt : k < l.length
    ·obtain ⟨b, o, a', c', rfl, d0, d1, hx⟩ := (HS.out.ex XS.out.1 HXF.out).get (Below.refl _ _) (fun _ _ h => h) k hlt
     obtain ⟨av, cv, ev, hsx⟩ := hx
     simp at ev
     obtain ⟨rfl, rfl⟩ := ev
     have hmn : m ≤ 1000000 := by omega
     have HOF : Hid (O ≠ F) := by unfold Hid; omega
     have HFO1 : Hid (F < O + 1) := by unfold Hid; omega
     have hlen := sizeL_len l
     have hsk : (l.take k).length = k := by simp; omega
     have hkn : k ≤ 1000000 := by have h1 := sizeL_len (l.take k); rw [hsk] at h1; omega
     have HL1 : Hid ((l.take k).length + 1 ≤ maxLen ∧ ((l.take k).length + 1) * 40 ≤ 140737488355328) := by unfold Hid; rw [hsk]; exact ⟨by unfold maxLen; omega, by omega⟩
     clear hsk
     have IHQ : Hid (Calls Tryz.prog 55 #[.pointer (some ⟨F, 0, none⟩), .agg #[.string l[k].name, .slice a' l[k].args.length c']] (wr.alloc (.cells #[.string l[k].name, .slice a' l[k].args.length c'] 54)).drew fun e w'' => CpPost (wr.alloc (.cells #[.string l[k].name, .slice a' l[k].args.length c'] 54)).drew F sv l[k] m e w'') := fcopy_of F sv l[k] m a' c' _ (by have := XS.out.1.size; simp; omega) (IH.out l[k] (List.getElem_mem hlt) m _ _ X ⟨a', c', rfl, ((hsx.later ((Below.refl _ _).alloc (Nat.le_refl _) (.cells #[.string l[k].name, .slice a' l[k].args.length c'] 54))).later ((Below.refl _ _).drew)).later (((Below.refl _ _).alloc (Nat.le_refl _) _).alloc (by simp) _)⟩ HXF.out hmn (by exact ((((XS.out.2.2.2.1.alloc _).drewN 1).alloc _).alloc _)))
     have f0 : ∀ o, (wr.alloc o).cell? ⟨F, 0, none⟩ = some (.int .i64 (m : Int)) := fun o => (XS.out.2.2.2.1.alloc o).cell 0
     have o1 : ∀ o, (wr.alloc o).cell? ⟨O, 1, none⟩ = some u := fun o => (XS.out.2.2.1.alloc o).cell 1
     have hm0 : ¬ (m : Int) < 0 := by omega
     by_cases hle : sizeL [l[k]] ≤ m
     ·have IHG : Hid (Calls Tryz.prog 55 #[.pointer (some ⟨F, 0, none⟩), .agg #[.string l[k].name, .slice a' l[k].args.length c']] (wr.alloc (.cells #[.string l[k].name, .slice a' l[k].args.length c'] 54)).drew fun e w'' => ∃ a1 c1, e = .returned (.agg #[.string l[k].name, .slice a1 l[k].args.length c1]) ∧ Blk w'' F #[.int .i64 ((m : Int) - sizeL [l[k]]), sv] 84 ∧ Ex F wr w'' ∧ Sl w'' (fun b => wr.heap.size ≤ b) a1 l[k].args) := IHQ.out.mono fun e w'' hp => by
       obtain ⟨s1, a1, l1, c1, m1, h1, h2, h3, h4, _⟩ := hp
       obtain ⟨rfl, rfl, rfl, h5⟩ := h4 hle
       exact ⟨a1, c1, h1, h2, (((Ex.refl F wr).alloc _).drew).trans h3, h5.mono fun b hb _ => by simp at hb; omega⟩
      clear IHQ
      go_wp2_with fail
      go_region_law (first
       | (go_simp; go_at_call 55; refine IHG.out.mono ?_; rintro e w1 ⟨a1, c1, rfl, hF1, he1, hs1⟩; have hc3 : ∀ o, (w1.alloc o).cell? ⟨O, 1, none⟩ = some u := fun o => ((Blk.ex XS.out.2.2.1 he1 HOF.out).alloc o).cell 1; have hc4 : w1.cell? ⟨O, 1, none⟩ = some u := (Blk.ex XS.out.2.2.1 he1 HOF.out).cell 1)
       | (refine step_append_lies _ rfl _ _ 52 rfl (O + 1) 54 i0 _ 2 40 Tryz.underlying52 hi0 hz0 hz1 hz2 rfl (by decide) u (l.take k).length xs rfl (by exact (Row.ex (B := F) XW.out he1 HFO1.out (fun h => h)).own.alloc _) ⟨w1.heap.size, 0, none⟩ 1 1 [.string l[k].name, .slice a1 l[k].args.length c1] rfl rfl (cell_two_new _ _ _ _) (fun x hx => by simp at hx; rcases hx with rfl | rfl <;> rfl) (by decide) HL1.out.1 HL1.out.2 (by have := he1.size; have := XS.out.2.2.2.2; simp; omega) _ rfl ?_; intro g cap w3 hown3 hgrow3 hat3 hlt3; have hB3 := hide (((Blk.ex XS.out.2.2.1 he1 HOF.out).alloc _).grown hgrow3 (XW.out.ne (Nat.lt_succ_self _))); have hc5 : w3.cell? ⟨O, 1, none⟩ = some u := hB3.out.cell 1; have hf5 := hB3.out.frozen 1))
      all_goals
       have HK := hide (kn_set (v := .slice (some ⟨g, 0, none⟩) ((l.take k).length + 1) cap) hFl hO XS.out (fun j hj => (XW.out.own.lt j hj).1) he1 hF1 hgrow3)
       have HRW := hide (kn_row (by omega) XS.out.2.2.2.2 XW.out he1 ⟨a1, c1, rfl, hs1⟩ hown3 hgrow3 hat3)
       clear hown3 hgrow3 hat3 hc3 hc4 hc5 hf5 hB3 hF1 he1 hs1 hlt3
       go_wp2_with fail
       go_roundw
       case rel =>
        have hkl : (l.take k).length = k := by simp; omega
        have h1 := HK.out
        have h2 := HRW.out
        have hmm := HMM.out
        simp only [hkl] at h1 h2
        refine ⟨k + 1, .slice (some ⟨g, 0, none⟩) (k + 1) cap, by omega, by go_num, Or.inl ⟨m - sizeL [l[k]], xs ++ [.string l[k].name, .slice a1 l[k].args.length c1], by rw [sizeL_take l k hlt]; omega, ?_, ?_⟩⟩
        ·rw [show ((m - sizeL [l[k]] : Nat) : Int) = (m : Int) - sizeL [l[k]] by omega]
         exact h1
        ·rw [List.take_succ_eq_append_getElem hlt]
         exact h2
       case measure => simp [intOf]; omega
     ·have IHG : Hid (Calls Tryz.prog 55 #[.pointer (some ⟨F, 0, none⟩), .agg #[.string l[k].name, .slice a' l[k].args.length c']] (wr.alloc (.cells #[.string l[k].name, .slice a' l[k].args.length c'] 54)).drew fun e w'' => ∃ s1 a1 l1 c1, e = .returned (.agg #[.string s1, .slice a1 l1 c1]) ∧ Blk w'' F #[.int .i64 (-1), sv] 84 ∧ Ex F wr w'') := IHQ.out.mono fun e w'' hp => by
       obtain ⟨s1, a1, l1, c1, m1, h1, h2, h3, _, h4⟩ := hp
       obtain rfl := h4 (by omega)
       exact ⟨s1, a1, l1, c1, h1, h2, (((Ex.refl F wr).alloc _).drew).trans h3⟩
      clear IHQ
      go_wp2_with fail
      go_region_law (first
       | (go_simp; go_at_call 55; refine IHG.out.mono ?_; rintro e w1 ⟨s1, a1, l1, c1, rfl, hF1, he1⟩; have hc3 : ∀ o, (w1.alloc o).cell? ⟨O, 1, none⟩ = some u := fun o => ((Blk.ex XS.out.2.2.1 he1 HOF.out).alloc o).cell 1; have hc4 : w1.cell? ⟨O, 1, none⟩ = some u := (Blk.ex XS.out.2.2.1 he1 HOF.out).cell 1)
       | (refine step_append_lies _ rfl _ _ 52 rfl (O + 1) 54 i0 _ 2 40 Tryz.underlying52 hi0 hz0 hz1 hz2 rfl (by decide) u (l.take k).length xs rfl (by exact (Row.ex (B := F) XW.out he1 HFO1.out (fun h => h)).own.alloc _) ⟨w1.heap.size, 0, none⟩ 1 1 [.string s1, .slice a1 l1 c1] rfl rfl (cell_two_new _ _ _ _) (fun x hx => by simp at hx; rcases hx with rfl | rfl <;> rfl) (by decide) HL1.out.1 HL1.out.2 (by have := he1.size; have := XS.out.2.2.2.2; simp; omega) _ rfl ?_; intro g cap w3 hown3 hgrow3 hat3 hlt3; have hB3 := hide (((Blk.ex XS.out.2.2.1 he1 HOF.out).alloc _).grown hgrow3 (XW.out.ne (Nat.lt_succ_self _))); have hc5 : w3.cell? ⟨O, 1, none⟩ = some u := hB3.out.cell 1; have hf5 := hB3.out.frozen 1))
      all_goals
       have HK := hide (kn_set (v := .slice (some ⟨g, 0, none⟩) ((l.take k).length + 1) cap) hFl hO XS.out (fun j hj => (XW.out.own.lt j hj).1) he1 hF1 hgrow3)
       clear hown3 hgrow3 hat3 hc3 hc4 hc5 hf5 hB3 hF1 he1 hlt3
       go_wp2_with fail
       go_roundw
       case rel =>
        have hkl : (l.take k).length = k := by simp; omega
        have h0 := HK.out
        have hmm := HMM.out
        simp only [hkl] at h0
        refine ⟨k + 1, .slice (some ⟨g, 0, none⟩) (k + 1) cap, by omega, by go_num, Or.inr ⟨?_, h0, _, _, _, rfl⟩⟩
        have h1 := sizeL_take l k hlt
        have h2 := sizeL_take_le l (k + 1)
        omega
       case measure => simp [intOf]; omega
    ·have htk : l.take k = l := List.take_of_length_le (by omega)
     rw [htk] at XW HMM
     obtain ⟨a9, c9, hu9, hsl9⟩ := XW.out.sl
     subst hu9
     have S9 := hide hsl9
     clear hsl9
     have r0 := XS.out.2.1.c0
     have r1 := XS.out.2.1.c1
     have rf := XS.out.2.1.frozen
     have o0 := XS.out.2.2.1.c0
     have o1 := XS.out.2.2.1.c1
     go_wp2_with fail
     refine bodyPost_ret (v := .agg #[.string s, .slice a9 l.length c9]) (by simp [results, Tryz.results54, go_sem, World.cell?_setCell_same, World.cell?_setCell_other, r0, r1]) rfl ?_
     have hmm := HMM.out
     refine ⟨s, a9, l.length, c9, m, rfl, (XS.out.2.2.2.1.setOther _ _ (by omega)).setOther _ _ (by omega), (XS.out.1.setNew (by omega) _ _).setNew (by omega) _ _, fun h => ⟨by rw [hz]; omega, rfl, rfl, (S9.out.kept fun b hb => ?_).mono fun b hb _ => ?_⟩, fun h => by omega⟩
     ·have hb' : O + 1 ≤ b := hb.elim False.elim id
      rw [Below.heap_setCell _ _ _ _ (by simp; omega), Below.heap_setCell _ _ _ _ (by simp; omega)]
     ·have hb' : O + 1 ≤ b := hb.elim False.elim id
      omega
   ·have XS := hide hset
    clear hset
    have f0 : ∀ o, (wr.alloc o).cell? ⟨F, 0, none⟩ = some (.int .i64 (-1)) := fun o => (XS.out.2.2.2.1.alloc o).cell 0
    by_cases hlt : k < l.length
    ·obtain ⟨b, o, a', c', rfl, d0, d1, hx⟩ := (HS.out.ex XS.out.1 HXF.out).get (Below.refl _ _) (fun _ _ h => h) k hlt
     clear hx
     have o0 : ∀ o, (wr.alloc o).cell? ⟨O, 0, none⟩ = some (.string s) := fun o => (XS.out.2.2.1.alloc o).cell 0
     have o1 : ∀ o, (wr.alloc o).cell? ⟨O, 1, none⟩ = some (.slice a9 l9 c9) := fun o => (XS.out.2.2.1.alloc o).cell 1
     have r0 := XS.out.2.1.c0
     have r1 := XS.out.2.1.c1
     have rf := XS.out.2.1.frozen
     have hRl : w.heap.size + 1 < wr.heap.size := XS.out.2.1.lt
     go_wp2_with fail
     refine bodyPost_ret (v := .agg #[.string s, .slice a9 l9 c9]) (by simp [results, Tryz.results54, go_sem, World.cell?_setCell_same, World.cell?_setCell_other, r0, r1, hRl, World.cell?_alloc_old]) rfl ?_
     exact ⟨s, a9, l9, c9, -1, rfl, ((XS.out.2.2.2.1.setOther _ _ (by omega)).setOther _ _ (by omega)).alloc _, ((XS.out.1.setNew (by omega) _ _).setNew (by omega) _ _).alloc _, fun h => by omega, fun _ => rfl⟩
    ·have r0 := XS.out.2.1.c0
     have r1 := XS.out.2.1.c1
     have rf := XS.out.2.1.frozen
     have o0 := XS.out.2.2.1.c0
     have o1 := XS.out.2.2.1.c1
     go_wp2_with fail
     refine bodyPost_ret (v := .agg #[.string s, .slice a9 l9 c9]) (by simp [results, Tryz.results54, go_sem, World.cell?_setCell_same, World.cell?_setCell_other, r0, r1]) rfl ?_
     exact ⟨s, a9, l9, c9, -1, rfl, (XS.out.2.2.2.1.setOther _ _ (by omega)).setOther _ _ (by omega), (XS.out.1.setNew (by omega) _ _).setNew (by omega) _ _, fun h => by omega, fun _ => rfl⟩
def Once (ls : List Bd) : Prop := ∀ k (h : k < ls.length), forT (ls.take k) ls[k].nm = none
def PairsL (w : World) (X : Nat → Prop) : List Bd → List (ByteArray × Value) → Prop
 | [], L => L = []
 | d :: r, L => ∃ a c L', L = (d.nm, .agg #[.string d.t.name, .slice a d.t.args.length c]) :: L' ∧ Sl w X a d.t.args ∧ PairsL w X r L'
theorem PairsL.imp {w w' : World} {X Y : Nat → Prop} (hs : ∀ a l, Sl w X a l → Sl w' Y a l) : ∀ {l : List Bd} {L : List (ByteArray × Value)}, PairsL w X l L → PairsL w' Y l L
 | [], L, h => h
 | d :: r, L, h => by obtain ⟨a, c, L', e, h1, h2⟩ := h; exact ⟨a, c, L', e, hs _ _ h1, PairsL.imp hs h2⟩
theorem PairsL.push {w : World} {X : Nat → Prop} {d : Bd} {a : Option Addr} {c : Nat} (hs : Sl w X a d.t.args) : ∀ {l : List Bd} {L : List (ByteArray × Value)}, PairsL w X l L → PairsL w X (l ++ [d]) (L ++ [(d.nm, .agg #[.string d.t.name, .slice a d.t.args.length c])])
 | [], L, h => by
  have e : L = [] := h
  subst e
  exact ⟨a, c, [], rfl, hs, rfl⟩
 | d' :: r, L, h => by obtain ⟨a', c', L', e, h1, h2⟩ := h; subst e; exact ⟨a', c', _, rfl, h1, PairsL.push hs h2⟩
theorem PairsL.get {w : World} {X : Nat → Prop} (n : ByteArray) : ∀ {l : List Bd} {L : List (ByteArray × Value)}, PairsL w X l L → (forT l n = none → mapGet L n = none) ∧ (∀ t, forT l n = some t → ∃ a c, mapGet L n = some (.agg #[.string t.name, .slice a t.args.length c]) ∧ Sl w X a t.args)
 | [], L, h => by
  have e : L = [] := h
  subst e
  exact ⟨fun _ => rfl, fun t h => by simp [forT] at h⟩
 | d :: r, L, h => by
  obtain ⟨a, c, L', rfl, h1, h2⟩ := h
  obtain ⟨g1, g2⟩ := PairsL.get n h2
  by_cases hd : d.nm = n
  ·refine ⟨fun h => by simp [forT, hd] at h, fun t h => ?_⟩
   rw [forT, if_pos hd] at h
   cases h
   exact ⟨a, c, by simp [mapGet, hd], h1⟩
  ·refine ⟨fun h => ?_, fun t h => ?_⟩
   ·rw [forT, if_neg hd] at h
    simp only [mapGet, hd, if_false]
    exact g1 h
   ·rw [forT, if_neg hd] at h
    simp only [mapGet, hd, if_false]
    exact g2 t h
def ByInv (w : World) (X : Nat → Prop) (ls : List Bd) (v : Value) (wr : World) : Prop := ∃ (k : Nat) (L : List (ByteArray × Value)), v = .int .i64 (k : Int) ∧ k ≤ ls.length ∧ MapAt wr w.heap.size L ∧ PairsL wr (fun b => X b ∧ b < w.heap.size) (ls.take k) L ∧ Below w.heap.size w wr
set_option maxHeartbeats 1000000 in
theorem byName_any (ls : List Bd) (ho : Once ls) (u : Value) (w : World) (X : Nat → Prop) (hu : BV w X u ls) :
  Calls Tryz.prog 25 #[u] w fun e w' => ∃ L, e = .returned (.map (some w.heap.size)) ∧ MapAt w' w.heap.size L ∧ PairsL w' (fun b => X b ∧ b < w.heap.size) ls L ∧ Below w.heap.size w w' := by
 have HU := hide hu
 obtain ⟨a, c, rfl, hl, hu2⟩ := hu
 clear hu2
 have hmm := @run_makeMap Tryz.prog
 go_enter Tryz.func25, Tryz.ntmps25
 go_wp2_with fail
 go_loopw [9] (fun v wr => ByInv w X ls v wr) (fun v wr => ls.length - (intOf v).toNat)
 case atStart => exact ⟨0, [], rfl, Nat.zero_le _, MapAt.new w, rfl, (Below.refl _ _).alloc (Nat.le_refl _) _⟩
 case round =>
  obtain ⟨k, L, rfl, hk, hM, hP, hb⟩ := hrel
  have HM := hide hM
  have HP := hide hP
  have HB := hide hb
  by_cases hlt : k < ls.length
  ·obtain ⟨b, o, a', c', rfl, d0, d1, d2, hs⟩ := ((HU.out.mono (Y := fun b => X b ∧ b < w.heap.size) fun b h1 h2 => ⟨h1, h2⟩).later hb).get k hlt
   have hlt2 : (k : Int) < (ls.length : Int) := by omega
   have HX := hide hs
   have hno := (hP.get ls[k].nm).1 (ho k hlt)
   have htk : ls.take (k + 1) = ls.take k ++ [ls[k]] := List.take_succ_eq_append_getElem hlt
   have HTK := hide htk
   have hMr := hM.lt
   clear hb hs hM hP htk
   generalize ls[k] = d at *
   obtain ⟨w2, hrun, hM2, hz2, ho2, ht2, hu2, hk2⟩ := run_put (P := Tryz.prog) (w := wr.alloc (.cells #[.string d.nm, .string d.t.name, .slice a' d.t.args.length c'] 87)) Tryz.underlying63 Tryz.underlying9 (HM.out.kept (Below.heap_alloc _ _ _ hMr)) d.nm (.agg #[.string d.t.name, .slice a' d.t.args.length c']) hno
   have HM2 := hide hM2
   have HB2 : Hid (Below w.heap.size w w2) := by
    have h0 := HB.out.alloc HB.out.size (.cells #[.string d.nm, .string d.t.name, .slice a' d.t.args.length c'] 87)
    exact ⟨ho2.trans h0.os, ht2.trans h0.tape, hu2.trans h0.output, by rw [hz2]; exact h0.size, fun j hj => (hk2 j (by omega)).trans (h0.block j hj)⟩
   have HP2 : Hid (PairsL w2 (fun b => X b ∧ b < w.heap.size) (ls.take (k + 1)) (L ++ [(d.nm, .agg #[.string d.t.name, .slice a' d.t.args.length c'])])) := by
    have hkp : ∀ q l, Sl wr (fun b => X b ∧ b < w.heap.size) q l → Sl w2 (fun b => X b ∧ b < w.heap.size) q l := fun q l h => h.kept fun j hj => (hk2 j (by have := hj.2; omega)).trans (Below.heap_alloc _ _ _ (by have := hj.2; omega))
    unfold Hid
    rw [HTK.out]
    exact PairsL.push (hkp _ _ HX.out) (HP.out.imp hkp)
   clear hM2 hz2 ho2 ht2 hu2 hk2 hno
   go_wp2_with fail
   go_roundw
   case rel => exact ⟨k + 1, _, by go_num, by omega, HM2.out, HP2.out, HB2.out⟩
   case measure => simp [intOf]; omega
  ·have htk : ls.take k = ls := List.take_of_length_le (by omega)
   rw [htk] at HP
   clear hP htk
   go_wp2_with fail
   go_ret
   exact ⟨L, rfl, HM.out, HP.out, HB.out⟩
theorem look_any (r : Nat) (w : World) :
  Calls Tryz.prog 24 #[.map (some r)] w fun e w' => e = .returned (.func (.func 40) #[] #[.pointer (some ⟨w.heap.size, 0, none⟩)]) ∧ w' = w.alloc (.cells #[.map (some r)] 63) := by
 have hmf : ∀ (fn : Fn) (first cap : Array Value) (w : World), (Instr.makeFunc fn first cap).run Tryz.prog w = .ok (.func fn first cap) w := fun _ _ _ _ => rfl
 go_enter Tryz.func24, Tryz.ntmps24
 go_wp2_with fail
 go_ret
 exact ⟨rfl, rfl⟩
set_option maxHeartbeats 1000000 in
theorem look1_any (ls : List Bd) (n : ByteArray) (B r : Nat) (L : List (ByteArray × Value)) (w : World) (X : Nat → Prop) (hB : Blk w B #[.map (some r)] 63) (hM : MapAt w r L) (hP : PairsL w X ls L) :
  Calls Tryz.prog 40 #[.string n, .pointer (some ⟨B, 0, none⟩)] w fun e w' => Below w.heap.size w w' ∧ ((∃ t a c, forT ls n = some t ∧ e = .returned (.tuple #[.agg #[.string t.name, .slice a t.args.length c], .bool true]) ∧ Sl w X a t.args) ∨ (forT ls n = none ∧ e = .returned (.tuple #[.agg #[.string ⟨#[]⟩, .slice none 0 0], .bool false]))) := by
 have c0 : ∀ o, (w.alloc o).cell? ⟨B, 0, none⟩ = some (.map (some r)) := fun o => (hB.alloc o).cell 0
 have hlt : B < w.heap.size := hB.lt
 have hz : ∀ w', (zeroValue 54).run Tryz.prog w' = .ok (.agg #[.string ⟨#[]⟩, .slice none 0 0]) w' := fun w' => Tryz.zeroValue54 w'
 have hM' := fun o : Obj => hM.kept (Below.heap_alloc w o _ hM.lt)
 cases hf : forT ls n with
 | none =>
  have hg := (hP.get n).1 hf
  have hlook : ∀ o, (Instr.lookup 63 (.map (some r)) (.string n) true).run Tryz.prog (w.alloc o) = .ok (.tuple #[.agg #[.string ⟨#[]⟩, .slice none 0 0], .bool false]) (w.alloc o) := fun o => by
   rw [run_look (P := Tryz.prog) Tryz.underlying63 Tryz.underlying9 (hz _) (hM' o) n, hg]; rfl
  have HF := hide hf
  clear hf hg hM' hP hM hB
  go_enter Tryz.func40, Tryz.ntmps40
  go_wp2_with fail
  have q0 := ((Blk.new w #[.string ⟨#[]⟩, .slice none 0 0] 54).alloc (.cells #[.string ⟨#[]⟩, .slice none 0 0] 54)).cell 0
  have q1 := ((Blk.new w #[.string ⟨#[]⟩, .slice none 0 0] 54).alloc (.cells #[.string ⟨#[]⟩, .slice none 0 0] 54)).cell 1
  simp at q0 q1
  refine bodyPost_ret (v := .tuple #[.agg #[.string ⟨#[]⟩, .slice none 0 0], .bool false]) (by simp [results, Tryz.results40, go_sem, q0, q1]) rfl ?_
  exact ⟨((Below.refl _ _).alloc (Nat.le_refl _) _).alloc (by simp) _, Or.inr ⟨by trivial, rfl⟩⟩
 | some t =>
  obtain ⟨a, c, hg, hs⟩ := (hP.get n).2 t hf
  have hlook : ∀ o, (Instr.lookup 63 (.map (some r)) (.string n) true).run Tryz.prog (w.alloc o) = .ok (.tuple #[.agg #[.string t.name, .slice a t.args.length c], .bool true]) (w.alloc o) := fun o => by
   rw [run_look (P := Tryz.prog) Tryz.underlying63 Tryz.underlying9 (hz _) (hM' o) n, hg]; rfl
  have HF := hide hf
  have HS := hide hs
  clear hf hg hs hM' hP hM hB
  go_enter Tryz.func40, Tryz.ntmps40
  go_wp2_with fail
  have q0 := ((Blk.new w #[.string t.name, .slice a t.args.length c] 54).alloc (.cells #[.string t.name, .slice a t.args.length c] 54)).cell 0
  have q1 := ((Blk.new w #[.string t.name, .slice a t.args.length c] 54).alloc (.cells #[.string t.name, .slice a t.args.length c] 54)).cell 1
  simp at q0 q1
  refine bodyPost_ret (v := .tuple #[.agg #[.string t.name, .slice a t.args.length c], .bool true]) (by simp [results, Tryz.results40, go_sem, q0, q1]) rfl ?_
  exact ⟨((Below.refl _ _).alloc (Nat.le_refl _) _).alloc (by simp) _, Or.inl ⟨t, a, c, rfl, rfl, HS.out⟩⟩
def fN (ls : List Bd) (s : ByteArray) (bs : List Tm) : Tm := if varB s = true then (match forT ls s with | some x => x | none => ⟨s, bs⟩) else ⟨s, bs⟩
def fL (ls : List Bd) : List Tm → List Tm
 | [] => []
 | ⟨s, a⟩ :: r => fN ls s (fL ls a) :: fL ls r
def fT (ls : List Bd) (t : Tm) : Tm := fN ls t.name (fL ls t.args)
def Env (w : World) (B r : Nat) (X : Nat → Prop) (ls : List Bd) (L : List (ByteArray × Value)) : Prop := Blk w B #[.map (some r)] 63 ∧ MapAt w r L ∧ PairsL w X ls L
theorem Env.ex {w w' : World} {B r F : Nat} {X : Nat → Prop} {ls : List Bd} {L : List (ByteArray × Value)} (h : Env w B r X ls L) (he : Ex F w w') (hB : B ≠ F) (hr : r ≠ F) (hX : ∀ b, X b → b ≠ F) : Env w' B r X ls L :=
 ⟨h.1.ex he hB, h.2.1.kept (he.block r h.2.1.lt hr), h.2.2.imp fun a l hs => hs.ex he hX⟩
theorem Env.later {w w' : World} {B r : Nat} {X : Nat → Prop} {ls : List Bd} {L : List (ByteArray × Value)} (h : Env w B r X ls L) (hb : Below w.heap.size w w') : Env w' B r X ls L :=
 ⟨h.1.below hb h.1.lt, h.2.1.below hb h.2.1.lt, h.2.2.imp fun a l hs => hs.later hb⟩
theorem way1 {w0 w1 : World} (h : Below w0.drew.heap.size w0.drew w1) : Below w0.heap.size w0 w1 := ((Below.refl w0.heap.size w0).drew).trans h
theorem way2 {w0 w1 : World} {o : Obj} (h : Below (w0.alloc o).drew.heap.size (w0.alloc o).drew w1) : Below w0.heap.size w0 w1 := (((Below.refl w0.heap.size w0).alloc (Nat.le_refl _) o).drew).trans (h.mono (by simp))
theorem way2b {w0 w1 : World} {cs : Array Value} {T : Nat} (h : Below (w0.alloc (.cells cs T)).drew.heap.size (w0.alloc (.cells cs T)).drew w1) : Blk w1 w0.heap.size cs T := ((Blk.new w0 cs T).drewN 1).below h (by simp)
theorem ff_end {w W w9 : World} {F : Nat} {sv : Value} {t : Tm} {n : Nat} {s' : ByteArray} {a' : Option Addr} {l' c' : Nat} {m : Int} {v0 v1 : Value} (hF : F < w.heap.size) (hW : w.heap.size + 2 ≤ W.heap.size) (h1 : Blk w9 F #[.int .i64 m, sv] 84) (hx : Ex F w w9) (hy : sizeL [t] ≤ n → m = (n : Int) - sizeL [t] ∧ s' = t.name ∧ l' = t.args.length ∧ Sl w9 (fun b => W.heap.size ≤ b) a' t.args) (hn : n < sizeL [t] → m = -1) :
  CpPost w F sv t n (.returned (.agg #[.string s', .slice a' l' c'])) ((w9.setCell ⟨w.heap.size + 1, 0, none⟩ v0).setCell ⟨w.heap.size + 1, 1, none⟩ v1) := by
 refine ⟨s', a', l', c', m, rfl, (h1.setOther _ _ (by omega)).setOther _ _ (by omega), (hx.setNew (by omega) _ _).setNew (by omega) _ _, fun h => ?_, hn⟩
 obtain ⟨e1, e2, e3, e4⟩ := hy h
 refine ⟨e1, e2, e3, (e4.kept fun b hb => ?_).mono fun b hb _ => by omega⟩
 rw [Below.heap_setCell _ _ _ _ (by simp; omega), Below.heap_setCell _ _ _ _ (by simp; omega)]
theorem Ex.ofBelow {B : Nat} {w w' : World} (h : Below w.heap.size w w') : Ex B w w' := ⟨h.os, h.tape, h.output, h.size, fun k hk _ => h.block k hk⟩
theorem two_keep {w : World} {F T b : Nat} {u v x : Value} {i j k : Nat} (h : w.cell? ⟨F, i, none⟩ = some u ∧ w.cell? ⟨T, j, none⟩ = some v) (h1 : b ≠ F) (h2 : b ≠ T) : (w.setCell ⟨b, k, none⟩ x).cell? ⟨F, i, none⟩ = some u ∧ (w.setCell ⟨b, k, none⟩ x).cell? ⟨T, j, none⟩ = some v :=
 ⟨(World.cell?_setCell_other _ _ _ _ (fun e => h1 (by injection e))).trans h.1, (World.cell?_setCell_other _ _ _ _ (fun e => h2 (by injection e))).trans h.2⟩
set_option maxHeartbeats 1000000 in
theorem ffill_of (F B r : Nat) (ls : List Bd) (L : List (ByteArray × Value)) (t : Tm) (n : Nat) (a : Option Addr) (c : Nat) (w : World) (X : Nat → Prop) (hn : n ≤ 1000000) (hXF : ∀ b, X b → b ≠ F) (hBF : B ≠ F) (hrF : r ≠ F) (hs : Sl w X a t.args) (hF : Blk w F #[.int .i64 (n : Int), .func (.func 40) #[] #[.pointer (some ⟨B, 0, none⟩)]] 84) (hE : Env w B r X ls L)
  (h : ∀ w', Sl w' X a t.args → Blk w' F #[.int .i64 (n : Int), .func (.func 40) #[] #[.pointer (some ⟨B, 0, none⟩)]] 84 → Env w' B r X ls L → Calls Tryz.prog 54 #[.pointer (some ⟨F, 0, none⟩), .agg #[.string t.name, .slice a t.args.length c], .func (.func 39) #[.pointer (some ⟨F, 0, none⟩)] #[]] w' fun e w'' => CpPost w' F (.func (.func 40) #[] #[.pointer (some ⟨B, 0, none⟩)]) ⟨t.name, fL ls t.args⟩ n e w'') :
  Calls Tryz.prog 39 #[.pointer (some ⟨F, 0, none⟩), .agg #[.string t.name, .slice a t.args.length c]] w fun e w' => CpPost w F (.func (.func 40) #[] #[.pointer (some ⟨B, 0, none⟩)]) (fT ls t) n e w' := by
 have hmf : ∀ (fn : Fn) (first cap : Array Value) (w : World), (Instr.makeFunc fn first cap).run Tryz.prog w = .ok (.func fn first cap) w := fun _ _ _ _ => rfl
 have H := hide h
 have HS := hide hs
 have HF := hide hF
 have HE := hide hE
 have hFl : F < w.heap.size := hF.lt
 clear h hs hF hE
 have HB0 := hide (((Below.refl w.heap.size w).alloc (Nat.le_refl _) (.cells #[.string t.name, .slice a t.args.length c] 54)).alloc (by simp) (.cells #[.string ⟨#[]⟩, .slice none 0 0] 54))
 have f1 : ∀ o o', ((w.alloc o).alloc o').cell? ⟨F, 1, none⟩ = some (.func (.func 40) #[] #[.pointer (some ⟨B, 0, none⟩)]) := fun o o' => ((HF.out.alloc o).alloc o').cell 1
 cases hv : varB t.name with
 | false =>
  have HV := hide hv
  have HT : Hid (fT ls t = ⟨t.name, fL ls t.args⟩) := by unfold Hid fT fN; rw [hv]; rfl
  clear hv
  go_enter Tryz.func39, Tryz.ntmps39
  go_wp2_with (go_at_call 41; refine (isVariable_all _ _).mono ?_; rintro e w' ⟨rfl, rfl⟩; rw [HV.out])
  have RW : Hid (Blk ((w.alloc (.cells #[.string t.name, .slice a t.args.length c] 54)).alloc (.cells #[.string ⟨#[]⟩, .slice none 0 0] 54)) (w.heap.size + 1) #[.string ⟨#[]⟩, .slice none 0 0] 54) := by
   have h := Blk.new (w.alloc (.cells #[.string t.name, .slice a t.args.length c] 54)) #[.string ⟨#[]⟩, .slice none 0 0] 54
   unfold Hid
   simpa using h
  have EXW := hide (((Ex.refl F w).alloc (.cells #[.string t.name, .slice a t.args.length c] 54)).alloc (.cells #[.string ⟨#[]⟩, .slice none 0 0] 54))
  have hW2 : Hid (w.heap.size + 2 ≤ ((w.alloc (.cells #[.string t.name, .slice a t.args.length c] 54)).alloc (.cells #[.string ⟨#[]⟩, .slice none 0 0] 54)).heap.size) := by unfold Hid; simp
  refine (H.out _ (HS.out.later HB0.out) (by exact (HF.out.alloc _).alloc _) (HE.out.later HB0.out)).mono ?_
  rintro e w9 ⟨s', a', l', c', m, rfl, hF1, hx1, hy1, hn1⟩
  have R9 := hide (RW.out.ex hx1 (by omega))
  have HX9 := hide (EXW.out.trans hx1)
  have HF9 := hide hF1
  have HY := hide hy1
  have HN := hide hn1
  have HSZ := hide (EXW.out.size)
  clear hF1 hx1 hy1 hn1
  have r0 := R9.out.c0
  have r1 := R9.out.c1
  have rf := R9.out.frozen
  go_wp2_with fail
  refine bodyPost_ret (v := .agg #[.string s', .slice a' l' c']) (by simp [results, Tryz.results39, go_sem, World.cell?_setCell_same, World.cell?_setCell_other, r0, r1]) rfl ?_
  rw [HT.out]
  exact ff_end (by omega) hW2.out HF9.out HX9.out HY.out HN.out
 | true =>
  have HV := hide hv
  clear hv
  have RW : Hid (Blk ((w.alloc (.cells #[.string t.name, .slice a t.args.length c] 54)).alloc (.cells #[.string ⟨#[]⟩, .slice none 0 0] 54)) (w.heap.size + 1) #[.string ⟨#[]⟩, .slice none 0 0] 54) := by
   have h := Blk.new (w.alloc (.cells #[.string t.name, .slice a t.args.length c] 54)) #[.string ⟨#[]⟩, .slice none 0 0] 54
   unfold Hid
   simpa using h
  have EXW := hide (((Ex.refl F w).alloc (.cells #[.string t.name, .slice a t.args.length c] 54)).alloc (.cells #[.string ⟨#[]⟩, .slice none 0 0] 54))
  have hW2 : Hid (w.heap.size + 2 ≤ ((w.alloc (.cells #[.string t.name, .slice a t.args.length c] 54)).alloc (.cells #[.string ⟨#[]⟩, .slice none 0 0] 54)).heap.size) := by unfold Hid; simp
  have E0 := hide (HE.out.later HB0.out)
  have F0 := hide ((HF.out.alloc (.cells #[.string t.name, .slice a t.args.length c] 54)).alloc (.cells #[.string ⟨#[]⟩, .slice none 0 0] 54))
  have S0 := hide (HS.out.later HB0.out)
  have T0 := hide ((Blk.new w #[.string t.name, .slice a t.args.length c] 54).alloc (.cells #[.string ⟨#[]⟩, .slice none 0 0] 54))
  have g1 := F0.out.cell 1
  have g0 := T0.out.cell 0
  simp only [List.getElem?_toArray, List.getElem?_cons_succ, List.getElem?_cons_zero] at g1 g0
  cases hf : forT ls t.name with
  | some x =>
   have HT : Hid (fT ls t = x) := by unfold Hid fT fN; rw [HV.out, hf]; rfl
   have LKA : Hid (∀ w', Below ((w.alloc (.cells #[.string t.name, .slice a t.args.length c] 54)).alloc (.cells #[.string ⟨#[]⟩, .slice none 0 0] 54)).heap.size ((w.alloc (.cells #[.string t.name, .slice a t.args.length c] 54)).alloc (.cells #[.string ⟨#[]⟩, .slice none 0 0] 54)) w' → Calls Tryz.prog 40 #[.string t.name, .pointer (some ⟨B, 0, none⟩)] w' fun e w'' => ∃ ax cx, e = .returned (.tuple #[.agg #[.string x.name, .slice ax x.args.length cx], .bool true]) ∧ Below w'.heap.size w' w'' ∧ Sl w'' (fun b => X b ∧ b < w.heap.size) ax x.args) := fun w' hb => by
    have E1 : Env w B r (fun b => X b ∧ b < w.heap.size) ls L := ⟨HE.out.1, HE.out.2.1, HE.out.2.2.imp fun a l hs => hs.mono fun b h1 h2 => ⟨h1, h2⟩⟩
    obtain ⟨h1, h2, h3⟩ := (E1.later HB0.out).later hb
    refine (look1_any ls t.name B r L w' _ h1 h2 h3).mono fun e w'' hp => ?_
    obtain ⟨hb2, hc⟩ := hp
    rcases hc with ⟨y, ay, cy, hy, he, hsy⟩ | ⟨hy, _⟩
    ·rw [hf] at hy; cases hy; exact ⟨ay, cy, he, hb2, hsy.later hb2⟩
    ·rw [hf] at hy; cases hy
   have HKP : Hid (∀ w', Below ((w.alloc (.cells #[.string t.name, .slice a t.args.length c] 54)).alloc (.cells #[.string ⟨#[]⟩, .slice none 0 0] 54)).heap.size ((w.alloc (.cells #[.string t.name, .slice a t.args.length c] 54)).alloc (.cells #[.string ⟨#[]⟩, .slice none 0 0] 54)) w' → w'.cell? ⟨F, 1, none⟩ = some (.func (.func 40) #[] #[.pointer (some ⟨B, 0, none⟩)]) ∧ w'.cell? ⟨w.heap.size, 0, none⟩ = some (.string t.name)) := fun w' hb => ⟨(F0.out.below hb F0.out.lt).cell 1, (T0.out.below hb T0.out.lt).cell 0⟩
   have nF : ((w.alloc (.cells #[.string t.name, .slice a t.args.length c] 54)).alloc (.cells #[.string ⟨#[]⟩, .slice none 0 0] 54)).heap.size ≠ F := by have := hW2.out; omega
   have nT : ((w.alloc (.cells #[.string t.name, .slice a t.args.length c] 54)).alloc (.cells #[.string ⟨#[]⟩, .slice none 0 0] 54)).heap.size ≠ w.heap.size := by have := hW2.out; omega
   clear hf f1
   go_enter Tryz.func39, Tryz.ntmps39
   go_wp2_with (go_at_call 41; refine (isVariable_all _ _).mono ?_; rintro e w' ⟨rfl, rfl⟩; rw [HV.out])
   generalize ((w.alloc (.cells #[.string t.name, .slice a t.args.length c] 54)).alloc (.cells #[.string ⟨#[]⟩, .slice none 0 0] 54)) = w0 at *
   go_region_held3 (fun w' => w'.cell? ⟨F, 1, none⟩ = some (.func (.func 40) #[] #[.pointer (some ⟨B, 0, none⟩)]) ∧ w'.cell? ⟨w.heap.size, 0, none⟩ = some (.string t.name)) (first | exact hS | exact ⟨g1, g0⟩ | exact two_keep hS nF nT | exact two_keep (two_keep hS nF nT) nF nT | go_keep)
    ((go_at_call 40; refine (LKA.out _ (by first | exact (Below.refl _ _).drew | exact ((Below.refl _ _).alloc (Nat.le_refl _) _).drew)).mono ?_; rintro e w1 ⟨ax, cx, rfl, hb1, hsx⟩; have HSX := hide hsx; clear hsx; (first | (have hB0 := way1 hb1; have hS := HKP.out _ hB0) | (have hB0 := way2 hb1; have xb := hide (way2b hb1); have x0 := xb.out.cell 0; have x1 := xb.out.cell 1; have xf := xb.out.frozen; have hS := HKP.out _ hB0))))
   ·generalize hz : (w1.alloc (Obj.cells #[Value.string x.name, Value.slice ax x.args.length cx] 54)) = wz at *
    have hbz : Below w0.heap.size w0 wz := by rw [← hz]; exact hB0.alloc hB0.size _
    have HSZ : Hid (Sl wz (fun b => X b ∧ b < w.heap.size) ax x.args) := by rw [← hz]; exact HSX.out.later ((Below.refl _ _).alloc (Nat.le_refl _) _)
    have q0 : wz.cell? ⟨w1.heap.size, 0, none⟩ = some (.string x.name) := by rw [← hz]; exact (Blk.new w1 _ _).cell 0
    have q1 : wz.cell? ⟨w1.heap.size, 1, none⟩ = some (.slice ax x.args.length cx) := by rw [← hz]; exact (Blk.new w1 _ _).cell 1
    have hwz : Hid (w.heap.size + 2 ≤ wz.heap.size) := Nat.le_trans hW2.out hbz.size
    have HBZ := hide hbz
    clear hbz hz
    go_wp2_with fail
    refine (knotC_any F _ x n _ wz (fun b => X b ∧ b < w.heap.size) ⟨ax, cx, rfl, HSZ.out⟩ (fun b hb => hXF b hb.1) hn (F0.out.below HBZ.out F0.out.lt)).mono ?_
    rintro e w9 ⟨s', a', l', c', m, rfl, hF1, hx1, hy1, hn1⟩
    have R9 := hide ((RW.out.below HBZ.out RW.out.lt).ex hx1 (by omega))
    have HX9 := hide ((EXW.out.trans (Ex.ofBelow HBZ.out)).trans hx1)
    have HF9 := hide hF1
    have HY := hide hy1
    have HN := hide hn1
    clear hF1 hx1 hy1 hn1
    have r0 := R9.out.c0
    have r1 := R9.out.c1
    have rf := R9.out.frozen
    go_wp2_with fail
    refine bodyPost_ret (v := .agg #[.string s', .slice a' l' c']) (by simp [results, Tryz.results39, go_sem, World.cell?_setCell_same, World.cell?_setCell_other, r0, r1]) rfl ?_
    rw [HT.out]
    exact ff_end (by omega) hwz.out HF9.out HX9.out HY.out HN.out
   ·generalize hz : ((w1.setCell { block := w0.heap.size, off := 0 } (Value.string x.name)).setCell { block := w0.heap.size, off := 1 } (Value.slice ax x.args.length cx)) = wz at *
    have hbz : Below w0.heap.size w0 wz := by rw [← hz]; exact (hB0.setCell (Nat.le_refl _) _).setCell (Nat.le_refl _) _
    have HSZ : Hid (Sl wz (fun b => X b ∧ b < w.heap.size) ax x.args) := by
     rw [← hz]
     refine HSX.out.kept fun b hb => ?_
     have hb2 := hb.2
     have hb3 := hW2.out
     rw [Below.heap_setCell _ _ _ _ (by simp; omega), Below.heap_setCell _ _ _ _ (by simp; omega)]
    have q0 : wz.cell? ⟨w0.heap.size, 0, none⟩ = some (.string x.name) := by rw [← hz]; simp [World.cell?_setCell_same, World.cell?_setCell_other, x0, x1]
    have q1 : wz.cell? ⟨w0.heap.size, 1, none⟩ = some (.slice ax x.args.length cx) := by rw [← hz]; simp [World.cell?_setCell_same, World.cell?_setCell_other, x0, x1]
    have hwz : Hid (w.heap.size + 2 ≤ wz.heap.size) := Nat.le_trans hW2.out hbz.size
    have HBZ := hide hbz
    clear hbz hz
    go_wp2_with fail
    refine (knotC_any F _ x n _ wz (fun b => X b ∧ b < w.heap.size) ⟨ax, cx, rfl, HSZ.out⟩ (fun b hb => hXF b hb.1) hn (F0.out.below HBZ.out F0.out.lt)).mono ?_
    rintro e w9 ⟨s', a', l', c', m, rfl, hF1, hx1, hy1, hn1⟩
    have R9 := hide ((RW.out.below HBZ.out RW.out.lt).ex hx1 (by omega))
    have HX9 := hide ((EXW.out.trans (Ex.ofBelow HBZ.out)).trans hx1)
    have HF9 := hide hF1
    have HY := hide hy1
    have HN := hide hn1
    clear hF1 hx1 hy1 hn1
    have r0 := R9.out.c0
    have r1 := R9.out.c1
    have rf := R9.out.frozen
    go_wp2_with fail
    refine bodyPost_ret (v := .agg #[.string s', .slice a' l' c']) (by simp [results, Tryz.results39, go_sem, World.cell?_setCell_same, World.cell?_setCell_other, r0, r1]) rfl ?_
    rw [HT.out]
    exact ff_end (by omega) hwz.out HF9.out HX9.out HY.out HN.out
  | none =>
   have HT : Hid (fT ls t = ⟨t.name, fL ls t.args⟩) := by unfold Hid fT fN; rw [HV.out, hf]; rfl
   have LKA : Hid (∀ w', Below ((w.alloc (.cells #[.string t.name, .slice a t.args.length c] 54)).alloc (.cells #[.string ⟨#[]⟩, .slice none 0 0] 54)).heap.size ((w.alloc (.cells #[.string t.name, .slice a t.args.length c] 54)).alloc (.cells #[.string ⟨#[]⟩, .slice none 0 0] 54)) w' → Calls Tryz.prog 40 #[.string t.name, .pointer (some ⟨B, 0, none⟩)] w' fun e w'' => e = .returned (.tuple #[.agg #[.string ⟨#[]⟩, .slice none 0 0], .bool false]) ∧ Below w'.heap.size w' w'') := fun w' hb => by
    obtain ⟨h1, h2, h3⟩ := E0.out.later hb
    refine (look1_any ls t.name B r L w' X h1 h2 h3).mono fun e w'' hp => ?_
    obtain ⟨hb2, hc⟩ := hp
    rcases hc with ⟨x, _, _, hx, _⟩ | ⟨_, he⟩
    ·rw [hf] at hx; cases hx
    ·exact ⟨he, hb2⟩
   have HKP : Hid (∀ w', Below ((w.alloc (.cells #[.string t.name, .slice a t.args.length c] 54)).alloc (.cells #[.string ⟨#[]⟩, .slice none 0 0] 54)).heap.size ((w.alloc (.cells #[.string t.name, .slice a t.args.length c] 54)).alloc (.cells #[.string ⟨#[]⟩, .slice none 0 0] 54)) w' → w'.cell? ⟨F, 1, none⟩ = some (.func (.func 40) #[] #[.pointer (some ⟨B, 0, none⟩)]) ∧ w'.cell? ⟨w.heap.size, 0, none⟩ = some (.string t.name)) := fun w' hb => ⟨(F0.out.below hb F0.out.lt).cell 1, (T0.out.below hb T0.out.lt).cell 0⟩
   have nF : ((w.alloc (.cells #[.string t.name, .slice a t.args.length c] 54)).alloc (.cells #[.string ⟨#[]⟩, .slice none 0 0] 54)).heap.size ≠ F := by have := hW2.out; omega
   have nT : ((w.alloc (.cells #[.string t.name, .slice a t.args.length c] 54)).alloc (.cells #[.string ⟨#[]⟩, .slice none 0 0] 54)).heap.size ≠ w.heap.size := by have := hW2.out; omega
   clear hf f1
   go_enter Tryz.func39, Tryz.ntmps39
   go_wp2_with (go_at_call 41; refine (isVariable_all _ _).mono ?_; rintro e w' ⟨rfl, rfl⟩; rw [HV.out])
   generalize ((w.alloc (.cells #[.string t.name, .slice a t.args.length c] 54)).alloc (.cells #[.string ⟨#[]⟩, .slice none 0 0] 54)) = w0 at *
   go_region_held3 (fun w' => w'.cell? ⟨F, 1, none⟩ = some (.func (.func 40) #[] #[.pointer (some ⟨B, 0, none⟩)]) ∧ w'.cell? ⟨w.heap.size, 0, none⟩ = some (.string t.name)) (first | exact hS | exact ⟨g1, g0⟩ | exact two_keep hS nF nT | exact two_keep (two_keep hS nF nT) nF nT | go_keep)
    ((go_at_call 40; refine (LKA.out _ (by first | exact (Below.refl _ _).drew | exact ((Below.refl _ _).alloc (Nat.le_refl _) _).drew)).mono ?_; rintro e w1 ⟨rfl, hb1⟩; (first | (have hB0 := way1 hb1; have hS := HKP.out _ hB0) | (have hB0 := way2 hb1; have xb := hide (way2b hb1); have x0 := xb.out.cell 0; have x1 := xb.out.cell 1; have xf := xb.out.frozen; have hS := HKP.out _ hB0))))
   ·generalize hz : (w1.alloc (Obj.cells #[Value.string { data := #[] }, Value.slice none 0 0] 54)) = wz at *
    have hbz : Below w0.heap.size w0 wz := by rw [← hz]; exact hB0.alloc hB0.size _
    have t0 : wz.cell? ⟨w.heap.size, 0, none⟩ = some (.string t.name) := (T0.out.below hbz T0.out.lt).cell 0
    have t1 : wz.cell? ⟨w.heap.size, 1, none⟩ = some (.slice a t.args.length c) := (T0.out.below hbz T0.out.lt).cell 1
    have hwz : Hid (w.heap.size + 2 ≤ wz.heap.size) := Nat.le_trans hW2.out hbz.size
    have HBZ := hide hbz
    clear hbz
    go_wp2_with fail
    refine (H.out _ (S0.out.later HBZ.out) (F0.out.below HBZ.out F0.out.lt) (E0.out.later HBZ.out)).mono ?_
    rintro e w9 ⟨s', a', l', c', m, rfl, hF1, hx1, hy1, hn1⟩
    have R9 := hide ((RW.out.below HBZ.out RW.out.lt).ex hx1 (by omega))
    have HX9 := hide ((EXW.out.trans (Ex.ofBelow HBZ.out)).trans hx1)
    have HF9 := hide hF1
    have HY := hide hy1
    have HN := hide hn1
    clear hF1 hx1 hy1 hn1
    have r0 := R9.out.c0
    have r1 := R9.out.c1
    have rf := R9.out.frozen
    go_wp2_with fail
    refine bodyPost_ret (v := .agg #[.string s', .slice a' l' c']) (by simp [results, Tryz.results39, go_sem, World.cell?_setCell_same, World.cell?_setCell_other, r0, r1]) rfl ?_
    rw [HT.out]
    exact ff_end (by omega) hwz.out HF9.out HX9.out HY.out HN.out
   ·generalize hz : ((w1.setCell { block := w0.heap.size, off := 0 } (Value.string { data := #[] })).setCell { block := w0.heap.size, off := 1 } (Value.slice none 0 0)) = wz at *
    have hbz : Below w0.heap.size w0 wz := by rw [← hz]; exact (hB0.setCell (Nat.le_refl _) _).setCell (Nat.le_refl _) _
    have t0 : wz.cell? ⟨w.heap.size, 0, none⟩ = some (.string t.name) := (T0.out.below hbz T0.out.lt).cell 0
    have t1 : wz.cell? ⟨w.heap.size, 1, none⟩ = some (.slice a t.args.length c) := (T0.out.below hbz T0.out.lt).cell 1
    have hwz : Hid (w.heap.size + 2 ≤ wz.heap.size) := Nat.le_trans hW2.out hbz.size
    have HBZ := hide hbz
    clear hbz
    go_wp2_with fail
    refine (H.out _ (S0.out.later HBZ.out) (F0.out.below HBZ.out F0.out.lt) (E0.out.later HBZ.out)).mono ?_
    rintro e w9 ⟨s', a', l', c', m, rfl, hF1, hx1, hy1, hn1⟩
    have R9 := hide ((RW.out.below HBZ.out RW.out.lt).ex hx1 (by omega))
    have HX9 := hide ((EXW.out.trans (Ex.ofBelow HBZ.out)).trans hx1)
    have HF9 := hide hF1
    have HY := hide hy1
    have HN := hide hn1
    clear hF1 hx1 hy1 hn1
    have r0 := R9.out.c0
    have r1 := R9.out.c1
    have rf := R9.out.frozen
    go_wp2_with fail
    refine bodyPost_ret (v := .agg #[.string s', .slice a' l' c']) (by simp [results, Tryz.results39, go_sem, World.cell?_setCell_same, World.cell?_setCell_other, r0, r1]) rfl ?_
    rw [HT.out]
    exact ff_end (by omega) hwz.out HF9.out HX9.out HY.out HN.out
theorem fL_map (ls : List Bd) : ∀ l : List Tm, fL ls l = l.map (fT ls)
 | [] => by simp [fL]
 | ⟨s, a⟩ :: r => by rw [fL, fL_map ls r]; rfl
set_option maxHeartbeats 1000000 in
theorem knotF_any (F B r : Nat) (ls : List Bd) (L : List (ByteArray × Value)) (hBF : B ≠ F) (hrF : r ≠ F) (t : Tm) : ∀ (n : Nat) (v : Value) (w : World) (X : Nat → Prop), TV w X v t → (∀ b, X b → b ≠ F) → n ≤ 1000000 → Blk w F #[.int .i64 (n : Int), .func (.func 40) #[] #[.pointer (some ⟨B, 0, none⟩)]] 84 → Env w B r X ls L →
  Calls Tryz.prog 54 #[.pointer (some ⟨F, 0, none⟩), v, .func (.func 39) #[.pointer (some ⟨F, 0, none⟩)] #[]] w fun e w' => CpPost w F (.func (.func 40) #[] #[.pointer (some ⟨B, 0, none⟩)]) ⟨t.name, fL ls t.args⟩ n e w' := by
 induction t using Tm.ind with
 | h s l ih =>
  intro n v w X hv hXF hn hF hE
  obtain ⟨a, c, rfl, hs⟩ := hv
  dsimp only
  generalize hsv : Value.func (.func 40) #[] #[.pointer (some ⟨B, 0, none⟩)] = sv at *
  obtain ⟨M, hM⟩ : ∃ M, fL ls l = M := ⟨_, rfl⟩
  rw [hM]
  have hML : M.length = l.length := by rw [← hM, fL_map]; simp
  have HMK : Hid (∀ k (h : k < M.length) (h' : k < l.length), M[k] = fT ls l[k]) := fun k h h' => by subst hM; simp [fL_map]
  have HE := hide hE
  clear hE hM
  have IH := hide ih
  clear ih
  obtain ⟨i0, hi0, hz0, hz1, hz2⟩ := info_parts Tryz.infoTerm
  have f0 : ∀ o, (w.alloc o).cell? ⟨F, 0, none⟩ = some (.int .i64 (n : Int)) := fun o => (hF.alloc o).cell 0
  have ff : ∀ o, (w.alloc o).frozen? ⟨F, 0, none⟩ = false := fun o => (hF.alloc o).frozen 0
  have hFl : F < w.heap.size := hF.lt
  go_enter Tryz.func54, Tryz.ntmps54
  go_wp2_with fail
  have E3 : Hid (KnSet w F (w.heap.size + 1 + 1) s (.slice none 0 0) #[.int .i64 ((n : Int) - 1), sv] ((((w.setCell ⟨F, 0, none⟩ (.int .i64 ((n : Int) - 1))).alloc (.cells #[.string s, .slice a l.length c] 54)).alloc (.cells #[.string ⟨#[]⟩, .slice none 0 0] 54)).alloc (.cells #[.string s, .slice none 0 0] 54))) := by
   refine ⟨((((Ex.refl F w).set 0 _).alloc _).alloc _).alloc _, ?_, ?_, (((hF.set 0 _).alloc _).alloc _).alloc _, by simp [World.setCell]⟩
   ·have h := (Blk.new ((w.setCell ⟨F, 0, none⟩ (.int .i64 ((n : Int) - 1))).alloc (.cells #[.string s, .slice a l.length c] 54)) #[.string ⟨#[]⟩, .slice none 0 0] 54).alloc (.cells #[.string s, .slice none 0 0] 54)
    simpa [World.setCell] using h
   ·have h := Blk.new (((w.setCell ⟨F, 0, none⟩ (.int .i64 ((n : Int) - 1))).alloc (.cells #[.string s, .slice a l.length c] 54)).alloc (.cells #[.string ⟨#[]⟩, .slice none 0 0] 54)) #[.string s, .slice none 0 0] 54
    simpa [World.setCell] using h
  generalize ((((w.setCell ⟨F, 0, none⟩ (.int .i64 ((n : Int) - 1))).alloc (.cells #[.string s, .slice a l.length c] 54)).alloc (.cells #[.string ⟨#[]⟩, .slice none 0 0] 54)).alloc (.cells #[.string s, .slice none 0 0] 54)) = w3 at *
  generalize hOe : w.heap.size + 1 + 1 = O at *
  have hO : w.heap.size + 2 ≤ O := by omega
  clear hOe
  clear f0 ff
  have HS := hide hs
  have hl := hs.1
  have HXF := hide hXF
  have hz : sizeL [(⟨s, M⟩ : Tm)] = 1 + sizeL M := by simp [sizeL]
  clear hs hXF
  go_loopw [23] (fun i wr => KnInv w F O s sv M n i wr) (fun i wr => l.length - (intOf i).toNat)
  case atStart =>
   refine ⟨0, .slice none 0 0, Nat.zero_le _, rfl, ?_⟩
   by_cases hn0 : n = 0
   ·subst hn0
    exact Or.inr ⟨by omega, E3.out, none, 0, 0, rfl⟩
   ·refine Or.inl ⟨n - 1, [], by simp [sizeL]; omega, ?_, Row.start _ _ _ _⟩
    rw [show ((n - 1 : Nat) : Int) = (n : Int) - 1 by omega]
    exact E3.out
  case round =>
   obtain ⟨k, u, hk, rfl, hcase⟩ := hrel
   rcases hcase with ⟨m, xs, hm, hset, hrow⟩ | ⟨hbig, hset, a9, l9, c9, rfl⟩
   ·have XS := hide hset
    have XW := hide hrow
    have HMM := hide hm
    clear hset hrow
    by_cases hlt : k < l.length
    ·obtain ⟨b, o, a', c', rfl, d0, d1, hx⟩ := (HS.out.ex XS.out.1 HXF.out).get (Below.refl _ _) (fun _ _ h => h) k hlt
     obtain ⟨av, cv, ev, hsx⟩ := hx
     simp at ev
     obtain ⟨rfl, rfl⟩ := ev
     have hltM : k < M.length := by omega
     obtain ⟨y, hy⟩ : ∃ y, fT ls l[k] = y := ⟨_, rfl⟩
     have hMy : Hid (M[k] = y) := by unfold Hid; rw [HMK.out k hltM hlt, hy]
     have hmn : m ≤ 1000000 := by omega
     have HOF : Hid (O ≠ F) := by unfold Hid; omega
     have HFO1 : Hid (F < O + 1) := by unfold Hid; omega
     have hlen := sizeL_len M
     have hsk : (M.take k).length = k := by simp; omega
     have hkn : k ≤ 1000000 := by have h1 := sizeL_len (M.take k); rw [hsk] at h1; omega
     have HL1 : Hid ((M.take k).length + 1 ≤ maxLen ∧ ((M.take k).length + 1) * 40 ≤ 140737488355328) := by unfold Hid; rw [hsk]; exact ⟨by unfold maxLen; omega, by omega⟩
     clear hsk
     have IHQ : Hid (Calls Tryz.prog 39 #[.pointer (some ⟨F, 0, none⟩), .agg #[.string l[k].name, .slice a' l[k].args.length c']] (wr.alloc (.cells #[.string l[k].name, .slice a' l[k].args.length c'] 54)).drew fun e w'' => CpPost (wr.alloc (.cells #[.string l[k].name, .slice a' l[k].args.length c'] 54)).drew F sv y m e w'') := by
      have hEr : Env (wr.alloc (.cells #[.string l[k].name, .slice a' l[k].args.length c'] 54)).drew B r X ls L := ((HE.out.ex XS.out.1 hBF hrF HXF.out).later ((Below.refl _ _).alloc (Nat.le_refl _) _)).later ((Below.refl _ _).drew)
      have hFr : Blk (wr.alloc (.cells #[.string l[k].name, .slice a' l[k].args.length c'] 54)).drew F #[.int .i64 (m : Int), sv] 84 := (XS.out.2.2.2.1.alloc _).drewN 1
      have hSr : Sl (wr.alloc (.cells #[.string l[k].name, .slice a' l[k].args.length c'] 54)).drew X a' l[k].args := (hsx.later ((Below.refl _ _).alloc (Nat.le_refl _) _)).later ((Below.refl _ _).drew)
      have IH2 := IH.out l[k] (List.getElem_mem hlt) m
      rw [← hy]
      clear HMM XS XW
      subst hsv
      exact ffill_of F B r ls L l[k] m a' c' _ X hmn HXF.out hBF hrF hSr hFr hEr (fun w' h1 h2 h3 => IH2 _ w' X ⟨a', c', rfl, h1⟩ HXF.out hmn h2 h3)
     have f0 : ∀ o, (wr.alloc o).cell? ⟨F, 0, none⟩ = some (.int .i64 (m : Int)) := fun o => (XS.out.2.2.2.1.alloc o).cell 0
     have o1 : ∀ o, (wr.alloc o).cell? ⟨O, 1, none⟩ = some u := fun o => (XS.out.2.2.1.alloc o).cell 1
     have hm0 : ¬ (m : Int) < 0 := by omega
     by_cases hle : sizeL [y] ≤ m
     ·have IHG : Hid (Calls Tryz.prog 39 #[.pointer (some ⟨F, 0, none⟩), .agg #[.string l[k].name, .slice a' l[k].args.length c']] (wr.alloc (.cells #[.string l[k].name, .slice a' l[k].args.length c'] 54)).drew fun e w'' => ∃ a1 c1, e = .returned (.agg #[.string y.name, .slice a1 y.args.length c1]) ∧ Blk w'' F #[.int .i64 ((m : Int) - sizeL [y]), sv] 84 ∧ Ex F wr w'' ∧ Sl w'' (fun b => wr.heap.size ≤ b) a1 y.args) := IHQ.out.mono fun e w'' hp => by
       obtain ⟨s1, a1, l1, c1, m1, h1, h2, h3, h4, _⟩ := hp
       obtain ⟨rfl, rfl, rfl, h5⟩ := h4 hle
       exact ⟨a1, c1, h1, h2, (((Ex.refl F wr).alloc _).drew).trans h3, h5.mono fun b hb _ => by simp at hb; omega⟩
      clear IHQ
      go_wp2_with fail
      go_region_law (first
       | (go_simp; go_at_call 39; refine IHG.out.mono ?_; rintro e w1 ⟨a1, c1, rfl, hF1, he1, hs1⟩; have hc3 : ∀ o, (w1.alloc o).cell? ⟨O, 1, none⟩ = some u := fun o => ((Blk.ex XS.out.2.2.1 he1 HOF.out).alloc o).cell 1; have hc4 : w1.cell? ⟨O, 1, none⟩ = some u := (Blk.ex XS.out.2.2.1 he1 HOF.out).cell 1)
       | (refine step_append_lies _ rfl _ _ 52 rfl (O + 1) 54 i0 _ 2 40 Tryz.underlying52 hi0 hz0 hz1 hz2 rfl (by decide) u (M.take k).length xs rfl (by exact (Row.ex (B := F) XW.out he1 HFO1.out (fun h => h)).own.alloc _) ⟨w1.heap.size, 0, none⟩ 1 1 [.string y.name, .slice a1 y.args.length c1] rfl rfl (cell_two_new _ _ _ _) (fun x hx => by simp at hx; rcases hx with rfl | rfl <;> rfl) (by decide) HL1.out.1 HL1.out.2 (by have := he1.size; have := XS.out.2.2.2.2; simp; omega) _ rfl ?_; intro g cap w3 hown3 hgrow3 hat3 hlt3; have hB3 := hide (((Blk.ex XS.out.2.2.1 he1 HOF.out).alloc _).grown hgrow3 (XW.out.ne (Nat.lt_succ_self _))); have hc5 : w3.cell? ⟨O, 1, none⟩ = some u := hB3.out.cell 1; have hf5 := hB3.out.frozen 1))
      all_goals
       have HK := hide (kn_set (v := .slice (some ⟨g, 0, none⟩) ((M.take k).length + 1) cap) hFl hO XS.out (fun j hj => (XW.out.own.lt j hj).1) he1 hF1 hgrow3)
       have HRW := hide (kn_row (by omega) XS.out.2.2.2.2 XW.out he1 ⟨a1, c1, rfl, hs1⟩ hown3 hgrow3 hat3)
       clear hown3 hgrow3 hat3 hc3 hc4 hc5 hf5 hB3 hF1 he1 hs1 hlt3
       go_wp2_with fail
       go_roundw
       case rel =>
        have hkl : (M.take k).length = k := by simp; omega
        have h1 := HK.out
        have h2 := HRW.out
        have hmm := HMM.out
        simp only [hkl] at h1 h2
        have hmk : min k l.length = k := by omega
        simp only [hmk]
        refine ⟨k + 1, .slice (some ⟨g, 0, none⟩) (k + 1) cap, by omega, by go_num, Or.inl ⟨m - sizeL [y], xs ++ [.string y.name, .slice a1 y.args.length c1], by rw [sizeL_take M k hltM, hMy.out]; omega, ?_, ?_⟩⟩
        ·rw [show ((m - sizeL [y] : Nat) : Int) = (m : Int) - sizeL [y] by omega]
         exact h1
        ·rw [List.take_succ_eq_append_getElem hltM, hMy.out]
         exact h2
       case measure => simp [intOf]; omega
     ·have IHG : Hid (Calls Tryz.prog 39 #[.pointer (some ⟨F, 0, none⟩), .agg #[.string l[k].name, .slice a' l[k].args.length c']] (wr.alloc (.cells #[.string l[k].name, .slice a' l[k].args.length c'] 54)).drew fun e w'' => ∃ s1 a1 l1 c1, e = .returned (.agg #[.string s1, .slice a1 l1 c1]) ∧ Blk w'' F #[.int .i64 (-1), sv] 84 ∧ Ex F wr w'') := IHQ.out.mono fun e w'' hp => by
       obtain ⟨s1, a1, l1, c1, m1, h1, h2, h3, _, h4⟩ := hp
       obtain rfl := h4 (by omega)
       exact ⟨s1, a1, l1, c1, h1, h2, (((Ex.refl F wr).alloc _).drew).trans h3⟩
      clear IHQ
      go_wp2_with fail
      go_region_law (first
       | (go_simp; go_at_call 39; refine IHG.out.mono ?_; rintro e w1 ⟨s1, a1, l1, c1, rfl, hF1, he1⟩; have hc3 : ∀ o, (w1.alloc o).cell? ⟨O, 1, none⟩ = some u := fun o => ((Blk.ex XS.out.2.2.1 he1 HOF.out).alloc o).cell 1; have hc4 : w1.cell? ⟨O, 1, none⟩ = some u := (Blk.ex XS.out.2.2.1 he1 HOF.out).cell 1)
       | (refine step_append_lies _ rfl _ _ 52 rfl (O + 1) 54 i0 _ 2 40 Tryz.underlying52 hi0 hz0 hz1 hz2 rfl (by decide) u (M.take k).length xs rfl (by exact (Row.ex (B := F) XW.out he1 HFO1.out (fun h => h)).own.alloc _) ⟨w1.heap.size, 0, none⟩ 1 1 [.string s1, .slice a1 l1 c1] rfl rfl (cell_two_new _ _ _ _) (fun x hx => by simp at hx; rcases hx with rfl | rfl <;> rfl) (by decide) HL1.out.1 HL1.out.2 (by have := he1.size; have := XS.out.2.2.2.2; simp; omega) _ rfl ?_; intro g cap w3 hown3 hgrow3 hat3 hlt3; have hB3 := hide (((Blk.ex XS.out.2.2.1 he1 HOF.out).alloc _).grown hgrow3 (XW.out.ne (Nat.lt_succ_self _))); have hc5 : w3.cell? ⟨O, 1, none⟩ = some u := hB3.out.cell 1; have hf5 := hB3.out.frozen 1))
      all_goals
       have HK := hide (kn_set (v := .slice (some ⟨g, 0, none⟩) ((M.take k).length + 1) cap) hFl hO XS.out (fun j hj => (XW.out.own.lt j hj).1) he1 hF1 hgrow3)
       clear hown3 hgrow3 hat3 hc3 hc4 hc5 hf5 hB3 hF1 he1 hlt3
       go_wp2_with fail
       go_roundw
       case rel =>
        have hkl : (M.take k).length = k := by simp; omega
        have h0 := HK.out
        have hmm := HMM.out
        simp only [hkl] at h0
        have hmk : min k l.length = k := by omega
        simp only [hmk]
        refine ⟨k + 1, .slice (some ⟨g, 0, none⟩) (k + 1) cap, by omega, by go_num, Or.inr ⟨?_, h0, _, _, _, rfl⟩⟩
        have h1 := sizeL_take M k hltM
        rw [hMy.out] at h1
        have h2 := sizeL_take_le M (k + 1)
        omega
       case measure => simp [intOf]; omega
    ·have htk : M.take k = M := List.take_of_length_le (by omega)
     rw [htk] at XW HMM
     obtain ⟨a9, c9, hu9, hsl9⟩ := XW.out.sl
     subst hu9
     have S9 := hide hsl9
     clear hsl9
     have r0 := XS.out.2.1.c0
     have r1 := XS.out.2.1.c1
     have rf := XS.out.2.1.frozen
     have o0 := XS.out.2.2.1.c0
     have o1 := XS.out.2.2.1.c1
     go_wp2_with fail
     refine bodyPost_ret (v := .agg #[.string s, .slice a9 M.length c9]) (by simp [results, Tryz.results54, go_sem, World.cell?_setCell_same, World.cell?_setCell_other, r0, r1, hML]) rfl ?_
     have hmm := HMM.out
     refine ⟨s, a9, M.length, c9, m, rfl, (XS.out.2.2.2.1.setOther _ _ (by omega)).setOther _ _ (by omega), (XS.out.1.setNew (by omega) _ _).setNew (by omega) _ _, fun h => ⟨by rw [hz]; omega, rfl, rfl, (S9.out.kept fun b hb => ?_).mono fun b hb _ => ?_⟩, fun h => by omega⟩
     ·have hb' : O + 1 ≤ b := hb.elim False.elim id
      rw [Below.heap_setCell _ _ _ _ (by simp; omega), Below.heap_setCell _ _ _ _ (by simp; omega)]
     ·have hb' : O + 1 ≤ b := hb.elim False.elim id
      omega
   ·have XS := hide hset
    clear hset
    have f0 : ∀ o, (wr.alloc o).cell? ⟨F, 0, none⟩ = some (.int .i64 (-1)) := fun o => (XS.out.2.2.2.1.alloc o).cell 0
    by_cases hlt : k < l.length
    ·obtain ⟨b, o, a', c', rfl, d0, d1, hx⟩ := (HS.out.ex XS.out.1 HXF.out).get (Below.refl _ _) (fun _ _ h => h) k hlt
     clear hx
     have o0 : ∀ o, (wr.alloc o).cell? ⟨O, 0, none⟩ = some (.string s) := fun o => (XS.out.2.2.1.alloc o).cell 0
     have o1 : ∀ o, (wr.alloc o).cell? ⟨O, 1, none⟩ = some (.slice a9 l9 c9) := fun o => (XS.out.2.2.1.alloc o).cell 1
     have r0 := XS.out.2.1.c0
     have r1 := XS.out.2.1.c1
     have rf := XS.out.2.1.frozen
     have hRl : w.heap.size + 1 < wr.heap.size := XS.out.2.1.lt
     go_wp2_with fail
     refine bodyPost_ret (v := .agg #[.string s, .slice a9 l9 c9]) (by simp [results, Tryz.results54, go_sem, World.cell?_setCell_same, World.cell?_setCell_other, r0, r1, hRl, World.cell?_alloc_old]) rfl ?_
     exact ⟨s, a9, l9, c9, -1, rfl, ((XS.out.2.2.2.1.setOther _ _ (by omega)).setOther _ _ (by omega)).alloc _, ((XS.out.1.setNew (by omega) _ _).setNew (by omega) _ _).alloc _, fun h => by omega, fun _ => rfl⟩
    ·have r0 := XS.out.2.1.c0
     have r1 := XS.out.2.1.c1
     have rf := XS.out.2.1.frozen
     have o0 := XS.out.2.2.1.c0
     have o1 := XS.out.2.2.1.c1
     go_wp2_with fail
     refine bodyPost_ret (v := .agg #[.string s, .slice a9 l9 c9]) (by simp [results, Tryz.results54, go_sem, World.cell?_setCell_same, World.cell?_setCell_other, r0, r1]) rfl ?_
     exact ⟨s, a9, l9, c9, -1, rfl, (XS.out.2.2.2.1.setOther _ _ (by omega)).setOther _ _ (by omega), (XS.out.1.setNew (by omega) _ _).setNew (by omega) _ _, fun h => by omega, fun _ => rfl⟩
theorem ffill_any (F B r : Nat) (ls : List Bd) (L : List (ByteArray × Value)) (t : Tm) (n : Nat) (a : Option Addr) (c : Nat) (w : World) (X : Nat → Prop) (hn : n ≤ 1000000) (hXF : ∀ b, X b → b ≠ F) (hBF : B ≠ F) (hrF : r ≠ F) (hs : Sl w X a t.args) (hF : Blk w F #[.int .i64 (n : Int), .func (.func 40) #[] #[.pointer (some ⟨B, 0, none⟩)]] 84) (hE : Env w B r X ls L) :
  Calls Tryz.prog 39 #[.pointer (some ⟨F, 0, none⟩), .agg #[.string t.name, .slice a t.args.length c]] w fun e w' => CpPost w F (.func (.func 40) #[] #[.pointer (some ⟨B, 0, none⟩)]) (fT ls t) n e w' :=
 ffill_of F B r ls L t n a c w X hn hXF hBF hrF hs hF hE (fun w' h1 h2 h3 => knotF_any F B r ls L hBF hrF t n _ w' X ⟨a, c, rfl, h1⟩ hXF hn h2 h3)
set_option maxHeartbeats 1000000 in
theorem fill_any (B r : Nat) (ls : List Bd) (L : List (ByteArray × Value)) (t : Tm) (n : Nat) (a : Option Addr) (c : Nat) (w : World) (X : Nat → Prop) (hn : n ≤ 1000000) (hs : Sl w X a t.args) (hE : Env w B r X ls L) :
  Calls Tryz.prog 23 #[.agg #[.string t.name, .slice a t.args.length c], .int .i64 (n : Int), .func (.func 40) #[] #[.pointer (some ⟨B, 0, none⟩)]] w fun e w' => Below w.heap.size w w' ∧
   ((sizeL [fT ls t] ≤ n ∧ ∃ a' c', e = .returned (.tuple #[.agg #[.string (fT ls t).name, .slice a' (fT ls t).args.length c'], .bool true]) ∧ Sl w' (fun b => w.heap.size ≤ b) a' (fT ls t).args) ∨ (n < sizeL [fT ls t] ∧ e = .returned (.tuple #[.agg #[.string ⟨#[]⟩, .slice none 0 0], .bool false]))) := by
 have hmf : ∀ (fn : Fn) (first cap : Array Value) (w : World), (Instr.makeFunc fn first cap).run Tryz.prog w = .ok (.func fn first cap) w := fun _ _ _ _ => rfl
 have HS := hide (hs.mono (Y := fun b => X b ∧ b < w.heap.size) fun b h1 h2 => ⟨h1, h2⟩)
 have HE : Hid (Env w B r (fun b => X b ∧ b < w.heap.size) ls L) := ⟨hE.1, hE.2.1, hE.2.2.imp fun a l hs => hs.mono fun b h1 h2 => ⟨h1, h2⟩⟩
 have hBl : B < w.heap.size := hE.1.lt
 have hrl : r < w.heap.size := hE.2.1.lt
 clear hs hE
 go_enter Tryz.func23, Tryz.ntmps23
 go_wp2_with fail
 have HB3 : Hid (Below w.heap.size w (((w.alloc (.cells #[.string t.name, .slice a t.args.length c] 54)).alloc (.cells #[.string ⟨#[]⟩, .slice none 0 0] 54)).alloc (.cells #[.int .i64 (n : Int), .func (.func 40) #[] #[.pointer (some ⟨B, 0, none⟩)]] 84))) := ((((Below.refl w.heap.size w).alloc (Nat.le_refl _) _).alloc (by simp) _).alloc (by simp; omega) _)
 have F3 : Hid (Blk (((w.alloc (.cells #[.string t.name, .slice a t.args.length c] 54)).alloc (.cells #[.string ⟨#[]⟩, .slice none 0 0] 54)).alloc (.cells #[.int .i64 (n : Int), .func (.func 40) #[] #[.pointer (some ⟨B, 0, none⟩)]] 84)) (w.heap.size + 1 + 1) #[.int .i64 (n : Int), .func (.func 40) #[] #[.pointer (some ⟨B, 0, none⟩)]] 84) := by
  have h := Blk.new ((w.alloc (.cells #[.string t.name, .slice a t.args.length c] 54)).alloc (.cells #[.string ⟨#[]⟩, .slice none 0 0] 54)) #[.int .i64 (n : Int), .func (.func 40) #[] #[.pointer (some ⟨B, 0, none⟩)]] 84
  unfold Hid
  simpa using h
 have R3 : Hid (Blk (((w.alloc (.cells #[.string t.name, .slice a t.args.length c] 54)).alloc (.cells #[.string ⟨#[]⟩, .slice none 0 0] 54)).alloc (.cells #[.int .i64 (n : Int), .func (.func 40) #[] #[.pointer (some ⟨B, 0, none⟩)]] 84)) (w.heap.size + 1) #[.string ⟨#[]⟩, .slice none 0 0] 54) := by
  have h := (Blk.new (w.alloc (.cells #[.string t.name, .slice a t.args.length c] 54)) #[.string ⟨#[]⟩, .slice none 0 0] 54).alloc (.cells #[.int .i64 (n : Int), .func (.func 40) #[] #[.pointer (some ⟨B, 0, none⟩)]] 84)
  unfold Hid
  simpa using h
 have z3 : (((w.alloc (.cells #[.string t.name, .slice a t.args.length c] 54)).alloc (.cells #[.string ⟨#[]⟩, .slice none 0 0] 54)).alloc (.cells #[.int .i64 (n : Int), .func (.func 40) #[] #[.pointer (some ⟨B, 0, none⟩)]] 84)).heap.size = w.heap.size + 3 := by simp
 generalize (((w.alloc (.cells #[.string t.name, .slice a t.args.length c] 54)).alloc (.cells #[.string ⟨#[]⟩, .slice none 0 0] 54)).alloc (.cells #[.int .i64 (n : Int), .func (.func 40) #[] #[.pointer (some ⟨B, 0, none⟩)]] 84)) = w3 at *
 refine (ffill_any (w.heap.size + 1 + 1) B r ls L t n a c w3 (fun b => X b ∧ b < w.heap.size) hn (fun b hb => by have := hb.2; omega) (by omega) (by omega) (HS.out.later HB3.out) F3.out (HE.out.later HB3.out)).mono ?_
 rintro e w9 ⟨s', a', l', c', m, rfl, hF9, hx9, hy, hno⟩
 have HF9 := hide hF9
 have HX9 := hide hx9
 have R9 := hide (R3.out.ex hx9 (by omega))
 have hz9 := hx9.size
 clear hF9 hx9
 have r0 := R9.out.c0
 have r1 := R9.out.c1
 have rf := R9.out.frozen
 have hRl : w.heap.size + 1 < w9.heap.size := R9.out.lt
 have HBW : Hid (Below w.heap.size w w9) := ⟨HX9.out.os.trans HB3.out.os, HX9.out.tape.trans HB3.out.tape, HX9.out.output.trans HB3.out.output, by omega, fun k hk => (HX9.out.block k (by omega) (by omega)).trans (HB3.out.block k hk)⟩
 by_cases hle : sizeL [fT ls t] ≤ n
 ·obtain ⟨rfl, rfl, rfl, hsl⟩ := hy hle
  have HSL := hide hsl
  clear hy hno hsl
  have f0 : ∀ o, (w9.alloc o).cell? ⟨w.heap.size + 1 + 1, 0, none⟩ = some (.int .i64 ((n : Int) - sizeL [fT ls t])) := fun o => (HF9.out.alloc o).cell 0
  have hlt : ¬ ((n : Int) - sizeL [fT ls t]) < 0 := by omega
  go_wp2_with fail
  refine bodyPost_ret (v := .tuple #[.agg #[.string (fT ls t).name, .slice a' (fT ls t).args.length c'], .bool true]) (by simp [results, Tryz.results23, go_sem, World.cell?_setCell_same, World.cell?_setCell_other, r0, r1, hRl, World.cell?_alloc_old]) rfl ?_
  refine ⟨((HBW.out.setCell (by simp) _).setCell (by simp) _).alloc (by simp [World.setCell]; omega) _, Or.inl ⟨hle, a', c', rfl, ((HSL.out.kept fun b hb => ?_).later ((Below.refl _ _).alloc (Nat.le_refl _) _)).mono fun b hb _ => by omega⟩⟩
  rw [Below.heap_setCell _ _ _ _ (by simp; omega), Below.heap_setCell _ _ _ _ (by simp; omega)]
 ·obtain rfl := hno (by omega)
  clear hy hno
  have f0 : ∀ o, (w9.alloc o).cell? ⟨w.heap.size + 1 + 1, 0, none⟩ = some (.int .i64 (-1)) := fun o => (HF9.out.alloc o).cell 0
  go_wp2_with fail
  refine bodyPost_ret (v := .tuple #[.agg #[.string ⟨#[]⟩, .slice none 0 0], .bool false]) (by simp [results, Tryz.results23, go_sem, World.cell?_setCell_same, World.cell?_setCell_other, r0, r1, hRl, World.cell?_alloc_old]) rfl ?_
  exact ⟨((HBW.out.setCell (by simp) _).setCell (by simp) _).alloc (by simp [World.setCell]; omega) _, Or.inr ⟨by omega, rfl⟩⟩
theorem forT_mem {s : ByteArray} {x : Tm} : ∀ {ls : List Bd}, forT ls s = some x → ∃ d, d ∈ ls ∧ d.nm = s ∧ d.t = x
 | [], h => by cases h
 | d :: r, h => by
  rw [forT] at h
  split at h
  ·rename_i e
   exact ⟨d, by simp, e, by simpa using h⟩
  ·obtain ⟨d', h1, h2, h3⟩ := forT_mem h
   exact ⟨d', by simp [h1], h2, h3⟩
theorem errL_parts {s : ByteArray} {a r : List Tm} (h : errL (⟨s, a⟩ :: r) = 0) : (varB s = true → a = []) ∧ errL a = 0 ∧ errL r = 0 := by
 rw [errL] at h
 split at h
 ·split at h
  ·cases h
  ·rename_i h1 h2
   split at h
   ·rename_i h3
    refine ⟨fun hv => ?_, h3, h⟩
    cases a with
    | nil => rfl
    | cons x y => simp [hv] at h2
   ·rename_i h3; exact absurd h h3
 ·cases h
theorem errL_name {s : ByteArray} {a r : List Tm} (h : errL (⟨s, a⟩ :: r) = 0) : nameB s = true := by
 rw [errL] at h
 split at h
 ·assumption
 ·cases h
theorem forT_of {l : List Bd} (ha : ApartB l) {d : Bd} (hd : d ∈ l) : forT l d.nm = some d.t := by
 induction l with
 | nil => cases hd
 | cons a r ih =>
  obtain ⟨h1, h2⟩ := List.pairwise_cons.1 ha
  rcases List.mem_cons.1 hd with rfl | hd
  ·simp [forT]
  ·rw [forT, if_neg (h1 d hd)]
   exact ih h2 hd
theorem forT_append (a b : List Bd) (n : ByteArray) : forT (a ++ b) n = (forT a n).or (forT b n) := by
 induction a with
 | nil => simp [forT]
 | cons d r ih =>
  rw [List.cons_append, forT, forT]
  split
  ·rfl
  ·exact ih
theorem onT_leaf (l : List Bd) (n : ByteArray) : onT l ⟨n, []⟩ = (forT l n).getD ⟨n, []⟩ := by
 cases h : forT l n with
 | none => rw [onT_deep (Or.inr h)]; simp [onL]
 | some t => rw [onT_some h]; rfl
theorem forT_some_of {ls : List Bd} {d : Bd} (h : d ∈ ls) : ∃ t, forT ls d.nm = some t := by
 induction ls with
 | nil => cases h
 | cons a r ih =>
  rw [forT]
  split
  ·exact ⟨_, rfl⟩
  ·rename_i hne
   rcases List.mem_cons.1 h with rfl | h
   ·exact absurd rfl hne
   ·exact ih h
theorem varsP_sub : ∀ (ks : List Tm) (acc : List ByteArray) (n : ByteArray), n ∈ varsP acc ks → n ∈ acc ∨ ∃ k ∈ ks, k.name = n ∧ varB n = true
 | [], acc, n, h => Or.inl (by simpa [varsP] using h)
 | k :: r, acc, n, h => by
  have e : varsP acc (k :: r) = varsP (addV acc k.name) r := rfl
  rw [e] at h
  rcases varsP_sub r _ n h with h1 | ⟨k', h1, h2⟩
  ·cases hv : varB k.name with
   | false => rw [addV_no hv] at h1; exact Or.inl h1
   | true =>
    cases hi : inB k.name acc with
    | true => rw [addV_in hv hi] at h1; exact Or.inl h1
    | false =>
     rw [addV_yes hv hi] at h1
     rcases List.mem_append.1 h1 with h1 | h1
     ·exact Or.inl h1
     ·have e2 : n = k.name := by simpa using h1
      exact Or.inr ⟨k, by simp, e2.symm, by rw [e2]; exact hv⟩
  ·exact Or.inr ⟨k', by simp [h1], h2⟩
theorem varsP_has : ∀ (ks : List Tm) (acc : List ByteArray), (∀ n ∈ acc, n ∈ varsP acc ks) ∧ ∀ k ∈ ks, varB k.name = true → k.name ∈ varsP acc ks
 | [], acc => ⟨fun n h => by simpa [varsP] using h, fun k h => by cases h⟩
 | k :: r, acc => by
  have e : varsP acc (k :: r) = varsP (addV acc k.name) r := rfl
  rw [e]
  obtain ⟨h1, h2⟩ := varsP_has r (addV acc k.name)
  have hsub : ∀ n ∈ acc, n ∈ addV acc k.name := fun n hn => by
   cases hv : varB k.name with
   | false => rw [addV_no hv]; exact hn
   | true =>
    cases hi : inB k.name acc with
    | true => rw [addV_in hv hi]; exact hn
    | false => rw [addV_yes hv hi]; simp [hn]
  refine ⟨fun n hn => h1 n (hsub n hn), fun k' hk' hv' => ?_⟩
  rcases List.mem_cons.1 hk' with rfl | hk'
  ·refine h1 _ ?_
   cases hi : inB k'.name acc with
   | true =>
    rw [addV_in hv' hi]
    unfold inB at hi
    obtain ⟨y, hy, e2⟩ := List.any_eq_true.1 hi
    have e3 : y = k'.name := bytes_inj (by simpa using e2)
    rw [← e3]; exact hy
   | false => rw [addV_yes hv' hi]; simp
  ·exact h2 k' hk' hv'
theorem mod_nat {x : Int} (hx : 0 ≤ x) {n : Nat} (hn : 0 < n) : ∃ k : Nat, x % (n : Int) = k ∧ k < n := by
 have h1 := Int.emod_nonneg x (b := (n : Int)) (by omega)
 have h2 := Int.emod_lt_of_pos x (b := (n : Int)) (by omega)
 exact ⟨(x % (n : Int)).toNat, by omega, by omega⟩
theorem pick_any (c : Int) (n : Nat) (hn : 0 < n) (hn2 : n ≤ 2000000) (hc : -9223372036854775808 ≤ c ∧ c ≤ 9223372036854775807) (w : World) :
  Calls Tryz.prog 5 #[.int .i64 c, .int .i64 (n : Int)] w fun e w' => ∃ k : Nat, e = .returned (.int .i64 (k : Int)) ∧ k < n ∧ w' = w := by
 go_enter Tryz.func5, Tryz.ntmps5
 by_cases h : c < 0
 ·go_wp2_with fail
  go_ret
  obtain ⟨k, hk, hkn⟩ := mod_nat (x := -(c + 1)) (by omega) hn
  refine ⟨k, ?_, hkn, rfl⟩
  have h1 : -(c + 1).tmod (n : Int) = k := by rw [← Int.neg_tmod, Int.tmod_eq_emod_of_nonneg (by omega)]; exact hk
  simp [h1]
 ·go_wp2_with fail
  go_ret
  obtain ⟨k, hk, hkn⟩ := mod_nat (x := c) (by omega) hn
  exact ⟨k, by simp [hk], hkn, rfl⟩
theorem wrapI (x : Int) (h : -9223372036854775808 ≤ x ∧ x ≤ 9223372036854775807) : IntKind.i64.wrap x = x := by
 rw [IntKind.wrap_i64]; omega
def Rng (z : Int) : Prop := -9223372036854775808 ≤ z ∧ z ≤ 9223372036854775807
set_option maxHeartbeats 1000000 in
theorem raw_any (zs : List Int) (u : Value) (w : World) (X : Nat → Prop) (hu : PV w X u zs) (hr : ∀ z ∈ zs, Rng z) (i : Nat) (hi : i ≤ 1000000) (hzl : zs.length ≤ 1000000) :
  Calls Tryz.prog 17 #[u, .int .i64 (i : Int)] w fun e w' => ∃ k : Nat, e = .returned (.int .i64 (k : Int)) ∧ k ≤ 100000000000 ∧ Below w.heap.size w w' := by
 obtain ⟨a, c, rfl, hl, h⟩ := hu
 by_cases h0 : zs.length = 0
 ·go_enter Tryz.func17, Tryz.ntmps17
  go_wp2_with fail
  go_ret
  exact ⟨i * 31, by simp, by omega, Below.refl _ _⟩
 ·rcases h with h | ⟨b, o, rfl, hX, hc⟩
  ·subst h; simp at h0
  ·have hpos : 0 < zs.length := by omega
   obtain ⟨m, hm, hlt⟩ := mod_nat (x := (i : Int)) (by omega) hpos
   obtain ⟨d, hd, hdl⟩ : ∃ d : Nat, (i : Int) / (zs.length : Int) = d ∧ d ≤ i := ⟨i / zs.length, by simp, Nat.div_le_self _ _⟩
   have hm2 : (i : Int).tmod (zs.length : Int) = m := by rw [Int.tmod_eq_emod_of_nonneg (by omega)]; exact hm
   have hd2 : (i : Int).tdiv (zs.length : Int) = d := by rw [Int.tdiv_eq_ediv_of_nonneg (by omega)]; exact hd
   have hcc := hc m hlt
   have hrg := hr _ (List.getElem_mem hlt)
   generalize zs[m] = z at *
   have hm0 : (0 : Int) ≤ (m : Int) := by omega
   have hm1 : (m : Int) < (zs.length : Int) := by omega
   clear hc hr
   go_enter Tryz.func17, Tryz.ntmps17
   go_wp2_with fail
   go_region_held3 (fun w' => w'.cell? ⟨b, o + m, none⟩ = some (.int .i64 z)) (first | exact hcc | go_keep)
    ((go_at_call 5; refine (pick_any z 1000003 (by decide) (by decide) hrg _).mono ?_; rintro e w1 ⟨k, rfl, hk, rfl⟩))
   go_wp2_with fail
   go_ret
   refine ⟨k + d * 7919, by simp [wrapI (d : Int) (by omega), wrapI ((d : Int) * 7919) (by omega), wrapI ((k : Int) + (d : Int) * 7919) (by omega)], by omega, ?_⟩
   exact (Below.refl _ _).drew
theorem err_leaf {s : ByteArray} (h : nameB s = true) : errL [(⟨s, []⟩ : Tm)] = 0 := by simp [errL, h]
theorem err_node {s : ByteArray} {l : List Tm} (h : nameB s = true) (hv : varB s = false) (hl : errL l = 0) : errL [(⟨s, l⟩ : Tm)] = 0 := by simp [errL, h, hv, hl]
section
variable {P : Program} {ops : Array Oper} {Q : Exit → Act → World → Prop} {md : Region.Mode}
end
def TwoS (w5 w6 : World) (t5 t6 : Tm) (a5 a6 : Option Addr) (c5 c6 : Nat) (w' : World) : Prop :=
 Blk w' w5.heap.size #[.string t5.name, .slice a5 t5.args.length c5] 54 ∧ Blk w' w6.heap.size #[.string t6.name, .slice a6 t6.args.length c6] 54
def TwoF (w5 w6 : World) (t5 t6 : Tm) (a5 a6 : Option Addr) (c5 c6 : Nat) (b : Nat) (w' : World) : Prop :=
 TwoS w5 w6 t5 t6 a5 a6 c5 c6 w' ∧ Blk w' b #[.string ⟨#[102]⟩, .string ⟨#[103]⟩] 9
theorem TwoS.alloc {w5 w6 : World} {t5 t6 : Tm} {a5 a6 : Option Addr} {c5 c6 : Nat} {w' : World} (h : TwoS w5 w6 t5 t6 a5 a6 c5 c6 w') (o : Obj) : TwoS w5 w6 t5 t6 a5 a6 c5 c6 (w'.alloc o) := ⟨h.1.alloc o, h.2.alloc o⟩
theorem TwoF.alloc {w5 w6 : World} {t5 t6 : Tm} {a5 a6 : Option Addr} {c5 c6 b : Nat} {w' : World} (h : TwoF w5 w6 t5 t6 a5 a6 c5 c6 b w') (o : Obj) : TwoF w5 w6 t5 t6 a5 a6 c5 c6 b (w'.alloc o) := ⟨h.1.alloc o, h.2.alloc o⟩
def occL (x : ByteArray) (l : List Tm) : Prop := ∃ k ∈ preL l, k.name = x
theorem occL_node {x s : ByteArray} {l r : List Tm} : occL x (⟨s, l⟩ :: r) ↔ s = x ∨ occL x l ∨ occL x r := by
 unfold occL
 rw [preL]
 constructor
 ·rintro ⟨k, hk, e⟩
  rcases List.mem_cons.1 hk with rfl | hk
  ·exact Or.inl e
  ·rcases List.mem_append.1 hk with hk | hk
   ·exact Or.inr (Or.inl ⟨k, hk, e⟩)
   ·exact Or.inr (Or.inr ⟨k, hk, e⟩)
 ·rintro (e | ⟨k, hk, e⟩ | ⟨k, hk, e⟩)
  ·exact ⟨⟨s, l⟩, by simp, e⟩
  ·exact ⟨k, by simp [hk], e⟩
  ·exact ⟨k, by simp [hk], e⟩
theorem occL_nil {x : ByteArray} : ¬ occL x [] := by
 rintro ⟨k, hk, _⟩
 simp [preL] at hk
theorem occL_cons {x : ByteArray} {t : Tm} {r : List Tm} : occL x (t :: r) ↔ occL x [t] ∨ occL x r := by
 obtain ⟨s, l⟩ := t
 rw [occL_node, occL_node]
 have h0 : ¬ occL x [] := occL_nil
 constructor
 ·rintro (h | h | h)
  ·exact Or.inl (Or.inl h)
  ·exact Or.inl (Or.inr (Or.inl h))
  ·exact Or.inr h
 ·rintro ((h | h | h) | h)
  ·exact Or.inl h
  ·exact Or.inr (Or.inl h)
  ·exact absurd h h0
  ·exact Or.inr (Or.inr h)
theorem occL_append {x : ByteArray} {a b : List Tm} : occL x (a ++ b) ↔ occL x a ∨ occL x b := by
 induction a with
 | nil =>
  have h0 : ¬ occL x [] := occL_nil
  simp [h0]
 | cons t r ih => rw [List.cons_append, occL_cons, occL_cons (r := r), ih, or_assoc]
def OkS (s : List Bd) : Prop := ApartB s ∧ (∀ d ∈ s, varB d.nm = true ∧ errL [d.t] = 0) ∧ ∀ d ∈ s, ∀ e ∈ s, ¬ occL e.nm [d.t]
theorem okS_nil : OkS [] := ⟨by simp [ApartB], by simp, by simp⟩
theorem onT_sym2 {s : List Bd} (h : ∀ d ∈ s, varB d.nm = true) {n : ByteArray} (hn : varB n = false) (l : List Tm) : onT s ⟨n, l⟩ = ⟨n, onL s l⟩ := by
 refine onT_deep (Or.inr ?_)
 cases hf : forT s n with
 | none => rfl
 | some x =>
  obtain ⟨d, hd, e, _⟩ := forT_mem hf
  have h1 := h d hd
  rw [e, hn] at h1
  cases h1
theorem onL_id {s : List Bd} : ∀ l : List Tm, (∀ e ∈ s, ¬ occL e.nm l) → onL s l = l := by
 intro l
 induction l using Tm.indL with
 | h0 => intro _; simp [onL]
 | h n l r ihl ihr =>
  intro h
  rw [onL_cons, ihr fun e he ho => h e he (occL_node.2 (Or.inr (Or.inr ho)))]
  congr 1
  rw [onT_deep (Or.inr ?_), ihl fun e he ho => h e he (occL_node.2 (Or.inr (Or.inl ho)))]
  cases hf : forT s n with
  | none => rfl
  | some x =>
   obtain ⟨d, hd, e, _⟩ := forT_mem hf
   exact absurd (occL_node.2 (Or.inl e.symm)) (h d hd)
theorem occ_on {s : List Bd} (hs : ∀ d ∈ s, varB d.nm = true) {y : ByteArray} (hy : varB y = true) : ∀ l : List Tm, errL l = 0 → occL y (onL s l) → (occL y l ∧ forT s y = none) ∨ ∃ d ∈ s, occL d.nm l ∧ occL y [d.t] := by
 intro l
 induction l using Tm.indL with
 | h0 => intro _ h; simp only [onL] at h; exact absurd h occL_nil
 | h n l r ihl ihr =>
  intro he h
  obtain ⟨g1, g2, g3⟩ := errL_parts he
  rw [onL_cons, occL_cons] at h
  rcases h with h | h
  ·cases hv : varB n with
   | false =>
    rw [onT_sym2 hs hv, occL_node] at h
    rcases h with h | h | h
    ·rw [h, hy] at hv; cases hv
    ·rcases ihl g2 h with ⟨h1, h2⟩ | ⟨d, hd, h1, h2⟩
     ·exact Or.inl ⟨occL_node.2 (Or.inr (Or.inl h1)), h2⟩
     ·exact Or.inr ⟨d, hd, occL_node.2 (Or.inr (Or.inl h1)), h2⟩
    ·exact absurd h occL_nil
   | true =>
    have e := g1 hv
    subst e
    rw [onT_leaf] at h
    cases hf : forT s n with
    | none =>
     rw [hf] at h
     rcases occL_node.1 h with h | h | h
     ·subst h; exact Or.inl ⟨occL_node.2 (Or.inl rfl), hf⟩
     ·exact absurd h occL_nil
     ·exact absurd h occL_nil
    | some x =>
     rw [hf] at h
     obtain ⟨d, hd, e1, e2⟩ := forT_mem hf
     refine Or.inr ⟨d, hd, occL_node.2 (Or.inl e1.symm), ?_⟩
     rw [e2]; exact h
  ·rcases ihr g3 h with ⟨h1, h2⟩ | ⟨d, hd, h1, h2⟩
   ·exact Or.inl ⟨occL_node.2 (Or.inr (Or.inr h1)), h2⟩
   ·exact Or.inr ⟨d, hd, occL_node.2 (Or.inr (Or.inr h1)), h2⟩
theorem OkS.vars {s : List Bd} (h : OkS s) : ∀ d ∈ s, varB d.nm = true := fun d hd => (h.2.1 d hd).1
theorem OkS.gone {s : List Bd} (h : OkS s) {l : List Tm} (he : errL l = 0) : ∀ e ∈ s, ¬ occL e.nm (onL s l) := by
 intro e hm ho
 rcases occ_on h.vars (h.vars e hm) l he ho with ⟨_, h2⟩ | ⟨d, hd, _, h2⟩
 ·obtain ⟨t, ht⟩ := forT_some_of hm
  rw [ht] at h2; cases h2
 ·exact h.2.2 d hd e hm h2
theorem OkS.idem {s : List Bd} (h : OkS s) {l : List Tm} (he : errL l = 0) : onL s (onL s l) = onL s l := onL_id _ (h.gone he)
theorem errL_on2 {s : List Bd} (h : OkS s) : ∀ l : List Tm, errL l = 0 → errL (onL s l) = 0 := by
 intro l
 induction l using Tm.indL with
 | h0 => intro _; simp [onL, errL]
 | h n l r ihl ihr =>
  intro he
  obtain ⟨g1, g2, g3⟩ := errL_parts he
  have hn := errL_name he
  rw [onL_cons]
  have key : errL [onT s ⟨n, l⟩] = 0 := by
   cases hv : varB n with
   | false => rw [onT_sym2 h.vars hv]; exact err_node hn hv (ihl g2)
   | true =>
    have e := g1 hv
    subst e
    rw [onT_leaf]
    cases hf : forT s n with
    | none => exact err_leaf hn
    | some x =>
     obtain ⟨d, hd, _, e2⟩ := forT_mem hf
     have h3 := (h.2.1 d hd).2
     rw [e2] at h3
     exact h3
  rw [errL_cons, if_pos key]
  exact ihr g3
theorem onT_of {P : List Tm → List Tm → Prop} {s : List Bd} {t : Tm} (h : P [t] (onL s [t])) : P [t] [onT s t] := by
 rw [onL_cons] at h
 simpa [onL] using h
theorem errL_onT2 {s : List Bd} (h : OkS s) {t : Tm} (he : errL [t] = 0) : errL [onT s t] = 0 := onT_of (P := fun _ b => errL b = 0) (errL_on2 h [t] he)
theorem OkS.goneT {s : List Bd} (h : OkS s) {t : Tm} (he : errL [t] = 0) : ∀ e ∈ s, ¬ occL e.nm [onT s t] := onT_of (P := fun _ b => ∀ e ∈ s, ¬ occL e.nm b) (h.gone he)
theorem forT_perm {a b : List Bd} (hp : a.Perm b) (ha : ApartB b) (n : ByteArray) : forT a n = forT b n := by
 have ha' : ApartB a := ha.perm hp
 cases h1 : forT b n with
 | some x =>
  obtain ⟨d, hd, e1, e2⟩ := forT_mem h1
  have h2 := forT_of ha' (hp.symm.subset hd)
  rw [e1, e2] at h2
  exact h2
 | none =>
  cases h2 : forT a n with
  | none => rfl
  | some x =>
   obtain ⟨d, hd, e1, e2⟩ := forT_mem h2
   have h3 := forT_of ha (hp.subset hd)
   rw [e1, h1] at h3
   cases h3
theorem forT_put (x : ByteArray) (t : Tm) (s : List Bd) (n : ByteArray) : forT (s.map (putB x t)) n = (forT s n).map (onT [⟨x, t⟩]) := by
 induction s with
 | nil => rfl
 | cons d r ih =>
  rw [List.map_cons, forT, forT]
  by_cases e : d.nm = n
  ·rw [if_pos e, if_pos (show (putB x t d).nm = n from e)]; rfl
  ·rw [if_neg e, if_neg (show ¬ (putB x t d).nm = n from e)]; exact ih
def addS (s : List Bd) (x : ByteArray) (t : Tm) : List Bd := srtB (s.map (putB x t) ++ [⟨x, t⟩])
theorem add_apart {s : List Bd} {x : ByteArray} {t : Tm} (h : ApartB s) (hx : ∀ d ∈ s, d.nm ≠ x) : ApartB (s.map (putB x t) ++ [⟨x, t⟩]) := by
 refine List.pairwise_append.2 ⟨List.pairwise_map.2 h, by simp, fun a ha b hb => ?_⟩
 obtain ⟨d, hd, rfl⟩ := List.mem_map.1 ha
 have e : b = ⟨x, t⟩ := by simpa using hb
 rw [e]
 exact hx d hd
theorem add_val {s : List Bd} {x : ByteArray} {t : Tm} (h : ApartB s) (hx : ∀ d ∈ s, d.nm ≠ x) (n : ByteArray) : onT (addS s x t) ⟨n, []⟩ = onT [⟨x, t⟩] (onT s ⟨n, []⟩) := by
 rw [onT_leaf (addS s x t)]
 unfold addS
 rw [forT_perm (srtB_perm _) (add_apart h hx), forT_append, forT_put, onT_leaf s]
 cases hf : forT s n with
 | some u => rfl
 | none =>
  show (forT [⟨x, t⟩] n).getD _ = onT [⟨x, t⟩] ⟨n, []⟩
  rw [onT_leaf]
theorem one_vars {x : ByteArray} {t : Tm} (hx : varB x = true) : ∀ d ∈ [(⟨x, t⟩ : Bd)], varB d.nm = true := fun d hd => by
 have e : d = ⟨x, t⟩ := by simpa using hd
 rw [e]; exact hx
theorem OkS.add {s : List Bd} (h : OkS s) {x : ByteArray} {t : Tm} (hx : varB x = true) (hn : ∀ d ∈ s, d.nm ≠ x) (he : errL [t] = 0) (ht : ∀ e ∈ s, ¬ occL e.nm [t]) (ho : ¬ occL x [t]) : OkS (addS s x t) := by
 have O1 : OkS [(⟨x, t⟩ : Bd)] := by
  refine ⟨by simp [ApartB], fun d hd => ?_, fun d hd e hm => ?_⟩
  ·have e : d = ⟨x, t⟩ := by simpa using hd
   rw [e]; exact ⟨hx, he⟩
  ·have e1 : d = ⟨x, t⟩ := by simpa using hd
   have e2 : e = ⟨x, t⟩ := by simpa using hm
   rw [e1, e2]; exact ho
 have hp := srtB_perm (s.map (putB x t) ++ [⟨x, t⟩])
 have hmem : ∀ d ∈ addS s x t, (∃ d0 ∈ s, d = putB x t d0) ∨ d = ⟨x, t⟩ := fun d hd => by
  rcases List.mem_append.1 (hp.subset hd) with hd | hd
  ·obtain ⟨d0, h0, rfl⟩ := List.mem_map.1 hd
   exact Or.inl ⟨d0, h0, rfl⟩
  ·exact Or.inr (by simpa using hd)
 have hnot : ∀ d0 ∈ s, ∀ y, varB y = true → (y = x ∨ ∃ e ∈ s, e.nm = y) → ¬ occL y [onT [⟨x, t⟩] d0.t] := fun d0 h0 y hy hyy hoc => by
  have h1 : occL y (onL [⟨x, t⟩] [d0.t]) := by rw [onL_cons]; simpa [onL] using hoc
  rcases occ_on O1.vars hy [d0.t] (h.2.1 d0 h0).2 h1 with ⟨h2, h3⟩ | ⟨d, hd, h2, h3⟩
  ·rcases hyy with rfl | ⟨e, hm, rfl⟩
   ·simp [forT] at h3
   ·exact h.2.2 d0 h0 e hm h2
  ·have e1 : d = ⟨x, t⟩ := by simpa using hd
   subst e1
   rcases hyy with rfl | ⟨e, hm, rfl⟩
   ·exact ho h3
   ·exact ht e hm h3
 refine ⟨(add_apart h.1 hn).perm hp, fun d hd => ?_, fun d hd e hm => ?_⟩
 ·rcases hmem d hd with ⟨d0, h0, rfl⟩ | rfl
  ·exact ⟨(h.2.1 d0 h0).1, errL_onT2 O1 (h.2.1 d0 h0).2⟩
  ·exact ⟨hx, he⟩
 ·have hy : e.nm = x ∨ ∃ e0 ∈ s, e0.nm = e.nm := by
   rcases hmem e hm with ⟨e0, h0, rfl⟩ | rfl
   ·exact Or.inr ⟨e0, h0, rfl⟩
   ·exact Or.inl rfl
  have hyv : varB e.nm = true := by
   rcases hy with h1 | ⟨e0, h0, h1⟩
   ·rw [h1]; exact hx
   ·rw [← h1]; exact (h.2.1 e0 h0).1
  rcases hmem d hd with ⟨d0, h0, rfl⟩ | rfl
  ·exact hnot d0 h0 e.nm hyv hy
  ·rcases hy with h1 | ⟨e0, h0, h1⟩
   ·rw [h1]; exact ho
   ·rw [← h1]; exact ht e0 h0
theorem add_on {s : List Bd} (h : OkS s) {x : ByteArray} {t : Tm} (hx : varB x = true) (hn : ∀ d ∈ s, d.nm ≠ x) (hs : OkS (addS s x t)) : ∀ l : List Tm, errL l = 0 → onL (addS s x t) l = onL [⟨x, t⟩] (onL s l) := by
 intro l
 induction l using Tm.indL with
 | h0 => intro _; simp [onL]
 | h n l r ihl ihr =>
  intro he
  obtain ⟨g1, g2, g3⟩ := errL_parts he
  rw [onL_cons, onL_cons, onL_cons, ihr g3]
  congr 1
  cases hv : varB n with
  | false => rw [onT_sym2 hs.vars hv, onT_sym2 h.vars hv, onT_sym2 (one_vars hx) hv, ihl g2]
  | true =>
   have e := g1 hv
   subst e
   exact add_val h.1 hn n
def KnQ (s : ByteArray) (l : List Tm) : Prop := (varB s = true ∧ l = []) ∨ (s = ⟨#[102]⟩ ∧ l.length = 2)
def KnL (l : List Tm) : Prop := ∀ k ∈ preL l, KnQ k.name k.args
theorem KnL.cons {t : Tm} {r : List Tm} : KnL (t :: r) ↔ KnQ t.name t.args ∧ KnL t.args ∧ KnL r := by
 obtain ⟨s, l⟩ := t
 unfold KnL
 simp only [preL, List.mem_cons, List.mem_append]
 constructor
 ·intro h
  exact ⟨h ⟨s, l⟩ (Or.inl rfl), fun k hk => h k (Or.inr (Or.inl hk)), fun k hk => h k (Or.inr (Or.inr hk))⟩
 ·rintro ⟨h1, h2, h3⟩ k (rfl | hk | hk)
  ·exact h1
  ·exact h2 k hk
  ·exact h3 k hk
theorem KnL.nil : KnL [] := fun k hk => by simp [preL] at hk
theorem KnL.one {t : Tm} : KnL [t] ↔ KnQ t.name t.args ∧ KnL t.args := by
 rw [KnL.cons]
 exact ⟨fun h => ⟨h.1, h.2.1⟩, fun h => ⟨h.1, h.2, KnL.nil⟩⟩
theorem KnL.all : ∀ {l : List Tm}, KnL l ↔ ∀ t ∈ l, KnL [t]
 | [] => by simp [KnL.nil]
 | t :: r => by
  rw [KnL.cons, KnL.all (l := r)]
  simp only [List.mem_cons, forall_eq_or_imp, KnL.one]
  exact ⟨fun h => ⟨⟨h.1, h.2.1⟩, h.2.2⟩, fun h => ⟨h.1.1, h.1.2, h.2⟩⟩
def KnB (s : List Bd) : Prop := ∀ d ∈ s, KnL [d.t]
def KnP (l : List Pr) : Prop := ∀ p ∈ l, KnL [p.l] ∧ KnL [p.r]
theorem forT_kn {n : ByteArray} {x : Tm} : ∀ {s : List Bd}, KnB s → forT s n = some x → KnL [x]
 | [], _, h => by cases h
 | d :: r, h, e => by
  simp only [forT] at e
  split at e
  ·cases e; exact h d (by simp)
  ·exact forT_kn (fun e he => h e (by simp [he])) e
theorem onL_kn {s : List Bd} (hs : KnB s) (l : List Tm) : KnL l → KnL (onL s l) := by
 induction l using Tm.indL with
 | h0 => intro _; simp only [onL]; exact KnL.nil
 | h n l r ihl ihr =>
  intro h
  obtain ⟨h1, h2, h3⟩ := KnL.cons.1 h
  simp only [onL]
  have key : KnL [onN s n l (onL s l)] := by
   have hq : KnL [(⟨n, onL s l⟩ : Tm)] := by
    refine KnL.one.2 ⟨?_, ihl h2⟩
    rcases h1 with ⟨a, b⟩ | ⟨a, b⟩
    ·refine Or.inl ⟨a, ?_⟩
     have : l = [] := b
     subst this
     simp [onL]
    ·exact Or.inr ⟨a, by rw [show (⟨n, onL s l⟩ : Tm).args = onL s l from rfl, onL_length]; exact b⟩
   unfold onN
   cases hf : forT s n with
   | none => exact hq
   | some x =>
    simp only
    split
    ·exact forT_kn hs hf
    ·exact hq
  exact KnL.cons.2 ⟨(KnL.one.1 key).1, (KnL.one.1 key).2, ihr h3⟩
theorem onT_kn {s : List Bd} (hs : KnB s) {t : Tm} (ht : KnL [t]) : KnL [onT s t] := by
 have h := onL_kn hs [t] ht
 rw [onL_cons] at h
 simp only [onL] at h
 exact h
def KnU : UO → Prop
 | .go s l => KnB s ∧ KnP l
 | .stop _ s => KnB s
theorem uBind_kn (lim : Bool) {s : List Bd} (hs : KnB s) {l : List Pr} (hl : KnP l) (x : ByteArray) {t : Tm} (ht : KnL [t]) : KnU (uBind lim s l x t) := by
 have hp : KnB (s.map (putB x t)) := fun d hd => by
  obtain ⟨d0, hd0, rfl⟩ := List.mem_map.1 hd
  exact onT_kn (fun e he => by rw [List.mem_singleton.1 he]; exact ht) (hs d0 hd0)
 unfold uBind
 split
 ·exact hs
 ·split
  ·exact hs
  ·refine ⟨fun d hd => ?_, hl⟩
   rcases List.mem_append.1 ((srtB_perm _).subset hd) with h | h
   ·exact hp d h
   ·rw [List.mem_singleton.1 h]; exact ht
theorem zip_kn : ∀ {a b : List Tm}, KnL a → KnL b → KnP (zipP a b)
 | [], _, _, _ => fun p hp => by simp [zipP] at hp
 | t :: r, [], _, _ => fun p hp => by simp [zipP] at hp
 | t :: r, u :: q, ha, hb => fun p hp => by
  obtain ⟨a1, a2, a3⟩ := KnL.cons.1 ha
  obtain ⟨b1, b2, b3⟩ := KnL.cons.1 hb
  simp only [zipP] at hp
  rcases List.mem_cons.1 hp with rfl | hp
  ·exact ⟨KnL.one.2 ⟨a1, a2⟩, KnL.one.2 ⟨b1, b2⟩⟩
  ·exact zip_kn a3 b3 p hp
theorem uPair_kn (lim : Bool) {s : List Bd} (hs : KnB s) {l : List Pr} (hl : KnP l) {a b : Tm} (ha : KnL [a]) (hb : KnL [b]) : KnU (uPair lim s l a b) := by
 unfold uPair
 split
 ·exact hs
 ·split
  ·split
   ·exact ⟨hs, hl⟩
   ·exact uBind_kn lim hs hl _ hb
  ·split
   ·exact uBind_kn lim hs hl _ ha
   ·split
    ·refine ⟨hs, fun p hp => ?_⟩
     rcases List.mem_append.1 hp with h | h
     ·exact zip_kn (KnL.one.1 ha).2 (KnL.one.1 hb).2 p h
     ·exact hl p h
    ·exact hs
theorem uRun_kn (lim : Bool) : ∀ (n : Nat) {s : List Bd} (hs : KnB s) {l : List Pr} (hl : KnP l) {R : Int × List Bd}, uRun lim n s l = some R → KnB R.2
 | 0, _, _, _, _, _, h => by cases h
 | n + 1, s, hs, [], hl, R, h => by
  simp only [uRun, uNext] at h
  cases h
  exact hs
 | n + 1, s, hs, p :: l, hl, R, h => by
  have hp := hl p (by simp)
  have hl' : KnP l := fun q hq => hl q (by simp [hq])
  have k := uPair_kn lim hs hl' (onT_kn hs hp.1) (onT_kn hs hp.2)
  rw [uRun, uNext_cons] at h
  revert h k
  cases uPair lim s l (onT s p.l) (onT s p.r) with
  | stop e s' => intro h k; cases h; exact k
  | go s' l' => intro h k; exact uRun_kn lim n k.1 k.2 h
theorem kn_vr {p : UInt8} (hp : p = 84 ∨ p = 86) (n : Nat) : KnL [vrT p n] := KnL.one.2 ⟨Or.inl ⟨by show varB (vrN p n) = true; rw [varB_vr]; rcases hp with rfl | rfl <;> decide, rfl⟩, KnL.nil⟩
theorem kn_ar {a b : Tm} (ha : KnL [a]) (hb : KnL [b]) : KnL [arT a b] := KnL.one.2 ⟨Or.inr ⟨rfl, rfl⟩, KnL.cons.2 ⟨(KnL.one.1 ha).1, (KnL.one.1 ha).2, hb⟩⟩
theorem ty_kn {p : UInt8} (hp : p = 84 ∨ p = 86) (t : Lm) : ∀ (ar : List Tm) (n : Nat), errM ar.length 0 [t] = 0 → csL [t] = false → KnL ar → KnL [(tyT p t ar n).1] ∧ KnP (tyT p t ar n).2.1 := by
 induction t using Lm.ind with
 | h k i l ih =>
  intro ar n he hc ha
  rcases may_look he with ⟨x, e, h1, h2⟩ | ⟨b, e, hb⟩ | ⟨f, a, e, hf, hx⟩ | ⟨x, e, _, _⟩
  ·cases e
   rw [tyT_bound]
   have hlt : ar.length - 1 - i.toNat < ar.length := by omega
   have hg : ar.getD (ar.length - 1 - i.toNat) noT = ar[ar.length - 1 - i.toNat] := by
    rw [List.getD_eq_getElem?_getD, List.getElem?_eq_getElem hlt]; rfl
   rw [hg]
   exact ⟨KnL.all.1 ha _ (List.getElem_mem hlt), fun q hq => by simp at hq⟩
  ·cases e
   rw [tyT_fun]
   have hc' : csL [b] = false := by rw [csL_one] at hc; simpa using hc
   have hl : ((ar ++ [vrT p (n + 1)]).length : Int) = (ar.length : Int) + 1 := by simp
   have har : KnL (ar ++ [vrT p (n + 1)]) := KnL.all.2 fun t ht => by
    rcases List.mem_append.1 ht with h1 | h1
    ·exact KnL.all.1 ha t h1
    ·rw [List.mem_singleton.1 h1]; exact kn_vr hp _
   have h := ih b (by simp) (ar ++ [vrT p (n + 1)]) (n + 1) (by rw [hl]; exact hb) hc' har
   exact ⟨kn_ar (kn_vr hp _) h.1, h.2⟩
  ·cases e
   rw [tyT_app]
   have hc1 : csL [f] = false ∧ csL [a] = false := by
    rw [csL_one, csL_cons] at hc
    simpa using hc
   have h1 := ih f (by simp) ar n hf hc1.1 ha
   have h2 := ih a (by simp) ar (tyT p f ar n).2.2 hx hc1.2 ha
   refine ⟨kn_vr hp _, fun q hq => ?_⟩
   rcases List.mem_append.1 hq with hq | hq
   ·rcases List.mem_append.1 hq with hq | hq
    ·exact h1.2 q hq
    ·exact h2.2 q hq
   ·rw [List.mem_singleton.1 hq]
    exact ⟨h1.1, kn_ar h2.1 (kn_vr hp _)⟩
  ·cases e
   rw [csL_one] at hc
   simp at hc
def ixB (s : ByteArray) : List ByteArray → Nat
 | [] => 0
 | n :: r => if n = s then 0 else ixB s r + 1
theorem ixB_lt {s : ByteArray} : ∀ {l : List ByteArray}, s ∈ l → ixB s l < l.length
 | [], h => by cases h
 | n :: r, h => by
  rw [ixB]
  split
  ·simp
  ·rename_i hn
   have := ixB_lt (l := r) ((List.mem_cons.1 h).resolve_left fun e => hn e.symm)
   simp; omega
theorem ixB_app {s : ByteArray} : ∀ {l : List ByteArray} (r : List ByteArray), s ∈ l → ixB s (l ++ r) = ixB s l
 | [], _, h => by cases h
 | n :: q, r, h => by
  simp only [List.cons_append, ixB]
  split
  ·rfl
  ·rename_i hn
   rw [ixB_app r ((List.mem_cons.1 h).resolve_left fun e => hn e.symm)]
theorem ixB_new {s : ByteArray} : ∀ {l : List ByteArray}, s ∉ l → ixB s (l ++ [s]) = l.length
 | [], _ => by simp [ixB]
 | n :: q, h => by
  simp only [List.cons_append, ixB]
  rw [if_neg (fun e => h (by simp [e])), ixB_new (l := q) (fun e => h (by simp [e]))]
  rfl
def ayK (ns : List ByteArray) (s : ByteArray) (l : List Tm) (bs : List Ty) : Ty := if l.length = 0 then ⟨(ixB s ns : Nat), []⟩ else ⟨0, bs⟩
def ayL (ns : List ByteArray) : List Tm → List Ty
 | [] => []
 | ⟨s, l⟩ :: r => ayK ns s l (ayL ns l) :: ayL ns r
def ayT (ns : List ByteArray) (t : Tm) : Ty := ayK ns t.name t.args (ayL ns t.args)
theorem ayL_cons (ns : List ByteArray) (t : Tm) (r : List Tm) : ayL ns (t :: r) = ayT ns t :: ayL ns r := by
 obtain ⟨s, l⟩ := t
 simp only [ayL, ayT]
theorem ayL_nil (ns : List ByteArray) : ayL ns [] = [] := by simp [ayL]
theorem vars_mem {s : ByteArray} (hv : varB s = true) {acc : List ByteArray} : s ∈ addV acc s := by
 unfold addV
 rw [hv]
 cases h : inB s acc with
 | true => simp; exact inB_mem1.1 h
 | false => simp
theorem addV_sub {acc : List ByteArray} {s y : ByteArray} (h : y ∈ acc) : y ∈ addV acc s := by
 unfold addV
 split
 ·simp [h]
 ·exact h
theorem varsP_pre (ks : List Tm) : ∀ acc, ∃ r, varsP acc ks = acc ++ r := by
 induction ks with
 | nil => intro acc; exact ⟨[], by simp [varsP]⟩
 | cons k q ih =>
  intro acc
  obtain ⟨r, hr⟩ := ih (addV acc k.name)
  rw [show varsP acc (k :: q) = varsP (addV acc k.name) q from rfl, hr]
  unfold addV
  split
  ·exact ⟨[k.name] ++ r, by simp⟩
  ·exact ⟨r, rfl⟩
theorem fL_onI {ls : List Bd} (hv : ∀ d ∈ ls, varB d.nm = true) : ∀ l : List Tm, KnL l → fL ls l = onL ls l := by
 intro l
 induction l using Tm.indL with
 | h0 => intro _; simp [fL, onL]
 | h s a r iha ihr =>
  intro h
  obtain ⟨h1, h2, h3⟩ := KnL.cons.1 h
  rw [fL, onL, iha h2, ihr h3]
  congr 1
  unfold fN onN
  rcases h1 with ⟨e1, e2⟩ | ⟨e1, e2⟩
  ·have e1' : varB s = true := e1
   have e2' : a = [] := e2
   rw [e1', e2']
   cases forT ls s <;> rfl
  ·have e1' : s = ⟨#[102]⟩ := e1
   have hs : varB s = false := by rw [e1']; decide
   rw [hs]
   cases hf : forT ls s with
   | none => rfl
   | some x =>
    obtain ⟨d, hd, e3, _⟩ := forT_mem hf
    have := hv d hd
    rw [e3, hs] at this
    cases this
theorem fT_onI {ls : List Bd} (hv : ∀ d ∈ ls, varB d.nm = true) {t : Tm} (h : KnL [t]) : fT ls t = onT ls t := by
 have h1 := fL_onI hv [t] h
 obtain ⟨s, a⟩ := t
 rw [fL, onL] at h1
 exact (List.cons.inj h1).1
theorem subsY_any (ix : Int) (a : Option Addr) (n c : Nat) (w : World) :
  Calls Tryz.prog 28 #[.agg #[.int .i64 ix, .slice a n c]] w fun e w' => e = .returned (.slice a n c) ∧ w' = w.alloc (.cells #[.int .i64 ix, .slice a n c] 33) := by
 go_enter Tryz.func28, Tryz.ntmps28
 go_wp2_with fail
 go_ret
 exact ⟨rfl, rfl⟩
set_option maxHeartbeats 400000 in
theorem countOnY_any (M : Int) (hM0 : 0 ≤ M) (hM1 : M ≤ 1000000) (t : Ty) : ∀ (v : Value) (n : Int) (w : World) (X : Nat → Prop), YV w X v t → 0 ≤ n → n ≤ M →
  Calls Tryz.prog 42 #[v, .func (.func 28) #[] #[], .int .i64 M, .int .i64 n] w fun e w' => e = .returned (.int .i64 (min (n + sizeY [t]) (M + 1))) ∧ Below w.heap.size w w' := by
 induction t using Ty.ind with
 | h ix l ih =>
  intro v n w X hv hn0 hn1
  obtain ⟨a, c, rfl, hs⟩ := hv
  have IH := hide ih
  clear ih
  have hz : Hid ((sizeY [(⟨ix, l⟩ : Ty)] : Int) = 1 + sizeY l) := by simp [Hid, sizeY]
  go_enter Tryz.func42, Tryz.ntmps42
  go_wp2_with (go_at_call 28; refine (subsY_any _ _ _ _ _).mono ?_; rintro e w' ⟨rfl, rfl⟩)
  have hB0 : Hid (Below w.heap.size w ((w.alloc (Obj.cells #[Value.int .i64 ix, Value.slice a l.length c] 33)).alloc (Obj.cells #[Value.int .i64 ix, Value.slice a l.length c] 33))) := ((Below.refl _ _).alloc (Nat.le_refl _) _).alloc (by simp) _
  have hZ0 : Hid (w.heap.size + 2 ≤ ((w.alloc (Obj.cells #[Value.int .i64 ix, Value.slice a l.length c] 33)).alloc (Obj.cells #[Value.int .i64 ix, Value.slice a l.length c] 33)).heap.size) := by simp [Hid]
  generalize ((w.alloc (Obj.cells #[Value.int .i64 ix, Value.slice a l.length c] 33)).alloc (Obj.cells #[Value.int .i64 ix, Value.slice a l.length c] 33)) = w0 at *
  go_loopw [9, 18] (fun m i wr => ∃ k : Nat, k ≤ l.length ∧ i = .int .i64 k ∧ m = .int .i64 (min (n + 1 + sizeY (l.take k)) (M + 1)) ∧ Below w.heap.size w wr) (fun m i wr => l.length - (intOf i).toNat)
  case atStart => exact ⟨0, Nat.zero_le _, rfl, by rw [show sizeY (l.take 0) = 0 by simp [sizeY]]; congr 1; omega, hB0.out⟩
  case round =>
   obtain ⟨k, hk, rfl, rfl, hb⟩ := hrel
   have hl := hs.1
   have hsz : w.heap.size ≤ wr.heap.size := hb.size
   by_cases hlt : k < l.length
   ·obtain ⟨b, o, a', c', rfl, d0, d1, hx⟩ := hs.get hb (fun _ _ h => h) k hlt
    by_cases hle : n + 1 + (sizeY (l.take k) : Int) ≤ M
    ·have hmin : min (n + 1 + (sizeY (l.take k) : Int)) (M + 1) = n + 1 + (sizeY (l.take k) : Int) := by omega
     rw [hmin]
     go_wp2_with fail
     refine (IH.out _ (List.getElem_mem hlt) _ _ _ X (hx.alloc _) (by omega) (by omega)).mono ?_
     rintro e w1 ⟨rfl, hb1⟩
     have Hst := hide (sizeY_take l k hlt)
     go_wp2_with fail
     go_roundw
     case rel => exact ⟨k + 1, by omega, by go_num, by rw [Hst.out]; congr 1; omega, (hb.alloc hsz _).trans (hb1.mono (by simp; omega))⟩
     case measure => simp [intOf]; omega
    ·have hmin : min (n + 1 + (sizeY (l.take k) : Int)) (M + 1) = M + 1 := by omega
     rw [hmin]
     have hle2 : sizeY (l.take k) ≤ sizeY l := sizeY_take_le l k
     go_wp2_with fail
     go_ret
     refine ⟨ret_int (by have := hz.out; omega), ?_⟩
     exact hb.alloc (by omega) _
   ·have htk : l.take k = l := List.take_of_length_le (by omega)
    rw [htk]
    go_wp2_with fail
    go_ret
    exact ⟨ret_int (by have := hz.out; omega), hb⟩
theorem countTY_any (M : Int) (hM0 : 0 ≤ M) (hM1 : M ≤ 1000000) (t : Ty) (v : Value) (w : World) (X : Nat → Prop) (hv : YV w X v t) :
  Calls Tryz.prog 27 #[v, .func (.func 28) #[] #[], .int .i64 M] w fun e w' => e = .returned (.int .i64 (min (sizeY [t] : Int) (M + 1))) ∧ Below w.heap.size w w' := by
 obtain ⟨a, c, rfl, hs⟩ := hv
 have hv : YV w X (.agg #[.int .i64 t.base, .slice a t.subs.length c]) t := ⟨a, c, rfl, hs⟩
 go_enter Tryz.func27, Tryz.ntmps27
 go_wp2_with fail
 refine (countOnY_any M hM0 hM1 t _ _ _ X (hv.alloc _) (by omega) (by omega)).mono ?_
 rintro e w1 ⟨rfl, hb1⟩
 go_wp2_with fail
 go_ret
 exact ⟨ret_int (by omega), ((Below.refl _ _).alloc (Nat.le_refl _) _).trans (hb1.mono (by simp))⟩
def knY (x : Int) (n : Nat) : Int := if n ≠ 0 ∧ (n ≠ 2 ∨ x ≠ 0) then 2 else if x < 0 ∨ 999 < x then 10 else 0
def errY : List Ty → Int
 | [] => 0
 | ⟨x, l⟩ :: r => if knY x l.length = 0 then (if errY l = 0 then errY r else errY l) else knY x l.length
theorem errY_cons (t : Ty) (r : List Ty) : errY (t :: r) = if errY [t] = 0 then errY r else errY [t] := by
 obtain ⟨x, l⟩ := t
 simp only [errY]
 split
 ·split <;> simp_all
 ·simp_all
theorem errY_append (a b : List Ty) : errY (a ++ b) = if errY a = 0 then errY b else errY a := by
 induction a with
 | nil => simp [errY]
 | cons t r ih =>
  rw [List.cons_append, errY_cons, errY_cons t r, ih]
  by_cases h : errY [t] = 0 <;> simp [h]
theorem errY_take (l : List Ty) (k : Nat) (h : k < l.length) : errY (l.take (k + 1)) = if errY (l.take k) = 0 then errY [l[k]] else errY (l.take k) := by
 rw [List.take_succ_eq_append_getElem h, errY_append]
theorem errY_of_take {l : List Ty} {k : Nat} (h : errY (l.take k) ≠ 0) : errY l = errY (l.take k) := by
 have := errY_append (l.take k) (l.drop k)
 rw [List.take_append_drop, if_neg h] at this
 exact this
theorem errY_good {ix : Int} {l : List Ty} (h : knY ix l.length = 0) : errY [⟨ix, l⟩] = errY l := by
 simp only [errY, h, if_true]
 by_cases h0 : errY l = 0 <;> simp [h0]
theorem errY_bad {ix : Int} {l : List Ty} (h : knY ix l.length ≠ 0) : errY [⟨ix, l⟩] = knY ix l.length := by
 simp [errY, h]
def tyE (t : Ty) : Int := if 200 < sizeY [t] then 3 else errY [t]
theorem ty_look {x : Int} {l : List Ty} (h : errY [⟨x, l⟩] = 0) : (l = [] ∧ 0 ≤ x ∧ x ≤ 999) ∨ (x = 0 ∧ ∃ a b, l = [a, b] ∧ errY [a] = 0 ∧ errY [b] = 0) := by
 have hk : knY x l.length = 0 := by
  apply Classical.byContradiction
  intro hn
  rw [errY_bad hn] at h
  exact hn h
 rw [errY_good hk] at h
 unfold knY at hk
 split at hk
 ·simp at hk
 rename_i h1
 split at hk
 ·simp at hk
 rename_i h2
 match l, h1, h with
 | [], _, _ => exact Or.inl ⟨rfl, by omega, by omega⟩
 | [a], h1, _ => exact absurd h1 (by simp)
 | [a, b], h1, h =>
  rw [errY_cons] at h
  have hx : x = 0 := by
   apply Classical.byContradiction
   intro hn
   exact h1 ⟨by simp, Or.inr hn⟩
  by_cases e : errY [a] = 0
  ·rw [if_pos e] at h
   exact Or.inr ⟨hx, a, b, rfl, e, h⟩
  ·rw [if_neg e] at h
   exact absurd h e
 | a :: b :: c :: d, h1, _ => exact absurd h1 (by simp)
def KnInvY (l : List Ty) (w : World) (o : Value) (wr : World) : Prop := ∃ k : Nat, k ≤ l.length ∧ o = .int .i64 k ∧ errY (l.take k) = 0 ∧ Below w.heap.size w wr
set_option maxHeartbeats 4000000 in
theorem tyKnots_any (t : Ty) : ∀ (v : Value) (w : World) (X : Nat → Prop), YV w X v t →
  Calls Tryz.prog 29 #[v] w fun e w' => e = .returned (.int .i64 (errY [t])) ∧ Below w.heap.size w w' := by
 induction t using Ty.ind with
 | h ix l ih =>
  intro v w X hv
  obtain ⟨a, c, rfl, hs⟩ := hv
  have IH := hide ih
  clear ih
  have hl := hs.1
  have HB0 : Hid (Below w.heap.size w (w.alloc (.cells #[.int .i64 ix, .slice a l.length c] 33))) := (Below.refl _ _).alloc (Nat.le_refl _) _
  have HT0 : Hid (Blk (w.alloc (.cells #[.int .i64 ix, .slice a l.length c] 33)) w.heap.size #[.int .i64 ix, .slice a l.length c] 33) := Blk.new _ _ _
  by_cases h0 : l.length = 0
  ·have HL := hide h0
   have f0 : ((l.length : Int) != 0) = false := by simp [h0]
   have f2 : ((l.length : Int) == 2) = false := by simp [h0]
   clear h0
   by_cases hi : ix < 0
   ·have HK : Hid (knY ix l.length = 10) := by unfold Hid knY; rw [HL.out]; simp [hi]
    have HE : Hid (errY [(⟨ix, l⟩ : Ty)] = 10) := by unfold Hid; rw [errY_bad (by rw [HK.out]; decide), HK.out]
    go_enter Tryz.func29, Tryz.ntmps29
    go_wp2_with fail
    go_ret
    exact ⟨ret_int HE.out.symm, HB0.out⟩
   by_cases hj : 999 < ix
   ·have HK : Hid (knY ix l.length = 10) := by unfold Hid knY; rw [HL.out]; simp [hj]
    have HE : Hid (errY [(⟨ix, l⟩ : Ty)] = 10) := by unfold Hid; rw [errY_bad (by rw [HK.out]; decide), HK.out]
    go_enter Tryz.func29, Tryz.ntmps29
    go_wp2_with fail
    go_ret
    exact ⟨ret_int HE.out.symm, HB0.out⟩
   have HK : Hid (knY ix l.length = 0) := by unfold Hid knY; rw [HL.out, if_neg (by simp), if_neg (by omega)]
   have HE := hide (errY_good HK.out)
   go_enter Tryz.func29, Tryz.ntmps29
   go_wp2_with fail
   go_loopw [32] (fun o wr => KnInvY l w o wr ∧ Blk wr w.heap.size #[.int .i64 ix, .slice a l.length c] 33) (fun o wr => l.length - (intOf o).toNat)
   case atStart => exact ⟨⟨0, Nat.zero_le _, rfl, by simp [errY], HB0.out⟩, HT0.out⟩
   case round =>
    obtain ⟨⟨k, hk, rfl, he, hb⟩, hT⟩ := hrel
    have HEK := hide he
    have HBK := hide hb
    have HTK := hide hT
    clear he
    have hsz : w.heap.size ≤ wr.heap.size := hb.size
    have t0 := hT.c0
    have t1 := hT.c1
    by_cases hlt : k < l.length
    ·obtain ⟨b, o, a', c', rfl, d0, d1, hx⟩ := hs.get hb (fun _ _ h => h) k hlt
     have HT := hide (errY_take l k hlt)
     have hlt2 : (k : Int) < (l.length : Int) := by omega
     clear hb hT
     go_wp2_with fail
     refine (IH.out _ (List.getElem_mem hlt) _ _ X (hx.alloc _)).mono ?_
     rintro e w2 ⟨rfl, hb2⟩
     have HB2 : Hid (Below w.heap.size w w2) := (HBK.out.alloc hsz _).trans (hb2.mono (by simp; omega))
     have HT2 := hide ((HTK.out.alloc _).below hb2 (HTK.out.alloc _).lt)
     clear hb2
     by_cases hez : errY [l[k]] = 0
     ·have HZ := hide hez
      rw [hez]
      clear hez
      go_wp2_with fail
      go_roundw
      case rel => exact ⟨⟨k + 1, by omega, by go_num, by rw [HT.out, HEK.out, HZ.out]; rfl, HB2.out⟩, HT2.out⟩
      case measure => simp [intOf]; omega
     ·have h1 : (errY [l[k]] == 0) = false := by simpa using hez
      have h2 : (errY [l[k]] != 0) = true := by simpa using hez
      have HZ : Hid (errY [l[k]] = errY [(⟨ix, l⟩ : Ty)]) := by
       have h1 : errY (l.take (k + 1)) = errY [l[k]] := by rw [HT.out, HEK.out]; rfl
       unfold Hid
       rw [HE.out, errY_of_take (l := l) (k := k + 1) (by rw [h1]; exact hez), h1]
      go_wp2_with fail
      go_ret
      exact ⟨ret_int HZ.out, HB2.out⟩
    ·have htk : l.take k = l := List.take_of_length_le (by omega)
     have hge : ¬ ((k : Int) < (l.length : Int)) := by omega
     have HZ : Hid (0 = errY [(⟨ix, l⟩ : Ty)]) := by unfold Hid; rw [HE.out, ← htk, HEK.out]
     go_wp2_with fail
     go_ret
     exact ⟨ret_int HZ.out, HBK.out⟩
  by_cases h2 : l.length = 2
  ·have HL := hide h2
   have f0 : ((l.length : Int) != 0) = true := by simp [h2]
   have f1 : ((l.length : Int) != 2) = false := by simp [h2]
   have f2 : ((l.length : Int) == 2) = true := by simp [h2]
   clear h2 h0
   by_cases hi : ix = 0
   ·subst hi
    have HK : Hid (knY 0 l.length = 0) := by unfold Hid knY; rw [HL.out]; simp
    have HE := hide (errY_good HK.out)
    go_enter Tryz.func29, Tryz.ntmps29
    go_wp2_with fail
    go_loopw [32] (fun o wr => KnInvY l w o wr ∧ Blk wr w.heap.size #[.int .i64 0, .slice a l.length c] 33) (fun o wr => l.length - (intOf o).toNat)
    case atStart => exact ⟨⟨0, Nat.zero_le _, rfl, by simp [errY], HB0.out⟩, HT0.out⟩
    case round =>
     obtain ⟨⟨k, hk, rfl, he, hb⟩, hT⟩ := hrel
     have HEK := hide he
     have HBK := hide hb
     have HTK := hide hT
     clear he
     have hsz : w.heap.size ≤ wr.heap.size := hb.size
     have t0 := hT.c0
     have t1 := hT.c1
     by_cases hlt : k < l.length
     ·obtain ⟨b, o, a', c', rfl, d0, d1, hx⟩ := hs.get hb (fun _ _ h => h) k hlt
      have HT := hide (errY_take l k hlt)
      have hlt2 : (k : Int) < (l.length : Int) := by omega
      clear hb hT
      go_wp2_with fail
      refine (IH.out _ (List.getElem_mem hlt) _ _ X (hx.alloc _)).mono ?_
      rintro e w2 ⟨rfl, hb2⟩
      have HB2 : Hid (Below w.heap.size w w2) := (HBK.out.alloc hsz _).trans (hb2.mono (by simp; omega))
      have HT2 := hide ((HTK.out.alloc _).below hb2 (HTK.out.alloc _).lt)
      clear hb2
      by_cases hez : errY [l[k]] = 0
      ·have HZ := hide hez
       rw [hez]
       clear hez
       go_wp2_with fail
       go_roundw
       case rel => exact ⟨⟨k + 1, by omega, by go_num, by rw [HT.out, HEK.out, HZ.out]; rfl, HB2.out⟩, HT2.out⟩
       case measure => simp [intOf]; omega
      ·have h1 : (errY [l[k]] == 0) = false := by simpa using hez
       have h2 : (errY [l[k]] != 0) = true := by simpa using hez
       have HZ : Hid (errY [l[k]] = errY [(⟨0, l⟩ : Ty)]) := by
        have h1 : errY (l.take (k + 1)) = errY [l[k]] := by rw [HT.out, HEK.out]; rfl
        unfold Hid
        rw [HE.out, errY_of_take (l := l) (k := k + 1) (by rw [h1]; exact hez), h1]
       go_wp2_with fail
       go_ret
       exact ⟨ret_int HZ.out, HB2.out⟩
     ·have htk : l.take k = l := List.take_of_length_le (by omega)
      have hge : ¬ ((k : Int) < (l.length : Int)) := by omega
      have HZ : Hid (0 = errY [(⟨0, l⟩ : Ty)]) := by unfold Hid; rw [HE.out, ← htk, HEK.out]
      go_wp2_with fail
      go_ret
      exact ⟨ret_int HZ.out, HBK.out⟩
   ·have hi2 : (ix != 0) = true := by simpa using hi
    have HK : Hid (knY ix l.length = 2) := by unfold Hid knY; rw [HL.out]; simp [hi]
    have HE : Hid (errY [(⟨ix, l⟩ : Ty)] = 2) := by unfold Hid; rw [errY_bad (by rw [HK.out]; decide), HK.out]
    go_enter Tryz.func29, Tryz.ntmps29
    go_wp2_with fail
    go_ret
    exact ⟨ret_int HE.out.symm, HB0.out⟩
  have f0 : ((l.length : Int) != 0) = true := by simp; exact fun h => h0 (by simp [h])
  have f1 : ((l.length : Int) != 2) = true := by simp; omega
  have f2 : ((l.length : Int) == 2) = false := by simp; omega
  have H0 := hide h0
  have H2 := hide h2
  clear h0 h2
  have HK : Hid (knY ix l.length = 2) := by unfold Hid knY; rw [if_pos ⟨H0.out, Or.inl H2.out⟩]
  have HE : Hid (errY [(⟨ix, l⟩ : Ty)] = 2) := by unfold Hid; rw [errY_bad (by rw [HK.out]; decide), HK.out]
  go_enter Tryz.func29, Tryz.ntmps29
  go_wp2_with fail
  go_ret
  exact ⟨ret_int HE.out.symm, HB0.out⟩
set_option maxHeartbeats 1000000 in
theorem tyCheck_any (t : Ty) (v : Value) (w : World) (X : Nat → Prop) (hv : YV w X v t) :
  Calls Tryz.prog 15 #[v] w fun e w' => e = .returned (.int .i64 (tyE t)) ∧ Below w.heap.size w w' := by
 obtain ⟨a, c, rfl, hs⟩ := hv
 have hv : YV w X (.agg #[.int .i64 t.base, .slice a t.subs.length c]) t := ⟨a, c, rfl, hs⟩
 have HB0 : Hid (Below w.heap.size w (w.alloc (.cells #[.int .i64 t.base, .slice a t.subs.length c] 33))) := (Below.refl _ _).alloc (Nat.le_refl _) _
 have hT0 := Blk.new w #[.int .i64 t.base, .slice a t.subs.length c] 33
 go_enter Tryz.func15, Tryz.ntmps15
 go_wp2_with fail
 refine (countTY_any 200 (by omega) (by omega) t _ _ X (hv.alloc _)).mono ?_
 rintro e w1 ⟨rfl, hb1⟩
 have HB1 := hide (HB0.out.trans (hb1.mono (by simp)))
 have T1 := hide (hT0.below hb1 hT0.lt)
 have t0 := T1.out.c0
 have t1 := T1.out.c1
 clear hb1 hT0 HB0
 by_cases h3 : 200 < sizeY [t]
 ·have HE : Hid (tyE t = 3) := by unfold Hid tyE; rw [if_pos h3]
  have e : min (sizeY [t] : Int) (200 + 1) = 201 := by omega
  rw [e]
  go_wp2_with fail
  go_ret
  exact ⟨ret_int HE.out.symm, HB1.out⟩
 ·have HE : Hid (tyE t = errY [t]) := by unfold Hid tyE; rw [if_neg h3]
  have e : min (sizeY [t] : Int) (200 + 1) = sizeY [t] := by omega
  rw [e]
  have hle : ¬ (200 : Int) < (sizeY [t] : Int) := by omega
  go_wp2_with fail
  refine (tyKnots_any t _ _ X (hv.later HB1.out)).mono ?_
  rintro e w2 ⟨rfl, hb2⟩
  go_wp2_with fail
  go_ret
  exact ⟨ret_int HE.out.symm, HB1.out.trans (hb2.mono HB1.out.size)⟩
open Go.RowKit Go.Shelf
theorem RowT.put {w : World} {X : Nat → Prop} {y : Tm} {a : Option Addr} {c : Nat} (hy : Sl w X a y.args) : ∀ {l : List Tm} {xs : List Value} (k : Nat), RowT w X l xs → k < l.length → RowT w X (l.set k y) ((xs.set (k * 2) (.string y.name)).set (k * 2 + 1) (.slice a y.args.length c))
 | [], xs, k, h, hk => by simp at hk
 | t :: l, xs, 0, h, _ => by
  obtain ⟨a', c', r, rfl, h1, h2⟩ := h
  exact ⟨a, c, r, by simp, hy, h2⟩
 | t :: l, xs, k + 1, h, hk => by
  obtain ⟨a', c', r, rfl, h1, h2⟩ := h
  refine ⟨a', c', (r.set (k * 2) (.string y.name)).set (k * 2 + 1) (.slice a y.args.length c), ?_, h1, RowT.put hy k h2 (by simpa using hk)⟩
  have e : (k + 1) * 2 = k * 2 + 1 + 1 := by omega
  rw [e]
  simp
theorem Bld.alloc {w : World} {B b : Nat} {bs : List Value} {v : Value} (h : Bld w B b bs v) (o : Obj) : Bld (w.alloc o) B b bs v := by
 obtain ⟨hB, ⟨p, hp, hb⟩, hown⟩ := h
 exact ⟨hB, ⟨p, hp, by rw [Below.heap_alloc _ _ _ (bd_lt hb)]; exact hb⟩, hown.alloc o⟩
theorem Bld.lt {w : World} {B b : Nat} {bs : List Value} {v : Value} (h : Bld w B b bs v) : b < w.heap.size := by
 obtain ⟨_, ⟨p, _, hb⟩, _⟩ := h
 exact bd_lt hb
theorem Bld.old {w : World} {B b : Nat} {bs : List Value} {v : Value} (h : Bld w B b bs v) {x : Nat} (hx : x < B) : x ≠ b ∧ some x ≠ v.ownBlock := by
 refine ⟨by have := h.1; omega, fun e => ?_⟩
 have := (h.2.2.lt x e.symm).1; omega
def bytesV (l : List UInt8) : List Value := l.map fun b => Value.int .u8 b.toNat
theorem bytesV_len (l : List UInt8) : (bytesV l).length = l.length := by simp [bytesV]
theorem bytesV_one (pre : List UInt8) (c : UInt8) : bytesV pre ++ [.int .u8 c.toNat] = bytesV (pre ++ [c]) := by simp [bytesV]
theorem Bld.box {w : World} {B b : Nat} {bs : List Value} {v : Value} (h : Bld w B b bs v) : w.heap.size ≠ b ∧ some w.heap.size ≠ v.ownBlock := by
 refine ⟨by have := h.lt; omega, fun e => ?_⟩
 have := (h.2.2.lt _ e.symm).2; omega
theorem Sl.grown {w w' : World} {X : Nat → Prop} {a : Option Addr} {l : List Tm} {r : Option Nat} (h : Sl w X a l) (hg : w.grownBy w' r) (hX : ∀ b, X b → some b ≠ r) : Sl w' X a l := by
 have h1 : Sl w (fun b => X b ∧ b < w.heap.size) a l := h.mono fun b h1 h2 => ⟨h1, h2⟩
 have h2 : Sl w' (fun b => X b ∧ b < w.heap.size) a l := h1.kept fun b hx => hg.block b hx.2 (hX b hx.1)
 exact h2.mono fun b hx _ => hx.1
theorem NamesAt.refl {w : World} {B : Nat} {q : Value} {acc : List ByteArray} (h : w.ownsRow B 9 1 q acc.length (acc.map Value.string)) : NamesAt w B q acc q w :=
 ⟨h, grown_of_below (Below.refl _ _) _, fun _ h => Or.inl h⟩
theorem bytes_cells (l : List UInt8) : bytesV l = Lib.byteCells l := rfl
def txK (x : Int) (l : List Ty) (ts : List (List UInt8)) : List UInt8 := match l, ts with
 | [a, b], [p, q] => (if a.subs.length = 0 then p else 40 :: p ++ [41]) ++ 62 :: q
 | _, _ => 97 :: Lib.decDigits x.toNat
def txYL : List Ty → List (List UInt8)
 | [] => []
 | ⟨x, l⟩ :: r => txK x l (txYL l) :: txYL r
def txY (t : Ty) : List UInt8 := txK t.base t.subs (txYL t.subs)
theorem txYL_cons (t : Ty) (r : List Ty) : txYL (t :: r) = txY t :: txYL r := by
 obtain ⟨x, l⟩ := t
 simp only [txYL, txY]
theorem txY_base (x : Int) : txY ⟨x, []⟩ = 97 :: Lib.decDigits x.toNat := by simp [txY, txK]
theorem txY_arrow (x : Int) (a b : Ty) : txY ⟨x, [a, b]⟩ = (if a.subs.length = 0 then txY a else 40 :: txY a ++ [41]) ++ 62 :: txY b := by
 unfold txY
 simp only [txYL_cons, txYL, txK]
 rfl
theorem txY_len (t : Ty) : errY [t] = 0 → (txY t).length ≤ 1001 * sizeY [t] := by
 induction t using Ty.ind with
 | h x l ih =>
  intro he
  rcases ty_look he with ⟨rfl, h1, h2⟩ | ⟨rfl, a, b, rfl, ha, hb⟩
  ·rw [txY_base]
   have := dec_len x.toNat
   simp [sizeY]
   omega
  ·rw [txY_arrow]
   have i1 := ih a (by simp) ha
   have i2 := ih b (by simp) hb
   have e : sizeY [(⟨0, [a, b]⟩ : Ty)] = 1 + (sizeY [a] + sizeY [b]) := by
    have := sizeY_append [a] [b]
    simp only [List.cons_append, List.nil_append] at this
    simp only [sizeY, this]
    omega
   rw [e]
   split <;> simp <;> omega
theorem Bld.later {w w' : World} {B b : Nat} {bs : List Value} {v : Value} (h : Bld w B b bs v) (hb : Below w.heap.size w w') : Bld w' B b bs v := by
 have hlt := h.lt
 obtain ⟨hB, ⟨p, hp, hbk⟩, hown⟩ := h
 exact ⟨hB, ⟨p, hp, by rw [hb.block b hlt]; exact hbk⟩, hown.kept (row := some w.heap.size) ⟨hb.os, hb.tape, hb.output, hb.size, fun k hk _ => hb.block k hk⟩ (Or.inr fun e => by have := (hown.lt _ e).2; omega)⟩
theorem Bld.fr {w w' : World} {B b : Nat} {bs : List Value} {v v' : Value} (h : Bld w B b bs v) (hf : BFr w w' b v v') (hB : B ≤ w.heap.size) : Below B w w' := by
 obtain ⟨f1, f2, f3, f4, f5, f6⟩ := hf
 refine ⟨f1, f2, f3, f4, fun k hk => f5 k (by omega) (by have := h.1; omega) (fun e => ?_)⟩
 have := (h.2.2.lt _ e.symm).1
 omega
def WrY (w : World) (B b : Nat) (q0 : Value) (cs : Array Value) (pre : List UInt8) (q : Value) (w' : World) : Prop :=
 Bld w' B b (bytesV pre) q ∧ BFr w w' b q0 q ∧ Blk w' w.heap.size cs 33 ∧ w.heap.size ≠ b ∧ some w.heap.size ≠ q.ownBlock ∧ Below B w w'
theorem WrY.step {w : World} {B b : Nat} {q0 : Value} {cs : Array Value} {pre pre' : List UInt8} {q q' : Value} {w1 w2 : World} (h : WrY w B b q0 cs pre q w1) (hB : B ≤ w.heap.size) (hb : Bld w2 B b (bytesV pre') q') (hf : BFr w1 w2 b q q') : WrY w B b q0 cs pre' q' w2 := by
 obtain ⟨h1, h2, h3, h4, h5, h6⟩ := h
 refine ⟨hb, h2.trans hf, blk_bfr h3 hf h4 h5, h4, own_bfr hf h3.lt h5, h6.trans (h1.fr hf (Nat.le_trans hB h6.size))⟩
theorem WrY.later {w : World} {B b : Nat} {q0 : Value} {cs : Array Value} {pre : List UInt8} {q : Value} {w1 w2 : World} (h : WrY w B b q0 cs pre q w1) (hB : B ≤ w.heap.size) (hb : Below w1.heap.size w1 w2) : WrY w B b q0 cs pre q w2 :=
 h.step hB (h.1.later hb) (BFr.of_below hb b q)
theorem WrY.start {w : World} {B b : Nat} {q0 : Value} {pre : List UInt8} (h : Bld w B b (bytesV pre) q0) (hB : B ≤ w.heap.size) (cs : Array Value) : WrY w B b q0 cs pre q0 (w.alloc (.cells cs 33)) :=
 ⟨h.alloc _, BFr.of_below ((Below.refl _ _).alloc (Nat.le_refl _) _) b q0, Blk.new _ _ _, h.box.1, h.box.2, (Below.refl _ _).alloc hB _⟩
theorem by_str (pre : List UInt8) (s : List UInt8) : bytesV pre ++ Lib.strCells ⟨s.toArray⟩ = bytesV (pre ++ s) := by simp [bytesV, Lib.strCells]
theorem slY_two {w : World} {X : Nat → Prop} {B : Nat} {a : Option Addr} {p r : Ty} (h : SlY w X a [p, r]) (hX : ∀ x, X x → x < B) :
  ∃ b' o' a1 c1 a2 c2, a = some ⟨b', o', none⟩ ∧ ∀ w', Below B w w' → (w'.cell? ⟨b', o', none⟩ = some (.int .i64 p.base) ∧ w'.cell? ⟨b', o' + 1, none⟩ = some (.slice a1 p.subs.length c1) ∧ w'.cell? ⟨b', o' + 2, none⟩ = some (.int .i64 r.base) ∧ w'.cell? ⟨b', o' + 2 + 1, none⟩ = some (.slice a2 r.subs.length c2)) ∧ YV w' X (.agg #[.int .i64 p.base, .slice a1 p.subs.length c1]) p ∧ YV w' X (.agg #[.int .i64 r.base, .slice a2 r.subs.length c2]) r := by
 obtain ⟨_, h | ⟨b', o', rfl, hl⟩⟩ := h
 ·simp at h
 obtain ⟨hx, d0, a1, c1, d1, hs1⟩ := liesY_get _ _ _ hl 0 (by simp)
 obtain ⟨_, d2, a2, c2, d3, hs2⟩ := liesY_get _ _ _ hl 1 (by simp)
 refine ⟨b', o', a1, c1, a2, c2, rfl, fun w' hb => ⟨?_, ⟨a1, c1, rfl, hs1.below hb fun x hx _ => hX x hx⟩, ⟨a2, c2, rfl, hs2.below hb fun x hx _ => hX x hx⟩⟩⟩
 have e : ∀ o, w'.cell? ⟨b', o, none⟩ = w.cell? ⟨b', o, none⟩ := fun o => World.cell?_of_block (hb.block b' (hX _ hx))
 rw [e, e, e, e]
 exact ⟨by simpa using d0, by simpa using d1, by simpa using d2, by simpa using d3⟩
set_option maxHeartbeats 4000000 in
theorem tyWrite_any (t : Ty) : ∀ (v q0 : Value) (pre : List UInt8) (B b : Nat) (w : World) (X : Nat → Prop), errY [t] = 0 → YV w X v t → (∀ x, X x → x < B) → Bld w B b (bytesV pre) q0 → Tb B w → B ≤ w.heap.size → pre.length + (txY t).length ≤ 900000000 →
  Calls Tryz.prog 30 #[.pointer (some ⟨b, 0, none⟩), v] w fun e w' => e = .returned (.tuple #[]) ∧ ∃ q, Bld w' B b (bytesV (pre ++ txY t)) q ∧ BFr w w' b q0 q := by
 induction t using Ty.ind with
 | h x l ih =>
  intro v q0 pre B b w X he hv hX hbd hT hB hsm
  have IH := hide ih
  clear ih
  obtain ⟨a, c, rfl, hs⟩ := hv
  have HT := hide hT
  have HE := hide he
  rcases ty_look he with ⟨rfl, h1, h2⟩ | ⟨rfl, p, r, rfl, hp, hr⟩
  ·clear he hT
   have W1 := hide (WrY.start hbd hB #[.int .i64 x, .slice a ([] : List Ty).length c])
   obtain ⟨n, rfl⟩ : ∃ n : Nat, x = (n : Int) := ⟨x.toNat, by omega⟩
   have HX := hide (txY_base (n : Int))
   have HN : Hid (n ≤ 999) := by unfold Hid; omega
   rw [HX.out] at hsm
   clear hbd h1 h2
   simp only [List.length_nil] at *
   go_enter Tryz.func30, Tryz.ntmps30
   go_upto_region 2 with fail
   generalize w.alloc (.cells #[.int .i64 (n : Int), .slice a 0 c] 33) = w1 at *
   have hsz1 : B ≤ w1.heap.size := Nat.le_trans hB W1.out.2.2.2.2.2.size
   go_wp2_with fail
   refine (writeByte_any B b _ q0 97 _ (by exact W1.out.1) (by rw [bytesV_len]; omega) hsz1).mono ?_
   rintro e w2 ⟨rfl, q2, hbd2, hfr2⟩
   have W2 := hide (W1.out.step hB (pre' := pre ++ [97]) (by rw [← bytesV_one]; exact hbd2) hfr2)
   have x0 := W2.out.2.2.1.c0
   clear hbd2 hfr2
   go_wp2_with fail
   refine (itoa_any n B (by have := HN.out; omega) _ (HT.out.on W2.out.2.2.2.2.2)).mono ?_
   rintro e w3 ⟨rfl, hb3⟩
   have W3 := hide (W2.out.later hB hb3)
   have hsz3 : B ≤ w3.heap.size := Nat.le_trans hB W3.out.2.2.2.2.2.size
   clear hb3 x0
   go_wp2_with fail
   refine (writeString_any B b _ q2 _ _ (by exact W3.out.1) (by rw [bytesV_len]; have e : (⟨(Lib.decDigits n).toArray⟩ : ByteArray).size = (Lib.decDigits n).length := (by simp [ByteArray.size]); rw [e]; simp at hsm ⊢; omega) hsz3).mono ?_
   rintro e w4 ⟨rfl, q4, hbd4, hfr4⟩
   have W4 := hide (W3.out.step hB (pre' := pre ++ [97] ++ Lib.decDigits n) (by rw [← by_str]; exact hbd4) hfr4)
   clear hbd4 hfr4
   go_wp2_with fail
   refine bodyPost_ret (v := .tuple #[]) (by simp [results, Tryz.results30, go_sem]) rfl ?_
   refine ⟨rfl, q4, ?_, W4.out.2.1⟩
   rw [HX.out]
   have := W4.out.1
   simpa using this
  ·clear he hT
   obtain ⟨b', o', a1, c1, a2, c2, rfl, hKP⟩ := slY_two hs hX
   have KP := hide hKP
   have IP := hide (fun v q0 pre w' h1 h2 h3 h4 h5 => IH.out p (by simp) v q0 pre B b w' X hp h1 hX h2 h3 h4 h5)
   have IR := hide (fun v q0 pre w' h1 h2 h3 h4 h5 => IH.out r (by simp) v q0 pre B b w' X hr h1 hX h2 h3 h4 h5)
   have W1 := hide (WrY.start hbd hB #[.int .i64 0, .slice (some ⟨b', o', none⟩) ([p, r] : List Ty).length c])
   have e2 : ([p, r] : List Ty).length = 2 := rfl
   rw [e2] at *
   clear hbd hKP hs e2 IH HE
   by_cases hz : p.subs.length = 0
   ·have HX : Hid (txY ⟨0, [p, r]⟩ = txY p ++ 62 :: txY r) := by unfold Hid; rw [txY_arrow, if_pos hz]
    rw [HX.out] at hsm
    have hlen := hsm
    have hz2 : ((p.subs.length : Int) == 0) = true := by simp [hz]
    clear hsm hz
    go_enter Tryz.func30, Tryz.ntmps30
    go_upto_region 1 with fail
    generalize w.alloc (.cells #[.int .i64 0, .slice (some ⟨b', o', none⟩) 2 c] 33) = w1 at *
    have x1 := W1.out.2.2.1.c1
    obtain ⟨⟨y0, y1, y2, y3⟩, hyp, hyr⟩ := KP.out _ W1.out.2.2.2.2.2
    have HYP := hide hyp
    have HYR := hide hyr
    have hsz1 : B ≤ w1.heap.size := Nat.le_trans hB W1.out.2.2.2.2.2.size
    clear hyp hyr
    go_wp2_with fail
    refine (IP.out _ q0 _ _ HYP.out W1.out.1 (HT.out.on W1.out.2.2.2.2.2) hsz1 (by simp at hlen ⊢; omega)).mono ?_
    rintro e w2 ⟨rfl, q2, hbd, hfr⟩
    have W2 := hide (W1.out.step hB (pre' := pre ++ txY p) hbd hfr)
    clear hbd hfr
    clear x1 y0 y1 y2 y3 HYP HYR
    have x1 := W2.out.2.2.1.c1
    obtain ⟨⟨y0, y1, y2, y3⟩, hyp, hyr⟩ := KP.out _ W2.out.2.2.2.2.2
    have HYP := hide hyp
    have HYR := hide hyr
    have hsz2 : B ≤ w2.heap.size := Nat.le_trans hB W2.out.2.2.2.2.2.size
    clear hyp hyr
    go_wp2_with fail
    refine (writeByte_any B b _ q2 62 _ (by exact W2.out.1) (by rw [bytesV_len]; simp at hlen ⊢; omega) hsz2).mono ?_
    rintro e w3 ⟨rfl, q3, hbd, hfr⟩
    have W3 := hide (W2.out.step hB (pre' := pre ++ txY p ++ [62]) (by rw [← bytesV_one]; exact hbd) hfr)
    clear hbd hfr
    clear x1 y0 y1 y2 y3 HYP HYR
    have x1 := W3.out.2.2.1.c1
    obtain ⟨⟨y0, y1, y2, y3⟩, hyp, hyr⟩ := KP.out _ W3.out.2.2.2.2.2
    have HYP := hide hyp
    have HYR := hide hyr
    have hsz3 : B ≤ w3.heap.size := Nat.le_trans hB W3.out.2.2.2.2.2.size
    clear hyp hyr
    go_wp2_with fail
    refine (IR.out _ q3 _ _ HYR.out W3.out.1 (HT.out.on W3.out.2.2.2.2.2) hsz3 (by simp at hlen ⊢; omega)).mono ?_
    rintro e w4 ⟨rfl, q4, hbd, hfr⟩
    have W4 := hide (W3.out.step hB (pre' := (pre ++ txY p ++ [62]) ++ txY r) hbd hfr)
    clear hbd hfr
    clear x1 y0 y1 y2 y3 HYP HYR
    go_wp2_with fail
    go_end0
    refine ⟨rfl, q4, ?_, W4.out.2.1⟩
    rw [HX.out]
    have := W4.out.1
    simpa using this
   ·have HX : Hid (txY ⟨0, [p, r]⟩ = 40 :: txY p ++ [41] ++ 62 :: txY r) := by unfold Hid; rw [txY_arrow, if_neg hz]
    rw [HX.out] at hsm
    have hlen := hsm
    have hz2 : ((p.subs.length : Int) == 0) = false := by simp; exact fun h => hz (by simp [h])
    clear hsm hz
    go_enter Tryz.func30, Tryz.ntmps30
    go_upto_region 1 with fail
    generalize w.alloc (.cells #[.int .i64 0, .slice (some ⟨b', o', none⟩) 2 c] 33) = w1 at *
    have x1 := W1.out.2.2.1.c1
    obtain ⟨⟨y0, y1, y2, y3⟩, hyp, hyr⟩ := KP.out _ W1.out.2.2.2.2.2
    have HYP := hide hyp
    have HYR := hide hyr
    have hsz1 : B ≤ w1.heap.size := Nat.le_trans hB W1.out.2.2.2.2.2.size
    clear hyp hyr
    go_wp2_with fail
    refine (writeByte_any B b _ q0 40 _ (by exact W1.out.1) (by rw [bytesV_len]; simp at hlen ⊢; omega) hsz1).mono ?_
    rintro e w2 ⟨rfl, q2, hbd, hfr⟩
    have W2 := hide (W1.out.step hB (pre' := pre ++ [40]) (by rw [← bytesV_one]; exact hbd) hfr)
    clear hbd hfr
    clear x1 y0 y1 y2 y3 HYP HYR
    have x1 := W2.out.2.2.1.c1
    obtain ⟨⟨y0, y1, y2, y3⟩, hyp, hyr⟩ := KP.out _ W2.out.2.2.2.2.2
    have HYP := hide hyp
    have HYR := hide hyr
    have hsz2 : B ≤ w2.heap.size := Nat.le_trans hB W2.out.2.2.2.2.2.size
    clear hyp hyr
    go_wp2_with fail
    refine (IP.out _ q2 _ _ HYP.out W2.out.1 (HT.out.on W2.out.2.2.2.2.2) hsz2 (by simp at hlen ⊢; omega)).mono ?_
    rintro e w3 ⟨rfl, q3, hbd, hfr⟩
    have W3 := hide (W2.out.step hB (pre' := (pre ++ [40]) ++ txY p) hbd hfr)
    clear hbd hfr
    clear x1 y0 y1 y2 y3 HYP HYR
    have x1 := W3.out.2.2.1.c1
    obtain ⟨⟨y0, y1, y2, y3⟩, hyp, hyr⟩ := KP.out _ W3.out.2.2.2.2.2
    have HYP := hide hyp
    have HYR := hide hyr
    have hsz3 : B ≤ w3.heap.size := Nat.le_trans hB W3.out.2.2.2.2.2.size
    clear hyp hyr
    go_wp2_with fail
    refine (writeByte_any B b _ q3 41 _ (by exact W3.out.1) (by rw [bytesV_len]; simp at hlen ⊢; omega) hsz3).mono ?_
    rintro e w4 ⟨rfl, q4, hbd, hfr⟩
    have W4 := hide (W3.out.step hB (pre' := (pre ++ [40] ++ txY p) ++ [41]) (by rw [← bytesV_one]; exact hbd) hfr)
    clear hbd hfr
    clear x1 y0 y1 y2 y3 HYP HYR
    have x1 := W4.out.2.2.1.c1
    obtain ⟨⟨y0, y1, y2, y3⟩, hyp, hyr⟩ := KP.out _ W4.out.2.2.2.2.2
    have HYP := hide hyp
    have HYR := hide hyr
    have hsz4 : B ≤ w4.heap.size := Nat.le_trans hB W4.out.2.2.2.2.2.size
    clear hyp hyr
    go_wp2_with fail
    refine (writeByte_any B b _ q4 62 _ (by exact W4.out.1) (by rw [bytesV_len]; simp at hlen ⊢; omega) hsz4).mono ?_
    rintro e w5 ⟨rfl, q5, hbd, hfr⟩
    have W5 := hide (W4.out.step hB (pre' := (pre ++ [40] ++ txY p ++ [41]) ++ [62]) (by rw [← bytesV_one]; exact hbd) hfr)
    clear hbd hfr
    clear x1 y0 y1 y2 y3 HYP HYR
    have x1 := W5.out.2.2.1.c1
    obtain ⟨⟨y0, y1, y2, y3⟩, hyp, hyr⟩ := KP.out _ W5.out.2.2.2.2.2
    have HYP := hide hyp
    have HYR := hide hyr
    have hsz5 : B ≤ w5.heap.size := Nat.le_trans hB W5.out.2.2.2.2.2.size
    clear hyp hyr
    go_wp2_with fail
    refine (IR.out _ q5 _ _ HYR.out W5.out.1 (HT.out.on W5.out.2.2.2.2.2) hsz5 (by simp at hlen ⊢; omega)).mono ?_
    rintro e w6 ⟨rfl, q6, hbd, hfr⟩
    have W6 := hide (W5.out.step hB (pre' := (pre ++ [40] ++ txY p ++ [41] ++ [62]) ++ txY r) hbd hfr)
    clear hbd hfr
    clear x1 y0 y1 y2 y3 HYP HYR
    go_wp2_with fail
    go_end0
    refine ⟨rfl, q6, ?_, W6.out.2.1⟩
    rw [HX.out]
    have := W6.out.1
    simpa using this
theorem run_lenI {P : Program} {w : World} {T kt et : TypeId} {r : Nat} {L : List (ByteArray × Value)} (hm : P.underlying T = some (.map kt et)) (h : MapAt w r L) (ty : TypeId) : (Builtin.len_ #[T] ty #[.map (some r)]).run P w = .ok (.int .i64 (L.length : Int)) w := by
 obtain ⟨es, clk, hb, he, _⟩ := h
 have hl : es.size = L.length := by have := congrArg List.length he; simpa using this
 simp [Builtin.len_, run_underlying hm, MapKept.run_getObj_map hb, goInt, Result.andThen, hl]
def nuS : Nat → List ByteArray → List (ByteArray × Value)
 | _, [] => []
 | k, n :: r => (n, .int .i64 (k : Int)) :: nuS (k + 1) r
theorem nuS_len : ∀ (k : Nat) (ns : List ByteArray), (nuS k ns).length = ns.length
 | _, [] => rfl
 | k, n :: r => by simp [nuS, nuS_len (k + 1) r]
theorem ixB_mem {s : ByteArray} : ∀ {l : List ByteArray}, ixB s l < l.length → s ∈ l
 | [], h => by simp [ixB] at h
 | n :: r, h => by
  rw [ixB] at h
  split at h
  ·rename_i e; simp [e]
  ·exact List.mem_cons_of_mem _ (ixB_mem (by simp at h; omega))
theorem nuS_get (s : ByteArray) : ∀ (k : Nat) (ns : List ByteArray), mapGet (nuS k ns) s = if ixB s ns < ns.length then some (.int .i64 ((k + ixB s ns : Nat) : Int)) else none
 | _, [] => by simp [nuS, mapGet]
 | k, n :: r => by
  have ih := nuS_get s (k + 1) r
  by_cases h : n = s
  ·have e : ixB s (n :: r) = 0 := by simp [ixB, h]
   rw [if_pos (show ixB s (n :: r) < (n :: r).length by rw [e]; simp), e]
   simp [nuS, mapGet, h]
  ·have e : ixB s (n :: r) = ixB s r + 1 := by simp [ixB, h]
   have e2 : mapGet (nuS k (n :: r)) s = mapGet (nuS (k + 1) r) s := by simp [nuS, mapGet, h]
   rw [e2, ih]
   by_cases h2 : ixB s r < r.length
   ·rw [if_pos h2, if_pos (show ixB s (n :: r) < (n :: r).length by rw [e]; simp; omega), e]
    rw [show k + 1 + ixB s r = k + (ixB s r + 1) by omega]
   ·rw [if_neg h2, if_neg (show ¬ ixB s (n :: r) < (n :: r).length by rw [e]; simp; omega)]
theorem nuS_push (s : ByteArray) : ∀ (k : Nat) (ns : List ByteArray), nuS k (ns ++ [s]) = nuS k ns ++ [(s, .int .i64 ((k + ns.length : Nat) : Int))]
 | k, [] => by simp [nuS]
 | k, n :: r => by
  simp only [List.cons_append, nuS, nuS_push s (k + 1) r, List.length_cons]
  rw [show k + 1 + r.length = k + (r.length + 1) by omega]
theorem ay_ext {ns : List ByteArray} (r : List ByteArray) (l : List Tm) : (∀ k ∈ preL l, k.args = [] → k.name ∈ ns) → ayL (ns ++ r) l = ayL ns l := by
 induction l using Tm.indL with
 | h0 => intro _; simp [ayL]
 | h s l q ihl ihr =>
  intro h
  simp only [ayL]
  rw [ihl fun k hk => h k (by simp [preL, hk]), ihr fun k hk => h k (by simp [preL, hk])]
  congr 1
  unfold ayK
  by_cases h0 : l.length = 0
  ·rw [if_pos h0, if_pos h0, ixB_app r (h ⟨s, l⟩ (by simp [preL]) (List.length_eq_zero_iff.1 h0))]
  ·rw [if_neg h0, if_neg h0]
theorem ayT_ext {ns : List ByteArray} (r : List ByteArray) {t : Tm} (h : ∀ k ∈ preL [t], k.args = [] → k.name ∈ ns) : ayT (ns ++ r) t = ayT ns t := by
 have h1 := ay_ext r [t] h
 rw [ayL_cons, ayL_cons, ayL_nil, ayL_nil] at h1
 exact (List.cons.inj h1).1
theorem vars_all (l : List Tm) : KnL l → ∀ ns, ∀ k ∈ preL l, k.args = [] → k.name ∈ varsP ns (preL l) := by
 intro hk ns
 have key : ∀ (ks : List Tm) (acc : List ByteArray), (∀ k ∈ ks, KnQ k.name k.args) → (∀ y ∈ acc, y ∈ varsP acc ks) ∧ ∀ k ∈ ks, k.args = [] → k.name ∈ varsP acc ks := by
  intro ks
  induction ks with
  | nil => intro acc _; exact ⟨fun y hy => by simpa [varsP] using hy, fun k hk => by simp at hk⟩
  | cons x q ih =>
   intro acc hq
   have h1 := ih (addV acc x.name) fun k hk => hq k (by simp [hk])
   rw [show varsP acc (x :: q) = varsP (addV acc x.name) q from rfl]
   refine ⟨fun y hy => h1.1 y (addV_sub hy), fun k hk ha => ?_⟩
   rcases List.mem_cons.1 hk with rfl | hk
   ·rcases hq k (by simp) with ⟨e, _⟩ | ⟨_, e⟩
    ·exact h1.1 _ (vars_mem e)
    ·rw [ha] at e; simp at e
   ·exact h1.2 k hk ha
 exact (key (preL l) ns hk).2
theorem varsP_two (ns : List ByteArray) (a b : Tm) : varsP ns (preL [arT a b]) = varsP (varsP ns (preL [a])) (preL [b]) := by
 have h : varB ⟨#[102]⟩ = false := by decide
 have e : preL [arT a b] = ⟨⟨#[102]⟩, [a, b]⟩ :: (preL [a] ++ preL [b]) := by
  have h1 : preL [a, b] = preL [a] ++ preL [b] := by
   have := preL_append [a] [b]
   simpa using this
  simp only [arT, preL, h1, List.append_nil]
 rw [e, show varsP ns (⟨⟨#[102]⟩, [a, b]⟩ :: (preL [a] ++ preL [b])) = varsP (addV ns ⟨#[102]⟩) (preL [a] ++ preL [b]) from rfl, addV_no h, varsP_append]
theorem varsP_one (ns : List ByteArray) (s : ByteArray) : varsP ns (preL [(⟨s, []⟩ : Tm)]) = addV ns s := by simp [preL, varsP]
theorem ayT_leaf (ns : List ByteArray) (s : ByteArray) : ayT ns ⟨s, []⟩ = ⟨(ixB s ns : Nat), []⟩ := by simp [ayT, ayK]
theorem ayT_ar (ns : List ByteArray) (a b : Tm) : ayT ns (arT a b) = ⟨0, [ayT ns a, ayT ns b]⟩ := by simp [ayT, ayK, arT, ayL_cons, ayL_nil]
theorem kn_look {t : Tm} (h : KnL [t]) : (varB t.name = true ∧ t = ⟨t.name, []⟩) ∨ ∃ a b, t = arT a b ∧ KnL [a] ∧ KnL [b] := by
 obtain ⟨s, l⟩ := t
 obtain ⟨h1, h2⟩ := KnL.one.1 h
 rcases h1 with ⟨e1, e2⟩ | ⟨e1, e2⟩
 ·have e3 : l = [] := e2
  subst e3
  exact Or.inl ⟨e1, rfl⟩
 ·have e3 : s = ⟨#[102]⟩ := e1
  subst e3
  match l, e2, h2 with
  | [a, b], _, h2 =>
   have h3 := KnL.all.1 h2
   exact Or.inr ⟨a, b, rfl, h3 a (by simp), h3 b (by simp)⟩
theorem slT_two {w : World} {X : Nat → Prop} {a : Option Addr} {p r : Tm} (h : Sl w X a [p, r]) :
  ∃ b' o' a1 c1 a2 c2, a = some ⟨b', o', none⟩ ∧ ∀ w' Q, ExQ Q w w' → (∀ b, X b → ¬ Q b) → (w'.cell? ⟨b', o', none⟩ = some (.string p.name) ∧ w'.cell? ⟨b', o' + 1, none⟩ = some (.slice a1 p.args.length c1) ∧ w'.cell? ⟨b', o' + 2, none⟩ = some (.string r.name) ∧ w'.cell? ⟨b', o' + 2 + 1, none⟩ = some (.slice a2 r.args.length c2)) ∧ TV w' X (.agg #[.string p.name, .slice a1 p.args.length c1]) p ∧ TV w' X (.agg #[.string r.name, .slice a2 r.args.length c2]) r := by
 obtain ⟨b1, o1, a1, c1, rfl, d0, d1, ⟨x1, y1, e1, hs1⟩⟩ := h.get (Below.refl w.heap.size w) (fun _ _ h => h) 0 (by simp)
 obtain ⟨b2, o2, a2, c2, e2, d2, d3, ⟨x2, y2, e3, hs2⟩⟩ := h.get (Below.refl w.heap.size w) (fun _ _ h => h) 1 (by simp)
 cases e2
 cases e1
 cases e3
 have hX : X b1 := by
  rcases h.2 with h0 | ⟨b, o, e, hl⟩
  ·simp at h0
  ·cases e
   obtain ⟨s, l⟩ := p
   simp only [Lies] at hl
   exact hl.1
 have hlt : b1 < w.heap.size := by
  apply Classical.byContradiction
  intro hn
  have e : w.heap[b1]? = none := Array.getElem?_eq_none (by omega)
  simp [World.cell?, e] at d0
 refine ⟨b1, o1, a1, c1, a2, c2, rfl, fun w' Q he hQ => ⟨?_, ⟨a1, c1, rfl, hs1.exq he hQ⟩, ⟨a2, c2, rfl, hs2.exq he hQ⟩⟩⟩
 have e : ∀ o, w'.cell? ⟨b1, o, none⟩ = w.cell? ⟨b1, o, none⟩ := fun o => World.cell?_of_block (he.block b1 hlt (hQ b1 hX))
 rw [e, e, e, e]
 exact ⟨by simpa using d0, by simpa using d1, by simpa using d2, by simpa using d3⟩
theorem liesY_two {w : World} {Y : Nat → Prop} {g T c c2 : Nat} {a a2 : Option Addr} {f x : Ty} (hB : Blk w g #[.int .i64 f.base, .slice a f.subs.length c, .int .i64 x.base, .slice a2 x.subs.length c2] T) (hY : Y g) (h1 : SlY w Y a f.subs) (h2 : SlY w Y a2 x.subs) : SlY w Y (some ⟨g, 0, none⟩) [f, x] := by
 obtain ⟨s, l⟩ := f
 obtain ⟨s2, l2⟩ := x
 refine ⟨by simp, Or.inr ⟨g, 0, rfl, ?_⟩⟩
 simp only [LiesY]
 exact ⟨hY, hB.cell 0, ⟨a, c, hB.cell 1, h1⟩, hY, hB.cell 2, ⟨a2, c2, hB.cell 3, h2⟩, trivial⟩
theorem SlY.exq {w w' : World} {Q X : Nat → Prop} {a : Option Addr} {l : List Ty} (h : SlY w X a l) (he : ExQ Q w w') (hX : ∀ b, X b → ¬ Q b) : SlY w' X a l :=
 ((h.mono (Y := fun b => X b ∧ b < w.heap.size) fun b h1 h2 => ⟨h1, h2⟩).kept fun b hb => he.block b hb.2 (hX b hb.1)).mono fun b hb _ => hb.1
theorem MapAt.exq {w w' : World} {Q : Nat → Prop} {r : Nat} {L : List (ByteArray × Value)} (h : MapAt w r L) (he : ExQ Q w w') (hr : ¬ Q r) : MapAt w' r L := h.kept (he.block r h.lt hr)
def NuP (t : Tm) (ns : List ByteArray) (r : Nat) (w : World) (e : Ending) (w' : World) : Prop :=
 ∃ a c, e = .returned (.agg #[.int .i64 (ayT (varsP ns (preL [t])) t).base, .slice a (ayT (varsP ns (preL [t])) t).subs.length c]) ∧ SlY w' (fun b => w.heap.size ≤ b) a (ayT (varsP ns (preL [t])) t).subs ∧ MapAt w' r (nuS 0 (varsP ns (preL [t]))) ∧ ExQ (fun b => b = r) w w'
set_option maxHeartbeats 8000000 in
theorem numbered_any (t : Tm) : ∀ (ns : List ByteArray) (v : Value) (r : Nat) (w : World) (X : Nat → Prop), KnL [t] → TV w X v t → (∀ b, X b → b ≠ r) → MapAt w r (nuS 0 ns) → ns.length + sizeL [t] ≤ 100000 →
  Calls Tryz.prog 26 #[v, .map (some r)] w fun e w' => NuP t ns r w e w' := by
 induction t using Tm.ind with
 | h s0 l0 ih =>
  intro ns v r w X hk hv hX hM hz
  have IH := hide ih
  clear ih
  obtain ⟨a, c, rfl, hs⟩ := hv
  have hMl := hM.lt
  have HX := hide hX
  have B2 : Hid (Below w.heap.size w ((w.alloc (.cells #[.string s0, .slice a l0.length c] 54)).alloc (.cells #[.int .i64 0, .slice none 0 0] 33))) := ((Below.refl _ _).alloc (Nat.le_refl _) _).alloc (by simp) _
  have A2 : Hid (Blk ((w.alloc (.cells #[.string s0, .slice a l0.length c] 54)).alloc (.cells #[.int .i64 0, .slice none 0 0] 33)) w.heap.size #[.string s0, .slice a l0.length c] 54) := (Blk.new _ _ _).alloc _
  have R2 : Hid (Blk ((w.alloc (.cells #[.string s0, .slice a l0.length c] 54)).alloc (.cells #[.int .i64 0, .slice none 0 0] 33)) (w.heap.size + 1) #[.int .i64 0, .slice none 0 0] 33) := by have h := Blk.new (w.alloc (.cells #[.string s0, .slice a l0.length c] 54)) #[.int .i64 0, .slice none 0 0] 33; rw [World.size_alloc] at h; exact h
  have M2 := hide (hM.below B2.out hM.lt)
  rcases kn_look hk with ⟨hvb, ht⟩ | ⟨p, q, ht, hkp, hkq⟩
  ·have hl0 : l0 = [] := by injection ht
   subst hl0
   have hvb' : varB s0 = true := hvb
   clear hk hvb ht hs IH
   simp only [List.length_nil] at *
   go_enter Tryz.func26, Tryz.ntmps26
   go_upto_region 1 with fail
   generalize ((w.alloc (.cells #[.string s0, .slice a 0 c] 54)).alloc (.cells #[.int .i64 0, .slice none 0 0] 33)) = w2 at *
   have x0 := A2.out.c0
   have r0 := R2.out.c0
   have r1 := R2.out.c1
   have f0 : w2.frozen? ⟨w.heap.size + 1, 0, none⟩ = false := R2.out.frozen 0
   have f1 : w2.frozen? ⟨w.heap.size + 1, 1, none⟩ = false := R2.out.frozen 1
   have HV := hide (isVariable_all s0 w2)
   have HVB := hide hvb'
   clear hvb'
   have hgt := nuS_get s0 0 ns
   have hz0 := Tryz.zeroValue3 w2
   by_cases hin : s0 ∈ ns
   ·rw [if_pos (ixB_lt hin)] at hgt
    have HA : Hid (varsP ns (preL [(⟨s0, []⟩ : Tm)]) = ns) := by unfold Hid; rw [varsP_one, addV_in HVB.out (inB_mem1.2 hin)]
    have hix := ixB_lt hin
    have hlook : (Instr.lookup 66 (.map (some r)) (.string s0) true).run Tryz.prog w2 = .ok (.tuple #[.int .i64 ((ixB s0 ns : Nat) : Int), .bool true]) w2 := by rw [run_look (P := Tryz.prog) Tryz.underlying66 Tryz.underlying9 hz0 M2.out _, hgt]; simp
    obtain ⟨k, hkk⟩ : ∃ k, k = ixB s0 ns := ⟨_, rfl⟩
    rw [← hkk] at hlook
    have HK := hide hkk
    clear hkk hgt hz0 hin hix
    go_wp2_with fail
    refine HV.out.mono ?_
    rintro e w3 ⟨rfl, rfl⟩
    rw [HVB.out]
    go_wp2_with fail
    have R3 : Hid (Blk ((w3.setCell ⟨w.heap.size + 1, 0, none⟩ (.int .i64 (k : Int))).setCell ⟨w.heap.size + 1, 1, none⟩ (.slice none 0 0)) (w.heap.size + 1) #[.int .i64 (k : Int), .slice none 0 0] 33) := (R2.out.set 0 _).set 1 _
    have M3 : Hid (MapAt ((w3.setCell ⟨w.heap.size + 1, 0, none⟩ (.int .i64 (k : Int))).setCell ⟨w.heap.size + 1, 1, none⟩ (.slice none 0 0)) r (nuS 0 ns)) := M2.out.kept (by rw [Below.heap_setCell _ _ _ _ (by simp; omega), Below.heap_setCell _ _ _ _ (by simp; omega)])
    have E3 : Hid (ExQ (fun b => b = r) w ((w3.setCell ⟨w.heap.size + 1, 0, none⟩ (.int .i64 (k : Int))).setCell ⟨w.heap.size + 1, 1, none⟩ (.slice none 0 0))) := ((ExQ.ofBelow B2.out).setNew (by omega) 0 _).setNew (by omega) 1 _
    generalize ((w3.setCell ⟨w.heap.size + 1, 0, none⟩ (.int .i64 (k : Int))).setCell ⟨w.heap.size + 1, 1, none⟩ (.slice none 0 0)) = w5 at *
    have c0 := R3.out.cell 0
    have c1 := R3.out.cell 1
    simp only [List.getElem?_toArray, List.getElem?_cons_zero, List.getElem?_cons_succ] at c0 c1
    refine bodyPost_ret (v := .agg #[.int .i64 (k : Int), .slice none 0 0]) (by simp [results, Tryz.results26, go_sem, c0, c1]) rfl ?_
    refine ⟨none, 0, ?_, ?_, ?_, E3.out⟩
    ·rw [HA.out, ayT_leaf, HK.out]; rfl
    ·rw [HA.out, ayT_leaf]; exact ⟨by simp, Or.inl rfl⟩
    ·rw [HA.out]; exact M3.out
   ·rw [if_neg (fun h => hin (ixB_mem h))] at hgt
    have HA : Hid (varsP ns (preL [(⟨s0, []⟩ : Tm)]) = ns ++ [s0]) := by unfold Hid; rw [varsP_one, addV_yes HVB.out (by cases h : inB s0 ns with | true => exact absurd (inB_mem1.1 h) hin | false => rfl)]
    have HK : Hid (ns.length = ixB s0 (ns ++ [s0])) := (ixB_new hin).symm
    have hlook : (Instr.lookup 66 (.map (some r)) (.string s0) true).run Tryz.prog w2 = .ok (.tuple #[.int .i64 0, .bool false]) w2 := by rw [run_look (P := Tryz.prog) Tryz.underlying66 Tryz.underlying9 hz0 M2.out _, hgt]; simp
    have hlen : (Builtin.len_ #[66] 3 #[.map (some r)]).run Tryz.prog w2 = .ok (.int .i64 (ns.length : Int)) w2 := by rw [run_lenI Tryz.underlying66 M2.out, nuS_len]
    obtain ⟨w4, hrun4, hM4, hz4, ho4, ht4, hu4, hkp⟩ := run_put (P := Tryz.prog) Tryz.underlying66 Tryz.underlying9 M2.out s0 (.int .i64 (ns.length : Int)) hgt
    have E4 : Hid (ExQ (fun b => b = r) w w4) := (ExQ.ofBelow B2.out).trans ⟨ho4, ht4, hu4, by omega, fun b _ hn => hkp b hn⟩
    have M4 : Hid (MapAt w4 r (nuS 0 (ns ++ [s0]))) := by unfold Hid; rw [nuS_push, show 0 + ns.length = ns.length by omega]; exact hM4
    have R4 : Hid (Blk w4 (w.heap.size + 1) #[.int .i64 0, .slice none 0 0] 33) := (hkp _ (by omega)).trans R2.out
    have q0 := R4.out.c0
    have q1 := R4.out.c1
    have g0 : w4.frozen? ⟨w.heap.size + 1, 0, none⟩ = false := R4.out.frozen 0
    have g1 : w4.frozen? ⟨w.heap.size + 1, 1, none⟩ = false := R4.out.frozen 1
    obtain ⟨k, hkk⟩ : ∃ k, k = ns.length := ⟨_, rfl⟩
    rw [← hkk] at hlen hrun4 HK
    have hrl : r < w4.heap.size := M4.out.lt
    clear hkk hgt hz0 hin hM4 hz4 ho4 ht4 hu4 hkp
    go_wp2_with fail
    refine HV.out.mono ?_
    rintro e w3 ⟨rfl, hw3⟩
    rw [hw3]
    rw [HVB.out]
    clear hw3
    go_wp2_with fail
    have R3 : Hid (Blk ((w4.setCell ⟨w.heap.size + 1, 0, none⟩ (.int .i64 (k : Int))).setCell ⟨w.heap.size + 1, 1, none⟩ (.slice none 0 0)) (w.heap.size + 1) #[.int .i64 (k : Int), .slice none 0 0] 33) := (R4.out.set 0 _).set 1 _
    have M3 : Hid (MapAt ((w4.setCell ⟨w.heap.size + 1, 0, none⟩ (.int .i64 (k : Int))).setCell ⟨w.heap.size + 1, 1, none⟩ (.slice none 0 0)) r (nuS 0 (ns ++ [s0]))) := M4.out.kept (by rw [Below.heap_setCell _ _ _ _ (by simp; omega), Below.heap_setCell _ _ _ _ (by simp; omega)])
    have E3 : Hid (ExQ (fun b => b = r) w ((w4.setCell ⟨w.heap.size + 1, 0, none⟩ (.int .i64 (k : Int))).setCell ⟨w.heap.size + 1, 1, none⟩ (.slice none 0 0))) := (E4.out.setNew (by omega) 0 _).setNew (by omega) 1 _
    generalize ((w4.setCell ⟨w.heap.size + 1, 0, none⟩ (.int .i64 (k : Int))).setCell ⟨w.heap.size + 1, 1, none⟩ (.slice none 0 0)) = w5 at *
    have c0 := R3.out.cell 0
    have c1 := R3.out.cell 1
    simp only [List.getElem?_toArray, List.getElem?_cons_zero, List.getElem?_cons_succ] at c0 c1
    refine bodyPost_ret (v := .agg #[.int .i64 (k : Int), .slice none 0 0]) (by simp [results, Tryz.results26, go_sem, c0, c1]) rfl ?_
    refine ⟨none, 0, ?_, ?_, ?_, E3.out⟩
    ·rw [HA.out, ayT_leaf, HK.out]; rfl
    ·rw [HA.out, ayT_leaf]; exact ⟨by simp, Or.inl rfl⟩
    ·rw [HA.out]; exact M3.out
  ·injection ht with e1 e2
   subst e1
   subst e2
   obtain ⟨b', o', a1, c1, a2, c2, rfl, hKP⟩ := slT_two hs
   have KP := hide hKP
   clear hKP hs hk
   have hzs : sizeL [(⟨⟨#[102]⟩, [p, q]⟩ : Tm)] = 1 + (sizeL [p] + sizeL [q]) := ar_size p q
   rw [hzs] at hz
   clear hzs
   have IP := hide (IH.out p (by simp))
   have IQ := hide (IH.out q (by simp))
   clear IH
   have e2 : ([p, q] : List Tm).length = 2 := rfl
   rw [e2] at *
   clear e2
   have HVF : Hid (varB ⟨#[102]⟩ = false) := by unfold Hid; decide
   have HVS := hide (varsP_two ns p q)
   have HAY := hide (fun N => ayT_ar N p q)
   change Calls Tryz.prog _ _ _ (fun e w' => NuP (arT p q) ns r w e w')
   go_enter Tryz.func26, Tryz.ntmps26
   go_upto_region 1 with fail
   generalize ((w.alloc (.cells #[.string ⟨#[102]⟩, .slice (some ⟨b', o', none⟩) 2 c] 54)).alloc (.cells #[.int .i64 0, .slice none 0 0] 33)) = w2 at *
   have HV := hide (isVariable_all ⟨#[102]⟩ w2)
   have x0 := A2.out.c0
   have x1 := A2.out.c1
   obtain ⟨⟨y0, y1, y2, y3⟩, hp, hq⟩ := KP.out w2 (fun b => b = r) (ExQ.ofBelow B2.out) HX.out
   go_wp2_with fail
   refine HV.out.mono ?_
   rintro e w3 ⟨rfl, hw3⟩
   rw [hw3, HVF.out]
   clear hw3
   go_wp2_with fail
   refine (IP.out ns _ r w2 X hkp hp HX.out M2.out (by omega)).mono ?_
   rintro e w4 ⟨a4, c4, rfl, hs4, hm4, he4⟩
   obtain ⟨N1, hN1⟩ : ∃ N1, N1 = varsP ns (preL [p]) := ⟨_, rfl⟩
   rw [← hN1] at hs4 hm4 HVS ⊢
   have HP1 : Hid (∀ k ∈ preL [p], k.args = [] → k.name ∈ N1) := by rw [hN1]; exact vars_all [p] hkp ns
   have hNl : N1.length ≤ ns.length + sizeL [p] := by rw [hN1]; have h := varsP_len (preL [p]) ns; rw [preL_length] at h; exact h
   clear hN1
   obtain ⟨TP, hTP⟩ : ∃ TP, TP = ayT N1 p := ⟨_, rfl⟩
   rw [← hTP] at hs4 ⊢
   have HTP := hide hTP
   clear hTP
   have W4 := hide (And.intro hs4 (And.intro hm4 he4))
   clear hs4 hm4 he4 y0 y1 y2 y3 hp hq x0 x1
   have O5 : Hid (Below w4.heap.size w4 (w4.alloc (.cells #[.int .i64 TP.base, .slice a4 TP.subs.length c4] 33))) := (Below.refl _ _).alloc (Nat.le_refl _) _
   have V5 : Hid (Blk (w4.alloc (.cells #[.int .i64 TP.base, .slice a4 TP.subs.length c4] 33)) w4.heap.size #[.int .i64 TP.base, .slice a4 TP.subs.length c4] 33) := Blk.new _ _ _
   have S5 := hide (W4.out.1.later O5.out)
   have M5 := hide (W4.out.2.1.below O5.out W4.out.2.1.lt)
   have E5 : Hid (ExQ (fun b => b = r) w2 (w4.alloc (.cells #[.int .i64 TP.base, .slice a4 TP.subs.length c4] 33))) := W4.out.2.2.trans (ExQ.ofBelow O5.out)
   have A5 := hide (A2.out.exq E5.out (by omega))
   have R5 := hide (R2.out.exq E5.out (by omega))
   have gR : Hid (w.heap.size + 1 < w2.heap.size) := R2.out.lt
   have g24 : Hid (w2.heap.size ≤ w4.heap.size) := W4.out.2.2.size
   clear W4 O5 M2 A2 R2
   go_upto_region 8 with fail
   generalize w4.heap.size = V at *
   generalize w4.alloc (.cells #[.int .i64 TP.base, .slice a4 TP.subs.length c4] 33) = w5 at *
   have HRV : Hid (r < V) := by have h2 := g24.out; have h3 := gR.out; unfold Hid; omega
   have KS : Hid (∀ w', (Blk w' V #[.int .i64 TP.base, .slice a4 TP.subs.length c4] 33 ∧ Blk w' w.heap.size #[.string ⟨#[102]⟩, .slice (some ⟨b', o', none⟩) 2 c] 54 ∧ ExQ (fun b => b = r ∨ b = w.heap.size + 1) w w') → (w'.cell? ⟨V, 0, none⟩ = some (.int .i64 TP.base) ∧ w'.cell? ⟨V, 1, none⟩ = some (.slice a4 TP.subs.length c4)) ∧ w'.cell? ⟨w.heap.size, 1, none⟩ = some (.slice (some ⟨b', o', none⟩) 2 c) ∧ w'.cell? ⟨b', o' + 2, none⟩ = some (.string q.name) ∧ w'.cell? ⟨b', o' + 2 + 1, none⟩ = some (.slice a2 q.args.length c2)) := fun w' h => by
    have h1 := (KP.out w' (fun b => b = r) (h.2.2.mono fun i hi hlt => hi.elim id (fun e => by omega)) HX.out).1
    exact ⟨⟨h.1.cell 0, h.1.cell 1⟩, h.2.1.cell 1, h1.2.2.1, h1.2.2.2⟩
   have EW : Hid (∀ w', ExQ (fun b => b = r) w2 w' → ExQ (fun b => b = r ∨ b = w.heap.size + 1) w w') := fun w' h => ((ExQ.ofBelow B2.out).trans h).mono fun i hi _ => Or.inl hi
   have kd : Blk w5.drew V #[.int .i64 TP.base, .slice a4 TP.subs.length c4] 33 ∧ Blk w5.drew w.heap.size #[.string ⟨#[102]⟩, .slice (some ⟨b', o', none⟩) 2 c] 54 ∧ ExQ (fun b => b = r ∨ b = w.heap.size + 1) w w5.drew := ⟨V5.out, A5.out, (EW.out w5 E5.out).drew⟩
   refine wp_region_held_drew (S := fun w' => Blk w' V #[.int .i64 TP.base, .slice a4 TP.subs.length c4] 33 ∧ Blk w' w.heap.size #[.string ⟨#[102]⟩, .slice (some ⟨b', o', none⟩) 2 c] 54 ∧ ExQ (fun b => b = r ∨ b = w.heap.size + 1) w w') (by kernel_rfl) kd (fun hHeld => ?_)
   refine tkq (v := ?_) 0 rfl ?_ ?_
   rotate_left
   ·intro w' hSw
    obtain ⟨⟨y0, y1⟩, y2, y3, y4⟩ := KS.out w' hSw
    go_simp <;> with_reducible rfl
   try simp only [Act.put, sq]
   refine tkq (v := ?_) 1 rfl ?_ ?_
   rotate_left
   ·intro w' hSw
    go_simp <;> with_reducible rfl
   try simp only [Act.put, sq]
   refine tkq (v := ?_) 2 rfl ?_ ?_
   rotate_left
   ·intro w' hSw
    obtain ⟨⟨y0, y1⟩, y2, y3, y4⟩ := KS.out w' hSw
    go_simp <;> with_reducible rfl
   try simp only [Act.put, sq]
   refine tkq (v := ?_) 3 rfl ?_ ?_
   rotate_left
   ·intro w' hSw
    go_simp <;> with_reducible rfl
   try simp only [Act.put, sq]
   refine tkq (v := ?_) 4 rfl ?_ ?_
   rotate_left
   ·intro w' hSw
    obtain ⟨⟨y0, y1⟩, y2, y3, y4⟩ := KS.out w' hSw
    go_simp <;> with_reducible rfl
   try simp only [Act.put, sq]
   refine tkq (v := ?_) 5 rfl ?_ ?_
   rotate_left
   ·intro w' hSw
    go_simp <;> with_reducible rfl
   try simp only [Act.put, sq]
   refine rdq 6 rfl fun K hK => ?_
   go_simp
   go_at_call 26
   refine (IQ.out N1 _ r w5.drew X hkq (KP.out w5.drew (fun b => b = r) (((ExQ.ofBelow B2.out).trans E5.out).drew) HX.out).2.2 HX.out (M5.out.exq ((ExQ.refl (fun _ => False) w5).drew) (fun h => h)) (by omega)).mono ?_
   rintro e w6 ⟨a6, c6, rfl, hs6, hm6, he6⟩
   obtain ⟨N2, hN2⟩ : ∃ N2, N2 = varsP N1 (preL [q]) := ⟨_, rfl⟩
   rw [← hN2] at hs6 hm6 HVS ⊢
   obtain ⟨rr, hrr⟩ := varsP_pre (preL [q]) N1
   rw [← hN2] at hrr
   have HTP2 : Hid (TP = ayT N2 p) := by unfold Hid; rw [HTP.out, hrr, ayT_ext rr HP1.out]
   clear hN2 hrr
   obtain ⟨TQ, hTQ⟩ : ∃ TQ, TQ = ayT N2 q := ⟨_, rfl⟩
   rw [← hTQ] at hs6 ⊢
   have HTQ := hide hTQ
   clear hTQ
   have E6 : Hid (ExQ (fun b => b = r) w2 w6) := (E5.out.drew).trans he6
   have V6 : Hid (Blk w6 V #[.int .i64 TP.base, .slice a4 TP.subs.length c4] 33) := (show Blk w5.drew V #[.int .i64 TP.base, .slice a4 TP.subs.length c4] 33 from V5.out).exq he6 (fun e => by have h1 := HRV.out; omega)
   have A6 : Hid (Blk w6 w.heap.size #[.string ⟨#[102]⟩, .slice (some ⟨b', o', none⟩) 2 c] 54) := (show Blk w5.drew w.heap.size #[.string ⟨#[102]⟩, .slice (some ⟨b', o', none⟩) 2 c] 54 from A5.out).exq he6 (by omega)
   have R6 : Hid (Blk w6 (w.heap.size + 1) #[.int .i64 0, .slice none 0 0] 33) := (show Blk w5.drew (w.heap.size + 1) #[.int .i64 0, .slice none 0 0] 33 from R5.out).exq he6 (by omega)
   have SP6 : Hid (SlY w6 (fun b => w2.heap.size ≤ b) a4 TP.subs) := (S5.out.later ((Below.refl _ _).drew)).exq he6 (fun b hb e => by have h1 := gR.out; omega)
   have SQ6 : Hid (SlY w6 (fun b => w2.heap.size ≤ b) a6 TQ.subs) := hs6.mono fun b hb _ => Nat.le_trans E5.out.size hb
   have M6 := hide hm6
   have k6 : Blk w6 V #[.int .i64 TP.base, .slice a4 TP.subs.length c4] 33 ∧ Blk w6 w.heap.size #[.string ⟨#[102]⟩, .slice (some ⟨b', o', none⟩) 2 c] 54 ∧ ExQ (fun b => b = r ∨ b = w.heap.size + 1) w w6 := ⟨V6.out, A6.out, EW.out w6 E6.out⟩
   clear hs6 hm6 he6 S5 M5 V5 A5 R5
   go_simp
   refine hK.out _ _ (by exact k6) (fun hHeld => ?_)
   clear hK K
   try simp only [Act.put, sq]
   have k7 : Blk (w6.alloc (.cells #[.int .i64 TP.base, .slice a4 TP.subs.length c4, .int .i64 TQ.base, .slice a6 TQ.subs.length c6] 33)) V #[.int .i64 TP.base, .slice a4 TP.subs.length c4] 33 ∧ Blk (w6.alloc (.cells #[.int .i64 TP.base, .slice a4 TP.subs.length c4, .int .i64 TQ.base, .slice a6 TQ.subs.length c6] 33)) w.heap.size #[.string ⟨#[102]⟩, .slice (some ⟨b', o', none⟩) 2 c] 54 ∧ ExQ (fun b => b = r ∨ b = w.heap.size + 1) w (w6.alloc (.cells #[.int .i64 TP.base, .slice a4 TP.subs.length c4, .int .i64 TQ.base, .slice a6 TQ.subs.length c6] 33)) := ⟨k6.1.alloc _, k6.2.1.alloc _, k6.2.2.alloc _⟩
   have C7 : Hid (Blk (w6.alloc (.cells #[.int .i64 TP.base, .slice a4 TP.subs.length c4, .int .i64 TQ.base, .slice a6 TQ.subs.length c6] 33)) w6.heap.size #[.int .i64 TP.base, .slice a4 TP.subs.length c4, .int .i64 TQ.base, .slice a6 TQ.subs.length c6] 33) := Blk.new _ _ _
   have O7 : Hid (Below w6.heap.size w6 (w6.alloc (.cells #[.int .i64 TP.base, .slice a4 TP.subs.length c4, .int .i64 TQ.base, .slice a6 TQ.subs.length c6] 33))) := (Below.refl _ _).alloc (Nat.le_refl _) _
   refine rdq 7 rfl fun K hK => ?_
   go_simp
   refine hK.out _ _ (by exact k7) (fun hHeld => ?_)
   clear hK K
   try simp only [Act.put, sq]
   refine tkq (v := ?_) 8 rfl ?_ ?_
   rotate_left
   ·intro w' hSw
    go_simp <;> with_reducible rfl
   try simp only [Act.put, sq]
   have R7 := hide (R6.out.below O7.out R6.out.lt)
   have M7 := hide (M6.out.below O7.out M6.out.lt)
   have SP7 := hide (SP6.out.later O7.out)
   have SQ7 := hide (SQ6.out.later O7.out)
   have E7 : Hid (ExQ (fun b => b = r) w2 (w6.alloc (.cells #[.int .i64 TP.base, .slice a4 TP.subs.length c4, .int .i64 TQ.base, .slice a6 TQ.subs.length c6] 33))) := E6.out.trans (ExQ.ofBelow O7.out)
   have g67 : Hid (w2.heap.size ≤ w6.heap.size) := E6.out.size
   generalize w6.alloc (.cells #[.int .i64 TP.base, .slice a4 TP.subs.length c4, .int .i64 TQ.base, .slice a6 TQ.subs.length c6] 33) = w7 at *
   generalize w6.heap.size = G at *
   have r0 := R7.out.c0
   have r1 := R7.out.c1
   have f0 : w7.frozen? ⟨w.heap.size + 1, 0, none⟩ = false := R7.out.frozen 0
   have f1 : w7.frozen? ⟨w.heap.size + 1, 1, none⟩ = false := R7.out.frozen 1
   have k8 : Blk ((w7.setCell ⟨w.heap.size + 1, 0, none⟩ (.int .i64 0)).setCell ⟨w.heap.size + 1, 1, none⟩ (.slice (some ⟨G, 0, none⟩) 2 2)) V #[.int .i64 TP.base, .slice a4 TP.subs.length c4] 33 ∧ Blk ((w7.setCell ⟨w.heap.size + 1, 0, none⟩ (.int .i64 0)).setCell ⟨w.heap.size + 1, 1, none⟩ (.slice (some ⟨G, 0, none⟩) 2 2)) w.heap.size #[.string ⟨#[102]⟩, .slice (some ⟨b', o', none⟩) 2 c] 54 ∧ ExQ (fun b => b = r ∨ b = w.heap.size + 1) w ((w7.setCell ⟨w.heap.size + 1, 0, none⟩ (.int .i64 0)).setCell ⟨w.heap.size + 1, 1, none⟩ (.slice (some ⟨G, 0, none⟩) 2 2)) := ⟨(k7.1.setOther 0 _ (by have h1 := gR.out; have h2 := g24.out; omega)).setOther 1 _ (by have h1 := gR.out; have h2 := g24.out; omega), (k7.2.1.setOther 0 _ (by omega)).setOther 1 _ (by omega), (k7.2.2.set (Or.inr rfl) 0 _).set (Or.inr rfl) 1 _⟩
   refine rdq 9 rfl fun K hK => ?_
   go_simp
   refine hK.out _ _ (by exact k8) (fun hHeld => ?_)
   clear hK K
   try simp only [Act.put, sq]
   refine wpAnyH_done (by kernel_rfl) ?_ _
   have R8 : Hid (Blk ((w7.setCell ⟨w.heap.size + 1, 0, none⟩ (.int .i64 0)).setCell ⟨w.heap.size + 1, 1, none⟩ (.slice (some ⟨G, 0, none⟩) 2 2)) (w.heap.size + 1) #[.int .i64 0, .slice (some ⟨G, 0, none⟩) 2 2] 33) := (R7.out.set 0 _).set 1 _
   have M8 : Hid (MapAt ((w7.setCell ⟨w.heap.size + 1, 0, none⟩ (.int .i64 0)).setCell ⟨w.heap.size + 1, 1, none⟩ (.slice (some ⟨G, 0, none⟩) 2 2)) r (nuS 0 N2)) := M7.out.kept (by rw [Below.heap_setCell _ _ _ _ (by simp; omega), Below.heap_setCell _ _ _ _ (by simp; omega)])
   have E8 : Hid (ExQ (fun b => b = r) w ((w7.setCell ⟨w.heap.size + 1, 0, none⟩ (.int .i64 0)).setCell ⟨w.heap.size + 1, 1, none⟩ (.slice (some ⟨G, 0, none⟩) 2 2))) := ((((ExQ.ofBelow B2.out).trans E7.out).setNew (by omega) 0 _).setNew (by omega) 1 _)
   have SE : Hid (∀ (x : Option Addr) (l : List Ty), SlY w7 (fun b => w2.heap.size ≤ b) x l → SlY ((w7.setCell ⟨w.heap.size + 1, 0, none⟩ (.int .i64 0)).setCell ⟨w.heap.size + 1, 1, none⟩ (.slice (some ⟨G, 0, none⟩) 2 2)) (fun b => w2.heap.size ≤ b) x l) := fun x l h => h.kept fun b hb => by have h1 := gR.out; rw [Below.heap_setCell _ _ _ _ (by simp; omega), Below.heap_setCell _ _ _ _ (by simp; omega)]
   have S8 : Hid (SlY ((w7.setCell ⟨w.heap.size + 1, 0, none⟩ (.int .i64 0)).setCell ⟨w.heap.size + 1, 1, none⟩ (.slice (some ⟨G, 0, none⟩) 2 2)) (fun b => w.heap.size ≤ b) (some ⟨G, 0, none⟩) [TP, TQ]) := liesY_two ((C7.out.setOther 0 _ (by have h1 := gR.out; have h2 := g67.out; omega)).setOther 1 _ (by have h1 := gR.out; have h2 := g67.out; omega)) (by have h1 := gR.out; have h2 := g67.out; omega) ((SE.out _ _ SP7.out).mono fun b hb _ => by have h1 := gR.out; omega) ((SE.out _ _ SQ7.out).mono fun b hb _ => by have h1 := gR.out; omega)
   generalize ((w7.setCell ⟨w.heap.size + 1, 0, none⟩ (.int .i64 0)).setCell ⟨w.heap.size + 1, 1, none⟩ (.slice (some ⟨G, 0, none⟩) 2 2)) = w8 at *
   clear r0 r1 f0 f1
   go_wp2_with fail
   have c0 := R8.out.cell 0
   have c1 := R8.out.cell 1
   simp only [List.getElem?_toArray, List.getElem?_cons_zero, List.getElem?_cons_succ] at c0 c1
   refine bodyPost_ret (v := .agg #[.int .i64 0, .slice (some ⟨G, 0, none⟩) 2 2]) (by simp [results, Tryz.results26, go_sem, c0, c1]) rfl ?_
   refine ⟨some ⟨G, 0, none⟩, 2, ?_, ?_, ?_, E8.out⟩
   ·rw [HVS.out, HAY.out]; rfl
   ·rw [HVS.out, HAY.out]; rw [← HTP2.out, ← HTQ.out]; exact S8.out
   ·rw [HVS.out]; exact M8.out
def flatP : List Pr → List Tm
 | [] => []
 | p :: l => p.l :: p.r :: flatP l
theorem flatP_append : ∀ a b : List Pr, flatP (a ++ b) = flatP a ++ flatP b
 | [], b => rfl
 | p :: a, b => by rw [List.cons_append, flatP, flatP, flatP_append a b]; rfl
theorem size_cons (t : Tm) (r : List Tm) : sizeL (t :: r) = sizeL [t] + sizeL r := by
 obtain ⟨s, l⟩ := t
 simp [sizeL]
theorem err_two {t : Tm} {r : List Tm} : errL (t :: r) = 0 ↔ errL [t] = 0 ∧ errL r = 0 := by
 rw [errL_cons]
 constructor
 ·intro h
  by_cases e : errL [t] = 0
  ·rw [if_pos e] at h; exact ⟨e, h⟩
  ·rw [if_neg e] at h; exact absurd h e
 ·rintro ⟨h1, h2⟩
  rw [if_pos h1]; exact h2
theorem err_append : ∀ {a b : List Tm}, errL (a ++ b) = 0 ↔ errL a = 0 ∧ errL b = 0
 | [], b => by simp [errL]
 | t :: a, b => by
  rw [List.cons_append, err_two, err_append, err_two (r := a), and_assoc]
theorem zip_occ {y : ByteArray} : ∀ {a b : List Tm}, occL y (flatP (zipP a b)) → occL y a ∨ occL y b
 | [], _, h => by simp only [zipP, flatP] at h; exact absurd h occL_nil
 | _ :: _, [], h => by simp only [zipP, flatP] at h; exact absurd h occL_nil
 | t :: a, u :: b, h => by
  rw [zipP, flatP, occL_cons, occL_cons (t := u)] at h
  rw [occL_cons, occL_cons (t := u)]
  rcases h with h | h | h
  ·exact Or.inl (Or.inl h)
  ·exact Or.inr (Or.inl h)
  ·rcases zip_occ h with h | h
   ·exact Or.inl (Or.inr h)
   ·exact Or.inr (Or.inr h)
theorem zip_err : ∀ {a b : List Tm}, errL a = 0 → errL b = 0 → errL (flatP (zipP a b)) = 0
 | [], _, _, _ => by simp [zipP, flatP, errL]
 | _ :: _, [], _, _ => by simp [zipP, flatP, errL]
 | t :: a, u :: b, h1, h2 => by
  rw [zipP, flatP]
  obtain ⟨g1, g2⟩ := err_two.1 h1
  obtain ⟨g3, g4⟩ := err_two.1 h2
  exact err_two.2 ⟨g1, err_two.2 ⟨g3, zip_err g2 g4⟩⟩
def occB (y : ByteArray) (l : List Tm) : Bool := (preL l).any fun k => k.name.toList == y.toList
theorem occB_iff {y : ByteArray} {l : List Tm} : occB y l = true ↔ occL y l := by
 unfold occB occL
 rw [List.any_eq_true]
 constructor
 ·rintro ⟨k, hk, e⟩
  exact ⟨k, hk, bytes_inj (by simpa using e)⟩
 ·rintro ⟨k, hk, e⟩
  exact ⟨k, hk, bytes_yes e⟩
theorem filter_le {α : Type} {p q : α → Bool} : ∀ V : List α, (∀ y ∈ V, q y = true → p y = true) → (V.filter q).length ≤ (V.filter p).length
 | [], _ => by simp
 | v :: V, h => by
  have ih := filter_le V fun y hy => h y (by simp [hy])
  cases hq : q v with
  | true =>
   rw [List.filter_cons_of_pos hq, List.filter_cons_of_pos (h v (by simp) hq)]
   simp only [List.length_cons]
   omega
  | false =>
   rw [List.filter_cons_of_neg (by rw [hq]; simp)]
   cases hp : p v with
   | true => rw [List.filter_cons_of_pos hp]; simp only [List.length_cons]; omega
   | false => rw [List.filter_cons_of_neg (by rw [hp]; simp)]; exact ih
theorem filter_lt {α : Type} {p q : α → Bool} : ∀ V : List α, (∀ y ∈ V, q y = true → p y = true) → (∃ x ∈ V, p x = true ∧ q x = false) → (V.filter q).length < (V.filter p).length
 | [], _, ⟨x, hx, _⟩ => by cases hx
 | v :: V, h, ⟨x, hx, h1, h2⟩ => by
  have hle := filter_le V fun y hy => h y (by simp [hy])
  rcases List.mem_cons.1 hx with rfl | hx
  ·rw [List.filter_cons_of_neg (by rw [h2]; simp), List.filter_cons_of_pos h1]
   simp only [List.length_cons]
   omega
  ·have ih := filter_lt V (fun y hy => h y (by simp [hy])) ⟨x, hx, h1, h2⟩
   cases hq : q v with
   | true =>
    rw [List.filter_cons_of_pos hq, List.filter_cons_of_pos (h v (by simp) hq)]
    simp only [List.length_cons]
    omega
   | false =>
    rw [List.filter_cons_of_neg (by rw [hq]; simp)]
    cases hp : p v with
    | true => rw [List.filter_cons_of_pos hp]; simp only [List.length_cons]; omega
    | false => rw [List.filter_cons_of_neg (by rw [hp]; simp)]; exact ih
theorem not_inB {x : ByteArray} {t : Tm} (hx : varB x = true) (h : ¬ inB x (varsP [] (preL [t])) = true) : ¬ occL x [t] := by
 rintro ⟨k, hk, e⟩
 have h1 := (varsP_has (preL [t]) []).2 k hk (by rw [e]; exact hx)
 refine h ?_
 unfold inB
 rw [List.any_eq_true]
 exact ⟨k.name, h1, bytes_yes e⟩
theorem bind_facts {s : List Bd} {L : List Tm} {x : ByteArray} {t : Tm} (h : OkS s) (hx : varB x = true) (hn : ∀ d ∈ s, d.nm ≠ x) (he : errL [t] = 0) (ht : ∀ e ∈ s, ¬ occL e.nm [t]) (ho : ¬ occL x [t]) (hL : errL L = 0) :
  OkS (addS s x t) ∧ (∀ y, varB y = true → occL y (onL (addS s x t) L) → occL y (onL s L) ∨ occL y [t]) ∧ ¬ occL x (onL (addS s x t) L) := by
 have h1 := h.add hx hn he ht ho
 have h2 := add_on h hx hn h1 L hL
 have key : ∀ y, varB y = true → occL y (onL (addS s x t) L) → (occL y (onL s L) ∧ forT [⟨x, t⟩] y = none) ∨ occL y [t] := fun y hy hoc => by
  rw [h2] at hoc
  rcases occ_on (one_vars hx) hy _ (errL_on2 h L hL) hoc with h3 | ⟨d, hd, _, h4⟩
  ·exact Or.inl h3
  ·have e : d = ⟨x, t⟩ := by simpa using hd
   rw [e] at h4
   exact Or.inr h4
 refine ⟨h1, fun y hy hoc => (key y hy hoc).imp (fun h => h.1) id, fun hoc => ?_⟩
 rcases key x hx hoc with ⟨_, h3⟩ | h3
 ·simp [forT] at h3
 ·exact ho h3
def sAt (h : List (ByteArray × Tm)) : List Bd := h.foldl (fun s p => addS s p.1 p.2) []
theorem sAt_snoc (h : List (ByteArray × Tm)) (p : ByteArray × Tm) : sAt (h ++ [p]) = addS (sAt h) p.1 p.2 := by simp [sAt]
theorem sAt_take {h : List (ByteArray × Tm)} {j : Nat} (hj : j < h.length) : sAt (h.take (j + 1)) = addS (sAt (h.take j)) h[j].1 h[j].2 := by
 rw [List.take_succ_eq_append_getElem hj, sAt_snoc]
def MayAdd (s : List Bd) (x : ByteArray) (t : Tm) : Prop := varB x = true ∧ (∀ d ∈ s, d.nm ≠ x) ∧ errL [t] = 0 ∧ (∀ e ∈ s, ¬ occL e.nm [t]) ∧ ¬ occL x [t]
def GoodH (h : List (ByteArray × Tm)) : Prop := ∀ j (hj : j < h.length), MayAdd (sAt (h.take j)) h[j].1 h[j].2
theorem goodH_nil : GoodH [] := fun j hj => by simp at hj
theorem GoodH.snoc {h : List (ByteArray × Tm)} (g : GoodH h) {x : ByteArray} {t : Tm} (m : MayAdd (sAt h) x t) : GoodH (h ++ [(x, t)]) := by
 intro j hj
 by_cases e : j < h.length
 ·have h1 := g j e
  rw [List.take_append_of_le_length (by omega)]
  rw [List.getElem_append_left e]
  exact h1
 ·have e2 : j = h.length := by simp at hj; omega
  subst e2
  rw [List.take_append_of_le_length (by omega), List.take_length]
  simpa using m
theorem GoodH.ok {h : List (ByteArray × Tm)} (g : GoodH h) : ∀ j, j ≤ h.length → OkS (sAt (h.take j))
 | 0, _ => by simpa [sAt] using okS_nil
 | j + 1, hj => by
  rw [sAt_take (by omega)]
  obtain ⟨m1, m2, m3, m4, m5⟩ := g j (by omega)
  exact (g.ok j (by omega)).add m1 m2 m3 m4 m5
theorem GoodH.all {h : List (ByteArray × Tm)} (g : GoodH h) : OkS (sAt h) := by
 have := g.ok h.length (Nat.le_refl _)
 rwa [List.take_length] at this
theorem GoodH.absorb {h : List (ByteArray × Tm)} (g : GoodH h) {i : Nat} : ∀ j, i ≤ j → j ≤ h.length → ∀ L : List Tm, errL L = 0 → onL (sAt (h.take j)) (onL (sAt (h.take i)) L) = onL (sAt (h.take j)) L
 | 0, hi, _, L, he => by
  have e : i = 0 := by omega
  subst e
  exact (g.ok 0 (Nat.zero_le _)).idem he
 | j + 1, hi, hj, L, he => by
  by_cases e : i = j + 1
  ·subst e
   exact (g.ok _ hj).idem he
  ·have ih := g.absorb (i := i) j (by omega) (by omega) L he
   have o1 := g.ok j (by omega)
   have o2 := g.ok (j + 1) hj
   have hjl2 : j < h.length := by omega
   obtain ⟨m1, m2, _⟩ := g j hjl2
   rw [sAt_take (h := h) (j := j) (by omega)] at o2 ⊢
   rw [add_on o1 m1 m2 o2 _ (errL_on2 (g.ok i (by omega)) L he), add_on o1 m1 m2 o2 L he, ih]
theorem GoodH.bound {h : List (ByteArray × Tm)} (g : GoodH h) : ∀ j, j ≤ h.length → ∀ y, (∃ d ∈ sAt (h.take j), d.nm = y) ↔ ∃ i, ∃ hi : i < h.length, i < j ∧ h[i].1 = y
 | 0, _, y => by simp [sAt]
 | j + 1, hj, y => by
  have ih := g.bound j (by omega) y
  rw [sAt_take (by omega)]
  have hp := srtB_perm ((sAt (h.take j)).map (putB h[j].1 h[j].2) ++ [⟨h[j].1, h[j].2⟩])
  constructor
  ·rintro ⟨d, hd, e⟩
   rcases List.mem_append.1 (hp.subset hd) with hd | hd
   ·obtain ⟨d0, h0, rfl⟩ := List.mem_map.1 hd
    obtain ⟨i, hi, h1, h2⟩ := ih.1 ⟨d0, h0, e⟩
    exact ⟨i, hi, by omega, h2⟩
   ·have e2 : d = ⟨h[j].1, h[j].2⟩ := by simpa using hd
    rw [e2] at e
    exact ⟨j, by omega, by omega, e⟩
  ·rintro ⟨i, hi, h1, h2⟩
   by_cases e : i = j
   ·subst e
    exact ⟨⟨h[i].1, h[i].2⟩, hp.symm.subset (by simp), h2⟩
   ·obtain ⟨d0, h0, e0⟩ := ih.2 ⟨i, hi, by omega, h2⟩
    exact ⟨putB h[j].1 h[j].2 d0, hp.symm.subset (List.mem_append.2 (Or.inl (List.mem_map.2 ⟨d0, h0, rfl⟩))), e0⟩
theorem GoodH.once {h : List (ByteArray × Tm)} (g : GoodH h) {i j : Nat} (hi : i < h.length) (hj : j < h.length) (e : h[i].1 = h[j].1) : i = j := by
 have key : ∀ a b (ha : a < h.length) (hb : b < h.length), a < b → h[a].1 ≠ h[b].1 := fun a b ha hb hab e => by
  obtain ⟨d, hd, e1⟩ := (g.bound b (by omega) h[a].1).2 ⟨a, ha, hab, rfl⟩
  exact (g b hb).2.1 d hd (e1.trans e)
 rcases Nat.lt_trichotomy i j with h1 | h1 | h1
 ·exact absurd e (key i j hi hj h1)
 ·exact h1
 ·exact absurd e.symm (key j i hj hi h1)
def stood (h : List (ByteArray × Tm)) (i j : Nat) (hi : i < h.length) : Tm := onT (sAt (h.take j)) ⟨h[i].1, []⟩
theorem onT_absorb {h : List (ByteArray × Tm)} (g : GoodH h) {i j : Nat} (hij : i ≤ j) (hj : j ≤ h.length) {t : Tm} (he : errL [t] = 0) : onT (sAt (h.take j)) (onT (sAt (h.take i)) t) = onT (sAt (h.take j)) t := by
 have h1 := g.absorb j hij hj [t] he
 rw [onL_cons, onL_cons, onL_cons] at h1
 simpa [onL] using h1
theorem stood_on {h : List (ByteArray × Tm)} (g : GoodH h) {i j : Nat} (hi : i < h.length) (hj : j ≤ h.length) (hn : nameB h[i].1 = true) : onT (sAt h) (stood h i j hi) = stood h i h.length hi := by
 have h1 := onT_absorb g hj (Nat.le_refl _) (err_leaf hn)
 unfold stood
 rw [List.take_length] at h1 ⊢
 exact h1
theorem stood_later {h : List (ByteArray × Tm)} (g : GoodH h) {i j k : Nat} (hi : i < h.length) (hj : j ≤ h.length) (hn : nameB h[i].1 = true) (hk : k < h.length) (ho : occL h[k].1 [stood h i j hi]) : j ≤ k := by
 rcases Nat.lt_or_ge k j with h1 | h1
 ·obtain ⟨d, hd, e⟩ := (g.bound j hj h[k].1).2 ⟨k, hk, h1, rfl⟩
  have h2 := (g.ok j hj).goneT (err_leaf hn) d hd
  rw [e] at h2
  exact absurd ho h2
 ·exact h1
end Go.Proofs.YtkpkjbfnpocdgaaGreatDoor
