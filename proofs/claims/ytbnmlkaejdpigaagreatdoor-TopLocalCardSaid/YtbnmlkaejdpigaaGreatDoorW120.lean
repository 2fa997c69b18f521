import Derived.Test.YtbnmlkaejdpigaaGreatDoorW114
import Derived.Test.YtbnmlkaejdpigaaGreatDoorW35
namespace Go.Proofs.YtbnmlkaejdpigaaGreatDoor
open Go.RowKit
set_option linter.unusedSimpArgs false
set_option linter.unusedVariables false
set_option maxRecDepth 8000
def fT1 : Tm := ⟨⟨#[102]⟩, [⟨⟨#[97]⟩, []⟩, ⟨⟨#[88]⟩, []⟩]⟩
def fT2 : Tm := ⟨⟨#[102]⟩, [⟨⟨#[89]⟩, []⟩, ⟨⟨#[98]⟩, []⟩]⟩
theorem fact_run : uRun false 4 [] [⟨fT1, fT2⟩] = some (0, [⟨⟨#[88]⟩, ⟨⟨#[98]⟩, []⟩⟩, ⟨⟨#[89]⟩, ⟨⟨#[97]⟩, []⟩⟩]) := by
 have v1 : varB ⟨#[102]⟩ = false := by decide
 have v2 : varB ⟨#[97]⟩ = false := by decide
 have v3 : varB ⟨#[98]⟩ = false := by decide
 have v4 : varB ⟨#[88]⟩ = true := by decide
 have v5 : varB ⟨#[89]⟩ = true := by decide
 have l1 : ltB ⟨#[89]⟩ ⟨#[88]⟩ = false := by unfold ltB; rw [ByteArray.toList_eq, ByteArray.toList_eq]; simp [Op.bytesLess]
 have l2 : ltB ⟨#[88]⟩ ⟨#[89]⟩ = true := by unfold ltB; rw [ByteArray.toList_eq, ByteArray.toList_eq]; simp [Op.bytesLess]
 have w1 : varsP [] [⟨⟨#[97]⟩, []⟩] = [] := by decide
 have w2 : varsP [] [⟨⟨#[98]⟩, []⟩] = [] := by decide
 simp [uRun, uNext, uPair, uBind, onT, onL, onN, fT1, fT2, zipP, sizeL, forT, inB, preL, srtB, insB, putB, v1, v2, v3, v4, v5, l1, l2, w1, w2]
theorem fact_may : pairsE [⟨fT1, fT2⟩] = 0 := by
 have v1 : varB ⟨#[102]⟩ = false := by decide
 have n1 : nameB ⟨#[102]⟩ = true := by decide
 have n2 : nameB ⟨#[97]⟩ = true := by decide
 have n3 : nameB ⟨#[98]⟩ = true := by decide
 have n4 : nameB ⟨#[88]⟩ = true := by decide
 have n5 : nameB ⟨#[89]⟩ = true := by decide
 simp [pairsE, pmT, twoE, mayE, fT1, fT2, sizeL, errL, v1, n1, n2, n3, n4, n5]
theorem fact_rd1 : (rdAll ⟨#[102, 40, 97, 44, 88, 41]⟩).err = 0 ∧ (rdAll ⟨#[102, 40, 97, 44, 88, 41]⟩).t = fT1 := by
 constructor <;> kernel_rfl
theorem fact_rd2 : (rdAll ⟨#[102, 40, 89, 44, 98, 41]⟩).err = 0 ∧ (rdAll ⟨#[102, 40, 89, 44, 98, 41]⟩).t = fT2 := by
 constructor <;> kernel_rfl
theorem qv_one {w : World} {B T : Nat} {l r : Tm} {a1 a2 : Option Addr} {c1 c2 : Nat} (h : Blk w B #[.string l.name, .slice a1 l.args.length c1, .string r.name, .slice a2 r.args.length c2] T) (h1 : Sl w (fun _ => True) a1 l.args) (h2 : Sl w (fun _ => True) a2 r.args) : QV w (fun _ => True) (.slice (some ⟨B, 0, none⟩) 1 1) [⟨l, r⟩] := by
 refine ⟨some ⟨B, 0, none⟩, 1, rfl, by simp, Or.inr ⟨B, 0, rfl, trivial, fun i hi => ?_⟩⟩
 have e : i = 0 := by simp at hi; omega
 subst e
 exact ⟨a1, c1, a2, c2, h.cell 0, h.cell 1, h.cell 2, h.cell 3, h1, h2⟩
set_option maxHeartbeats 3000000 in
theorem fact_any (w : World) : Calls Tryz.prog 8 #[] w fun e w' => e = .returned (.bool true) ∧ Below w.heap.size w w' := by
 have PA : ∀ w0, Calls Tryz.prog 15 #[.string ⟨#[102, 40, 97, 44, 88, 41]⟩] w0 fun e w' => ∃ a c, e = .returned (.tuple #[.agg #[.string ⟨#[102]⟩, .slice a 2 c], .int .i64 0]) ∧ Sl w' (fun _ => True) a fT1.args ∧ Below w0.heap.size w0 w' := fun w0 => by
  refine (parse_any _ w0).mono ?_
  rintro e w1 ⟨v, rfl, h1, _, hb⟩
  obtain ⟨a, c, rfl, hs⟩ := h1 fact_rd1.1
  rw [fact_rd1.1]
  rw [fact_rd1.2] at hs ⊢
  exact ⟨a, c, rfl, hs.mono fun _ _ _ => trivial, hb⟩
 have PB : ∀ w0, Calls Tryz.prog 15 #[.string ⟨#[102, 40, 89, 44, 98, 41]⟩] w0 fun e w' => ∃ a c, e = .returned (.tuple #[.agg #[.string ⟨#[102]⟩, .slice a 2 c], .int .i64 0]) ∧ Sl w' (fun _ => True) a fT2.args ∧ Below w0.heap.size w0 w' := fun w0 => by
  refine (parse_any _ w0).mono ?_
  rintro e w1 ⟨v, rfl, h1, _, hb⟩
  obtain ⟨a, c, rfl, hs⟩ := h1 fact_rd2.1
  rw [fact_rd2.1]
  rw [fact_rd2.2] at hs ⊢
  exact ⟨a, c, rfl, hs.mono fun _ _ _ => trivial, hb⟩
 have HPA := hide PA
 have HPB := hide PB
 clear PA PB
 go_enter Tryz.func8, Tryz.ntmps8
 go_wp2_with fail
 refine (HPA.out w).mono ?_
 rintro e w1 ⟨a1, c1, rfl, hs1, hb1⟩
 have HS1 := hide hs1
 have HB1 := hide hb1
 clear hs1 hb1
 have hbA : Below w1.heap.size w1 (w1.alloc (.cells #[.string ⟨#[102]⟩, .slice a1 2 c1] 32)) := (Below.refl _ _).alloc (Nat.le_refl _) _
 have A2 := hide (Blk.new w1 #[.string ⟨#[102]⟩, .slice a1 2 c1] 32)
 have S2 := hide (HS1.out.later hbA)
 have HB2 := hide (HB1.out.trans (hbA.mono HB1.out.size))
 clear hbA
 go_wp2_with fail
 generalize w1.alloc (.cells #[.string ⟨#[102]⟩, .slice a1 2 c1] 32) = w2 at *
 generalize w1.heap.size = A at *
 refine (HPB.out w2).mono ?_
 rintro e w3 ⟨a3, c3, rfl, hs3, hb3⟩
 have hbA : Below w3.heap.size w3 (w3.alloc (.cells #[.string ⟨#[102]⟩, .slice a3 2 c3] 32)) := (Below.refl _ _).alloc (Nat.le_refl _) _
 have hb4 := hb3.trans (hbA.mono hb3.size)
 have B4 := hide (Blk.new w3 #[.string ⟨#[102]⟩, .slice a3 2 c3] 32)
 have A4 := hide (A2.out.below hb4 A2.out.lt)
 have S4 := hide (S2.out.later hb4)
 have T4 := hide (hs3.later hbA)
 have HB4 := hide (HB2.out.trans (hb4.mono HB2.out.size))
 clear hbA hb3 hs3 hb4
 have p0 := A4.out.cell 0
 have p1 := A4.out.cell 1
 have q0 := B4.out.cell 0
 have q1 := B4.out.cell 1
 have hbQ : Below (w3.alloc (.cells #[.string ⟨#[102]⟩, .slice a3 2 c3] 32)).heap.size (w3.alloc (.cells #[.string ⟨#[102]⟩, .slice a3 2 c3] 32)) ((w3.alloc (.cells #[.string ⟨#[102]⟩, .slice a3 2 c3] 32)).alloc (.cells #[.string ⟨#[102]⟩, .slice a1 2 c1, .string ⟨#[102]⟩, .slice a3 2 c3] 34)) := (Below.refl _ _).alloc (Nat.le_refl _) _
 have hq : QV ((w3.alloc (.cells #[.string ⟨#[102]⟩, .slice a3 2 c3] 32)).alloc (.cells #[.string ⟨#[102]⟩, .slice a1 2 c1, .string ⟨#[102]⟩, .slice a3 2 c3] 34)) (fun _ => True) (.slice (some ⟨w3.heap.size + 1, 0, none⟩) 1 1) [⟨fT1, fT2⟩] := by
  have h1 := Blk.new (w3.alloc (.cells #[.string ⟨#[102]⟩, .slice a3 2 c3] 32)) #[.string ⟨#[102]⟩, .slice a1 2 c1, .string ⟨#[102]⟩, .slice a3 2 c3] 34
  rw [World.size_alloc] at h1
  exact qv_one (l := fT1) (r := fT2) h1 (S4.out.later hbQ) (T4.out.later hbQ)
 have HUN := hide (unify_some [⟨fT1, fT2⟩] fact_may _ 4 fact_run (by simp [grtB, sizeL]) rfl _ _ (fun _ => True) hq)
 have HBQ := hide (HB4.out.trans (hbQ.mono HB4.out.size))
 clear hq hbQ
 go_wp2_with fail
 refine HUN.out.mono ?_
 rintro e w5 ⟨v5, rfl, hv5, hb5⟩
 have HB5 := hide (HBQ.out.trans (hb5.mono HBQ.out.size))
 clear hb5
 obtain ⟨a5, c5, rfl, hl5, h5⟩ := hv5
 rcases h5 with h5 | ⟨b5, o5, rfl, _, hc5⟩
 ·cases h5
 ·obtain ⟨g0, g1, _, _, g2, _⟩ := hc5 0 (by simp)
  obtain ⟨f0, f1, _, _, f2, _⟩ := hc5 1 (by simp)
  simp only [Nat.zero_mul, Nat.add_zero, Nat.one_mul, List.getElem_cons_zero, List.getElem_cons_succ] at g0 g1 f0 f1
  clear hc5
  go_wp2_with fail
  refine bodyPost_ret (v := .bool true) (by simp [results, Tryz.results8, go_sem]) rfl ?_
  exact ⟨rfl, HB5.out⟩
end Go.Proofs.YtbnmlkaejdpigaaGreatDoor
