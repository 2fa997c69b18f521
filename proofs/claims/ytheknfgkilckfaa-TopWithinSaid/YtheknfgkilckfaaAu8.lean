/- Walks: Either, and what is asked first. -/
import Derived.Test.YtheknfgkilckfaaAu7
namespace Go.Proofs.Ytheknfgkilckfaa
open Go.RowKit
set_option linter.unusedSimpArgs false
set_option linter.unusedVariables false
set_option maxRecDepth 8000

/-- What is wrong with two, the first one first. -/
def eachE (A B : Au) : Int := if auE 8 40 A = 0 then auE 8 40 B else auE 8 40 A
set_option maxHeartbeats 2000000 in
theorem checkEach_any (A B : Au) (am bm al bl : Option Addr) (cm dm cl dl P : Nat) (w : World) (X : Nat → Prop) (hva : AV w X (.agg #[.int .i64 A.st, .slice am A.mv.length cm, .slice al A.la.length cl]) A) (hvb : AV w X (.agg #[.int .i64 B.st, .slice bm B.mv.length dm, .slice bl B.la.length dl]) B)
    (hP : Blk w P #[.int .i64 A.st, .slice am A.mv.length cm, .slice al A.la.length cl, .int .i64 B.st, .slice bm B.mv.length dm, .slice bl B.la.length dl] 25) :
    Calls Try.prog 23 #[.slice (some ⟨P, 0, none⟩) 2 2] w fun e w' => e = .returned (.int .i64 (eachE A B)) ∧ Below w.heap.size w w' := by
  have HVA := hide hva
  have HVB := hide hvb
  have HP := hide hP
  clear hva hvb hP
  generalize hE : eachE A B = E
  unfold eachE at hE
  have HE := hide hE
  clear hE
  go_enter Try.func23, Try.ntmps23
  go_wp2_with fail
  go_loopw [8] (fun i wr => ∃ k : Nat, k ≤ 2 ∧ i = .int .i64 (k : Int) ∧ (1 ≤ k → auE 8 40 A = 0) ∧ (2 ≤ k → auE 8 40 B = 0) ∧ Below w.heap.size w wr) (fun i wr => 2 - (intOf i).toNat)
  case atStart => exact ⟨0, Nat.zero_le _, rfl, by simp, by simp, Below.refl _ _⟩
  case round =>
    obtain ⟨k, hk, rfl, h1, h2, hb⟩ := hrel
    obtain ⟨w2, rfl⟩ : ∃ w2, w2 = wr := ⟨_, rfl⟩
    have HB := hide hb
    have P2 := hide (HP.out.below hb HP.out.lt)
    have pl := P2.out.lt
    have H1 := hide h1
    have H2 := hide h2
    clear h1 h2
    match k, hk with
    | 0, _ =>
      have p0 : w2.cell? ⟨P, 0, none⟩ = some (.int .i64 A.st) := P2.out.cell 0
      have p1 : w2.cell? ⟨P, 1, none⟩ = some (.slice am A.mv.length cm) := P2.out.cell 1
      have p2 : w2.cell? ⟨P, 2, none⟩ = some (.slice al A.la.length cl) := P2.out.cell 2
      have V3 := hide ((HVA.out.later hb).later ((Below.refl w2.heap.size w2).alloc (Nat.le_refl _) (.cells #[.int .i64 A.st, .slice am A.mv.length cm, .slice al A.la.length cl] 25)))
      clear hb
      go_wp2_with fail
      refine (aCheck_any A _ _ _ (by exact V3.out)).mono ?_
      rintro e w3 ⟨rfl, hb3⟩
      have HB3 := hide ((HB.out.alloc HB.out.size (.cells #[.int .i64 A.st, .slice am A.mv.length cm, .slice al A.la.length cl] 25)).trans (hb3.mono (HB.out.alloc HB.out.size (.cells #[.int .i64 A.st, .slice am A.mv.length cm, .slice al A.la.length cl] 25)).size))
      clear hb3 p0 p1 p2
      by_cases h0 : auE 8 40 A = 0
      · have H0 := hide h0
        rw [h0]
        clear h0
        go_wp2_with fail
        go_roundw
        case rel => exact ⟨1, by omega, rfl, fun _ => H0.out, fun h => by omega, HB3.out⟩
        case measure => simp [intOf]
      · have hE : auE 8 40 A = E := by rw [← HE.out, if_neg h0]
        rw [hE] at h0 ⊢
        have hne : (E == 0) = false := by simpa using h0
        have hne2 : (E != 0) = true := by simpa using h0
        clear h0 hE
        go_wp2_with fail
        go_ret
        exact ⟨rfl, HB3.out⟩
    | 1, _ =>
      have p0 : w2.cell? ⟨P, 3, none⟩ = some (.int .i64 B.st) := P2.out.cell 3
      have p1 : w2.cell? ⟨P, 4, none⟩ = some (.slice bm B.mv.length dm) := P2.out.cell 4
      have p2 : w2.cell? ⟨P, 5, none⟩ = some (.slice bl B.la.length dl) := P2.out.cell 5
      have V3 := hide ((HVB.out.later hb).later ((Below.refl w2.heap.size w2).alloc (Nat.le_refl _) (.cells #[.int .i64 B.st, .slice bm B.mv.length dm, .slice bl B.la.length dl] 25)))
      have HEB : Hid (auE 8 40 B = E) := by unfold Hid; rw [← HE.out, if_pos (H1.out (Nat.le_refl _))]
      clear hb
      go_wp2_with fail
      refine (aCheck_any B _ _ _ (by exact V3.out)).mono ?_
      rintro e w3 ⟨rfl, hb3⟩
      have HB3 := hide ((HB.out.alloc HB.out.size (.cells #[.int .i64 B.st, .slice bm B.mv.length dm, .slice bl B.la.length dl] 25)).trans (hb3.mono (HB.out.alloc HB.out.size (.cells #[.int .i64 B.st, .slice bm B.mv.length dm, .slice bl B.la.length dl] 25)).size))
      clear hb3 p0 p1 p2
      rw [HEB.out]
      by_cases h0 : E = 0
      · have H0 := hide h0
        rw [h0]
        clear h0
        go_wp2_with fail
        go_roundw
        case rel => exact ⟨2, by omega, rfl, fun _ => H1.out (Nat.le_refl _), fun _ => by rw [HEB.out, H0.out], HB3.out⟩
        case measure => simp [intOf]
      · have hne : (E == 0) = false := by simpa using h0
        have hne2 : (E != 0) = true := by simpa using h0
        clear h0
        go_wp2_with fail
        go_ret
        exact ⟨rfl, HB3.out⟩
    | 2, _ =>
      have hE : E = 0 := by rw [← HE.out, if_pos (H1.out (by omega)), H2.out (Nat.le_refl _)]
      subst hE
      clear hb
      go_wp2_with fail
      go_ret
      exact ⟨rfl, HB.out⟩
end Go.Proofs.Ytheknfgkilckfaa
