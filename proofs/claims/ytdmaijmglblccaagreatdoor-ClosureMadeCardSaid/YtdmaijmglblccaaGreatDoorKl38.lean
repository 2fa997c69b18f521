/- Walks: the law ClosureMade. -/
import Derived.Test.YtdmaijmglblccaaGreatDoorKl36
import Derived.Test.YtdmaijmglblccaaGreatDoorW151
import Derived.Test.YtdmaijmglblccaaGreatDoorQRow
namespace Go.Proofs.YtdmaijmglblccaaGreatDoor
open Go.RowKit
set_option linter.unusedSimpArgs false
set_option linter.unusedVariables false
set_option maxRecDepth 8000

/-- Equations while they are made. -/
def GfI (w : World) (m many : Nat) (u at_ v : Value) (wr : World) : Prop :=
  ∃ (k n : Nat) (cs : List Pc), k ≤ many ∧ v = .int .i64 (k : Int) ∧ at_ = .int .i64 (n : Int) ∧ n ≤ k * (2 * top m) ∧ cs.length = k ∧ QRow wr w.heap.size (fun _ => False) u cs ∧ (∀ x ∈ cs, (sizeL [x.1.l] ≤ top m ∧ errL [x.1.l] = 0 ∧ grd x.1.l) ∧ sizeL [x.1.r] ≤ top m ∧ errL [x.1.r] = 0 ∧ grd x.1.r) ∧ Below w.heap.size w wr
set_option maxHeartbeats 8000000 in
theorem closureMade_any {BT : Nat} (zs : List Int) (hr : ∀ z ∈ zs, Rng z) (y1 y2 : Int) (hy1 : Rng y1) (hy2 : Rng y2) (u : Value) (w : World) (X : Nat → Prop) (hu : PV w X u zs) (hT : Tb BT w) (hBT : BT ≤ w.heap.size) :
    Calls Tryz.prog 4 #[u, .int .i64 y1, .int .i64 y2] w fun e w' => e = .returned (.bool true) ∧ Below w.heap.size w w' := by
  have HU := hide hu
  have HT := hide hT
  have HBT := hide hBT
  obtain ⟨au, cu, rfl, hlc, hu2⟩ := hu
  clear hu2 hT hBT
  by_cases h256 : 256 < zs.length
  · have hli : (256 : Int) < (zs.length : Int) := by omega
    go_enter Tryz.func4, Tryz.ntmps4
    go_wp2_with fail
    go_ret
    exact ⟨rfl, Below.refl _ _⟩
  have hzl : zs.length ≤ 256 := by omega
  have hli : ¬ (256 : Int) < (zs.length : Int) := by omega
  obtain ⟨many, hmn⟩ : ∃ m, m = pickN y1 5 := ⟨_, rfl⟩
  obtain ⟨pm, hpm⟩ : ∃ m, m = pickN y2 7 := ⟨_, rfl⟩
  have HP1 : Hid (∀ W, Calls Tryz.prog 19 #[.int .i64 y1, .int .i64 5] W fun e w' => e = .returned (.int .i64 (many : Int)) ∧ w' = W) := fun W => by rw [hmn]; exact pick_eq y1 5 (by omega) (by omega) hy1 W
  have HP2 : Hid (∀ W, Calls Tryz.prog 19 #[.int .i64 y2, .int .i64 7] W fun e w' => e = .returned (.int .i64 (pm : Int)) ∧ w' = W) := fun W => by rw [hpm]; exact pick_eq y2 7 (by omega) (by omega) hy2 W
  have hm4 : many ≤ 4 := by have := pickN_lt y1 5 (by omega); omega
  have hp6 : pm ≤ 6 := by have := pickN_lt y2 7 (by omega); omega
  clear hmn hpm
  obtain ⟨m, hm⟩ : ∃ m, m = 1 + pm := ⟨_, rfl⟩
  have HM := hide hm
  have hm7 : m ≤ 7 := by omega
  have htop : top m ≤ 14 := by unfold top; split <;> omega
  have HTOP := hide htop
  clear hm
  obtain ⟨i0, hi0, hz0, hz1, hz2⟩ := info_parts Tryz.infoPair
  go_enter Tryz.func4, Tryz.ntmps4
  go_wp2_with fail
  go_loopw [7, 8, 9] (fun u at_ v wr => GfI w m many u at_ v wr) (fun u at_ v wr => many - (intOf v).toNat)
  case atStart => exact ⟨0, 0, [], Nat.zero_le _, rfl, rfl, by omega, rfl, QRow.start _ _ _, by simp, Below.refl _ _⟩
  case round =>
    obtain ⟨k, n, cs, hk, rfl, rfl, hn, hlen, hrow, hall, hb⟩ := hrel
    have HROW := hide hrow
    have HALL := hide hall
    have HB := hide hb
    have hn40 : n ≤ 112 := by
      have h1 : k * (2 * top m) ≤ 4 * 28 := Nat.mul_le_mul (by omega) (by omega)
      omega
    have HN := hide hn
    clear hrow hall hn
    go_wp2_with fail
    refine (HP1.out _).mono ?_
    rintro e w9 ⟨rfl, hw9⟩
    rw [hw9]
    clear hw9 w9
    by_cases hlt : k < many
    · have hlt2 : (k : Int) < (many : Int) := by omega
      have GA := hide (ground_any zs hr (by omega) m n _ wr X (HU.out.later hb) (by omega) (by omega))
      clear hb
      go_wp2_with fail
      refine (HP2.out _).mono ?_
      rintro e w9 ⟨rfl, hw9⟩
      rw [hw9]
      clear hw9 w9
      have hsum : (1 : Int) + (pm : Int) = (m : Int) := by have := HM.out; omega
      go_wp2_with fail
      refine GA.out.mono ?_
      rintro e w1 ⟨a1, c1, n1, t1, rfl, hs1, hz1', hn1, hn1', hb1, he1, hg1⟩
      have hbA : Below w1.heap.size w1 (w1.alloc (.cells #[.string t1.name, .slice a1 t1.args.length c1] 25)) := (Below.refl _ _).alloc (Nat.le_refl _) _
      have hb2 := hb1.trans (hbA.mono hb1.size)
      have A2 := hide (Blk.new w1 #[.string t1.name, .slice a1 t1.args.length c1] 25)
      have S2 := hide (hs1.later hbA)
      have D2 := hide hb2
      have HB2 := hide (HB.out.trans (hb2.mono HB.out.size))
      have HG1 := hide hg1
      clear hbA hb1 hs1 hb2 GA hg1
      go_upto_region 9 with fail
      generalize w1.alloc (.cells #[.string t1.name, .slice a1 t1.args.length c1] 25) = w2 at *
      obtain ⟨A, hA⟩ : ∃ A, A = w1.heap.size := ⟨_, rfl⟩
      rw [← hA] at A2 ⊢
      clear hA
      go_wp2_with fail
      refine (HP2.out _).mono ?_
      rintro e w9 ⟨rfl, hw9⟩
      rw [hw9]
      clear hw9 w9
      go_wp2_with fail
      refine (ground_any zs hr (by omega) m n1 _ w2 X (HU.out.later HB2.out) (by omega) (by omega)).mono ?_
      rintro e w3 ⟨a3, c3, n3, t3, rfl, hs3, hz3', hn3, hn3', hb3, he3, hg3⟩
      have hbA : Below w3.heap.size w3 (w3.alloc (.cells #[.string t3.name, .slice a3 t3.args.length c3] 25)) := (Below.refl _ _).alloc (Nat.le_refl _) _
      have hb4 := hb3.trans (hbA.mono hb3.size)
      have B4 := hide (Blk.new w3 #[.string t3.name, .slice a3 t3.args.length c3] 25)
      have A4 := hide (A2.out.below hb4 A2.out.lt)
      have S4 := hide (S2.out.later hb4)
      have T4 := hide ((hs3.later hbA).mono (Y := fun b => wr.heap.size ≤ b) fun b hb _ => by have := D2.out.size; omega)
      have D4 := hide (D2.out.trans (hb4.mono D2.out.size))
      have HB4 := hide (HB2.out.trans (hb4.mono HB2.out.size))
      have HG3 := hide hg3
      clear hbA hb3 hs3 hb4 A2 S2 D2 HB2 hg3
      have p0 := A4.out.cell 0
      have p1 := A4.out.cell 1
      have q0 := B4.out.cell 0
      have q1 := B4.out.cell 1
      have hlenc : cs.length ≤ 1000000 := by omega
      have hsz3 : (w3.alloc (.cells #[.string t3.name, .slice a3 t3.args.length c3] 25)).heap.size = w3.heap.size + 1 := by simp
      obtain ⟨v5, w5, hrun, hrow5, hg5, _⟩ := pairs_append HROW.out HB.out.size (fun _ h => h.elim) D4.out (⟨t1, t3⟩, (a1, c1), (a3, c3)) ⟨S4.out.mono fun b hb _ => Or.inr hb, T4.out.mono fun b hb _ => Or.inr hb⟩ hlenc (w3.heap.size + 1) hsz3
      have HRUN := hide hrun
      have HROW5 := hide hrow5
      have hltr := HROW.out.own.lt
      have HB5 : Hid (Below w.heap.size w w5) := (HB4.out.alloc HB4.out.size _).grown hg5 (by have h9 := HB4.out.size; simp only [World.size_alloc]; omega) (fun j hj => (hltr j hj).1)
      have HALL5 : Hid (∀ x ∈ cs ++ [((⟨t1, t3⟩, (a1, c1), (a3, c3)) : Pc)], (sizeL [x.1.l] ≤ top m ∧ errL [x.1.l] = 0 ∧ grd x.1.l) ∧ sizeL [x.1.r] ≤ top m ∧ errL [x.1.r] = 0 ∧ grd x.1.r) := fun x hx => by
        rcases List.mem_append.1 hx with hx | hx
        · exact HALL.out x hx
        · have e : x = (⟨t1, t3⟩, (a1, c1), (a3, c3)) := by simpa using hx
          subst e
          exact ⟨⟨hz1', he1, HG1.out⟩, hz3', he3, HG3.out⟩
      have HN5 : Hid (n3 ≤ (k + 1) * (2 * top m)) := by
        have h1 := HN.out
        unfold Hid
        rw [Nat.add_mul]
        omega
      clear hrun hrow5 hg5 hltr
      go_wp2_with (at_builtin; refine wpList_append_eq rfl _ _ _ _ rfl rfl rfl HRUN.out ?_)
      go_roundw
      case rel => exact ⟨k + 1, n3, _, by omega, by go_num, rfl, HN5.out, by simp; omega, HROW5.out, HALL5.out, HB5.out⟩
      case measure => simp [intOf]; omega
    · have hlt2 : ¬ (k : Int) < (many : Int) := by omega
      have hkm : k = many := by omega
      have HQ : Hid (QV wr (fun _ => True) _ (cs.map (·.1))) := HROW.out.qv.mono fun _ _ _ => trivial
      have G7 : Hid (∀ (n' : Nat) (W : World), n' ≤ 500 → Below w.heap.size w W → Calls Tryz.prog 20 #[.slice au zs.length cu, .int .i64 (n' : Int), .int .i64 7] W fun e w' => GrdP W n' 7 e w') := fun n' W hn' hb => ground_any zs hr (by omega) 7 n' _ W X (HU.out.later hb) (by omega) (by have h9 : top 7 = 13 := rfl; omega)
      clear hb
      go_wp2_with fail
      refine (G7.out n wr (by omega) HB.out).mono ?_
      rintro e w1 ⟨a1, c1, n1, t1, rfl, hs1, hz1', hn1, hn1', hb1, he1, hg1⟩
      have hbA : Below w1.heap.size w1 (w1.alloc (.cells #[.string t1.name, .slice a1 t1.args.length c1] 25)) := (Below.refl _ _).alloc (Nat.le_refl _) _
      have hb2 := hb1.trans (hbA.mono hb1.size)
      have A2 := hide (Blk.new w1 #[.string t1.name, .slice a1 t1.args.length c1] 25)
      have S2 := hide (hs1.later hbA)
      have HB2 := hide (HB.out.trans (hb2.mono HB.out.size))
      have HQ2 := hide (HQ.out.later hb2)
      have hn1b : n1 ≤ 400 := by
        have h9 : top 7 = 13 := rfl
        omega
      clear hbA hb1 hs1 hb2 hg1
      go_upto_region 13 with fail
      generalize w1.alloc (.cells #[.string t1.name, .slice a1 t1.args.length c1] 25) = w2 at *
      obtain ⟨A, hA⟩ : ∃ A, A = w1.heap.size := ⟨_, rfl⟩
      rw [← hA] at A2 ⊢
      clear hA
      go_wp2_with fail
      refine (G7.out n1 w2 (by omega) HB2.out).mono ?_
      rintro e w3 ⟨a3, c3, n3, t3, rfl, hs3, hz3', hn3, hn3', hb3, he3, hg3⟩
      have hbA : Below w3.heap.size w3 (w3.alloc (.cells #[.string t3.name, .slice a3 t3.args.length c3] 25)) := (Below.refl _ _).alloc (Nat.le_refl _) _
      have hb4 := hb3.trans (hbA.mono hb3.size)
      have B4 := hide (Blk.new w3 #[.string t3.name, .slice a3 t3.args.length c3] 25)
      have A4 := hide (A2.out.below hb4 A2.out.lt)
      have S4 := hide (S2.out.later hb4)
      have T4 := hide (hs3.later hbA)
      have HB4 := hide (HB2.out.trans (hb4.mono HB2.out.size))
      have HQ4 := hide (HQ2.out.later hb4)
      clear hbA hb3 hs3 hb4 A2 S2 HB2 hg3 HQ HQ2
      go_upto_region 14 with fail
      generalize w3.alloc (.cells #[.string t3.name, .slice a3 t3.args.length c3] 25) = w4 at *
      obtain ⟨B, hB⟩ : ∃ B, B = w3.heap.size := ⟨_, rfl⟩
      rw [← hB] at B4 ⊢
      clear hB
      have p0 := A4.out.cell 0
      have p1 := A4.out.cell 1
      have q0 := B4.out.cell 0
      have q1 := B4.out.cell 1
      simp only [List.getElem?_toArray, List.getElem?_cons_zero, List.getElem?_cons_succ] at p0 p1 q0 q1
      have HLAW := hide (closureSays_any (cs.map (·.1)) t1 t3 _ _ _ w4 (fun _ => True) HQ4.out ⟨a1, c1, rfl, S4.out.mono fun _ _ _ => trivial⟩ ⟨a3, c3, rfl, T4.out.mono fun _ _ _ => trivial⟩ (HT.out.on (HB4.out.mono HBT.out)) (Nat.le_trans HBT.out HB4.out.size))
      go_wp2_with fail
      refine HLAW.out.mono ?_
      rintro e w5 ⟨rfl, hb5⟩
      have HB5 := hide (HB4.out.trans (hb5.mono HB4.out.size))
      clear hb5 p0 p1 q0 q1
      go_wp2_with fail
      go_ret
      exact ⟨rfl, HB5.out⟩
end Go.Proofs.YtdmaijmglblccaaGreatDoor
