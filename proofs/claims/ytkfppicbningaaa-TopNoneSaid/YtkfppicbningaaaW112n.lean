/- Walks: pairs out of raw numbers, small ones with at most two below each knot. -/
import Derived.Test.YtkfppicbningaaaW30a
import Derived.Test.YtkfppicbningaaaW29n
import Derived.Test.YtkfppicbningaaaQRow
namespace Go.Proofs.Ytkfppicbningaaa
open Go.RowKit
set_option linter.unusedSimpArgs false
set_option linter.unusedVariables false
set_option maxRecDepth 8000

def PfInvA (nv : Nat) (w : World) (m many : Nat) (u at_ v : Value) (wr : World) : Prop :=
  ∃ (k n : Nat) (cs : List Pc), k ≤ many ∧ v = .int .i64 (k : Int) ∧ at_ = .int .i64 (n : Int) ∧ n ≤ k * (2 * top m) ∧ cs.length = k ∧ QRow wr w.heap.size (fun _ => False) u cs ∧ (∀ x ∈ cs, (sizeL [x.1.l] ≤ top m ∧ okA nv [x.1.l]) ∧ sizeL [x.1.r] ≤ top m ∧ okA nv [x.1.r]) ∧ Below w.heap.size w wr

set_option maxHeartbeats 1000000 in
theorem pairsFromA_any (nv : Nat) (hnv : 1 ≤ nv) (hnv4 : nv ≤ 4) (zs : List Int) (hr : ∀ z ∈ zs, Rng z) (hzl : zs.length ≤ 1000000) (m many : Nat) (u : Value) (w : World) (X : Nat → Prop) (hu : PV w X u zs) (hm : m ≤ 20) (hmany : many ≤ 4) :
    Calls Try.prog 24 #[u, .int .i64 (many : Int), .int .i64 (m : Int), .int .i64 (nv : Int)] w fun e w' => ∃ v ls, e = .returned v ∧ QV w' (fun b => w.heap.size ≤ b) v ls ∧ ls.length = many ∧ (∀ x ∈ ls, (sizeL [x.l] ≤ top m ∧ okA nv [x.l]) ∧ sizeL [x.r] ≤ top m ∧ okA nv [x.r]) ∧ Below w.heap.size w w' := by
  have HU := hide hu
  clear hu
  have htop : top m ≤ 40 := by unfold top; split <;> omega
  obtain ⟨i0, hi0, hz0, hz1, hz2⟩ := info_parts Try.infoPair
  go_enter Try.func24, Try.ntmps24
  go_wp2_with fail
  go_loopw [9, 10, 11] (fun u at_ v wr => PfInvA nv w m many u at_ v wr) (fun u at_ v wr => many - (intOf v).toNat)
  case atStart => exact ⟨0, 0, [], Nat.zero_le _, rfl, rfl, by omega, rfl, QRow.start _ _ _, by simp, Below.refl _ _⟩
  case round =>
    obtain ⟨k, n, cs, hk, rfl, rfl, hn, hlen, hrow, hall, hb⟩ := hrel
    have HROW := hide hrow
    have HALL := hide hall
    have HB := hide hb
    have hn40 : n ≤ 320 := by
      have h1 : k * (2 * top m) ≤ 4 * 80 := Nat.mul_le_mul (by omega) (by omega)
      omega
    have HN := hide hn
    clear hrow hall hn
    by_cases hlt : k < many
    · have hlt2 : (k : Int) < (many : Int) := by omega
      have GA := hide (growA_any nv hnv hnv4 zs hr hzl m n u wr X (HU.out.later hb) (by omega) (by omega))
      clear hb
      go_wp2_with fail
      refine GA.out.mono ?_
      rintro e w1 ⟨a1, c1, n1, t1, rfl, hs1, _, _, hz1', hn1, hn1', hb1, he1⟩
      have hbA : Below w1.heap.size w1 (w1.alloc (.cells #[.string t1.name, .slice a1 t1.args.length c1] 28)) := (Below.refl _ _).alloc (Nat.le_refl _) _
      have hb2 := hb1.trans (hbA.mono hb1.size)
      have A2 := hide (Blk.new w1 #[.string t1.name, .slice a1 t1.args.length c1] 28)
      have S2 := hide (hs1.later hbA)
      have D2 := hide hb2
      have HB2 := hide (HB.out.trans (hb2.mono HB.out.size))
      clear hbA hb1 hs1 hb2 GA
      go_wp2_with fail
      generalize w1.alloc (.cells #[.string t1.name, .slice a1 t1.args.length c1] 28) = w2 at *
      generalize w1.heap.size = A at *
      refine (growA_any nv hnv hnv4 zs hr hzl m n1 u w2 X (HU.out.later HB2.out) (by omega) (by omega)).mono ?_
      rintro e w3 ⟨a3, c3, n3, t3, rfl, hs3, _, _, hz3', hn3, hn3', hb3, he3⟩
      have hbA : Below w3.heap.size w3 (w3.alloc (.cells #[.string t3.name, .slice a3 t3.args.length c3] 28)) := (Below.refl _ _).alloc (Nat.le_refl _) _
      have hb4 := hb3.trans (hbA.mono hb3.size)
      have B4 := hide (Blk.new w3 #[.string t3.name, .slice a3 t3.args.length c3] 28)
      have A4 := hide (A2.out.below hb4 A2.out.lt)
      have S4 := hide (S2.out.later hb4)
      have T4 := hide ((hs3.later hbA).mono (Y := fun b => wr.heap.size ≤ b) fun b hb _ => by have := D2.out.size; omega)
      have D4 := hide (D2.out.trans (hb4.mono D2.out.size))
      have HB4 := hide (HB2.out.trans (hb4.mono HB2.out.size))
      clear hbA hb3 hs3 hb4 A2 S2 D2 HB2
      have p0 := A4.out.cell 0
      have p1 := A4.out.cell 1
      have q0 := B4.out.cell 0
      have q1 := B4.out.cell 1
      have hlenc : cs.length ≤ 1000000 := by omega
      have hsz3 : (w3.alloc (.cells #[.string t3.name, .slice a3 t3.args.length c3] 28)).heap.size = w3.heap.size + 1 := by simp
      obtain ⟨v5, w5, hrun, hrow5, hg5, _⟩ := pairs_append HROW.out HB.out.size (fun _ h => h.elim) D4.out (⟨t1, t3⟩, (a1, c1), (a3, c3)) ⟨S4.out.mono fun b hb _ => Or.inr hb, T4.out.mono fun b hb _ => Or.inr hb⟩ hlenc (w3.heap.size + 1) hsz3
      have HRUN := hide hrun
      have HROW5 := hide hrow5
      have hltr := HROW.out.own.lt
      have HB5 : Hid (Below w.heap.size w w5) := (HB4.out.alloc HB4.out.size _).grown hg5 (by have := HB4.out.size; simp at *; omega) (fun j hj => (hltr j hj).1)
      have HALL5 : Hid (∀ x ∈ cs ++ [((⟨t1, t3⟩, (a1, c1), (a3, c3)) : Pc)], (sizeL [x.1.l] ≤ top m ∧ okA nv [x.1.l]) ∧ sizeL [x.1.r] ≤ top m ∧ okA nv [x.1.r]) := fun x hx => by
        rcases List.mem_append.1 hx with hx | hx
        · exact HALL.out x hx
        · have e : x = (⟨t1, t3⟩, (a1, c1), (a3, c3)) := by simpa using hx
          subst e
          exact ⟨⟨hz1', he1⟩, hz3', he3⟩
      have HN5 : Hid (n3 ≤ (k + 1) * (2 * top m)) := by
        have h1 := HN.out
        unfold Hid
        rw [Nat.add_mul]
        omega
      clear hrun hrow5 hg5 hltr
      go_wp2_with (at_builtin; refine wpList_append_eq rfl _ _ _ _ rfl rfl rfl HRUN.out ?_)
      go_roundw
      case rel => exact ⟨k + 1, n3, _, by omega, by go_num, rfl, HN5.out, by simp; omega, HROW5.out, HALL5.out, HB5.out⟩
      case measure => simp [intOf]; omega
    · have hkm : k = many := by omega
      go_wp2_with fail
      go_ret
      exact ⟨_, _, rfl, HROW.out.qv.mono (fun b hb _ => by rcases hb with h | h; exact h.elim; exact h), by simp; omega, fun d hd => by obtain ⟨x, hx, rfl⟩ := List.mem_map.1 hd; exact HALL.out x hx, HB.out⟩
#print axioms pairsFromA_any
end Go.Proofs.Ytkfppicbningaaa
