import Derived.Test.YtdebiiodhkcnkaaGreatZBIndexMadeOwn
import Derived.Test.YtdebiiodhkcnkaaGreatIx15
import Derived.Test.YtdebiiodhkcnkaaGreatW30a
namespace Go.Proofs.YtdebiiodhkcnkaaGreat
open Go.RowKit
set_option linter.unusedSimpArgs false
set_option linter.unusedVariables false
set_option maxRecDepth 8000
def JmI (p : Nat) (w : World) (v at_ i : Value) (wr : World) : Prop := ∃ (k n : Nat) (l : List Tm), k ≤ p ∧ i = .int .i64 (k : Int) ∧ at_ = .int .i64 (n : Int) ∧ n ≤ k * 13 ∧ l.length = k ∧ TmS w.heap.size wr v l ∧ Below w.heap.size w wr
theorem top_seven {m : Nat} (h : m ≤ 7) : top m ≤ 13 := by unfold top; split <;> omega
set_option maxHeartbeats 4000000 in
theorem indexMade_any (zs : List Int) (hr : ∀ z ∈ zs, Rng z) (y1 y2 : Int) (hy1 : Rng y1) (hy2 : Rng y2) (u : Value) (w : World) (X : Nat → Prop) (hu : PV w X u zs) :
  Calls Tryz.prog 3 #[u, .int .i64 y1, .int .i64 y2] w fun e w' => e = .returned (.bool true) ∧ Below w.heap.size w w' := by
 have HU := hide hu
 obtain ⟨ua, uc, hue, huu⟩ := hu
 subst hue
 clear huu
 by_cases h256 : 256 < zs.length
 ·have h256i : (256 : Int) < (zs.length : Int) := by omega
  go_enter Tryz.func3, Tryz.ntmps3
  go_wp2_with fail
  go_ret
  exact ⟨rfl, Below.refl _ _⟩
 have h256i : ¬ (256 : Int) < (zs.length : Int) := by omega
 have hzl : zs.length ≤ 1000000 := by omega
 obtain ⟨p, hp⟩ : ∃ p, p = pickN y1 12 := ⟨_, rfl⟩
 have hp12 : p < 12 := by rw [hp]; exact pickN_lt _ _ (by omega)
 have HPK : Hid (∀ w', Calls Tryz.prog 5 #[.int .i64 y1, .int .i64 12] w' fun e w'' => e = .returned (.int .i64 (p : Int)) ∧ w'' = w') := fun w' => by rw [hp]; exact pick_eq y1 12 (by omega) (by omega) hy1 w'
 clear hp
 go_enter Tryz.func3, Tryz.ntmps3
 go_wp2_with fail
 go_loopw [7, 8, 9] (fun v at_ i wr => JmI p w v at_ i wr) (fun v at_ i wr => p - (intOf i).toNat)
 case atStart => exact ⟨0, 0, [], Nat.zero_le _, rfl, rfl, by omega, rfl, TmS.start _ _, Below.refl _ _⟩
 case round =>
  obtain ⟨k, n, l, hk, rfl, rfl, hn, hlen, hT, hb⟩ := hrel
  have HT := hide hT
  have HB := hide hb
  clear hT hb
  by_cases hlt : k < p
  ·have hki : (k : Int) < (p : Int) := by omega
   have CP := hide (pick_any (wrap64 (y2 + (k : Int))) 7 (by omega) (by omega) (wrap_rng _) wr)
   have GA : Hid (∀ q : Nat, q < 7 → Calls Tryz.prog 6 #[.slice ua zs.length uc, .int .i64 (n : Int), .int .i64 (1 + (q : Int)), .int .i64 3] wr fun e w' => GrowPost wr n (1 + q) e w') := fun q hq => by
    have h := grow_any 3 (by omega) (by omega) zs hr hzl (1 + q) n _ _ X (HU.out.later HB.out) (by omega) (by have := top_seven (m := 1 + q) (by omega); omega)
    rw [show (((1 + q : Nat)) : Int) = 1 + (q : Int) by omega, show ((3 : Nat) : Int) = 3 from rfl] at h
    exact h
   go_upto_region 8 with (go_at_call 5; refine (HPK.out _).mono ?_; rintro e w' ⟨rfl, rfl⟩)
   go_upto_region 9 with (first | (go_at_call 5; refine CP.out.mono ?_; rintro e w' ⟨q, rfl, hq, rfl⟩) | (go_at_call 6; refine (GA.out q hq).mono ?_; rintro e w1 ⟨a1, c1, n1, t1, rfl, hs1, -, -, hz1, hn1, hn1', hb1, he1⟩; have HHS := hide hs1; have HHB := hide hb1; have HE := hide he1; clear hs1 hb1 he1))
   have htp := top_seven (m := 1 + q) (by omega)
   have hbA : Below w1.heap.size w1 (w1.alloc (.cells #[.string t1.name, .slice a1 t1.args.length c1] 26)) := (Below.refl _ _).alloc (Nat.le_refl _) _
   have hb2 := HHB.out.trans (hbA.mono HHB.out.size)
   have A2 := hide (Blk.new w1 #[.string t1.name, .slice a1 t1.args.length c1] 26)
   have HB2 := hide (HB.out.trans (hb2.mono HB.out.size))
   have HT2 := hide (HT.out.later hb2)
   have HL := HT.out.lt
   have S2 := hide ((HHS.out.later hbA).mono (Y := fun b => some b ≠ u7.ownBlock) fun b hb _ e => by have := (HL b e.symm).2; omega)
   clear hbA hb2 GA CP HL HT HB HHS HHB HE
   generalize (w1.alloc (.cells #[.string t1.name, .slice a1 t1.args.length c1] 26)) = w2 at *
   have p0 := A2.out.c0
   have p1 := A2.out.c1
   obtain ⟨v5, w5, hrun, hT5, hb5⟩ := HT2.out.add (c := c1) HB2.out.size HB2.out (by omega) S2.out
   have HRUN := hide hrun
   have HT5 := hide hT5
   have HB5 := hide hb5
   clear hrun hT5 hb5
   go_wp2_with (at_builtin; refine wpList_append_eq rfl _ _ _ _ rfl rfl rfl HRUN.out ?_)
   go_roundw
   case rel => exact ⟨k + 1, n1, l ++ [t1], by omega, by go_num, rfl, by omega, by simp; omega, HT5.out, HB5.out⟩
   case measure => simp [intOf]; omega
  ·have hki : ¬ (k : Int) < (p : Int) := by omega
   subst hlen
   obtain ⟨la, lc, rfl, hsl⟩ := HT.out.shape
   have HSL := hide hsl
   clear hsl
   have TO := termOf_any 3 (by omega) (by omega) zs hr hzl 6 n _ wr X (HU.out.later HB.out) (by omega) (by have := top_seven (m := 6) (by omega); omega)
   rw [show ((6 : Nat) : Int) = 6 from rfl, show ((3 : Nat) : Int) = 3 from rfl] at TO
   have HTO := hide TO
   clear TO HT
   go_wp2_with (first | (go_at_call 5; refine (HPK.out _).mono ?_; rintro e w' ⟨rfl, rfl⟩) | (go_at_call 8; refine HTO.out.mono ?_; rintro e w4 ⟨t, a4, c4, rfl, hs4, hz4, hb4, he4⟩; have HS4 := hide hs4; have HB4 := hide hb4; clear hs4 hb4 HTO) | (go_at_call 7; refine (indexSays_any l t la lc _ w4 (HSL.out.later HB4.out) ⟨a4, c4, rfl, HS4.out.mono fun _ _ _ => trivial⟩).mono ?_; rintro e w5 ⟨rfl, hb5⟩; have HB5 := hide hb5; clear hb5))
   go_ret
   exact ⟨rfl, HB.out.trans ((HB4.out.trans (HB5.out.mono HB4.out.size)).mono HB.out.size)⟩
end Go.Proofs.YtdebiiodhkcnkaaGreat
