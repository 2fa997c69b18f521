import Derived.Test.YthnncjgjmohinaaGreatDoorZCInferMadeOwn
import Derived.Test.YthnncjgjmohinaaGreatDoorZInferMadeOwn
import Derived.Test.YthnncjgjmohinaaGreatDoorLf1w
namespace Go.Proofs.YthnncjgjmohinaaGreatDoor
open Go.RowKit
set_option linter.unusedSimpArgs false
set_option linter.unusedVariables false
set_option maxRecDepth 8000
def TfP (i m : Nat) (w : World) (e : Ending) (w' : World) : Prop :=
 ∃ (y : Ty) (k : Nat) (a : Option Addr) (c : Nat), e = .returned (.tuple #[.agg #[.int .i64 y.base, .slice a y.subs.length c], .int .i64 (k : Int)]) ∧ i ≤ k ∧ k ≤ i + tpQ m ∧ SlY w' (fun b => w.heap.size ≤ b) a y.subs ∧ Below w.heap.size w w' ∧ errY [y] = 0 ∧ sizeY [y] ≤ tpQ m
theorem tf_end {w wz : World} {i m k R : Nat} {y : Ty} {a : Option Addr} {c : Nat} (hR : w.heap.size ≤ R) (h1 : i ≤ k) (h2 : k ≤ i + tpQ m) (hb : Below w.heap.size w wz) (hs : SlY wz (fun b => w.heap.size ≤ b ∧ b ≠ R) a y.subs) (v0 v1 : Value) {kk : Int} (hk : kk = (k : Int)) (hq : errY [y] = 0 ∧ sizeY [y] ≤ tpQ m) :
  TfP i m w (.returned (.tuple #[.agg #[.int .i64 y.base, .slice a y.subs.length c], .int .i64 kk])) ((wz.setCell ⟨R, 0, none⟩ v0).setCell ⟨R, 1, none⟩ v1) := by
 subst hk
 refine ⟨y, k, a, c, rfl, h1, h2, (hs.kept fun q hq => ?_).mono fun b h _ => h.1, (hb.setCell (p := ⟨R, 0, none⟩) (by simpa using hR) _).setCell (p := ⟨R, 1, none⟩) (by simpa using hR) _, hq⟩
 rw [Below.heap_setCell _ _ _ _ (by simpa using hq.2), Below.heap_setCell _ _ _ _ (by simpa using hq.2)]
theorem errY_base {q : Nat} (h : q < 3) : errY [⟨(q : Int), []⟩] = 0 := by
 rw [errY_good (by simp [knY]; omega)]
 simp [errY]
theorem errY_arr {a b : Ty} (ha : errY [a] = 0) (hb : errY [b] = 0) : errY [⟨0, [a, b]⟩] = 0 := by
 rw [errY_good (by simp [knY]), errY_cons, if_pos ha]
 exact hb
theorem sizeY_arr (x : Int) (a b : Ty) : sizeY [⟨x, [a, b]⟩] = 1 + (sizeY [a] + sizeY [b]) := by
 have h := sizeY_append [a] [b]
 simp only [List.cons_append, List.nil_append] at h
 rw [← h]
 simp [sizeY]
set_option maxHeartbeats 8000000 in
theorem typeFrom_at (zs : List Int) (u : Value) (hr : ∀ z ∈ zs, Rng z) (hzl : zs.length ≤ 1000000) (n : Nat) : ∀ (m i : Nat), m < n → i + 2 * m ≤ 900000 → ∀ (w : World) (X : Nat → Prop), PV w X u zs →
  Calls Tryz.prog 6 #[u, .int .i64 (i : Int), .int .i64 (m : Int)] w fun e w' => TfP i m w e w' := by
 induction n with
 | zero => intro m i h1; omega
 | succ n ih =>
  intro m i hm h2 w X hu
  have HIH := hide ih
  have HU : Hid (PV w (fun b => X b ∧ b < w.heap.size) u zs) := hu.mono fun b h h' => ⟨h, h'⟩
  have hR0 : Hid (Blk (w.alloc (.cells #[.int .i64 0, .slice none 0 0] 30)) w.heap.size #[.int .i64 0, .slice none 0 0] 30) := Blk.new _ _ _
  have hB0 : Hid (Below w.heap.size w (w.alloc (.cells #[.int .i64 0, .slice none 0 0] 30))) := (Below.refl _ _).alloc (Nat.le_refl _) _
  have HRNG := hide hr
  obtain ⟨ua, uc, rfl⟩ : ∃ ua uc, u = .slice ua zs.length uc := by
   obtain ⟨a, c, h, _⟩ := hu
   exact ⟨a, c, h⟩
  clear ih hu hr
  go_enter Tryz.func6, Tryz.ntmps6
  go_wp2_with fail
  refine (raw_any zs _ _ _ (HU.out.later hB0.out) HRNG.out i (by omega) hzl).mono ?_
  rintro e w1 ⟨k0, rfl, hk0, hb1⟩
  have hz1 := hb1.size
  have B1 := hide (hB0.out.trans (hb1.mono (by simp)))
  have R1 := hide (hR0.out.below hb1 (by simp))
  have hw1 : w.heap.size + 1 ≤ w1.heap.size := by simp at hz1; omega
  clear hb1 hz1 hB0 hR0
  have hi1 : ((i + 1 : Nat) : Int) = (i : Int) + 1 := by omega
  have HI1 := hide hi1
  clear hi1
  have hP1 := tpQ_pos m
  go_upto_region 3 with fail
  go_cut [23] (fun o wd => ∃ b : Bool, o = .bool b ∧ (b = false → 3 ≤ m) ∧ wd = w1)
  case first =>
   by_cases h4 : (m : Int) < 3
   ·have g1 : decide ((m : Int) < 3) = true := decide_eq_true h4
    go_wp2_with fail
    go_meet
    exact ⟨true, rfl, by simp, rfl⟩
   ·have g1 : decide ((m : Int) < 3) = false := decide_eq_false h4
    go_wp2_with fail
    refine (pick_any (k0 : Int) 3 (by omega) (by omega) (by omega) _).mono ?_
    rintro e w2 ⟨q, rfl, hq, rfl⟩
    go_wp2_with fail
    go_meet
    exact ⟨_, rfl, fun _ => by omega, rfl⟩
  obtain ⟨b1, rfl, hb3, rfl⟩ := hcut
  have r0 := R1.out.c0
  have r1 := R1.out.c1
  have rf := R1.out.frozen
  cases b1 with
  | true =>
   clear hb3
   go_wp2_with fail
   refine (pick_any ((k0 : Int) / 3) 3 (by omega) (by omega) (by omega) _).mono ?_
   rintro e w2' ⟨q, rfl, hq, rfl⟩
   go_wp2_with fail
   refine bodyPost_ret (v := .tuple #[.agg #[.int .i64 (q : Int), .slice none 0 0], .int .i64 ((i : Int) + 1)]) (by simp [results, Tryz.results6, go_sem, World.cell?_setCell_same, World.cell?_setCell_other, r0, r1]) rfl ?_
   exact tf_end (y := ⟨(q : Int), []⟩) (k := i + 1) (Nat.le_refl _) (by omega) (by omega) B1.out ⟨by simp, Or.inl rfl⟩ _ _ HI1.out.symm ⟨errY_base hq, by simp [sizeY]; omega⟩
  | false =>
   have h3m := hb3 rfl
   clear hb3
   have hI := HIH.out (m / 2) (i + 1) (by omega) (by omega) wc _ (HU.out.later B1.out)
   have e1 : ((m / 2 : Nat) : Int) = (m : Int) / 2 := by omega
   rw [e1, HI1.out] at hI
   have HI := hide hI
   have HE1 := hide e1
   have HT := hide (tpQ_half h3m)
   have HT2 := hide (tpQ_le (m := m / 2) (by omega))
   clear hI e1
   go_wp2_with fail
   refine HI.out.mono ?_
   rintro e w3 ⟨t, k, a, c, rfl, hk1, hk2, hs3, hb3, hg3'⟩
   have HG3 := hide hg3'
   clear hg3'
   have BA : Hid (Below w3.heap.size w3 (w3.alloc (.cells #[.int .i64 t.base, .slice a t.subs.length c] 30))) := (Below.refl _ _).alloc (Nat.le_refl _) _
   have hz3 := hb3.size
   have BB := hide (hb3.trans (BA.out.mono hz3))
   have HS3 := hide (hs3.later BA.out)
   have KA : Hid (Blk (w3.alloc (.cells #[.int .i64 t.base, .slice a t.subs.length c] 30)) w3.heap.size #[.int .i64 t.base, .slice a t.subs.length c] 30) := Blk.new _ _ _
   have hJ := HIH.out (m / 2) k (by omega) (by have := HT2.out; omega) (w3.alloc (.cells #[.int .i64 t.base, .slice a t.subs.length c] 30)) _ ((HU.out.later B1.out).later BB.out)
   rw [HE1.out] at hJ
   have HJ := hide hJ
   have HZA : Hid ((w3.alloc (.cells #[.int .i64 t.base, .slice a t.subs.length c] 30)).heap.size = w3.heap.size + 1) := by unfold Hid; simp
   clear hb3 hs3 hJ BA
   go_wp2_with fail
   generalize (w3.alloc (.cells #[.int .i64 t.base, .slice a t.subs.length c] 30)) = wA at *
   refine HJ.out.mono ?_
   rintro e w5 ⟨t5, k5, a5, c5, rfl, hk3, hk4, hs5, hb5, hg5'⟩
   have HG5 := hide hg5'
   clear hg5'
   have hz5 := hb5.size
   have hzA := HZA.out
   have BC : Hid (Below w5.heap.size w5 (w5.alloc (.cells #[.int .i64 t5.base, .slice a5 t5.subs.length c5] 30))) := (Below.refl _ _).alloc (Nat.le_refl _) _
   have BD := hide (hb5.trans (BC.out.mono hz5))
   have KB := hide (KA.out.below BD.out (by omega))
   have KC : Hid (Blk (w5.alloc (.cells #[.int .i64 t5.base, .slice a5 t5.subs.length c5] 30)) w5.heap.size #[.int .i64 t5.base, .slice a5 t5.subs.length c5] 30) := Blk.new _ _ _
   have ST : Hid (SlY (w5.alloc (.cells #[.int .i64 t5.base, .slice a5 t5.subs.length c5] 30)) (fun b => wc.heap.size ≤ b) a t.subs) := HS3.out.later BD.out
   have ST5 : Hid (SlY (w5.alloc (.cells #[.int .i64 t5.base, .slice a5 t5.subs.length c5] 30)) (fun b => wc.heap.size ≤ b) a5 t5.subs) := (hs5.later BC.out).mono fun b h _ => by have := BB.out.size; omega
   have BE := hide (BB.out.trans (BD.out.mono BB.out.size))
   clear hb5 hs5 hzA
   go_upto_region 7 with fail
   have gP : Hid (w3.heap.size ≠ w5.heap.size) := by unfold Hid; have := HZA.out; omega
   generalize w5.heap.size = P5 at *
   generalize (w5.alloc (.cells #[.int .i64 t5.base, .slice a5 t5.subs.length c5] 30)) = w6 at *
   have q0 := KB.out.cell 0
   have q1 := KB.out.cell 1
   have p0 := KC.out.cell 0
   have p1 := KC.out.cell 1
   have R6 := hide (R1.out.below BE.out (by omega))
   have s0 := R6.out.c0
   have s1 := R6.out.c1
   have sf := R6.out.frozen
   simp only [List.getElem?_toArray, List.getElem?_cons_succ, List.getElem?_cons_zero] at q0 q1 p0 p1
   have N7 : Hid (Below w6.heap.size w6 (w6.alloc (.cells #[.int .i64 t.base, .slice a t.subs.length c, .int .i64 t5.base, .slice a5 t5.subs.length c5] 30))) := (Below.refl _ _).alloc (Nat.le_refl _) _
   have C7 : Hid (Blk (w6.alloc (.cells #[.int .i64 t.base, .slice a t.subs.length c, .int .i64 t5.base, .slice a5 t5.subs.length c5] 30)) w6.heap.size #[.int .i64 t.base, .slice a t.subs.length c, .int .i64 t5.base, .slice a5 t5.subs.length c5] 30) := Blk.new _ _ _
   have E7 := hide (B1.out.trans ((BE.out.trans (N7.out.mono BE.out.size)).mono (by omega)))
   have R7 := hide (R6.out.below N7.out R6.out.lt)
   have ST7 := hide (ST.out.later N7.out)
   have ST57 := hide (ST5.out.later N7.out)
   have z0 : (w6.alloc (.cells #[.int .i64 t.base, .slice a t.subs.length c, .int .i64 t5.base, .slice a5 t5.subs.length c5] 30)).cell? ⟨w.heap.size, 0, none⟩ = some (.int .i64 0) := R7.out.cell 0
   have z1 : (w6.alloc (.cells #[.int .i64 t.base, .slice a t.subs.length c, .int .i64 t5.base, .slice a5 t5.subs.length c5] 30)).cell? ⟨w.heap.size, 1, none⟩ = some (.slice none 0 0) := R7.out.cell 1
   have zf := R7.out.frozen
   have gG : Hid (w.heap.size < w6.heap.size ∧ wc.heap.size ≤ w6.heap.size) := ⟨R6.out.lt, BE.out.size⟩
   clear r0 r1 rf
   go_wp2_with fail
   generalize w6.heap.size = G at *
   generalize (w6.alloc (.cells #[.int .i64 t.base, .slice a t.subs.length c, .int .i64 t5.base, .slice a5 t5.subs.length c5] 30)) = w7 at *
   refine bodyPost_ret (v := .tuple #[.agg #[.int .i64 0, .slice (some ⟨G, 0, none⟩) 2 2], .int .i64 (k5 : Int)]) (by simp [results, Tryz.results6, go_sem, World.cell?_setCell_same, World.cell?_setCell_other, z0, z1]) rfl ?_
   exact tf_end (y := ⟨0, [t, t5]⟩) (k := k5) (Nat.le_refl _) (by omega) (by have := HT.out; omega) E7.out (liesY_two C7.out (by have h1 := gG.out; omega) (ST7.out.mono fun b hb _ => by omega) (ST57.out.mono fun b hb _ => by omega)) _ _ rfl ⟨errY_arr HG3.out.1 HG5.out.1, by have h1 := HG3.out.2; have h2 := HG5.out.2; have h3 := HT.out; rw [sizeY_arr]; omega⟩
end Go.Proofs.YthnncjgjmohinaaGreatDoor
