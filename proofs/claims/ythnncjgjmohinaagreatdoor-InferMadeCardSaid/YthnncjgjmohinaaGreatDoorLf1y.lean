import Derived.Test.YthnncjgjmohinaaGreatDoorLf1z
namespace Go.Proofs.YthnncjgjmohinaaGreatDoor
open Go.RowKit
set_option linter.unusedSimpArgs false
set_option linter.unusedVariables false
set_option maxRecDepth 8000
def tpY (m : Nat) : Nat := if m < 3 then 2 else 2 * m - 1
theorem tpY_pos (m : Nat) : 2 ≤ tpY m := by unfold tpY; split <;> omega
theorem tpY_step {m : Nat} (h : 3 ≤ m) : tpQ (m - 1) + 1 ≤ tpY m := by unfold tpQ tpY; split <;> split <;> omega
theorem tpY_half {m : Nat} (h : 3 ≤ m) : 2 * tpY (m / 2) + 1 ≤ tpY m := by unfold tpY; split <;> split <;> omega
def LfY (i m : Nat) (w : World) (e : Ending) (w' : World) : Prop :=
 ∃ (t : Lm) (k : Nat) (a : Option Addr) (c : Nat), e = .returned (.tuple #[.agg #[.int .i64 t.kind, .int .i64 t.idx, .slice a t.subs.length c], .int .i64 (k : Int)]) ∧ i ≤ k ∧ k ≤ i + tpQ m ∧ SlM w' (fun b => w.heap.size ≤ b) a t.subs ∧ Below w.heap.size w w' ∧ errM 0 0 [t] = 0 ∧ sizeM [t] ≤ tpY m ∧ csL [t] = false
theorem lfY_end {w wz : World} {i m k R : Nat} {t : Lm} {a : Option Addr} {c : Nat} (hR : w.heap.size ≤ R) (h1 : i ≤ k) (h2 : k ≤ i + tpQ m) (hb : Below w.heap.size w wz) (hs : SlM wz (fun b => w.heap.size ≤ b ∧ b ≠ R) a t.subs) (v0 v1 v2 : Value) {kk : Int} (hk : kk = (k : Int)) (hq : errM 0 0 [t] = 0 ∧ sizeM [t] ≤ tpY m ∧ csL [t] = false) :
  LfY i m w (.returned (.tuple #[.agg #[.int .i64 t.kind, .int .i64 t.idx, .slice a t.subs.length c], .int .i64 kk])) (((wz.setCell ⟨R, 0, none⟩ v0).setCell ⟨R, 1, none⟩ v1).setCell ⟨R, 2, none⟩ v2) := by
 subst hk
 refine ⟨t, k, a, c, rfl, h1, h2, (hs.kept fun q hq => ?_).mono fun b h _ => h.1, ((hb.setCell (p := ⟨R, 0, none⟩) (by simpa using hR) _).setCell (p := ⟨R, 1, none⟩) (by simpa using hR) _).setCell (p := ⟨R, 2, none⟩) (by simpa using hR) _, hq⟩
 rw [Below.heap_setCell _ _ _ _ (by simpa using hq.2), Below.heap_setCell _ _ _ _ (by simpa using hq.2), Below.heap_setCell _ _ _ _ (by simpa using hq.2)]
set_option maxHeartbeats 8000000 in
theorem lamFromY_at (zs : List Int) (u : Value) (hr : ∀ z ∈ zs, Rng z) (hzl : zs.length ≤ 1000000) (n : Nat) : ∀ (m i : Nat), m < n → i + 2 * m ≤ 900000 → m < 100000 → ∀ (w : World) (X : Nat → Prop), PV w X u zs →
  Calls Tryz.prog 10 #[u, .int .i64 (i : Int), .int .i64 (m : Int), .int .i64 0, .int .i64 0] w fun e w' => LfY i m w e w' := by
 induction n with
 | zero => intro m i h1; omega
 | succ n ih =>
  intro m i hm h2 h3 w X hu
  have HIH := hide ih
  have HU : Hid (PV w (fun b => X b ∧ b < w.heap.size) u zs) := hu.mono fun b h h' => ⟨h, h'⟩
  have hR0 : Hid (Blk (w.alloc (.cells #[.int .i64 0, .int .i64 0, .slice none 0 0] 25)) w.heap.size #[.int .i64 0, .int .i64 0, .slice none 0 0] 25) := Blk.new _ _ _
  have hB0 : Hid (Below w.heap.size w (w.alloc (.cells #[.int .i64 0, .int .i64 0, .slice none 0 0] 25))) := (Below.refl _ _).alloc (Nat.le_refl _) _
  have HRNG := hide hr
  obtain ⟨ua, uc, rfl⟩ : ∃ ua uc, u = .slice ua zs.length uc := by
   obtain ⟨a, c, h, _⟩ := hu
   exact ⟨a, c, h⟩
  clear ih hu hr
  go_enter Tryz.func10, Tryz.ntmps10
  go_wp2_with fail
  refine (raw_any zs _ _ _ (HU.out.later hB0.out) HRNG.out i (by omega) hzl).mono ?_
  rintro e w1 ⟨k0, rfl, hk0, hb1⟩
  have hz1 := hb1.size
  have B1 := hide (hB0.out.trans (hb1.mono (by simp)))
  have R1 := hide (hR0.out.below hb1 (by simp))
  have hw1 : w.heap.size + 1 ≤ w1.heap.size := by simp at hz1; omega
  clear hb1 hz1 hB0 hR0
  have hi1 : ((i + 1 : Nat) : Int) = (i : Int) + 1 := by omega
  have HI1 := hide hi1
  clear hi1
  have hP1 := tpQ_pos m
  go_upto_region 3 with fail
  go_cut [29] (fun o wd => ∃ b : Bool, o = .bool b ∧ (b = false → 3 ≤ m) ∧ wd = w1)
  case first =>
   by_cases h4 : (m : Int) < 3
   ·have g1 : decide ((m : Int) < 3) = true := decide_eq_true h4
    go_wp2_with fail
    go_meet
    exact ⟨true, rfl, by simp, rfl⟩
   ·have g1 : decide ((m : Int) < 3) = false := decide_eq_false h4
    go_wp2_with fail
    refine (pick_any (k0 : Int) 6 (by omega) (by omega) (by omega) _).mono ?_
    rintro e w2 ⟨q, rfl, hq, rfl⟩
    go_wp2_with fail
    go_meet
    exact ⟨_, rfl, fun _ => by omega, rfl⟩
  obtain ⟨b1, rfl, hb3, rfl⟩ := hcut
  have r0 := R1.out.c0
  have r1 := R1.out.c1
  have r2 := R1.out.c2
  have rf := R1.out.frozen
  cases b1 with
  | true =>
   clear hb3
   have hP2 := tpY_pos m
   go_wp2_with fail
   refine (varQ_any 0 _).mono ?_
   rintro e w3 ⟨rfl, hb3⟩
   have E3 := hide (B1.out.trans (hb3.mono (by omega)))
   have D3 := hide hb3
   clear hb3
   go_wp2_with fail
   refine (funQ_any ⟨1, 0, []⟩ _ w3 (fun _ => False) ⟨none, 0, rfl, by simp, Or.inl rfl⟩).mono ?_
   rintro e w4 ⟨a4, c4, rfl, hs4, hb4⟩
   have E4 := hide (E3.out.trans (hb4.mono E3.out.size))
   have R4 := hide ((R1.out.below D3.out (by omega)).below hb4 (by have := D3.out.size; omega))
   have S4 : Hid (SlM w4 (fun b => w.heap.size ≤ b ∧ b ≠ w.heap.size) a4 [⟨1, 0, []⟩]) := hs4.mono fun b h _ => by
    rcases h with h | h
    ·exact h.elim
    ·have := D3.out.size; omega
   have s0 := R4.out.c0
   have s1 := R4.out.c1
   have s2 := R4.out.c2
   have sf := R4.out.frozen
   clear hs4 hb4 r0 r1 r2 rf
   go_wp2_with fail
   refine bodyPost_ret (v := .tuple #[.agg #[.int .i64 2, .int .i64 0, .slice a4 1 c4], .int .i64 ((i : Int) + 1)]) (by simp [results, Tryz.results10, go_sem, World.cell?_setCell_same, World.cell?_setCell_other, s0, s1, s2]) rfl ?_
   exact lfY_end (t := ⟨2, 0, [⟨1, 0, []⟩]⟩) (k := i + 1) (Nat.le_refl _) (by omega) (by omega) E4.out S4.out _ _ _ HI1.out.symm ⟨err_one0.2 ⟨knE_zero.2 ⟨by omega, rfl, by omega, by simp [mostK]⟩, err_one0.2 ⟨knE_zero.2 ⟨by omega, rfl, by omega, by simp [mostK, deepK]⟩, by simp [errM]⟩⟩, by simp [sizeM]; omega, by simp [csL]⟩
  | false =>
   have h3m := hb3 rfl
   clear hb3
   go_wp2_with fail
   refine (pick_any (k0 : Int) 6 (by omega) (by omega) (by omega) _).mono ?_
   rintro e w2 ⟨q, rfl, hq, rfl⟩
   by_cases hq3 : (q : Int) < 3
   ·have g1 : decide ((q : Int) < 3) = true := decide_eq_true hq3
    have hI := lamFromZ_at zs _ HRNG.out hzl m (m - 1) (i + 1) 1 (by omega) (by omega) (by omega) (by omega) w2 _ (HU.out.later B1.out)
    have e1 : ((m - 1 : Nat) : Int) = (m : Int) - 1 := by omega
    have e2 : ((1 : Nat) : Int) = 1 := rfl
    rw [e1, e2, HI1.out] at hI
    have HI := hide hI
    have hT : tpQ (m - 1) + 1 ≤ tpQ m ∧ tpQ (m - 1) + 1 ≤ tpY m := ⟨tpQ_step h3m, tpY_step h3m⟩
    have HT := hide hT
    clear hI e1 e2 hT
    go_wp2_with fail
    refine HI.out.mono ?_
    rintro e w3 ⟨t, k, a, c, rfl, hk1, hk2, hs3, hb3, hg3'⟩
    have HG3 := hide hg3'
    clear hg3'
    have BA : Hid (Below w3.heap.size w3 (w3.alloc (.cells #[.int .i64 t.kind, .int .i64 t.idx, .slice a t.subs.length c] 25))) := (Below.refl _ _).alloc (Nat.le_refl _) _
    have hz3 := hb3.size
    have B3 := hide (B1.out.trans (hb3.mono (by omega)))
    have BB := hide (hb3.trans (BA.out.mono hz3))
    have HS3 := hide (hs3.later BA.out)
    have KA : Hid (Blk (w3.alloc (.cells #[.int .i64 t.kind, .int .i64 t.idx, .slice a t.subs.length c] 25)) w3.heap.size #[.int .i64 t.kind, .int .i64 t.idx, .slice a t.subs.length c] 25) := Blk.new _ _ _
    have q0 := KA.out.cell 0
    have q1 := KA.out.cell 1
    have q2 := KA.out.cell 2
    simp only [List.getElem?_toArray, List.getElem?_cons_succ, List.getElem?_cons_zero] at q0 q1 q2
    clear hb3 hs3
    go_wp2_with fail
    refine (funQ_any t _ _ _ ⟨a, c, rfl, HS3.out⟩).mono ?_
    rintro e w4 ⟨a4, c4, rfl, hs4, hb4⟩
    have hz4 := hb4.size
    have B4 := hide (BB.out.trans (hb4.mono BB.out.size))
    have R4 := hide (R1.out.below B4.out (by omega))
    have S4 : Hid (SlM w4 (fun b => w.heap.size ≤ b ∧ b ≠ w.heap.size) a4 [t]) := hs4.mono fun b h _ => by
     rcases h with h | h
     ·omega
     ·have := BB.out.size; omega
    have E4 := hide (B1.out.trans (B4.out.mono (by omega)))
    have s0 := R4.out.c0
    have s1 := R4.out.c1
    have s2 := R4.out.c2
    have sf := R4.out.frozen
    clear q0 q1 q2 hs4 hb4 r0 r1 r2 rf
    go_wp2_with fail
    refine bodyPost_ret (v := .tuple #[.agg #[.int .i64 2, .int .i64 0, .slice a4 1 c4], .int .i64 (k : Int)]) (by simp [results, Tryz.results10, go_sem, World.cell?_setCell_same, World.cell?_setCell_other, s0, s1, s2]) rfl ?_
    exact lfY_end (t := ⟨2, 0, [t]⟩) (k := k) (Nat.le_refl _) (by omega) (by have := HT.out; omega) E4.out S4.out _ _ _ rfl ⟨err_one0.2 ⟨knE_zero.2 ⟨by omega, rfl, by omega, by simp [mostK]⟩, by simpa [deepK] using HG3.out.1⟩, by have h9 := HT.out; have := HG3.out.2.1; rw [sizeM_one]; omega, by rw [csL_one]; simpa using HG3.out.2.2⟩
   ·have g1 : decide ((q : Int) < 3) = false := decide_eq_false hq3
    have hI := HIH.out (m / 2) (i + 1) (by omega) (by omega) (by omega) w2 _ (HU.out.later B1.out)
    have e1 : ((m / 2 : Nat) : Int) = (m : Int) / 2 := by omega
    rw [e1, HI1.out] at hI
    have HI := hide hI
    have HE1 := hide e1
    have HT : Hid (2 * tpQ (m / 2) + 1 ≤ tpQ m ∧ 2 * tpY (m / 2) + 1 ≤ tpY m) := ⟨tpQ_half h3m, tpY_half h3m⟩
    have HT2 := hide (tpQ_le (m := m / 2) (by omega))
    clear hI e1
    go_wp2_with fail
    refine HI.out.mono ?_
    rintro e w3 ⟨t, k, a, c, rfl, hk1, hk2, hs3, hb3, hg3'⟩
    have HG3 := hide hg3'
    clear hg3'
    have BA : Hid (Below w3.heap.size w3 (w3.alloc (.cells #[.int .i64 t.kind, .int .i64 t.idx, .slice a t.subs.length c] 25))) := (Below.refl _ _).alloc (Nat.le_refl _) _
    have hz3 := hb3.size
    have BB := hide (hb3.trans (BA.out.mono hz3))
    have HS3 := hide (hs3.later BA.out)
    have KA : Hid (Blk (w3.alloc (.cells #[.int .i64 t.kind, .int .i64 t.idx, .slice a t.subs.length c] 25)) w3.heap.size #[.int .i64 t.kind, .int .i64 t.idx, .slice a t.subs.length c] 25) := Blk.new _ _ _
    have hJ := HIH.out (m / 2) k (by omega) (by have := HT2.out; omega) (by omega) (w3.alloc (.cells #[.int .i64 t.kind, .int .i64 t.idx, .slice a t.subs.length c] 25)) _ ((HU.out.later B1.out).later BB.out)
    rw [HE1.out] at hJ
    have HJ := hide hJ
    have HZA : Hid ((w3.alloc (.cells #[.int .i64 t.kind, .int .i64 t.idx, .slice a t.subs.length c] 25)).heap.size = w3.heap.size + 1) := by unfold Hid; simp
    clear hb3 hs3 hJ BA
    go_wp2_with fail
    generalize (w3.alloc (.cells #[.int .i64 t.kind, .int .i64 t.idx, .slice a t.subs.length c] 25)) = wA at *
    refine HJ.out.mono ?_
    rintro e w5 ⟨t5, k5, a5, c5, rfl, hk3, hk4, hs5, hb5, hg5'⟩
    have HG5 := hide hg5'
    clear hg5'
    have hz5 := hb5.size
    have hzA := HZA.out
    have BC : Hid (Below w5.heap.size w5 (w5.alloc (.cells #[.int .i64 t5.kind, .int .i64 t5.idx, .slice a5 t5.subs.length c5] 25))) := (Below.refl _ _).alloc (Nat.le_refl _) _
    have BD := hide (hb5.trans (BC.out.mono hz5))
    have KB := hide (KA.out.below BD.out (by omega))
    have KC : Hid (Blk (w5.alloc (.cells #[.int .i64 t5.kind, .int .i64 t5.idx, .slice a5 t5.subs.length c5] 25)) w5.heap.size #[.int .i64 t5.kind, .int .i64 t5.idx, .slice a5 t5.subs.length c5] 25) := Blk.new _ _ _
    have ST : Hid (SlM (w5.alloc (.cells #[.int .i64 t5.kind, .int .i64 t5.idx, .slice a5 t5.subs.length c5] 25)) (fun b => w2.heap.size ≤ b) a t.subs) := HS3.out.later BD.out
    have ST5 : Hid (SlM (w5.alloc (.cells #[.int .i64 t5.kind, .int .i64 t5.idx, .slice a5 t5.subs.length c5] 25)) (fun b => w2.heap.size ≤ b) a5 t5.subs) := (hs5.later BC.out).mono fun b h _ => by have := BB.out.size; omega
    have q0 := KB.out.cell 0
    have q1 := KB.out.cell 1
    have q2 := KB.out.cell 2
    have p0 := KC.out.cell 0
    have p1 := KC.out.cell 1
    have p2 := KC.out.cell 2
    simp only [List.getElem?_toArray, List.getElem?_cons_succ, List.getElem?_cons_zero] at q0 q1 q2 p0 p1 p2
    have BE := hide (BB.out.trans (BD.out.mono BB.out.size))
    clear hb5 hs5 hzA
    go_wp2_with fail
    refine (appQ_any t t5 _ _ _ (fun b => w2.heap.size ≤ b) ⟨a, c, rfl, ST.out⟩ ⟨a5, c5, rfl, ST5.out⟩).mono ?_
    rintro e w6 ⟨a6, c6, rfl, hs6, hb6⟩
    have B6 := hide (BE.out.trans (hb6.mono BE.out.size))
    have R6 := hide (R1.out.below B6.out (by omega))
    have S6 : Hid (SlM w6 (fun b => w.heap.size ≤ b ∧ b ≠ w.heap.size) a6 [t, t5]) := hs6.mono fun b h _ => by
     rcases h with h | h
     ·omega
     ·have := BE.out.size; omega
    have E6 := hide (B1.out.trans (B6.out.mono (by omega)))
    have s0 := R6.out.c0
    have s1 := R6.out.c1
    have s2 := R6.out.c2
    have sf := R6.out.frozen
    clear q0 q1 q2 p0 p1 p2 hs6 hb6 r0 r1 r2 rf
    go_wp2_with fail
    refine bodyPost_ret (v := .tuple #[.agg #[.int .i64 3, .int .i64 0, .slice a6 2 c6], .int .i64 (k5 : Int)]) (by simp [results, Tryz.results10, go_sem, World.cell?_setCell_same, World.cell?_setCell_other, s0, s1, s2]) rfl ?_
    exact lfY_end (t := ⟨3, 0, [t, t5]⟩) (k := k5) (Nat.le_refl _) (by omega) (by have := HT.out; omega) E6.out S6.out _ _ _ rfl ⟨err_one0.2 ⟨knE_zero.2 ⟨by omega, rfl, by omega, by simp [mostK]⟩, by rw [show deepK 0 3 = 0 by simp [deepK]]; exact err_two0.2 ⟨HG3.out.1, HG5.out.1⟩⟩, by have h9 := HT.out; have := HG3.out.2.1; have := HG5.out.2.1; rw [sizeM_one, show sizeM [t, t5] = sizeM [t] + sizeM [t5] from sizeM_append [t] [t5]]; omega, by rw [csL_one, csL_cons, HG3.out.2.2, HG5.out.2.2]; rfl⟩
theorem lamOfRawY_any (i0 : Nat) (hi0 : i0 ≤ 100000) (zs : List Int) (u : Value) (hr : ∀ z ∈ zs, Rng z) (hzl : zs.length ≤ 1000000) (m : Nat) (h2 : 2 * m ≤ 700000) (h3 : m < 100000) (w : World) (X : Nat → Prop) (hu : PV w X u zs) :
  Calls Tryz.prog 4 #[u, .int .i64 (i0 : Int), .int .i64 (m : Int), .int .i64 0, .int .i64 0] w fun e w' => ∃ (t : Lm) (a : Option Addr) (c : Nat), e = .returned (.agg #[.int .i64 t.kind, .int .i64 t.idx, .slice a t.subs.length c]) ∧ SlM w' (fun b => w.heap.size ≤ b) a t.subs ∧ Below w.heap.size w w' ∧ errM 0 0 [t] = 0 ∧ sizeM [t] ≤ tpY m ∧ csL [t] = false := by
 have hB0 : Hid (Below w.heap.size w (w.alloc (.cells #[.int .i64 0, .int .i64 0, .slice none 0 0] 25))) := (Below.refl _ _).alloc (Nat.le_refl _) _
 have hR0 : Hid (Blk (w.alloc (.cells #[.int .i64 0, .int .i64 0, .slice none 0 0] 25)) w.heap.size #[.int .i64 0, .int .i64 0, .slice none 0 0] 25) := Blk.new _ _ _
 have CL := hide (lamFromY_at zs u hr hzl (m + 1) m i0 (Nat.lt_succ_self _) (by omega) h3 _ X (hu.later hB0.out))
 obtain ⟨ua, uc, rfl⟩ : ∃ ua uc, u = .slice ua zs.length uc := by
  obtain ⟨a, c, h, _⟩ := hu
  exact ⟨a, c, h⟩
 clear hu hr
 go_enter Tryz.func4, Tryz.ntmps4
 go_wp2_with fail
 refine CL.out.mono ?_
 rintro e w3 ⟨t, k, a, c, rfl, hk1, hk2, hs3, hb3, hg3'⟩
 have HG3 := hide hg3'
 clear hg3'
 have hz3 := hb3.size
 have BA : Hid (Below w3.heap.size w3 (w3.alloc (.cells #[.int .i64 t.kind, .int .i64 t.idx, .slice a t.subs.length c] 25))) := (Below.refl _ _).alloc (Nat.le_refl _) _
 have BB := hide (hb3.trans (BA.out.mono hz3))
 have E3 := hide (hB0.out.trans (BB.out.mono (by simp)))
 have R3 := hide (hR0.out.below BB.out (by simp))
 have S3 : Hid (SlM (w3.alloc (.cells #[.int .i64 t.kind, .int .i64 t.idx, .slice a t.subs.length c] 25)) (fun b => w.heap.size ≤ b ∧ b ≠ w.heap.size) a t.subs) := (hs3.mono fun b h _ => by simp at h; omega).later BA.out
 have KA : Hid (Blk (w3.alloc (.cells #[.int .i64 t.kind, .int .i64 t.idx, .slice a t.subs.length c] 25)) w3.heap.size #[.int .i64 t.kind, .int .i64 t.idx, .slice a t.subs.length c] 25) := Blk.new _ _ _
 have q0 := KA.out.cell 0
 have q1 := KA.out.cell 1
 have q2 := KA.out.cell 2
 have r0 := R3.out.cell 0
 have r1 := R3.out.cell 1
 have r2 := R3.out.cell 2
 have rf := R3.out.frozen
 simp only [List.getElem?_toArray, List.getElem?_cons_succ, List.getElem?_cons_zero] at q0 q1 q2 r0 r1 r2
 clear hb3 hs3
 go_wp2_with fail
 refine bodyPost_ret (v := .agg #[.int .i64 t.kind, .int .i64 t.idx, .slice a t.subs.length c]) (by simp [results, Tryz.results4, go_sem, World.cell?_setCell_same, World.cell?_setCell_other, r0, r1, r2]) rfl ?_
 refine ⟨t, a, c, rfl, (S3.out.kept fun q hq => ?_).mono fun b h _ => h.1, ((E3.out.setCell (p := ⟨w.heap.size, 0, none⟩) (by simp) _).setCell (p := ⟨w.heap.size, 1, none⟩) (by simp) _).setCell (p := ⟨w.heap.size, 2, none⟩) (by simp) _, HG3.out⟩
 rw [Below.heap_setCell _ _ _ _ (by simpa using hq.2), Below.heap_setCell _ _ _ _ (by simpa using hq.2), Below.heap_setCell _ _ _ _ (by simpa using hq.2)]
end Go.Proofs.YthnncjgjmohinaaGreatDoor
