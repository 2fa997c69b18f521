import Derived.Test.YtbnmlkaejdpigaaGreatDoorK4
namespace Go.Proofs.YtbnmlkaejdpigaaGreatDoor
open Go.RowKit
set_option linter.unusedSimpArgs false
set_option linter.unusedVariables false
set_option maxRecDepth 8000
def BiP (w : World) (S q : Nat) (X : Nat → Prop) (Z : List Zp) (s : List Bd) (left : Int) (x : ByteArray) (u : Tm) (b o : Nat) (e : Ending) (w' : World) : Prop :=
 ∃ (code n : Int) (Z' : List Zp), e = .returned (.int .i64 code) ∧ SkS w' S q X Z' n ∧ (∀ z ∈ Z', errL [z.t] = 0) ∧ ExQ (SkQ S q) w w' ∧ n ≤ left ∧ -2 ≤ n ∧ (n < 0 → code ≠ 0) ∧
  ((u.name = x ∧ code = 0 ∧ Z' = Z) ∨ (u.name ≠ x ∧ code = 6 ∧ Z' = Z ∧ (0 ≤ n → occL x [onT s u])) ∨ (u.name ≠ x ∧ code = 0 ∧ Z' = Z ++ [⟨x, u, b, o⟩] ∧ ¬ occL x [onT s u]))
set_option maxHeartbeats 1000000 in
theorem skBind_any (S q : Nat) (X : Nat → Prop) (Z : List Zp) (s : List Bd) (hC : Clo Z s) (x : ByteArray) (hx : ∀ d ∈ s, d.nm ≠ x) (left : Int) (u : Tm) (b o : Nat) (w : World) (h0 : 0 ≤ left) (h1 : left ≤ 100000) (hS : SkS w S q X Z left) (hP : PX w X b o u) (he : errL [u] = 0) :
  Calls Tryz.prog 99 #[.pointer (some ⟨S, 0, none⟩), .string x, .pointer (some ⟨b, o, none⟩)] w fun e w' => BiP w S q X Z s left x u b o e w' := by
 have HS := hide hS
 have HP := hide hP
 have HC := hide hC
 have HZ := hide hC.errs
 have HX := hide hx
 obtain ⟨⟨a1, c1, p0, p1, hsl, hbl⟩, hXb⟩ := hP
 clear hS hC hsl hx
 cases hnm : (u.name.toList == x.toList) with
 | true =>
  have hn : u.name = x := bytes_inj (by simpa using hnm)
  go_enter Tryz.func99, Tryz.ntmps99
  go_wp2_with fail
  refine bodyPost_ret (v := .int .i64 0) (by simp [results, Tryz.results99, go_sem]) rfl ?_
  exact ⟨0, left, Z, rfl, HS.out, HZ.out, ExQ.refl _ _, Int.le_refl _, by omega, fun h => absurd h (by omega), Or.inl ⟨hn, rfl, rfl⟩⟩
 | false =>
  have HN : Hid (u.name ≠ x) := fun e => by rw [e] at hnm; simp at hnm
  go_enter Tryz.func99, Tryz.ntmps99
  go_wp2_with fail
  refine (skHolds_any S q X Z HZ.out x left.toNat left u b o w rfl h0 h1 HS.out HP.out he).mono ?_
  rintro e w1 ⟨r, n, rfl, hS1, hE1, hn1, hn2, hr1, hc1⟩
  have HS1 := hide hS1
  have HE1 := hide hE1
  have HC1 := hide hc1
  cases r with
  | true =>
   clear hS1 hE1 hc1
   go_wp2_with fail
   refine bodyPost_ret (v := .int .i64 6) (by simp [results, Tryz.results99, go_sem]) rfl ?_
   exact ⟨6, n, Z, rfl, HS1.out, HZ.out, HE1.out, by omega, hn2, fun _ => by decide, Or.inr (Or.inl ⟨HN.out, rfl, rfl, fun h => (HC1.out h s HC.out HX.out).1 (by simp)⟩)⟩
  | false =>
   have hn7 : 0 ≤ n := by
    by_cases h : n < 0
    ·have := hr1 h; cases this
    ·omega
   have HO : Hid (¬ occL x [onT s u]) := fun hoc => by
    have := (HC1.out hn7 s HC.out HX.out).2 hoc
    cases this
   have hg : mapGet (Z.map ptZ) x = none := by
    rcases mapGet_ptZ (Z := Z) (n := x) with ⟨hg, _⟩ | ⟨z, hz, e, _⟩
    ·exact hg
    ·exact absurd e (HC.out.fresh HX.out z hz)
   have s0 : w1.cell? ⟨S, 0, none⟩ = some (.map (some q)) := hS1.1.cell 0
   obtain ⟨w8, hrun, hM8, hz8, ho8, ht8, hu8, hk8⟩ := run_put (P := Tryz.prog) Tryz.underlying119 Tryz.underlying9 hS1.2.1 x (.pointer (some ⟨b, o, none⟩)) hg
   have hE8 : ExQ (SkQ S q) w1 w8 := ⟨ho8, ht8, hu8, by rw [hz8]; exact Nat.le_refl _, fun k hk hn => hk8 k (fun e => hn (Or.inr e))⟩
   have HE8 := hide (hE1.trans hE8)
   have HS8 : Hid (SkS w8 S q X (Z ++ [⟨x, u, b, o⟩]) n) := by
    refine ⟨?_, by rw [List.map_append]; exact hM8, fun z hz => ?_, hS1.2.2.2⟩
    ·have h2 := hS1.1
     unfold Blk at h2 ⊢
     rw [hk8 S hS1.ne]; exact h2
    ·rcases List.mem_append.1 hz with hz | hz
     ·exact (hS1.2.2.1 z hz).exq hE8 hS1.X
     ·have e : z = ⟨x, u, b, o⟩ := by simpa using hz
      subst e
      exact (HP.out.exq hE1 hS1.X).exq hE8 hS1.X
   have HZ8 : Hid (∀ z ∈ Z ++ [(⟨x, u, b, o⟩ : Zp)], errL [z.t] = 0) := fun z hz => by
    rcases List.mem_append.1 hz with hz | hz
    ·exact HZ.out z hz
    ·have e : z = ⟨x, u, b, o⟩ := by simpa using hz
     subst e; exact he
   clear hS1 hE1 hc1 hM8 hz8 ho8 ht8 hu8 hk8 hE8 hg
   go_wp2_with fail
   refine bodyPost_ret (v := .int .i64 0) (by simp [results, Tryz.results99, go_sem]) rfl ?_
   exact ⟨0, n, _, rfl, HS8.out, HZ8.out, HE8.out, by omega, hn2, fun h => absurd h (by omega), Or.inr (Or.inr ⟨HN.out, rfl, rfl, HO.out⟩)⟩
def CoP (w : World) (S q : Nat) (X : Nat → Prop) (Z : List Zp) (left : Int) (t : Tm) (before : Nat) (e : Ending) (w' : World) : Prop :=
 ∃ (c : Nat) (n : Int), e = .returned (.int .i64 (c : Int)) ∧ SkS w' S q X Z n ∧ ExQ (SkQ S q) w w' ∧ n ≤ left ∧ (-1 ≤ n ∨ n = left) ∧ before < c ∧ c ≤ 2001 ∧ (n < 0 → 2000 < c) ∧ ∀ s, Clo Z s → c ≤ 2000 → c = before + sizeL [onT s t]
def CoI (w : World) (S q : Nat) (X : Nat → Prop) (Z : List Zp) (left : Int) (b1 o1 : Nat) (t1 : Tm) (before : Nat) (cv i : Value) (wr : World) : Prop :=
 ∃ (k c : Nat) (n : Int), k ≤ t1.args.length ∧ i = .int .i64 (k : Int) ∧ cv = .int .i64 (c : Int) ∧ PX wr X b1 o1 t1 ∧ SkS wr S q X Z n ∧ ExQ (SkQ S q) w wr ∧ n ≤ left ∧ (-1 ≤ n ∨ n = left) ∧ before < c ∧ c ≤ 2001 ∧ (n < 0 → 2000 < c) ∧ ∀ s, Clo Z s → c ≤ 2000 → c = before + 1 + sizeL (onL s (t1.args.take k))
set_option maxHeartbeats 2000000 in
theorem skCount_any (S q : Nat) (X : Nat → Prop) (Z : List Zp) (hZ : ∀ z ∈ Z, errL [z.t] = 0) (m : Nat) : ∀ (before : Nat) (left : Int) (t : Tm) (b o : Nat) (w : World), 2001 - before = m → before ≤ 2000 → -100 ≤ left → left ≤ 100000 → SkS w S q X Z left → PX w X b o t → errL [t] = 0 →
  Calls Tryz.prog 100 #[.pointer (some ⟨S, 0, none⟩), .pointer (some ⟨b, o, none⟩), .int .i64 (before : Int)] w fun e w' => CoP w S q X Z left t before e w' := by
 induction m using Nat.strongRecOn with
 | _ m ih =>
  intro before left t b o w hm hbe h0 h1 hS hP he
  have IH := hide ih
  have HS := hide hS
  have HP := hide hP
  clear ih hS hP
  go_enter Tryz.func100, Tryz.ntmps100
  go_wp2_with fail
  refine (skLook_any S q X Z hZ left t b o w HS.out h0 h1 HP.out he).mono ?_
  rintro e w1 ⟨b1, o1, t1, n, rfl, hS1, hP1, hE1, hn1, hn2, he1, hc1⟩
  have HS1 := hide hS1
  have HP1 := hide hP1
  have HE1 := hide hE1
  have HC1 := hide hc1
  have HSX := hide hS1.X
  have s1 : w1.cell? ⟨S, 1, none⟩ = some (.int .i64 n) := hS1.1.cell 1
  obtain ⟨⟨a1, c1, p0, p1, hsl, hbl⟩, hXb⟩ := hP1
  have hl1 := hsl.1
  clear hS1 hE1 hc1 hsl
  by_cases hlt : n < 0
  ·go_wp2_with fail
   refine bodyPost_ret (v := .int .i64 2001) (by simp [results, Tryz.results100, go_sem]) rfl ?_
   exact ⟨2001, n, rfl, HS1.out, HE1.out, hn1, hn2, by omega, by omega, fun _ => by omega, fun _ _ h => absurd h (by omega)⟩
  ·have HFR : Hid (∀ s, Clo Z s → sizeL [onT s t] = 1 + sizeL (onL s t1.args)) := fun s hs => by
    rw [← (HC1.out s hs).1, ((HC1.out s hs).2 (by omega)).knot hs.1, size_sub]
   have hwrap : IntKind.i64.wrap ((before : Int) + 1) = (before : Int) + 1 := by rw [IntKind.wrap_i64]; omega
   have hea : errL t1.args = 0 := err_sub he1
   go_wp2_with fail
   go_loopw [7, 24] (fun cv i wr => CoI w S q X Z left b1 o1 t1 before cv i wr) (fun cv i wr => t1.args.length - (intOf i).toNat)
   case atStart => exact ⟨0, before + 1, n, Nat.zero_le _, rfl, by go_num, HP1.out, HS1.out, HE1.out, hn1, hn2, by omega, by omega, fun h => absurd h (by omega), fun s _ _ => by simp [onL, sizeL]⟩
   case round =>
    obtain ⟨k, c, n2, hk, rfl, rfl, hP3, hS3, hE3, hn3, hn4, hc3, hc4, hc5, hno⟩ := hrel
    have HP3 := hide hP3
    have HS3 := hide hS3
    have HE3 := hide hE3
    have HNO := hide hno
    obtain ⟨a', c', q1, _, hsub⟩ := hP3.sub
    clear hP3 hS3 hE3 hno p0 p1
    by_cases hlk : k < t1.args.length
    ·have hk2 : (k : Int) < (t1.args.length : Int) := by omega
     by_cases hgt : 2000 < c
     ·have hgt2 : (2000 : Int) < (c : Int) := by omega
      clear hsub
      go_wp2_with fail
      refine bodyPost_ret (v := .int .i64 (c : Int)) (by simp [results, Tryz.results100, go_sem]) rfl ?_
      exact ⟨c, n2, rfl, HS3.out, HE3.out, hn3, hn4, hc3, hc4, hc5, fun _ _ h => absurd h (by omega)⟩
     ·have hgt2 : ¬ (2000 : Int) < (c : Int) := by omega
      obtain ⟨b', o', rfl, hx⟩ := hsub k hlk
      have HIH := hide (IH.out (2001 - c) (by omega) c n2 t1.args[k] b' (o' + k * 2) wr rfl (by omega) (by omega) (by omega) HS3.out hx (err_at hea k hlk))
      clear hsub hx
      go_wp2_with fail
      refine HIH.out.mono ?_
      rintro e w5 ⟨c5, n5, rfl, hS5, hE5, hn5, hn6, hc6, hc7, hc8, hc9⟩
      have HS5 := hide hS5
      have HE5 := hide (HE3.out.trans hE5)
      have HP5 := hide (HP3.out.exq hE5 HSX.out)
      have HC5 := hide hc9
      clear hS5 hE5 hc9
      go_wp2_with fail
      go_roundw
      case rel => exact ⟨k + 1, c5, n5, by omega, by go_num, rfl, HP5.out, HS5.out, HE5.out, by omega, by omega, by omega, hc7, hc8, fun s hs h => by
       have h6 := HNO.out s hs (by omega)
       have h7 := HC5.out s hs h
       rw [List.take_succ_eq_append_getElem hlk, onL_append, sizeL_append, onL_cons]
       simp only [onL]
       omega⟩
      case measure => simp [intOf]; omega
    ·clear hsub
     go_wp2_with fail
     refine bodyPost_ret (v := .int .i64 (c : Int)) (by simp [results, Tryz.results100, go_sem]) rfl ?_
     refine ⟨c, n2, rfl, HS3.out, HE3.out, hn3, hn4, hc3, hc4, hc5, fun s hs h => ?_⟩
     have h6 := HNO.out s hs h
     rw [List.take_of_length_le (by omega)] at h6
     rw [HFR.out s hs]
     omega
end Go.Proofs.YtbnmlkaejdpigaaGreatDoor
