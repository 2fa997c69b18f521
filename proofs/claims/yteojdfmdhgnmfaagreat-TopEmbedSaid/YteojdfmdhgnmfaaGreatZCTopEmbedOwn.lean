/- Several texts in one. -/
import Derived.Test.YteojdfmdhgnmfaaGreatZBTopEmbedOwn
import Derived.Test.YteojdfmdhgnmfaaGreatZTopEmbedOwn
import Derived.Deep.RegionHeld3
import Derived.Test.YteojdfmdhgnmfaaGreatRows
import Derived.Deep.AppendSrc
import Derived.Lib.Builder

/- Walks: the face of package order. -/
namespace Go.Proofs.YteojdfmdhgnmfaaGreat
open Go.RowKit
set_option linter.unusedSimpArgs false
set_option linter.unusedVariables false
set_option maxRecDepth 8000

/-- What is wrong, first with the row, then with the terms. -/
def ordE (row : List ByteArray) (a b : Tm) : Int := if rowE row = 0 then twoE a b else rowE row
theorem ordE_zero {row : List ByteArray} {a b : Tm} (h : ordE row a b = 0) : rowE row = 0 ∧ mayE a = 0 ∧ mayE b = 0 := by
  unfold ordE at h
  split at h
  · rename_i h0
    unfold twoE at h
    split at h
    · rename_i h1
      exact ⟨h0, h1, h⟩
    · rename_i h1; exact absurd h h1
  · rename_i h0; exact absurd h h0
theorem mayE_zero {t : Tm} (h : mayE t = 0) : errL [t] = 0 ∧ sizeL [t] ≤ 200 := by
  unfold mayE at h
  split at h
  · exact absurd h (by decide)
  · exact ⟨h, by omega⟩
structure TwW (a b : Tm) (aa : Option Addr) (ca : Nat) (ab : Option Addr) (cb : Nat) (w wr : World) : Prop where
  k1 : Blk wr w.heap.size #[.string a.name, .slice aa a.args.length ca] 25
  k2 : Blk wr (w.heap.size + 1) #[.string b.name, .slice ab b.args.length cb] 25
  bl : Below w.heap.size w wr
theorem TwW.later {a b : Tm} {aa ab : Option Addr} {ca cb : Nat} {w w1 w2 : World} (h : TwW a b aa ca ab cb w w1) (hb : Below w1.heap.size w1 w2) : TwW a b aa ca ab cb w w2 := ⟨h.k1.below hb h.k1.lt, h.k2.below hb h.k2.lt, h.bl.trans (hb.mono h.bl.size)⟩
theorem TwW.start (a b : Tm) (aa : Option Addr) (ca : Nat) (ab : Option Addr) (cb : Nat) (w : World) : TwW a b aa ca ab cb w ((w.alloc (.cells #[.string a.name, .slice aa a.args.length ca] 25)).alloc (.cells #[.string b.name, .slice ab b.args.length cb] 25)) := by
  have k1 := Blk.new w #[.string a.name, .slice aa a.args.length ca] 25
  have e1 : (w.alloc (.cells #[.string a.name, .slice aa a.args.length ca] 25)).heap.size = w.heap.size + 1 := by simp
  have b1 := (Below.refl w.heap.size w).alloc (Nat.le_refl _) (.cells #[.string a.name, .slice aa a.args.length ca] 25)
  generalize (w.alloc (.cells #[.string a.name, .slice aa a.args.length ca] 25)) = w1 at *
  have k2 := Blk.new w1 #[.string b.name, .slice ab b.args.length cb] 25
  rw [e1] at k2
  exact ⟨k1.alloc _, k2, b1.alloc b1.size _⟩

set_option maxHeartbeats 2000000 in
theorem checkAllO_any (row : List ByteArray) (a b : Tm) (u va vb : Value) (w : World) (X : Nat → Prop) (hu : LV Value.string w X u row) (ha : TV w X va a) (hb : TV w X vb b) :
    Calls Tryz.prog 19 #[u, va, vb] w fun e w' => e = .returned (.int .i64 (ordE row a b)) ∧ Below w.heap.size w w' := by
  have HA := hide ha
  have HB := hide hb
  have HU := hide hu
  obtain ⟨aa, ca, rfl, hsa⟩ := ha
  obtain ⟨ab, cb, rfl, hsb⟩ := hb
  clear hsa hsb hu
  have A2 := hide (TwW.start a b aa ca ab cb w)
  go_enter Tryz.func19, Tryz.ntmps19
  go_wp2_with fail
  generalize ((w.alloc (.cells #[.string a.name, .slice aa a.args.length ca] 25)).alloc (.cells #[.string b.name, .slice ab b.args.length cb] 25)) = w2 at *
  refine (oCheck_any row _ _ X (by exact HU.out.later A2.out.bl)).mono ?_
  rintro e w3 ⟨rfl, hb3⟩
  have A3 := hide (A2.out.later hb3)
  clear hb3 A2
  have r0 : w3.cell? ⟨w.heap.size, 0, none⟩ = some (.string a.name) := A3.out.k1.cell 0
  have r1 : w3.cell? ⟨w.heap.size, 1, none⟩ = some (.slice aa a.args.length ca) := A3.out.k1.cell 1
  by_cases h0 : rowE row = 0
  · have HE : Hid (ordE row a b = twoE a b) := by unfold Hid ordE; rw [if_pos h0]
    rw [h0]
    clear h0
    go_wp2_with fail
    refine (check_any a _ _ X (by exact HA.out.later A3.out.bl)).mono ?_
    rintro e w4 ⟨rfl, hb4⟩
    have A4 := hide (A3.out.later hb4)
    clear hb4 A3 r0 r1
    have s0 : w4.cell? ⟨w.heap.size + 1, 0, none⟩ = some (.string b.name) := A4.out.k2.cell 0
    have s1 : w4.cell? ⟨w.heap.size + 1, 1, none⟩ = some (.slice ab b.args.length cb) := A4.out.k2.cell 1
    by_cases h1 : mayE a = 0
    · have HE2 : Hid (ordE row a b = mayE b) := by unfold Hid; rw [HE.out]; unfold twoE; rw [if_pos h1]
      rw [h1]
      clear h1
      go_wp2_with fail
      refine (check_any b _ _ X (by exact HB.out.later A4.out.bl)).mono ?_
      rintro e w5 ⟨rfl, hb5⟩
      have A5 := hide (A4.out.later hb5)
      clear hb5 A4 s0 s1
      go_wp2_with fail
      go_ret
      exact ⟨by rw [HE2.out]; rfl, A5.out.bl⟩
    · have HE2 : Hid (ordE row a b = mayE a) := by unfold Hid; rw [HE.out]; unfold twoE; rw [if_neg h1]
      have h1' : (mayE a == 0) = false := by simpa using h1
      go_wp2_with fail
      go_ret
      exact ⟨by rw [HE2.out]; rfl, A4.out.bl⟩
  · have HE : Hid (ordE row a b = rowE row) := by unfold Hid ordE; rw [if_neg h0]
    have h0' : (rowE row == 0) = false := by simpa using h0
    go_wp2_with fail
    go_ret
    exact ⟨by rw [HE.out]; rfl, A3.out.bl⟩

set_option maxHeartbeats 2000000 in
theorem oPath_any (row : List ByteArray) (a b : Tm) (u va vb : Value) (w : World) (X : Nat → Prop) (hu : LV Value.string w X u row) (ha : TV w X va a) (hb : TV w X vb b) :
    Calls Tryz.prog 10 #[u, va, vb] w fun e w' => e = .returned (.tuple #[.bool (decide (ordE row a b = 0) && pathB row a b), .int .i64 (ordE row a b)]) ∧ Below w.heap.size w w' := by
  have HA := hide ha
  have HB := hide hb
  have HU := hide hu
  obtain ⟨aa, ca, rfl, hsa⟩ := ha
  obtain ⟨ab, cb, rfl, hsb⟩ := hb
  clear hsa hsb hu
  have A2 := hide (TwW.start a b aa ca ab cb w)
  go_enter Tryz.func10, Tryz.ntmps10
  go_wp2_with fail
  generalize ((w.alloc (.cells #[.string a.name, .slice aa a.args.length ca] 25)).alloc (.cells #[.string b.name, .slice ab b.args.length cb] 25)) = w2 at *
  refine (checkAllO_any row a b _ _ _ _ X (by exact HU.out.later A2.out.bl) (by exact HA.out.later A2.out.bl) (by exact HB.out.later A2.out.bl)).mono ?_
  rintro e w3 ⟨rfl, hb3⟩
  have A3 := hide (A2.out.later hb3)
  clear hb3 A2
  have r0 : w3.cell? ⟨w.heap.size, 0, none⟩ = some (.string a.name) := A3.out.k1.cell 0
  have r1 : w3.cell? ⟨w.heap.size, 1, none⟩ = some (.slice aa a.args.length ca) := A3.out.k1.cell 1
  have s0 : w3.cell? ⟨w.heap.size + 1, 0, none⟩ = some (.string b.name) := A3.out.k2.cell 0
  have s1 : w3.cell? ⟨w.heap.size + 1, 1, none⟩ = some (.slice ab b.args.length cb) := A3.out.k2.cell 1
  by_cases h0 : ordE row a b = 0
  · have HR : Hid ((decide (ordE row a b = 0) && pathB row a b) = pathB row a b ∧ ordE row a b = 0) := by unfold Hid; rw [h0]; simp
    obtain ⟨e1, e2, e3⟩ := ordE_zero h0
    have HO := hide (rowE_once e1)
    have HA0 := hide (mayE_zero e2)
    have HB0 := hide (mayE_zero e3)
    rw [h0]
    clear h0 e1 e2 e3
    go_wp2_with fail
    refine (aPath_any row HO.out a b _ _ _ _ X HA0.out.1 HB0.out.1 (by have := HA0.out.2; omega) (by have := HB0.out.2; omega) (by exact HU.out.later A3.out.bl) (by exact HA.out.later A3.out.bl) (by exact HB.out.later A3.out.bl)).mono ?_
    rintro e w4 ⟨rfl, hb4⟩
    have A4 := hide (A3.out.later hb4)
    clear hb4 A3 r0 r1 s0 s1
    go_wp2_with fail
    go_ret2
    exact ⟨by rw [HR.out.1, HR.out.2]; rfl, A4.out.bl⟩
  · have HR : Hid ((decide (ordE row a b = 0) && pathB row a b) = false) := by unfold Hid; simp [h0]
    have h0' : (ordE row a b == 0) = false := by simpa using h0
    go_wp2_with fail
    go_ret2
    exact ⟨by rw [HR.out]; rfl, A3.out.bl⟩
#print axioms oPath_any

end Go.Proofs.YteojdfmdhgnmfaaGreat

/- Walks: numbers out of raw numbers. -/
namespace Go.Proofs.YteojdfmdhgnmfaaGreat
open Go.RowKit
set_option linter.unusedSimpArgs false
set_option linter.unusedVariables false
set_option maxRecDepth 8000

theorem mod_nat {x : Int} (hx : 0 ≤ x) {n : Nat} (hn : 0 < n) : ∃ k : Nat, x % (n : Int) = k ∧ k < n := by
  have h1 := Int.emod_nonneg x (b := (n : Int)) (by omega)
  have h2 := Int.emod_lt_of_pos x (b := (n : Int)) (by omega)
  exact ⟨(x % (n : Int)).toNat, by omega, by omega⟩

theorem pick_any (c : Int) (n : Nat) (hn : 0 < n) (hn2 : n ≤ 2000000) (hc : -9223372036854775808 ≤ c ∧ c ≤ 9223372036854775807) (w : World) :
    Calls Tryz.prog 5 #[.int .i64 c, .int .i64 (n : Int)] w fun e w' => ∃ k : Nat, e = .returned (.int .i64 (k : Int)) ∧ k < n ∧ w' = w := by
  go_enter Tryz.func5, Tryz.ntmps5
  by_cases h : c < 0
  · go_wp2_with fail
    go_ret
    obtain ⟨k, hk, hkn⟩ := mod_nat (x := -(c + 1)) (by omega) hn
    refine ⟨k, ?_, hkn, rfl⟩
    have h1 : -(c + 1).tmod (n : Int) = k := by rw [← Int.neg_tmod, Int.tmod_eq_emod_of_nonneg (by omega)]; exact hk
    simp [h1]
  · go_wp2_with fail
    go_ret
    obtain ⟨k, hk, hkn⟩ := mod_nat (x := c) (by omega) hn
    exact ⟨k, by simp [hk], hkn, rfl⟩

def pickN (c : Int) (n : Nat) : Nat := if c < 0 then (-(c + 1) % (n : Int)).toNat else (c % (n : Int)).toNat
theorem pickN_lt (c : Int) (n : Nat) (hn : 0 < n) : pickN c n < n := by
  unfold pickN
  split
  · obtain ⟨k, hk, hkn⟩ := mod_nat (x := -(c + 1)) (by omega) hn
    rw [hk]; simpa using hkn
  · obtain ⟨k, hk, hkn⟩ := mod_nat (x := c) (by omega) hn
    rw [hk]; simpa using hkn

theorem pick_eq (c : Int) (n : Nat) (hn : 0 < n) (hn2 : n ≤ 2000000) (hc : -9223372036854775808 ≤ c ∧ c ≤ 9223372036854775807) (w : World) :
    Calls Tryz.prog 5 #[.int .i64 c, .int .i64 (n : Int)] w fun e w' => e = .returned (.int .i64 (pickN c n : Int)) ∧ w' = w := by
  go_enter Tryz.func5, Tryz.ntmps5
  by_cases h : c < 0
  · have HK : Hid (((pickN c n : Nat) : Int) = -(c + 1).tmod (n : Int)) := by
      obtain ⟨k, hk, hkn⟩ := mod_nat (x := -(c + 1)) (by omega) hn
      have h1 : -(c + 1).tmod (n : Int) = k := by rw [← Int.neg_tmod, Int.tmod_eq_emod_of_nonneg (by omega)]; exact hk
      unfold Hid pickN
      rw [h1, if_pos h, hk]; simp
    go_wp2_with fail
    go_ret
    exact ⟨by simp [HK.out], rfl⟩
  · have HK : Hid (((pickN c n : Nat) : Int) = c % (n : Int)) := by
      obtain ⟨k, hk, hkn⟩ := mod_nat (x := c) (by omega) hn
      unfold Hid pickN
      rw [if_neg h, hk]; simp
    go_wp2_with fail
    go_ret
    exact ⟨by simp [HK.out], rfl⟩

theorem wrapI (x : Int) (h : -9223372036854775808 ≤ x ∧ x ≤ 9223372036854775807) : IntKind.i64.wrap x = x := by
  rw [IntKind.wrap_i64]; omega

def Rng (z : Int) : Prop := -9223372036854775808 ≤ z ∧ z ≤ 9223372036854775807

set_option maxHeartbeats 1000000 in
theorem raw_any (zs : List Int) (u : Value) (w : World) (X : Nat → Prop) (hu : PV w X u zs) (hr : ∀ z ∈ zs, Rng z) (i : Nat) (hi : i ≤ 1000000) (hzl : zs.length ≤ 1000000) :
    Calls Tryz.prog 21 #[u, .int .i64 (i : Int)] w fun e w' => ∃ k : Nat, e = .returned (.int .i64 (k : Int)) ∧ k ≤ 100000000000 ∧ Below w.heap.size w w' := by
  obtain ⟨a, c, rfl, hl, h⟩ := hu
  by_cases h0 : zs.length = 0
  · go_enter Tryz.func21, Tryz.ntmps21
    go_wp2_with fail
    go_ret
    exact ⟨i * 31, by simp, by omega, Below.refl _ _⟩
  · rcases h with h | ⟨b, o, rfl, hX, hc⟩
    · subst h; simp at h0
    · have hpos : 0 < zs.length := by omega
      obtain ⟨m, hm, hlt⟩ := mod_nat (x := (i : Int)) (by omega) hpos
      obtain ⟨d, hd, hdl⟩ : ∃ d : Nat, (i : Int) / (zs.length : Int) = d ∧ d ≤ i := ⟨i / zs.length, by simp, Nat.div_le_self _ _⟩
      have hm2 : (i : Int).tmod (zs.length : Int) = m := by rw [Int.tmod_eq_emod_of_nonneg (by omega)]; exact hm
      have hd2 : (i : Int).tdiv (zs.length : Int) = d := by rw [Int.tdiv_eq_ediv_of_nonneg (by omega)]; exact hd
      have hcc := hc m hlt
      have hrg := hr _ (List.getElem_mem hlt)
      generalize zs[m] = z at *
      have hm0 : (0 : Int) ≤ (m : Int) := by omega
      have hm1 : (m : Int) < (zs.length : Int) := by omega
      clear hc hr
      go_enter Tryz.func21, Tryz.ntmps21
      go_wp2_with fail
      go_region_held3 (fun w' => w'.cell? ⟨b, o + m, none⟩ = some (.int .i64 z)) (first | exact hcc | go_keep)
        ((go_at_call 5; refine (pick_any z 1000003 (by decide) (by decide) hrg _).mono ?_; rintro e w1 ⟨k, rfl, hk, rfl⟩))
      go_wp2_with fail
      go_ret
      refine ⟨k + d * 7919, by simp [wrapI (d : Int) (by omega), wrapI ((d : Int) * 7919) (by omega), wrapI ((k : Int) + (d : Int) * 7919) (by omega)], by omega, ?_⟩
      exact (Below.refl _ _).drew
#print axioms raw_any
#print axioms pick_any
end Go.Proofs.YteojdfmdhgnmfaaGreat

/- Walks: terms out of raw numbers. -/
namespace Go.Proofs.YteojdfmdhgnmfaaGreat
open Go.RowKit
set_option linter.unusedSimpArgs false
set_option linter.unusedVariables false
set_option maxRecDepth 8000

theorem leaf_any (s : ByteArray) (w : World) :
    Calls Tryz.prog 22 #[.string s] w fun e w' => e = .returned (.agg #[.string s, .slice none 0 0]) ∧ Below w.heap.size w w' := by
  go_enter Tryz.func22, Tryz.ntmps22
  go_wp2_with fail
  have hb := Blk.new w #[.string s, .slice none 0 0] 25
  have c0 := hb.cell 0
  have c1 := hb.cell 1
  refine bodyPost_ret (v := .agg #[.string s, .slice none 0 0]) (by simp [results, Tryz.results22, go_sem, c0, c1]) rfl ⟨rfl, (Below.refl _ _).alloc (Nat.le_refl _) _⟩

/-- How many knots at the most. -/
def top (m : Nat) : Nat := if m < 3 then 1 else 2 * m - 1

/-- No error, and no variables but the first ones. -/
def okV (nv : Nat) (l : List Tm) : Prop := errL l = 0 ∧ ∀ k ∈ preL l, varB k.name = true → k.name ∈ ([⟨#[88]⟩, ⟨#[89]⟩, ⟨#[90]⟩, ⟨#[85]⟩] : List ByteArray).take nv
def GrowPV (nv : Nat) (w : World) (i m : Nat) (e : Ending) (w' : World) : Prop :=
  ∃ (a : Option Addr) (c n : Nat) (t : Tm), e = .returned (.tuple #[.agg #[.string t.name, .slice a t.args.length c], .int .i64 (n : Int)]) ∧ Sl w' (fun b => w.heap.size ≤ b) a t.args ∧ t.args.length ≤ c ∧ c ≤ 9223372036854775807 ∧ sizeL [t] ≤ top m ∧ i ≤ n ∧ n ≤ i + top m ∧ Below w.heap.size w w' ∧ okV nv [t]

theorem top_pos (m : Nat) : 1 ≤ top m := by unfold top; split <;> omega

theorem top_step {m : Nat} (h : 3 ≤ m + 1) : top m + 1 ≤ top (m + 1) := by unfold top; split <;> split <;> omega

theorem top_half {m h : Nat} (hm : 3 ≤ m + 1) (hh : h = (m + 1) / 2) : 2 * top h + 1 ≤ top (m + 1) := by unfold top; split <;> split <;> omega

theorem err_leaf {s : ByteArray} (h : nameB s = true) : errL [(⟨s, []⟩ : Tm)] = 0 := by simp [errL, h]
theorem err_node {s : ByteArray} {l : List Tm} (h : nameB s = true) (hv : varB s = false) (hl : errL l = 0) : errL [(⟨s, l⟩ : Tm)] = 0 := by simp [errL, h, hv, hl]

theorem ok_node {nv : Nat} {s : ByteArray} {l : List Tm} (h : nameB s = true) (hv : varB s = false) (hl : okV nv l) : okV nv [(⟨s, l⟩ : Tm)] := by
  refine ⟨err_node h hv hl.1, fun k hk hvk => ?_⟩
  simp only [preL, List.append_nil, List.mem_cons] at hk
  rcases hk with rfl | hk
  · simp only at hvk
    rw [hv] at hvk; cases hvk
  · exact hl.2 k hk hvk
theorem preL_cons2 (t : Tm) (r : List Tm) : preL (t :: r) = preL [t] ++ preL r := by
  obtain ⟨s, l⟩ := t
  simp [preL]
theorem ok_two {nv : Nat} {a b : Tm} (ha : okV nv [a]) (hb : okV nv [b]) : okV nv [a, b] := by
  refine ⟨by rw [errL_cons, if_pos ha.1]; exact hb.1, fun k hk hv => ?_⟩
  rw [preL_cons2] at hk
  rcases List.mem_append.1 hk with hk | hk
  · exact ha.2 k hk hv
  · exact hb.2 k hk hv
theorem grow_leaf {nv : Nat} {w w' : World} {s : ByteArray} {i m : Nat} (hes : okV nv [(⟨s, []⟩ : Tm)]) (hb : Below w.heap.size w w') : GrowPV nv w i m (.returned (.tuple #[.agg #[.string s, .slice none 0 0], .int .i64 ((i : Int) + 1)])) w' := by
  have := top_pos m
  exact ⟨none, 0, i + 1, ⟨s, []⟩, by simp, ⟨by simp, Or.inl rfl⟩, by simp, by omega, by simp [sizeL]; omega, by omega, by omega, hb, hes⟩

theorem pick_var (w : World) (T k nv : Nat) (hk : k < nv) (hnv : nv ≤ 4) : ∃ s, okV nv [(⟨s, []⟩ : Tm)] ∧ (w.alloc (.cells #[.string ⟨#[88]⟩, .string ⟨#[89]⟩, .string ⟨#[90]⟩, .string ⟨#[85]⟩] T)).cell? ⟨w.heap.size, k, none⟩ = some (.string s) := by
  have h := heap_alloc_new w (.cells (([⟨#[88]⟩, ⟨#[89]⟩, ⟨#[90]⟩, ⟨#[85]⟩] : List ByteArray).map Value.string).toArray T)
  have hk4 : k < ([⟨#[88]⟩, ⟨#[89]⟩, ⟨#[90]⟩, ⟨#[85]⟩] : List ByteArray).length := by simp; omega
  refine ⟨([⟨#[88]⟩, ⟨#[89]⟩, ⟨#[90]⟩, ⟨#[85]⟩] : List ByteArray)[k], ⟨err_leaf ((show ∀ s ∈ ([⟨#[88]⟩, ⟨#[89]⟩, ⟨#[90]⟩, ⟨#[85]⟩] : List ByteArray), nameB s = true by decide) _ (List.getElem_mem hk4)), fun x hx _ => ?_⟩, ?_⟩
  · simp only [preL, List.append_nil, List.mem_cons, List.not_mem_nil, or_false] at hx
    rw [hx]
    rw [← List.getElem_take (h := by simp; omega) (j := nv)]
    exact List.getElem_mem _
  · have h2 := Lib.cell_of_heap h k
    refine h2.trans ?_
    rw [List.getElem?_toArray, List.getElem?_map, List.getElem?_eq_getElem hk4]
    rfl
theorem pick_const (w : World) (T k nv : Nat) (hk : k < 3) : ∃ s, okV nv [(⟨s, []⟩ : Tm)] ∧ (w.alloc (.cells #[.string ⟨#[97]⟩, .string ⟨#[98]⟩, .string ⟨#[99]⟩] T)).cell? ⟨w.heap.size, k, none⟩ = some (.string s) := by
  have h := heap_alloc_new w (.cells (([⟨#[97]⟩, ⟨#[98]⟩, ⟨#[99]⟩] : List ByteArray).map Value.string).toArray T)
  have hk4 : k < ([⟨#[97]⟩, ⟨#[98]⟩, ⟨#[99]⟩] : List ByteArray).length := by simpa using hk
  refine ⟨([⟨#[97]⟩, ⟨#[98]⟩, ⟨#[99]⟩] : List ByteArray)[k], ⟨err_leaf ((show ∀ s ∈ ([⟨#[97]⟩, ⟨#[98]⟩, ⟨#[99]⟩] : List ByteArray), nameB s = true by decide) _ (List.getElem_mem hk4)), fun x hx hv => ?_⟩, ?_⟩
  · simp only [preL, List.append_nil, List.mem_cons, List.not_mem_nil, or_false] at hx
    rw [hx] at hv
    have := (show ∀ s ∈ ([⟨#[97]⟩, ⟨#[98]⟩, ⟨#[99]⟩] : List ByteArray), varB s = false by decide) _ (List.getElem_mem hk4)
    rw [this] at hv; cases hv
  · have h2 := Lib.cell_of_heap h k
    refine h2.trans ?_
    rw [List.getElem?_toArray, List.getElem?_map, List.getElem?_eq_getElem hk4]
    rfl
theorem pick_cell (w : World) (l : List ByteArray) (T k : Nat) (hl : ∀ s ∈ l, nameB s = true) (hk : k < l.length) : ∃ s, errL [(⟨s, []⟩ : Tm)] = 0 ∧ (w.alloc (.cells (l.map Value.string).toArray T)).cell? ⟨w.heap.size, k, none⟩ = some (.string s) := by
  have h := heap_alloc_new w (.cells (l.map Value.string).toArray T)
  exact ⟨l[k], err_leaf (hl _ (List.getElem_mem hk)), by rw [Lib.cell_of_heap h]; simp [hk]⟩

theorem sl_one {w : World} {X Z : Nat → Prop} {B : Nat} {t : Tm} {a : Option Addr} {c T : Nat} (hb : w.heap[B]? = some (.cells #[.string t.name, .slice a t.args.length c] T (0, 0))) (hB : X B) (hs : Sl w Z a t.args) (hZ : ∀ b, Z b → b < w.heap.size → X b) : Sl w X (some ⟨B, 0, none⟩) [t] := by
  refine ⟨by simp, Or.inr ⟨B, 0, rfl, lies_mk _ _ _ fun i hi => ?_⟩⟩
  simp at hi
  subst hi
  exact ⟨hB, by simp [World.cell?, hb], a, c, by simp [World.cell?, hb], hs.mono hZ⟩

theorem grow_one {nv : Nat} {w w5 : World} {Z : Nat → Prop} {s : ByteArray} {i m n T : Nat} {a5 : Option Addr} {c5 : Nat} {t5 : Tm} {v0 v1 : Value} {o1 : Obj} (hB : Below w.heap.size w w5) (hlt : w.heap.size < w5.heap.size) (hs : Sl w5 Z a5 t5.args) (hZ : ∀ b, Z b → w.heap.size < b) (hz : sizeL [t5] ≤ top m) (hm : 3 ≤ m + 1) (hn : i ≤ n) (hn' : n ≤ i + 1 + top m) (hes : okV nv [(⟨s, [t5]⟩ : Tm)]) :
    GrowPV nv w i (m + 1) (.returned (.tuple #[.agg #[.string s, .slice (some ⟨w5.heap.size + 1, 0, none⟩) 1 1], .int .i64 (n : Int)])) ((((w5.setCell ⟨w.heap.size, 0, none⟩ v0).setCell ⟨w.heap.size, 1, none⟩ v1).alloc o1).alloc (.cells #[.string t5.name, .slice a5 t5.args.length c5] T)) := by
  have ht := top_step hm
  have hb0 : Below w.heap.size w (((w5.setCell ⟨w.heap.size, 0, none⟩ v0).setCell ⟨w.heap.size, 1, none⟩ v1).alloc o1) := ((hB.setCell (by simp) _).setCell (by simp) _).alloc (by simp [World.setCell]; omega) _
  refine ⟨some ⟨w5.heap.size + 1, 0, none⟩, 1, n, ⟨s, [t5]⟩, rfl, ?_, by simp, by omega, by simp [sizeL] at hz ⊢; omega, hn, by omega, hb0.alloc hb0.size _, hes⟩
  have hnew := heap_alloc_new (((w5.setCell ⟨w.heap.size, 0, none⟩ v0).setCell ⟨w.heap.size, 1, none⟩ v1).alloc o1) (.cells #[.string t5.name, .slice a5 t5.args.length c5] T)
  have e : (((w5.setCell ⟨w.heap.size, 0, none⟩ v0).setCell ⟨w.heap.size, 1, none⟩ v1).alloc o1).heap.size = w5.heap.size + 1 := by simp [World.setCell]
  rw [e] at hnew
  refine sl_one hnew (by omega) ((hs.mono (Y := fun b => Z b ∧ b < w5.heap.size) fun b h1 h2 => ⟨h1, h2⟩).kept (w' := _) fun b hb => ?_) (fun b hb _ => by have := hZ b hb.1; omega)
  have := hZ b hb.1
  rw [Below.heap_alloc _ _ _ (by rw [e]; omega), Below.heap_alloc _ _ _ (by simp [World.setCell]; omega), Below.heap_setCell _ _ _ _ (by simp; omega), Below.heap_setCell _ _ _ _ (by simp; omega)]

section
variable {P : Program} {ops : Array Oper} {Q : Exit → Act → World → Prop} {md : Region.Mode}
/-- A stronger condition held does as well. -/
theorem held_mono {S S' : World → Prop} (h : ∀ w, S' w → S w) : ∀ (fuel : Nat) (listed : Array Bool) (a : Act) (w : World), wpAnyH P md ops Q S' fuel listed a w → wpAnyH P md ops Q S fuel listed a w
  | 0, _, _, _, H => H
  | fuel + 1, listed, a, w, H => ⟨H.1, fun i hi => wpOp_mono (fun a' w' hh => ⟨h _ hh.1, held_mono h fuel _ a' w' hh.2⟩) (H.2 i hi)⟩
end

def TwoS (w5 w6 : World) (t5 t6 : Tm) (a5 a6 : Option Addr) (c5 c6 : Nat) (w' : World) : Prop :=
  Blk w' w5.heap.size #[.string t5.name, .slice a5 t5.args.length c5] 25 ∧ Blk w' w6.heap.size #[.string t6.name, .slice a6 t6.args.length c6] 25
def TwoF (w5 w6 : World) (t5 t6 : Tm) (a5 a6 : Option Addr) (c5 c6 : Nat) (b : Nat) (w' : World) : Prop :=
  TwoS w5 w6 t5 t6 a5 a6 c5 c6 w' ∧ Blk w' b #[.string ⟨#[102]⟩, .string ⟨#[103]⟩] 9
theorem TwoS.alloc {w5 w6 : World} {t5 t6 : Tm} {a5 a6 : Option Addr} {c5 c6 : Nat} {w' : World} (h : TwoS w5 w6 t5 t6 a5 a6 c5 c6 w') (o : Obj) : TwoS w5 w6 t5 t6 a5 a6 c5 c6 (w'.alloc o) := ⟨h.1.alloc o, h.2.alloc o⟩
theorem TwoF.alloc {w5 w6 : World} {t5 t6 : Tm} {a5 a6 : Option Addr} {c5 c6 b : Nat} {w' : World} (h : TwoF w5 w6 t5 t6 a5 a6 c5 c6 b w') (o : Obj) : TwoF w5 w6 t5 t6 a5 a6 c5 c6 b (w'.alloc o) := ⟨h.1.alloc o, h.2.alloc o⟩

theorem blk_at {w : World} {n : Nat} (h : w.heap.size = n) (cs : Array Value) (T : Nat) : Blk (w.alloc (.cells cs T)) n cs T := h ▸ Blk.new w cs T
theorem two_endA {w5 w6 : World} {t5 t6 : Tm} {a5 a6 : Option Addr} {c5 c6 b : Nat} (v0 v1 : Value) (A : Obj) (hX : Blk w6 w5.heap.size #[.string t5.name, .slice a5 t5.args.length c5] 25) (hne : w5.heap.size ≠ b) :
    TwoF w5 w6 t5 t6 a5 a6 c5 c6 (w6.heap.size + 1) (((((w6.setCell ⟨b, 0, none⟩ v0).setCell ⟨b, 1, none⟩ v1).alloc (.cells #[.string t6.name, .slice a6 t6.args.length c6] 25)).alloc (.cells #[.string ⟨#[102]⟩, .string ⟨#[103]⟩] 9)).alloc A) :=
  ⟨⟨(((((hX.setOther 0 v0 hne).setOther 1 v1 hne).alloc _).alloc _).alloc _), ((blk_at (by simp [World.setCell]) _ _).alloc _).alloc _⟩, (blk_at (by simp [World.setCell]) _ _).alloc _⟩
theorem two_endB {w5 w6 : World} {t5 t6 : Tm} {a5 a6 : Option Addr} {c5 c6 b : Nat} (v0 v1 : Value) (A : Obj) (hX : Blk w6 w5.heap.size #[.string t5.name, .slice a5 t5.args.length c5] 25) (hne : w5.heap.size ≠ b) :
    TwoF w5 w6 t5 t6 a5 a6 c5 c6 (w6.heap.size + 1 + 1) (((((w6.setCell ⟨b, 0, none⟩ v0).setCell ⟨b, 1, none⟩ v1).alloc (.cells #[.string t6.name, .slice a6 t6.args.length c6] 25)).alloc A).alloc (.cells #[.string ⟨#[102]⟩, .string ⟨#[103]⟩] 9)) :=
  ⟨⟨(((((hX.setOther 0 v0 hne).setOther 1 v1 hne).alloc _).alloc _).alloc _), ((blk_at (by simp [World.setCell]) _ _).alloc _).alloc _⟩, (blk_at (by simp [World.setCell]) _ _)⟩

theorem sl_two {w : World} {X Z5 Z6 : Nat → Prop} {B : Nat} {t5 t6 : Tm} {a5 a6 : Option Addr} {c5 c6 T : Nat} (hb : Blk w B #[.string t5.name, .slice a5 t5.args.length c5, .string t6.name, .slice a6 t6.args.length c6] T) (hB : X B) (h5 : Sl w Z5 a5 t5.args) (h6 : Sl w Z6 a6 t6.args) (hZ5 : ∀ b, Z5 b → b < w.heap.size → X b) (hZ6 : ∀ b, Z6 b → b < w.heap.size → X b) : Sl w X (some ⟨B, 0, none⟩) [t5, t6] := by
  refine ⟨by simp, Or.inr ⟨B, 0, rfl, lies_mk _ _ _ fun i hi => ?_⟩⟩
  have h01 : i = 0 ∨ i = 1 := by simp at hi; omega
  rcases h01 with rfl | rfl
  · exact ⟨hB, hb.cell 0, a5, c5, hb.cell 1, h5.mono hZ5⟩
  · exact ⟨hB, hb.cell 2, a6, c6, hb.cell 3, h6.mono hZ6⟩

theorem two_world {w w6 : World} {Z : Nat → Prop} {a : Option Addr} {l : List Tm} {v0 v1 : Value} {o1 o2 o3 : Obj} (hs : Sl w6 Z a l) (hZ : ∀ b, Z b → w.heap.size < b) : Sl (((((w6.setCell ⟨w.heap.size, 0, none⟩ v0).setCell ⟨w.heap.size, 1, none⟩ v1).alloc o1).alloc o2).alloc o3).drew (fun b => Z b ∧ b < w6.heap.size) a l := by
  refine (hs.mono (Y := fun b => Z b ∧ b < w6.heap.size) fun b h1 h2 => ⟨h1, h2⟩).kept fun b hb => ?_
  have := hZ b hb.1
  show ((((((w6.setCell ⟨w.heap.size, 0, none⟩ v0).setCell ⟨w.heap.size, 1, none⟩ v1).alloc o1).alloc o2).alloc o3)).heap[b]? = w6.heap[b]?
  rw [Below.heap_alloc _ _ _ (by simp [World.setCell]; omega), Below.heap_alloc _ _ _ (by simp [World.setCell]; omega), Below.heap_alloc _ _ _ (by simp [World.setCell]; omega), Below.heap_setCell _ _ _ _ (by simp; omega), Below.heap_setCell _ _ _ _ (by simp; omega)]

theorem grow_two {nv : Nat} {w w6 : World} {Z5 Z6 : Nat → Prop} {s : ByteArray} {i m n T bA : Nat} {a5 a6 : Option Addr} {c5 c6 : Nat} {t5 t6 : Tm} {v0 v1 : Value} {o1 o2 o3 : Obj} (hB : Below w.heap.size w w6) (hlt : w.heap.size < w6.heap.size) (h5 : Sl w6 Z5 a5 t5.args) (h6 : Sl w6 Z6 a6 t6.args) (hZ5 : ∀ b, Z5 b → w.heap.size < b) (hZ6 : ∀ b, Z6 b → w.heap.size < b) (hbig : i ≤ n ∧ n ≤ i + top (m + 1) ∧ sizeL [t5] + sizeL [t6] + 1 ≤ top (m + 1)) (hes : okV nv [(⟨s, [t5, t6]⟩ : Tm)]) (hbA : w6.heap.size < bA)
    (hA : Blk (((((w6.setCell ⟨w.heap.size, 0, none⟩ v0).setCell ⟨w.heap.size, 1, none⟩ v1).alloc o1).alloc o2).alloc o3).drew bA #[.string t5.name, .slice a5 t5.args.length c5, .string t6.name, .slice a6 t6.args.length c6] T) :
    GrowPV nv w i (m + 1) (.returned (.tuple #[.agg #[.string s, .slice (some ⟨bA, 0, none⟩) 2 2], .int .i64 (n : Int)])) (((((w6.setCell ⟨w.heap.size, 0, none⟩ v0).setCell ⟨w.heap.size, 1, none⟩ v1).alloc o1).alloc o2).alloc o3).drew := by
  have hb0 : Below w.heap.size w (((((w6.setCell ⟨w.heap.size, 0, none⟩ v0).setCell ⟨w.heap.size, 1, none⟩ v1).alloc o1).alloc o2).alloc o3) := ((((hB.setCell (by simp) _).setCell (by simp) _).alloc (by simp [World.setCell]; omega) _).alloc (by simp [World.setCell]; omega) _).alloc (by simp [World.setCell]; omega) _
  refine ⟨some ⟨bA, 0, none⟩, 2, n, ⟨s, [t5, t6]⟩, rfl, ?_, by simp, by omega, ?_, hbig.1, hbig.2.1, hb0.drew, hes⟩
  · exact sl_two hA (by omega) (two_world h5 hZ5) (two_world h6 hZ6) (fun b hb _ => by have := hZ5 b hb.1; omega) (fun b hb _ => by have := hZ6 b hb.1; omega)
  · have := hbig.2.2
    have e : sizeL [t5, t6] = sizeL [t5] + sizeL [t6] := sizeL_append [t5] [t6]
    have e2 : sizeL [⟨s, [t5, t6]⟩] = 1 + sizeL [t5, t6] := by simp [sizeL]
    omega

theorem two_up {w5 w6 : World} {t5 t6 : Tm} {a5 a6 : Option Addr} {c5 c6 b : Nat} {w' : World} (h : TwoS w5 w6 t5 t6 a5 a6 c5 c6 w') (hF : Blk w' b #[.string ⟨#[102]⟩, .string ⟨#[103]⟩] 9) : TwoF w5 w6 t5 t6 a5 a6 c5 c6 b w' := ⟨h, hF⟩

set_option maxHeartbeats 8000000 in
theorem growV_any (nv : Nat) (hnv : 1 ≤ nv) (hnv4 : nv ≤ 4) (zs : List Int) (hr : ∀ z ∈ zs, Rng z) (hzl : zs.length ≤ 1000000) : ∀ (m i : Nat) (u : Value) (w : World) (X : Nat → Prop), PV w X u zs → m ≤ 100 → i + top m ≤ 1000 →
    Calls Tryz.prog 12 #[u, .int .i64 (i : Int), .int .i64 (m : Int), .int .i64 (nv : Int)] w fun e w' => GrowPV nv w i m e w' := by
  have hnvI : (0 : Int) < (nv : Int) := by omega
  intro m
  induction m using Nat.strongRecOn with
  | ind m ih =>
    intro i u w X hu hm hi
    have IH := hide ih
    clear ih
    have HU := hide hu
    clear hu
    go_enter Tryz.func12, Tryz.ntmps12
    go_wp2_with fail
    refine (raw_any zs _ _ X (by exact HU.out.alloc _) hr i (by omega) hzl).mono ?_
    rintro e w1 ⟨c, rfl, hc, hb1⟩
    have B1 := hide (((Below.refl w.heap.size w).alloc (Nat.le_refl _) (.cells #[.string ⟨#[]⟩, .slice none 0 0] 25)).trans (hb1.mono (by simp)))
    have R1 := hide ((Blk.new w #[.string ⟨#[]⟩, .slice none 0 0] 25).below hb1 (by simp))
    clear hb1
    by_cases h3 : m < 3
    · go_wp2_with fail
      refine (pick_any _ 3 (by decide) (by decide) ⟨by omega, by omega⟩ _).mono ?_
      rintro e w2 ⟨k2, rfl, hk2, rfl⟩
      by_cases h2 : 0 < k2
      · go_wp2_with fail
        refine (pick_any _ nv (by omega) (by omega) ⟨by omega, by omega⟩ _).mono ?_
        rintro e w3 ⟨k3, rfl, hk3, rfl⟩
        obtain ⟨s5, hes5, hs5⟩ := pick_var w2 9 k3 nv hk3 hnv4
        have hs6 : (w2.alloc (.cells #[.string ⟨#[88]⟩, .string ⟨#[89]⟩, .string ⟨#[90]⟩, .string ⟨#[85]⟩] 9)).cell? ⟨w2.heap.size, k3, none⟩ = some (.string s5) := hs5
        have hk4 : (k3 : Int) < 4 := by omega
        clear hs5
        go_wp2_with fail
        refine (leaf_any _ _).mono ?_
        rintro e w4 ⟨rfl, hb4⟩
        have R4 := hide ((R1.out.alloc _).below hb4 (by have := R1.out.lt; simp; omega))
        have B4 := hide ((B1.out.alloc B1.out.size _).trans (hb4.mono (by have := B1.out.size; simp; omega)))
        clear hb4 hs6
        have r0 : w4.cell? ⟨w.heap.size, 0, none⟩ = some (.string ⟨#[]⟩) := R4.out.cell 0
        have r1 : w4.cell? ⟨w.heap.size, 1, none⟩ = some (.slice none 0 0) := R4.out.cell 1
        have rf := R4.out.frozen
        go_wp2_with fail
        have q0 := ((R4.out.set 0 (.string s5)).set 1 (.slice none 0 0)).cell 0
        have q1 := ((R4.out.set 0 (.string s5)).set 1 (.slice none 0 0)).cell 1
        refine bodyPost_ret (v := .tuple #[.agg #[.string s5, .slice none 0 0], .int .i64 ((i : Int) + 1)]) (by simp [results, Tryz.results12, go_sem, q0, q1, World.cell?_setCell_same, World.cell?_setCell_other, r0, r1]) rfl ?_
        exact grow_leaf hes5 ((B4.out.setCell (by simp) _).setCell (by simp) _)
      · go_wp2_with fail
        refine (pick_any _ 3 (by decide) (by decide) ⟨by omega, by omega⟩ _).mono ?_
        rintro e w3 ⟨k3, rfl, hk3, rfl⟩
        obtain ⟨s5, hes5, hs5⟩ := pick_const w2 9 k3 nv hk3
        have hs6 : (w2.alloc (.cells #[.string ⟨#[97]⟩, .string ⟨#[98]⟩, .string ⟨#[99]⟩] 9)).cell? ⟨w2.heap.size, k3, none⟩ = some (.string s5) := hs5
        have hk4 : (k3 : Int) < 3 := by omega
        clear hs5
        go_wp2_with fail
        refine (leaf_any _ _).mono ?_
        rintro e w4 ⟨rfl, hb4⟩
        have R4 := hide ((R1.out.alloc _).below hb4 (by have := R1.out.lt; simp; omega))
        have B4 := hide ((B1.out.alloc B1.out.size _).trans (hb4.mono (by have := B1.out.size; simp; omega)))
        clear hb4 hs6
        have r0 : w4.cell? ⟨w.heap.size, 0, none⟩ = some (.string ⟨#[]⟩) := R4.out.cell 0
        have r1 : w4.cell? ⟨w.heap.size, 1, none⟩ = some (.slice none 0 0) := R4.out.cell 1
        have rf := R4.out.frozen
        go_wp2_with fail
        have q0 := ((R4.out.set 0 (.string s5)).set 1 (.slice none 0 0)).cell 0
        have q1 := ((R4.out.set 0 (.string s5)).set 1 (.slice none 0 0)).cell 1
        refine bodyPost_ret (v := .tuple #[.agg #[.string s5, .slice none 0 0], .int .i64 ((i : Int) + 1)]) (by simp [results, Tryz.results12, go_sem, q0, q1, World.cell?_setCell_same, World.cell?_setCell_other, r0, r1]) rfl ?_
        exact grow_leaf hes5 ((B4.out.setCell (by simp) _).setCell (by simp) _)
    · go_wp2_with fail
      refine (pick_any _ 5 (by decide) (by decide) ⟨by omega, by omega⟩ _).mono ?_
      rintro e w1b ⟨k1, rfl, hk1, rfl⟩
      by_cases h1 : k1 < 2
      · go_wp2_with fail
        refine (pick_any _ 3 (by decide) (by decide) ⟨by omega, by omega⟩ _).mono ?_
        rintro e w2 ⟨k2, rfl, hk2, rfl⟩
        by_cases h2 : 0 < k2
        · go_wp2_with fail
          refine (pick_any _ nv (by omega) (by omega) ⟨by omega, by omega⟩ _).mono ?_
          rintro e w3 ⟨k3, rfl, hk3, rfl⟩
          obtain ⟨s5, hes5, hs5⟩ := pick_var w2 9 k3 nv hk3 hnv4
          have hs6 : (w2.alloc (.cells #[.string ⟨#[88]⟩, .string ⟨#[89]⟩, .string ⟨#[90]⟩, .string ⟨#[85]⟩] 9)).cell? ⟨w2.heap.size, k3, none⟩ = some (.string s5) := hs5
          have hk4 : (k3 : Int) < 4 := by omega
          clear hs5
          go_wp2_with fail
          refine (leaf_any _ _).mono ?_
          rintro e w4 ⟨rfl, hb4⟩
          have R4 := hide ((R1.out.alloc _).below hb4 (by have := R1.out.lt; simp; omega))
          have B4 := hide ((B1.out.alloc B1.out.size _).trans (hb4.mono (by have := B1.out.size; simp; omega)))
          clear hb4 hs6
          have r0 : w4.cell? ⟨w.heap.size, 0, none⟩ = some (.string ⟨#[]⟩) := R4.out.cell 0
          have r1 : w4.cell? ⟨w.heap.size, 1, none⟩ = some (.slice none 0 0) := R4.out.cell 1
          have rf := R4.out.frozen
          go_wp2_with fail
          have q0 := ((R4.out.set 0 (.string s5)).set 1 (.slice none 0 0)).cell 0
          have q1 := ((R4.out.set 0 (.string s5)).set 1 (.slice none 0 0)).cell 1
          refine bodyPost_ret (v := .tuple #[.agg #[.string s5, .slice none 0 0], .int .i64 ((i : Int) + 1)]) (by simp [results, Tryz.results12, go_sem, q0, q1, World.cell?_setCell_same, World.cell?_setCell_other, r0, r1]) rfl ?_
          exact grow_leaf hes5 ((B4.out.setCell (by simp) _).setCell (by simp) _)
        · go_wp2_with fail
          refine (pick_any _ 3 (by decide) (by decide) ⟨by omega, by omega⟩ _).mono ?_
          rintro e w3 ⟨k3, rfl, hk3, rfl⟩
          obtain ⟨s5, hes5, hs5⟩ := pick_const w2 9 k3 nv hk3
          have hs6 : (w2.alloc (.cells #[.string ⟨#[97]⟩, .string ⟨#[98]⟩, .string ⟨#[99]⟩] 9)).cell? ⟨w2.heap.size, k3, none⟩ = some (.string s5) := hs5
          have hk4 : (k3 : Int) < 3 := by omega
          clear hs5
          go_wp2_with fail
          refine (leaf_any _ _).mono ?_
          rintro e w4 ⟨rfl, hb4⟩
          have R4 := hide ((R1.out.alloc _).below hb4 (by have := R1.out.lt; simp; omega))
          have B4 := hide ((B1.out.alloc B1.out.size _).trans (hb4.mono (by have := B1.out.size; simp; omega)))
          clear hb4 hs6
          have r0 : w4.cell? ⟨w.heap.size, 0, none⟩ = some (.string ⟨#[]⟩) := R4.out.cell 0
          have r1 : w4.cell? ⟨w.heap.size, 1, none⟩ = some (.slice none 0 0) := R4.out.cell 1
          have rf := R4.out.frozen
          go_wp2_with fail
          have q0 := ((R4.out.set 0 (.string s5)).set 1 (.slice none 0 0)).cell 0
          have q1 := ((R4.out.set 0 (.string s5)).set 1 (.slice none 0 0)).cell 1
          refine bodyPost_ret (v := .tuple #[.agg #[.string s5, .slice none 0 0], .int .i64 ((i : Int) + 1)]) (by simp [results, Tryz.results12, go_sem, q0, q1, World.cell?_setCell_same, World.cell?_setCell_other, r0, r1]) rfl ?_
          exact grow_leaf hes5 ((B4.out.setCell (by simp) _).setCell (by simp) _)
      · go_wp2_with fail
        refine (pick_eq ((c : Int) / 5) 4 (by decide) (by decide) ⟨by omega, by omega⟩ _).mono ?_
        rintro e w2 ⟨rfl, rfl⟩
        have hk4 := pickN_lt ((c : Int) / 5) 4 (by decide)
        generalize hke : pickN ((c : Int) / 5) 4 = k4 at *
        have HKE := hide hke
        clear hke
        obtain ⟨m, rfl⟩ : ∃ m', m = m' + 1 := ⟨m - 1, by omega⟩
        by_cases h40 : k4 = 0
        · subst h40
          go_wp2_with fail
          refine (IH.out m (by omega) (i + 1) _ _ X (by exact HU.out.later B1.out) (by omega) (by have := top_step (m := m) (by omega); omega)).mono ?_
          rintro e w5 ⟨a5, c5, n5, t5, rfl, hs5, hc5, hc5', hz5, hn5, hn5', hb5, he5⟩
          have R5 := hide (R1.out.below hb5 R1.out.lt)
          have B5 := hide (B1.out.trans (hb5.mono B1.out.size))
          have S5 := hide hs5
          have HE5 := hide he5
          clear he5
          have hlt5 : w.heap.size < w5.heap.size := R5.out.lt
          clear hb5 hs5
          have r0 : w5.cell? ⟨w.heap.size, 0, none⟩ = some (.string ⟨#[]⟩) := R5.out.cell 0
          have r1 : w5.cell? ⟨w.heap.size, 1, none⟩ = some (.slice none 0 0) := R5.out.cell 1
          have rf := R5.out.frozen
          go_wp2_with fail
          refine bodyPost_ret (v := .tuple #[.agg #[.string ⟨#[104]⟩, .slice (some ⟨w5.heap.size + 1, 0, none⟩) 1 1], .int .i64 (n5 : Int)]) (by simp [results, Tryz.results12, go_sem, World.cell?_setCell_same, World.cell?_setCell_other, r0, r1, hlt5, World.cell?_alloc_old]) rfl ?_
          exact grow_one B5.out hlt5 S5.out (fun b hb => Nat.lt_of_lt_of_le R1.out.lt hb) hz5 (by omega) (by omega) (by omega) (ok_node (by decide) (by decide) HE5.out)
        · by_cases h41 : k4 = 1
          · subst h41
            go_wp2_with fail
            refine (IH.out m (by omega) (i + 1) _ _ X (by exact HU.out.later B1.out) (by omega) (by have := top_step (m := m) (by omega); omega)).mono ?_
            rintro e w5 ⟨a5, c5, n5, t5, rfl, hs5, hc5, hc5', hz5, hn5, hn5', hb5, he5⟩
            have R5 := hide (R1.out.below hb5 R1.out.lt)
            have B5 := hide (B1.out.trans (hb5.mono B1.out.size))
            have S5 := hide hs5
            have HE5 := hide he5
            clear he5
            have hlt5 : w.heap.size < w5.heap.size := R5.out.lt
            clear hb5 hs5
            have r0 : w5.cell? ⟨w.heap.size, 0, none⟩ = some (.string ⟨#[]⟩) := R5.out.cell 0
            have r1 : w5.cell? ⟨w.heap.size, 1, none⟩ = some (.slice none 0 0) := R5.out.cell 1
            have rf := R5.out.frozen
            go_wp2_with fail
            refine bodyPost_ret (v := .tuple #[.agg #[.string ⟨#[107]⟩, .slice (some ⟨w5.heap.size + 1, 0, none⟩) 1 1], .int .i64 (n5 : Int)]) (by simp [results, Tryz.results12, go_sem, World.cell?_setCell_same, World.cell?_setCell_other, r0, r1, hlt5, World.cell?_alloc_old]) rfl ?_
            exact grow_one B5.out hlt5 S5.out (fun b hb => Nat.lt_of_lt_of_le R1.out.lt hb) hz5 (by omega) (by omega) (by omega) (ok_node (by decide) (by decide) HE5.out)
          · have h42 : 2 ≤ k4 := by omega
            obtain ⟨h, hh, hh2⟩ : ∃ h : Nat, ((m : Int) + 1) / 2 = h ∧ h = (m + 1) / 2 := ⟨(m + 1) / 2, by omega, rfl⟩
            have hth := top_half (m := m) (by omega) hh2
            have HH2 := hide hh2
            have hhb : h < m + 1 ∧ h ≤ 100 := by omega
            clear hh2
            go_wp2_with fail
            refine (IH.out h (by omega) (i + 1) _ _ X (by exact HU.out.later B1.out) (by omega) (by omega)).mono ?_
            rintro e w5 ⟨a5, c5, n5, t5, rfl, hs5, hc5, hc5', hz5, hn5, hn5', hb5, he5⟩
            have R5 := hide (R1.out.below hb5 R1.out.lt)
            have B5 := hide (B1.out.trans (hb5.mono B1.out.size))
            have S5 := hide hs5
            have HE5 := hide he5
            clear he5
            have X5 := hide (Blk.new w5 #[.string t5.name, .slice a5 t5.args.length c5] 25)
            have hlt5 : w.heap.size < w5.heap.size := R5.out.lt
            clear hb5 hs5
            go_wp2_with fail
            refine (IH.out h (by omega) n5 _ _ X (by exact HU.out.later (B5.out.alloc B5.out.size _)) (by omega) (by omega)).mono ?_
            rintro e w6 ⟨a6, c6, n6, t6, rfl, hs6, hc6, hc6', hz6, hn6, hn6', hb6, he6⟩
            have R6 := hide ((R5.out.alloc _).below hb6 (by simp; omega))
            have X6 := hide (X5.out.below hb6 (by simp))
            have B6 := hide ((B5.out.alloc B5.out.size _).trans (hb6.mono (by have := B5.out.size; simp; omega)))
            have S56 := hide ((S5.out.later ((Below.refl w5.heap.size w5).alloc (Nat.le_refl _) _)).later hb6)
            have S6 := hide hs6
            have HE6 := hide he6
            clear he6
            have hlt6 : w5.heap.size < w6.heap.size := X6.out.lt
            clear hb6 hs6
            go_wp2_with fail
            have Y6 := hide (Blk.new w6 #[.string t6.name, .slice a6 t6.args.length c6] 25)
            have x0 : ∀ o, (w6.alloc o).cell? ⟨w5.heap.size, 0, none⟩ = some (.string t5.name) := fun o => (X6.out.alloc o).cell 0
            have x1 : ∀ o, (w6.alloc o).cell? ⟨w5.heap.size, 1, none⟩ = some (.slice a5 t5.args.length c5) := fun o => (X6.out.alloc o).cell 1
            have y0 := Y6.out.cell 0
            have y1 := Y6.out.cell 1
            have r0 : w6.cell? ⟨w.heap.size, 0, none⟩ = some (.string ⟨#[]⟩) := R6.out.cell 0
            have r1 : w6.cell? ⟨w.heap.size, 1, none⟩ = some (.slice none 0 0) := R6.out.cell 1
            have rf := R6.out.frozen
            have HWR : Hid (IntKind.i64.wrap ((c : Int) / 5) = (c : Int) / 5) := wrapI _ ⟨by omega, by omega⟩
            have HPK : Hid (∀ w', Calls Tryz.prog 5 #[.int .i64 (IntKind.i64.wrap ((c : Int) / 5)), .int .i64 4] w' fun e w'' => e = .returned (.int .i64 (k4 : Int)) ∧ w'' = w') := fun w' => by
              have h1 := pick_eq ((c : Int) / 5) 4 (by decide) (by decide) ⟨by omega, by omega⟩ w'
              rw [HKE.out] at h1
              rw [HWR.out]
              exact h1
            have HBIG : Hid (i ≤ n6 ∧ n6 ≤ i + top (m + 1) ∧ sizeL [t5] + sizeL [t6] + 1 ≤ top (m + 1)) := ⟨by omega, by omega, by omega⟩
            have hw0 : IntKind.i64.wrap 0 = 0 := by decide
            have hw1 : IntKind.i64.wrap 1 = 1 := by decide
            have hlt56 : w.heap.size < w6.heap.size := by omega
            have hlt57 : w.heap.size < w6.heap.size + 1 := by omega
            have hlt58 : w.heap.size < w6.heap.size + 1 + 1 := by omega
            have r30 : ∀ o1 o2 o3, (((w6.alloc o1).alloc o2).alloc o3).cell? ⟨w.heap.size, 0, none⟩ = some (.string ⟨#[]⟩) := fun o1 o2 o3 => (((R6.out.alloc o1).alloc o2).alloc o3).cell 0
            have r31 : ∀ o1 o2 o3, (((w6.alloc o1).alloc o2).alloc o3).cell? ⟨w.heap.size, 1, none⟩ = some (.slice none 0 0) := fun o1 o2 o3 => (((R6.out.alloc o1).alloc o2).alloc o3).cell 1
            have r3f : ∀ o1 o2 o3 i, (((w6.alloc o1).alloc o2).alloc o3).frozen? ⟨w.heap.size, i, none⟩ = false := fun o1 o2 o3 => (((R6.out.alloc o1).alloc o2).alloc o3).frozen
            have HZ6 : Hid (∀ b, (w5.alloc (.cells #[.string t5.name, .slice a5 t5.args.length c5] 25)).heap.size ≤ b → w.heap.size < b) := fun b hb => by
              simp at hb
              omega
            obtain rfl | rfl : k4 = 2 ∨ k4 = 3 := by omega
            · clear hth hhb hh hn6 hn6' hz6 hz5 hn5 hn5' hc5 hc5' hc6 hc6' hi hm hc hr hzl h42 h41 h40 hk4 h1 hk1 h3
              have HS0 : TwoS w5 w6 t5 t6 a5 a6 c5 c6 (w6.alloc (.cells #[.string t6.name, .slice a6 t6.args.length c6] 25)).drew := ⟨X6.out.alloc _, Y6.out⟩
              refine wp_region_held_drew (S := TwoS w5 w6 t5 t6 a5 a6 c5 c6) (by kernel_rfl) HS0 (fun hHeld => ?_)
              refine wpAnyH_take (i := 1) (v := ?_) rfl (by kernel_rfl) (by kernel_rfl) (by kernel_rfl) (fun _ _ _ h => h) (Or.inl ⟨by rfl, ?_⟩) (by assumption) ?_
              rotate_left
              · intro w' hSw
                go_simp <;> with_reducible rfl
              try simp only [Act.put, List.setIfInBounds_toArray, List.set_cons_zero, List.set_cons_succ, List.getElem_toArray, List.getElem_cons_succ, List.getElem_cons_zero]
              refine wpAnyH_take (i := 2) (v := ?_) rfl (by kernel_rfl) (by kernel_rfl) (by kernel_rfl) (fun _ _ _ h => h) (Or.inl ⟨by rfl, ?_⟩) (by assumption) ?_
              rotate_left
              · intro w' hSw
                go_simp <;> with_reducible rfl
              try simp only [Act.put, List.setIfInBounds_toArray, List.set_cons_zero, List.set_cons_succ, List.getElem_toArray, List.getElem_cons_succ, List.getElem_cons_zero]
              refine wpAnyH_take (i := 7) (v := ?_) rfl (by kernel_rfl) (by kernel_rfl) (by kernel_rfl) (fun _ _ _ h => h) (Or.inl ⟨by rfl, ?_⟩) (by assumption) ?_
              rotate_left
              · intro w' hSw
                have k0 : w'.cell? ⟨w5.heap.size, 0, none⟩ = some (.string t5.name) := hSw.1.cell 0
                have k1 : w'.cell? ⟨w5.heap.size, 1, none⟩ = some (.slice a5 t5.args.length c5) := hSw.1.cell 1
                go_simp <;> with_reducible rfl
              try simp only [Act.put, List.setIfInBounds_toArray, List.set_cons_zero, List.set_cons_succ, List.getElem_toArray, List.getElem_cons_succ, List.getElem_cons_zero]
              refine wpAnyH_take (i := 8) (v := ?_) rfl (by kernel_rfl) (by kernel_rfl) (by kernel_rfl) (fun _ _ _ h => h) (Or.inl ⟨by rfl, ?_⟩) (by assumption) ?_
              rotate_left
              · intro w' hSw
                have k2 : w'.cell? ⟨w6.heap.size, 0, none⟩ = some (.string t6.name) := hSw.2.cell 0
                have k3 : w'.cell? ⟨w6.heap.size, 1, none⟩ = some (.slice a6 t6.args.length c6) := hSw.2.cell 1
                go_simp <;> with_reducible rfl
              try simp only [Act.put, List.setIfInBounds_toArray, List.set_cons_zero, List.set_cons_succ, List.getElem_toArray, List.getElem_cons_succ, List.getElem_cons_zero]
              refine wpAnyH_take (i := 11) (v := ?_) rfl (by kernel_rfl) (by kernel_rfl) (by kernel_rfl) (fun _ _ _ h => h) (Or.inl ⟨by rfl, ?_⟩) (by assumption) ?_
              rotate_left
              · intro w' hSw
                go_simp <;> with_reducible rfl
              try simp only [Act.put, List.setIfInBounds_toArray, List.set_cons_zero, List.set_cons_succ, List.getElem_toArray, List.getElem_cons_succ, List.getElem_cons_zero]
              refine wpAnyH_ready (rs := [0, 3, 9]) (by kernel_rfl) (by simp) ?_
              refine AllReadyH.cons rfl (fun K hK => ?_) (AllReadyH.cons rfl (fun K hK => ?_) (AllReadyH.cons rfl (fun K hK => ?_) AllReadyH.nil))
              · go_simp
                refine hK.out _ _ (by exact hHeld.alloc _) (fun hHeld => ?_)
                clear hK K
                try simp only [Act.put, List.setIfInBounds_toArray, List.set_cons_zero, List.set_cons_succ, List.getElem_toArray, List.getElem_cons_succ, List.getElem_cons_zero]
                refine held_mono (S' := TwoF w5 w6 t5 t6 a5 a6 c5 c6 (w6.heap.size + 1)) (fun _ h => h.1) _ _ _ _ ?_
                replace hHeld := two_up (b := w6.heap.size + 1) hHeld (by exact blk_at (w := w6.alloc (.cells #[.string t6.name, .slice a6 t6.args.length c6] 25)) (by simp) _ _)
                refine wpAnyH_ready (rs := [3, 9]) (by kernel_rfl) (by simp) ?_
                refine AllReadyH.cons rfl (fun K hK => ?_) (AllReadyH.cons rfl (fun K hK => ?_) AllReadyH.nil)
                · go_simp
                  go_at_call 5
                  refine (HPK.out _).mono ?_
                  rintro e w7 ⟨rfl, rfl⟩
                  go_simp
                  refine hK.out _ _ (by exact hHeld) (fun hHeld => ?_)
                  clear hK K
                  try simp only [Act.put, List.setIfInBounds_toArray, List.set_cons_zero, List.set_cons_succ, List.getElem_toArray, List.getElem_cons_succ, List.getElem_cons_zero]
                  refine wpAnyH_take (i := 4) (v := ?_) rfl (by kernel_rfl) (by kernel_rfl) (by kernel_rfl) (fun _ _ _ h => h) (Or.inl ⟨by rfl, ?_⟩) (by assumption) ?_
                  rotate_left
                  · intro w' hSw
                    go_simp <;> with_reducible rfl
                  try simp only [Act.put, List.setIfInBounds_toArray, List.set_cons_zero, List.set_cons_succ, List.getElem_toArray, List.getElem_cons_succ, List.getElem_cons_zero]
                  refine wpAnyH_take (i := 5) (v := ?_) rfl (by kernel_rfl) (by kernel_rfl) (by kernel_rfl) (fun _ _ _ h => h) (Or.inl ⟨by rfl, ?_⟩) (by assumption) ?_
                  rotate_left
                  · intro w' hSw
                    go_simp <;> with_reducible rfl
                  try simp only [Act.put, List.setIfInBounds_toArray, List.set_cons_zero, List.set_cons_succ, List.getElem_toArray, List.getElem_cons_succ, List.getElem_cons_zero]
                  refine wpAnyH_take (i := 6) (v := ?_) rfl (by kernel_rfl) (by kernel_rfl) (by kernel_rfl) (fun _ _ _ h => h) (Or.inl ⟨by rfl, ?_⟩) (by assumption) ?_
                  rotate_left
                  · intro w' hSw
                    have k4 : w'.cell? ⟨w6.heap.size + 1, 0, none⟩ = some (.string ⟨#[102]⟩) := hSw.2.cell 0
                    have k5 : w'.cell? ⟨w6.heap.size + 1, 1, none⟩ = some (.string ⟨#[103]⟩) := hSw.2.cell 1
                    go_simp <;> with_reducible rfl
                  try simp only [Act.put, List.setIfInBounds_toArray, List.set_cons_zero, List.set_cons_succ, List.getElem_toArray, List.getElem_cons_succ, List.getElem_cons_zero]
                  refine wpAnyH_ready (rs := [9]) (by kernel_rfl) (by simp) ?_
                  refine AllReadyH.cons rfl (fun K hK => ?_) AllReadyH.nil
                  · go_simp
                    refine hK.out _ _ (by exact hHeld.alloc _) (fun hHeld => ?_)
                    clear hK K
                    try simp only [Act.put, List.setIfInBounds_toArray, List.set_cons_zero, List.set_cons_succ, List.getElem_toArray, List.getElem_cons_succ, List.getElem_cons_zero]
                    refine wpAnyH_take (i := 10) (v := ?_) rfl (by kernel_rfl) (by kernel_rfl) (by kernel_rfl) (fun _ _ _ h => h) (Or.inl ⟨by rfl, ?_⟩) (by assumption) ?_
                    rotate_left
                    · intro w' hSw
                      go_simp <;> with_reducible rfl
                    try simp only [Act.put, List.setIfInBounds_toArray, List.set_cons_zero, List.set_cons_succ, List.getElem_toArray, List.getElem_cons_succ, List.getElem_cons_zero]
                    refine wpAnyH_ready (rs := [12]) (by kernel_rfl) (by simp) ?_
                    refine AllReadyH.cons rfl (fun K hK => ?_) AllReadyH.nil
                    · go_simp
                      refine hK.out _ _ (by exact two_endA _ _ _ X6.out (Nat.ne_of_gt hlt5)) (fun hHeld => ?_)
                      clear hK K
                      try simp only [Act.put, List.setIfInBounds_toArray, List.set_cons_zero, List.set_cons_succ, List.getElem_toArray, List.getElem_cons_succ, List.getElem_cons_zero]
                      refine wpAnyH_take (i := 13) (v := ?_) rfl (by kernel_rfl) (by kernel_rfl) (by kernel_rfl) (fun _ _ _ h => h) (Or.inl ⟨by rfl, ?_⟩) (by assumption) ?_
                      rotate_left
                      · intro w' hSw
                        go_simp <;> with_reducible rfl
                      try simp only [Act.put, List.setIfInBounds_toArray, List.set_cons_zero, List.set_cons_succ, List.getElem_toArray, List.getElem_cons_succ, List.getElem_cons_zero]
                      refine wpAnyH_done (by kernel_rfl) ?_ _
                      go_wp2_with fail
                      refine bodyPost_ret (v := .tuple #[.agg #[.string ⟨#[102]⟩, .slice (some ⟨w6.heap.size + 1 + 1, 0, none⟩) 2 2], .int .i64 (n6 : Int)]) (by simp [results, Tryz.results12, go_sem, World.cell?_setCell_same, World.cell?_setCell_other, r0, r1, hlt56, hlt57, hlt58, World.cell?_alloc_old]) rfl ?_
                      exact grow_two B6.out hlt56 S56.out S6.out (fun b hb => Nat.lt_of_lt_of_le R1.out.lt hb) HZ6.out HBIG.out (ok_node (by decide) (by decide) (ok_two HE5.out HE6.out)) (by omega) (by exact blk_at (by simp [World.setCell]) _ _)
                · go_simp
                  refine hK.out _ _ (by exact hHeld.alloc _) (fun hHeld => ?_)
                  clear hK K
                  try simp only [Act.put, List.setIfInBounds_toArray, List.set_cons_zero, List.set_cons_succ, List.getElem_toArray, List.getElem_cons_succ, List.getElem_cons_zero]
                  refine wpAnyH_ready (rs := [3]) (by kernel_rfl) (by simp) ?_
                  refine AllReadyH.cons rfl (fun K hK => ?_) AllReadyH.nil
                  · go_simp
                    go_at_call 5
                    refine (HPK.out _).mono ?_
                    rintro e w7 ⟨rfl, rfl⟩
                    go_simp
                    refine hK.out _ _ (by exact hHeld) (fun hHeld => ?_)
                    clear hK K
                    try simp only [Act.put, List.setIfInBounds_toArray, List.set_cons_zero, List.set_cons_succ, List.getElem_toArray, List.getElem_cons_succ, List.getElem_cons_zero]
                    refine wpAnyH_take (i := 4) (v := ?_) rfl (by kernel_rfl) (by kernel_rfl) (by kernel_rfl) (fun _ _ _ h => h) (Or.inl ⟨by rfl, ?_⟩) (by assumption) ?_
                    rotate_left
                    · intro w' hSw
                      go_simp <;> with_reducible rfl
                    try simp only [Act.put, List.setIfInBounds_toArray, List.set_cons_zero, List.set_cons_succ, List.getElem_toArray, List.getElem_cons_succ, List.getElem_cons_zero]
                    refine wpAnyH_take (i := 5) (v := ?_) rfl (by kernel_rfl) (by kernel_rfl) (by kernel_rfl) (fun _ _ _ h => h) (Or.inl ⟨by rfl, ?_⟩) (by assumption) ?_
                    rotate_left
                    · intro w' hSw
                      go_simp <;> with_reducible rfl
                    try simp only [Act.put, List.setIfInBounds_toArray, List.set_cons_zero, List.set_cons_succ, List.getElem_toArray, List.getElem_cons_succ, List.getElem_cons_zero]
                    refine wpAnyH_take (i := 6) (v := ?_) rfl (by kernel_rfl) (by kernel_rfl) (by kernel_rfl) (fun _ _ _ h => h) (Or.inl ⟨by rfl, ?_⟩) (by assumption) ?_
                    rotate_left
                    · intro w' hSw
                      have k4 : w'.cell? ⟨w6.heap.size + 1, 0, none⟩ = some (.string ⟨#[102]⟩) := hSw.2.cell 0
                      have k5 : w'.cell? ⟨w6.heap.size + 1, 1, none⟩ = some (.string ⟨#[103]⟩) := hSw.2.cell 1
                      go_simp <;> with_reducible rfl
                    try simp only [Act.put, List.setIfInBounds_toArray, List.set_cons_zero, List.set_cons_succ, List.getElem_toArray, List.getElem_cons_succ, List.getElem_cons_zero]
                    refine wpAnyH_take (i := 10) (v := ?_) rfl (by kernel_rfl) (by kernel_rfl) (by kernel_rfl) (fun _ _ _ h => h) (Or.inl ⟨by rfl, ?_⟩) (by assumption) ?_
                    rotate_left
                    · intro w' hSw
                      go_simp <;> with_reducible rfl
                    try simp only [Act.put, List.setIfInBounds_toArray, List.set_cons_zero, List.set_cons_succ, List.getElem_toArray, List.getElem_cons_succ, List.getElem_cons_zero]
                    refine wpAnyH_ready (rs := [12]) (by kernel_rfl) (by simp) ?_
                    refine AllReadyH.cons rfl (fun K hK => ?_) AllReadyH.nil
                    · go_simp
                      refine hK.out _ _ (by exact two_endA _ _ _ X6.out (Nat.ne_of_gt hlt5)) (fun hHeld => ?_)
                      clear hK K
                      try simp only [Act.put, List.setIfInBounds_toArray, List.set_cons_zero, List.set_cons_succ, List.getElem_toArray, List.getElem_cons_succ, List.getElem_cons_zero]
                      refine wpAnyH_take (i := 13) (v := ?_) rfl (by kernel_rfl) (by kernel_rfl) (by kernel_rfl) (fun _ _ _ h => h) (Or.inl ⟨by rfl, ?_⟩) (by assumption) ?_
                      rotate_left
                      · intro w' hSw
                        go_simp <;> with_reducible rfl
                      try simp only [Act.put, List.setIfInBounds_toArray, List.set_cons_zero, List.set_cons_succ, List.getElem_toArray, List.getElem_cons_succ, List.getElem_cons_zero]
                      refine wpAnyH_done (by kernel_rfl) ?_ _
                      go_wp2_with fail
                      refine bodyPost_ret (v := .tuple #[.agg #[.string ⟨#[102]⟩, .slice (some ⟨w6.heap.size + 1 + 1, 0, none⟩) 2 2], .int .i64 (n6 : Int)]) (by simp [results, Tryz.results12, go_sem, World.cell?_setCell_same, World.cell?_setCell_other, r0, r1, hlt56, hlt57, hlt58, World.cell?_alloc_old]) rfl ?_
                      exact grow_two B6.out hlt56 S56.out S6.out (fun b hb => Nat.lt_of_lt_of_le R1.out.lt hb) HZ6.out HBIG.out (ok_node (by decide) (by decide) (ok_two HE5.out HE6.out)) (by omega) (by exact blk_at (by simp [World.setCell]) _ _)
              · go_simp
                go_at_call 5
                refine (HPK.out _).mono ?_
                rintro e w7 ⟨rfl, rfl⟩
                go_simp
                refine hK.out _ _ (by exact hHeld) (fun hHeld => ?_)
                clear hK K
                try simp only [Act.put, List.setIfInBounds_toArray, List.set_cons_zero, List.set_cons_succ, List.getElem_toArray, List.getElem_cons_succ, List.getElem_cons_zero]
                refine wpAnyH_take (i := 4) (v := ?_) rfl (by kernel_rfl) (by kernel_rfl) (by kernel_rfl) (fun _ _ _ h => h) (Or.inl ⟨by rfl, ?_⟩) (by assumption) ?_
                rotate_left
                · intro w' hSw
                  go_simp <;> with_reducible rfl
                try simp only [Act.put, List.setIfInBounds_toArray, List.set_cons_zero, List.set_cons_succ, List.getElem_toArray, List.getElem_cons_succ, List.getElem_cons_zero]
                refine wpAnyH_ready (rs := [0, 9]) (by kernel_rfl) (by simp) ?_
                refine AllReadyH.cons rfl (fun K hK => ?_) (AllReadyH.cons rfl (fun K hK => ?_) AllReadyH.nil)
                · go_simp
                  refine hK.out _ _ (by exact hHeld.alloc _) (fun hHeld => ?_)
                  clear hK K
                  try simp only [Act.put, List.setIfInBounds_toArray, List.set_cons_zero, List.set_cons_succ, List.getElem_toArray, List.getElem_cons_succ, List.getElem_cons_zero]
                  refine held_mono (S' := TwoF w5 w6 t5 t6 a5 a6 c5 c6 (w6.heap.size + 1)) (fun _ h => h.1) _ _ _ _ ?_
                  replace hHeld := two_up (b := w6.heap.size + 1) hHeld (by exact blk_at (w := w6.alloc (.cells #[.string t6.name, .slice a6 t6.args.length c6] 25)) (by simp) _ _)
                  refine wpAnyH_take (i := 5) (v := ?_) rfl (by kernel_rfl) (by kernel_rfl) (by kernel_rfl) (fun _ _ _ h => h) (Or.inl ⟨by rfl, ?_⟩) (by assumption) ?_
                  rotate_left
                  · intro w' hSw
                    go_simp <;> with_reducible rfl
                  try simp only [Act.put, List.setIfInBounds_toArray, List.set_cons_zero, List.set_cons_succ, List.getElem_toArray, List.getElem_cons_succ, List.getElem_cons_zero]
                  refine wpAnyH_take (i := 6) (v := ?_) rfl (by kernel_rfl) (by kernel_rfl) (by kernel_rfl) (fun _ _ _ h => h) (Or.inl ⟨by rfl, ?_⟩) (by assumption) ?_
                  rotate_left
                  · intro w' hSw
                    have k4 : w'.cell? ⟨w6.heap.size + 1, 0, none⟩ = some (.string ⟨#[102]⟩) := hSw.2.cell 0
                    have k5 : w'.cell? ⟨w6.heap.size + 1, 1, none⟩ = some (.string ⟨#[103]⟩) := hSw.2.cell 1
                    go_simp <;> with_reducible rfl
                  try simp only [Act.put, List.setIfInBounds_toArray, List.set_cons_zero, List.set_cons_succ, List.getElem_toArray, List.getElem_cons_succ, List.getElem_cons_zero]
                  refine wpAnyH_ready (rs := [9]) (by kernel_rfl) (by simp) ?_
                  refine AllReadyH.cons rfl (fun K hK => ?_) AllReadyH.nil
                  · go_simp
                    refine hK.out _ _ (by exact hHeld.alloc _) (fun hHeld => ?_)
                    clear hK K
                    try simp only [Act.put, List.setIfInBounds_toArray, List.set_cons_zero, List.set_cons_succ, List.getElem_toArray, List.getElem_cons_succ, List.getElem_cons_zero]
                    refine wpAnyH_take (i := 10) (v := ?_) rfl (by kernel_rfl) (by kernel_rfl) (by kernel_rfl) (fun _ _ _ h => h) (Or.inl ⟨by rfl, ?_⟩) (by assumption) ?_
                    rotate_left
                    · intro w' hSw
                      go_simp <;> with_reducible rfl
                    try simp only [Act.put, List.setIfInBounds_toArray, List.set_cons_zero, List.set_cons_succ, List.getElem_toArray, List.getElem_cons_succ, List.getElem_cons_zero]
                    refine wpAnyH_ready (rs := [12]) (by kernel_rfl) (by simp) ?_
                    refine AllReadyH.cons rfl (fun K hK => ?_) AllReadyH.nil
                    · go_simp
                      refine hK.out _ _ (by exact two_endA _ _ _ X6.out (Nat.ne_of_gt hlt5)) (fun hHeld => ?_)
                      clear hK K
                      try simp only [Act.put, List.setIfInBounds_toArray, List.set_cons_zero, List.set_cons_succ, List.getElem_toArray, List.getElem_cons_succ, List.getElem_cons_zero]
                      refine wpAnyH_take (i := 13) (v := ?_) rfl (by kernel_rfl) (by kernel_rfl) (by kernel_rfl) (fun _ _ _ h => h) (Or.inl ⟨by rfl, ?_⟩) (by assumption) ?_
                      rotate_left
                      · intro w' hSw
                        go_simp <;> with_reducible rfl
                      try simp only [Act.put, List.setIfInBounds_toArray, List.set_cons_zero, List.set_cons_succ, List.getElem_toArray, List.getElem_cons_succ, List.getElem_cons_zero]
                      refine wpAnyH_done (by kernel_rfl) ?_ _
                      go_wp2_with fail
                      refine bodyPost_ret (v := .tuple #[.agg #[.string ⟨#[102]⟩, .slice (some ⟨w6.heap.size + 1 + 1, 0, none⟩) 2 2], .int .i64 (n6 : Int)]) (by simp [results, Tryz.results12, go_sem, World.cell?_setCell_same, World.cell?_setCell_other, r0, r1, hlt56, hlt57, hlt58, World.cell?_alloc_old]) rfl ?_
                      exact grow_two B6.out hlt56 S56.out S6.out (fun b hb => Nat.lt_of_lt_of_le R1.out.lt hb) HZ6.out HBIG.out (ok_node (by decide) (by decide) (ok_two HE5.out HE6.out)) (by omega) (by exact blk_at (by simp [World.setCell]) _ _)
                · go_simp
                  refine hK.out _ _ (by exact hHeld.alloc _) (fun hHeld => ?_)
                  clear hK K
                  try simp only [Act.put, List.setIfInBounds_toArray, List.set_cons_zero, List.set_cons_succ, List.getElem_toArray, List.getElem_cons_succ, List.getElem_cons_zero]
                  refine wpAnyH_ready (rs := [0]) (by kernel_rfl) (by simp) ?_
                  refine AllReadyH.cons rfl (fun K hK => ?_) AllReadyH.nil
                  · go_simp
                    refine hK.out _ _ (by exact hHeld.alloc _) (fun hHeld => ?_)
                    clear hK K
                    try simp only [Act.put, List.setIfInBounds_toArray, List.set_cons_zero, List.set_cons_succ, List.getElem_toArray, List.getElem_cons_succ, List.getElem_cons_zero]
                    refine held_mono (S' := TwoF w5 w6 t5 t6 a5 a6 c5 c6 (w6.heap.size + 1 + 1)) (fun _ h => h.1) _ _ _ _ ?_
                    replace hHeld := two_up (b := w6.heap.size + 1 + 1) hHeld (by exact blk_at (w := (w6.alloc (.cells #[.string t6.name, .slice a6 t6.args.length c6] 25)).alloc (.cells #[.string t5.name, .slice a5 t5.args.length c5, .string t6.name, .slice a6 t6.args.length c6] 25)) (by simp) _ _)
                    refine wpAnyH_take (i := 5) (v := ?_) rfl (by kernel_rfl) (by kernel_rfl) (by kernel_rfl) (fun _ _ _ h => h) (Or.inl ⟨by rfl, ?_⟩) (by assumption) ?_
                    rotate_left
                    · intro w' hSw
                      go_simp <;> with_reducible rfl
                    try simp only [Act.put, List.setIfInBounds_toArray, List.set_cons_zero, List.set_cons_succ, List.getElem_toArray, List.getElem_cons_succ, List.getElem_cons_zero]
                    refine wpAnyH_take (i := 6) (v := ?_) rfl (by kernel_rfl) (by kernel_rfl) (by kernel_rfl) (fun _ _ _ h => h) (Or.inl ⟨by rfl, ?_⟩) (by assumption) ?_
                    rotate_left
                    · intro w' hSw
                      have k4 : w'.cell? ⟨w6.heap.size + 1 + 1, 0, none⟩ = some (.string ⟨#[102]⟩) := hSw.2.cell 0
                      have k5 : w'.cell? ⟨w6.heap.size + 1 + 1, 1, none⟩ = some (.string ⟨#[103]⟩) := hSw.2.cell 1
                      go_simp <;> with_reducible rfl
                    try simp only [Act.put, List.setIfInBounds_toArray, List.set_cons_zero, List.set_cons_succ, List.getElem_toArray, List.getElem_cons_succ, List.getElem_cons_zero]
                    refine wpAnyH_take (i := 10) (v := ?_) rfl (by kernel_rfl) (by kernel_rfl) (by kernel_rfl) (fun _ _ _ h => h) (Or.inl ⟨by rfl, ?_⟩) (by assumption) ?_
                    rotate_left
                    · intro w' hSw
                      go_simp <;> with_reducible rfl
                    try simp only [Act.put, List.setIfInBounds_toArray, List.set_cons_zero, List.set_cons_succ, List.getElem_toArray, List.getElem_cons_succ, List.getElem_cons_zero]
                    refine wpAnyH_ready (rs := [12]) (by kernel_rfl) (by simp) ?_
                    refine AllReadyH.cons rfl (fun K hK => ?_) AllReadyH.nil
                    · go_simp
                      refine hK.out _ _ (by exact two_endB _ _ _ X6.out (Nat.ne_of_gt hlt5)) (fun hHeld => ?_)
                      clear hK K
                      try simp only [Act.put, List.setIfInBounds_toArray, List.set_cons_zero, List.set_cons_succ, List.getElem_toArray, List.getElem_cons_succ, List.getElem_cons_zero]
                      refine wpAnyH_take (i := 13) (v := ?_) rfl (by kernel_rfl) (by kernel_rfl) (by kernel_rfl) (fun _ _ _ h => h) (Or.inl ⟨by rfl, ?_⟩) (by assumption) ?_
                      rotate_left
                      · intro w' hSw
                        go_simp <;> with_reducible rfl
                      try simp only [Act.put, List.setIfInBounds_toArray, List.set_cons_zero, List.set_cons_succ, List.getElem_toArray, List.getElem_cons_succ, List.getElem_cons_zero]
                      refine wpAnyH_done (by kernel_rfl) ?_ _
                      go_wp2_with fail
                      refine bodyPost_ret (v := .tuple #[.agg #[.string ⟨#[102]⟩, .slice (some ⟨w6.heap.size + 1, 0, none⟩) 2 2], .int .i64 (n6 : Int)]) (by simp [results, Tryz.results12, go_sem, World.cell?_setCell_same, World.cell?_setCell_other, r0, r1, hlt56, hlt57, hlt58, World.cell?_alloc_old]) rfl ?_
                      exact grow_two B6.out hlt56 S56.out S6.out (fun b hb => Nat.lt_of_lt_of_le R1.out.lt hb) HZ6.out HBIG.out (ok_node (by decide) (by decide) (ok_two HE5.out HE6.out)) (by omega) (by exact (blk_at (by simp [World.setCell]) _ _).alloc _)
              · go_simp
                refine hK.out _ _ (by exact hHeld.alloc _) (fun hHeld => ?_)
                clear hK K
                try simp only [Act.put, List.setIfInBounds_toArray, List.set_cons_zero, List.set_cons_succ, List.getElem_toArray, List.getElem_cons_succ, List.getElem_cons_zero]
                refine wpAnyH_ready (rs := [0, 3]) (by kernel_rfl) (by simp) ?_
                refine AllReadyH.cons rfl (fun K hK => ?_) (AllReadyH.cons rfl (fun K hK => ?_) AllReadyH.nil)
                · go_simp
                  refine hK.out _ _ (by exact hHeld.alloc _) (fun hHeld => ?_)
                  clear hK K
                  try simp only [Act.put, List.setIfInBounds_toArray, List.set_cons_zero, List.set_cons_succ, List.getElem_toArray, List.getElem_cons_succ, List.getElem_cons_zero]
                  refine held_mono (S' := TwoF w5 w6 t5 t6 a5 a6 c5 c6 (w6.heap.size + 1 + 1)) (fun _ h => h.1) _ _ _ _ ?_
                  replace hHeld := two_up (b := w6.heap.size + 1 + 1) hHeld (by exact blk_at (w := (w6.alloc (.cells #[.string t6.name, .slice a6 t6.args.length c6] 25)).alloc (.cells #[.string t5.name, .slice a5 t5.args.length c5, .string t6.name, .slice a6 t6.args.length c6] 25)) (by simp) _ _)
                  refine wpAnyH_ready (rs := [3]) (by kernel_rfl) (by simp) ?_
                  refine AllReadyH.cons rfl (fun K hK => ?_) AllReadyH.nil
                  · go_simp
                    go_at_call 5
                    refine (HPK.out _).mono ?_
                    rintro e w7 ⟨rfl, rfl⟩
                    go_simp
                    refine hK.out _ _ (by exact hHeld) (fun hHeld => ?_)
                    clear hK K
                    try simp only [Act.put, List.setIfInBounds_toArray, List.set_cons_zero, List.set_cons_succ, List.getElem_toArray, List.getElem_cons_succ, List.getElem_cons_zero]
                    refine wpAnyH_take (i := 4) (v := ?_) rfl (by kernel_rfl) (by kernel_rfl) (by kernel_rfl) (fun _ _ _ h => h) (Or.inl ⟨by rfl, ?_⟩) (by assumption) ?_
                    rotate_left
                    · intro w' hSw
                      go_simp <;> with_reducible rfl
                    try simp only [Act.put, List.setIfInBounds_toArray, List.set_cons_zero, List.set_cons_succ, List.getElem_toArray, List.getElem_cons_succ, List.getElem_cons_zero]
                    refine wpAnyH_take (i := 5) (v := ?_) rfl (by kernel_rfl) (by kernel_rfl) (by kernel_rfl) (fun _ _ _ h => h) (Or.inl ⟨by rfl, ?_⟩) (by assumption) ?_
                    rotate_left
                    · intro w' hSw
                      go_simp <;> with_reducible rfl
                    try simp only [Act.put, List.setIfInBounds_toArray, List.set_cons_zero, List.set_cons_succ, List.getElem_toArray, List.getElem_cons_succ, List.getElem_cons_zero]
                    refine wpAnyH_take (i := 6) (v := ?_) rfl (by kernel_rfl) (by kernel_rfl) (by kernel_rfl) (fun _ _ _ h => h) (Or.inl ⟨by rfl, ?_⟩) (by assumption) ?_
                    rotate_left
                    · intro w' hSw
                      have k4 : w'.cell? ⟨w6.heap.size + 1 + 1, 0, none⟩ = some (.string ⟨#[102]⟩) := hSw.2.cell 0
                      have k5 : w'.cell? ⟨w6.heap.size + 1 + 1, 1, none⟩ = some (.string ⟨#[103]⟩) := hSw.2.cell 1
                      go_simp <;> with_reducible rfl
                    try simp only [Act.put, List.setIfInBounds_toArray, List.set_cons_zero, List.set_cons_succ, List.getElem_toArray, List.getElem_cons_succ, List.getElem_cons_zero]
                    refine wpAnyH_take (i := 10) (v := ?_) rfl (by kernel_rfl) (by kernel_rfl) (by kernel_rfl) (fun _ _ _ h => h) (Or.inl ⟨by rfl, ?_⟩) (by assumption) ?_
                    rotate_left
                    · intro w' hSw
                      go_simp <;> with_reducible rfl
                    try simp only [Act.put, List.setIfInBounds_toArray, List.set_cons_zero, List.set_cons_succ, List.getElem_toArray, List.getElem_cons_succ, List.getElem_cons_zero]
                    refine wpAnyH_ready (rs := [12]) (by kernel_rfl) (by simp) ?_
                    refine AllReadyH.cons rfl (fun K hK => ?_) AllReadyH.nil
                    · go_simp
                      refine hK.out _ _ (by exact two_endB _ _ _ X6.out (Nat.ne_of_gt hlt5)) (fun hHeld => ?_)
                      clear hK K
                      try simp only [Act.put, List.setIfInBounds_toArray, List.set_cons_zero, List.set_cons_succ, List.getElem_toArray, List.getElem_cons_succ, List.getElem_cons_zero]
                      refine wpAnyH_take (i := 13) (v := ?_) rfl (by kernel_rfl) (by kernel_rfl) (by kernel_rfl) (fun _ _ _ h => h) (Or.inl ⟨by rfl, ?_⟩) (by assumption) ?_
                      rotate_left
                      · intro w' hSw
                        go_simp <;> with_reducible rfl
                      try simp only [Act.put, List.setIfInBounds_toArray, List.set_cons_zero, List.set_cons_succ, List.getElem_toArray, List.getElem_cons_succ, List.getElem_cons_zero]
                      refine wpAnyH_done (by kernel_rfl) ?_ _
                      go_wp2_with fail
                      refine bodyPost_ret (v := .tuple #[.agg #[.string ⟨#[102]⟩, .slice (some ⟨w6.heap.size + 1, 0, none⟩) 2 2], .int .i64 (n6 : Int)]) (by simp [results, Tryz.results12, go_sem, World.cell?_setCell_same, World.cell?_setCell_other, r0, r1, hlt56, hlt57, hlt58, World.cell?_alloc_old]) rfl ?_
                      exact grow_two B6.out hlt56 S56.out S6.out (fun b hb => Nat.lt_of_lt_of_le R1.out.lt hb) HZ6.out HBIG.out (ok_node (by decide) (by decide) (ok_two HE5.out HE6.out)) (by omega) (by exact (blk_at (by simp [World.setCell]) _ _).alloc _)
                · go_simp
                  go_at_call 5
                  refine (HPK.out _).mono ?_
                  rintro e w7 ⟨rfl, rfl⟩
                  go_simp
                  refine hK.out _ _ (by exact hHeld) (fun hHeld => ?_)
                  clear hK K
                  try simp only [Act.put, List.setIfInBounds_toArray, List.set_cons_zero, List.set_cons_succ, List.getElem_toArray, List.getElem_cons_succ, List.getElem_cons_zero]
                  refine wpAnyH_take (i := 4) (v := ?_) rfl (by kernel_rfl) (by kernel_rfl) (by kernel_rfl) (fun _ _ _ h => h) (Or.inl ⟨by rfl, ?_⟩) (by assumption) ?_
                  rotate_left
                  · intro w' hSw
                    go_simp <;> with_reducible rfl
                  try simp only [Act.put, List.setIfInBounds_toArray, List.set_cons_zero, List.set_cons_succ, List.getElem_toArray, List.getElem_cons_succ, List.getElem_cons_zero]
                  refine wpAnyH_ready (rs := [0]) (by kernel_rfl) (by simp) ?_
                  refine AllReadyH.cons rfl (fun K hK => ?_) AllReadyH.nil
                  · go_simp
                    refine hK.out _ _ (by exact hHeld.alloc _) (fun hHeld => ?_)
                    clear hK K
                    try simp only [Act.put, List.setIfInBounds_toArray, List.set_cons_zero, List.set_cons_succ, List.getElem_toArray, List.getElem_cons_succ, List.getElem_cons_zero]
                    refine held_mono (S' := TwoF w5 w6 t5 t6 a5 a6 c5 c6 (w6.heap.size + 1 + 1)) (fun _ h => h.1) _ _ _ _ ?_
                    replace hHeld := two_up (b := w6.heap.size + 1 + 1) hHeld (by exact blk_at (w := (w6.alloc (.cells #[.string t6.name, .slice a6 t6.args.length c6] 25)).alloc (.cells #[.string t5.name, .slice a5 t5.args.length c5, .string t6.name, .slice a6 t6.args.length c6] 25)) (by simp) _ _)
                    refine wpAnyH_take (i := 5) (v := ?_) rfl (by kernel_rfl) (by kernel_rfl) (by kernel_rfl) (fun _ _ _ h => h) (Or.inl ⟨by rfl, ?_⟩) (by assumption) ?_
                    rotate_left
                    · intro w' hSw
                      go_simp <;> with_reducible rfl
                    try simp only [Act.put, List.setIfInBounds_toArray, List.set_cons_zero, List.set_cons_succ, List.getElem_toArray, List.getElem_cons_succ, List.getElem_cons_zero]
                    refine wpAnyH_take (i := 6) (v := ?_) rfl (by kernel_rfl) (by kernel_rfl) (by kernel_rfl) (fun _ _ _ h => h) (Or.inl ⟨by rfl, ?_⟩) (by assumption) ?_
                    rotate_left
                    · intro w' hSw
                      have k4 : w'.cell? ⟨w6.heap.size + 1 + 1, 0, none⟩ = some (.string ⟨#[102]⟩) := hSw.2.cell 0
                      have k5 : w'.cell? ⟨w6.heap.size + 1 + 1, 1, none⟩ = some (.string ⟨#[103]⟩) := hSw.2.cell 1
                      go_simp <;> with_reducible rfl
                    try simp only [Act.put, List.setIfInBounds_toArray, List.set_cons_zero, List.set_cons_succ, List.getElem_toArray, List.getElem_cons_succ, List.getElem_cons_zero]
                    refine wpAnyH_take (i := 10) (v := ?_) rfl (by kernel_rfl) (by kernel_rfl) (by kernel_rfl) (fun _ _ _ h => h) (Or.inl ⟨by rfl, ?_⟩) (by assumption) ?_
                    rotate_left
                    · intro w' hSw
                      go_simp <;> with_reducible rfl
                    try simp only [Act.put, List.setIfInBounds_toArray, List.set_cons_zero, List.set_cons_succ, List.getElem_toArray, List.getElem_cons_succ, List.getElem_cons_zero]
                    refine wpAnyH_ready (rs := [12]) (by kernel_rfl) (by simp) ?_
                    refine AllReadyH.cons rfl (fun K hK => ?_) AllReadyH.nil
                    · go_simp
                      refine hK.out _ _ (by exact two_endB _ _ _ X6.out (Nat.ne_of_gt hlt5)) (fun hHeld => ?_)
                      clear hK K
                      try simp only [Act.put, List.setIfInBounds_toArray, List.set_cons_zero, List.set_cons_succ, List.getElem_toArray, List.getElem_cons_succ, List.getElem_cons_zero]
                      refine wpAnyH_take (i := 13) (v := ?_) rfl (by kernel_rfl) (by kernel_rfl) (by kernel_rfl) (fun _ _ _ h => h) (Or.inl ⟨by rfl, ?_⟩) (by assumption) ?_
                      rotate_left
                      · intro w' hSw
                        go_simp <;> with_reducible rfl
                      try simp only [Act.put, List.setIfInBounds_toArray, List.set_cons_zero, List.set_cons_succ, List.getElem_toArray, List.getElem_cons_succ, List.getElem_cons_zero]
                      refine wpAnyH_done (by kernel_rfl) ?_ _
                      go_wp2_with fail
                      refine bodyPost_ret (v := .tuple #[.agg #[.string ⟨#[102]⟩, .slice (some ⟨w6.heap.size + 1, 0, none⟩) 2 2], .int .i64 (n6 : Int)]) (by simp [results, Tryz.results12, go_sem, World.cell?_setCell_same, World.cell?_setCell_other, r0, r1, hlt56, hlt57, hlt58, World.cell?_alloc_old]) rfl ?_
                      exact grow_two B6.out hlt56 S56.out S6.out (fun b hb => Nat.lt_of_lt_of_le R1.out.lt hb) HZ6.out HBIG.out (ok_node (by decide) (by decide) (ok_two HE5.out HE6.out)) (by omega) (by exact (blk_at (by simp [World.setCell]) _ _).alloc _)
            · clear hth hhb hh hn6 hn6' hz6 hz5 hn5 hn5' hc5 hc5' hc6 hc6' hi hm hc hr hzl h42 h41 h40 hk4 h1 hk1 h3
              have HS0 : TwoS w5 w6 t5 t6 a5 a6 c5 c6 (w6.alloc (.cells #[.string t6.name, .slice a6 t6.args.length c6] 25)).drew := ⟨X6.out.alloc _, Y6.out⟩
              refine wp_region_held_drew (S := TwoS w5 w6 t5 t6 a5 a6 c5 c6) (by kernel_rfl) HS0 (fun hHeld => ?_)
              refine wpAnyH_take (i := 1) (v := ?_) rfl (by kernel_rfl) (by kernel_rfl) (by kernel_rfl) (fun _ _ _ h => h) (Or.inl ⟨by rfl, ?_⟩) (by assumption) ?_
              rotate_left
              · intro w' hSw
                go_simp <;> with_reducible rfl
              try simp only [Act.put, List.setIfInBounds_toArray, List.set_cons_zero, List.set_cons_succ, List.getElem_toArray, List.getElem_cons_succ, List.getElem_cons_zero]
              refine wpAnyH_take (i := 2) (v := ?_) rfl (by kernel_rfl) (by kernel_rfl) (by kernel_rfl) (fun _ _ _ h => h) (Or.inl ⟨by rfl, ?_⟩) (by assumption) ?_
              rotate_left
              · intro w' hSw
                go_simp <;> with_reducible rfl
              try simp only [Act.put, List.setIfInBounds_toArray, List.set_cons_zero, List.set_cons_succ, List.getElem_toArray, List.getElem_cons_succ, List.getElem_cons_zero]
              refine wpAnyH_take (i := 7) (v := ?_) rfl (by kernel_rfl) (by kernel_rfl) (by kernel_rfl) (fun _ _ _ h => h) (Or.inl ⟨by rfl, ?_⟩) (by assumption) ?_
              rotate_left
              · intro w' hSw
                have k0 : w'.cell? ⟨w5.heap.size, 0, none⟩ = some (.string t5.name) := hSw.1.cell 0
                have k1 : w'.cell? ⟨w5.heap.size, 1, none⟩ = some (.slice a5 t5.args.length c5) := hSw.1.cell 1
                go_simp <;> with_reducible rfl
              try simp only [Act.put, List.setIfInBounds_toArray, List.set_cons_zero, List.set_cons_succ, List.getElem_toArray, List.getElem_cons_succ, List.getElem_cons_zero]
              refine wpAnyH_take (i := 8) (v := ?_) rfl (by kernel_rfl) (by kernel_rfl) (by kernel_rfl) (fun _ _ _ h => h) (Or.inl ⟨by rfl, ?_⟩) (by assumption) ?_
              rotate_left
              · intro w' hSw
                have k2 : w'.cell? ⟨w6.heap.size, 0, none⟩ = some (.string t6.name) := hSw.2.cell 0
                have k3 : w'.cell? ⟨w6.heap.size, 1, none⟩ = some (.slice a6 t6.args.length c6) := hSw.2.cell 1
                go_simp <;> with_reducible rfl
              try simp only [Act.put, List.setIfInBounds_toArray, List.set_cons_zero, List.set_cons_succ, List.getElem_toArray, List.getElem_cons_succ, List.getElem_cons_zero]
              refine wpAnyH_take (i := 11) (v := ?_) rfl (by kernel_rfl) (by kernel_rfl) (by kernel_rfl) (fun _ _ _ h => h) (Or.inl ⟨by rfl, ?_⟩) (by assumption) ?_
              rotate_left
              · intro w' hSw
                go_simp <;> with_reducible rfl
              try simp only [Act.put, List.setIfInBounds_toArray, List.set_cons_zero, List.set_cons_succ, List.getElem_toArray, List.getElem_cons_succ, List.getElem_cons_zero]
              refine wpAnyH_ready (rs := [0, 3, 9]) (by kernel_rfl) (by simp) ?_
              refine AllReadyH.cons rfl (fun K hK => ?_) (AllReadyH.cons rfl (fun K hK => ?_) (AllReadyH.cons rfl (fun K hK => ?_) AllReadyH.nil))
              · go_simp
                refine hK.out _ _ (by exact hHeld.alloc _) (fun hHeld => ?_)
                clear hK K
                try simp only [Act.put, List.setIfInBounds_toArray, List.set_cons_zero, List.set_cons_succ, List.getElem_toArray, List.getElem_cons_succ, List.getElem_cons_zero]
                refine held_mono (S' := TwoF w5 w6 t5 t6 a5 a6 c5 c6 (w6.heap.size + 1)) (fun _ h => h.1) _ _ _ _ ?_
                replace hHeld := two_up (b := w6.heap.size + 1) hHeld (by exact blk_at (w := w6.alloc (.cells #[.string t6.name, .slice a6 t6.args.length c6] 25)) (by simp) _ _)
                refine wpAnyH_ready (rs := [3, 9]) (by kernel_rfl) (by simp) ?_
                refine AllReadyH.cons rfl (fun K hK => ?_) (AllReadyH.cons rfl (fun K hK => ?_) AllReadyH.nil)
                · go_simp
                  go_at_call 5
                  refine (HPK.out _).mono ?_
                  rintro e w7 ⟨rfl, rfl⟩
                  go_simp
                  refine hK.out _ _ (by exact hHeld) (fun hHeld => ?_)
                  clear hK K
                  try simp only [Act.put, List.setIfInBounds_toArray, List.set_cons_zero, List.set_cons_succ, List.getElem_toArray, List.getElem_cons_succ, List.getElem_cons_zero]
                  refine wpAnyH_take (i := 4) (v := ?_) rfl (by kernel_rfl) (by kernel_rfl) (by kernel_rfl) (fun _ _ _ h => h) (Or.inl ⟨by rfl, ?_⟩) (by assumption) ?_
                  rotate_left
                  · intro w' hSw
                    go_simp <;> with_reducible rfl
                  try simp only [Act.put, List.setIfInBounds_toArray, List.set_cons_zero, List.set_cons_succ, List.getElem_toArray, List.getElem_cons_succ, List.getElem_cons_zero]
                  refine wpAnyH_take (i := 5) (v := ?_) rfl (by kernel_rfl) (by kernel_rfl) (by kernel_rfl) (fun _ _ _ h => h) (Or.inl ⟨by rfl, ?_⟩) (by assumption) ?_
                  rotate_left
                  · intro w' hSw
                    go_simp <;> with_reducible rfl
                  try simp only [Act.put, List.setIfInBounds_toArray, List.set_cons_zero, List.set_cons_succ, List.getElem_toArray, List.getElem_cons_succ, List.getElem_cons_zero]
                  refine wpAnyH_take (i := 6) (v := ?_) rfl (by kernel_rfl) (by kernel_rfl) (by kernel_rfl) (fun _ _ _ h => h) (Or.inl ⟨by rfl, ?_⟩) (by assumption) ?_
                  rotate_left
                  · intro w' hSw
                    have k4 : w'.cell? ⟨w6.heap.size + 1, 0, none⟩ = some (.string ⟨#[102]⟩) := hSw.2.cell 0
                    have k5 : w'.cell? ⟨w6.heap.size + 1, 1, none⟩ = some (.string ⟨#[103]⟩) := hSw.2.cell 1
                    go_simp <;> with_reducible rfl
                  try simp only [Act.put, List.setIfInBounds_toArray, List.set_cons_zero, List.set_cons_succ, List.getElem_toArray, List.getElem_cons_succ, List.getElem_cons_zero]
                  refine wpAnyH_ready (rs := [9]) (by kernel_rfl) (by simp) ?_
                  refine AllReadyH.cons rfl (fun K hK => ?_) AllReadyH.nil
                  · go_simp
                    refine hK.out _ _ (by exact hHeld.alloc _) (fun hHeld => ?_)
                    clear hK K
                    try simp only [Act.put, List.setIfInBounds_toArray, List.set_cons_zero, List.set_cons_succ, List.getElem_toArray, List.getElem_cons_succ, List.getElem_cons_zero]
                    refine wpAnyH_take (i := 10) (v := ?_) rfl (by kernel_rfl) (by kernel_rfl) (by kernel_rfl) (fun _ _ _ h => h) (Or.inl ⟨by rfl, ?_⟩) (by assumption) ?_
                    rotate_left
                    · intro w' hSw
                      go_simp <;> with_reducible rfl
                    try simp only [Act.put, List.setIfInBounds_toArray, List.set_cons_zero, List.set_cons_succ, List.getElem_toArray, List.getElem_cons_succ, List.getElem_cons_zero]
                    refine wpAnyH_ready (rs := [12]) (by kernel_rfl) (by simp) ?_
                    refine AllReadyH.cons rfl (fun K hK => ?_) AllReadyH.nil
                    · go_simp
                      refine hK.out _ _ (by exact two_endA _ _ _ X6.out (Nat.ne_of_gt hlt5)) (fun hHeld => ?_)
                      clear hK K
                      try simp only [Act.put, List.setIfInBounds_toArray, List.set_cons_zero, List.set_cons_succ, List.getElem_toArray, List.getElem_cons_succ, List.getElem_cons_zero]
                      refine wpAnyH_take (i := 13) (v := ?_) rfl (by kernel_rfl) (by kernel_rfl) (by kernel_rfl) (fun _ _ _ h => h) (Or.inl ⟨by rfl, ?_⟩) (by assumption) ?_
                      rotate_left
                      · intro w' hSw
                        go_simp <;> with_reducible rfl
                      try simp only [Act.put, List.setIfInBounds_toArray, List.set_cons_zero, List.set_cons_succ, List.getElem_toArray, List.getElem_cons_succ, List.getElem_cons_zero]
                      refine wpAnyH_done (by kernel_rfl) ?_ _
                      go_wp2_with fail
                      refine bodyPost_ret (v := .tuple #[.agg #[.string ⟨#[103]⟩, .slice (some ⟨w6.heap.size + 1 + 1, 0, none⟩) 2 2], .int .i64 (n6 : Int)]) (by simp [results, Tryz.results12, go_sem, World.cell?_setCell_same, World.cell?_setCell_other, r0, r1, hlt56, hlt57, hlt58, World.cell?_alloc_old]) rfl ?_
                      exact grow_two B6.out hlt56 S56.out S6.out (fun b hb => Nat.lt_of_lt_of_le R1.out.lt hb) HZ6.out HBIG.out (ok_node (by decide) (by decide) (ok_two HE5.out HE6.out)) (by omega) (by exact blk_at (by simp [World.setCell]) _ _)
                · go_simp
                  refine hK.out _ _ (by exact hHeld.alloc _) (fun hHeld => ?_)
                  clear hK K
                  try simp only [Act.put, List.setIfInBounds_toArray, List.set_cons_zero, List.set_cons_succ, List.getElem_toArray, List.getElem_cons_succ, List.getElem_cons_zero]
                  refine wpAnyH_ready (rs := [3]) (by kernel_rfl) (by simp) ?_
                  refine AllReadyH.cons rfl (fun K hK => ?_) AllReadyH.nil
                  · go_simp
                    go_at_call 5
                    refine (HPK.out _).mono ?_
                    rintro e w7 ⟨rfl, rfl⟩
                    go_simp
                    refine hK.out _ _ (by exact hHeld) (fun hHeld => ?_)
                    clear hK K
                    try simp only [Act.put, List.setIfInBounds_toArray, List.set_cons_zero, List.set_cons_succ, List.getElem_toArray, List.getElem_cons_succ, List.getElem_cons_zero]
                    refine wpAnyH_take (i := 4) (v := ?_) rfl (by kernel_rfl) (by kernel_rfl) (by kernel_rfl) (fun _ _ _ h => h) (Or.inl ⟨by rfl, ?_⟩) (by assumption) ?_
                    rotate_left
                    · intro w' hSw
                      go_simp <;> with_reducible rfl
                    try simp only [Act.put, List.setIfInBounds_toArray, List.set_cons_zero, List.set_cons_succ, List.getElem_toArray, List.getElem_cons_succ, List.getElem_cons_zero]
                    refine wpAnyH_take (i := 5) (v := ?_) rfl (by kernel_rfl) (by kernel_rfl) (by kernel_rfl) (fun _ _ _ h => h) (Or.inl ⟨by rfl, ?_⟩) (by assumption) ?_
                    rotate_left
                    · intro w' hSw
                      go_simp <;> with_reducible rfl
                    try simp only [Act.put, List.setIfInBounds_toArray, List.set_cons_zero, List.set_cons_succ, List.getElem_toArray, List.getElem_cons_succ, List.getElem_cons_zero]
                    refine wpAnyH_take (i := 6) (v := ?_) rfl (by kernel_rfl) (by kernel_rfl) (by kernel_rfl) (fun _ _ _ h => h) (Or.inl ⟨by rfl, ?_⟩) (by assumption) ?_
                    rotate_left
                    · intro w' hSw
                      have k4 : w'.cell? ⟨w6.heap.size + 1, 0, none⟩ = some (.string ⟨#[102]⟩) := hSw.2.cell 0
                      have k5 : w'.cell? ⟨w6.heap.size + 1, 1, none⟩ = some (.string ⟨#[103]⟩) := hSw.2.cell 1
                      go_simp <;> with_reducible rfl
                    try simp only [Act.put, List.setIfInBounds_toArray, List.set_cons_zero, List.set_cons_succ, List.getElem_toArray, List.getElem_cons_succ, List.getElem_cons_zero]
                    refine wpAnyH_take (i := 10) (v := ?_) rfl (by kernel_rfl) (by kernel_rfl) (by kernel_rfl) (fun _ _ _ h => h) (Or.inl ⟨by rfl, ?_⟩) (by assumption) ?_
                    rotate_left
                    · intro w' hSw
                      go_simp <;> with_reducible rfl
                    try simp only [Act.put, List.setIfInBounds_toArray, List.set_cons_zero, List.set_cons_succ, List.getElem_toArray, List.getElem_cons_succ, List.getElem_cons_zero]
                    refine wpAnyH_ready (rs := [12]) (by kernel_rfl) (by simp) ?_
                    refine AllReadyH.cons rfl (fun K hK => ?_) AllReadyH.nil
                    · go_simp
                      refine hK.out _ _ (by exact two_endA _ _ _ X6.out (Nat.ne_of_gt hlt5)) (fun hHeld => ?_)
                      clear hK K
                      try simp only [Act.put, List.setIfInBounds_toArray, List.set_cons_zero, List.set_cons_succ, List.getElem_toArray, List.getElem_cons_succ, List.getElem_cons_zero]
                      refine wpAnyH_take (i := 13) (v := ?_) rfl (by kernel_rfl) (by kernel_rfl) (by kernel_rfl) (fun _ _ _ h => h) (Or.inl ⟨by rfl, ?_⟩) (by assumption) ?_
                      rotate_left
                      · intro w' hSw
                        go_simp <;> with_reducible rfl
                      try simp only [Act.put, List.setIfInBounds_toArray, List.set_cons_zero, List.set_cons_succ, List.getElem_toArray, List.getElem_cons_succ, List.getElem_cons_zero]
                      refine wpAnyH_done (by kernel_rfl) ?_ _
                      go_wp2_with fail
                      refine bodyPost_ret (v := .tuple #[.agg #[.string ⟨#[103]⟩, .slice (some ⟨w6.heap.size + 1 + 1, 0, none⟩) 2 2], .int .i64 (n6 : Int)]) (by simp [results, Tryz.results12, go_sem, World.cell?_setCell_same, World.cell?_setCell_other, r0, r1, hlt56, hlt57, hlt58, World.cell?_alloc_old]) rfl ?_
                      exact grow_two B6.out hlt56 S56.out S6.out (fun b hb => Nat.lt_of_lt_of_le R1.out.lt hb) HZ6.out HBIG.out (ok_node (by decide) (by decide) (ok_two HE5.out HE6.out)) (by omega) (by exact blk_at (by simp [World.setCell]) _ _)
              · go_simp
                go_at_call 5
                refine (HPK.out _).mono ?_
                rintro e w7 ⟨rfl, rfl⟩
                go_simp
                refine hK.out _ _ (by exact hHeld) (fun hHeld => ?_)
                clear hK K
                try simp only [Act.put, List.setIfInBounds_toArray, List.set_cons_zero, List.set_cons_succ, List.getElem_toArray, List.getElem_cons_succ, List.getElem_cons_zero]
                refine wpAnyH_take (i := 4) (v := ?_) rfl (by kernel_rfl) (by kernel_rfl) (by kernel_rfl) (fun _ _ _ h => h) (Or.inl ⟨by rfl, ?_⟩) (by assumption) ?_
                rotate_left
                · intro w' hSw
                  go_simp <;> with_reducible rfl
                try simp only [Act.put, List.setIfInBounds_toArray, List.set_cons_zero, List.set_cons_succ, List.getElem_toArray, List.getElem_cons_succ, List.getElem_cons_zero]
                refine wpAnyH_ready (rs := [0, 9]) (by kernel_rfl) (by simp) ?_
                refine AllReadyH.cons rfl (fun K hK => ?_) (AllReadyH.cons rfl (fun K hK => ?_) AllReadyH.nil)
                · go_simp
                  refine hK.out _ _ (by exact hHeld.alloc _) (fun hHeld => ?_)
                  clear hK K
                  try simp only [Act.put, List.setIfInBounds_toArray, List.set_cons_zero, List.set_cons_succ, List.getElem_toArray, List.getElem_cons_succ, List.getElem_cons_zero]
                  refine held_mono (S' := TwoF w5 w6 t5 t6 a5 a6 c5 c6 (w6.heap.size + 1)) (fun _ h => h.1) _ _ _ _ ?_
                  replace hHeld := two_up (b := w6.heap.size + 1) hHeld (by exact blk_at (w := w6.alloc (.cells #[.string t6.name, .slice a6 t6.args.length c6] 25)) (by simp) _ _)
                  refine wpAnyH_take (i := 5) (v := ?_) rfl (by kernel_rfl) (by kernel_rfl) (by kernel_rfl) (fun _ _ _ h => h) (Or.inl ⟨by rfl, ?_⟩) (by assumption) ?_
                  rotate_left
                  · intro w' hSw
                    go_simp <;> with_reducible rfl
                  try simp only [Act.put, List.setIfInBounds_toArray, List.set_cons_zero, List.set_cons_succ, List.getElem_toArray, List.getElem_cons_succ, List.getElem_cons_zero]
                  refine wpAnyH_take (i := 6) (v := ?_) rfl (by kernel_rfl) (by kernel_rfl) (by kernel_rfl) (fun _ _ _ h => h) (Or.inl ⟨by rfl, ?_⟩) (by assumption) ?_
                  rotate_left
                  · intro w' hSw
                    have k4 : w'.cell? ⟨w6.heap.size + 1, 0, none⟩ = some (.string ⟨#[102]⟩) := hSw.2.cell 0
                    have k5 : w'.cell? ⟨w6.heap.size + 1, 1, none⟩ = some (.string ⟨#[103]⟩) := hSw.2.cell 1
                    go_simp <;> with_reducible rfl
                  try simp only [Act.put, List.setIfInBounds_toArray, List.set_cons_zero, List.set_cons_succ, List.getElem_toArray, List.getElem_cons_succ, List.getElem_cons_zero]
                  refine wpAnyH_ready (rs := [9]) (by kernel_rfl) (by simp) ?_
                  refine AllReadyH.cons rfl (fun K hK => ?_) AllReadyH.nil
                  · go_simp
                    refine hK.out _ _ (by exact hHeld.alloc _) (fun hHeld => ?_)
                    clear hK K
                    try simp only [Act.put, List.setIfInBounds_toArray, List.set_cons_zero, List.set_cons_succ, List.getElem_toArray, List.getElem_cons_succ, List.getElem_cons_zero]
                    refine wpAnyH_take (i := 10) (v := ?_) rfl (by kernel_rfl) (by kernel_rfl) (by kernel_rfl) (fun _ _ _ h => h) (Or.inl ⟨by rfl, ?_⟩) (by assumption) ?_
                    rotate_left
                    · intro w' hSw
                      go_simp <;> with_reducible rfl
                    try simp only [Act.put, List.setIfInBounds_toArray, List.set_cons_zero, List.set_cons_succ, List.getElem_toArray, List.getElem_cons_succ, List.getElem_cons_zero]
                    refine wpAnyH_ready (rs := [12]) (by kernel_rfl) (by simp) ?_
                    refine AllReadyH.cons rfl (fun K hK => ?_) AllReadyH.nil
                    · go_simp
                      refine hK.out _ _ (by exact two_endA _ _ _ X6.out (Nat.ne_of_gt hlt5)) (fun hHeld => ?_)
                      clear hK K
                      try simp only [Act.put, List.setIfInBounds_toArray, List.set_cons_zero, List.set_cons_succ, List.getElem_toArray, List.getElem_cons_succ, List.getElem_cons_zero]
                      refine wpAnyH_take (i := 13) (v := ?_) rfl (by kernel_rfl) (by kernel_rfl) (by kernel_rfl) (fun _ _ _ h => h) (Or.inl ⟨by rfl, ?_⟩) (by assumption) ?_
                      rotate_left
                      · intro w' hSw
                        go_simp <;> with_reducible rfl
                      try simp only [Act.put, List.setIfInBounds_toArray, List.set_cons_zero, List.set_cons_succ, List.getElem_toArray, List.getElem_cons_succ, List.getElem_cons_zero]
                      refine wpAnyH_done (by kernel_rfl) ?_ _
                      go_wp2_with fail
                      refine bodyPost_ret (v := .tuple #[.agg #[.string ⟨#[103]⟩, .slice (some ⟨w6.heap.size + 1 + 1, 0, none⟩) 2 2], .int .i64 (n6 : Int)]) (by simp [results, Tryz.results12, go_sem, World.cell?_setCell_same, World.cell?_setCell_other, r0, r1, hlt56, hlt57, hlt58, World.cell?_alloc_old]) rfl ?_
                      exact grow_two B6.out hlt56 S56.out S6.out (fun b hb => Nat.lt_of_lt_of_le R1.out.lt hb) HZ6.out HBIG.out (ok_node (by decide) (by decide) (ok_two HE5.out HE6.out)) (by omega) (by exact blk_at (by simp [World.setCell]) _ _)
                · go_simp
                  refine hK.out _ _ (by exact hHeld.alloc _) (fun hHeld => ?_)
                  clear hK K
                  try simp only [Act.put, List.setIfInBounds_toArray, List.set_cons_zero, List.set_cons_succ, List.getElem_toArray, List.getElem_cons_succ, List.getElem_cons_zero]
                  refine wpAnyH_ready (rs := [0]) (by kernel_rfl) (by simp) ?_
                  refine AllReadyH.cons rfl (fun K hK => ?_) AllReadyH.nil
                  · go_simp
                    refine hK.out _ _ (by exact hHeld.alloc _) (fun hHeld => ?_)
                    clear hK K
                    try simp only [Act.put, List.setIfInBounds_toArray, List.set_cons_zero, List.set_cons_succ, List.getElem_toArray, List.getElem_cons_succ, List.getElem_cons_zero]
                    refine held_mono (S' := TwoF w5 w6 t5 t6 a5 a6 c5 c6 (w6.heap.size + 1 + 1)) (fun _ h => h.1) _ _ _ _ ?_
                    replace hHeld := two_up (b := w6.heap.size + 1 + 1) hHeld (by exact blk_at (w := (w6.alloc (.cells #[.string t6.name, .slice a6 t6.args.length c6] 25)).alloc (.cells #[.string t5.name, .slice a5 t5.args.length c5, .string t6.name, .slice a6 t6.args.length c6] 25)) (by simp) _ _)
                    refine wpAnyH_take (i := 5) (v := ?_) rfl (by kernel_rfl) (by kernel_rfl) (by kernel_rfl) (fun _ _ _ h => h) (Or.inl ⟨by rfl, ?_⟩) (by assumption) ?_
                    rotate_left
                    · intro w' hSw
                      go_simp <;> with_reducible rfl
                    try simp only [Act.put, List.setIfInBounds_toArray, List.set_cons_zero, List.set_cons_succ, List.getElem_toArray, List.getElem_cons_succ, List.getElem_cons_zero]
                    refine wpAnyH_take (i := 6) (v := ?_) rfl (by kernel_rfl) (by kernel_rfl) (by kernel_rfl) (fun _ _ _ h => h) (Or.inl ⟨by rfl, ?_⟩) (by assumption) ?_
                    rotate_left
                    · intro w' hSw
                      have k4 : w'.cell? ⟨w6.heap.size + 1 + 1, 0, none⟩ = some (.string ⟨#[102]⟩) := hSw.2.cell 0
                      have k5 : w'.cell? ⟨w6.heap.size + 1 + 1, 1, none⟩ = some (.string ⟨#[103]⟩) := hSw.2.cell 1
                      go_simp <;> with_reducible rfl
                    try simp only [Act.put, List.setIfInBounds_toArray, List.set_cons_zero, List.set_cons_succ, List.getElem_toArray, List.getElem_cons_succ, List.getElem_cons_zero]
                    refine wpAnyH_take (i := 10) (v := ?_) rfl (by kernel_rfl) (by kernel_rfl) (by kernel_rfl) (fun _ _ _ h => h) (Or.inl ⟨by rfl, ?_⟩) (by assumption) ?_
                    rotate_left
                    · intro w' hSw
                      go_simp <;> with_reducible rfl
                    try simp only [Act.put, List.setIfInBounds_toArray, List.set_cons_zero, List.set_cons_succ, List.getElem_toArray, List.getElem_cons_succ, List.getElem_cons_zero]
                    refine wpAnyH_ready (rs := [12]) (by kernel_rfl) (by simp) ?_
                    refine AllReadyH.cons rfl (fun K hK => ?_) AllReadyH.nil
                    · go_simp
                      refine hK.out _ _ (by exact two_endB _ _ _ X6.out (Nat.ne_of_gt hlt5)) (fun hHeld => ?_)
                      clear hK K
                      try simp only [Act.put, List.setIfInBounds_toArray, List.set_cons_zero, List.set_cons_succ, List.getElem_toArray, List.getElem_cons_succ, List.getElem_cons_zero]
                      refine wpAnyH_take (i := 13) (v := ?_) rfl (by kernel_rfl) (by kernel_rfl) (by kernel_rfl) (fun _ _ _ h => h) (Or.inl ⟨by rfl, ?_⟩) (by assumption) ?_
                      rotate_left
                      · intro w' hSw
                        go_simp <;> with_reducible rfl
                      try simp only [Act.put, List.setIfInBounds_toArray, List.set_cons_zero, List.set_cons_succ, List.getElem_toArray, List.getElem_cons_succ, List.getElem_cons_zero]
                      refine wpAnyH_done (by kernel_rfl) ?_ _
                      go_wp2_with fail
                      refine bodyPost_ret (v := .tuple #[.agg #[.string ⟨#[103]⟩, .slice (some ⟨w6.heap.size + 1, 0, none⟩) 2 2], .int .i64 (n6 : Int)]) (by simp [results, Tryz.results12, go_sem, World.cell?_setCell_same, World.cell?_setCell_other, r0, r1, hlt56, hlt57, hlt58, World.cell?_alloc_old]) rfl ?_
                      exact grow_two B6.out hlt56 S56.out S6.out (fun b hb => Nat.lt_of_lt_of_le R1.out.lt hb) HZ6.out HBIG.out (ok_node (by decide) (by decide) (ok_two HE5.out HE6.out)) (by omega) (by exact (blk_at (by simp [World.setCell]) _ _).alloc _)
              · go_simp
                refine hK.out _ _ (by exact hHeld.alloc _) (fun hHeld => ?_)
                clear hK K
                try simp only [Act.put, List.setIfInBounds_toArray, List.set_cons_zero, List.set_cons_succ, List.getElem_toArray, List.getElem_cons_succ, List.getElem_cons_zero]
                refine wpAnyH_ready (rs := [0, 3]) (by kernel_rfl) (by simp) ?_
                refine AllReadyH.cons rfl (fun K hK => ?_) (AllReadyH.cons rfl (fun K hK => ?_) AllReadyH.nil)
                · go_simp
                  refine hK.out _ _ (by exact hHeld.alloc _) (fun hHeld => ?_)
                  clear hK K
                  try simp only [Act.put, List.setIfInBounds_toArray, List.set_cons_zero, List.set_cons_succ, List.getElem_toArray, List.getElem_cons_succ, List.getElem_cons_zero]
                  refine held_mono (S' := TwoF w5 w6 t5 t6 a5 a6 c5 c6 (w6.heap.size + 1 + 1)) (fun _ h => h.1) _ _ _ _ ?_
                  replace hHeld := two_up (b := w6.heap.size + 1 + 1) hHeld (by exact blk_at (w := (w6.alloc (.cells #[.string t6.name, .slice a6 t6.args.length c6] 25)).alloc (.cells #[.string t5.name, .slice a5 t5.args.length c5, .string t6.name, .slice a6 t6.args.length c6] 25)) (by simp) _ _)
                  refine wpAnyH_ready (rs := [3]) (by kernel_rfl) (by simp) ?_
                  refine AllReadyH.cons rfl (fun K hK => ?_) AllReadyH.nil
                  · go_simp
                    go_at_call 5
                    refine (HPK.out _).mono ?_
                    rintro e w7 ⟨rfl, rfl⟩
                    go_simp
                    refine hK.out _ _ (by exact hHeld) (fun hHeld => ?_)
                    clear hK K
                    try simp only [Act.put, List.setIfInBounds_toArray, List.set_cons_zero, List.set_cons_succ, List.getElem_toArray, List.getElem_cons_succ, List.getElem_cons_zero]
                    refine wpAnyH_take (i := 4) (v := ?_) rfl (by kernel_rfl) (by kernel_rfl) (by kernel_rfl) (fun _ _ _ h => h) (Or.inl ⟨by rfl, ?_⟩) (by assumption) ?_
                    rotate_left
                    · intro w' hSw
                      go_simp <;> with_reducible rfl
                    try simp only [Act.put, List.setIfInBounds_toArray, List.set_cons_zero, List.set_cons_succ, List.getElem_toArray, List.getElem_cons_succ, List.getElem_cons_zero]
                    refine wpAnyH_take (i := 5) (v := ?_) rfl (by kernel_rfl) (by kernel_rfl) (by kernel_rfl) (fun _ _ _ h => h) (Or.inl ⟨by rfl, ?_⟩) (by assumption) ?_
                    rotate_left
                    · intro w' hSw
                      go_simp <;> with_reducible rfl
                    try simp only [Act.put, List.setIfInBounds_toArray, List.set_cons_zero, List.set_cons_succ, List.getElem_toArray, List.getElem_cons_succ, List.getElem_cons_zero]
                    refine wpAnyH_take (i := 6) (v := ?_) rfl (by kernel_rfl) (by kernel_rfl) (by kernel_rfl) (fun _ _ _ h => h) (Or.inl ⟨by rfl, ?_⟩) (by assumption) ?_
                    rotate_left
                    · intro w' hSw
                      have k4 : w'.cell? ⟨w6.heap.size + 1 + 1, 0, none⟩ = some (.string ⟨#[102]⟩) := hSw.2.cell 0
                      have k5 : w'.cell? ⟨w6.heap.size + 1 + 1, 1, none⟩ = some (.string ⟨#[103]⟩) := hSw.2.cell 1
                      go_simp <;> with_reducible rfl
                    try simp only [Act.put, List.setIfInBounds_toArray, List.set_cons_zero, List.set_cons_succ, List.getElem_toArray, List.getElem_cons_succ, List.getElem_cons_zero]
                    refine wpAnyH_take (i := 10) (v := ?_) rfl (by kernel_rfl) (by kernel_rfl) (by kernel_rfl) (fun _ _ _ h => h) (Or.inl ⟨by rfl, ?_⟩) (by assumption) ?_
                    rotate_left
                    · intro w' hSw
                      go_simp <;> with_reducible rfl
                    try simp only [Act.put, List.setIfInBounds_toArray, List.set_cons_zero, List.set_cons_succ, List.getElem_toArray, List.getElem_cons_succ, List.getElem_cons_zero]
                    refine wpAnyH_ready (rs := [12]) (by kernel_rfl) (by simp) ?_
                    refine AllReadyH.cons rfl (fun K hK => ?_) AllReadyH.nil
                    · go_simp
                      refine hK.out _ _ (by exact two_endB _ _ _ X6.out (Nat.ne_of_gt hlt5)) (fun hHeld => ?_)
                      clear hK K
                      try simp only [Act.put, List.setIfInBounds_toArray, List.set_cons_zero, List.set_cons_succ, List.getElem_toArray, List.getElem_cons_succ, List.getElem_cons_zero]
                      refine wpAnyH_take (i := 13) (v := ?_) rfl (by kernel_rfl) (by kernel_rfl) (by kernel_rfl) (fun _ _ _ h => h) (Or.inl ⟨by rfl, ?_⟩) (by assumption) ?_
                      rotate_left
                      · intro w' hSw
                        go_simp <;> with_reducible rfl
                      try simp only [Act.put, List.setIfInBounds_toArray, List.set_cons_zero, List.set_cons_succ, List.getElem_toArray, List.getElem_cons_succ, List.getElem_cons_zero]
                      refine wpAnyH_done (by kernel_rfl) ?_ _
                      go_wp2_with fail
                      refine bodyPost_ret (v := .tuple #[.agg #[.string ⟨#[103]⟩, .slice (some ⟨w6.heap.size + 1, 0, none⟩) 2 2], .int .i64 (n6 : Int)]) (by simp [results, Tryz.results12, go_sem, World.cell?_setCell_same, World.cell?_setCell_other, r0, r1, hlt56, hlt57, hlt58, World.cell?_alloc_old]) rfl ?_
                      exact grow_two B6.out hlt56 S56.out S6.out (fun b hb => Nat.lt_of_lt_of_le R1.out.lt hb) HZ6.out HBIG.out (ok_node (by decide) (by decide) (ok_two HE5.out HE6.out)) (by omega) (by exact (blk_at (by simp [World.setCell]) _ _).alloc _)
                · go_simp
                  go_at_call 5
                  refine (HPK.out _).mono ?_
                  rintro e w7 ⟨rfl, rfl⟩
                  go_simp
                  refine hK.out _ _ (by exact hHeld) (fun hHeld => ?_)
                  clear hK K
                  try simp only [Act.put, List.setIfInBounds_toArray, List.set_cons_zero, List.set_cons_succ, List.getElem_toArray, List.getElem_cons_succ, List.getElem_cons_zero]
                  refine wpAnyH_take (i := 4) (v := ?_) rfl (by kernel_rfl) (by kernel_rfl) (by kernel_rfl) (fun _ _ _ h => h) (Or.inl ⟨by rfl, ?_⟩) (by assumption) ?_
                  rotate_left
                  · intro w' hSw
                    go_simp <;> with_reducible rfl
                  try simp only [Act.put, List.setIfInBounds_toArray, List.set_cons_zero, List.set_cons_succ, List.getElem_toArray, List.getElem_cons_succ, List.getElem_cons_zero]
                  refine wpAnyH_ready (rs := [0]) (by kernel_rfl) (by simp) ?_
                  refine AllReadyH.cons rfl (fun K hK => ?_) AllReadyH.nil
                  · go_simp
                    refine hK.out _ _ (by exact hHeld.alloc _) (fun hHeld => ?_)
                    clear hK K
                    try simp only [Act.put, List.setIfInBounds_toArray, List.set_cons_zero, List.set_cons_succ, List.getElem_toArray, List.getElem_cons_succ, List.getElem_cons_zero]
                    refine held_mono (S' := TwoF w5 w6 t5 t6 a5 a6 c5 c6 (w6.heap.size + 1 + 1)) (fun _ h => h.1) _ _ _ _ ?_
                    replace hHeld := two_up (b := w6.heap.size + 1 + 1) hHeld (by exact blk_at (w := (w6.alloc (.cells #[.string t6.name, .slice a6 t6.args.length c6] 25)).alloc (.cells #[.string t5.name, .slice a5 t5.args.length c5, .string t6.name, .slice a6 t6.args.length c6] 25)) (by simp) _ _)
                    refine wpAnyH_take (i := 5) (v := ?_) rfl (by kernel_rfl) (by kernel_rfl) (by kernel_rfl) (fun _ _ _ h => h) (Or.inl ⟨by rfl, ?_⟩) (by assumption) ?_
                    rotate_left
                    · intro w' hSw
                      go_simp <;> with_reducible rfl
                    try simp only [Act.put, List.setIfInBounds_toArray, List.set_cons_zero, List.set_cons_succ, List.getElem_toArray, List.getElem_cons_succ, List.getElem_cons_zero]
                    refine wpAnyH_take (i := 6) (v := ?_) rfl (by kernel_rfl) (by kernel_rfl) (by kernel_rfl) (fun _ _ _ h => h) (Or.inl ⟨by rfl, ?_⟩) (by assumption) ?_
                    rotate_left
                    · intro w' hSw
                      have k4 : w'.cell? ⟨w6.heap.size + 1 + 1, 0, none⟩ = some (.string ⟨#[102]⟩) := hSw.2.cell 0
                      have k5 : w'.cell? ⟨w6.heap.size + 1 + 1, 1, none⟩ = some (.string ⟨#[103]⟩) := hSw.2.cell 1
                      go_simp <;> with_reducible rfl
                    try simp only [Act.put, List.setIfInBounds_toArray, List.set_cons_zero, List.set_cons_succ, List.getElem_toArray, List.getElem_cons_succ, List.getElem_cons_zero]
                    refine wpAnyH_take (i := 10) (v := ?_) rfl (by kernel_rfl) (by kernel_rfl) (by kernel_rfl) (fun _ _ _ h => h) (Or.inl ⟨by rfl, ?_⟩) (by assumption) ?_
                    rotate_left
                    · intro w' hSw
                      go_simp <;> with_reducible rfl
                    try simp only [Act.put, List.setIfInBounds_toArray, List.set_cons_zero, List.set_cons_succ, List.getElem_toArray, List.getElem_cons_succ, List.getElem_cons_zero]
                    refine wpAnyH_ready (rs := [12]) (by kernel_rfl) (by simp) ?_
                    refine AllReadyH.cons rfl (fun K hK => ?_) AllReadyH.nil
                    · go_simp
                      refine hK.out _ _ (by exact two_endB _ _ _ X6.out (Nat.ne_of_gt hlt5)) (fun hHeld => ?_)
                      clear hK K
                      try simp only [Act.put, List.setIfInBounds_toArray, List.set_cons_zero, List.set_cons_succ, List.getElem_toArray, List.getElem_cons_succ, List.getElem_cons_zero]
                      refine wpAnyH_take (i := 13) (v := ?_) rfl (by kernel_rfl) (by kernel_rfl) (by kernel_rfl) (fun _ _ _ h => h) (Or.inl ⟨by rfl, ?_⟩) (by assumption) ?_
                      rotate_left
                      · intro w' hSw
                        go_simp <;> with_reducible rfl
                      try simp only [Act.put, List.setIfInBounds_toArray, List.set_cons_zero, List.set_cons_succ, List.getElem_toArray, List.getElem_cons_succ, List.getElem_cons_zero]
                      refine wpAnyH_done (by kernel_rfl) ?_ _
                      go_wp2_with fail
                      refine bodyPost_ret (v := .tuple #[.agg #[.string ⟨#[103]⟩, .slice (some ⟨w6.heap.size + 1, 0, none⟩) 2 2], .int .i64 (n6 : Int)]) (by simp [results, Tryz.results12, go_sem, World.cell?_setCell_same, World.cell?_setCell_other, r0, r1, hlt56, hlt57, hlt58, World.cell?_alloc_old]) rfl ?_
                      exact grow_two B6.out hlt56 S56.out S6.out (fun b hb => Nat.lt_of_lt_of_le R1.out.lt hb) HZ6.out HBIG.out (ok_node (by decide) (by decide) (ok_two HE5.out HE6.out)) (by omega) (by exact (blk_at (by simp [World.setCell]) _ _).alloc _)

def GrowPost (w : World) (i m : Nat) (e : Ending) (w' : World) : Prop :=
  ∃ (a : Option Addr) (c n : Nat) (t : Tm), e = .returned (.tuple #[.agg #[.string t.name, .slice a t.args.length c], .int .i64 (n : Int)]) ∧ Sl w' (fun b => w.heap.size ≤ b) a t.args ∧ t.args.length ≤ c ∧ c ≤ 9223372036854775807 ∧ sizeL [t] ≤ top m ∧ i ≤ n ∧ n ≤ i + top m ∧ Below w.heap.size w w' ∧ errL [t] = 0

theorem grow_any (nv : Nat) (hnv : 1 ≤ nv) (hnv4 : nv ≤ 4) (zs : List Int) (hr : ∀ z ∈ zs, Rng z) (hzl : zs.length ≤ 1000000) (m i : Nat) (u : Value) (w : World) (X : Nat → Prop) (hu : PV w X u zs) (hm : m ≤ 100) (hi : i + top m ≤ 1000) :
    Calls Tryz.prog 12 #[u, .int .i64 (i : Int), .int .i64 (m : Int), .int .i64 (nv : Int)] w fun e w' => GrowPost w i m e w' := by
  refine (growV_any nv hnv hnv4 zs hr hzl m i u w X hu hm hi).mono ?_
  rintro e w' ⟨a, c, n, t, h1, h2, h3, h4, h5, h6, h7, h8, h9⟩
  exact ⟨a, c, n, t, h1, h2, h3, h4, h5, h6, h7, h8, h9.1⟩
end Go.Proofs.YteojdfmdhgnmfaaGreat

/- Walks: a term out of raw numbers, and the law on all its places. -/
namespace Go.Proofs.YteojdfmdhgnmfaaGreat
open Go.RowKit
set_option linter.unusedSimpArgs false
set_option linter.unusedVariables false
set_option maxRecDepth 8000

theorem one_world {w w5 : World} {Z : Nat → Prop} {a : Option Addr} {l : List Tm} {v0 v1 : Value} {o1 : Obj} (hs : Sl w5 Z a l) (hZ : ∀ b, Z b → w.heap.size < b) : Sl (((w5.setCell ⟨w.heap.size, 0, none⟩ v0).setCell ⟨w.heap.size, 1, none⟩ v1).alloc o1) (fun b => Z b ∧ b < w5.heap.size) a l := by
  refine (hs.mono (Y := fun b => Z b ∧ b < w5.heap.size) fun b h1 h2 => ⟨h1, h2⟩).kept fun b hb => ?_
  have := hZ b hb.1
  rw [Below.heap_alloc _ _ _ (by simp [World.setCell]; omega), Below.heap_setCell _ _ _ _ (by simp; omega), Below.heap_setCell _ _ _ _ (by simp; omega)]

theorem termOfV_any (nv : Nat) (hnv : 1 ≤ nv) (hnv4 : nv ≤ 4) (zs : List Int) (hr : ∀ z ∈ zs, Rng z) (hzl : zs.length ≤ 1000000) (m i : Nat) (u : Value) (w : World) (X : Nat → Prop) (hu : PV w X u zs) (hm : m ≤ 100) (hi : i + top m ≤ 1000) :
    Calls Tryz.prog 4 #[u, .int .i64 (i : Int), .int .i64 (m : Int), .int .i64 (nv : Int)] w fun e w' => ∃ (t : Tm) (a : Option Addr) (c : Nat), e = .returned (.agg #[.string t.name, .slice a t.args.length c]) ∧ Sl w' (fun b => w.heap.size ≤ b) a t.args ∧ sizeL [t] ≤ top m ∧ Below w.heap.size w w' ∧ okV nv [t] := by
  have HU := hide hu
  clear hu
  go_enter Tryz.func4, Tryz.ntmps4
  go_wp2_with fail
  refine (growV_any nv hnv hnv4 zs hr hzl m i u _ X (by exact HU.out.alloc _) hm hi).mono ?_
  rintro e w5 ⟨a5, c5, n5, t5, rfl, hs5, hc5, hc5', hz5, hn5, hn5', hb5, he5⟩
  have HE5 := hide he5
  clear he5
  have R5 := hide ((Blk.new w #[.string ⟨#[]⟩, .slice none 0 0] 25).below hb5 (by simp))
  have B5 := hide (((Below.refl w.heap.size w).alloc (Nat.le_refl _) (.cells #[.string ⟨#[]⟩, .slice none 0 0] 25)).trans (hb5.mono (by simp)))
  have S5 := hide hs5
  have hlt5 : w.heap.size < w5.heap.size := R5.out.lt
  clear hb5 hs5
  have r0 : w5.cell? ⟨w.heap.size, 0, none⟩ = some (.string ⟨#[]⟩) := R5.out.cell 0
  have r1 : w5.cell? ⟨w.heap.size, 1, none⟩ = some (.slice none 0 0) := R5.out.cell 1
  have rf := R5.out.frozen
  go_wp2_with fail
  refine bodyPost_ret (v := .agg #[.string t5.name, .slice a5 t5.args.length c5]) (by simp [results, Tryz.results4, go_sem, World.cell?_setCell_same, World.cell?_setCell_other, r0, r1, hlt5, World.cell?_alloc_old]) rfl ?_
  refine ⟨t5, a5, c5, rfl, (one_world S5.out (fun b hb => ?_)).mono (fun b hb _ => ?_), hz5, ?_, HE5.out⟩
  · simp at hb; omega
  · have := hb.1; simp at this; omega
  · exact ((B5.out.setCell (by simp) _).setCell (by simp) _).alloc (by simp [World.setCell]; omega) _

theorem termOf_any (nv : Nat) (hnv : 1 ≤ nv) (hnv4 : nv ≤ 4) (zs : List Int) (hr : ∀ z ∈ zs, Rng z) (hzl : zs.length ≤ 1000000) (m i : Nat) (u : Value) (w : World) (X : Nat → Prop) (hu : PV w X u zs) (hm : m ≤ 100) (hi : i + top m ≤ 1000) :
    Calls Tryz.prog 4 #[u, .int .i64 (i : Int), .int .i64 (m : Int), .int .i64 (nv : Int)] w fun e w' => ∃ (t : Tm) (a : Option Addr) (c : Nat), e = .returned (.agg #[.string t.name, .slice a t.args.length c]) ∧ Sl w' (fun b => w.heap.size ≤ b) a t.args ∧ sizeL [t] ≤ top m ∧ Below w.heap.size w w' ∧ errL [t] = 0 := by
  refine (termOfV_any nv hnv hnv4 zs hr hzl m i u w X hu hm hi).mono ?_
  rintro e w' ⟨t, a, c, rfl, h1, h2, h3, h4⟩
  exact ⟨t, a, c, rfl, h1, h2, h3, h4.1⟩
end Go.Proofs.YteojdfmdhgnmfaaGreat


/- Walks: bindings out of a map, in order. -/
namespace Go.Proofs.YteojdfmdhgnmfaaGreat
open Go.RowKit
set_option linter.unusedSimpArgs false
set_option linter.unusedVariables false
set_option maxRecDepth 8000

theorem Tryz.infoBind : (Tryz.prog.info? 54).map (fun i => (i.zero, i.size, i.bytes)) = some (some (.agg #[.string ByteArray.empty, .string ByteArray.empty, .slice none 0 0]), 3, 56) := by kernel_rfl

theorem cell_three_new (w : World) (c0 c1 c2 : Value) (T : Nat) : ∀ j u, [c0, c1, c2][j]? = some u → (w.alloc (.cells #[c0, c1, c2] T)).cell? ((⟨w.heap.size, 0, none⟩ : Addr).add j) = some u :=
  World.news_of_block (cs := #[c0, c1, c2]) (heap_alloc_new w _)

/-- A binding appended to a row of them. -/
theorem binds_append {w w1 : World} {N : Nat} {Y : Nat → Prop} {v : Value} {cs : List Bc} (h : BRow w N Y v cs) (hN : N ≤ w.heap.size) (hY : ∀ b, Y b → b < N) (hb : Below w.heap.size w w1) (x : Bc) (ht : Sl w1 (fun b => Y b ∨ w.heap.size ≤ b) x.2.1 x.1.t.args) (hn : cs.length ≤ 1000000) (A : Nat) (hA : w1.heap.size = A) :
    ∃ v2 w3, (Builtin.append_ #[47, 47] 47 #[v, .slice (some ⟨A, 0, none⟩) 1 1]).run Tryz.prog (w1.alloc (.cells #[.string x.1.nm, .string x.1.t.name, .slice x.2.1 x.1.t.args.length x.2.2] 54)) = .ok v2 w3 ∧ BRow w3 N Y v2 (cs ++ [x]) ∧
      (w1.alloc (.cells #[.string x.1.nm, .string x.1.t.name, .slice x.2.1 x.1.t.args.length x.2.2] 54)).grownBy w3 v.ownBlock := by
  subst hA
  obtain ⟨i0, hi, hz0, hz1, hz2⟩ := info_parts Tryz.infoBind
  have hs := hb.size
  obtain ⟨g, cap, w3, hr, ho, hg, hat, hlt⟩ := run_append_lies (P := Tryz.prog) (w := w1.alloc (.cells #[.string x.1.nm, .string x.1.t.name, .slice x.2.1 x.1.t.args.length x.2.2] 54)) 47 47 N 54 i0 _ 3 56 Tryz.underlying47 hi hz0 hz1 hz2 rfl (by decide) v cs.length (flat3 cs) ((h.below hb).own.alloc _)
    ⟨w1.heap.size, 0, none⟩ 1 1 (enc3 x) rfl (cell_three_new _ _ _ _ _) (fun y hy => by simp [enc3] at hy; rcases hy with rfl | rfl | rfl <;> rfl) (by decide) (by unfold maxLen; omega) (by omega) (by simp; omega) _ rfl
  exact ⟨_, w3, hr, h.push hN hY hb ht _ rfl ho hg hat, hg⟩

/-- What is known midway. -/
def IoInv (w : World) (Z : List Bc) (b : Nat) (u : Value) (wr : World) : Prop :=
  ∃ Zr cs : List Bc, RangeAt wr b w.heap.size (Z.map toP) (Zr.map toP) ∧ (cs.map (·.1) ++ Zr.map (·.1)).Perm (Z.map (·.1)) ∧ (∀ x ∈ Zr, x ∈ Z) ∧ BRow wr (w.heap.size + 1) (fun _ => False) u cs ∧ Below w.heap.size w wr ∧ w.heap.size + 1 ≤ wr.heap.size

end Go.Proofs.YteojdfmdhgnmfaaGreat

/- What is wrong with bindings. -/
namespace Go.Proofs.YteojdfmdhgnmfaaGreat
open Go.RowKit
set_option linter.unusedSimpArgs false
set_option linter.unusedVariables false

/-- A text is not above another one. -/
def leB (a b : ByteArray) : Bool := Op.bytesLess a.toList b.toList || a.toList == b.toList
def prevN (ls : List Bd) (k : Nat) : Option ByteArray := if k = 0 then none else (ls[k - 1]?).map Bd.nm
/-- What is wrong with a binding behind another one. -/
def bmB (p : Option ByteArray) (d : Bd) : Int :=
  if (nameB d.nm && varB d.nm) = false then 1 else if (match p with | some q => leB d.nm q | none => false) = true then 14 else mayE d.t
def bmK (ls : List Bd) (k : Nat) : Int := match ls[k]? with
  | some d => bmB (prevN ls k) d
  | none => 0
def bmT (ls : List Bd) : Nat → Int
  | 0 => 0
  | n + 1 => if bmT ls n = 0 then bmK ls n else bmT ls n
/-- What is wrong with a list of bindings. -/
def bindsE (ls : List Bd) : Int := if 40 < ls.length then 3 else bmT ls ls.length

theorem bmT_stays {ls : List Bd} {k : Nat} (h : bmT ls k ≠ 0) : ∀ n, k ≤ n → bmT ls n = bmT ls k
  | 0, hn => by have : k = 0 := by omega
                subst this; rfl
  | n + 1, hn => by
    by_cases e : k = n + 1
    · rw [e]
    · have ih := bmT_stays h n (by omega)
      rw [bmT, if_neg (by rw [ih]; exact h), ih]
theorem bmT_err {ls : List Bd} {k : Nat} {z : Int} (hk : k < ls.length) (h40 : ¬ 40 < ls.length) (h0 : bmT ls k = 0) (hz : bmK ls k = z) (hne : z ≠ 0) : bindsE ls = z := by
  have h1 : bmT ls (k + 1) = z := by rw [bmT, if_pos h0, hz]
  unfold bindsE
  rw [if_neg h40, bmT_stays (k := k + 1) (by rw [h1]; exact hne) _ (by omega), h1]
theorem bmT_next {ls : List Bd} {k : Nat} (h0 : bmT ls k = 0) (hz : bmK ls k = 0) : bmT ls (k + 1) = 0 := by rw [bmT, if_pos h0, hz]
theorem bmK_name {ls : List Bd} {k : Nat} (hk : k < ls.length) (h : (nameB ls[k].nm && varB ls[k].nm) = false) : bmK ls k = 1 := by
  unfold bmK bmB
  rw [List.getElem?_eq_getElem hk]
  simp only [h, if_true]
theorem bmK_order {ls : List Bd} {j : Nat} (hk : j + 1 < ls.length) (h : (nameB ls[j + 1].nm && varB ls[j + 1].nm) = true) (hle : leB ls[j + 1].nm (ls[j]'(by omega)).nm = true) : bmK ls (j + 1) = 14 := by
  unfold bmK bmB prevN
  rw [List.getElem?_eq_getElem hk]
  simp only [h, Nat.add_sub_cancel, Nat.succ_ne_zero, if_false, Bool.true_eq_false]
  rw [List.getElem?_eq_getElem (by omega : j < ls.length)]
  simp only [Option.map_some, hle, if_true]
theorem bmK_may {ls : List Bd} {j : Nat} (hk : j + 1 < ls.length) (h : (nameB ls[j + 1].nm && varB ls[j + 1].nm) = true) (hle : leB ls[j + 1].nm (ls[j]'(by omega)).nm = false) : bmK ls (j + 1) = mayE ls[j + 1].t := by
  unfold bmK bmB prevN
  rw [List.getElem?_eq_getElem hk]
  simp only [h, Nat.add_sub_cancel, Nat.succ_ne_zero, if_false, Bool.true_eq_false]
  rw [List.getElem?_eq_getElem (by omega : j < ls.length)]
  simp only [Option.map_some, hle, Bool.false_eq_true, if_false]
theorem bmK_first {ls : List Bd} (hk : 0 < ls.length) (h : (nameB ls[0].nm && varB ls[0].nm) = true) : bmK ls 0 = mayE ls[0].t := by
  unfold bmK bmB prevN
  rw [List.getElem?_eq_getElem hk]
  simp only [h, if_true, Bool.true_eq_false, Bool.false_eq_true, if_false]
end Go.Proofs.YteojdfmdhgnmfaaGreat


/- Walks: bindings out of raw numbers. -/
namespace Go.Proofs.YteojdfmdhgnmfaaGreat
open Go.RowKit
set_option linter.unusedSimpArgs false
set_option linter.unusedVariables false
set_option maxRecDepth 8000

/-- The names of made bindings. -/
def four : List ByteArray := [⟨#[85]⟩, ⟨#[88]⟩, ⟨#[89]⟩, ⟨#[90]⟩]
theorem four_at (k : Nat) (h : k < 4) : ∃ s, (#[Value.string ⟨#[85]⟩, .string ⟨#[88]⟩, .string ⟨#[89]⟩, .string ⟨#[90]⟩] : Array Value)[k]? = some (.string s) ∧ four.take (k + 1) = four.take k ++ [s] := by
  match k, h with
  | 0, _ => exact ⟨_, rfl, rfl⟩
  | 1, _ => exact ⟨_, rfl, rfl⟩
  | 2, _ => exact ⟨_, rfl, rfl⟩
  | 3, _ => exact ⟨_, rfl, rfl⟩
def BfInv (w : World) (m : Nat) (u v : Value) (wr : World) : Prop :=
  ∃ (k : Nat) (cs : List Bc), k ≤ 4 ∧ v = .int .i64 (k : Int) ∧ BRow wr (w.heap.size + 1) (fun _ => False) u cs ∧ (cs.map fun x => x.1.nm).Sublist (four.take k) ∧ (∀ x ∈ cs, sizeL [x.1.t] ≤ top m ∧ errL [x.1.t] = 0) ∧ Blk wr w.heap.size #[.string ⟨#[85]⟩, .string ⟨#[88]⟩, .string ⟨#[89]⟩, .string ⟨#[90]⟩] 9 ∧ Below w.heap.size w wr

end Go.Proofs.YteojdfmdhgnmfaaGreat

/- Walks: one of some rows. -/
namespace Go.Proofs.YteojdfmdhgnmfaaGreat
open Go.RowKit
set_option linter.unusedSimpArgs false
set_option linter.unusedVariables false
set_option maxRecDepth 8000

def rowsSix : List (List ByteArray) := [[⟨#[97]⟩, ⟨#[98]⟩, ⟨#[99]⟩, ⟨#[104]⟩, ⟨#[107]⟩, ⟨#[102]⟩, ⟨#[103]⟩], [⟨#[103]⟩, ⟨#[102]⟩, ⟨#[107]⟩, ⟨#[104]⟩, ⟨#[99]⟩, ⟨#[98]⟩, ⟨#[97]⟩], [⟨#[102]⟩, ⟨#[104]⟩], [], [⟨#[101]⟩, ⟨#[102]⟩, ⟨#[105]⟩], [⟨#[99]⟩, ⟨#[97]⟩, ⟨#[107]⟩, ⟨#[104]⟩, ⟨#[103]⟩, ⟨#[102]⟩]]
/-- A row in a block of its own. -/
theorem lv_blk {α : Type} {f : α → Value} {w : World} {b T : Nat} {l : List α} {X : Nat → Prop} (h : Blk w b (l.map f).toArray T) (hX : X b) (hl : l.length ≤ 1000000) : LV f w X (.slice (some ⟨b, 0, none⟩) l.length l.length) l :=
  ⟨_, _, rfl, ⟨by omega, Nat.le_refl _⟩, Or.inr ⟨b, 0, rfl, hX, fun i hi => by rw [h.cell]; simp [hi]⟩⟩
theorem inB_mem {x : ByteArray} {l : List ByteArray} (h : inB x l = true) : x ∈ l := by
  unfold inB at h
  rw [List.any_eq_true] at h
  obtain ⟨y, hy, e⟩ := h
  have e2 : y = x := bytes_inj (by simpa using e)
  rw [← e2]; exact hy
theorem rowE_of {row : List ByteArray} (h40 : row.length ≤ 40) (hall : ∀ n ∈ row, nameB n = true ∧ varB n = false) (hnd : row.Nodup) : rowE row = 0 := by
  unfold rowE
  rw [if_neg (by omega)]
  refine rows_none fun j hj => ?_
  obtain ⟨h1, h2⟩ := hall _ (List.getElem_mem hj)
  rw [rowAt_get hj, if_neg (by rw [h1, h2]; simp), if_neg]
  intro hi
  have hm := inB_mem hi
  rw [List.mem_iff_getElem] at hm
  obtain ⟨i, hi1, hi2⟩ := hm
  rw [List.getElem_take] at hi2
  simp at hi1
  exact List.pairwise_iff_getElem.1 hnd i j (by omega) hj (by omega) hi2
theorem rowsSix_ok : ∀ row ∈ rowsSix, rowE row = 0 ∧ row.length ≤ 40 := by
  intro row h
  simp only [rowsSix, List.mem_cons, List.mem_nil_iff, or_false] at h
  rcases h with rfl | rfl | rfl | rfl | rfl | rfl <;> exact ⟨rowE_of (by decide) (by decide) (by decide), by decide⟩

/-- The row that a number tells. -/
def rowN (z : Int) : List ByteArray := rowsSix.getD (pickN z 6) []
set_option maxHeartbeats 4000000 in
theorem rowFromN_any (z : Int) (hz : -9223372036854775808 ≤ z ∧ z ≤ 9223372036854775807) (w : World) :
    Calls Tryz.prog 11 #[.int .i64 z] w fun e w' => ∃ row v, e = .returned v ∧ row ∈ rowsSix ∧ LV Value.string w' (fun b => w.heap.size ≤ b) v row ∧ Below w.heap.size w w' ∧ row = rowN z := by
  have HW : Hid (Blk ((((((w.alloc (.cells #[.string ⟨#[97]⟩, .string ⟨#[98]⟩, .string ⟨#[99]⟩, .string ⟨#[104]⟩, .string ⟨#[107]⟩, .string ⟨#[102]⟩, .string ⟨#[103]⟩] 9)).alloc (.cells #[.string ⟨#[103]⟩, .string ⟨#[102]⟩, .string ⟨#[107]⟩, .string ⟨#[104]⟩, .string ⟨#[99]⟩, .string ⟨#[98]⟩, .string ⟨#[97]⟩] 9)).alloc (.cells #[.string ⟨#[102]⟩, .string ⟨#[104]⟩] 9)).alloc (.cells #[.string ⟨#[101]⟩, .string ⟨#[102]⟩, .string ⟨#[105]⟩] 9)).alloc (.cells #[.string ⟨#[99]⟩, .string ⟨#[97]⟩, .string ⟨#[107]⟩, .string ⟨#[104]⟩, .string ⟨#[103]⟩, .string ⟨#[102]⟩] 9)).alloc (.cells #[.slice (some ⟨w.heap.size + 0, 0, none⟩) 7 7, .slice (some ⟨w.heap.size + 1, 0, none⟩) 7 7, .slice (some ⟨w.heap.size + 2, 0, none⟩) 2 2, .slice none 0 0, .slice (some ⟨w.heap.size + 3, 0, none⟩) 3 3, .slice (some ⟨w.heap.size + 4, 0, none⟩) 6 6] 37)) (w.heap.size + 0) #[.string ⟨#[97]⟩, .string ⟨#[98]⟩, .string ⟨#[99]⟩, .string ⟨#[104]⟩, .string ⟨#[107]⟩, .string ⟨#[102]⟩, .string ⟨#[103]⟩] 9 ∧ Blk ((((((w.alloc (.cells #[.string ⟨#[97]⟩, .string ⟨#[98]⟩, .string ⟨#[99]⟩, .string ⟨#[104]⟩, .string ⟨#[107]⟩, .string ⟨#[102]⟩, .string ⟨#[103]⟩] 9)).alloc (.cells #[.string ⟨#[103]⟩, .string ⟨#[102]⟩, .string ⟨#[107]⟩, .string ⟨#[104]⟩, .string ⟨#[99]⟩, .string ⟨#[98]⟩, .string ⟨#[97]⟩] 9)).alloc (.cells #[.string ⟨#[102]⟩, .string ⟨#[104]⟩] 9)).alloc (.cells #[.string ⟨#[101]⟩, .string ⟨#[102]⟩, .string ⟨#[105]⟩] 9)).alloc (.cells #[.string ⟨#[99]⟩, .string ⟨#[97]⟩, .string ⟨#[107]⟩, .string ⟨#[104]⟩, .string ⟨#[103]⟩, .string ⟨#[102]⟩] 9)).alloc (.cells #[.slice (some ⟨w.heap.size + 0, 0, none⟩) 7 7, .slice (some ⟨w.heap.size + 1, 0, none⟩) 7 7, .slice (some ⟨w.heap.size + 2, 0, none⟩) 2 2, .slice none 0 0, .slice (some ⟨w.heap.size + 3, 0, none⟩) 3 3, .slice (some ⟨w.heap.size + 4, 0, none⟩) 6 6] 37)) (w.heap.size + 1) #[.string ⟨#[103]⟩, .string ⟨#[102]⟩, .string ⟨#[107]⟩, .string ⟨#[104]⟩, .string ⟨#[99]⟩, .string ⟨#[98]⟩, .string ⟨#[97]⟩] 9 ∧ Blk ((((((w.alloc (.cells #[.string ⟨#[97]⟩, .string ⟨#[98]⟩, .string ⟨#[99]⟩, .string ⟨#[104]⟩, .string ⟨#[107]⟩, .string ⟨#[102]⟩, .string ⟨#[103]⟩] 9)).alloc (.cells #[.string ⟨#[103]⟩, .string ⟨#[102]⟩, .string ⟨#[107]⟩, .string ⟨#[104]⟩, .string ⟨#[99]⟩, .string ⟨#[98]⟩, .string ⟨#[97]⟩] 9)).alloc (.cells #[.string ⟨#[102]⟩, .string ⟨#[104]⟩] 9)).alloc (.cells #[.string ⟨#[101]⟩, .string ⟨#[102]⟩, .string ⟨#[105]⟩] 9)).alloc (.cells #[.string ⟨#[99]⟩, .string ⟨#[97]⟩, .string ⟨#[107]⟩, .string ⟨#[104]⟩, .string ⟨#[103]⟩, .string ⟨#[102]⟩] 9)).alloc (.cells #[.slice (some ⟨w.heap.size + 0, 0, none⟩) 7 7, .slice (some ⟨w.heap.size + 1, 0, none⟩) 7 7, .slice (some ⟨w.heap.size + 2, 0, none⟩) 2 2, .slice none 0 0, .slice (some ⟨w.heap.size + 3, 0, none⟩) 3 3, .slice (some ⟨w.heap.size + 4, 0, none⟩) 6 6] 37)) (w.heap.size + 2) #[.string ⟨#[102]⟩, .string ⟨#[104]⟩] 9 ∧ Blk ((((((w.alloc (.cells #[.string ⟨#[97]⟩, .string ⟨#[98]⟩, .string ⟨#[99]⟩, .string ⟨#[104]⟩, .string ⟨#[107]⟩, .string ⟨#[102]⟩, .string ⟨#[103]⟩] 9)).alloc (.cells #[.string ⟨#[103]⟩, .string ⟨#[102]⟩, .string ⟨#[107]⟩, .string ⟨#[104]⟩, .string ⟨#[99]⟩, .string ⟨#[98]⟩, .string ⟨#[97]⟩] 9)).alloc (.cells #[.string ⟨#[102]⟩, .string ⟨#[104]⟩] 9)).alloc (.cells #[.string ⟨#[101]⟩, .string ⟨#[102]⟩, .string ⟨#[105]⟩] 9)).alloc (.cells #[.string ⟨#[99]⟩, .string ⟨#[97]⟩, .string ⟨#[107]⟩, .string ⟨#[104]⟩, .string ⟨#[103]⟩, .string ⟨#[102]⟩] 9)).alloc (.cells #[.slice (some ⟨w.heap.size + 0, 0, none⟩) 7 7, .slice (some ⟨w.heap.size + 1, 0, none⟩) 7 7, .slice (some ⟨w.heap.size + 2, 0, none⟩) 2 2, .slice none 0 0, .slice (some ⟨w.heap.size + 3, 0, none⟩) 3 3, .slice (some ⟨w.heap.size + 4, 0, none⟩) 6 6] 37)) (w.heap.size + 3) #[.string ⟨#[101]⟩, .string ⟨#[102]⟩, .string ⟨#[105]⟩] 9 ∧ Blk ((((((w.alloc (.cells #[.string ⟨#[97]⟩, .string ⟨#[98]⟩, .string ⟨#[99]⟩, .string ⟨#[104]⟩, .string ⟨#[107]⟩, .string ⟨#[102]⟩, .string ⟨#[103]⟩] 9)).alloc (.cells #[.string ⟨#[103]⟩, .string ⟨#[102]⟩, .string ⟨#[107]⟩, .string ⟨#[104]⟩, .string ⟨#[99]⟩, .string ⟨#[98]⟩, .string ⟨#[97]⟩] 9)).alloc (.cells #[.string ⟨#[102]⟩, .string ⟨#[104]⟩] 9)).alloc (.cells #[.string ⟨#[101]⟩, .string ⟨#[102]⟩, .string ⟨#[105]⟩] 9)).alloc (.cells #[.string ⟨#[99]⟩, .string ⟨#[97]⟩, .string ⟨#[107]⟩, .string ⟨#[104]⟩, .string ⟨#[103]⟩, .string ⟨#[102]⟩] 9)).alloc (.cells #[.slice (some ⟨w.heap.size + 0, 0, none⟩) 7 7, .slice (some ⟨w.heap.size + 1, 0, none⟩) 7 7, .slice (some ⟨w.heap.size + 2, 0, none⟩) 2 2, .slice none 0 0, .slice (some ⟨w.heap.size + 3, 0, none⟩) 3 3, .slice (some ⟨w.heap.size + 4, 0, none⟩) 6 6] 37)) (w.heap.size + 4) #[.string ⟨#[99]⟩, .string ⟨#[97]⟩, .string ⟨#[107]⟩, .string ⟨#[104]⟩, .string ⟨#[103]⟩, .string ⟨#[102]⟩] 9 ∧ Blk ((((((w.alloc (.cells #[.string ⟨#[97]⟩, .string ⟨#[98]⟩, .string ⟨#[99]⟩, .string ⟨#[104]⟩, .string ⟨#[107]⟩, .string ⟨#[102]⟩, .string ⟨#[103]⟩] 9)).alloc (.cells #[.string ⟨#[103]⟩, .string ⟨#[102]⟩, .string ⟨#[107]⟩, .string ⟨#[104]⟩, .string ⟨#[99]⟩, .string ⟨#[98]⟩, .string ⟨#[97]⟩] 9)).alloc (.cells #[.string ⟨#[102]⟩, .string ⟨#[104]⟩] 9)).alloc (.cells #[.string ⟨#[101]⟩, .string ⟨#[102]⟩, .string ⟨#[105]⟩] 9)).alloc (.cells #[.string ⟨#[99]⟩, .string ⟨#[97]⟩, .string ⟨#[107]⟩, .string ⟨#[104]⟩, .string ⟨#[103]⟩, .string ⟨#[102]⟩] 9)).alloc (.cells #[.slice (some ⟨w.heap.size + 0, 0, none⟩) 7 7, .slice (some ⟨w.heap.size + 1, 0, none⟩) 7 7, .slice (some ⟨w.heap.size + 2, 0, none⟩) 2 2, .slice none 0 0, .slice (some ⟨w.heap.size + 3, 0, none⟩) 3 3, .slice (some ⟨w.heap.size + 4, 0, none⟩) 6 6] 37)) (w.heap.size + 5) #[.slice (some ⟨w.heap.size + 0, 0, none⟩) 7 7, .slice (some ⟨w.heap.size + 1, 0, none⟩) 7 7, .slice (some ⟨w.heap.size + 2, 0, none⟩) 2 2, .slice none 0 0, .slice (some ⟨w.heap.size + 3, 0, none⟩) 3 3, .slice (some ⟨w.heap.size + 4, 0, none⟩) 6 6] 37 ∧ Below w.heap.size w ((((((w.alloc (.cells #[.string ⟨#[97]⟩, .string ⟨#[98]⟩, .string ⟨#[99]⟩, .string ⟨#[104]⟩, .string ⟨#[107]⟩, .string ⟨#[102]⟩, .string ⟨#[103]⟩] 9)).alloc (.cells #[.string ⟨#[103]⟩, .string ⟨#[102]⟩, .string ⟨#[107]⟩, .string ⟨#[104]⟩, .string ⟨#[99]⟩, .string ⟨#[98]⟩, .string ⟨#[97]⟩] 9)).alloc (.cells #[.string ⟨#[102]⟩, .string ⟨#[104]⟩] 9)).alloc (.cells #[.string ⟨#[101]⟩, .string ⟨#[102]⟩, .string ⟨#[105]⟩] 9)).alloc (.cells #[.string ⟨#[99]⟩, .string ⟨#[97]⟩, .string ⟨#[107]⟩, .string ⟨#[104]⟩, .string ⟨#[103]⟩, .string ⟨#[102]⟩] 9)).alloc (.cells #[.slice (some ⟨w.heap.size + 0, 0, none⟩) 7 7, .slice (some ⟨w.heap.size + 1, 0, none⟩) 7 7, .slice (some ⟨w.heap.size + 2, 0, none⟩) 2 2, .slice none 0 0, .slice (some ⟨w.heap.size + 3, 0, none⟩) 3 3, .slice (some ⟨w.heap.size + 4, 0, none⟩) 6 6] 37))) := by
    have b0 := Below.refl w.heap.size w
    have k0 := Blk.new w #[.string ⟨#[97]⟩, .string ⟨#[98]⟩, .string ⟨#[99]⟩, .string ⟨#[104]⟩, .string ⟨#[107]⟩, .string ⟨#[102]⟩, .string ⟨#[103]⟩] 9
    have b1 := b0.alloc b0.size (.cells #[.string ⟨#[97]⟩, .string ⟨#[98]⟩, .string ⟨#[99]⟩, .string ⟨#[104]⟩, .string ⟨#[107]⟩, .string ⟨#[102]⟩, .string ⟨#[103]⟩] 9)
    have e0 : (w.alloc (.cells #[.string ⟨#[97]⟩, .string ⟨#[98]⟩, .string ⟨#[99]⟩, .string ⟨#[104]⟩, .string ⟨#[107]⟩, .string ⟨#[102]⟩, .string ⟨#[103]⟩] 9)).heap.size = w.heap.size + 1 := by simp
    generalize w.alloc (.cells #[.string ⟨#[97]⟩, .string ⟨#[98]⟩, .string ⟨#[99]⟩, .string ⟨#[104]⟩, .string ⟨#[107]⟩, .string ⟨#[102]⟩, .string ⟨#[103]⟩] 9) = u0 at *
    have k1 := Blk.new u0 #[.string ⟨#[103]⟩, .string ⟨#[102]⟩, .string ⟨#[107]⟩, .string ⟨#[104]⟩, .string ⟨#[99]⟩, .string ⟨#[98]⟩, .string ⟨#[97]⟩] 9
    have b2 := b1.alloc b1.size (.cells #[.string ⟨#[103]⟩, .string ⟨#[102]⟩, .string ⟨#[107]⟩, .string ⟨#[104]⟩, .string ⟨#[99]⟩, .string ⟨#[98]⟩, .string ⟨#[97]⟩] 9)
    replace k0 := k0.alloc (.cells #[.string ⟨#[103]⟩, .string ⟨#[102]⟩, .string ⟨#[107]⟩, .string ⟨#[104]⟩, .string ⟨#[99]⟩, .string ⟨#[98]⟩, .string ⟨#[97]⟩] 9)
    have e1 : (u0.alloc (.cells #[.string ⟨#[103]⟩, .string ⟨#[102]⟩, .string ⟨#[107]⟩, .string ⟨#[104]⟩, .string ⟨#[99]⟩, .string ⟨#[98]⟩, .string ⟨#[97]⟩] 9)).heap.size = w.heap.size + 2 := by simp [e0]
    rw [e0] at k1
    generalize u0.alloc (.cells #[.string ⟨#[103]⟩, .string ⟨#[102]⟩, .string ⟨#[107]⟩, .string ⟨#[104]⟩, .string ⟨#[99]⟩, .string ⟨#[98]⟩, .string ⟨#[97]⟩] 9) = u1 at *
    have k2 := Blk.new u1 #[.string ⟨#[102]⟩, .string ⟨#[104]⟩] 9
    have b3 := b2.alloc b2.size (.cells #[.string ⟨#[102]⟩, .string ⟨#[104]⟩] 9)
    replace k0 := k0.alloc (.cells #[.string ⟨#[102]⟩, .string ⟨#[104]⟩] 9)
    replace k1 := k1.alloc (.cells #[.string ⟨#[102]⟩, .string ⟨#[104]⟩] 9)
    have e2 : (u1.alloc (.cells #[.string ⟨#[102]⟩, .string ⟨#[104]⟩] 9)).heap.size = w.heap.size + 3 := by simp [e1]
    rw [e1] at k2
    generalize u1.alloc (.cells #[.string ⟨#[102]⟩, .string ⟨#[104]⟩] 9) = u2 at *
    have k3 := Blk.new u2 #[.string ⟨#[101]⟩, .string ⟨#[102]⟩, .string ⟨#[105]⟩] 9
    have b4 := b3.alloc b3.size (.cells #[.string ⟨#[101]⟩, .string ⟨#[102]⟩, .string ⟨#[105]⟩] 9)
    replace k0 := k0.alloc (.cells #[.string ⟨#[101]⟩, .string ⟨#[102]⟩, .string ⟨#[105]⟩] 9)
    replace k1 := k1.alloc (.cells #[.string ⟨#[101]⟩, .string ⟨#[102]⟩, .string ⟨#[105]⟩] 9)
    replace k2 := k2.alloc (.cells #[.string ⟨#[101]⟩, .string ⟨#[102]⟩, .string ⟨#[105]⟩] 9)
    have e3 : (u2.alloc (.cells #[.string ⟨#[101]⟩, .string ⟨#[102]⟩, .string ⟨#[105]⟩] 9)).heap.size = w.heap.size + 4 := by simp [e2]
    rw [e2] at k3
    generalize u2.alloc (.cells #[.string ⟨#[101]⟩, .string ⟨#[102]⟩, .string ⟨#[105]⟩] 9) = u3 at *
    have k4 := Blk.new u3 #[.string ⟨#[99]⟩, .string ⟨#[97]⟩, .string ⟨#[107]⟩, .string ⟨#[104]⟩, .string ⟨#[103]⟩, .string ⟨#[102]⟩] 9
    have b5 := b4.alloc b4.size (.cells #[.string ⟨#[99]⟩, .string ⟨#[97]⟩, .string ⟨#[107]⟩, .string ⟨#[104]⟩, .string ⟨#[103]⟩, .string ⟨#[102]⟩] 9)
    replace k0 := k0.alloc (.cells #[.string ⟨#[99]⟩, .string ⟨#[97]⟩, .string ⟨#[107]⟩, .string ⟨#[104]⟩, .string ⟨#[103]⟩, .string ⟨#[102]⟩] 9)
    replace k1 := k1.alloc (.cells #[.string ⟨#[99]⟩, .string ⟨#[97]⟩, .string ⟨#[107]⟩, .string ⟨#[104]⟩, .string ⟨#[103]⟩, .string ⟨#[102]⟩] 9)
    replace k2 := k2.alloc (.cells #[.string ⟨#[99]⟩, .string ⟨#[97]⟩, .string ⟨#[107]⟩, .string ⟨#[104]⟩, .string ⟨#[103]⟩, .string ⟨#[102]⟩] 9)
    replace k3 := k3.alloc (.cells #[.string ⟨#[99]⟩, .string ⟨#[97]⟩, .string ⟨#[107]⟩, .string ⟨#[104]⟩, .string ⟨#[103]⟩, .string ⟨#[102]⟩] 9)
    have e4 : (u3.alloc (.cells #[.string ⟨#[99]⟩, .string ⟨#[97]⟩, .string ⟨#[107]⟩, .string ⟨#[104]⟩, .string ⟨#[103]⟩, .string ⟨#[102]⟩] 9)).heap.size = w.heap.size + 5 := by simp [e3]
    rw [e3] at k4
    generalize u3.alloc (.cells #[.string ⟨#[99]⟩, .string ⟨#[97]⟩, .string ⟨#[107]⟩, .string ⟨#[104]⟩, .string ⟨#[103]⟩, .string ⟨#[102]⟩] 9) = u4 at *
    have k5 := Blk.new u4 #[.slice (some ⟨w.heap.size + 0, 0, none⟩) 7 7, .slice (some ⟨w.heap.size + 1, 0, none⟩) 7 7, .slice (some ⟨w.heap.size + 2, 0, none⟩) 2 2, .slice none 0 0, .slice (some ⟨w.heap.size + 3, 0, none⟩) 3 3, .slice (some ⟨w.heap.size + 4, 0, none⟩) 6 6] 37
    rw [e4] at k5
    exact ⟨k0.alloc _, k1.alloc _, k2.alloc _, k3.alloc _, k4.alloc _, k5, b5.alloc b5.size _⟩
  go_enter Tryz.func11, Tryz.ntmps11
  go_wp2_with fail
  generalize ((((((w.alloc (.cells #[.string ⟨#[97]⟩, .string ⟨#[98]⟩, .string ⟨#[99]⟩, .string ⟨#[104]⟩, .string ⟨#[107]⟩, .string ⟨#[102]⟩, .string ⟨#[103]⟩] 9)).alloc (.cells #[.string ⟨#[103]⟩, .string ⟨#[102]⟩, .string ⟨#[107]⟩, .string ⟨#[104]⟩, .string ⟨#[99]⟩, .string ⟨#[98]⟩, .string ⟨#[97]⟩] 9)).alloc (.cells #[.string ⟨#[102]⟩, .string ⟨#[104]⟩] 9)).alloc (.cells #[.string ⟨#[101]⟩, .string ⟨#[102]⟩, .string ⟨#[105]⟩] 9)).alloc (.cells #[.string ⟨#[99]⟩, .string ⟨#[97]⟩, .string ⟨#[107]⟩, .string ⟨#[104]⟩, .string ⟨#[103]⟩, .string ⟨#[102]⟩] 9)).alloc (.cells #[.slice (some ⟨w.heap.size + 0, 0, none⟩) 7 7, .slice (some ⟨w.heap.size + 1, 0, none⟩) 7 7, .slice (some ⟨w.heap.size + 2, 0, none⟩) 2 2, .slice none 0 0, .slice (some ⟨w.heap.size + 3, 0, none⟩) 3 3, .slice (some ⟨w.heap.size + 4, 0, none⟩) 6 6] 37)) = w6 at *
  obtain ⟨k0, k1, k2, k3, k4, k5, hb⟩ := HW.out
  have HB := hide hb
  have q0 := k5.cell 0
  have q1 := k5.cell 1
  have q2 := k5.cell 2
  have q3 := k5.cell 3
  have q4 := k5.cell 4
  have q5 := k5.cell 5
  simp only [List.getElem?_toArray, List.getElem?_cons_zero, List.getElem?_cons_succ] at q0 q1 q2 q3 q4 q5
  have L0 : Hid (LV Value.string w6 (fun b => w.heap.size ≤ b) (.slice (some ⟨w.heap.size + 0, 0, none⟩) 7 7) [⟨#[97]⟩, ⟨#[98]⟩, ⟨#[99]⟩, ⟨#[104]⟩, ⟨#[107]⟩, ⟨#[102]⟩, ⟨#[103]⟩]) := lv_blk (f := Value.string) (l := ([⟨#[97]⟩, ⟨#[98]⟩, ⟨#[99]⟩, ⟨#[104]⟩, ⟨#[107]⟩, ⟨#[102]⟩, ⟨#[103]⟩] : List ByteArray)) k0 (by omega) (by decide)
  have L1 : Hid (LV Value.string w6 (fun b => w.heap.size ≤ b) (.slice (some ⟨w.heap.size + 1, 0, none⟩) 7 7) [⟨#[103]⟩, ⟨#[102]⟩, ⟨#[107]⟩, ⟨#[104]⟩, ⟨#[99]⟩, ⟨#[98]⟩, ⟨#[97]⟩]) := lv_blk (f := Value.string) (l := ([⟨#[103]⟩, ⟨#[102]⟩, ⟨#[107]⟩, ⟨#[104]⟩, ⟨#[99]⟩, ⟨#[98]⟩, ⟨#[97]⟩] : List ByteArray)) k1 (by omega) (by decide)
  have L2 : Hid (LV Value.string w6 (fun b => w.heap.size ≤ b) (.slice (some ⟨w.heap.size + 2, 0, none⟩) 2 2) [⟨#[102]⟩, ⟨#[104]⟩]) := lv_blk (f := Value.string) (l := ([⟨#[102]⟩, ⟨#[104]⟩] : List ByteArray)) k2 (by omega) (by decide)
  have L3 : Hid (LV Value.string w6 (fun b => w.heap.size ≤ b) (.slice none 0 0) []) := ⟨none, 0, rfl, by simp, Or.inl rfl⟩
  have L4 : Hid (LV Value.string w6 (fun b => w.heap.size ≤ b) (.slice (some ⟨w.heap.size + 3, 0, none⟩) 3 3) [⟨#[101]⟩, ⟨#[102]⟩, ⟨#[105]⟩]) := lv_blk (f := Value.string) (l := ([⟨#[101]⟩, ⟨#[102]⟩, ⟨#[105]⟩] : List ByteArray)) k3 (by omega) (by decide)
  have L5 : Hid (LV Value.string w6 (fun b => w.heap.size ≤ b) (.slice (some ⟨w.heap.size + 4, 0, none⟩) 6 6) [⟨#[99]⟩, ⟨#[97]⟩, ⟨#[107]⟩, ⟨#[104]⟩, ⟨#[103]⟩, ⟨#[102]⟩]) := lv_blk (f := Value.string) (l := ([⟨#[99]⟩, ⟨#[97]⟩, ⟨#[107]⟩, ⟨#[104]⟩, ⟨#[103]⟩, ⟨#[102]⟩] : List ByteArray)) k4 (by omega) (by decide)
  clear k0 k1 k2 k3 k4 k5 hb HW
  refine (pick_eq z 6 (by decide) (by decide) hz _).mono ?_
  rintro e w1 ⟨rfl, rfl⟩
  have hk := pickN_lt z 6 (by decide)
  have HRN : Hid (rowN z = rowsSix.getD (pickN z 6) []) := rfl
  generalize pickN z 6 = k at *
  match k, hk with
  | 0, _ =>
    go_wp2_with fail
    go_ret
    exact ⟨_, _, rfl, by simp [rowsSix], L0.out, HB.out, HRN.out.symm⟩
  | 1, _ =>
    go_wp2_with fail
    go_ret
    exact ⟨_, _, rfl, by simp [rowsSix], L1.out, HB.out, HRN.out.symm⟩
  | 2, _ =>
    go_wp2_with fail
    go_ret
    exact ⟨_, _, rfl, by simp [rowsSix], L2.out, HB.out, HRN.out.symm⟩
  | 3, _ =>
    go_wp2_with fail
    go_ret
    exact ⟨_, _, rfl, by simp [rowsSix], L3.out, HB.out, HRN.out.symm⟩
  | 4, _ =>
    go_wp2_with fail
    go_ret
    exact ⟨_, _, rfl, by simp [rowsSix], L4.out, HB.out, HRN.out.symm⟩
  | 5, _ =>
    go_wp2_with fail
    go_ret
    exact ⟨_, _, rfl, by simp [rowsSix], L5.out, HB.out, HRN.out.symm⟩
theorem rowFrom_any (z : Int) (hz : -9223372036854775808 ≤ z ∧ z ≤ 9223372036854775807) (w : World) :
    Calls Tryz.prog 11 #[.int .i64 z] w fun e w' => ∃ row v, e = .returned v ∧ row ∈ rowsSix ∧ LV Value.string w' (fun b => w.heap.size ≤ b) v row ∧ Below w.heap.size w w' :=
  (rowFromN_any z hz w).mono fun e w' ⟨row, v, h1, h2, h3, h4, _⟩ => ⟨row, v, h1, h2, h3, h4⟩
#print axioms rowsSix_ok
#print axioms rowFrom_any
end Go.Proofs.YteojdfmdhgnmfaaGreat


/- Walks: terms without variables out of raw numbers. -/
namespace Go.Proofs.YteojdfmdhgnmfaaGreat
open Go.RowKit
set_option linter.unusedSimpArgs false
set_option linter.unusedVariables false
set_option maxRecDepth 8000

def GrdP (w : World) (i m : Nat) (e : Ending) (w' : World) : Prop :=
  ∃ (a : Option Addr) (c n : Nat) (t : Tm), e = .returned (.tuple #[.agg #[.string t.name, .slice a t.args.length c], .int .i64 (n : Int)]) ∧ Sl w' (fun b => w.heap.size ≤ b) a t.args ∧ sizeL [t] ≤ top m ∧ i ≤ n ∧ n ≤ i + top m ∧ Below w.heap.size w w' ∧ errL [t] = 0 ∧ grd t
theorem grd_leaf {s : ByteArray} (h : varB s = false) : grd ⟨s, []⟩ := fun k hk => by
  simp only [preL, List.append_nil, List.mem_cons, List.not_mem_nil, or_false] at hk
  rw [hk]; exact h
theorem grd_node {s : ByteArray} {l : List Tm} (h : varB s = false) (hl : ∀ x ∈ l, grd x) : grd ⟨s, l⟩ := fun k hk => by
  have e : preL [(⟨s, l⟩ : Tm)] = ⟨s, l⟩ :: preL l := by simp [preL]
  rw [e, List.mem_cons] at hk
  rcases hk with rfl | hk
  · exact h
  · clear e
    induction l with
    | nil => simp [preL] at hk
    | cons t r ih =>
      rw [preL_cons2, List.mem_append] at hk
      rcases hk with hk | hk
      · exact hl t (by simp) k hk
      · exact ih (fun x hx => hl x (by simp [hx])) hk
theorem gleaf {w w' : World} {s : ByteArray} {i m : Nat} (hn : nameB s = true) (hv : varB s = false) (hb : Below w.heap.size w w') : GrdP w i m (.returned (.tuple #[.agg #[.string s, .slice none 0 0], .int .i64 ((i : Int) + 1)])) w' := by
  have := top_pos m
  exact ⟨none, 0, i + 1, ⟨s, []⟩, by simp, ⟨by simp, Or.inl rfl⟩, by simp [sizeL]; omega, by omega, by omega, hb, err_leaf hn, grd_leaf hv⟩
theorem pick_ab (w : World) (T k : Nat) (hk : k < 2) : ∃ s, (nameB s = true ∧ varB s = false) ∧ (w.alloc (.cells #[.string ⟨#[97]⟩, .string ⟨#[98]⟩] T)).cell? ⟨w.heap.size, k, none⟩ = some (.string s) := by
  have h := Blk.new w #[.string ⟨#[97]⟩, .string ⟨#[98]⟩] T
  match k, hk with
  | 0, _ => exact ⟨⟨#[97]⟩, by decide, h.cell 0⟩
  | 1, _ => exact ⟨⟨#[98]⟩, by decide, h.cell 1⟩
/-- Memory of one call's, in a later world that differs but in one block. -/
theorem sl_exq1 {w w5 w' : World} {Z : Nat → Prop} {a : Option Addr} {l : List Tm} (hs : Sl w5 Z a l) (hZ : ∀ b, Z b → w.heap.size < b) (hq : ExQ (fun b => b = w.heap.size) w5 w') : Sl w' Z a l := hs.exq hq fun b hb e => by have := hZ b hb; omega
theorem gone {w w5 : World} {Z : Nat → Prop} {i m n T : Nat} {a5 : Option Addr} {c5 : Nat} {t5 : Tm} {v0 v1 : Value} {o1 : Obj} (hB : Below w.heap.size w w5) (hlt : w.heap.size < w5.heap.size) (hs : Sl w5 Z a5 t5.args) (hZ : ∀ b, Z b → w.heap.size < b) (hz : sizeL [t5] ≤ top m) (hm : 3 ≤ m + 1) (hn : i ≤ n) (hn' : n ≤ i + 1 + top m) (he : errL [t5] = 0) (hg : grd t5) :
    GrdP w i (m + 1) (.returned (.tuple #[.agg #[.string ⟨#[104]⟩, .slice (some ⟨w5.heap.size + 1, 0, none⟩) 1 1], .int .i64 (n : Int)])) ((((w5.setCell ⟨w.heap.size, 0, none⟩ v0).setCell ⟨w.heap.size, 1, none⟩ v1).alloc o1).alloc (.cells #[.string t5.name, .slice a5 t5.args.length c5] T)) := by
  have ht := top_step hm
  have hb0 : Below w.heap.size w (((w5.setCell ⟨w.heap.size, 0, none⟩ v0).setCell ⟨w.heap.size, 1, none⟩ v1).alloc o1) := ((hB.setCell (by simp) _).setCell (by simp) _).alloc (by simp [World.setCell]; omega) _
  refine ⟨some ⟨w5.heap.size + 1, 0, none⟩, 1, n, ⟨⟨#[104]⟩, [t5]⟩, rfl, ?_, by simp [sizeL] at hz ⊢; omega, hn, by omega, hb0.alloc hb0.size _, err_node (by decide) (by decide) he, grd_node (by decide) (fun x hx => by simp at hx; rw [hx]; exact hg)⟩
  have hnew := heap_alloc_new (((w5.setCell ⟨w.heap.size, 0, none⟩ v0).setCell ⟨w.heap.size, 1, none⟩ v1).alloc o1) (.cells #[.string t5.name, .slice a5 t5.args.length c5] T)
  have e : (((w5.setCell ⟨w.heap.size, 0, none⟩ v0).setCell ⟨w.heap.size, 1, none⟩ v1).alloc o1).heap.size = w5.heap.size + 1 := by simp [World.setCell]
  rw [e] at hnew
  refine sl_one hnew (by omega) ((hs.mono (Y := fun b => Z b ∧ b < w5.heap.size) fun b h1 h2 => ⟨h1, h2⟩).kept (w' := _) fun b hb => ?_) (fun b hb _ => by have := hZ b hb.1; omega)
  have := hZ b hb.1
  rw [Below.heap_alloc _ _ _ (by rw [e]; omega), Below.heap_alloc _ _ _ (by simp [World.setCell]; omega), Below.heap_setCell _ _ _ _ (by simp; omega), Below.heap_setCell _ _ _ _ (by simp; omega)]
theorem gtwo {w w6 : World} {Z6 : Nat → Prop} {i m n T : Nat} {a5 a6 : Option Addr} {c5 c6 : Nat} {t5 t6 : Tm} {v0 v1 : Value} {o1 : Obj} (hB : Below w.heap.size w w6) (hlt : w.heap.size < w6.heap.size) (h5 : Sl w6 (fun b => w.heap.size < b) a5 t5.args) (h6 : Sl w6 Z6 a6 t6.args) (hZ6 : ∀ b, Z6 b → w.heap.size < b) (hz : sizeL [t5] + sizeL [t6] + 1 ≤ top (m + 1)) (hn : i ≤ n) (hn' : n ≤ i + top (m + 1)) (e5 : errL [t5] = 0) (e6 : errL [t6] = 0) (g5 : grd t5) (g6 : grd t6) :
    GrdP w i (m + 1) (.returned (.tuple #[.agg #[.string ⟨#[102]⟩, .slice (some ⟨w6.heap.size + 1, 0, none⟩) 2 2], .int .i64 (n : Int)])) ((((w6.alloc o1).alloc (.cells #[.string t5.name, .slice a5 t5.args.length c5, .string t6.name, .slice a6 t6.args.length c6] T)).setCell ⟨w.heap.size, 0, none⟩ v0).setCell ⟨w.heap.size, 1, none⟩ v1) := by
  have hb0 : Below w.heap.size w ((w6.alloc o1).alloc (.cells #[.string t5.name, .slice a5 t5.args.length c5, .string t6.name, .slice a6 t6.args.length c6] T)) := (hB.alloc hB.size _).alloc (by simp; omega) _
  have hnew : Blk ((((w6.alloc o1).alloc (.cells #[.string t5.name, .slice a5 t5.args.length c5, .string t6.name, .slice a6 t6.args.length c6] T)).setCell ⟨w.heap.size, 0, none⟩ v0).setCell ⟨w.heap.size, 1, none⟩ v1) (w6.heap.size + 1) #[.string t5.name, .slice a5 t5.args.length c5, .string t6.name, .slice a6 t6.args.length c6] T := by
    have h := Blk.new (w6.alloc o1) #[.string t5.name, .slice a5 t5.args.length c5, .string t6.name, .slice a6 t6.args.length c6] T
    have e : (w6.alloc o1).heap.size = w6.heap.size + 1 := by simp
    rw [e] at h
    exact (h.setOther 0 v0 (by omega)).setOther 1 v1 (by omega)
  have hzz : sizeL [(⟨⟨#[102]⟩, [t5, t6]⟩ : Tm)] = 1 + (sizeL [t5] + sizeL [t6]) := by
    rw [size_one, show [t5, t6] = [t5] ++ [t6] from rfl, sizeL_append]
  refine ⟨some ⟨w6.heap.size + 1, 0, none⟩, 2, n, ⟨⟨#[102]⟩, [t5, t6]⟩, rfl, ?_, by omega, hn, by omega, (hb0.setCell (by simp) _).setCell (by simp) _, err_node (by decide) (by decide) (by rw [errL_cons, if_pos e5]; exact e6), grd_node (by decide) (fun x hx => by
    simp at hx
    rcases hx with rfl | rfl
    · exact g5
    · exact g6)⟩
  have key : ∀ {Z : Nat → Prop} {a : Option Addr} {l : List Tm}, Sl w6 Z a l → (∀ b, Z b → w.heap.size < b) → Sl ((((w6.alloc o1).alloc (.cells #[.string t5.name, .slice a5 t5.args.length c5, .string t6.name, .slice a6 t6.args.length c6] T)).setCell ⟨w.heap.size, 0, none⟩ v0).setCell ⟨w.heap.size, 1, none⟩ v1) (fun b => Z b ∧ b < w6.heap.size) a l := fun {Z} _ _ hs hZ => by
    refine (hs.mono (Y := fun b => Z b ∧ b < w6.heap.size) fun b h1 h2 => ⟨h1, h2⟩).kept fun b hb => ?_
    have := hZ b hb.1
    rw [Below.heap_setCell _ _ _ _ (by simp; omega), Below.heap_setCell _ _ _ _ (by simp; omega), Below.heap_alloc _ _ _ (by have := hb.2; simp; omega), Below.heap_alloc _ _ _ hb.2]
  exact sl_two hnew (by omega) (key h5 (fun b hb => hb)) (key h6 hZ6) (fun b hb _ => by have := hb.1; omega) (fun b hb _ => by have := hZ6 b hb.1; omega)
end Go.Proofs.YteojdfmdhgnmfaaGreat


/- Walks: what stands for a variable, as the document says. -/
namespace Go.Proofs.YteojdfmdhgnmfaaGreat
open Go.RowKit
set_option linter.unusedSimpArgs false
set_option linter.unusedVariables false
set_option maxRecDepth 8000

def ForPost (w : World) (X : Nat → Prop) (l : List Bd) (n : ByteArray) (e : Ending) (w' : World) : Prop :=
  Below w.heap.size w w' ∧ ((∃ t a c, forT l n = some t ∧ e = .returned (.tuple #[.agg #[.string t.name, .slice a t.args.length c], .bool true]) ∧ Sl w' X a t.args) ∨ (forT l n = none ∧ e = .returned (.tuple #[.agg #[.string ⟨#[]⟩, .slice none 0 0], .bool false])))

def FoInv (l : List Bd) (n : ByteArray) (w0 : World) (v : Value) (wr : World) : Prop := ∃ k : Nat, k ≤ l.length ∧ v = .int .i64 (k : Int) ∧ forT (l.take k) n = none ∧ wr = w0

end Go.Proofs.YteojdfmdhgnmfaaGreat


/- Walks: how great a term would be with bindings in it. -/
namespace Go.Proofs.YteojdfmdhgnmfaaGreat
open Go.RowKit
set_option linter.unusedSimpArgs false
set_option linter.unusedVariables false
set_option maxRecDepth 8000

def GwInv (w0 : World) (M : Nat) (ls : List Bd) (l : List Tm) (most : Int) (n i : Value) (wr : World) : Prop := ∃ k : Nat, k ≤ l.length ∧ i = .int .i64 k ∧ n = .int .i64 (min (1 + sizeL (onL ls (l.take k))) (most + 1)) ∧ Below M w0 wr

end Go.Proofs.YteojdfmdhgnmfaaGreat


/- Walks: a term with bindings in it, as the document says. -/
namespace Go.Proofs.YteojdfmdhgnmfaaGreat
open Go.RowKit
set_option linter.unusedSimpArgs false
set_option linter.unusedVariables false
set_option maxRecDepth 8000

def OnPost (w : World) (X : Nat → Prop) (t : Tm) (e : Ending) (w' : World) : Prop :=
  ∃ a c, e = .returned (.agg #[.string t.name, .slice a t.args.length c]) ∧ Sl w' (fun b => (X b ∧ b < w.heap.size) ∨ w.heap.size ≤ b) a t.args ∧ Below w.heap.size w w'

/-- What is held while a knot's next term is made. -/
def OnS (w : World) (b o : Nat) (s : ByteArray) (a : Option Addr) (n c : Nat) (s1 : ByteArray) (v1 : Value) (w' : World) : Prop :=
  Blk w' w.heap.size #[.string s, .slice a n c] 25 ∧ w'.cell? ⟨b, o, none⟩ = some (.string s1) ∧ w'.cell? ⟨b, o + 1, none⟩ = some v1
theorem cell_same {w w' : World} {b i : Nat} {v : Value} (hb : w'.heap[b]? = w.heap[b]?) (h : w.cell? ⟨b, i, none⟩ = some v) : w'.cell? ⟨b, i, none⟩ = some v := by simpa [World.cell?, hb] using h
theorem OnS.below {w wr w1 : World} {b o n c : Nat} {s s1 : ByteArray} {a : Option Addr} {v1 : Value} (h : OnS w b o s a n c s1 v1 wr) (hb : Below wr.heap.size wr w1) (hlt : w.heap.size < wr.heap.size ∧ b < wr.heap.size) : OnS w b o s a n c s1 v1 w1 :=
  ⟨h.1.below hb hlt.1, cell_same (hb.block b hlt.2) h.2.1, cell_same (hb.block b hlt.2) h.2.2⟩
theorem OnS.alloc {w wr : World} {b o n c : Nat} {s s1 : ByteArray} {a : Option Addr} {v1 : Value} (h : OnS w b o s a n c s1 v1 wr) (x : Obj) : OnS w b o s a n c s1 v1 (wr.alloc x) :=
  ⟨h.1.alloc x, cell_same (Below.heap_alloc _ _ _ (cell_lt h.2.1)) h.2.1, cell_same (Below.heap_alloc _ _ _ (cell_lt h.2.1)) h.2.2⟩
theorem OnS.grown {w wr w3 : World} {b o n c : Nat} {s s1 : ByteArray} {a : Option Addr} {v1 : Value} {row : Option Nat} (h : OnS w b o s a n c s1 v1 wr) (hg : wr.grownBy w3 row) (hne : ∀ j, j ≤ w.heap.size → some j ≠ row) (hb : b < w.heap.size) (_ : True) : OnS w b o s a n c s1 v1 w3 :=
  ⟨h.1.grown hg (hne _ (Nat.le_refl _)), cell_same (hg.block b (cell_lt h.2.1) (hne b (by omega))) h.2.1, cell_same (hg.block b (cell_lt h.2.1) (hne b (by omega))) h.2.2⟩
theorem OnS.set {w wr : World} {b o n c : Nat} {s s1 : ByteArray} {a : Option Addr} {v1 : Value} {O i : Nat} (h : OnS w b o s a n c s1 v1 wr) (v : Value) (_ : True) (hO : w.heap.size ≠ O) (hb : b ≠ O) : OnS w b o s a n c s1 v1 (wr.setCell ⟨O, i, none⟩ v) :=
  ⟨h.1.setOther _ _ hO, cell_same (Below.heap_setCell _ _ _ _ (by simpa using hb)) h.2.1, cell_same (Below.heap_setCell _ _ _ _ (by simpa using hb)) h.2.2⟩
theorem hxb {w : World} {X : Nat → Prop} {b o : Nat} {l : List Tm} (h : Sl w X (some ⟨b, o, none⟩) l) (hl : 0 < l.length) : b < w.heap.size := by
  obtain ⟨_, h⟩ := h
  rcases h with rfl | ⟨b', o', e, h⟩
  · simp at hl
  · simp at e
    obtain ⟨rfl, rfl⟩ := e
    exact cell_lt (lies_get l b o h 0 hl).2.1

/-- What is laid ahead of the rounds. -/
def OnSet (w : World) (Y : Nat → Prop) (O : Nat) (s : ByteArray) (a : Option Addr) (n c : Nat) (u : Value) (L : List Tm) (wr : World) : Prop :=
  ∃ xs, Row wr (O + 1) 25 Y u L xs ∧ Below w.heap.size w wr ∧ Blk wr w.heap.size #[.string s, .slice a n c] 25 ∧ Blk wr (w.heap.size + 1) #[.string ⟨#[]⟩, .slice none 0 0] 25 ∧ Blk wr O #[.string s, u] 25 ∧ O < wr.heap.size
def OnInv (w : World) (Y : Nat → Prop) (O : Nat) (s : ByteArray) (a : Option Addr) (c : Nat) (ls : List Bd) (l : List Tm) (i : Value) (wr : World) : Prop :=
  ∃ (k : Nat) (u : Value), k ≤ l.length ∧ i = .int .i64 (k : Int) ∧ OnSet w Y O s a l.length c u (onL ls (l.take k)) wr

theorem on_step {w wr w1 w3 : World} {Y : Nat → Prop} {O n c : Nat} {u : Value} {L : List Tm} {xs : List Value} {o2 : Obj} {s s' : ByteArray} {a a1 : Option Addr} {n1 c1 g cap : Nat} {t : Tm} (hO : w.heap.size + 2 ≤ O) (hY : ∀ b, Y b → b < w.heap.size)
    (hrow : Row wr (O + 1) 25 Y u L xs) (hx : Below w.heap.size w wr) (hT : Blk wr w.heap.size #[.string s, .slice a n c] 25) (hR : Blk wr (w.heap.size + 1) #[.string ⟨#[]⟩, .slice none 0 0] 25) (hOb : Blk wr O #[.string s, u] 25)
    (he1 : Below wr.heap.size wr w1) (ht : TV w1 (fun b => Y b ∨ wr.heap.size ≤ b) (.agg #[.string s', .slice a1 n1 c1]) t)
    (hown : w3.ownsRow (O + 1) 25 2 (.slice (some ⟨g, 0, none⟩) (L.length + 1) cap) (L.length + 1) (xs ++ [.string s', .slice a1 n1 c1])) (hg : (w1.alloc o2).grownBy w3 u.ownBlock) (hat : u.ownBlock = some g ∨ g = (w1.alloc o2).heap.size) :
    OnSet w Y O s a n c (.slice (some ⟨g, 0, none⟩) (L.length + 1) cap) (L ++ [t]) (w3.setCell ⟨O, 1, none⟩ (.slice (some ⟨g, 0, none⟩) (L.length + 1) cap)) := by
  have hlt' := hrow.own.lt
  have hOl := hOb.lt
  have hp := hrow.push (w1 := w1) (w2 := w1.alloc o2) (w3 := w3) (by omega) (fun b h => by have := hY b h; omega) he1 ht o2 rfl hown hg hat
  have hne : ∀ b, b < O + 1 → some b ≠ u.ownBlock := fun b hb e => by have := (hlt' b e.symm).1; omega
  have hs1 := he1.size
  have hsx := hx.size
  have hx3 : Below w.heap.size w w3 := ((hx.trans (he1.mono (by omega))).alloc (by omega) o2).grown hg (by simp; omega) (fun k hk => by have := (hlt' k hk).1; omega)
  have hs3 := hg.size
  simp at hs3
  refine ⟨_, hp.setCell (by omega) (fun h => by have := hY _ h; omega) _, hx3.setCell (p := ⟨O, 1, none⟩) (by simp; omega) _, ?_, ?_, ?_, by simp [World.setCell]; omega⟩
  · exact (((hT.below he1 (by omega)).alloc o2).grown hg (hne _ (by omega))).setOther _ _ (by omega)
  · exact (((hR.below he1 (by omega)).alloc o2).grown hg (hne _ (by omega))).setOther _ _ (by omega)
  · exact (((hOb.below he1 (by omega)).alloc o2).grown hg (hne _ (by omega))).set 1 _

end Go.Proofs.YteojdfmdhgnmfaaGreat


/- Walks: a term with bindings in it, if it isn't too great; whether bindings may be. -/
namespace Go.Proofs.YteojdfmdhgnmfaaGreat
open Go.RowKit
set_option linter.unusedSimpArgs false
set_option linter.unusedVariables false
set_option maxRecDepth 8000

def OnAll (w : World) (X : Nat → Prop) (t : Tm) (e : Ending) (w' : World) : Prop :=
  Below w.heap.size w w' ∧ ((2000 < sizeL [t] ∧ e = .returned (.tuple #[.agg #[.string ⟨#[]⟩, .slice none 0 0], .bool false])) ∨ (sizeL [t] ≤ 2000 ∧ ∃ a c, e = .returned (.tuple #[.agg #[.string t.name, .slice a t.args.length c], .bool true]) ∧ Sl w' (fun b => (X b ∧ b < w.heap.size) ∨ w.heap.size ≤ b) a t.args))

end Go.Proofs.YteojdfmdhgnmfaaGreat


/- Plain: what the laws on orders ask of terms made of raw numbers. -/
namespace Go.Proofs.YteojdfmdhgnmfaaGreat
open Go.RowKit
set_option linter.unusedSimpArgs false
set_option linter.unusedVariables false

theorem forT_memW {n : ByteArray} {x : Tm} : ∀ {s : List Bd}, forT s n = some x → ∃ d ∈ s, d.nm = n ∧ d.t = x
  | [], h => by simp [forT] at h
  | d :: r, h => by
    rw [forT] at h
    split at h
    · rename_i e
      exact ⟨d, by simp, e, by simpa using h⟩
    · obtain ⟨d', h1, h2⟩ := forT_memW h
      exact ⟨d', by simp [h1], h2⟩
theorem four_var {n : ByteArray} (h : n ∈ four) : varB n = true := by
  simp only [four, List.mem_cons, List.mem_nil_iff, or_false] at h
  rcases h with rfl | rfl | rfl | rfl <;> decide
theorem varsB_four {s : List Bd} (h : (s.map (·.nm)).Sublist four) : VarsB s := fun n x hx => by
  obtain ⟨d, hd, rfl, _⟩ := forT_memW hx
  exact four_var (h.subset (List.mem_map.2 ⟨d, hd, rfl⟩))
theorem err_twoW {a b : Tm} (ha : errL [a] = 0) (hb : errL [b] = 0) : errL [a, b] = 0 := by rw [errL_cons, if_pos ha]; exact hb
theorem err_on {s : List Bd} (hv : VarsB s) (hs : ∀ d ∈ s, errL [d.t] = 0) : ∀ l : List Tm, errL l = 0 → errL (onL s l) = 0 := by
  intro l
  induction l using Tm.indL with
  | h0 => intro _; simp [onL, errL]
  | h n l r ihl ihr =>
    intro he
    have h1 : errL [(⟨n, l⟩ : Tm)] = 0 := by
      rw [errL_cons] at he
      split at he
      · assumption
      · rename_i h; exact absurd he h
    have h2 : errL r = 0 := by rw [errL_cons, if_pos h1] at he; exact he
    have hn : nameB n = true := by
      simp only [errL] at h1
      split at h1
      · assumption
      · exact absurd h1 (by decide)
    have hk : varB n = true → l = [] := fun hvn => by
      simp only [errL, hn, if_true, hvn, Bool.true_and] at h1
      cases l with
      | nil => rfl
      | cons t l => simp at h1
    have hl : errL l = 0 := by
      simp only [errL, hn, if_true] at h1
      split at h1
      · exact absurd h1 (by decide)
      · split at h1
        · assumption
        · exact h1
    rw [onL_cons, errL_cons]
    have key : errL [onT s ⟨n, l⟩] = 0 := by
      cases hvn : varB n with
      | false => rw [on_sym hv hvn, ← onL_map]; exact err_node hn hvn (ihl hl)
      | true =>
        have e := hk hvn
        subst e
        cases hf : forT s n with
        | some x =>
          rw [onT_some hf]
          obtain ⟨d, hd, _, rfl⟩ := forT_memW hf
          exact hs d hd
        | none =>
          rw [onT_deep (Or.inr hf)]
          simpa [onL] using err_leaf hn
    rw [if_pos key]
    exact ihr h2
theorem err_onT {s : List Bd} (hv : VarsB s) (hs : ∀ d ∈ s, errL [d.t] = 0) {t : Tm} (h : errL [t] = 0) : errL [onT s t] = 0 := by
  have h := err_on hv hs [t] h
  rw [onL_cons] at h
  simpa [onL] using h
theorem may_of {t : Tm} (he : errL [t] = 0) (hz : sizeL [t] ≤ 200) : mayE t = 0 := by
  unfold mayE
  rw [if_neg (by omega)]
  exact he
theorem err_pre : ∀ l : List Tm, errL l = 0 → ∀ k ∈ preL l, errL [k] = 0 := by
  intro l
  induction l using Tm.indL with
  | h0 => intro _ k hk; simp [preL] at hk
  | h s l r ihl ihr =>
    intro he k hk
    have h1 : errL [(⟨s, l⟩ : Tm)] = 0 := by
      rw [errL_cons] at he
      split at he
      · assumption
      · rename_i h; exact absurd he h
    have h2 : errL r = 0 := by rw [errL_cons, if_pos h1] at he; exact he
    have hl : errL l = 0 := by
      simp only [errL] at h1
      split at h1
      · split at h1
        · exact absurd h1 (by decide)
        · split at h1
          · assumption
          · exact h1
      · exact absurd h1 (by decide)
    rw [preL] at hk
    rcases List.mem_cons.1 hk with rfl | hk
    · exact h1
    · rcases List.mem_append.1 hk with hk | hk
      · exact ihl hl k hk
      · exact ihr h2 k hk
theorem flat_errW {l : List Tm} (h : errL l = 0) : Flat l := fun k hk hv => by
  have h1 := err_pre l h k hk
  obtain ⟨s, a⟩ := k
  cases a with
  | nil => rfl
  | cons t a =>
    simp only [errL] at h1
    simp only at hv
    split at h1
    · simp [hv] at h1
    · exact absurd h1 (by decide)

/-- A term around another one: three ways. -/
def ctxT : Nat → Tm → Tm → Tm
  | 0, a, c => ⟨⟨#[102]⟩, [a, c]⟩
  | 1, a, c => ⟨⟨#[103]⟩, [c, a]⟩
  | _, a, _ => ⟨⟨#[104]⟩, [a]⟩
theorem ctx_path {row : List ByteArray} {a b : Tm} (m : Nat) (c : Tm) (h : pathB row a b = true) : pathB row (ctxT m a c) (ctxT m b c) = true := by
  match m with
  | 0 => exact path_ctx (by decide) [] [c] h
  | 1 => exact path_ctx (by decide) [c] [] h
  | n + 2 => exact path_ctx (by decide) [] [] h
theorem ctx_weight {row : List ByteArray} {a b : Tm} (m : Nat) (c : Tm) (h : weightB row a b = true) : weightB row (ctxT m a c) (ctxT m b c) = true := by
  match m with
  | 0 => exact weight_ctx (by decide) [] [c] h
  | 1 => exact weight_ctx (by decide) [c] [] h
  | n + 2 => exact weight_ctx (by decide) [] [] h
theorem ctx_may {a c : Tm} (m : Nat) (ha : errL [a] = 0) (hc : errL [c] = 0) (za : sizeL [a] ≤ 60) (zc : sizeL [c] ≤ 60) : mayE (ctxT m a c) = 0 := by
  have h2 := sizeL_append [a] [c]
  have h3 := sizeL_append [c] [a]
  simp only [List.cons_append, List.nil_append] at h2 h3
  match m with
  | 0 => exact may_of (err_node (by decide) (by decide) (err_twoW ha hc)) (by show sizeL [(⟨_, [a, c]⟩ : Tm)] ≤ 200; rw [size_one]; omega)
  | 1 => exact may_of (err_node (by decide) (by decide) (err_twoW hc ha)) (by show sizeL [(⟨_, [c, a]⟩ : Tm)] ≤ 200; rw [size_one]; omega)
  | n + 2 => exact may_of (err_node (by decide) (by decide) ha) (by show sizeL [(⟨_, [a]⟩ : Tm)] ≤ 200; rw [size_one]; omega)
/-- The term with a leaf ahead of it. -/
def upT (a : Tm) : Tm := ⟨⟨#[102]⟩, [⟨⟨#[99]⟩, []⟩, a]⟩
theorem up_may {a : Tm} (ha : errL [a] = 0) (za : sizeL [a] ≤ 60) : mayE (upT a) = 0 := ctx_may (a := ⟨⟨#[99]⟩, []⟩) 0 (err_leaf (by decide)) ha (by simp [sizeL]) za
theorem up_path (row : List ByteArray) (a : Tm) : pathB row (upT a) a = true := path_sub (a := upT a) (show varB ⟨#[102]⟩ = false by decide) (by simp [upT])
theorem up_weight (row : List ByteArray) (a : Tm) : weightB row (upT a) a = true := weight_sub [⟨⟨#[99]⟩, []⟩] [] a

/-- From now on, whatever else is made. -/
def Evr (P : World → Prop) (w : World) : Prop := ∀ w', Below w.heap.size w w' → P w'
theorem Evr.now {P : World → Prop} {w : World} (h : Evr P w) : P w := h w (Below.refl _ _)
theorem Evr.later {P : World → Prop} {w w' : World} (h : Evr P w) (hb : Below w.heap.size w w') : Evr P w' := fun w'' hb' => h w'' (hb.trans (hb'.mono hb.size))
theorem Evr.imp {P Q : World → Prop} {w : World} (h : Evr P w) (f : ∀ w, P w → Q w) : Evr Q w := fun w' hb => f w' (h w' hb)
theorem Evr.and {P Q : World → Prop} {w : World} (h : Evr P w) (h' : Evr Q w) : Evr (fun w => P w ∧ Q w) w := fun w' hb => ⟨h w' hb, h' w' hb⟩
theorem Evr.alloc {P : World → Prop} {w : World} (h : Evr P w) (o : Obj) : Evr P (w.alloc o) := h.later ((Below.refl _ _).alloc (Nat.le_refl _) o)
theorem evBelow {w0 w : World} (h : Below w0.heap.size w0 w) : Evr (fun w => Below w0.heap.size w0 w) w := fun w' hb => h.trans (hb.mono h.size)
theorem Sl.ev {w : World} {X : Nat → Prop} {a : Option Addr} {l : List Tm} (h : Sl w X a l) : Evr (fun w => Sl w (fun _ => True) a l) w := fun w' hb => (h.later hb).mono fun _ _ _ => trivial
theorem Blk.ev {w : World} {b : Nat} {cs : Array Value} {T : Nat} (h : Blk w b cs T) : Evr (fun w => Blk w b cs T) w := fun w' hb => h.below hb h.lt
theorem LV.ev {α : Type} {f : α → Value} {w : World} {X : Nat → Prop} {v : Value} {l : List α} (h : LV f w X v l) : Evr (fun w => LV f w (fun _ => True) v l) w := fun w' hb => (h.later hb).mono fun _ _ _ => trivial
theorem BV.ev {w : World} {X : Nat → Prop} {v : Value} {l : List Bd} (h : BV w X v l) : Evr (fun w => BV w (fun _ => True) v l) w := fun w' hb => (h.later hb).mono fun _ _ _ => trivial
/-- A term that was given back, and a box for it. -/
theorem Evr.box {P : World → Prop} {w1 w2 : World} {Y : Nat → Prop} {t : Tm} {a : Option Addr} {T : Nat} (A : Evr P w1) (hb : Below w1.heap.size w1 w2) (hs : Sl w2 Y a t.args) (c : Nat) : Evr (fun w => P w ∧ Blk w w2.heap.size #[.string t.name, .slice a t.args.length c] T ∧ Sl w (fun _ => True) a t.args) (w2.alloc (.cells #[.string t.name, .slice a t.args.length c] T)) :=
  ((A.later hb).alloc _).and ((Blk.new w2 _ _).ev.and (hs.ev.alloc _))

theorem ordE_of {row : List ByteArray} {a b : Tm} (hr : rowE row = 0) (ha : mayE a = 0) (hb : mayE b = 0) : ordE row a b = 0 := by
  unfold ordE twoE
  rw [if_pos hr, if_pos ha]
  exact hb
theorem path_good {row : List ByteArray} {x y : Tm} (hr : rowE row = 0) (hx : mayE x = 0) (hy : mayE y = 0) (z : Bool) (hz : z = pathB row x y) (u : Value) (ax ay : Option Addr) (cx cy : Nat) (w : World) (hu : LV Value.string w (fun _ => True) u row) (hsx : Sl w (fun _ => True) ax x.args) (hsy : Sl w (fun _ => True) ay y.args) :
    Calls Tryz.prog 10 #[u, .agg #[.string x.name, .slice ax x.args.length cx], .agg #[.string y.name, .slice ay y.args.length cy]] w fun e w' => e = .returned (.tuple #[.bool z, .int .i64 0]) ∧ Below w.heap.size w w' := by
  refine (oPath_any row x y u _ _ w _ hu ⟨_, _, rfl, hsx⟩ ⟨_, _, rfl, hsy⟩).mono ?_
  rintro e w' ⟨rfl, hb⟩
  rw [ordE_of hr hx hy, hz]
  exact ⟨by simp, hb⟩
/-- A box with the term, a leaf ahead of it. -/
def UpW (S : World → Prop) (a : Tm) (o : Value) (wc : World) : Prop := ∃ (U : Nat) (a6 : Option Addr) (c6 : Nat), o = .pointer (some ⟨U, 0, none⟩) ∧ Evr (fun wr => S wr ∧ Blk wr U #[.string (upT a).name, .slice a6 (upT a).args.length c6] 25 ∧ Sl wr (fun _ => True) a6 (upT a).args) wc
theorem up_end {S : World → Prop} {wf : World} {a : Tm} {aa : Option Addr} {ca U G : Nat} (A : Evr S wf) (hs : ∀ w, S w → Sl w (fun _ => True) aa a.args) (hU : Blk wf U #[.string ⟨#[102]⟩, .slice (some ⟨G, 0, none⟩) 2 2] 25) (hG : Blk wf G #[.string ⟨#[99]⟩, .slice none 0 0, .string a.name, .slice aa a.args.length ca] 25) : UpW S a (.pointer (some ⟨U, 0, none⟩)) wf :=
  ⟨U, some ⟨G, 0, none⟩, 2, rfl, fun w' hb => ⟨A w' hb, hU.ev w' hb, sl_two (t5 := ⟨⟨#[99]⟩, []⟩) (Z5 := fun _ => True) (Z6 := fun _ => True) (hG.ev w' hb) trivial ⟨by simp, Or.inl rfl⟩ (hs _ (A w' hb)) (fun _ _ _ => trivial) (fun _ _ _ => trivial)⟩⟩
theorem up_endA {S : World → Prop} {w : World} {a : Tm} {aa : Option Addr} {ca : Nat} (A : Evr S w) (hs : ∀ w, S w → Sl w (fun _ => True) aa a.args) :
    UpW S a (.pointer (some ⟨w.heap.size + 1, 0, none⟩)) ((w.alloc (.cells #[.string ⟨#[99]⟩, .slice none 0 0, .string a.name, .slice aa a.args.length ca] 25)).alloc (.cells #[.string ⟨#[102]⟩, .slice (some ⟨w.heap.size, 0, none⟩) 2 2] 25)) := by
  have hG := (Blk.new w #[.string ⟨#[99]⟩, .slice none 0 0, .string a.name, .slice aa a.args.length ca] 25).alloc (.cells #[.string ⟨#[102]⟩, .slice (some ⟨w.heap.size, 0, none⟩) 2 2] 25)
  have hU := Blk.new (w.alloc (.cells #[.string ⟨#[99]⟩, .slice none 0 0, .string a.name, .slice aa a.args.length ca] 25)) #[.string ⟨#[102]⟩, .slice (some ⟨w.heap.size, 0, none⟩) 2 2] 25
  rw [World.size_alloc] at hU
  exact up_end ((A.alloc _).alloc _) hs hU hG
theorem up_endB {S : World → Prop} {w : World} {a : Tm} {aa : Option Addr} {ca : Nat} (A : Evr S w) (hs : ∀ w, S w → Sl w (fun _ => True) aa a.args) :
    UpW S a (.pointer (some ⟨w.heap.size, 0, none⟩)) ((w.alloc (.cells #[.string ⟨#[102]⟩, .slice (some ⟨w.heap.size + 1, 0, none⟩) 2 2] 25)).alloc (.cells #[.string ⟨#[99]⟩, .slice none 0 0, .string a.name, .slice aa a.args.length ca] 25)) := by
  have hU := (Blk.new w #[.string ⟨#[102]⟩, .slice (some ⟨w.heap.size + 1, 0, none⟩) 2 2] 25).alloc (.cells #[.string ⟨#[99]⟩, .slice none 0 0, .string a.name, .slice aa a.args.length ca] 25)
  have hG := Blk.new (w.alloc (.cells #[.string ⟨#[102]⟩, .slice (some ⟨w.heap.size + 1, 0, none⟩) 2 2] 25)) #[.string ⟨#[99]⟩, .slice none 0 0, .string a.name, .slice aa a.args.length ca] 25
  rw [World.size_alloc] at hG
  exact up_end ((A.alloc _).alloc _) hs hU hG
theorem up_worldC {S : World → Prop} {w w1 : World} {a : Tm} {aa : Option Addr} (A : Evr S w) (hb : Below w.heap.size w w1) (hB : Blk w1 w.heap.size #[.string ⟨#[]⟩, .slice none 0 0] 25) (hs : ∀ w, S w → Sl w (fun _ => True) aa a.args) (ca : Nat) :
    Evr S (((w1.setCell ⟨w.heap.size, 0, none⟩ (.string ⟨#[102]⟩)).setCell ⟨w.heap.size, 1, none⟩ (.slice (some ⟨w1.heap.size, 0, none⟩) 2 2)).alloc (.cells #[.string ⟨#[99]⟩, .slice none 0 0, .string a.name, .slice aa a.args.length ca] 25)) ∧
    UpW S a (.pointer (some ⟨w.heap.size, 0, none⟩)) (((w1.setCell ⟨w.heap.size, 0, none⟩ (.string ⟨#[102]⟩)).setCell ⟨w.heap.size, 1, none⟩ (.slice (some ⟨w1.heap.size, 0, none⟩) 2 2)).alloc (.cells #[.string ⟨#[99]⟩, .slice none 0 0, .string a.name, .slice aa a.args.length ca] 25)) := by
  have hb2 : Below w.heap.size w ((w1.setCell ⟨w.heap.size, 0, none⟩ (.string ⟨#[102]⟩)).setCell ⟨w.heap.size, 1, none⟩ (.slice (some ⟨w1.heap.size, 0, none⟩) 2 2)) := (hb.setCell (by simp) _).setCell (by simp) _
  have hU := ((hB.set 0 (.string ⟨#[102]⟩)).set 1 (.slice (some ⟨w1.heap.size, 0, none⟩) 2 2)).alloc (.cells #[.string ⟨#[99]⟩, .slice none 0 0, .string a.name, .slice aa a.args.length ca] 25)
  have hG := Blk.new ((w1.setCell ⟨w.heap.size, 0, none⟩ (.string ⟨#[102]⟩)).setCell ⟨w.heap.size, 1, none⟩ (.slice (some ⟨w1.heap.size, 0, none⟩) 2 2)) #[.string ⟨#[99]⟩, .slice none 0 0, .string a.name, .slice aa a.args.length ca] 25
  have e : ((w1.setCell ⟨w.heap.size, 0, none⟩ (.string ⟨#[102]⟩)).setCell ⟨w.heap.size, 1, none⟩ (.slice (some ⟨w1.heap.size, 0, none⟩) 2 2)).heap.size = w1.heap.size := by simp [World.setCell]
  rw [e] at hG
  have A2 := (A.later hb2).alloc (.cells #[.string ⟨#[99]⟩, .slice none 0 0, .string a.name, .slice aa a.args.length ca] 25)
  exact ⟨A2, up_end A2 hs hU hG⟩
theorem ev_two {S : World → Prop} {w : World} {t5 t6 : Tm} {a5 a6 : Option Addr} (A : Evr S w) (h5 : ∀ w, S w → Sl w (fun _ => True) a5 t5.args) (h6 : ∀ w, S w → Sl w (fun _ => True) a6 t6.args) (c5 c6 N : Nat) (hN : w.heap.size = N) : Evr (fun wr => S wr ∧ Sl wr (fun _ => True) (some ⟨N, 0, none⟩) [t5, t6]) (w.alloc (.cells #[.string t5.name, .slice a5 t5.args.length c5, .string t6.name, .slice a6 t6.args.length c6] 25)) := by
  subst hN
  have k := Blk.new w #[.string t5.name, .slice a5 t5.args.length c5, .string t6.name, .slice a6 t6.args.length c6] 25
  exact fun w' hb => ⟨A.alloc _ w' hb, sl_two (k.ev w' hb) trivial (h5 _ (A.alloc _ w' hb)) (h6 _ (A.alloc _ w' hb)) (fun _ _ _ => trivial) (fun _ _ _ => trivial)⟩
theorem ev_one {S : World → Prop} {w : World} {t5 : Tm} {a5 : Option Addr} (A : Evr S w) (h5 : ∀ w, S w → Sl w (fun _ => True) a5 t5.args) (c5 N : Nat) (hN : w.heap.size = N) : Evr (fun wr => S wr ∧ Sl wr (fun _ => True) (some ⟨N, 0, none⟩) [t5]) (w.alloc (.cells #[.string t5.name, .slice a5 t5.args.length c5] 25)) := by
  subst hN
  have k := Blk.new w #[.string t5.name, .slice a5 t5.args.length c5] 25
  exact fun w' hb => ⟨A.alloc _ w' hb, sl_one (k.ev w' hb) trivial (h5 _ (A.alloc _ w' hb)) (fun _ _ _ => trivial)⟩
theorem ev_blk {S : World → Prop} {w : World} (A : Evr S w) (cs : Array Value) (T N : Nat) (hN : w.heap.size = N) : Evr (fun wr => S wr ∧ Blk wr N cs T) (w.alloc (.cells cs T)) := by
  subst hN
  exact (A.alloc _).and (Blk.new w cs T).ev
/-- Six terms around two others, in a row. -/
structure CtxW (S : World → Prop) (a b c : Tm) (N0 N1 N2 N3 N4 N5 B : Nat) (wr : World) : Prop where
  st : S wr
  k : Blk wr B #[.string ⟨#[102]⟩, .slice (some ⟨N0, 0, none⟩) 2 2, .string ⟨#[102]⟩, .slice (some ⟨N1, 0, none⟩) 2 2, .string ⟨#[103]⟩, .slice (some ⟨N2, 0, none⟩) 2 2, .string ⟨#[103]⟩, .slice (some ⟨N3, 0, none⟩) 2 2, .string ⟨#[104]⟩, .slice (some ⟨N4, 0, none⟩) 1 1, .string ⟨#[104]⟩, .slice (some ⟨N5, 0, none⟩) 1 1] 25
  s0 : Sl wr (fun _ => True) (some ⟨N0, 0, none⟩) [a, c]
  s1 : Sl wr (fun _ => True) (some ⟨N1, 0, none⟩) [b, c]
  s2 : Sl wr (fun _ => True) (some ⟨N2, 0, none⟩) [c, a]
  s3 : Sl wr (fun _ => True) (some ⟨N3, 0, none⟩) [c, b]
  s4 : Sl wr (fun _ => True) (some ⟨N4, 0, none⟩) [a]
  s5 : Sl wr (fun _ => True) (some ⟨N5, 0, none⟩) [b]
theorem ctx_world {S : World → Prop} {w : World} {a b c : Tm} {aa ab ac : Option Addr} (A : Evr S w) (ha : ∀ w, S w → Sl w (fun _ => True) aa a.args) (hb : ∀ w, S w → Sl w (fun _ => True) ab b.args) (hc : ∀ w, S w → Sl w (fun _ => True) ac c.args) (ca cb cc : Nat) :
    Evr (CtxW S a b c (w.heap.size) (w.heap.size + 1) (w.heap.size + 1 + 1) (w.heap.size + 1 + 1 + 1) (w.heap.size + 1 + 1 + 1 + 1) (w.heap.size + 1 + 1 + 1 + 1 + 1) (w.heap.size + 1 + 1 + 1 + 1 + 1 + 1)) (((((((w.alloc (.cells #[.string a.name, .slice aa a.args.length ca, .string c.name, .slice ac c.args.length cc] 25)).alloc (.cells #[.string b.name, .slice ab b.args.length cb, .string c.name, .slice ac c.args.length cc] 25)).alloc (.cells #[.string c.name, .slice ac c.args.length cc, .string a.name, .slice aa a.args.length ca] 25)).alloc (.cells #[.string c.name, .slice ac c.args.length cc, .string b.name, .slice ab b.args.length cb] 25)).alloc (.cells #[.string a.name, .slice aa a.args.length ca] 25)).alloc (.cells #[.string b.name, .slice ab b.args.length cb] 25)).alloc (.cells #[.string ⟨#[102]⟩, .slice (some ⟨w.heap.size, 0, none⟩) 2 2, .string ⟨#[102]⟩, .slice (some ⟨w.heap.size + 1, 0, none⟩) 2 2, .string ⟨#[103]⟩, .slice (some ⟨w.heap.size + 1 + 1, 0, none⟩) 2 2, .string ⟨#[103]⟩, .slice (some ⟨w.heap.size + 1 + 1 + 1, 0, none⟩) 2 2, .string ⟨#[104]⟩, .slice (some ⟨w.heap.size + 1 + 1 + 1 + 1, 0, none⟩) 1 1, .string ⟨#[104]⟩, .slice (some ⟨w.heap.size + 1 + 1 + 1 + 1 + 1, 0, none⟩) 1 1] 25)) := by
  have A1 := ev_two A ha hc ca cc _ rfl
  have A2 := ev_two A1 (fun _ h => hb _ h.1) (fun _ h => hc _ h.1) cb cc (w.heap.size + 1) (by simp)
  have A3 := ev_two A2 (fun _ h => hc _ h.1.1) (fun _ h => ha _ h.1.1) cc ca (w.heap.size + 1 + 1) (by simp)
  have A4 := ev_two A3 (fun _ h => hc _ h.1.1.1) (fun _ h => hb _ h.1.1.1) cc cb (w.heap.size + 1 + 1 + 1) (by simp)
  have A5 := ev_one A4 (fun _ h => ha _ h.1.1.1.1) ca (w.heap.size + 1 + 1 + 1 + 1) (by simp)
  have A6 := ev_one A5 (fun _ h => hb _ h.1.1.1.1.1) cb (w.heap.size + 1 + 1 + 1 + 1 + 1) (by simp)
  have A7 := ev_blk A6 #[.string ⟨#[102]⟩, .slice (some ⟨w.heap.size, 0, none⟩) 2 2, .string ⟨#[102]⟩, .slice (some ⟨w.heap.size + 1, 0, none⟩) 2 2, .string ⟨#[103]⟩, .slice (some ⟨w.heap.size + 1 + 1, 0, none⟩) 2 2, .string ⟨#[103]⟩, .slice (some ⟨w.heap.size + 1 + 1 + 1, 0, none⟩) 2 2, .string ⟨#[104]⟩, .slice (some ⟨w.heap.size + 1 + 1 + 1 + 1, 0, none⟩) 1 1, .string ⟨#[104]⟩, .slice (some ⟨w.heap.size + 1 + 1 + 1 + 1 + 1, 0, none⟩) 1 1] 25 (w.heap.size + 1 + 1 + 1 + 1 + 1 + 1) (by simp)
  exact A7.imp fun wr h => ⟨h.1.1.1.1.1.1.1, h.2, h.1.1.1.1.1.1.2, h.1.1.1.1.1.2, h.1.1.1.1.2, h.1.1.1.2, h.1.1.2, h.1.2⟩
end Go.Proofs.YteojdfmdhgnmfaaGreat

/- The places of a term, and rows of lists of numbers. -/
namespace Go.Proofs.YteojdfmdhgnmfaaGreat
open Go.RowKit
set_option linter.unusedSimpArgs false
set_option linter.unusedVariables false

/-- The places of a list of terms, counted from j on. -/
def plcL : Nat → List Tm → List (List Int)
  | _, [] => []
  | j, ⟨_, l⟩ :: r => ((([] : List Int) :: plcL 0 l).map fun p => (j : Int) :: p) ++ plcL (j + 1) r

/-- The places of a term. -/
def plcT (t : Tm) : List (List Int) := [] :: plcL 0 t.args

theorem plcL_cons (j : Nat) (t : Tm) (r : List Tm) : plcL j (t :: r) = ((plcT t).map fun p => (j : Int) :: p) ++ plcL (j + 1) r := by
  obtain ⟨s, l⟩ := t
  simp only [plcL, plcT]

theorem plcL_append (a b : List Tm) : ∀ j, plcL j (a ++ b) = plcL j a ++ plcL (j + a.length) b := by
  induction a with
  | nil => intro j; simp [plcL]
  | cons t r ih => intro j; rw [List.cons_append, plcL_cons, plcL_cons, ih]; simp [Nat.add_assoc, Nat.add_comm 1]

theorem plcL_take (l : List Tm) (k : Nat) (h : k < l.length) : plcL 0 (l.take (k + 1)) = plcL 0 (l.take k) ++ (plcT l[k]).map fun p => (k : Int) :: p := by
  rw [List.take_succ_eq_append_getElem h, plcL_append, plcL_cons]
  have : (l.take k).length = k := by rw [List.length_take]; omega
  simp [this, plcL]

theorem plcL_len (l : List Tm) : ∀ j, (plcL j l).length = sizeL l := by
  induction l using Tm.indL with
  | h0 => intro j; simp [plcL, sizeL]
  | h s l r ihl ihr => intro j; simp [plcL, sizeL, ihl, ihr]; omega

theorem plcT_len (t : Tm) : (plcT t).length = sizeL [t] := by
  obtain ⟨s, l⟩ := t
  simp [plcT, plcL_len, sizeL]; omega

/-- No place is longer than the term has knots. -/
theorem plc_deep (l : List Tm) : ∀ j, ∀ p ∈ plcL j l, p.length ≤ sizeL l := by
  induction l using Tm.indL with
  | h0 => intro j p hp; simp [plcL] at hp
  | h s l r ihl ihr =>
    intro j p hp
    simp only [plcL, List.mem_append, List.mem_map, List.mem_cons] at hp
    simp only [sizeL]
    rcases hp with ⟨p', h1, rfl⟩ | hp
    · rcases h1 with rfl | h1
      · simp; omega
      · have := ihl 0 p' h1; simp; omega
    · have := ihr _ p hp; omega

/-- These cells are these lists. -/
def RowP (w : World) (Z : Nat → Prop) : List (List Int) → List Value → Prop
  | [], xs => xs = []
  | z :: r, xs => ∃ u xs', xs = u :: xs' ∧ PV w Z u z ∧ RowP w Z r xs'

theorem RowP.len {w : World} {Z : Nat → Prop} : ∀ {l : List (List Int)} {xs : List Value}, RowP w Z l xs → xs.length = l.length
  | [], xs, h => by simp [RowP] at h; simp [h]
  | z :: l, xs, h => by obtain ⟨u, xs', rfl, _, h⟩ := h; simp [RowP.len h]
theorem RowP.append {w : World} {Z : Nat → Prop} : ∀ {l k : List (List Int)} {xs ys : List Value}, RowP w Z l xs → RowP w Z k ys → RowP w Z (l ++ k) (xs ++ ys)
  | [], k, xs, ys, h, h' => by simp [RowP] at h; subst h; simpa using h'
  | z :: l, k, xs, ys, h, h' => by obtain ⟨u, xs', rfl, hp, h⟩ := h; exact ⟨u, xs' ++ ys, rfl, hp, RowP.append h h'⟩
theorem RowP.imp {w w' : World} {Z Z' : Nat → Prop} (hs : ∀ u z, PV w Z u z → PV w' Z' u z) : ∀ {l : List (List Int)} {xs : List Value}, RowP w Z l xs → RowP w' Z' l xs
  | [], xs, h => h
  | z :: l, xs, h => by obtain ⟨u, xs', e, hp, h⟩ := h; exact ⟨u, xs', e, hs _ _ hp, RowP.imp hs h⟩
theorem RowP.get {w : World} {Z : Nat → Prop} : ∀ {l : List (List Int)} {xs : List Value}, RowP w Z l xs → ∀ i (h : i < l.length), ∃ u, xs[i]? = some u ∧ PV w Z u l[i]
  | [], xs, h, i, hi => by simp at hi
  | z :: l, xs, h, i, hi => by
    obtain ⟨u, xs', rfl, hp, h⟩ := h
    cases i with
    | zero => exact ⟨u, rfl, hp⟩
    | succ i => obtain ⟨u', h1, h2⟩ := RowP.get h i (by simpa using hi); exact ⟨u', by simpa using h1, h2⟩
theorem PV.one {w : World} {Z : Nat → Prop} {u : Value} {z : List Int} (h : PV w Z u z) : u.oneCell' = true := by obtain ⟨a, c, rfl, _⟩ := h; rfl

theorem Tryz.infoInt : (Tryz.prog.info? 3).map (fun i => (i.zero, i.size, i.bytes)) = some (some (.int .i64 0), 1, 8) := by kernel_rfl
theorem Tryz.infoInts : (Tryz.prog.info? 22).map (fun i => (i.zero, i.size, i.bytes)) = some (some (.slice none 0 0), 1, 24) := by kernel_rfl

/-- Out of a row that a call owns. -/
theorem pv_of_own {w : World} {N T : Nat} {v : Value} {l : List Int} (h : w.ownsRow N T 1 v l.length (l.map fun z => .int .i64 z)) : PV w (fun b => N ≤ b ∧ v.ownBlock = some b) v l := by
  have h' := h
  obtain ⟨_, h1⟩ := h
  rcases h1 with ⟨rfl, h0⟩ | ⟨g, cap, cur, hv, hg, hh, hnc, hcm, _⟩
  · have e : l = [] := List.length_eq_zero_iff.1 h0
    subst e
    exact ⟨none, 0, rfl, by simp, Or.inl rfl⟩
  · unfold maxLen at hcm
    refine ⟨some ⟨g, 0, none⟩, cap, hv, ⟨by omega, hnc⟩, ?_⟩
    by_cases h0 : l = []
    · exact Or.inl h0
    · have hp : 0 < l.length := List.length_pos_iff.2 h0
      obtain ⟨g2, cap2, hv2, _, _, hc⟩ := owned_val h' hp
      rw [hv] at hv2
      simp at hv2
      obtain ⟨rfl, rfl⟩ := hv2
      exact Or.inr ⟨g, 0, rfl, ⟨hg, by rw [hv]; rfl⟩, fun i hi => by rw [Nat.zero_add]; exact hc i _ (by simp [hi])⟩

/-- What a list yields to an append. -/
theorem pv_src {w : World} {Z : Nat → Prop} {u : Value} {z : List Int} (h : PV w Z u z) : Src Tryz.prog 1 22 u z.length (z.map fun x => .int .i64 x) w := by
  obtain ⟨a, c, rfl, _, h⟩ := h
  have one : ∀ v ∈ (z.map fun x => Value.int .i64 x), v.oneCell' = true := fun v hv => by obtain ⟨x, _, rfl⟩ := List.mem_map.1 hv; rfl
  rcases h with rfl | ⟨b, o, rfl, _, hc⟩
  · cases a with
    | none => simpa using Src.ofNil w Tryz.underlying22 c
    | some a => exact Src.ofSlice w Tryz.underlying22 a _ c _ (by simp) (by simp) one
  · refine Src.ofSlice w Tryz.underlying22 ⟨b, o, none⟩ _ c _ (by simp) (fun j v hj => ?_) one
    rw [List.getElem?_map] at hj
    cases hz : z[j]? with
    | none => rw [hz] at hj; cases hj
    | some x =>
      rw [hz] at hj
      simp at hj
      subst hj
      obtain ⟨hlt, rfl⟩ := List.getElem?_eq_some_iff.1 hz
      have := hc j hlt
      by_cases h0 : j = 0
      · subst h0; first | (simp [Addr.add]; done) | simpa [Addr.add] using this
      · first | (simp [Addr.add, h0]; done) | simpa [Addr.add, h0] using this
#print axioms pv_src
#print axioms pv_of_own
end Go.Proofs.YteojdfmdhgnmfaaGreat

/- Places of terms: what stands there, and what is put there. -/
namespace Go.Proofs.YteojdfmdhgnmfaaGreat
open Go.RowKit
set_option linter.unusedSimpArgs false
set_option linter.unusedVariables false

theorem plcL_mem : ∀ (l : List Tm) (j : Nat) (p : List Int), p ∈ plcL j l → ∃ (k : Nat) (h : k < l.length) (p' : List Int), p = ((j + k : Nat) : Int) :: p' ∧ p' ∈ plcT l[k]
  | [], j, p, h => by simp [plcL] at h
  | t :: r, j, p, h => by
    rw [plcL_cons, List.mem_append, List.mem_map] at h
    rcases h with ⟨p', hp', rfl⟩ | h
    · exact ⟨0, by simp, p', by simp, hp'⟩
    · obtain ⟨k, hk, p', e, hp'⟩ := plcL_mem r (j + 1) p h
      exact ⟨k + 1, by simpa using hk, p', by rw [e]; congr 1; omega, by simpa using hp'⟩

theorem plc_at : ∀ (p : List Int) (t : Tm), p ∈ plcT t → ∃ y, atT t p = some y
  | [], t, _ => ⟨t, rfl⟩
  | i :: r, t, h => by
    unfold plcT at h
    rcases List.mem_cons.1 h with h | h
    · cases h
    · obtain ⟨k, hk, p', e, hp'⟩ := plcL_mem t.args 0 _ h
      simp at e
      obtain ⟨rfl, rfl⟩ := e
      obtain ⟨y, hy⟩ := plc_at r t.args[k] hp'
      refine ⟨y, ?_⟩
      rw [atT, dif_pos ⟨by omega, by simpa using hk⟩]
      simpa using hy

theorem errL_all : ∀ (l : List Tm), errL l = 0 ↔ ∀ t ∈ l, errL [t] = 0
  | [] => by simp [errL]
  | t :: r => by
    rw [errL_cons]
    by_cases h : errL [t] = 0
    · rw [if_pos h, errL_all r]
      simp [h]
    · rw [if_neg h]
      simp [h]

theorem errL_one (t : Tm) (h : errL [t] = 0) : nameB t.name = true ∧ errL t.args = 0 ∧ (0 < t.args.length → varB t.name = false) := by
  obtain ⟨s, l⟩ := t
  have hn : nameB s = true := by
    cases hn : nameB s with
    | true => rfl
    | false => simp [errL, hn] at h
  have hl : errL l = 0 ∧ (0 < l.length → varB s = false) := by
    by_cases hl : 0 < l.length
    · have hv : varB s = false := by
        cases hv : varB s with
        | false => rfl
        | true => simp [errL, hn, hv, hl] at h
      refine ⟨?_, fun _ => hv⟩
      simp only [errL, hn, hv] at h
      by_cases h0 : errL l = 0
      · exact h0
      · simp [h0] at h
    · have e : l = [] := List.length_eq_zero_iff.1 (by omega)
      subst e
      exact ⟨by simp [errL], fun h => absurd h (by simp)⟩
  exact ⟨hn, hl⟩

theorem errL_node {s : ByteArray} {l : List Tm} (h : nameB s = true) (hv : 0 < l.length → varB s = false) (hl : errL l = 0) : errL [(⟨s, l⟩ : Tm)] = 0 := by
  by_cases h0 : 0 < l.length
  · simp [errL, h, hv h0, hl]
  · have e : l = [] := List.length_eq_zero_iff.1 (by omega)
    subst e
    simp [errL, h]

theorem atT_cons {t y : Tm} {i : Int} {r : List Int} (h : atT t (i :: r) = some y) : ∃ (k : Nat) (hk : k < t.args.length), i = (k : Int) ∧ atT t.args[k] r = some y := by
  rw [atT] at h
  split at h
  · rename_i hc
    exact ⟨i.toNat, hc.2, by omega, h⟩
  · cases h
theorem atT_mk {t y : Tm} {k : Nat} {r : List Int} (hk : k < t.args.length) (h : atT t.args[k] r = some y) : atT t ((k : Int) :: r) = some y := by
  rw [atT, dif_pos ⟨by omega, by simpa using hk⟩]
  simpa using h

theorem atT_err : ∀ (p : List Int) (t y : Tm), errL [t] = 0 → atT t p = some y → errL [y] = 0
  | [], t, y, he, h => by cases h; exact he
  | i :: r, t, y, he, h => by
    obtain ⟨k, hk, rfl, h2⟩ := atT_cons h
    exact atT_err r _ y ((errL_all t.args).1 (errL_one t he).2.1 _ (List.getElem_mem hk)) h2

theorem put_at : ∀ (p : List Int) (t y : Tm), atT t p = some y → putT y p t = t
  | [], t, y, h => by cases h; rfl
  | i :: r, t, y, h => by
    obtain ⟨k, hk, rfl, h2⟩ := atT_cons h
    have ih := put_at r _ y h2
    have e : putL (putT y r) (k : Int) 0 t.args = t.args := by
      refine List.ext_getElem (putL_length _ _ _ _) fun n h1 h3 => ?_
      rw [putL_get _ _ _ _ _ h3]
      by_cases hn : n = k
      · subst hn; simp [ih]
      · rw [if_neg (by omega)]
    rw [putT, e]
    cases t
    rfl

theorem at_put (x : Tm) : ∀ (p : List Int) (t y : Tm), atT t p = some y → atT (putT x p t) p = some x
  | [], t, y, h => rfl
  | i :: r, t, y, h => by
    obtain ⟨k, hk, rfl, h2⟩ := atT_cons h
    have ih := at_put x r _ y h2
    rw [putT]
    refine atT_mk (by rw [putL_length]; exact hk) ?_
    rw [putL_get _ _ _ _ _ hk]
    simpa using ih

theorem err_put (x : Tm) (hx : errL [x] = 0) : ∀ (p : List Int) (t y : Tm), errL [t] = 0 → atT t p = some y → errL [putT x p t] = 0
  | [], t, y, _, h => hx
  | i :: r, t, y, he, h => by
    obtain ⟨k, hk, rfl, h2⟩ := atT_cons h
    obtain ⟨e1, e2, e3⟩ := errL_one t he
    rw [putT]
    refine errL_node e1 (by rw [putL_length]; exact e3) ((errL_all _).2 fun a ha => ?_)
    obtain ⟨n, hn, rfl⟩ := List.getElem_of_mem ha
    have hn' : n < t.args.length := by rw [putL_length] at hn; exact hn
    rw [putL_get _ _ _ _ _ hn']
    have hea := (errL_all t.args).1 e2 _ (List.getElem_mem hn')
    by_cases hnk : n = k
    · subst hnk
      simp only [Nat.zero_add, if_true]
      exact err_put x hx r _ y hea h2
    · rw [if_neg (by omega)]
      exact hea

theorem putL_none (f : Tm → Tm) (i : Int) : ∀ (l : List Tm) (j : Nat), i < (j : Int) → putL f i j l = l
  | [], j, h => rfl
  | a :: r, j, h => by
    rw [putL, if_neg (by omega), putL_none f i r (j + 1) (by omega)]
theorem putL_size (f : Tm → Tm) (i : Int) (M : Nat) : ∀ (l : List Tm) (j : Nat), (∀ a ∈ l, sizeL [f a] ≤ sizeL [a] + M) → sizeL (putL f i j l) ≤ sizeL l + M
  | [], j, h => by simp [putL, sizeL]
  | a :: r, j, h => by
    have e1 : ∀ b (q : List Tm), sizeL (b :: q) = sizeL [b] + sizeL q := fun b q => sizeL_append [b] q
    rw [putL, e1, e1 a r]
    by_cases hj : (j : Int) = i
    · rw [if_pos hj, putL_none f i r (j + 1) (by omega)]
      have := h a (by simp)
      omega
    · rw [if_neg hj]
      have := putL_size f i M r (j + 1) (fun b hb => h b (by simp [hb]))
      omega
theorem size_put (x : Tm) : ∀ (p : List Int) (t : Tm), sizeL [putT x p t] ≤ sizeL [t] + sizeL [x]
  | [], t => by simp [putT]
  | i :: r, t => by
    obtain ⟨s, l⟩ := t
    have h := putL_size (putT x r) i (sizeL [x]) l 0 (fun a _ => size_put x r a)
    have e : ∀ q : List Tm, sizeL [(⟨s, q⟩ : Tm)] = 1 + sizeL q := fun q => by simp [sizeL]
    rw [putT, e, e]
    show 1 + sizeL (putL (putT x r) i 0 l) ≤ _
    omega
#print axioms at_put
#print axioms size_put
end Go.Proofs.YteojdfmdhgnmfaaGreat

/- Plain: a term is above, by paths, what it becomes when a knot gives way to one of those below it. -/
namespace Go.Proofs.YteojdfmdhgnmfaaGreat
set_option linter.unusedSimpArgs false
set_option linter.unusedVariables false

theorem putL_split (f : Tm → Tm) (l : List Tm) (k : Nat) (h : k < l.length) : l = l.take k ++ l[k] :: l.drop (k + 1) ∧ putL f (k : Int) 0 l = l.take k ++ f l[k] :: l.drop (k + 1) := by
  have e : l = l.take k ++ l[k] :: l.drop (k + 1) := by rw [List.getElem_cons_drop, List.take_append_drop]
  refine ⟨e, List.ext_getElem (by rw [putL_length]; simp; omega) fun n h1 h2 => ?_⟩
  have hn : n < l.length := by rw [putL_length] at h1; exact h1
  rw [putL_get f _ l 0 n hn]
  by_cases hk : n = k
  · subst hk
    rw [if_pos (by simp), List.getElem_append_right (by simp; omega)]
    simp [Nat.min_eq_left (Nat.le_of_lt h)]
  · rw [if_neg (by simp; omega)]
    by_cases hlt : n < k
    · rw [List.getElem_append_left (by simp; omega)]
      simp
    · rw [List.getElem_append_right (by simp; omega)]
      obtain ⟨m, rfl⟩ : ∃ m, n = k + 1 + m := ⟨n - (k + 1), by omega⟩
      have e2 : k + 1 + m - (l.take k).length = m + 1 := by simp; omega
      simp only [e2, List.getElem_cons_succ, List.getElem_drop]
theorem emb_path {row : List ByteArray} {z : Tm} : ∀ (p : List Int) (t y : Tm), errL [t] = 0 → atT t p = some y → z ∈ y.args → pathB row t (putT z p t) = true
  | [], t, y, he, h, hz => by
    cases h
    obtain ⟨_, _, e3⟩ := errL_one t he
    have hv : varB t.name = false := e3 (List.length_pos_of_mem hz)
    exact path_sub hv hz
  | i :: r, t, y, he, h, hz => by
    obtain ⟨k, hk, rfl, h2⟩ := atT_cons h
    obtain ⟨_, e2, e3⟩ := errL_one t he
    have ih := emb_path (row := row) r _ y ((errL_all t.args).1 e2 _ (List.getElem_mem hk)) h2 hz
    have hv : varB t.name = false := e3 (by omega)
    obtain ⟨s, l⟩ := t
    obtain ⟨e, e'⟩ := putL_split (putT z r) l k hk
    rw [putT]
    show pathB row ⟨s, l⟩ ⟨s, putL (putT z r) (k : Int) 0 l⟩ = true
    rw [e']
    have := path_ctx (row := row) hv (l.take k) (l.drop (k + 1)) ih
    rw [← e] at this
    exact this
#print axioms emb_path
end Go.Proofs.YteojdfmdhgnmfaaGreat

/- Walks: the places of a term, as the document says. -/
namespace Go.Proofs.YteojdfmdhgnmfaaGreat
open Go.RowKit
set_option linter.unusedSimpArgs false
set_option linter.unusedVariables false

theorem owns_le {w : World} {b b' e z n : Nat} {v : Value} {xs : List Value} (h : w.ownsRow b e z v n xs) (hb : b' ≤ b) : w.ownsRow b' e z v n xs := by
  obtain ⟨h1, h2⟩ := h
  exact ⟨h1, h2.imp id fun ⟨g, cap, cur, h3, h4, h5⟩ => ⟨g, cap, cur, h3, Nat.le_trans hb h4, h5⟩⟩

/-- A row of lists that is added to, and what stays where it was. -/
def OutAt (w0 : World) (N : Nat) (q0 : Value) (ps : List (List Int)) (q : Value) (xs : List Value) (wr : World) : Prop :=
  wr.ownsRow N 22 1 q ps.length xs ∧ RowP wr (fun b => N ≤ b ∧ some b ≠ q.ownBlock) ps xs ∧ w0.grownBy wr q0.ownBlock ∧ (∀ k, q.ownBlock = some k → q0.ownBlock = some k ∨ w0.heap.size ≤ k)

theorem PV.grownBy {w w' : World} {Z : Nat → Prop} {u : Value} {z : List Int} {r : Option Nat} (h : PV w Z u z) (hg : w.grownBy w' r) (hZ : ∀ b, Z b → some b ≠ r) : PV w' Z u z := by
  have h1 : PV w (fun b => Z b ∧ b < w.heap.size) u z := h.mono fun b h1 h2 => ⟨h1, h2⟩
  have h2 : PV w' (fun b => Z b ∧ b < w.heap.size) u z := h1.kept fun b hx => hg.block b hx.2 (hZ b hx.1)
  exact h2.mono fun b hx _ => hx.1

theorem OutAt.push {w0 wr w1 : World} {N : Nat} {q0 q : Value} {ps : List (List Int)} {xs : List Value} (h : OutAt w0 N q0 ps q xs wr) (hN : N ≤ wr.heap.size) (hb : Below wr.heap.size wr w1) {u : Value} {z : List Int} (hu : PV w1 (fun b => wr.heap.size ≤ b) u z) (hn : ps.length ≤ 1000000) (A : Nat) (hA : w1.heap.size = A) :
    ∃ q' w3, (Builtin.append_ #[28, 28] 28 #[q, .slice (some ⟨A, 0, none⟩) 1 1]).run Tryz.prog (w1.alloc (.cells #[u] 22)) = .ok q' w3 ∧ OutAt w0 N q0 (ps ++ [z]) q' (xs ++ [u]) w3 := by
  subst hA
  obtain ⟨i0, hi, hz0, hz1, hz2⟩ := info_parts Tryz.infoInts
  obtain ⟨hown, hrow, hgr, hat⟩ := h
  have hlt := hown.lt
  have hs1 := hb.size
  have hown1 : w1.ownsRow N 22 1 q ps.length xs := hown.kept (w' := w1) (row := none) ⟨hb.os, hb.tape, hb.output, hb.size, fun j hj _ => hb.block j hj⟩ (by rcases Option.eq_none_or_eq_some (Value.ownBlock q) with h | ⟨x, h⟩; exact Or.inl h; exact Or.inr (by rw [h]; simp))
  obtain ⟨g, cap, w3, hr, ho, hg, hga, hgl⟩ := run_append_lies (P := Tryz.prog) (w := w1.alloc (.cells #[u] 22)) 28 28 N 22 i0 _ 1 24 Tryz.underlying28 hi hz0 hz1 hz2 rfl (by decide) q ps.length xs (hown1.alloc _)
    ⟨w1.heap.size, 0, none⟩ 1 1 [u] rfl (cell_one_new _ _ _) (fun x hx => by simp at hx; subst hx; exact hu.one) (by decide) (by unfold maxLen; omega) (by omega) (by simp; omega) _ rfl
  have hgN : N ≤ g := by
    rcases hga with e | e
    · exact (hlt g e).1
    · simp at e; omega
  refine ⟨_, w3, hr, by simpa using ho, ?_, ?_, fun k hk => ?_⟩
  · refine RowP.append (hrow.imp fun u' z' hp => ?_) ?_
    · have h1 : PV wr (fun b => (N ≤ b ∧ some b ≠ q.ownBlock) ∧ b < wr.heap.size) u' z' := hp.mono fun b h1 h2 => ⟨h1, h2⟩
      have h2 : PV w3 (fun b => (N ≤ b ∧ some b ≠ q.ownBlock) ∧ b < wr.heap.size) u' z' := h1.kept fun b hx => by
        rw [hg.block b (by simp; omega) hx.1.2, Below.heap_alloc _ _ _ (by omega), hb.block b hx.2]
      refine h2.mono fun b hx _ => ⟨hx.1.1, fun e => ?_⟩
      simp [Value.ownBlock] at e
      rcases hga with e' | e'
      · exact hx.1.2 (by rw [e', e])
      · simp at e'; omega
    · refine ⟨u, [], rfl, ?_, rfl⟩
      have h1 : PV w1 (fun b => wr.heap.size ≤ b ∧ b < w1.heap.size) u z := hu.mono fun b h1 h2 => ⟨h1, h2⟩
      have h2 : PV w3 (fun b => wr.heap.size ≤ b ∧ b < w1.heap.size) u z := h1.kept fun b hx => by
        rw [hg.block b (by simp; omega) (fun e => by have := (hlt b e.symm).2; omega), Below.heap_alloc _ _ _ hx.2]
      refine h2.mono fun b hx _ => ⟨by omega, fun e => ?_⟩
      simp [Value.ownBlock] at e
      rcases hga with e' | e'
      · have := (hlt g e').2; omega
      · simp at e'; omega
  · exact grown_trans (grown_trans hgr (grown_of_below hb q.ownBlock) hat) (grown_trans (grown_of_below ((Below.refl _ _).alloc (Nat.le_refl _) (.cells #[u] 22)) q.ownBlock) hg (fun k hk => Or.inl hk)) hat
  · simp [Value.ownBlock] at hk
    subst hk
    rcases hga with e | e
    · exact hat _ e
    · right; simp at e; have := hgr.size; omega

/-- A number ahead of a list. -/
theorem ints_cons {W : World} {Z : Nat → Prop} {u : Value} {z : List Int} (h : PV W Z u z) (i : Int) (F : Nat) (hF : W.heap[F]? = some (.cells #[.int .i64 i] 3 (0, 0))) (hn : z.length ≤ 1000000) :
    ∃ q w2, (Builtin.append_ #[22, 22] 22 #[.slice (some ⟨F, 0, none⟩) 1 1, u]).run Tryz.prog W = .ok q w2 ∧ PV w2 (fun b => b = F ∨ W.heap.size ≤ b) q (i :: z) ∧ Below W.heap.size W w2 := by
  obtain ⟨i0, hi, hz0, hz1, hz2⟩ := info_parts Tryz.infoInt
  have hsrc := pv_src h
  rw [← hz1] at hsrc
  have hFl : F < W.heap.size := by
    apply Classical.byContradiction
    intro hn
    rw [Array.getElem?_eq_none (by omega)] at hF; cases hF
  have hFc : W.cell? ⟨F, 0, none⟩ = some (.int .i64 i) := by simp [World.cell?, hF]
  by_cases h0 : z = []
  · subst h0
    have hg := run_append_room_src (P := Tryz.prog) W 22 22 22 3 i0 Tryz.underlying22 hi F 0 1 1 u 0 [] hsrc (by omega) (by simp) (by simp)
    refine ⟨_, _, hg, ⟨_, _, rfl, by simp, Or.inr ⟨F, 0, rfl, Or.inl rfl, fun j hj => ?_⟩⟩, ?_⟩
    · simp at hj; subst hj; simpa [World.setCells] using hFc
    · simpa [World.setCells] using Below.refl W.heap.size W
  · have hzp := List.length_pos_iff.2 h0
    have hfc := run_firstCells_some (P := Tryz.prog) W.drew i0.size 1 ⟨F, 0, none⟩ 1 1 [.int .i64 i] (by rw [hz1]; rfl) (fun j v hj => by
      match j, hj with
      | 0, hj => simp at hj; subst hj; simpa [Addr.add] using hFc)
    have hg := run_append_grow_src (P := Tryz.prog) W 22 22 22 3 i0 (.int .i64 0) Tryz.underlying22 hi hz0 (some ⟨F, 0, none⟩) 1 1 [.int .i64 i] hfc u z.length _ hsrc (by omega) (by omega) (by rw [hz2]; exact growslice_fits (by omega) (by omega))
    have hge := grownCap_ge W (1 + z.length) 1 3
    have hcm := grownCap_le_maxLen W (1 + z.length) 1 3 (by unfold maxLen; omega)
    refine ⟨_, _, hg, ⟨some ⟨W.heap.size, 0, none⟩, grownCap W (1 + z.length) 1 3, by rw [List.length_cons, Nat.add_comm], ⟨by simp; omega, by simp; omega⟩, Or.inr ⟨W.heap.size, 0, rfl, Or.inr (Nat.le_refl _), fun j hj => ?_⟩⟩, ?_⟩
    · have hb := heap_alloc_new W.drew (.cells (([Value.int .i64 i] ++ z.map fun x => Value.int .i64 x).toArray ++ Builtin.zeroCells (Value.int .i64 0).cells (grownCap W (1 + z.length) 1 3 - (1 + z.length))) 3)
      have hb' : (W.drew.alloc (.cells (([Value.int .i64 i] ++ z.map fun x => Value.int .i64 x).toArray ++ Builtin.zeroCells (Value.int .i64 0).cells (grownCap W (1 + z.length) 1 3 - (1 + z.length))) 3)).heap[W.heap.size]? = _ := hb
      rw [Lib.cell_of_heap hb', Nat.zero_add, Array.getElem?_append_left (by simp at hj ⊢; omega)]
      simp at hj
      cases j with
      | zero => simp
      | succ j => simp
    · exact ((Below.refl W.heap.size W).drew).alloc (Nat.le_refl _) _

/-- How the rounds of one list go. -/
def InInv (w1 : World) (N : Nat) (q1 : Value) (ps : List (List Int)) (i : Nat) (ls : List (List Int)) (q j : Value) (wr : World) : Prop :=
  ∃ (k : Nat) (xs : List Value), k ≤ ls.length ∧ j = .int .i64 k ∧ OutAt w1 N q1 (ps ++ (ls.take k).map fun p => (i : Int) :: p) q xs wr

/-- How the rounds of the terms below go. -/
def OuInv (w0 : World) (N : Nat) (l : List Tm) (q i : Value) (wr : World) : Prop :=
  ∃ (k : Nat) (xs : List Value), k ≤ l.length ∧ i = .int .i64 k ∧ OutAt w0 N (.slice none 0 0) ([] :: plcL 0 (l.take k)) q xs wr

theorem OutAt.mono {w0 w1 wr : World} {N : Nat} {q0 q1 q : Value} {ps ps1 : List (List Int)} {xs xs1 : List Value} (h : OutAt w0 N q0 ps1 q1 xs1 w1) (h1 : OutAt w1 N q1 ps q xs wr) : OutAt w0 N q0 ps q xs wr := by
  refine ⟨h1.1, h1.2.1, grown_trans h.2.2.1 h1.2.2.1 h.2.2.2, fun k hk => ?_⟩
  rcases h1.2.2.2 k hk with e | e
  · exact h.2.2.2 k e
  · exact Or.inr (Nat.le_trans h.2.2.1.size e)

theorem OutAt.later {w0 w1 w2 : World} {N : Nat} {q0 q : Value} {ps : List (List Int)} {xs : List Value} (h : OutAt w0 N q0 ps q xs w1) (hb : Below w1.heap.size w1 w2) : OutAt w0 N q0 ps q xs w2 :=
  ⟨h.1.kept (w' := w2) (row := none) ⟨hb.os, hb.tape, hb.output, hb.size, fun j hj _ => hb.block j hj⟩ (by rcases Option.eq_none_or_eq_some (Value.ownBlock q) with h | ⟨x, h⟩; exact Or.inl h; exact Or.inr (by rw [h]; simp)),
   h.2.1.imp fun u z hp => hp.later hb, grown_trans h.2.2.1 (grown_of_below hb q.ownBlock) h.2.2.2, h.2.2.2⟩

theorem OutAt.here {w1 : World} {N : Nat} {q0 q : Value} {ps : List (List Int)} {xs : List Value} {w0 : World} (h : OutAt w0 N q0 ps q xs w1) : OutAt w1 N q ps q xs w1 := ⟨h.1, h.2.1, grown_of_below (Below.refl _ _) _, fun _ h => Or.inl h⟩

set_option maxRecDepth 8000 in
set_option maxHeartbeats 2000000 in
theorem placesOf_any (t : Tm) : ∀ (v : Value) (w : World) (X : Nat → Prop), TV w X v t → sizeL [t] ≤ 900000 →
    Calls Tryz.prog 6 #[v] w fun e w' => ∃ v' xs, e = .returned v' ∧ w'.ownsRow w.heap.size 22 1 v' (plcT t).length xs ∧ RowP w' (fun b => w.heap.size ≤ b ∧ some b ≠ v'.ownBlock) (plcT t) xs ∧ Below w.heap.size w w' := by
  induction t using Tm.ind with
  | h s l ih =>
    intro v w X0 hv0 hsm
    obtain ⟨X, hX, hv⟩ : ∃ X : Nat → Prop, (∀ b, X b → b < w.heap.size) ∧ TV w X v ⟨s, l⟩ := ⟨fun b => X0 b ∧ b < w.heap.size, fun _ h => h.2, hv0.mono fun b h1 h2 => ⟨h1, h2⟩⟩
    clear hv0
    obtain ⟨a, c, rfl, hs⟩ := hv
    have IH := hide ih
    clear ih
    have hl := hs.1
    have hz : sizeL [(⟨s, l⟩ : Tm)] = 1 + sizeL l := by simp [sizeL]
    rw [hz] at hsm
    clear hz
    go_enter Tryz.func6, Tryz.ntmps6
    go_wp2_with fail
    go_loopw [3, 4] (fun q i wr => OuInv (w.alloc (Obj.cells #[Value.string s, Value.slice a l.length c] 25)) (w.heap.size + 1) l q i wr) (fun q i wr => l.length - (intOf i).toNat)
    case atStart =>
      refine ⟨0, [.slice none 0 0], Nat.zero_le _, rfl, ⟨by simp [plcL], Or.inr ⟨w.heap.size + 1, 1, #[.slice none 0 0], by simp [plcL], Nat.le_refl _, ?_, by simp [plcL], by decide, by simp, by simp [plcL]⟩⟩, ⟨_, [], rfl, ⟨none, 0, rfl, by simp, Or.inl rfl⟩, by simp [plcL, RowP]⟩, grown_of_below ((Below.refl _ _).alloc (Nat.le_refl _) _) _, fun k hk => ?_⟩
      · have := heap_alloc_new (w.alloc (Obj.cells #[Value.string s, Value.slice a l.length c] 25)) (Obj.cells #[Value.slice none 0 0] 22)
        simpa using this
      · simp [Value.ownBlock] at hk; right; simp; omega
    case round =>
      obtain ⟨k, xs, hk, rfl, hout⟩ := hrel
      have HOUT := hide hout
      have K0 := hide ((Blk.new w #[.string s, .slice a l.length c] 25).grown hout.2.2.1 (by simp [Value.ownBlock]))
      have c1 : wr.cell? ⟨w.heap.size, 1, none⟩ = some (.slice a l.length c) := K0.out.cell 1
      have hszr : w.heap.size + 1 ≤ wr.heap.size := by have := hout.2.2.1.size; simpa using this
      have hbw : Below w.heap.size w wr := ((Below.refl w.heap.size w).alloc (Nat.le_refl _) (.cells #[.string s, .slice a l.length c] 25)).trans ⟨hout.2.2.1.os, hout.2.2.1.tape, hout.2.2.1.output, hout.2.2.1.size, fun j hj => hout.2.2.1.block j (by simp; omega) (by simp [Value.ownBlock])⟩
      have HBW := hide hbw
      clear hout
      by_cases hlt : k < l.length
      · obtain ⟨b, o, a', c', rfl, d0, d1, hx⟩ := hs.get hbw (fun _ _ h => h) k hlt
        have hst := sizeL_take l k hlt
        have hst2 := sizeL_take_le l (k + 1)
        have HT := hide (plcL_take l k hlt)
        have HX := hide hx
        have hszk : sizeL [l[k]] ≤ 900000 := by omega
        have hpl : (([] : List Int) :: plcL 0 (l.take k)).length + sizeL [l[k]] ≤ 1000000 := by simp [plcL_len]; omega
        clear hbw hx hst hst2
        go_wp2_with fail
        refine (IH.out _ (List.getElem_mem hlt) _ _ X (by exact HX.out) hszk).mono ?_
        rintro e w1 ⟨v1, ys, rfl, hown1, hrow1, hb1⟩
        have hlp : 0 < (plcT l[k]).length := by simp [plcT]
        obtain ⟨g1, cap1, rfl, hg1, hg1', hcel⟩ := owned_val hown1 hlp
        have hpd : ∀ p ∈ plcT l[k], p.length ≤ 1000000 := fun p hp => by
          unfold plcT at hp
          rcases List.mem_cons.1 hp with rfl | hp
          · simp
          · have h1 := plc_deep _ _ p hp
            generalize l[k] = tk at *
            obtain ⟨s', l'⟩ := tk
            have : sizeL [(⟨s', l'⟩ : Tm)] = 1 + sizeL l' := by simp [sizeL]
            simp only at h1
            omega
        have HPD := hide hpd
        have HROW1 := hide hrow1
        have HCEL := hide hcel
        have HB1 := hide hb1
        have HOUT1 := hide (HOUT.out.later hb1)
        have hls := plcT_len l[k]
        have HN1 : Hid (w.heap.size + 1 ≤ w1.heap.size) := Nat.le_trans hszr hb1.size
        have HGN : Hid (∀ b, wr.heap.size ≤ b → some b ≠ Value.ownBlock u3) := fun b hb e => by have := (HOUT.out.1.lt b e.symm).2; omega
        generalize hlse : plcT l[k] = ls at *
        have hpl' : (([] : List Int) :: plcL 0 (l.take k)).length + ls.length ≤ 1000000 := by omega
        generalize hn0 : wr.heap.size = n0 at *
        clear hown1 hrow1 hcel hb1 hlse hpd hls
        go_wp2_with fail
        go_loopw [3, 6] (fun q j wr2 => InInv w1 (w.heap.size + 1) u3 ([] :: plcL 0 (l.take k)) k ls q j wr2) (fun q j wr2 => ls.length - (intOf j).toNat)
        case atStart => exact ⟨0, _, Nat.zero_le _, rfl, by simpa using HOUT1.out.here⟩
        case round =>
          obtain ⟨m, xs2, hm, rfl, hout2⟩ := hrel
          have HO2 := hide hout2
          have hsz2 := hout2.2.2.1.size
          clear hout2
          by_cases hlm : m < ls.length
          · obtain ⟨u, hu1, hu2⟩ := HROW1.out.get m hlm
            have e1 : ∀ o, (wr.alloc o).cell? ⟨g1, m, none⟩ = some u := fun o => by
              have h1 := HCEL.out m u hu1
              have h2 := HO2.out.2.2.1.block g1 hg1' (HGN.out g1 hg1)
              have h3 : (wr.alloc o).heap[g1]? = w1.heap[g1]? := by rw [Below.heap_alloc _ _ _ (by omega), h2]
              simpa [World.cell?, h3] using h1
            have hu3 := PV.grownBy hu2 HO2.out.2.2.1 (fun b hb => HGN.out b hb.1)
            obtain ⟨q2, w2, hr2, hq2, hbl2⟩ := ints_cons (hu3.later ((Below.refl _ _).alloc (Nat.le_refl _) (.cells #[.int .i64 (k : Int)] 3))) (k : Int) wr.heap.size (by simpa using heap_alloc_new wr (.cells #[.int .i64 (k : Int)] 3)) (HPD.out _ (List.getElem_mem hlm))
            obtain ⟨aq, cq, rfl, -⟩ : ∃ aq cq, q2 = .slice aq (ls[m].length + 1) cq ∧ True := by obtain ⟨aq, cq, h, _⟩ := hq2; exact ⟨aq, cq, by simpa using h, trivial⟩
            have hbl3 : Below wr.heap.size wr w2 := ((Below.refl _ _).alloc (Nat.le_refl _) _).trans (hbl2.mono (by simp))
            have hnn : ((([] : List Int) :: plcL 0 (l.take k)) ++ (ls.take m).map fun p => (k : Int) :: p).length ≤ 1000000 := by
              rw [List.length_append, List.length_map, List.length_take]; omega
            obtain ⟨q3, w3, hr3, ho3⟩ := OutAt.push HO2.out (Nat.le_trans HN1.out hsz2) hbl3 (hq2.mono fun b hb _ => by simp at hb; omega) hnn w2.heap.size rfl
            have HR2 := hide hr2
            have HR3 := hide hr3
            have HO3 := hide ho3
            have HTM : Hid ((ls.take (m + 1)).map (fun p => (k : Int) :: p) = (ls.take m).map (fun p => (k : Int) :: p) ++ [(k : Int) :: ls[m]]) := by
              unfold Hid; rw [List.take_succ_eq_append_getElem hlm, List.map_append]; rfl
            clear hu2 hu1 hu3 hr2 hr3 ho3 hq2 hbl2 hbl3 hnn
            go_wp2_with first
              | (at_builtin; refine wpList_append_eq rfl _ _ _ _ rfl rfl rfl HR2.out ?_)
              | (at_builtin; refine wpList_append_eq rfl _ _ _ _ rfl rfl rfl HR3.out ?_)
            go_roundw
            case rel => exact ⟨m + 1, _, by omega, by go_num, by rw [HTM.out, ← List.append_assoc]; exact HO3.out⟩
            case measure => simp [intOf]; omega
          · have htk : ls.take m = ls := List.take_of_length_le (by omega)
            have h1 := HO2.out
            rw [htk, List.cons_append, ← HT.out] at h1
            have HF := hide (HOUT1.out.mono h1)
            clear h1
            go_wp2_with fail
            go_roundw
            case rel => exact ⟨k + 1, _, by omega, by go_num, HF.out⟩
            case measure => simp [intOf]; omega
      · have htk : l.take k = l := List.take_of_length_le (by omega)
        have ho := HOUT.out
        rw [htk] at ho
        have HF := hide ho
        clear ho
        go_wp2_with fail
        go_ret
        exact ⟨_, _, rfl, owns_le HF.out.1 (by omega), HF.out.2.1.imp fun u z hp => hp.mono fun b hb _ => ⟨by omega, hb.2⟩, HBW.out⟩
#print axioms OutAt.push
#print axioms ints_cons
#print axioms placesOf_any
end Go.Proofs.YteojdfmdhgnmfaaGreat

/- Walks: the term at a place, copied. -/
namespace Go.Proofs.YteojdfmdhgnmfaaGreat
open Go.RowKit
set_option linter.unusedSimpArgs false
set_option linter.unusedVariables false
set_option maxRecDepth 8000

/-- What is wrong with a place. -/
def atE (t : Tm) (zs : List Int) : Int := if mayE t = 0 then (if (atT t zs).isSome = true then 0 else 10) else mayE t

theorem atT_size {zs : List Int} : ∀ {t x : Tm}, atT t zs = some x → sizeL [x] ≤ sizeL [t] := by
  induction zs with
  | nil => intro t x h; simp only [atT, Option.some.injEq] at h; subst h; exact Nat.le_refl _
  | cons z zs ih =>
    intro t x h
    simp only [atT] at h
    split at h
    · rename_i hh
      have h1 := ih h
      have h2 := sizeL_take t.args z.toNat hh.2
      have h3 := sizeL_take_le t.args (z.toNat + 1)
      obtain ⟨s, l⟩ := t
      have : sizeL [(⟨s, l⟩ : Tm)] = 1 + sizeL l := by simp [sizeL]
      simp only at *
      omega
    · cases h

set_option maxHeartbeats 1000000 in
theorem at_any (t : Tm) (zs : List Int) (v p : Value) (w : World) (X : Nat → Prop) (hv : TV w X v t) (hp : PV w X p zs) :
    Calls Tryz.prog 7 #[v, p] w fun e w' => ∃ v', e = .returned (.tuple #[v', .int .i64 (atE t zs)]) ∧ (∀ x, mayE t = 0 → atT t zs = some x → TV w' (fun b => w.heap.size ≤ b) v' x) ∧ (atE t zs ≠ 0 → v' = zeroT) ∧ Below w.heap.size w w' := by
  obtain ⟨a, c, rfl, hs⟩ := hv
  obtain ⟨pa, pc, rfl, hpr⟩ := hp
  have HV := hide (show TV w X (.agg #[.string t.name, .slice a t.args.length c]) t from ⟨a, c, rfl, hs⟩)
  have HP := hide (show PV w X (.slice pa zs.length pc) zs from ⟨pa, pc, rfl, hpr⟩)
  clear hs hpr
  go_enter Tryz.func7, Tryz.ntmps7
  go_wp2_with fail
  refine (check_any t _ _ X (by exact HV.out.later (below2 _ _))).mono ?_
  rintro e w1 ⟨rfl, hb1⟩
  have k1 := ((Blk.new w #[.string t.name, .slice a t.args.length c] 25).alloc (.cells #[.string ⟨#[]⟩, .slice none 0 0] 25))
  have k2 : Blk ((w.alloc (.cells #[.string t.name, .slice a t.args.length c] 25)).alloc (.cells #[.string ⟨#[]⟩, .slice none 0 0] 25)) (w.heap.size + 1) #[.string ⟨#[]⟩, .slice none 0 0] 25 := by
    have := Blk.new (w.alloc (.cells #[.string t.name, .slice a t.args.length c] 25)) #[.string ⟨#[]⟩, .slice none 0 0] 25
    simp at this; exact this
  have B1 := hide (k1.below hb1 k1.lt)
  have B2 := hide (k2.below hb1 k2.lt)
  have HW1 := hide ((below2 (w := w) (.cells #[.string t.name, .slice a t.args.length c] 25) (.cells #[.string ⟨#[]⟩, .slice none 0 0] 25)).trans (hb1.mono (by simp; omega)))
  clear k1 k2 hb1
  by_cases h1 : mayE t = 0
  · have HM := hide h1
    have HS1 := hide (may_size h1)
    rw [h1]
    clear h1
    have x0 : w1.cell? ⟨w.heap.size, 0, none⟩ = some (.string t.name) := B1.out.cell 0
    have x1 : w1.cell? ⟨w.heap.size, 1, none⟩ = some (.slice a t.args.length c) := B1.out.cell 1
    go_wp2_with fail
    refine (find_any t zs _ _ _ X (by exact HV.out.later HW1.out) (by exact HP.out.later HW1.out)).mono ?_
    rintro e w3 ⟨v3, rfl, hyes, hno, hb3⟩
    obtain ⟨s3, a3, n3, c3, rfl⟩ := tvform hyes hno
    have D2 := hide (B2.out.below hb3 B2.out.lt)
    have HW3 := hide (HW1.out.trans (hb3.mono HW1.out.size))
    have HYES := hide hyes
    have HB3 := hide hb3
    clear hb3 x0 x1 hyes hno
    cases hat : atT t zs with
    | none =>
      have HE : Hid (10 = atE t zs) := by simp [Hid, atE, HM.out, hat]
      have hne : atE t zs ≠ 0 := by rw [← HE.out]; decide
      have HAT := hide hat
      have r0 := fun o => (D2.out.alloc o).cell 0
      have r1 := fun o => (D2.out.alloc o).cell 1
      have rf := fun o => (D2.out.alloc o).frozen
      simp only [Option.isSome_none]
      clear hat
      go_wp2_with fail
      refine bodyPost_ret (v := .tuple #[zeroT, .int .i64 10]) (by simp [results, Tryz.results7, go_sem, zeroT, r0, r1, World.cell?_setCell_same, World.cell?_setCell_other]) rfl ⟨_, by rw [← HE.out], (fun x _ h => by rw [HAT.out] at h; cases h), fun _ => rfl, ?_⟩
      exact ((HW3.out.alloc HW3.out.size _).setCell (by simp) _).setCell (by simp) _
    | some y =>
      have HE : Hid (0 = atE t zs) := by simp [Hid, atE, HM.out, hat]
      have HAT := hide hat
      have hty := HYES.out y hat
      have hysz : sizeL [y] ≤ 1000000 := Nat.le_trans (atT_size hat) HS1.out
      obtain ⟨a4, c4, e4, hs4⟩ := hty
      simp at e4
      obtain ⟨rfl, rfl, rfl, rfl⟩ := e4
      have HTY := hide (show TV w3 X (.agg #[.string y.name, .slice a3 y.args.length c3]) y from (show TV w1 X (.agg #[.string y.name, .slice a3 y.args.length c3]) y from ⟨a3, c3, rfl, hs4⟩).later HB3.out)
      simp only [Option.isSome_some]
      clear hat hs4
      go_wp2_with fail
      refine (copyOf_any y _ _ X (by exact HTY.out.alloc _) hysz).mono ?_
      rintro e w5 ⟨v5, rfl, ht5, hb5⟩
      obtain ⟨a5, c5, rfl, hs5⟩ := ht5
      have E3 := hide ((D2.out.alloc _).below hb5 (by have := D2.out.lt; simp; omega))
      have r0 : w5.cell? ⟨w.heap.size + 1, 0, none⟩ = some (.string ⟨#[]⟩) := E3.out.cell 0
      have r1 : w5.cell? ⟨w.heap.size + 1, 1, none⟩ = some (.slice none 0 0) := E3.out.cell 1
      have rf := E3.out.frozen
      have HW5 := hide ((HW3.out.alloc HW3.out.size _).trans (hb5.mono (by have := HW3.out.size; simp; omega)))
      have HS5 := hide hs5
      clear hs5 hb5
      go_wp2_with fail
      refine bodyPost_ret (v := .tuple #[.agg #[.string y.name, .slice a5 y.args.length c5], .int .i64 0]) (by simp [results, Tryz.results7, go_sem, r0, r1, World.cell?_setCell_same, World.cell?_setCell_other]) rfl ⟨_, by rw [← HE.out], (fun x _ h => ?_), fun h => absurd HE.out.symm h, ?_⟩
      · rw [HAT.out] at h
        obtain rfl := Option.some.inj h
        refine ⟨a5, c5, rfl, ?_⟩
        have hk : Sl w5 (fun b => w3.heap.size + 1 ≤ b) a5 y.args := HS5.out.mono fun b h _ => by simpa using h
        have hsz3 := D2.out.lt
        have hsz4 := HW3.out.size
        exact (hk.kept fun b hb => by rw [Below.heap_setCell _ _ _ _ (by simp; omega), Below.heap_setCell _ _ _ _ (by simp; omega)]).mono fun b hb _ => by omega
      · exact (HW5.out.setCell (by simp) _).setCell (by simp) _
  · have HE : Hid (mayE t = atE t zs) := by unfold Hid atE; rw [if_neg h1]
    have hne : atE t zs ≠ 0 := by rw [← HE.out]; exact h1
    have h1' : (mayE t == 0) = false := by simpa using h1
    have HM := hide h1
    have r0 : w1.cell? ⟨w.heap.size + 1, 0, none⟩ = some (.string ⟨#[]⟩) := B2.out.cell 0
    have r1 : w1.cell? ⟨w.heap.size + 1, 1, none⟩ = some (.slice none 0 0) := B2.out.cell 1
    have rf := B2.out.frozen
    clear h1
    go_wp2_with fail
    refine bodyPost_ret (v := .tuple #[zeroT, .int .i64 (mayE t)]) (by simp [results, Tryz.results7, go_sem, zeroT, r0, r1, World.cell?_setCell_same, World.cell?_setCell_other]) rfl ⟨_, by rw [← HE.out], (fun x h _ => absurd h HM.out), fun _ => rfl, ?_⟩
    exact (HW1.out.setCell (by simp) _).setCell (by simp) _
#print axioms at_any
end Go.Proofs.YteojdfmdhgnmfaaGreat
