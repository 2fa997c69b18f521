/- Plain: whether a lambda term is a number. Walks: as the program finds it. -/
import Derived.Test.YtmapeiecapiliaaLn9c
namespace Go.Proofs.Ytmapeiecapiliaa
open Go.RowKit
set_option linter.unusedSimpArgs false
set_option linter.unusedVariables false
set_option maxRecDepth 8000

def isB (t : Lm) (i : Int) : Bool := decide (t.kind = 1) && decide (t.idx = i)
def hdM (t : Lm) : Lm := t.subs[0]?.getD t
def nxT (t : Lm) : Lm := t.subs[1]?.getD t
def goB (t : Lm) : Bool := decide (t.kind = 3) && isB (hdM t) 1
/-- How often it is done, and what is left. -/
def spM : Nat → Lm → Nat × Lm
  | 0, t => (0, t)
  | n + 1, t => if goB t = true then ((spM n (nxT t)).1 + 1, (spM n (nxT t)).2) else (0, t)
def valM (t : Lm) : Option Nat := if t.kind = 2 then (if (hdM t).kind = 2 then (if isB (spM (sizeM [hdM (hdM t)]) (hdM (hdM t))).2 0 = true then some (spM (sizeM [hdM (hdM t)]) (hdM (hdM t))).1 else none) else if isB (hdM t) 0 = true then some 1 else none) else none
theorem spM_stop {n : Nat} {t : Lm} (h : goB t = false) : spM n t = (0, t) := by cases n <;> simp [spM, h]
structure OnSp (b : Lm) (k : Nat) (r : Lm) : Prop where
  sz : sizeM [r] + k ≤ sizeM [b]
  sh : ShM [r]
  e1 : (spM (sizeM [b]) b).1 = (spM (sizeM [b] - k) r).1 + k
  e2 : (spM (sizeM [b]) b).2 = (spM (sizeM [b] - k) r).2
theorem OnSp.start {b : Lm} (h : ShM [b]) : OnSp b 0 b := ⟨by omega, h, by simp, by simp⟩
theorem OnSp.fin {b r : Lm} {k : Nat} (h : OnSp b k r) (hg : goB r = false) : (spM (sizeM [b]) b).1 = k ∧ (spM (sizeM [b]) b).2 = r := by
  have h1 := h.e1
  have h2 := h.e2
  rw [spM_stop hg] at h1 h2
  exact ⟨by simpa using h1, h2⟩
theorem OnSp.on {b f z : Lm} {k : Nat} {x : Int} (h : OnSp b k ⟨3, x, [f, z]⟩) (hg : goB ⟨3, x, [f, z]⟩ = true) : OnSp b (k + 1) z := by
  have h0 := h.sz
  have e : sizeM [(⟨3, x, [f, z]⟩ : Lm)] = 1 + (sizeM [f] + sizeM [z]) := by rw [sizeM_one]; have := sizeM_append [f] [z]; simp at this; omega
  have hf := sizeM_posL f
  have hz := sizeM_posL z
  have en : sizeM [b] - k = (sizeM [b] - (k + 1)) + 1 := by omega
  have h1 := h.e1
  have h2 := h.e2
  have nx : nxT ⟨3, x, [f, z]⟩ = z := rfl
  rw [en, spM, if_pos hg, nx] at h1 h2
  exact ⟨by omega, ShM.at (l := [f, z]) 1 (by simp) ((ShM_cons 3 x [f, z] []).1 h.sh).2.1, by rw [h1]; simp only; omega, h2⟩
theorem sh_one {x : Int} {l : List Lm} (h : ShM [⟨2, x, l⟩]) : ∃ b, l = [b] ∧ ShM [b] := by
  obtain ⟨h1, h2, _⟩ := (ShM_cons 2 x l []).1 h
  have h3 : l.length = 1 := by rw [h1]; rfl
  match l, h3 with
  | [b], _ => exact ⟨b, rfl, h2⟩
theorem sh_two {x : Int} {l : List Lm} (h : ShM [⟨3, x, l⟩]) : ∃ f z, l = [f, z] := by
  obtain ⟨h1, h2, _⟩ := (ShM_cons 3 x l []).1 h
  have h3 : l.length = 2 := by rw [h1]; rfl
  match l, h3 with
  | [f, z], _ => exact ⟨f, z, rfl⟩
theorem isB_yes {t : Lm} {i : Int} : isB t i = true ↔ t.kind = 1 ∧ t.idx = i := by simp [isB]

set_option maxHeartbeats 1000000 in
theorem isBound_any (t : Lm) (i : Int) (v : Value) (w : World) (X : Nat → Prop) (hv : MV w X v t) :
    Calls Try.prog 19 #[v, .int .i64 i] w fun e w' => e = .returned (.bool (isB t i)) ∧ Below w.heap.size w w' := by
  obtain ⟨a, c, rfl, hs⟩ := hv
  clear hs
  by_cases h1 : t.kind = 1
  · have e1 : (t.kind == 1) = true := by simp [h1]
    by_cases h2 : t.idx = i
    · have e2 : (t.idx == i) = true := by simp [h2]
      have HR : Hid (isB t i = true) := isB_yes.2 ⟨h1, h2⟩
      clear h1 h2
      go_enter Try.func19, Try.ntmps19
      go_wp2_with fail
      go_ret
      exact ⟨ret_boolM HR.out.symm, (Below.refl _ _).alloc (Nat.le_refl _) _⟩
    · have e2 : (t.idx == i) = false := beq_eq_false_iff_ne.2 h2
      have HR : Hid (isB t i = false) := by unfold Hid isB; simp [h2]
      clear h1 h2
      go_enter Try.func19, Try.ntmps19
      go_wp2_with fail
      go_ret
      exact ⟨ret_boolM HR.out.symm, (Below.refl _ _).alloc (Nat.le_refl _) _⟩
  · have e1 : (t.kind == 1) = false := beq_eq_false_iff_ne.2 h1
    have HR : Hid (isB t i = false) := by unfold Hid isB; simp [h1]
    clear h1
    go_enter Try.func19, Try.ntmps19
    go_wp2_with fail
    go_ret
    exact ⟨ret_boolM HR.out.symm, (Below.refl _ _).alloc (Nat.le_refl _) _⟩

def VlPost (t : Lm) (w : World) (e : Ending) (w' : World) : Prop :=
  Below w.heap.size w w' ∧ ∃ (n : Int) (q : Bool), e = .returned (.tuple #[.int .i64 n, .bool q]) ∧ (q = true → ∃ k : Nat, valM t = some k ∧ n = (k : Int)) ∧ (q = false → valM t = none)
def VlI (b : Lm) (w : World) (X : Nat → Prop) (i : Value) (wr : World) : Prop :=
  ∃ (k : Nat) (r : Lm) (a : Option Addr) (c : Nat), i = .int .i64 (k : Int) ∧ OnSp b k r ∧ Below w.heap.size w wr ∧ Blk wr w.heap.size #[.int .i64 r.kind, .int .i64 r.idx, .slice a r.subs.length c] 25 ∧ SlM wr (fun b => X b ∧ b < w.heap.size) a r.subs

set_option maxHeartbeats 4000000 in
theorem value_any (t : Lm) (hsh : ShM [t]) (hz : sizeM [t] ≤ 2000) (v : Value) (w : World) (X : Nat → Prop) (hv : MV w X v t) :
    Calls Try.prog 13 #[v] w fun e w' => VlPost t w e w' := by
  obtain ⟨k0, x0, l0⟩ := t
  obtain ⟨a, c, rfl, hs⟩ := hv
  dsimp only at hs ⊢
  by_cases h2 : k0 = 2
  case neg =>
    have e1 : (k0 == 2) = false := beq_eq_false_iff_ne.2 h2
    have e2 : (k0 != 2) = true := by simp [bne, e1]
    have HV : Hid (valM ⟨k0, x0, l0⟩ = none) := by unfold Hid valM; rw [if_neg h2]
    clear hs h2
    go_enter Try.func13, Try.ntmps13
    go_wp2_with fail
    refine bodyPost_ret (v := .tuple #[.int .i64 0, .bool false]) (by simp [results, Try.results13, go_sem]) rfl ?_
    exact ⟨(Below.refl _ _).alloc (Nat.le_refl _) _, 0, false, rfl, by simp, fun _ => HV.out⟩
  subst h2
  obtain ⟨t1, rfl, hsh1⟩ := sh_one hsh
  obtain ⟨B, o, a1, c1, rfl, hXB, d0, d1, d2, hs1⟩ := slM_one hs
  have hBw : B < w.heap.size := cell_ltM d0
  have hz1 : sizeM [t1] ≤ 2000 := by rw [sizeM_one] at hz; omega
  have HS1 := hide hs1
  have hh : hdM ⟨2, x0, [t1]⟩ = t1 := rfl
  have HHD := hide hh
  clear hs hs1 hh hz
  obtain ⟨k1, x1, l1⟩ := t1
  simp only [List.length_cons, List.length_nil, Nat.zero_add]
  dsimp only at d0 d1 d2
  by_cases h2 : k1 = 2
  case neg =>
    have e1 : (k1 == 2) = false := beq_eq_false_iff_ne.2 h2
    have e2 : (k1 != 2) = true := by simp [bne, e1]
    have HV : Hid (valM ⟨2, x0, [⟨k1, x1, l1⟩]⟩ = if isB ⟨k1, x1, l1⟩ 0 = true then some 1 else none) := by unfold Hid valM; rw [if_pos rfl, HHD.out, if_neg h2]
    have HBB : Hid (Below w.heap.size w (w.alloc (.cells #[.int .i64 k1, .int .i64 x1, .slice a1 l1.length c1] 25))) := (Below.refl _ _).alloc (Nat.le_refl _) _
    clear h2
    go_enter Try.func13, Try.ntmps13
    go_wp2_with fail
    refine (isBound_any ⟨k1, x1, l1⟩ 0 _ _ X (by exact ⟨a1, c1, rfl, HS1.out.later HBB.out⟩)).mono ?_
    rintro e w1 ⟨rfl, hb1⟩
    have HB1 := hide (HBB.out.trans (hb1.mono (by simp)))
    clear hb1
    cases hq : isB ⟨k1, x1, l1⟩ 0 with
    | true =>
      have HV2 : Hid (valM ⟨2, x0, [⟨k1, x1, l1⟩]⟩ = some 1) := by unfold Hid; rw [HV.out, hq]; rfl
      clear hq
      go_wp2_with fail
      refine bodyPost_ret (v := .tuple #[.int .i64 1, .bool true]) (by simp [results, Try.results13, go_sem]) rfl ?_
      exact ⟨HB1.out, 1, true, rfl, fun _ => ⟨1, HV2.out, rfl⟩, by simp⟩
    | false =>
      have HV2 : Hid (valM ⟨2, x0, [⟨k1, x1, l1⟩]⟩ = none) := by unfold Hid; rw [HV.out, hq]; rfl
      clear hq
      go_wp2_with fail
      refine bodyPost_ret (v := .tuple #[.int .i64 1, .bool false]) (by simp [results, Try.results13, go_sem]) rfl ?_
      exact ⟨HB1.out, 1, false, rfl, by simp, fun _ => HV2.out⟩
  subst h2
  obtain ⟨b, rfl, hshb⟩ := sh_one hsh1
  obtain ⟨B1, o1, a2, c2, rfl, hXB1, g0, g1, g2, hs2⟩ := slM_one HS1.out
  have hB1w : B1 < w.heap.size := cell_ltM g0
  have hzb : sizeM [b] ≤ 2000 := by rw [sizeM_one] at hz1; omega
  have HV : Hid (valM ⟨2, x0, [⟨2, x1, [b]⟩]⟩ = if isB (spM (sizeM [b]) b).2 0 = true then some (spM (sizeM [b]) b).1 else none) := by
    unfold Hid valM
    rw [if_pos rfl, HHD.out, if_pos rfl]
    rfl
  have I0 : Hid (VlI b w X (.int .i64 ((0 : Nat) : Int)) (w.alloc (.cells #[.int .i64 b.kind, .int .i64 b.idx, .slice a2 b.subs.length c2] 25))) := ⟨0, b, a2, c2, rfl, OnSp.start hshb, (Below.refl _ _).alloc (Nat.le_refl _) _, Blk.new _ _ _, (hs2.mono (Y := fun b => X b ∧ b < w.heap.size) fun b h1 h2 => ⟨h1, h2⟩).later ((Below.refl _ _).alloc (Nat.le_refl _) _)⟩
  have nB : B ≠ w.heap.size := by omega
  have nB1 : B1 ≠ w.heap.size := by omega
  simp only [List.length_cons, List.length_nil, Nat.zero_add] at *
  clear hs2 HS1 HHD hsh hsh1 hz1
  go_enter Try.func13, Try.ntmps13
  go_wp2_with fail
  clear d0 d1 d2 g0 g1 g2
  go_loopw [4] (fun i wr => VlI b w X i wr) (fun i wr => sizeM [b] - (intOf i).toNat)
  case atStart => exact I0.out
  case round =>
    obtain ⟨k, r, ar, cr, rfl, hon, hb, hT, hsr⟩ := hrel
    have HON := hide hon
    have HBW := hide hb
    have HT := hide hT
    have HSR := hide hsr
    have hkb : k ≤ 2000 := by have := hon.sz; omega
    have hk2 : sizeM [r] + k ≤ sizeM [b] := hon.sz
    have hrp := sizeM_posL r
    have c0 : wr.cell? ⟨w.heap.size, 0, none⟩ = some (.int .i64 r.kind) := hT.cell 0
    have c1' : wr.cell? ⟨w.heap.size, 1, none⟩ = some (.int .i64 r.idx) := hT.cell 1
    have c2' : wr.cell? ⟨w.heap.size, 2, none⟩ = some (.slice ar r.subs.length cr) := hT.cell 2
    have cf := hT.frozen
    have FIN : Hid (goB r = false → ∀ w' , Below wr.heap.size wr w' → ∀ q, q = isB r 0 → VlPost ⟨2, x0, [⟨2, x1, [b]⟩]⟩ w (.returned (.tuple #[.int .i64 (k : Int), .bool q])) w') := fun hg w' hb' q hq => by
      obtain ⟨f1, f2⟩ := HON.out.fin hg
      refine ⟨HBW.out.trans (hb'.mono HBW.out.size), k, q, rfl, fun h => ⟨k, ?_, rfl⟩, fun h => ?_⟩
      · rw [HV.out, f2, ← hq, h, f1]; rfl
      · rw [HV.out, f2, ← hq, h]; rfl
    clear hon hb hT hsr I0
    by_cases h3 : r.kind = 3
    · obtain ⟨kr, xr, lr⟩ := r
      simp only at h3
      subst h3
      obtain ⟨f, z, rfl⟩ := sh_two HON.out.sh
      obtain ⟨B2, o2, a3, c3, a4, c4, rfl, hXB2, d0, d1, d2, d3, d4, d5, hs3, hs4⟩ := slM_cells HSR.out
      have HS3 := hide hs3
      have HS4 := hide hs4
      have hB2 : B2 < w.heap.size := hXB2.2
      have hB2r : B2 < wr.heap.size := by have := HBW.out.size; omega
      have nB2 : B2 ≠ w.heap.size := by omega
      have HGO : Hid (goB ⟨3, xr, [f, z]⟩ = isB f 1) := by unfold Hid goB; simp [hdM]
      clear hs3 hs4
      simp only [List.length_cons, List.length_nil, Nat.zero_add, Nat.reduceAdd] at *
      go_wp2_with fail
      refine (isBound_any f 1 _ _ _ (by exact ⟨a3, c3, rfl, HS3.out⟩)).mono ?_
      rintro e w1 ⟨rfl, hb1⟩
      have T1 := hide (HT.out.below hb1 HT.out.lt)
      have HB1 := hide hb1
      have p0 : w1.cell? ⟨w.heap.size, 0, none⟩ = some (.int .i64 3) := T1.out.cell 0
      have p1 : w1.cell? ⟨w.heap.size, 1, none⟩ = some (.int .i64 xr) := T1.out.cell 1
      have p2 : w1.cell? ⟨w.heap.size, 2, none⟩ = some (.slice (some ⟨B2, o2, none⟩) 2 cr) := T1.out.cell 2
      have pf := T1.out.frozen
      have z0 : w1.cell? ⟨B2, o2 + 3, none⟩ = some (.int .i64 z.kind) := (hb1.cell (p := ⟨B2, o2 + 3, none⟩) hB2r).trans d3
      have z1 : w1.cell? ⟨B2, o2 + 4, none⟩ = some (.int .i64 z.idx) := (hb1.cell (p := ⟨B2, o2 + 4, none⟩) hB2r).trans d4
      have z2 : w1.cell? ⟨B2, o2 + 5, none⟩ = some (.slice a4 z.subs.length c4) := (hb1.cell (p := ⟨B2, o2 + 5, none⟩) hB2r).trans d5
      clear hb1 c0 c1' c2' cf d0 d1 d2 d3 d4 d5
      cases hq : isB f 1 with
      | true =>
        have HO2 := hide (HON.out.on (by rw [HGO.out, hq]))
        have HI : Hid (VlI b w X (.int .i64 ((k + 1 : Nat) : Int)) (((w1.setCell ⟨w.heap.size, 0, none⟩ (.int .i64 z.kind)).setCell ⟨w.heap.size, 1, none⟩ (.int .i64 z.idx)).setCell ⟨w.heap.size, 2, none⟩ (.slice a4 z.subs.length c4))) := by
          refine ⟨k + 1, z, a4, c4, rfl, HO2.out, bl_set3 (HBW.out.trans (HB1.out.mono HBW.out.size)) _ (Nat.le_refl _) _ _ _, blk_set3 T1.out _ _ _, (HS4.out.later HB1.out).kept fun b hb => ?_⟩
          have hne : b ≠ w.heap.size := by have := hb.2; omega
          rw [Below.heap_setCell _ _ _ _ (by simpa using hne), Below.heap_setCell _ _ _ _ (by simpa using hne), Below.heap_setCell _ _ _ _ (by simpa using hne)]
        clear hq
        go_wp2_with fail
        go_roundw
        case rel => exact (by go_num : Value.int IntKind.i64 ((k : Int) + 1) = .int .i64 ((k + 1 : Nat) : Int)) ▸ HI.out
        case measure => simp [intOf]; omega
      | false =>
        have hgf : goB ⟨3, xr, [f, z]⟩ = false := by rw [HGO.out, hq]
        have HGF := hide hgf
        clear hq hgf z0 z1 z2
        go_wp2_with fail
        refine (isBound_any ⟨3, xr, [f, z]⟩ 0 _ _ _ (by exact ⟨some ⟨B2, o2, none⟩, cr, rfl, HSR.out.later HB1.out⟩)).mono ?_
        rintro e w3 ⟨rfl, hb3⟩
        have HB3 := hide (HB1.out.trans (hb3.mono HB1.out.size))
        clear hb3
        go_wp2_with fail
        refine bodyPost_ret (v := .tuple #[.int .i64 (k : Int), .bool (isB ⟨3, xr, [f, z]⟩ 0)]) (by simp [results, Try.results13, go_sem]) rfl ?_
        exact FIN.out HGF.out _ HB3.out _ rfl
    · have e3 : (r.kind == 3) = false := beq_eq_false_iff_ne.2 h3
      have HGF : Hid (goB r = false) := by unfold Hid goB; simp [h3]
      clear h3
      go_wp2_with fail
      refine (isBound_any r 0 _ _ _ (by exact ⟨ar, cr, rfl, HSR.out⟩)).mono ?_
      rintro e w3 ⟨rfl, hb3⟩
      have HB3 := hide hb3
      clear hb3
      go_wp2_with fail
      refine bodyPost_ret (v := .tuple #[.int .i64 (k : Int), .bool (isB r 0)]) (by simp [results, Try.results13, go_sem]) rfl ?_
      exact FIN.out HGF.out _ HB3.out _ rfl
#print axioms value_any
end Go.Proofs.Ytmapeiecapiliaa
