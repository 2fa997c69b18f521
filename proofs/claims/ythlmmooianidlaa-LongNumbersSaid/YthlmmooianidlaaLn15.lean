/- Walks: whether a lambda term is a number, as the document says. -/
import Derived.Test.YthlmmooianidlaaLn12
import Derived.Test.YthlmmooianidlaaLn13
import Derived.Test.YthlmmooianidlaaLn14
import Derived.BigQuiet
namespace Go.Proofs.Ythlmmooianidlaa
open Go.RowKit
set_option linter.unusedSimpArgs false
set_option linter.unusedVariables false
set_option maxRecDepth 8000

theorem ret_intN {a b : Int} (h : a = b) : Ending.returned (.int .i64 a) = .returned (.int .i64 b) := by rw [h]
theorem isB_is {u m : Int} {t : Lm} (he : errM u m [t] = 0) (i : Int) : isB t i = true ↔ t = ⟨1, i, []⟩ := by
  obtain ⟨k, x, l⟩ := t
  rw [isB_yes]
  constructor
  · rintro ⟨h1, h2⟩
    simp only at h1 h2
    subst h1; subst h2
    have := (knE_zero.1 (err_one0.1 he).1).2.1
    have hl : l = [] := List.length_eq_zero_iff.1 (by rw [this]; rfl)
    rw [hl]
  · intro e
    cases e
    exact ⟨rfl, rfl⟩
theorem err_idx0 {u m x : Int} {l : List Lm} (he : errM u m [⟨2, x, l⟩] = 0) : x = 0 := by
  have := (knE_zero.1 (err_one0.1 he).1).2.2
  simp [mostK] at this
  omega
def valZ (t : Lm) : Int := match valM t with | some n => (n : Int) | none => -1
structure VdS (b : Lm) (u : Int) (w : World) (X : Nat → Prop) (P k : Nat) (r : Lm) (a : Option Addr) (c : Nat) (wr : World) : Prop where
  on : OnSp b k r
  er : ∃ u', errM u' 0 [r] = 0
  bl : Below w.heap.size w wr
  bk : Blk wr P #[.int .i64 r.kind, .int .i64 r.idx, .slice a r.subs.length c] 24
  sl : SlM wr (fun b => X b ∧ b < w.heap.size) a r.subs

set_option maxHeartbeats 8000000 in
theorem valueOf_any (t : Lm) (he : errM 0 0 [t] = 0) (hz : sizeM [t] ≤ 2000) (v : Value) (w : World) (X : Nat → Prop) (hv : MV w X v t) :
    Calls Try.prog 11 #[v] w fun e w' => e = .returned (.int .i64 (valZ t)) ∧ Below w.heap.size w w' := by
  obtain ⟨a, c, rfl, hs⟩ := hv
  have hB0 : Below w.heap.size w (w.alloc (.cells #[.int .i64 t.kind, .int .i64 t.idx, .slice a t.subs.length c] 24)) := (Below.refl _ _).alloc (Nat.le_refl _) _
  have HT0 : Hid (Blk (w.alloc (.cells #[.int .i64 t.kind, .int .i64 t.idx, .slice a t.subs.length c] 24)) w.heap.size #[.int .i64 t.kind, .int .i64 t.idx, .slice a t.subs.length c] 24) := Blk.new _ _ _
  have HS := hide (hs.mono (Y := fun b => X b ∧ b < w.heap.size) fun b h1 h2 => ⟨h1, h2⟩)
  have HB0 := hide hB0
  have hz0 : (w.alloc (.cells #[.int .i64 t.kind, .int .i64 t.idx, .slice a t.subs.length c] 24)).heap.size = w.heap.size + 1 := by simp
  have HE := hide he
  clear hs hB0 he
  go_enter Try.func11, Try.ntmps11
  go_wp2_with fail
  generalize (w.alloc (.cells #[.int .i64 t.kind, .int .i64 t.idx, .slice a t.subs.length c] 24)) = w0 at *
  have KP : Hid (∀ w', Below w0.heap.size w0 w' → w'.cell? ⟨w.heap.size, 0, none⟩ = some (.int .i64 t.kind) ∧ w'.cell? ⟨w.heap.size, 1, none⟩ = some (.int .i64 t.idx) ∧ w'.cell? ⟨w.heap.size, 2, none⟩ = some (.slice a t.subs.length c)) := fun w' hb => ⟨(HT0.out.below hb (by omega)).cell 0, (HT0.out.below hb (by omega)).cell 1, (HT0.out.below hb (by omega)).cell 2⟩
  have HSS := hide (KP.out _ (Below.refl _ _))
  go_region_held3 (fun w' => w'.cell? ⟨w.heap.size, 0, none⟩ = some (.int .i64 t.kind) ∧ w'.cell? ⟨w.heap.size, 1, none⟩ = some (.int .i64 t.idx) ∧ w'.cell? ⟨w.heap.size, 2, none⟩ = some (.slice a t.subs.length c)) (first | exact HSS.out | exact z5 | exact z4 | exact z3 | go_keep)
    (first
      | (go_at_call 14; refine (varR_any _ _).mono ?_; rintro e w3 ⟨rfl, hb3⟩; have k3 : Below w0.heap.size w0 w3 := ((Below.refl w0.heap.size w0).drew).trans hb3; have z3 := KP.out _ k3; clear hb3)
      | (go_at_call 16; refine (funR_any (⟨1, 0, []⟩ : Lm) _ _ (fun _ => True) (by exact ⟨none, 0, rfl, ⟨by simp, Or.inl rfl⟩⟩)).mono ?_; rintro e w4 ⟨a4, c4, rfl, hs4, hb4⟩; have k4 := k3.trans (hb4.mono k3.size); have z4 := KP.out _ k4; have S4 := hide hs4; clear hb4 hs4)
      | (go_at_call 17; refine (sameG_any t ⟨2, 0, [(⟨1, 0, []⟩ : Lm)]⟩ _ _ _ (fun b => X b ∧ b < w.heap.size) (fun _ => True) (by exact ⟨a, c, rfl, HS.out.later (HB0.out.trans (k4.mono (by omega)))⟩) (by exact ⟨a4, c4, rfl, S4.out.mono fun _ _ _ => trivial⟩)).mono ?_; rintro e w5 ⟨q, rfl, hq, hb5⟩; have k5 := k4.trans (hb5.mono k4.size); have z5 := KP.out _ k5; have HQ := hide hq; clear hb5 hq))
  have K5 := hide k5
  have B5 := hide (HB0.out.trans (k5.mono (by omega)))
  have T5 := hide (HT0.out.below k5 (by omega))
  have hw5 : w.heap.size < w5.heap.size := by have := k5.size; omega
  clear k3 k4 k5 z3 z4 z5 HSS KP
  cases q with
  | true =>
    have hE := HQ.out.1 rfl
    have HV : Hid (valZ t = 1) := by unfold Hid; rw [hE]; rfl
    clear hE
    go_wp2_with fail
    go_ret
    exact ⟨ret_intN HV.out.symm, B5.out⟩
  | false =>
    have HNE : Hid (t ≠ ⟨2, 0, [(⟨1, 0, []⟩ : Lm)]⟩) := fun h => by have := HQ.out.2 h; cases this
    clear HQ
    obtain ⟨k0, x0, l0⟩ := t
    dsimp only at *
    have t0 : w5.cell? ⟨w.heap.size, 0, none⟩ = some (.int .i64 k0) := T5.out.cell 0
    have t1 : w5.cell? ⟨w.heap.size, 1, none⟩ = some (.int .i64 x0) := T5.out.cell 1
    have t2 : w5.cell? ⟨w.heap.size, 2, none⟩ = some (.slice a l0.length c) := T5.out.cell 2
    by_cases h2 : k0 = 2
    case neg =>
      have e1 : (k0 == 2) = false := beq_eq_false_iff_ne.2 h2
      have e2 : (k0 != 2) = true := by simp [bne, e1]
      have HV : Hid (valZ ⟨k0, x0, l0⟩ = -1) := by unfold Hid valZ valM; rw [if_neg h2]
      clear h2
      go_wp2_with fail
      go_ret
      exact ⟨ret_intN HV.out.symm, B5.out⟩
    subst h2
    obtain ⟨tb, rfl, hsh1⟩ := sh_one (sh_of_err _ _ _ HE.out)
    have he1 : errM 1 0 [tb] = 0 := by have := err_all0.1 (err_one0.1 HE.out).2 tb (by simp); simpa [deepK] using this
    have hx0 := err_idx0 HE.out
    subst hx0
    obtain ⟨B, o, a1, c1, rfl, hXB, d0, d1, d2, hs1⟩ := slM_one (HS.out.later B5.out)
    have HS1 := hide hs1
    have hBw : B < w.heap.size := hXB.2
    have HHD : Hid (hdM ⟨2, 0, [tb]⟩ = tb) := rfl
    have hz1 : sizeM [tb] ≤ 2000 := by rw [sizeM_one] at hz; omega
    clear hs1 hz
    obtain ⟨k1, x1, l1⟩ := tb
    simp only [List.length_cons, List.length_nil, Nat.zero_add] at *
    by_cases h2 : k1 = 2
    case neg =>
      have e1 : (k1 == 2) = false := beq_eq_false_iff_ne.2 h2
      have e2 : (k1 != 2) = true := by simp [bne, e1]
      have HV : Hid (valZ ⟨2, 0, [⟨k1, x1, l1⟩]⟩ = -1) := by
        unfold Hid valZ valM
        rw [if_pos rfl, HHD.out, if_neg h2, if_neg]
        intro hb
        have := (isB_is he1 0).1 hb
        rw [this] at HNE
        exact HNE.out rfl
      clear h2
      go_wp2_with fail
      go_ret
      exact ⟨ret_intN HV.out.symm, B5.out⟩
    subst h2
    obtain ⟨b, rfl, hshb⟩ := sh_one hsh1
    have heb : errM 2 0 [b] = 0 := by have := err_all0.1 (err_one0.1 he1).2 b (by simp); simpa [deepK] using this
    obtain ⟨B1, o1, a2, c2, rfl, hXB1, g0, g1, g2, hs2⟩ := slM_one HS1.out
    have hB1w : B1 < w.heap.size := hXB1.2
    have hzb : sizeM [b] ≤ 2000 := by rw [sizeM_one] at hz1; omega
    have HV : Hid (valZ ⟨2, 0, [⟨2, x1, [b]⟩]⟩ = if isB (spM (sizeM [b]) b).2 0 = true then ((spM (sizeM [b]) b).1 : Int) else -1) := by
      unfold Hid valZ valM
      rw [if_pos rfl, HHD.out, if_pos rfl]
      show (match (if isB (spM (sizeM [b]) b).2 0 = true then some (spM (sizeM [b]) b).1 else none) with | some n => (n : Int) | none => -1) = _
      split
      · rename_i n hn
        split at hn
        · cases hn; rename_i h9; rw [if_pos h9]
        · cases hn
      · rename_i hn
        split at hn
        · cases hn
        · rename_i h9; rw [if_neg h9]
    have I0 : Hid (VdS b 2 w X w5.heap.size 0 b a2 c2 (w5.alloc (.cells #[.int .i64 b.kind, .int .i64 b.idx, .slice a2 b.subs.length c2] 24))) := ⟨OnSp.start hshb, ⟨2, heb⟩, B5.out.alloc B5.out.size _, Blk.new _ _ _, hs2.later ((Below.refl _ _).alloc (Nat.le_refl _) _)⟩
    simp only [List.length_cons, List.length_nil, Nat.zero_add] at *
    clear hs2 HS1 HHD hsh1 hz1 HNE he1 heb
    go_wp2_with fail
    clear d0 d1 d2 g0 g1 g2 t0 t1 t2
    generalize (w5.alloc (.cells #[.int .i64 b.kind, .int .i64 b.idx, .slice a2 b.subs.length c2] 24)) = w6 at *
    have HPW : Hid (w.heap.size < w5.heap.size) := hw5
    generalize w5.heap.size = P at *
    go_loopw [3] (fun i wr => ∃ (k : Nat) (r : Lm) (ar : Option Addr) (cr : Nat), i = .int .i64 (k : Int) ∧ VdS b 2 w X P k r ar cr wr) (fun i wr => sizeM [b] - (intOf i).toNat)
    case atStart => exact ⟨0, b, a2, c2, rfl, I0.out⟩
    case round =>
      obtain ⟨k, r, ar, cr, rfl, hvd⟩ := hrel
      have HVD := hide hvd
      have hkb : k ≤ 2000 := by have := hvd.on.sz; omega
      have hk2 : sizeM [r] + k ≤ sizeM [b] := hvd.on.sz
      have hrp := sizeM_posL r
      have hPl : P < wr.heap.size := hvd.bk.lt
      have c0 : wr.cell? ⟨P, 0, none⟩ = some (.int .i64 r.kind) := hvd.bk.cell 0
      have c1' : wr.cell? ⟨P, 1, none⟩ = some (.int .i64 r.idx) := hvd.bk.cell 1
      have c2' : wr.cell? ⟨P, 2, none⟩ = some (.slice ar r.subs.length cr) := hvd.bk.cell 2
      have FIN : Hid (goB r = false → (r = ⟨1, 0, []⟩ → valZ ⟨2, 0, [⟨2, x1, [b]⟩]⟩ = (k : Int)) ∧ (r ≠ ⟨1, 0, []⟩ → valZ ⟨2, 0, [⟨2, x1, [b]⟩]⟩ = -1)) := fun hg => by
        obtain ⟨f1, f2⟩ := HVD.out.on.fin hg
        obtain ⟨u', hu'⟩ := HVD.out.er
        rw [HV.out, f2, f1]
        exact ⟨fun h9 => by rw [if_pos ((isB_is hu' 0).2 h9)], fun h9 => by rw [if_neg (fun h => h9 ((isB_is hu' 0).1 h))]⟩
      clear hvd I0
      by_cases h3 : r.kind = 3
      · obtain ⟨kr, xr, lr⟩ := r
        simp only at h3
        subst h3
        obtain ⟨f, z, rfl⟩ := sh_two HVD.out.on.sh
        obtain ⟨u', hu'⟩ := HVD.out.er
        have hef : errM u' 0 [f] = 0 := by have := err_all0.1 (err_one0.1 hu').2 f (by simp); simpa [deepK] using this
        have hez : errM u' 0 [z] = 0 := by have := err_all0.1 (err_one0.1 hu').2 z (by simp); simpa [deepK] using this
        obtain ⟨B2, o2, a3, c3, a4, c4, rfl, hXB2, d0, d1, d2, d3, d4, d5, hs3, hs4⟩ := slM_cells HVD.out.sl
        have HS3 := hide hs3
        have HS4 := hide hs4
        have hB2 : B2 < w.heap.size := hXB2.2
        have hB2r : B2 < wr.heap.size := by have := HVD.out.bl.size; omega
        have HGO : Hid (goB ⟨3, xr, [f, z]⟩ = isB f 1) := by unfold Hid goB; simp [hdM]
        have HEZ := hide hez
        have HEF := hide hef
        have KP : Hid (∀ w', Below wr.heap.size wr w' → w'.cell? ⟨P, 0, none⟩ = some (.int .i64 3) ∧ w'.cell? ⟨P, 2, none⟩ = some (.slice (some ⟨B2, o2, none⟩) 2 cr) ∧ w'.cell? ⟨B2, o2, none⟩ = some (.int .i64 f.kind) ∧ w'.cell? ⟨B2, o2 + 1, none⟩ = some (.int .i64 f.idx) ∧ w'.cell? ⟨B2, o2 + 2, none⟩ = some (.slice a3 f.subs.length c3)) := fun w' hb => ⟨(HVD.out.bk.below hb hPl).cell 0, (HVD.out.bk.below hb hPl).cell 2, (hb.cell (p := ⟨B2, o2, none⟩) hB2r).trans d0, (hb.cell (p := ⟨B2, o2 + 1, none⟩) hB2r).trans d1, (hb.cell (p := ⟨B2, o2 + 2, none⟩) hB2r).trans d2⟩
        have HSS := hide (KP.out _ (Below.refl _ _))
        have HD3 := hide (And.intro d3 (And.intro d4 d5))
        clear hs3 hs4 d0 d1 d2 d3 d4 d5 c0 c1' c2' hef hez hu'
        try simp only [List.length_cons, List.length_nil, Nat.zero_add, Nat.reduceAdd] at *
        go_wp2_with fail
        go_region_held3 (fun w' => w'.cell? ⟨P, 0, none⟩ = some (.int .i64 3) ∧ w'.cell? ⟨P, 2, none⟩ = some (.slice (some ⟨B2, o2, none⟩) 2 cr) ∧ w'.cell? ⟨B2, o2, none⟩ = some (.int .i64 f.kind) ∧ w'.cell? ⟨B2, o2 + 1, none⟩ = some (.int .i64 f.idx) ∧ w'.cell? ⟨B2, o2 + 2, none⟩ = some (.slice a3 f.subs.length c3)) (first | exact HSS.out | exact z8 | exact z7 | go_keep)
          (first
            | (go_at_call 14; refine (varR_any _ _).mono ?_; rintro e w7 ⟨rfl, hb7⟩; have k7 : Below wr.heap.size wr w7 := ((Below.refl wr.heap.size wr).drew).trans hb7; have z7 := KP.out _ k7; clear hb7)
            | (go_at_call 17; refine (sameG_any f ⟨1, 1, []⟩ _ _ _ (fun b => X b ∧ b < w.heap.size) (fun _ => True) (by exact ⟨a3, c3, rfl, HS3.out.later k7⟩) (by exact ⟨none, 0, rfl, ⟨by simp, Or.inl rfl⟩⟩)).mono ?_; rintro e w8 ⟨q, rfl, hq, hb8⟩; have k8 := k7.trans (hb8.mono k7.size); have z8 := KP.out _ k8; have HQ := hide hq; clear hb8 hq))
        have K8 := hide k8
        have P8 := hide (HVD.out.bk.below k8 hPl)
        have p0 : w8.cell? ⟨P, 0, none⟩ = some (.int .i64 3) := P8.out.cell 0
        have p1 : w8.cell? ⟨P, 1, none⟩ = some (.int .i64 xr) := P8.out.cell 1
        have p2 : w8.cell? ⟨P, 2, none⟩ = some (.slice (some ⟨B2, o2, none⟩) 2 cr) := P8.out.cell 2
        have pf := P8.out.frozen
        have y0 : w8.cell? ⟨B2, o2 + 3, none⟩ = some (.int .i64 z.kind) := (k8.cell (p := ⟨B2, o2 + 3, none⟩) hB2r).trans HD3.out.1
        have y1 : w8.cell? ⟨B2, o2 + 4, none⟩ = some (.int .i64 z.idx) := (k8.cell (p := ⟨B2, o2 + 4, none⟩) hB2r).trans HD3.out.2.1
        have y2 : w8.cell? ⟨B2, o2 + 5, none⟩ = some (.slice a4 z.subs.length c4) := (k8.cell (p := ⟨B2, o2 + 5, none⟩) hB2r).trans HD3.out.2.2
        have nB2 : B2 ≠ P := by have := HPW.out; omega
        clear k7 k8 z7 z8 KP HSS
        cases q with
        | true =>
          have hgt : goB ⟨3, xr, [f, z]⟩ = true := by rw [HGO.out]; exact (isB_is HEF.out 1).2 (HQ.out.1 rfl)
          have HO2 := hide (HVD.out.on.on hgt)
          have HI : Hid (VdS b 2 w X P (k + 1) z a4 c4 (((w8.setCell ⟨P, 0, none⟩ (.int .i64 z.kind)).setCell ⟨P, 1, none⟩ (.int .i64 z.idx)).setCell ⟨P, 2, none⟩ (.slice a4 z.subs.length c4))) := by
            refine ⟨HO2.out, ⟨u', HEZ.out⟩, bl_set3 (HVD.out.bl.trans (K8.out.mono HVD.out.bl.size)) _ (by have := HPW.out; omega) _ _ _, blk_set3 P8.out _ _ _, (HS4.out.later K8.out).kept fun b hb => ?_⟩
            have hne : b ≠ P := by have := hb.2; have := HPW.out; omega
            rw [Below.heap_setCell _ _ _ _ (by simpa using hne), Below.heap_setCell _ _ _ _ (by simpa using hne), Below.heap_setCell _ _ _ _ (by simpa using hne)]
          clear hgt
          go_wp2_with fail
          go_roundw
          case rel => exact ⟨k + 1, z, a4, c4, by go_num, HI.out⟩
          case measure => simp [intOf]; omega
        | false =>
          have hgf : goB ⟨3, xr, [f, z]⟩ = false := by
            rw [HGO.out, Bool.eq_false_iff]
            intro h
            have := HQ.out.2 ((isB_is HEF.out 1).1 h)
            cases this
          have HF9 : Hid (valZ ⟨2, 0, [⟨2, x1, [b]⟩]⟩ = -1) := by unfold Hid; exact (FIN.out hgf).2 (fun h => by cases h)
          have KP2 : Hid (∀ w', Below w8.heap.size w8 w' → w'.cell? ⟨P, 0, none⟩ = some (.int .i64 3) ∧ w'.cell? ⟨P, 1, none⟩ = some (.int .i64 xr) ∧ w'.cell? ⟨P, 2, none⟩ = some (.slice (some ⟨B2, o2, none⟩) 2 cr)) := fun w' hb => ⟨(P8.out.below hb P8.out.lt).cell 0, (P8.out.below hb P8.out.lt).cell 1, (P8.out.below hb P8.out.lt).cell 2⟩
          have HSS2 := hide (KP2.out _ (Below.refl _ _))
          have B8 := hide (HVD.out.bl.trans (K8.out.mono HVD.out.bl.size))
          have SA := hide (HVD.out.sl.later K8.out)
          clear hgf y0 y1 y2 p0 p1 p2 pf
          go_wp2_with fail
          go_region_held3 (fun w' => w'.cell? ⟨P, 0, none⟩ = some (.int .i64 3) ∧ w'.cell? ⟨P, 1, none⟩ = some (.int .i64 xr) ∧ w'.cell? ⟨P, 2, none⟩ = some (.slice (some ⟨B2, o2, none⟩) 2 cr)) (first | exact HSS2.out | exact z10 | exact z9 | go_keep)
            (first
              | (go_at_call 14; refine (varR_any _ _).mono ?_; rintro e w9 ⟨rfl, hb9⟩; have k9 : Below w8.heap.size w8 w9 := ((Below.refl w8.heap.size w8).drew).trans hb9; have z9 := KP2.out _ k9; clear hb9)
              | (go_at_call 17; refine (sameG_any ⟨3, xr, [f, z]⟩ ⟨1, 0, []⟩ _ _ _ (fun b => X b ∧ b < w.heap.size) (fun _ => True) (by exact ⟨some ⟨B2, o2, none⟩, cr, rfl, SA.out.later k9⟩) (by exact ⟨none, 0, rfl, ⟨by simp, Or.inl rfl⟩⟩)).mono ?_; rintro e w10 ⟨q, rfl, hq, hb10⟩; have k10 := k9.trans (hb10.mono k9.size); have z10 := KP2.out _ k10; have HQ2 := hide hq; clear hb10 hq))
          have B10 := hide (B8.out.trans (k10.mono B8.out.size))
          clear k9 k10 z9 z10 KP2 HSS2
          cases q with
          | true =>
            have := HQ2.out.1 rfl
            cases this
          | false =>
            go_wp2_with fail
            go_ret
            exact ⟨ret_intN HF9.out.symm, B10.out⟩
      · have e3 : (r.kind == 3) = false := beq_eq_false_iff_ne.2 h3
        have e4 : decide (r.kind = 3) = false := decide_eq_false h3
        have HGF : Hid (goB r = false) := by unfold Hid goB; simp [h3]
        have KP : Hid (∀ w', Below wr.heap.size wr w' → w'.cell? ⟨P, 0, none⟩ = some (.int .i64 r.kind) ∧ w'.cell? ⟨P, 1, none⟩ = some (.int .i64 r.idx) ∧ w'.cell? ⟨P, 2, none⟩ = some (.slice ar r.subs.length cr)) := fun w' hb => ⟨(HVD.out.bk.below hb hPl).cell 0, (HVD.out.bk.below hb hPl).cell 1, (HVD.out.bk.below hb hPl).cell 2⟩
        have HSS := hide (KP.out _ (Below.refl _ _))
        clear h3
        go_upto_region 7 with fail
        go_quiet (fail)
        clear c0 c1' c2'
        go_wp2_with fail
        go_region_held3 (fun w' => w'.cell? ⟨P, 0, none⟩ = some (.int .i64 r.kind) ∧ w'.cell? ⟨P, 1, none⟩ = some (.int .i64 r.idx) ∧ w'.cell? ⟨P, 2, none⟩ = some (.slice ar r.subs.length cr)) (first | exact HSS.out | exact z10 | exact z9 | go_keep)
          (first
            | (go_at_call 14; refine (varR_any _ _).mono ?_; rintro e w9 ⟨rfl, hb9⟩; have k9 : Below wr.heap.size wr w9 := (by first | exact (((Below.refl wr.heap.size wr).drew).drew).trans hb9 | exact ((below_drewN (Below.refl wr.heap.size wr) _).drew).trans hb9 | exact (below_drewN (Below.refl wr.heap.size wr) 2).trans hb9 | exact ((Below.refl wr.heap.size wr).drew).trans hb9); have z9 := KP.out _ k9; clear hb9)
            | (go_at_call 17; refine (sameG_any r ⟨1, 0, []⟩ _ _ _ (fun b => X b ∧ b < w.heap.size) (fun _ => True) (by exact ⟨ar, cr, rfl, HVD.out.sl.later k9⟩) (by exact ⟨none, 0, rfl, ⟨by simp, Or.inl rfl⟩⟩)).mono ?_; rintro e w10 ⟨q, rfl, hq, hb10⟩; have k10 := k9.trans (hb10.mono k9.size); have z10 := KP.out _ k10; have HQ2 := hide hq; clear hb10 hq))
        have B10 := hide (HVD.out.bl.trans (k10.mono HVD.out.bl.size))
        clear k9 k10 z9 z10 KP HSS
        cases q with
        | true =>
          have HF9 : Hid (valZ ⟨2, 0, [⟨2, x1, [b]⟩]⟩ = (k : Int)) := by unfold Hid; exact (FIN.out HGF.out).1 (HQ2.out.1 rfl)
          go_wp2_with fail
          go_ret
          exact ⟨ret_intN HF9.out.symm, B10.out⟩
        | false =>
          have HF9 : Hid (valZ ⟨2, 0, [⟨2, x1, [b]⟩]⟩ = -1) := by unfold Hid; exact (FIN.out HGF.out).2 (fun h => by have := HQ2.out.2 h; cases this)
          go_wp2_with fail
          go_ret
          exact ⟨ret_intN HF9.out.symm, B10.out⟩
#print axioms valueOf_any
end Go.Proofs.Ythlmmooianidlaa
