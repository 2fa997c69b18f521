/- Walks: the code's develop, to its end. -/
import Derived.Test.YtagidfoiemgfcaaGreatDoorDv2
import Derived.Test.YtagidfoiemgfcaaGreatDoorZTopChurchOwn
namespace Go.Proofs.YtagidfoiemgfcaaGreatDoor
open Go.RowKit Go.Shelf
set_option linter.unusedSimpArgs false
set_option linter.unusedVariables false
set_option maxRecDepth 8000

theorem dv_end {w wz : World} {n R : Nat} {t t' : Lm} {a : Option Addr} {c : Nat} (hR : w.heap.size ≤ R) (hb : Below w.heap.size w wz) (hs : SlM wz (fun b => w.heap.size ≤ b ∧ b ≠ R) a t'.subs) (hd : devT n t = if 2000 < sizeM [t'] then none else some t') (v0 v1 v2 : Value) :
    DvPost n t w (.returned (.tuple #[.agg #[.int .i64 t'.kind, .int .i64 t'.idx, .slice a t'.subs.length c], .bool (decide (min (sizeM [t'] : Int) 2001 ≤ 2000))])) (((wz.setCell ⟨R, 0, none⟩ v0).setCell ⟨R, 1, none⟩ v1).setCell ⟨R, 2, none⟩ v2) := by
  refine ⟨bl_set3 hb R hR _ _ _, ?_⟩
  by_cases h : 2000 < sizeM [t']
  · rw [if_pos h] at hd
    have e : decide (min (sizeM [t'] : Int) 2001 ≤ 2000) = false := decide_eq_false (by omega)
    rw [e]
    exact Or.inr ⟨hd, _, _, _, _, _, rfl⟩
  · rw [if_neg h] at hd
    have e : decide (min (sizeM [t'] : Int) 2001 ≤ 2000) = true := decide_eq_true (by omega)
    rw [e]
    refine Or.inl ⟨t', a, c, hd, rfl, (hs.kept fun q hq => ?_).mono fun b h _ => h.1⟩
    rw [Below.heap_setCell _ _ _ _ (by simpa using hq.2), Below.heap_setCell _ _ _ _ (by simpa using hq.2), Below.heap_setCell _ _ _ _ (by simpa using hq.2)]

set_option maxHeartbeats 4000000 in
theorem develop_at (n : Nat) : ∀ (t : Lm) (u : Int), sizeM [t] ≤ n → 0 ≤ u → u + sizeM [t] ≤ 40000 → errM u 0 [t] = 0 → DvAt n t := by
  induction n with
  | zero => intro t u h; have := sizeM_posL t; omega
  | succ n ih =>
    intro t u hn hu hu2 he v w X hv
    obtain ⟨kd, ix, l⟩ := t
    obtain ⟨a, c, rfl, hs⟩ := hv
    dsimp only at hs ⊢
    have hsz : sizeM [⟨kd, ix, l⟩] = 1 + sizeM l := sizeM_one kd ix l
    have hlen := sizeM_len l
    have hkn := knE_zero.1 (err_one0.1 he).1
    have HIH : Hid (∀ s ∈ l, DvAt n s) := fun s hsl => by
      obtain ⟨i, hi', rfl⟩ := List.mem_iff_getElem.1 hsl
      have := sizeM_get l i hi'
      have hd : u ≤ deepK u kd ∧ deepK u kd ≤ u + 1 := by unfold deepK; split <;> omega
      exact ih _ (deepK u kd) (by omega) (by omega) (by omega) (err_all0.1 (err_one0.1 he).2 _ hsl)
    have B2 : Hid (Below w.heap.size w ((w.alloc (.cells #[.int .i64 kd, .int .i64 ix, .slice a l.length c] 26)).alloc (.cells #[.int .i64 0, .int .i64 0, .slice none 0 0] 26))) := below2M _ _
    have T2 : Hid (Blk ((w.alloc (.cells #[.int .i64 kd, .int .i64 ix, .slice a l.length c] 26)).alloc (.cells #[.int .i64 0, .int .i64 0, .slice none 0 0] 26)) w.heap.size #[.int .i64 kd, .int .i64 ix, .slice a l.length c] 26) := (Blk.new w _ _).alloc _
    have R2 : Hid (Blk ((w.alloc (.cells #[.int .i64 kd, .int .i64 ix, .slice a l.length c] 26)).alloc (.cells #[.int .i64 0, .int .i64 0, .slice none 0 0] 26)) (w.heap.size + 1) #[.int .i64 0, .int .i64 0, .slice none 0 0] 26) := by
      have h := Blk.new (w.alloc (.cells #[.int .i64 kd, .int .i64 ix, .slice a l.length c] 26)) #[.int .i64 0, .int .i64 0, .slice none 0 0] 26
      unfold Hid
      simpa using h
    have HS := hide hs
    cases hrd : rdxT ⟨kd, ix, l⟩ with
    | true =>
      obtain ⟨x', fi, b, z, e, h1, h2⟩ := subs_two he hrd
      cases e
      have hef : errM u 0 [⟨2, fi, [b]⟩] = 0 := by
        have h4 := (err_one0.1 he).2
        have e3 : deepK u 3 = u := by simp [deepK]
        rw [e3] at h4
        exact (err_two0.1 h4).1
      have STEP := hide (fun v x (w' : World) X => devStep_any n u ix fi b z hu (by omega) hef h2 (HIH.out _ (by simp)) (HIH.out _ (by simp)) v x w' X)
      obtain ⟨B, o, a1, c1, a2, c2, rfl, hXB, d0, d1, d2, d3, d4, d5, hs1, hs2⟩ := slM_cells (hs.mono (Y := fun b => X b ∧ b < w.heap.size) fun b p1 p2 => ⟨p1, p2⟩)
      dsimp only [List.length_cons, List.length_nil] at *
      have hz2 : ((w.alloc (.cells #[.int .i64 3, .int .i64 ix, .slice (some ⟨B, o, none⟩) (0 + 1 + 1) c] 26)).alloc (.cells #[.int .i64 0, .int .i64 0, .slice none 0 0] 26)).heap.size = w.heap.size + 2 := by simp
      have hBw : B < w.heap.size := hXB.2
      have nB0 : B ≠ w.heap.size := by omega
      have nB1 : B ≠ w.heap.size + 1 := by omega
      clear hs he hkn hrd ih HIH hef h1 h2 hsz hn hlen
      go_enter Tryz.func22, Tryz.ntmps22
      go_upto_region 2 with fail
      generalize ((w.alloc (.cells #[.int .i64 3, .int .i64 ix, .slice (some ⟨B, o, none⟩) (0 + 1 + 1) c] 26)).alloc (.cells #[.int .i64 0, .int .i64 0, .slice none 0 0] 26)) = w4 at *
      have HS0 : Hid (w4.cell? ⟨w.heap.size, 2, none⟩ = some (.slice (some ⟨B, o, none⟩) 2 c) ∧ w4.cell? ⟨B, o, none⟩ = some (.int .i64 2) ∧ w4.cell? ⟨B, o + 1, none⟩ = some (.int .i64 fi) ∧ w4.cell? ⟨B, o + 2, none⟩ = some (.slice a1 1 c1) ∧ w4.cell? ⟨B, o + 3, none⟩ = some (.int .i64 z.kind) ∧ w4.cell? ⟨B, o + 4, none⟩ = some (.int .i64 z.idx) ∧ w4.cell? ⟨B, o + 5, none⟩ = some (.slice a2 z.subs.length c2)) := ⟨T2.out.cell 2, (B2.out.cell (p := ⟨B, o, none⟩) hBw).trans d0, (B2.out.cell (p := ⟨B, o + 1, none⟩) hBw).trans d1, (B2.out.cell (p := ⟨B, o + 2, none⟩) hBw).trans d2, (B2.out.cell (p := ⟨B, o + 3, none⟩) hBw).trans d3, (B2.out.cell (p := ⟨B, o + 4, none⟩) hBw).trans d4, (B2.out.cell (p := ⟨B, o + 5, none⟩) hBw).trans d5⟩
      have KP : Hid (∀ w', Below w4.heap.size w4 w' → w'.cell? ⟨w.heap.size, 2, none⟩ = some (.slice (some ⟨B, o, none⟩) 2 c) ∧ w'.cell? ⟨B, o, none⟩ = some (.int .i64 2) ∧ w'.cell? ⟨B, o + 1, none⟩ = some (.int .i64 fi) ∧ w'.cell? ⟨B, o + 2, none⟩ = some (.slice a1 1 c1) ∧ w'.cell? ⟨B, o + 3, none⟩ = some (.int .i64 z.kind) ∧ w'.cell? ⟨B, o + 4, none⟩ = some (.int .i64 z.idx) ∧ w'.cell? ⟨B, o + 5, none⟩ = some (.slice a2 z.subs.length c2)) := fun w' hb => by
        have hh := HS0.out
        have hB4 : B < w4.heap.size := by omega
        exact ⟨(hb.cell (p := ⟨w.heap.size, 2, none⟩) (by simp; omega)).trans hh.1, (hb.cell (p := ⟨B, o, none⟩) hB4).trans hh.2.1, (hb.cell (p := ⟨B, o + 1, none⟩) hB4).trans hh.2.2.1, (hb.cell (p := ⟨B, o + 2, none⟩) hB4).trans hh.2.2.2.1, (hb.cell (p := ⟨B, o + 3, none⟩) hB4).trans hh.2.2.2.2.1, (hb.cell (p := ⟨B, o + 4, none⟩) hB4).trans hh.2.2.2.2.2.1, (hb.cell (p := ⟨B, o + 5, none⟩) hB4).trans hh.2.2.2.2.2.2⟩
      have HD : Hid (Below w4.heap.size w4 w4.drew) := (Below.refl _ _).drew
      have HR4 : Hid (∀ w', Below w4.heap.size w4 w' → Blk w' (w.heap.size + 1) #[.int .i64 0, .int .i64 0, .slice none 0 0] 26) := fun w' hb => R2.out.below hb (by omega)
      have CALL : Hid (∀ w', Below w4.heap.size w4 w' → Calls Tryz.prog 44 #[.agg #[.int .i64 2, .int .i64 fi, .slice a1 1 c1], .agg #[.int .i64 z.kind, .int .i64 z.idx, .slice a2 z.subs.length c2]] w' fun e w'' => ∃ kk xx aa ll cc ok, e = .returned (.tuple #[.agg #[.int .i64 kk, .int .i64 xx, .slice aa ll cc], .bool ok]) ∧ Below w4.heap.size w4 w'' ∧ ((∃ t', devT (n + 1) ⟨3, ix, [⟨2, fi, [b]⟩, z]⟩ = some t' ∧ ok = true ∧ kk = t'.kind ∧ xx = t'.idx ∧ ll = t'.subs.length ∧ SlM w'' (fun b => w4.heap.size ≤ b) aa t'.subs) ∨ (devT (n + 1) ⟨3, ix, [⟨2, fi, [b]⟩, z]⟩ = none ∧ ok = false))) := fun w' hb => by
        have hbw := B2.out.trans (hb.mono (by omega))
        refine (STEP.out _ _ w' (fun b => X b ∧ b < w.heap.size) ⟨a1, c1, rfl, hs1.later hbw⟩ ⟨a2, c2, rfl, hs2.later hbw⟩).mono ?_
        rintro e w'' ⟨hb1, ⟨t', p, q, h1, rfl, h2⟩ | ⟨h1, k1, x1, p, l1, q, rfl⟩⟩
        · exact ⟨_, _, p, _, q, true, rfl, hb.trans (hb1.mono hb.size), Or.inl ⟨t', h1, rfl, rfl, rfl, rfl, h2.mono fun b h _ => Nat.le_trans hb.size h⟩⟩
        · exact ⟨_, _, p, _, q, false, rfl, hb.trans (hb1.mono hb.size), Or.inr ⟨h1, rfl⟩⟩
      have nW : w.heap.size ≠ w.heap.size + 1 := by omega
      clear d0 d1 d2 d3 d4 d5 hs1 hs2 T2 HS
      go_region_held3 (fun w' => w'.cell? ⟨w.heap.size, 2, none⟩ = some (.slice (some ⟨B, o, none⟩) 2 c) ∧ w'.cell? ⟨B, o, none⟩ = some (.int .i64 2) ∧ w'.cell? ⟨B, o + 1, none⟩ = some (.int .i64 fi) ∧ w'.cell? ⟨B, o + 2, none⟩ = some (.slice a1 1 c1) ∧ w'.cell? ⟨B, o + 3, none⟩ = some (.int .i64 z.kind) ∧ w'.cell? ⟨B, o + 4, none⟩ = some (.int .i64 z.idx) ∧ w'.cell? ⟨B, o + 5, none⟩ = some (.slice a2 z.subs.length c2)) (first | exact hS | exact HS0.out | exact ⟨set3_keep hS.1 nW, set3_keep hS.2.1 nB1, set3_keep hS.2.2.1 nB1, set3_keep hS.2.2.2.1 nB1, set3_keep hS.2.2.2.2.1 nB1, set3_keep hS.2.2.2.2.2.1 nB1, set3_keep hS.2.2.2.2.2.2 nB1⟩ | go_keep)
        (first | (go_at_call 44; refine (CALL.out _ (by first | exact Below.refl _ _ | exact HD.out)).mono ?_; rintro e w5 ⟨kk, xx, aa, ll, cc, ok, rfl, hb5, hcase⟩; have hS := KP.out _ hb5; have RB := HR4.out _ hb5; have r0 : w5.cell? ⟨w.heap.size + 1, 0, none⟩ = some (.int .i64 0) := RB.cell 0; have r1 : w5.cell? ⟨w.heap.size + 1, 1, none⟩ = some (.int .i64 0) := RB.cell 1; have r2 : w5.cell? ⟨w.heap.size + 1, 2, none⟩ = some (.slice none 0 0) := RB.cell 2; have rf := RB.frozen))
      all_goals
        have HCS := hide hcase
        have HB6 := hide (B2.out.trans (hb5.mono (by omega)))
        clear hcase hS
      all_goals go_wp2_with fail
      all_goals refine bodyPost_ret (v := .tuple #[.agg #[.int .i64 kk, .int .i64 xx, .slice aa ll cc], .bool ok]) (by simp [results, Tryz.results22, go_sem, World.cell?_setCell_same, World.cell?_setCell_other, r0, r1, r2]) rfl ?_
      all_goals
        refine ⟨bl_set3 HB6.out _ (by omega) _ _ _, ?_⟩
        rcases HCS.out with ⟨t', h1, rfl, rfl, rfl, rfl, h2⟩ | ⟨h1, rfl⟩
        · refine Or.inl ⟨t', aa, cc, h1, rfl, (h2.kept fun q hq => ?_).mono fun b h _ => by omega⟩
          rw [Below.heap_setCell _ _ _ _ (by simp; omega), Below.heap_setCell _ _ _ _ (by simp; omega), Below.heap_setCell _ _ _ _ (by simp; omega)]
        · exact Or.inr ⟨h1, _, _, _, _, _, rfl⟩
    | false =>
      have HDK : Hid (∀ l', devK kd ix l l' = ⟨kd, ix, l'⟩) := fun l' => by unfold devK; rw [hrd]; simp
      by_cases h3 : kd = 3
      · subst h3
        have hl0 : 0 < l.length := by rw [hkn.2.1]; decide
        obtain ⟨B0, o0', q1, q2, hae0, d0, d1, d2, hm⟩ := (hs.mono (Y := fun b => X b ∧ b < w.heap.size) fun b h1 h2 => ⟨h1, h2⟩).get (Below.refl w.heap.size w) (fun b h _ => h.2) 0 hl0
        have hB0w : B0 < w.heap.size := cell_ltM d0
        subst hae0
        have hl0i : (0 : Int) < (l.length : Int) := by omega
        have e3 : (l[0].kind == 2) = false := by
          cases l with
          | nil => simp at hl0
          | cons y r => simpa [rdxT] using hrd
        simp only [Nat.zero_mul, Nat.add_zero] at d0
        clear hrd ih he hkn d1 d2 hm hs
        go_enter Tryz.func22, Tryz.ntmps22
        go_upto_region 4 with fail
        clear d0
        have T3 := hide (T2.out.alloc (.cells #[.int .i64 3, .int .i64 ix, .slice none 0 0] 26))
        have R3 := hide (R2.out.alloc (.cells #[.int .i64 3, .int .i64 ix, .slice none 0 0] 26))
        have O3 := hide (Blk.new ((w.alloc (.cells #[.int .i64 3, .int .i64 ix, .slice (some ⟨B0, o0', none⟩) l.length c] 26)).alloc (.cells #[.int .i64 0, .int .i64 0, .slice none 0 0] 26)) #[.int .i64 3, .int .i64 ix, .slice none 0 0] 26)
        have B3 := hide (B2.out.alloc B2.out.size (.cells #[.int .i64 3, .int .i64 ix, .slice none 0 0] 26))
        have eO : ((w.alloc (.cells #[.int .i64 3, .int .i64 ix, .slice (some ⟨B0, o0', none⟩) l.length c] 26)).alloc (.cells #[.int .i64 0, .int .i64 0, .slice none 0 0] 26)).heap.size = w.heap.size + 2 := by simp
        rw [eO] at O3
        clear eO B2 T2 R2
        generalize ((w.alloc (.cells #[.int .i64 3, .int .i64 ix, .slice (some ⟨B0, o0', none⟩) l.length c] 26)).alloc (.cells #[.int .i64 0, .int .i64 0, .slice none 0 0] 26)).alloc (.cells #[.int .i64 3, .int .i64 ix, .slice none 0 0] 26) = w3 at *
        obtain ⟨O, eO⟩ : ∃ O, O = w.heap.size + 2 := ⟨_, rfl⟩
        rw [← eO] at O3
        simp only [← eO, show w.heap.size + 1 + 1 = O from eO.symm]
        have hO : w.heap.size + 2 ≤ O := by omega
        clear eO
        have q0 : w3.cell? ⟨w.heap.size, 0, none⟩ = some (.int .i64 3) := T3.out.cell 0
        have q1 : w3.cell? ⟨w.heap.size, 1, none⟩ = some (.int .i64 ix) := T3.out.cell 1
        have q2 : w3.cell? ⟨w.heap.size, 2, none⟩ = some (.slice (some ⟨B0, o0', none⟩) l.length c) := T3.out.cell 2
        go_wp2_with fail
        clear q0 q1 q2
        go_loopw [39] (fun i wr => ∃ (k : Nat) (u : Value) (out : List Lm), k ≤ l.length ∧ i = .int .i64 (k : Int) ∧ devL (devT n) (l.take k) = some out ∧ out.length = k ∧ LmSet w (fun _ => False) O 3 ix (some ⟨B0, o0', none⟩) l.length c u out wr) (fun i wr => l.length - (intOf i).toNat)
        case atStart => exact ⟨0, .slice none 0 0, [], Nat.zero_le _, rfl, by simp [devL], rfl, [], by have h := RowM.start w3 (O + 1) 26 (fun _ => False); simpa using h, B3.out, T3.out, R3.out, O3.out, O3.out.lt⟩
        case round =>
          obtain ⟨k, u9, out, hk, rfl, hdv, hol', hset⟩ := hrel
          have hol := hide hol'
          clear hol'
          have SET := hide hset
          have HDV := hide hdv
          obtain ⟨xs, hrow, hbb, hT, hR, hOb, hOl⟩ := hset
          have XE := hide hbb
          have XR := hide hR
          have XO := hide hOb
          have XW := hide hrow
          have XT := hide hT
          clear hrow hbb hR hOb hT hdv
          by_cases hlt : k < l.length
          · obtain ⟨b, o, a', c', hae, d0, d0', d1, hx⟩ := (HS.out.mono (Y := fun b => X b ∧ b < w.heap.size) fun b h1 h2 => ⟨h1, h2⟩).get XE.out (fun b h _ => h.2) k hlt
            have hbw : b < w.heap.size := by
              obtain ⟨_, h1⟩ := HS.out.mono (Y := fun b => X b ∧ b < w.heap.size) fun b h1 h2 => ⟨h1, h2⟩
              rcases h1 with h1 | ⟨b', o', e', h1⟩
              · rw [h1] at hlt; simp at hlt
              · rw [hae] at e'; cases e'; exact (liesM_get _ _ _ h1 k hlt).1.2
            obtain ⟨rfl, rfl⟩ : B0 = b ∧ o0' = o := by simpa using hae
            have hlt2 : (k : Int) < (l.length : Int) := by omega
            have HLN : Hid (out.length ≤ 1000000) := by have := hol.out; unfold Hid; omega
            have HS8 : Hid (LmS w.heap.size B0 (o0' + k * 3) 3 ix (some ⟨B0, o0', none⟩) l.length c l[k].kind l[k].idx (.slice a' l[k].subs.length c') wr) := ⟨XT.out, d0, d0', d1⟩
            have BQ : Below wr.heap.size wr (wr.alloc (.cells #[.int .i64 l[k].kind, .int .i64 l[k].idx, .slice a' l[k].subs.length c'] 26)) := (Below.refl _ _).alloc (Nat.le_refl _) _
            have HBQ := hide BQ
            have HX := hide (hx.later BQ)
            have hIH := hide (HIH.out l[k] (List.getElem_mem hlt))
            clear hx BQ
            go_wp2_with fail
            refine (hIH.out _ _ _ HX.out).mono ?_
            rintro e w5 ⟨hb5, hcase⟩
            have HB5 := hide (HBQ.out.trans (hb5.mono (by simp)))
            have hz5 : wr.heap.size ≤ w5.heap.size := HB5.out.size
            clear hb5 d0 d0' d1
            rcases hcase with ⟨t5, a5, c5, hd5, rfl, hs5⟩ | ⟨hd5, k5, x5, a5, l5, c5, rfl⟩
            · have HDN := hide (devL_step hlt HDV.out hd5)
              have HB7 := hide (HB5.out.alloc hz5 (.cells #[.int .i64 t5.kind, .int .i64 t5.idx, .slice a5 t5.subs.length c5] 26))
              have HS7 : Hid (SlM (w5.alloc (.cells #[.int .i64 t5.kind, .int .i64 t5.idx, .slice a5 t5.subs.length c5] 26)) (fun b => False ∨ wr.heap.size ≤ b) a5 t5.subs) := (hs5.mono fun b h _ => Or.inr (by simp at h; omega)).later ((Below.refl _ _).alloc (Nat.le_refl _) _)
              obtain ⟨g, cap, w9, hrun, S1, S2, S3, o3, of, S4, hset⟩ := lm_round (c1 := c5) (t := t5) hO (fun b h => h.elim) hbw SET.out HS8.out HLN.out HB7.out HS7.out
              have XO7 := hide (XO.out.below HB7.out XO.out.lt)
              have XX7 : Hid (Blk (w5.alloc (.cells #[.int .i64 t5.kind, .int .i64 t5.idx, .slice a5 t5.subs.length c5] 26)) w5.heap.size #[.int .i64 t5.kind, .int .i64 t5.idx, .slice a5 t5.subs.length c5] 26) := Blk.new _ _ _
              have hz7 : (w5.alloc (.cells #[.int .i64 t5.kind, .int .i64 t5.idx, .slice a5 t5.subs.length c5] 26)).heap.size = w5.heap.size + 1 := by simp
              rw [hz7] at hrun
              have y0 := XX7.out.cell 0
              have y1 := XX7.out.cell 1
              have y2 := XX7.out.cell 2
              have o2 := XO7.out.cell 2
              simp only [List.getElem?_toArray, List.getElem?_cons_succ, List.getElem?_cons_zero] at y0 y1 y2 o2
              have HRUN := hide hrun
              have HSET := hide hset
              clear hrun hset S1 S2 S3 S4 hd5 hs5
              go_wp2_with (at_builtin; refine wpList_append_eq rfl _ _ _ _ rfl rfl rfl HRUN.out ?_)
              go_roundw
              case rel => exact ⟨k + 1, _, out ++ [t5], by omega, by go_num, HDN.out, by have := hol.out; simp; omega, HSET.out⟩
              case measure => simp [intOf]; omega
            · have HN : Hid (devT (n + 1) ⟨3, ix, l⟩ = none) := devT_none (devL_stop hlt HDV.out hd5)
              have R5 := hide (XR.out.below HB5.out XR.out.lt)
              have BW := hide ((XE.out.trans (HB5.out.mono XE.out.size)).alloc (by have := XE.out.size; omega) (.cells #[.int .i64 k5, .int .i64 x5, .slice a5 l5 c5] 26))
              have R6 := hide (R5.out.alloc (.cells #[.int .i64 k5, .int .i64 x5, .slice a5 l5 c5] 26))
              have r0 := R6.out.cell 0
              have r1 := R6.out.cell 1
              have r2 := R6.out.cell 2
              have rf := R6.out.frozen
              simp only [List.getElem?_toArray, List.getElem?_cons_succ, List.getElem?_cons_zero] at r0 r1 r2
              have r0' : w5.cell? ⟨w.heap.size + 1, 0, none⟩ = some (.int .i64 0) := R5.out.cell 0
              have r1' : w5.cell? ⟨w.heap.size + 1, 1, none⟩ = some (.int .i64 0) := R5.out.cell 1
              have r2' : w5.cell? ⟨w.heap.size + 1, 2, none⟩ = some (.slice none 0 0) := R5.out.cell 2
              have rf' := R5.out.frozen
              have hl5 : w.heap.size + 1 < w5.heap.size := R5.out.lt
              clear hd5
              go_wp2_with fail
              refine bodyPost_ret (v := .tuple #[.agg #[.int .i64 0, .int .i64 0, .slice none 0 0], .bool false]) (by simp [results, Tryz.results22, go_sem, World.cell?_setCell_same, World.cell?_setCell_other, r0, r1, r2, r0', r1', r2', hl5, World.cell?_alloc_old]) rfl ?_
              have HBF : ∀ o x0 x1 x2, Below w.heap.size w ((((w5.setCell ⟨w.heap.size + 1, 0, none⟩ x0).setCell ⟨w.heap.size + 1, 1, none⟩ x1).setCell ⟨w.heap.size + 1, 2, none⟩ x2).alloc o) ∧ Below w.heap.size w ((((w5.alloc o).setCell ⟨w.heap.size + 1, 0, none⟩ x0).setCell ⟨w.heap.size + 1, 1, none⟩ x1).setCell ⟨w.heap.size + 1, 2, none⟩ x2) := fun o x0 x1 x2 => ⟨(bl_set3 (XE.out.trans (HB5.out.mono XE.out.size)) _ (by omega) x0 x1 x2).alloc (by have := (bl_set3 (XE.out.trans (HB5.out.mono XE.out.size)) (w.heap.size + 1) (by omega) x0 x1 x2).size; omega) o, bl_set3 ((XE.out.trans (HB5.out.mono XE.out.size)).alloc (by have := XE.out.size; omega) o) _ (by omega) x0 x1 x2⟩
              exact ⟨by first | exact (HBF _ _ _ _).1 | exact (HBF _ _ _ _).2, Or.inr ⟨HN.out, _, _, _, _, _, rfl⟩⟩
          · have htk : l.take k = l := List.take_of_length_le (by omega)
            rw [htk] at HDV
            obtain ⟨ae, ce, rfl, hse⟩ := XW.out.sl
            have HSE : Hid (SlM wr (fun b => w.heap.size ≤ b ∧ b ≠ w.heap.size + 1) ae out) := hse.mono fun b hb _ => by
              rcases hb with h | h
              · exact h.elim
              · omega
            have HRES : Hid (devT (n + 1) ⟨3, ix, l⟩ = if 2000 < sizeM [(⟨3, ix, out⟩ : Lm)] then none else some ⟨3, ix, out⟩) := by unfold Hid; rw [devT_succ HDV.out, HDK.out]
            have HMV : Hid (MV wr (fun b => w.heap.size ≤ b ∧ b ≠ w.heap.size + 1) (.agg #[.int .i64 3, .int .i64 ix, .slice ae out.length ce]) ⟨3, ix, out⟩) := ⟨ae, ce, rfl, HSE.out⟩
            have HS0 : Hid (Blk wr O #[.int .i64 3, .int .i64 ix, .slice ae out.length ce] 26) := XO.out
            have KP : Hid (∀ w', Below wr.heap.size wr w' → Blk w' O #[.int .i64 3, .int .i64 ix, .slice ae out.length ce] 26) := fun w' hb => XO.out.below hb XO.out.lt
            have HD : Hid (Below wr.heap.size wr wr.drew) := (Below.refl _ _).drew
            have HR4 : Hid (∀ w', Below wr.heap.size wr w' → Blk w' (w.heap.size + 1) #[.int .i64 0, .int .i64 0, .slice none 0 0] 26) := fun w' hb => XR.out.below hb XR.out.lt
            have CNT : Hid (∀ w', Below wr.heap.size wr w' → Calls Tryz.prog 20 #[.agg #[.int .i64 3, .int .i64 ix, .slice ae out.length ce], .int .i64 2000] w' fun e w'' => e = .returned (.int .i64 (min (sizeM [(⟨3, ix, out⟩ : Lm)] : Int) 2001)) ∧ Below wr.heap.size wr w'') := fun w' hb => by
              refine (countM_any 2000 (by omega) (by omega) ⟨3, ix, out⟩ _ w' _ (HMV.out.later hb)).mono ?_
              rintro e w'' ⟨rfl, h⟩
              exact ⟨rfl, hb.trans (h.mono hb.size)⟩
            have hge : ¬ ((k : Int) < (l.length : Int)) := by omega
            have nO : O ≠ w.heap.size + 1 := by omega
            clear hse htk HMV
            go_upto_region 12 with fail
            have o0 : wr.cell? ⟨O, 0, none⟩ = some (.int .i64 3) := HS0.out.cell 0
            have o1 : wr.cell? ⟨O, 1, none⟩ = some (.int .i64 ix) := HS0.out.cell 1
            have o2 : wr.cell? ⟨O, 2, none⟩ = some (.slice ae out.length ce) := HS0.out.cell 2
            have HO0 := hide (And.intro o0 (And.intro o1 o2))
            have KPC : Hid (∀ w', Below wr.heap.size wr w' → w'.cell? ⟨O, 0, none⟩ = some (.int .i64 3) ∧ w'.cell? ⟨O, 1, none⟩ = some (.int .i64 ix) ∧ w'.cell? ⟨O, 2, none⟩ = some (.slice ae out.length ce)) := fun w' hb => ⟨(KP.out w' hb).cell 0, (KP.out w' hb).cell 1, (KP.out w' hb).cell 2⟩
            clear o0 o1 o2
            go_region_held3 (fun w' => w'.cell? ⟨O, 0, none⟩ = some (.int .i64 3) ∧ w'.cell? ⟨O, 1, none⟩ = some (.int .i64 ix) ∧ w'.cell? ⟨O, 2, none⟩ = some (.slice ae out.length ce)) (first | exact hS | exact HO0.out | exact ⟨set3_keep hS.1 nO, set3_keep hS.2.1 nO, set3_keep hS.2.2 nO⟩ | go_keep)
              (first | (go_at_call 20; refine (CNT.out _ (by first | exact Below.refl _ _ | exact HD.out)).mono ?_; rintro e w5 ⟨rfl, hb5⟩; have hS := KPC.out _ hb5; have RB := HR4.out _ hb5; have r0 : w5.cell? ⟨w.heap.size + 1, 0, none⟩ = some (.int .i64 0) := RB.cell 0; have r1 : w5.cell? ⟨w.heap.size + 1, 1, none⟩ = some (.int .i64 0) := RB.cell 1; have r2 : w5.cell? ⟨w.heap.size + 1, 2, none⟩ = some (.slice none 0 0) := RB.cell 2; have rf := RB.frozen))
            all_goals
              have HB6 := hide (XE.out.trans (hb5.mono XE.out.size))
              have HS6 := hide (HSE.out.later hb5)
              clear hS
            all_goals go_wp2_with fail
            all_goals refine bodyPost_ret (v := .tuple #[.agg #[.int .i64 3, .int .i64 ix, .slice ae out.length ce], .bool (decide (min (sizeM [(⟨3, ix, out⟩ : Lm)] : Int) 2001 ≤ 2000))]) (by simp [results, Tryz.results22, go_sem, World.cell?_setCell_same, World.cell?_setCell_other, r0, r1, r2]) rfl ?_
            all_goals exact dv_end (t' := ⟨3, ix, out⟩) (by omega) HB6.out HS6.out HRES.out _ _ _
      · have e3 : (kd == 3) = false := beq_eq_false_iff_ne.2 h3
        clear hrd ih he hkn hs
        go_enter Tryz.func22, Tryz.ntmps22
        go_upto_region 4 with fail
        have T3 := hide (T2.out.alloc (.cells #[.int .i64 kd, .int .i64 ix, .slice none 0 0] 26))
        have R3 := hide (R2.out.alloc (.cells #[.int .i64 kd, .int .i64 ix, .slice none 0 0] 26))
        have O3 := hide (Blk.new ((w.alloc (.cells #[.int .i64 kd, .int .i64 ix, .slice a l.length c] 26)).alloc (.cells #[.int .i64 0, .int .i64 0, .slice none 0 0] 26)) #[.int .i64 kd, .int .i64 ix, .slice none 0 0] 26)
        have B3 := hide (B2.out.alloc B2.out.size (.cells #[.int .i64 kd, .int .i64 ix, .slice none 0 0] 26))
        have eO : ((w.alloc (.cells #[.int .i64 kd, .int .i64 ix, .slice a l.length c] 26)).alloc (.cells #[.int .i64 0, .int .i64 0, .slice none 0 0] 26)).heap.size = w.heap.size + 2 := by simp
        rw [eO] at O3
        clear eO B2 T2 R2
        generalize ((w.alloc (.cells #[.int .i64 kd, .int .i64 ix, .slice a l.length c] 26)).alloc (.cells #[.int .i64 0, .int .i64 0, .slice none 0 0] 26)).alloc (.cells #[.int .i64 kd, .int .i64 ix, .slice none 0 0] 26) = w3 at *
        obtain ⟨O, eO⟩ : ∃ O, O = w.heap.size + 2 := ⟨_, rfl⟩
        rw [← eO] at O3
        simp only [← eO, show w.heap.size + 1 + 1 = O from eO.symm]
        have hO : w.heap.size + 2 ≤ O := by omega
        clear eO
        have q0 : w3.cell? ⟨w.heap.size, 0, none⟩ = some (.int .i64 kd) := T3.out.cell 0
        have q1 : w3.cell? ⟨w.heap.size, 1, none⟩ = some (.int .i64 ix) := T3.out.cell 1
        have q2 : w3.cell? ⟨w.heap.size, 2, none⟩ = some (.slice a l.length c) := T3.out.cell 2
        go_wp2_with fail
        clear q0 q1 q2
        go_loopw [39] (fun i wr => ∃ (k : Nat) (u : Value) (out : List Lm), k ≤ l.length ∧ i = .int .i64 (k : Int) ∧ devL (devT n) (l.take k) = some out ∧ out.length = k ∧ LmSet w (fun _ => False) O kd ix a l.length c u out wr) (fun i wr => l.length - (intOf i).toNat)
        case atStart => exact ⟨0, .slice none 0 0, [], Nat.zero_le _, rfl, by simp [devL], rfl, [], by have h := RowM.start w3 (O + 1) 26 (fun _ => False); simpa using h, B3.out, T3.out, R3.out, O3.out, O3.out.lt⟩
        case round =>
          obtain ⟨k, u9, out, hk, rfl, hdv, hol', hset⟩ := hrel
          have hol := hide hol'
          clear hol'
          have SET := hide hset
          have HDV := hide hdv
          obtain ⟨xs, hrow, hbb, hT, hR, hOb, hOl⟩ := hset
          have XE := hide hbb
          have XR := hide hR
          have XO := hide hOb
          have XW := hide hrow
          have XT := hide hT
          clear hrow hbb hR hOb hT hdv
          by_cases hlt : k < l.length
          · obtain ⟨b, o, a', c', hae, d0, d0', d1, hx⟩ := (HS.out.mono (Y := fun b => X b ∧ b < w.heap.size) fun b h1 h2 => ⟨h1, h2⟩).get XE.out (fun b h _ => h.2) k hlt
            have hbw : b < w.heap.size := by
              obtain ⟨_, h1⟩ := HS.out.mono (Y := fun b => X b ∧ b < w.heap.size) fun b h1 h2 => ⟨h1, h2⟩
              rcases h1 with h1 | ⟨b', o', e', h1⟩
              · rw [h1] at hlt; simp at hlt
              · rw [hae] at e'; cases e'; exact (liesM_get _ _ _ h1 k hlt).1.2
            subst hae
            have hlt2 : (k : Int) < (l.length : Int) := by omega
            have HLN : Hid (out.length ≤ 1000000) := by have := hol.out; unfold Hid; omega
            have HS8 : Hid (LmS w.heap.size b (o + k * 3) kd ix (some ⟨b, o, none⟩) l.length c l[k].kind l[k].idx (.slice a' l[k].subs.length c') wr) := ⟨XT.out, d0, d0', d1⟩
            have BQ : Below wr.heap.size wr (wr.alloc (.cells #[.int .i64 l[k].kind, .int .i64 l[k].idx, .slice a' l[k].subs.length c'] 26)) := (Below.refl _ _).alloc (Nat.le_refl _) _
            have HBQ := hide BQ
            have HX := hide (hx.later BQ)
            have hIH := hide (HIH.out l[k] (List.getElem_mem hlt))
            clear hx BQ
            go_wp2_with fail
            refine (hIH.out _ _ _ HX.out).mono ?_
            rintro e w5 ⟨hb5, hcase⟩
            have HB5 := hide (HBQ.out.trans (hb5.mono (by simp)))
            have hz5 : wr.heap.size ≤ w5.heap.size := HB5.out.size
            clear hb5 d0 d0' d1
            rcases hcase with ⟨t5, a5, c5, hd5, rfl, hs5⟩ | ⟨hd5, k5, x5, a5, l5, c5, rfl⟩
            · have HDN := hide (devL_step hlt HDV.out hd5)
              have HB7 := hide (HB5.out.alloc hz5 (.cells #[.int .i64 t5.kind, .int .i64 t5.idx, .slice a5 t5.subs.length c5] 26))
              have HS7 : Hid (SlM (w5.alloc (.cells #[.int .i64 t5.kind, .int .i64 t5.idx, .slice a5 t5.subs.length c5] 26)) (fun b => False ∨ wr.heap.size ≤ b) a5 t5.subs) := (hs5.mono fun b h _ => Or.inr (by simp at h; omega)).later ((Below.refl _ _).alloc (Nat.le_refl _) _)
              obtain ⟨g, cap, w9, hrun, S1, S2, S3, o3, of, S4, hset⟩ := lm_round (c1 := c5) (t := t5) hO (fun b h => h.elim) hbw SET.out HS8.out HLN.out HB7.out HS7.out
              have XO7 := hide (XO.out.below HB7.out XO.out.lt)
              have XX7 : Hid (Blk (w5.alloc (.cells #[.int .i64 t5.kind, .int .i64 t5.idx, .slice a5 t5.subs.length c5] 26)) w5.heap.size #[.int .i64 t5.kind, .int .i64 t5.idx, .slice a5 t5.subs.length c5] 26) := Blk.new _ _ _
              have hz7 : (w5.alloc (.cells #[.int .i64 t5.kind, .int .i64 t5.idx, .slice a5 t5.subs.length c5] 26)).heap.size = w5.heap.size + 1 := by simp
              rw [hz7] at hrun
              have y0 := XX7.out.cell 0
              have y1 := XX7.out.cell 1
              have y2 := XX7.out.cell 2
              have o2 := XO7.out.cell 2
              simp only [List.getElem?_toArray, List.getElem?_cons_succ, List.getElem?_cons_zero] at y0 y1 y2 o2
              have HRUN := hide hrun
              have HSET := hide hset
              clear hrun hset S1 S2 S3 S4 hd5 hs5
              go_wp2_with (at_builtin; refine wpList_append_eq rfl _ _ _ _ rfl rfl rfl HRUN.out ?_)
              go_roundw
              case rel => exact ⟨k + 1, _, out ++ [t5], by omega, by go_num, HDN.out, by have := hol.out; simp; omega, HSET.out⟩
              case measure => simp [intOf]; omega
            · have HN : Hid (devT (n + 1) ⟨kd, ix, l⟩ = none) := devT_none (devL_stop hlt HDV.out hd5)
              have R5 := hide (XR.out.below HB5.out XR.out.lt)
              have BW := hide ((XE.out.trans (HB5.out.mono XE.out.size)).alloc (by have := XE.out.size; omega) (.cells #[.int .i64 k5, .int .i64 x5, .slice a5 l5 c5] 26))
              have R6 := hide (R5.out.alloc (.cells #[.int .i64 k5, .int .i64 x5, .slice a5 l5 c5] 26))
              have r0 := R6.out.cell 0
              have r1 := R6.out.cell 1
              have r2 := R6.out.cell 2
              have rf := R6.out.frozen
              simp only [List.getElem?_toArray, List.getElem?_cons_succ, List.getElem?_cons_zero] at r0 r1 r2
              have r0' : w5.cell? ⟨w.heap.size + 1, 0, none⟩ = some (.int .i64 0) := R5.out.cell 0
              have r1' : w5.cell? ⟨w.heap.size + 1, 1, none⟩ = some (.int .i64 0) := R5.out.cell 1
              have r2' : w5.cell? ⟨w.heap.size + 1, 2, none⟩ = some (.slice none 0 0) := R5.out.cell 2
              have rf' := R5.out.frozen
              have hl5 : w.heap.size + 1 < w5.heap.size := R5.out.lt
              clear hd5
              go_wp2_with fail
              refine bodyPost_ret (v := .tuple #[.agg #[.int .i64 0, .int .i64 0, .slice none 0 0], .bool false]) (by simp [results, Tryz.results22, go_sem, World.cell?_setCell_same, World.cell?_setCell_other, r0, r1, r2, r0', r1', r2', hl5, World.cell?_alloc_old]) rfl ?_
              have HBF : ∀ o x0 x1 x2, Below w.heap.size w ((((w5.setCell ⟨w.heap.size + 1, 0, none⟩ x0).setCell ⟨w.heap.size + 1, 1, none⟩ x1).setCell ⟨w.heap.size + 1, 2, none⟩ x2).alloc o) ∧ Below w.heap.size w ((((w5.alloc o).setCell ⟨w.heap.size + 1, 0, none⟩ x0).setCell ⟨w.heap.size + 1, 1, none⟩ x1).setCell ⟨w.heap.size + 1, 2, none⟩ x2) := fun o x0 x1 x2 => ⟨(bl_set3 (XE.out.trans (HB5.out.mono XE.out.size)) _ (by omega) x0 x1 x2).alloc (by have := (bl_set3 (XE.out.trans (HB5.out.mono XE.out.size)) (w.heap.size + 1) (by omega) x0 x1 x2).size; omega) o, bl_set3 ((XE.out.trans (HB5.out.mono XE.out.size)).alloc (by have := XE.out.size; omega) o) _ (by omega) x0 x1 x2⟩
              exact ⟨by first | exact (HBF _ _ _ _).1 | exact (HBF _ _ _ _).2, Or.inr ⟨HN.out, _, _, _, _, _, rfl⟩⟩
          · have htk : l.take k = l := List.take_of_length_le (by omega)
            rw [htk] at HDV
            obtain ⟨ae, ce, rfl, hse⟩ := XW.out.sl
            have HSE : Hid (SlM wr (fun b => w.heap.size ≤ b ∧ b ≠ w.heap.size + 1) ae out) := hse.mono fun b hb _ => by
              rcases hb with h | h
              · exact h.elim
              · omega
            have HRES : Hid (devT (n + 1) ⟨kd, ix, l⟩ = if 2000 < sizeM [(⟨kd, ix, out⟩ : Lm)] then none else some ⟨kd, ix, out⟩) := by unfold Hid; rw [devT_succ HDV.out, HDK.out]
            have HMV : Hid (MV wr (fun b => w.heap.size ≤ b ∧ b ≠ w.heap.size + 1) (.agg #[.int .i64 kd, .int .i64 ix, .slice ae out.length ce]) ⟨kd, ix, out⟩) := ⟨ae, ce, rfl, HSE.out⟩
            have HS0 : Hid (Blk wr O #[.int .i64 kd, .int .i64 ix, .slice ae out.length ce] 26) := XO.out
            have KP : Hid (∀ w', Below wr.heap.size wr w' → Blk w' O #[.int .i64 kd, .int .i64 ix, .slice ae out.length ce] 26) := fun w' hb => XO.out.below hb XO.out.lt
            have HD : Hid (Below wr.heap.size wr wr.drew) := (Below.refl _ _).drew
            have HR4 : Hid (∀ w', Below wr.heap.size wr w' → Blk w' (w.heap.size + 1) #[.int .i64 0, .int .i64 0, .slice none 0 0] 26) := fun w' hb => XR.out.below hb XR.out.lt
            have CNT : Hid (∀ w', Below wr.heap.size wr w' → Calls Tryz.prog 20 #[.agg #[.int .i64 kd, .int .i64 ix, .slice ae out.length ce], .int .i64 2000] w' fun e w'' => e = .returned (.int .i64 (min (sizeM [(⟨kd, ix, out⟩ : Lm)] : Int) 2001)) ∧ Below wr.heap.size wr w'') := fun w' hb => by
              refine (countM_any 2000 (by omega) (by omega) ⟨kd, ix, out⟩ _ w' _ (HMV.out.later hb)).mono ?_
              rintro e w'' ⟨rfl, h⟩
              exact ⟨rfl, hb.trans (h.mono hb.size)⟩
            have hge : ¬ ((k : Int) < (l.length : Int)) := by omega
            have nO : O ≠ w.heap.size + 1 := by omega
            clear hse htk HMV
            go_upto_region 12 with fail
            have o0 : wr.cell? ⟨O, 0, none⟩ = some (.int .i64 kd) := HS0.out.cell 0
            have o1 : wr.cell? ⟨O, 1, none⟩ = some (.int .i64 ix) := HS0.out.cell 1
            have o2 : wr.cell? ⟨O, 2, none⟩ = some (.slice ae out.length ce) := HS0.out.cell 2
            have HO0 := hide (And.intro o0 (And.intro o1 o2))
            have KPC : Hid (∀ w', Below wr.heap.size wr w' → w'.cell? ⟨O, 0, none⟩ = some (.int .i64 kd) ∧ w'.cell? ⟨O, 1, none⟩ = some (.int .i64 ix) ∧ w'.cell? ⟨O, 2, none⟩ = some (.slice ae out.length ce)) := fun w' hb => ⟨(KP.out w' hb).cell 0, (KP.out w' hb).cell 1, (KP.out w' hb).cell 2⟩
            clear o0 o1 o2
            go_region_held3 (fun w' => w'.cell? ⟨O, 0, none⟩ = some (.int .i64 kd) ∧ w'.cell? ⟨O, 1, none⟩ = some (.int .i64 ix) ∧ w'.cell? ⟨O, 2, none⟩ = some (.slice ae out.length ce)) (first | exact hS | exact HO0.out | exact ⟨set3_keep hS.1 nO, set3_keep hS.2.1 nO, set3_keep hS.2.2 nO⟩ | go_keep)
              (first | (go_at_call 20; refine (CNT.out _ (by first | exact Below.refl _ _ | exact HD.out)).mono ?_; rintro e w5 ⟨rfl, hb5⟩; have hS := KPC.out _ hb5; have RB := HR4.out _ hb5; have r0 : w5.cell? ⟨w.heap.size + 1, 0, none⟩ = some (.int .i64 0) := RB.cell 0; have r1 : w5.cell? ⟨w.heap.size + 1, 1, none⟩ = some (.int .i64 0) := RB.cell 1; have r2 : w5.cell? ⟨w.heap.size + 1, 2, none⟩ = some (.slice none 0 0) := RB.cell 2; have rf := RB.frozen))
            all_goals
              have HB6 := hide (XE.out.trans (hb5.mono XE.out.size))
              have HS6 := hide (HSE.out.later hb5)
              clear hS
            all_goals go_wp2_with fail
            all_goals refine bodyPost_ret (v := .tuple #[.agg #[.int .i64 kd, .int .i64 ix, .slice ae out.length ce], .bool (decide (min (sizeM [(⟨kd, ix, out⟩ : Lm)] : Int) 2001 ≤ 2000))]) (by simp [results, Tryz.results22, go_sem, World.cell?_setCell_same, World.cell?_setCell_other, r0, r1, r2]) rfl ?_
            all_goals exact dv_end (t' := ⟨kd, ix, out⟩) (by omega) HB6.out HS6.out HRES.out _ _ _
end Go.Proofs.YtagidfoiemgfcaaGreatDoor
