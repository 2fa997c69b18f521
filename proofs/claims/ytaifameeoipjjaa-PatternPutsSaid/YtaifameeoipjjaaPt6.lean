/- Walks: the law PatternPuts. -/
import Derived.Test.YtaifameeoipjjaaPt5
import Derived.Test.YtaifameeoipjjaaLn10
import Derived.Test.YtaifameeoipjjaaL24
import Derived.Test.YtaifameeoipjjaaL11
namespace Go.Proofs.Ytaifameeoipjjaa
open Go.RowKit
set_option linter.unusedSimpArgs false
set_option linter.unusedVariables false
set_option maxRecDepth 8000

theorem wE_next {W : List Lm} (k : Nat) (h : k < W.length) : wE (W.take (k + 1)) = if wE (W.take k) = 0 then lamE 0 12 W[k] else wE (W.take k) := by
  induction W generalizing k with
  | nil => simp at h
  | cons t r ih =>
    cases k with
    | zero => by_cases h0 : lamE 0 12 t = 0 <;> simp [wE, h0]
    | succ k =>
      simp only [List.take_succ_cons, wE, List.getElem_cons_succ]
      by_cases h0 : lamE 0 12 t = 0
      · rw [if_pos h0, if_pos h0]; exact ih k (by simpa using h)
      · rw [if_neg h0, if_neg h0, if_neg h0]
def LpI (W : List Lm) (w : World) (T : Nat) (t : Lm) (a : Option Addr) (c : Nat) (e i : Value) (wr : World) : Prop :=
  ∃ k : Nat, k ≤ W.length ∧ i = .int .i64 (k : Int) ∧ e = .int .i64 (if 4 < W.length then 3 else wE (W.take k)) ∧ Below w.heap.size w wr ∧ Blk wr T #[.int .i64 t.kind, .int .i64 t.idx, .slice a t.subs.length c] 24
theorem lam2_errP (f : Int) (k2 x2 : Int) (a2 : Option Addr) (n2 c2 : Nat) (w : World) (hf : f ≠ 0) :
    Calls Try.prog 11 #[.agg #[.int .i64 0, .int .i64 0, .slice none 0 0], .int .i64 f, .agg #[.int .i64 k2, .int .i64 x2, .slice a2 n2 c2], .int .i64 f] w fun e w' => e = .returned (.bool true) ∧ Below w.heap.size w w' := lam2_err f _ k2 x2 a2 n2 c2 rfl w hf

set_option maxHeartbeats 8000000 in
theorem patternPuts_any (t : Lm) (W : List Lm) (z : Int) (v : Value) (wa : Option Addr) (wc : Nat) (w : World) (X : Nat → Prop) (hv : MV w X v t) (hw : SlM w X wa W) :
    Calls Try.prog 3 #[v, .slice wa W.length wc, .int .i64 z] w fun e w' => e = .returned (.bool true) ∧ Below w.heap.size w w' := by
  obtain ⟨a, c, rfl, hs⟩ := hv
  obtain ⟨XR, hXR⟩ : ∃ XR : Nat → Prop, XR = fun b => X b ∧ b < w.heap.size := ⟨_, rfl⟩
  have V0 : Hid (∀ w', Below w.heap.size w w' → MV w' XR (.agg #[.int .i64 t.kind, .int .i64 t.idx, .slice a t.subs.length c]) t) := fun w' hb => by rw [hXR]; exact ⟨a, c, rfl, (hs.mono (Y := fun b => X b ∧ b < w.heap.size) fun b h1 h2 => ⟨h1, h2⟩).below hb (fun b h _ => h.2)⟩
  have W0 : Hid (∀ w', Below w.heap.size w w' → SlM w' XR wa W) := fun w' hb => by rw [hXR]; exact (hw.mono (Y := fun b => X b ∧ b < w.heap.size) fun b h1 h2 => ⟨h1, h2⟩).below hb (fun b h _ => h.2)
  have HXR : Hid (∀ b, XR b → b < w.heap.size) := fun b h => by rw [hXR] at h; exact h.2
  have hwl := hw.1
  clear hs hw hXR
  have T1 := hide (Blk.new w #[.int .i64 t.kind, .int .i64 t.idx, .slice a t.subs.length c] 24)
  have HB1 : Hid (Below w.heap.size w (w.alloc (.cells #[.int .i64 t.kind, .int .i64 t.idx, .slice a t.subs.length c] 24))) := (Below.refl _ _).alloc (Nat.le_refl _) _
  have HG := hide (hugeLam_any t _ _ _ (V0.out _ HB1.out))
  have c0 := T1.out.cell 0
  have c1 := T1.out.cell 1
  have c2 := T1.out.cell 2
  go_enter Try.func3, Try.ntmps3
  go_wp2_with fail
  generalize (w.alloc (.cells #[.int .i64 t.kind, .int .i64 t.idx, .slice a t.subs.length c] 24)) = w1 at *
  obtain ⟨T, eT⟩ : ∃ T, T = w.heap.size := ⟨_, rfl⟩
  have T1' : Hid (Blk w1 T #[.int .i64 t.kind, .int .i64 t.idx, .slice a t.subs.length c] 24) := by rw [eT]; exact T1.out
  rw [← eT]
  have HTw : Hid (w.heap.size ≤ T) := by unfold Hid; omega
  clear T1 eT c0 c1 c2
  refine HG.out.mono ?_
  rintro e w2 ⟨rfl, hb2⟩
  have HB2 := hide (HB1.out.trans (hb2.mono HB1.out.size))
  have T2 := hide (T1'.out.below hb2 T1'.out.lt)
  clear hb2 HG
  by_cases hh : 3000 < sizeM [t]
  · have hd : decide (3000 < sizeM [t]) = true := by simpa using hh
    rw [hd]
    go_wp2_with fail
    go_ret
    exact ⟨rfl, HB2.out⟩
  have hd : decide (3000 < sizeM [t]) = false := by simpa using hh
  rw [hd]
  clear hd hh
  by_cases h20 : 20 < W.length
  · have h20i : (20 : Int) < (W.length : Int) := by omega
    go_wp2_with fail
    go_ret
    exact ⟨rfl, HB2.out⟩
  have h20i : ¬ (20 : Int) < (W.length : Int) := by omega
  by_cases hz3 : 30 < z ∧ z ≤ 400
  · obtain ⟨z1, z2⟩ := hz3
    go_wp2_with fail
    go_ret
    exact ⟨rfl, HB2.out⟩
  have HZ3 : Hid (¬ (30 < z ∧ z ≤ 400)) := hz3
  clear hz3
  by_cases h30 : 30 < z
  · have hz400 : ¬ z ≤ 400 := fun h => HZ3.out ⟨h30, h⟩
    by_cases h4 : 4 < W.length
    · have h4i : (4 : Int) < (W.length : Int) := by omega
      go_wp2_with fail
      have H4h := hide h4
      clear h4 h4i
      go_loopw [7, 8] (fun e i wr => LpI W w T t a c e i wr) (fun e i wr => W.length - (intOf i).toNat)
      case atStart => exact ⟨0, Nat.zero_le _, rfl, by simp [wE, H4h.out], HB2.out, T2.out⟩
      case round =>
        obtain ⟨k, hk, rfl, rfl, hb, hT⟩ := hrel
        have HBK := hide hb
        have HTK := hide hT
        clear hT
        by_cases hlt : k < W.length
        · obtain ⟨b, o, a', c', ea, d0, d0', d1, hx⟩ := ((W0.out _ (Below.refl _ _)).mono (Y := XR) fun b h _ => h).get hb (fun b h _ => HXR.out b h) k hlt
          subst ea
          have HX := hide hx
          have HNX := hide (wE_next k hlt)
          have hlti : (k : Int) < (W.length : Int) := by omega
          have KC : Hid (∀ w', Below wr.heap.size wr w' → w'.cell? ⟨b, o + k * 3, none⟩ = some (.int .i64 W[k].kind) ∧ w'.cell? ⟨b, o + k * 3 + 1, none⟩ = some (.int .i64 W[k].idx) ∧ w'.cell? ⟨b, o + k * 3 + 2, none⟩ = some (.slice a' W[k].subs.length c')) := fun w' hb => ⟨(hb.cell (p := ⟨b, o + k * 3, none⟩) (cell_ltM d0)).trans d0, (hb.cell (p := ⟨b, o + k * 3 + 1, none⟩) (cell_ltM d0')).trans d0', (hb.cell (p := ⟨b, o + k * 3 + 2, none⟩) (cell_ltM d1)).trans d1⟩
          clear hb hx
          generalize he0 : (if 4 < W.length then (3 : Int) else wE (W.take k)) = e0
          have HE0 := hide he0
          clear he0
          go_wp2_with fail
          refine (hugeLam_any W[k] _ _ _ HX.out).mono ?_
          rintro e w3 ⟨rfl, hb3⟩
          have HB3 := hide (HBK.out.trans (hb3.mono HBK.out.size))
          have T3 := hide (HTK.out.below hb3 HTK.out.lt)
          have HX3 := hide (HX.out.later hb3)
          obtain ⟨f0, f1, f2⟩ := KC.out _ hb3
          clear hb3 d0 d0' d1
          by_cases hh : 3000 < sizeM [W[k]]
          · have hd : decide (3000 < sizeM [W[k]]) = true := by simpa using hh
            rw [hd]
            go_wp2_with fail
            go_ret
            exact ⟨rfl, HB3.out⟩
          · have hd : decide (3000 < sizeM [W[k]]) = false := by simpa using hh
            rw [hd]
            clear hd hh
            by_cases hz0 : e0 = 0
            · subst hz0
              go_wp2_with fail
              refine (lamMay_any W[k] _ 0 12 _ _ HX3.out).mono ?_
              rintro e w4 ⟨rfl, hb4⟩
              have HB4 := hide (HB3.out.trans (hb4.mono HB3.out.size))
              have T4 := hide (T3.out.below hb4 T3.out.lt)
              clear hb4 f0 f1 f2
              have HN : Hid (lamE 0 12 W[k] = if 4 < W.length then 3 else wE (W.take (k + 1))) := by
                have h := HE0.out
                unfold Hid
                split at h
                · cases h
                · rename_i h5; rw [if_neg h5, HNX.out, if_pos h]
              generalize lamE 0 12 W[k] = q at *
              go_wp2_with fail
              go_roundw
              case rel => exact ⟨k + 1, by omega, by go_num, by rw [HN.out], HB4.out, T4.out⟩
              case measure => simp [intOf]; omega
            · have hz1 : (e0 == 0) = false := by simpa using hz0
              have HN : Hid (e0 = if 4 < W.length then 3 else wE (W.take (k + 1))) := by
                have h := HE0.out
                unfold Hid
                split at h
                · rename_i h5; rw [if_pos h5]; exact h.symm
                · rename_i h5; rw [if_neg h5, HNX.out, if_neg (by rw [h]; exact hz0)]; exact h.symm
              go_wp2_with fail
              go_roundw
              case rel => exact ⟨k + 1, by omega, by go_num, by rw [HN.out], HB3.out, T3.out⟩
              case measure => simp [intOf]; omega
        · have htk : W.take k = W := List.take_of_length_le (by omega)
          have hge : ¬ ((k : Int) < (W.length : Int)) := by omega
          rw [htk]
          clear htk hb
          generalize he0 : (if 4 < W.length then (3 : Int) else wE W) = e0
          have HE0 := hide he0
          clear he0
          have hne : e0 ≠ 0 := by rw [← HE0.out, if_pos H4h.out]; decide
          have h1 : (e0 == 0) = false := by simpa using hne
          have HR : Hid (pputR W t z = (e0, ⟨0, 0, []⟩)) := by
            have h : pputE W t z = e0 := by
              have h := HE0.out
              unfold pputE
              split at h
              · rename_i h5; rw [if_pos h5]; exact h
              · rename_i h5; rw [if_neg h5, if_neg (by rw [h]; exact hne)]; exact h
            unfold Hid pputR
            rw [h, if_neg hne]
          have HB3 := hide HBK.out
          have HB4 := hide (HBK.out.alloc HBK.out.size (.cells #[.int .i64 0, .int .i64 0, .slice none 0 0] 24))
          have T4 := hide (HTK.out.alloc (.cells #[.int .i64 0, .int .i64 0, .slice none 0 0] 24))
          have Q4 := hide (Blk.new wr #[.int .i64 0, .int .i64 0, .slice none 0 0] 24)
          have m0 := T4.out.cell 0
          have m1 := T4.out.cell 1
          have m2 := T4.out.cell 2
          go_wp2_with fail
          refine (pPut_any W _ wc t _ z _ XR (V0.out _ HB4.out) (W0.out _ HB4.out)).mono ?_
          rintro e wL ⟨hbL, hcs⟩
          rw [HR.out] at hcs
          have HBL := hide (HB4.out.trans (hbL.mono HB4.out.size))
          have QL := hide (Q4.out.below hbL Q4.out.lt)
          clear hbL m0 m1 m2
          obtain ⟨h0, _⟩ | ⟨_, rfl⟩ := hcs
          · exact absurd h0 hne
          · dsimp only
            have HBM := hide (HBL.out.alloc HBL.out.size (.cells #[.int .i64 0, .int .i64 0, .slice none 0 0] 24))
            have QM := hide (QL.out.alloc (.cells #[.int .i64 0, .int .i64 0, .slice none 0 0] 24))
            have q0 := QM.out.cell 0
            have q1 := QM.out.cell 1
            have q2 := QM.out.cell 2
            go_wp2_with fail
            refine (lam2_errP e0 0 0 none 0 0 _ hne).mono ?_
            rintro e wN ⟨rfl, hbN⟩
            have HBN := hide (HBM.out.trans (hbN.mono HBM.out.size))
            clear hbN
            go_wp2_with fail
            go_ret
            exact ⟨rfl, HBN.out⟩

    · have h4i : ¬ (4 : Int) < (W.length : Int) := by omega
      go_wp2_with fail
      have H4h := hide h4
      clear h4 h4i
      go_loopw [7, 8] (fun e i wr => LpI W w T t a c e i wr) (fun e i wr => W.length - (intOf i).toNat)
      case atStart => exact ⟨0, Nat.zero_le _, rfl, by simp [wE, H4h.out], HB2.out, T2.out⟩
      case round =>
        obtain ⟨k, hk, rfl, rfl, hb, hT⟩ := hrel
        have HBK := hide hb
        have HTK := hide hT
        clear hT
        by_cases hlt : k < W.length
        · obtain ⟨b, o, a', c', ea, d0, d0', d1, hx⟩ := ((W0.out _ (Below.refl _ _)).mono (Y := XR) fun b h _ => h).get hb (fun b h _ => HXR.out b h) k hlt
          subst ea
          have HX := hide hx
          have HNX := hide (wE_next k hlt)
          have hlti : (k : Int) < (W.length : Int) := by omega
          have KC : Hid (∀ w', Below wr.heap.size wr w' → w'.cell? ⟨b, o + k * 3, none⟩ = some (.int .i64 W[k].kind) ∧ w'.cell? ⟨b, o + k * 3 + 1, none⟩ = some (.int .i64 W[k].idx) ∧ w'.cell? ⟨b, o + k * 3 + 2, none⟩ = some (.slice a' W[k].subs.length c')) := fun w' hb => ⟨(hb.cell (p := ⟨b, o + k * 3, none⟩) (cell_ltM d0)).trans d0, (hb.cell (p := ⟨b, o + k * 3 + 1, none⟩) (cell_ltM d0')).trans d0', (hb.cell (p := ⟨b, o + k * 3 + 2, none⟩) (cell_ltM d1)).trans d1⟩
          clear hb hx
          generalize he0 : (if 4 < W.length then (3 : Int) else wE (W.take k)) = e0
          have HE0 := hide he0
          clear he0
          go_wp2_with fail
          refine (hugeLam_any W[k] _ _ _ HX.out).mono ?_
          rintro e w3 ⟨rfl, hb3⟩
          have HB3 := hide (HBK.out.trans (hb3.mono HBK.out.size))
          have T3 := hide (HTK.out.below hb3 HTK.out.lt)
          have HX3 := hide (HX.out.later hb3)
          obtain ⟨f0, f1, f2⟩ := KC.out _ hb3
          clear hb3 d0 d0' d1
          by_cases hh : 3000 < sizeM [W[k]]
          · have hd : decide (3000 < sizeM [W[k]]) = true := by simpa using hh
            rw [hd]
            go_wp2_with fail
            go_ret
            exact ⟨rfl, HB3.out⟩
          · have hd : decide (3000 < sizeM [W[k]]) = false := by simpa using hh
            rw [hd]
            clear hd hh
            by_cases hz0 : e0 = 0
            · subst hz0
              go_wp2_with fail
              refine (lamMay_any W[k] _ 0 12 _ _ HX3.out).mono ?_
              rintro e w4 ⟨rfl, hb4⟩
              have HB4 := hide (HB3.out.trans (hb4.mono HB3.out.size))
              have T4 := hide (T3.out.below hb4 T3.out.lt)
              clear hb4 f0 f1 f2
              have HN : Hid (lamE 0 12 W[k] = if 4 < W.length then 3 else wE (W.take (k + 1))) := by
                have h := HE0.out
                unfold Hid
                split at h
                · cases h
                · rename_i h5; rw [if_neg h5, HNX.out, if_pos h]
              generalize lamE 0 12 W[k] = q at *
              go_wp2_with fail
              go_roundw
              case rel => exact ⟨k + 1, by omega, by go_num, by rw [HN.out], HB4.out, T4.out⟩
              case measure => simp [intOf]; omega
            · have hz1 : (e0 == 0) = false := by simpa using hz0
              have HN : Hid (e0 = if 4 < W.length then 3 else wE (W.take (k + 1))) := by
                have h := HE0.out
                unfold Hid
                split at h
                · rename_i h5; rw [if_pos h5]; exact h.symm
                · rename_i h5; rw [if_neg h5, HNX.out, if_neg (by rw [h]; exact hz0)]; exact h.symm
              go_wp2_with fail
              go_roundw
              case rel => exact ⟨k + 1, by omega, by go_num, by rw [HN.out], HB3.out, T3.out⟩
              case measure => simp [intOf]; omega
        · have htk : W.take k = W := List.take_of_length_le (by omega)
          have hge : ¬ ((k : Int) < (W.length : Int)) := by omega
          rw [htk]
          clear htk hb
          generalize he0 : (if 4 < W.length then (3 : Int) else wE W) = e0
          have HE0 := hide he0
          clear he0
          by_cases hne : e0 = 0
          · subst hne
            have H4 : Hid (¬ 4 < W.length ∧ wE W = 0) := by
              have h := HE0.out
              unfold Hid
              split at h
              · cases h
              · rename_i h5; exact ⟨h5, h⟩
            have m0 : wr.cell? ⟨T, 0, none⟩ = some (.int .i64 t.kind) := HTK.out.cell 0
            have m1 : wr.cell? ⟨T, 1, none⟩ = some (.int .i64 t.idx) := HTK.out.cell 1
            have m2 : wr.cell? ⟨T, 2, none⟩ = some (.slice a t.subs.length c) := HTK.out.cell 2
            go_wp2_with fail
            refine (lamMay_any t _ 0 _ _ _ (V0.out _ HBK.out)).mono ?_
            rintro e w3 ⟨rfl, hb3⟩
            have HB3 := hide (HBK.out.trans (hb3.mono HBK.out.size))
            have T3 := hide (HTK.out.below hb3 HTK.out.lt)
            have HQ3 : Hid (w.heap.size ≤ w3.heap.size ∧ T < w3.heap.size) := ⟨HB3.out.size, T3.out.lt⟩
            have HB4 := hide (HB3.out.alloc HB3.out.size (.cells #[.int .i64 0, .int .i64 0, .slice none 0 0] 24))
            have T4 := hide (T3.out.alloc (.cells #[.int .i64 0, .int .i64 0, .slice none 0 0] 24))
            have Q4 := hide (Blk.new w3 #[.int .i64 0, .int .i64 0, .slice none 0 0] 24)
            clear hb3 m0 m1 m2
            by_cases hl : lamE 0 (W.length : Int) t = 0
            · have HPE : Hid (pputE W t z = if z < 0 ∨ 400 < z then 10 else 0) := by unfold Hid pputE; rw [if_neg H4.out.1, if_pos H4.out.2, if_pos hl]
              rw [hl]
              by_cases hz0 : z < 0
              · exact absurd hz0 (by omega)
              · by_cases hz4 : 400 < z
                · have HR : Hid (pputR W t z = (10, ⟨0, 0, []⟩)) := by unfold Hid pputR; rw [HPE.out, if_pos (Or.inr hz4), if_neg (by decide)]
                  have hten : (10 : Int) ≠ 0 := by decide
                  have m0 := T4.out.cell 0
                  have m1 := T4.out.cell 1
                  have m2 := T4.out.cell 2
                  go_wp2_with fail
                  refine (pPut_any W _ wc t _ z _ XR (V0.out _ HB4.out) (W0.out _ HB4.out)).mono ?_
                  rintro e wL ⟨hbL, hcs⟩
                  rw [HR.out] at hcs
                  have HBL := hide (HB4.out.trans (hbL.mono HB4.out.size))
                  have QL := hide (Q4.out.below hbL Q4.out.lt)
                  clear hbL m0 m1 m2
                  obtain ⟨h0, _⟩ | ⟨_, rfl⟩ := hcs
                  · exact absurd h0 hten
                  · dsimp only
                    have HBM := hide (HBL.out.alloc HBL.out.size (.cells #[.int .i64 0, .int .i64 0, .slice none 0 0] 24))
                    have QM := hide (QL.out.alloc (.cells #[.int .i64 0, .int .i64 0, .slice none 0 0] 24))
                    have q0 := QM.out.cell 0
                    have q1 := QM.out.cell 1
                    have q2 := QM.out.cell 2
                    go_wp2_with fail
                    refine (lam2_errP 10 0 0 none 0 0 _ hten).mono ?_
                    rintro e wN ⟨rfl, hbN⟩
                    have HBN := hide (HBM.out.trans (hbN.mono HBM.out.size))
                    clear hbN
                    go_wp2_with fail
                    go_ret
                    exact ⟨rfl, HBN.out⟩
                · exact absurd hz400 (by omega)
            · have h1 : (lamE 0 (W.length : Int) t == 0) = false := by simpa using hl
              have HR : Hid (pputR W t z = (lamE 0 (W.length : Int) t, ⟨0, 0, []⟩)) := by unfold Hid pputR; rw [show pputE W t z = lamE 0 (W.length : Int) t by unfold pputE; rw [if_neg H4.out.1, if_pos H4.out.2, if_neg hl], if_neg hl]
              generalize lamE 0 (W.length : Int) t = er at *
              have m0 := T4.out.cell 0
              have m1 := T4.out.cell 1
              have m2 := T4.out.cell 2
              go_wp2_with fail
              refine (pPut_any W _ wc t _ z _ XR (V0.out _ HB4.out) (W0.out _ HB4.out)).mono ?_
              rintro e wL ⟨hbL, hcs⟩
              rw [HR.out] at hcs
              have HBL := hide (HB4.out.trans (hbL.mono HB4.out.size))
              have QL := hide (Q4.out.below hbL Q4.out.lt)
              clear hbL m0 m1 m2
              obtain ⟨h0, _⟩ | ⟨_, rfl⟩ := hcs
              · exact absurd h0 hl
              · dsimp only
                have HBM := hide (HBL.out.alloc HBL.out.size (.cells #[.int .i64 0, .int .i64 0, .slice none 0 0] 24))
                have QM := hide (QL.out.alloc (.cells #[.int .i64 0, .int .i64 0, .slice none 0 0] 24))
                have q0 := QM.out.cell 0
                have q1 := QM.out.cell 1
                have q2 := QM.out.cell 2
                go_wp2_with fail
                refine (lam2_errP er 0 0 none 0 0 _ hl).mono ?_
                rintro e wN ⟨rfl, hbN⟩
                have HBN := hide (HBM.out.trans (hbN.mono HBM.out.size))
                clear hbN
                go_wp2_with fail
                go_ret
                exact ⟨rfl, HBN.out⟩
          · have h1 : (e0 == 0) = false := by simpa using hne
            have HR : Hid (pputR W t z = (e0, ⟨0, 0, []⟩)) := by
              have h : pputE W t z = e0 := by
                have h := HE0.out
                unfold pputE
                split at h
                · rename_i h5; rw [if_pos h5]; exact h
                · rename_i h5; rw [if_neg h5, if_neg (by rw [h]; exact hne)]; exact h
              unfold Hid pputR
              rw [h, if_neg hne]
            have HB3 := hide HBK.out
            have HB4 := hide (HBK.out.alloc HBK.out.size (.cells #[.int .i64 0, .int .i64 0, .slice none 0 0] 24))
            have T4 := hide (HTK.out.alloc (.cells #[.int .i64 0, .int .i64 0, .slice none 0 0] 24))
            have Q4 := hide (Blk.new wr #[.int .i64 0, .int .i64 0, .slice none 0 0] 24)
            have m0 := T4.out.cell 0
            have m1 := T4.out.cell 1
            have m2 := T4.out.cell 2
            go_wp2_with fail
            refine (pPut_any W _ wc t _ z _ XR (V0.out _ HB4.out) (W0.out _ HB4.out)).mono ?_
            rintro e wL ⟨hbL, hcs⟩
            rw [HR.out] at hcs
            have HBL := hide (HB4.out.trans (hbL.mono HB4.out.size))
            have QL := hide (Q4.out.below hbL Q4.out.lt)
            clear hbL m0 m1 m2
            obtain ⟨h0, _⟩ | ⟨_, rfl⟩ := hcs
            · exact absurd h0 hne
            · dsimp only
              have HBM := hide (HBL.out.alloc HBL.out.size (.cells #[.int .i64 0, .int .i64 0, .slice none 0 0] 24))
              have QM := hide (QL.out.alloc (.cells #[.int .i64 0, .int .i64 0, .slice none 0 0] 24))
              have q0 := QM.out.cell 0
              have q1 := QM.out.cell 1
              have q2 := QM.out.cell 2
              go_wp2_with fail
              refine (lam2_errP e0 0 0 none 0 0 _ hne).mono ?_
              rintro e wN ⟨rfl, hbN⟩
              have HBN := hide (HBM.out.trans (hbN.mono HBM.out.size))
              clear hbN
              go_wp2_with fail
              go_ret
              exact ⟨rfl, HBN.out⟩

  · by_cases h4 : 4 < W.length
    · have h4i : (4 : Int) < (W.length : Int) := by omega
      go_wp2_with fail
      have H4h := hide h4
      clear h4 h4i
      go_loopw [7, 8] (fun e i wr => LpI W w T t a c e i wr) (fun e i wr => W.length - (intOf i).toNat)
      case atStart => exact ⟨0, Nat.zero_le _, rfl, by simp [wE, H4h.out], HB2.out, T2.out⟩
      case round =>
        obtain ⟨k, hk, rfl, rfl, hb, hT⟩ := hrel
        have HBK := hide hb
        have HTK := hide hT
        clear hT
        by_cases hlt : k < W.length
        · obtain ⟨b, o, a', c', ea, d0, d0', d1, hx⟩ := ((W0.out _ (Below.refl _ _)).mono (Y := XR) fun b h _ => h).get hb (fun b h _ => HXR.out b h) k hlt
          subst ea
          have HX := hide hx
          have HNX := hide (wE_next k hlt)
          have hlti : (k : Int) < (W.length : Int) := by omega
          have KC : Hid (∀ w', Below wr.heap.size wr w' → w'.cell? ⟨b, o + k * 3, none⟩ = some (.int .i64 W[k].kind) ∧ w'.cell? ⟨b, o + k * 3 + 1, none⟩ = some (.int .i64 W[k].idx) ∧ w'.cell? ⟨b, o + k * 3 + 2, none⟩ = some (.slice a' W[k].subs.length c')) := fun w' hb => ⟨(hb.cell (p := ⟨b, o + k * 3, none⟩) (cell_ltM d0)).trans d0, (hb.cell (p := ⟨b, o + k * 3 + 1, none⟩) (cell_ltM d0')).trans d0', (hb.cell (p := ⟨b, o + k * 3 + 2, none⟩) (cell_ltM d1)).trans d1⟩
          clear hb hx
          generalize he0 : (if 4 < W.length then (3 : Int) else wE (W.take k)) = e0
          have HE0 := hide he0
          clear he0
          go_wp2_with fail
          refine (hugeLam_any W[k] _ _ _ HX.out).mono ?_
          rintro e w3 ⟨rfl, hb3⟩
          have HB3 := hide (HBK.out.trans (hb3.mono HBK.out.size))
          have T3 := hide (HTK.out.below hb3 HTK.out.lt)
          have HX3 := hide (HX.out.later hb3)
          obtain ⟨f0, f1, f2⟩ := KC.out _ hb3
          clear hb3 d0 d0' d1
          by_cases hh : 3000 < sizeM [W[k]]
          · have hd : decide (3000 < sizeM [W[k]]) = true := by simpa using hh
            rw [hd]
            go_wp2_with fail
            go_ret
            exact ⟨rfl, HB3.out⟩
          · have hd : decide (3000 < sizeM [W[k]]) = false := by simpa using hh
            rw [hd]
            clear hd hh
            by_cases hz0 : e0 = 0
            · subst hz0
              go_wp2_with fail
              refine (lamMay_any W[k] _ 0 12 _ _ HX3.out).mono ?_
              rintro e w4 ⟨rfl, hb4⟩
              have HB4 := hide (HB3.out.trans (hb4.mono HB3.out.size))
              have T4 := hide (T3.out.below hb4 T3.out.lt)
              clear hb4 f0 f1 f2
              have HN : Hid (lamE 0 12 W[k] = if 4 < W.length then 3 else wE (W.take (k + 1))) := by
                have h := HE0.out
                unfold Hid
                split at h
                · cases h
                · rename_i h5; rw [if_neg h5, HNX.out, if_pos h]
              generalize lamE 0 12 W[k] = q at *
              go_wp2_with fail
              go_roundw
              case rel => exact ⟨k + 1, by omega, by go_num, by rw [HN.out], HB4.out, T4.out⟩
              case measure => simp [intOf]; omega
            · have hz1 : (e0 == 0) = false := by simpa using hz0
              have HN : Hid (e0 = if 4 < W.length then 3 else wE (W.take (k + 1))) := by
                have h := HE0.out
                unfold Hid
                split at h
                · rename_i h5; rw [if_pos h5]; exact h.symm
                · rename_i h5; rw [if_neg h5, HNX.out, if_neg (by rw [h]; exact hz0)]; exact h.symm
              go_wp2_with fail
              go_roundw
              case rel => exact ⟨k + 1, by omega, by go_num, by rw [HN.out], HB3.out, T3.out⟩
              case measure => simp [intOf]; omega
        · have htk : W.take k = W := List.take_of_length_le (by omega)
          have hge : ¬ ((k : Int) < (W.length : Int)) := by omega
          rw [htk]
          clear htk hb
          generalize he0 : (if 4 < W.length then (3 : Int) else wE W) = e0
          have HE0 := hide he0
          clear he0
          have hne : e0 ≠ 0 := by rw [← HE0.out, if_pos H4h.out]; decide
          have h1 : (e0 == 0) = false := by simpa using hne
          have HR : Hid (pputR W t z = (e0, ⟨0, 0, []⟩)) := by
            have h : pputE W t z = e0 := by
              have h := HE0.out
              unfold pputE
              split at h
              · rename_i h5; rw [if_pos h5]; exact h
              · rename_i h5; rw [if_neg h5, if_neg (by rw [h]; exact hne)]; exact h
            unfold Hid pputR
            rw [h, if_neg hne]
          have HB3 := hide HBK.out
          have HB4 := hide (HBK.out.alloc HBK.out.size (.cells #[.int .i64 0, .int .i64 0, .slice none 0 0] 24))
          have T4 := hide (HTK.out.alloc (.cells #[.int .i64 0, .int .i64 0, .slice none 0 0] 24))
          have Q4 := hide (Blk.new wr #[.int .i64 0, .int .i64 0, .slice none 0 0] 24)
          have m0 := T4.out.cell 0
          have m1 := T4.out.cell 1
          have m2 := T4.out.cell 2
          go_wp2_with fail
          refine (pPut_any W _ wc t _ z _ XR (V0.out _ HB4.out) (W0.out _ HB4.out)).mono ?_
          rintro e wL ⟨hbL, hcs⟩
          rw [HR.out] at hcs
          have HBL := hide (HB4.out.trans (hbL.mono HB4.out.size))
          have QL := hide (Q4.out.below hbL Q4.out.lt)
          clear hbL m0 m1 m2
          obtain ⟨h0, _⟩ | ⟨_, rfl⟩ := hcs
          · exact absurd h0 hne
          · dsimp only
            have HBM := hide (HBL.out.alloc HBL.out.size (.cells #[.int .i64 0, .int .i64 0, .slice none 0 0] 24))
            have QM := hide (QL.out.alloc (.cells #[.int .i64 0, .int .i64 0, .slice none 0 0] 24))
            have q0 := QM.out.cell 0
            have q1 := QM.out.cell 1
            have q2 := QM.out.cell 2
            go_wp2_with fail
            refine (lam2_errP e0 0 0 none 0 0 _ hne).mono ?_
            rintro e wN ⟨rfl, hbN⟩
            have HBN := hide (HBM.out.trans (hbN.mono HBM.out.size))
            clear hbN
            go_wp2_with fail
            go_ret
            exact ⟨rfl, HBN.out⟩

    · have h4i : ¬ (4 : Int) < (W.length : Int) := by omega
      go_wp2_with fail
      have H4h := hide h4
      clear h4 h4i
      go_loopw [7, 8] (fun e i wr => LpI W w T t a c e i wr) (fun e i wr => W.length - (intOf i).toNat)
      case atStart => exact ⟨0, Nat.zero_le _, rfl, by simp [wE, H4h.out], HB2.out, T2.out⟩
      case round =>
        obtain ⟨k, hk, rfl, rfl, hb, hT⟩ := hrel
        have HBK := hide hb
        have HTK := hide hT
        clear hT
        by_cases hlt : k < W.length
        · obtain ⟨b, o, a', c', ea, d0, d0', d1, hx⟩ := ((W0.out _ (Below.refl _ _)).mono (Y := XR) fun b h _ => h).get hb (fun b h _ => HXR.out b h) k hlt
          subst ea
          have HX := hide hx
          have HNX := hide (wE_next k hlt)
          have hlti : (k : Int) < (W.length : Int) := by omega
          have KC : Hid (∀ w', Below wr.heap.size wr w' → w'.cell? ⟨b, o + k * 3, none⟩ = some (.int .i64 W[k].kind) ∧ w'.cell? ⟨b, o + k * 3 + 1, none⟩ = some (.int .i64 W[k].idx) ∧ w'.cell? ⟨b, o + k * 3 + 2, none⟩ = some (.slice a' W[k].subs.length c')) := fun w' hb => ⟨(hb.cell (p := ⟨b, o + k * 3, none⟩) (cell_ltM d0)).trans d0, (hb.cell (p := ⟨b, o + k * 3 + 1, none⟩) (cell_ltM d0')).trans d0', (hb.cell (p := ⟨b, o + k * 3 + 2, none⟩) (cell_ltM d1)).trans d1⟩
          clear hb hx
          generalize he0 : (if 4 < W.length then (3 : Int) else wE (W.take k)) = e0
          have HE0 := hide he0
          clear he0
          go_wp2_with fail
          refine (hugeLam_any W[k] _ _ _ HX.out).mono ?_
          rintro e w3 ⟨rfl, hb3⟩
          have HB3 := hide (HBK.out.trans (hb3.mono HBK.out.size))
          have T3 := hide (HTK.out.below hb3 HTK.out.lt)
          have HX3 := hide (HX.out.later hb3)
          obtain ⟨f0, f1, f2⟩ := KC.out _ hb3
          clear hb3 d0 d0' d1
          by_cases hh : 3000 < sizeM [W[k]]
          · have hd : decide (3000 < sizeM [W[k]]) = true := by simpa using hh
            rw [hd]
            go_wp2_with fail
            go_ret
            exact ⟨rfl, HB3.out⟩
          · have hd : decide (3000 < sizeM [W[k]]) = false := by simpa using hh
            rw [hd]
            clear hd hh
            by_cases hz0 : e0 = 0
            · subst hz0
              go_wp2_with fail
              refine (lamMay_any W[k] _ 0 12 _ _ HX3.out).mono ?_
              rintro e w4 ⟨rfl, hb4⟩
              have HB4 := hide (HB3.out.trans (hb4.mono HB3.out.size))
              have T4 := hide (T3.out.below hb4 T3.out.lt)
              clear hb4 f0 f1 f2
              have HN : Hid (lamE 0 12 W[k] = if 4 < W.length then 3 else wE (W.take (k + 1))) := by
                have h := HE0.out
                unfold Hid
                split at h
                · cases h
                · rename_i h5; rw [if_neg h5, HNX.out, if_pos h]
              generalize lamE 0 12 W[k] = q at *
              go_wp2_with fail
              go_roundw
              case rel => exact ⟨k + 1, by omega, by go_num, by rw [HN.out], HB4.out, T4.out⟩
              case measure => simp [intOf]; omega
            · have hz1 : (e0 == 0) = false := by simpa using hz0
              have HN : Hid (e0 = if 4 < W.length then 3 else wE (W.take (k + 1))) := by
                have h := HE0.out
                unfold Hid
                split at h
                · rename_i h5; rw [if_pos h5]; exact h.symm
                · rename_i h5; rw [if_neg h5, HNX.out, if_neg (by rw [h]; exact hz0)]; exact h.symm
              go_wp2_with fail
              go_roundw
              case rel => exact ⟨k + 1, by omega, by go_num, by rw [HN.out], HB3.out, T3.out⟩
              case measure => simp [intOf]; omega
        · have htk : W.take k = W := List.take_of_length_le (by omega)
          have hge : ¬ ((k : Int) < (W.length : Int)) := by omega
          rw [htk]
          clear htk hb
          generalize he0 : (if 4 < W.length then (3 : Int) else wE W) = e0
          have HE0 := hide he0
          clear he0
          by_cases hne : e0 = 0
          · subst hne
            have H4 : Hid (¬ 4 < W.length ∧ wE W = 0) := by
              have h := HE0.out
              unfold Hid
              split at h
              · cases h
              · rename_i h5; exact ⟨h5, h⟩
            have m0 : wr.cell? ⟨T, 0, none⟩ = some (.int .i64 t.kind) := HTK.out.cell 0
            have m1 : wr.cell? ⟨T, 1, none⟩ = some (.int .i64 t.idx) := HTK.out.cell 1
            have m2 : wr.cell? ⟨T, 2, none⟩ = some (.slice a t.subs.length c) := HTK.out.cell 2
            go_wp2_with fail
            refine (lamMay_any t _ 0 _ _ _ (V0.out _ HBK.out)).mono ?_
            rintro e w3 ⟨rfl, hb3⟩
            have HB3 := hide (HBK.out.trans (hb3.mono HBK.out.size))
            have T3 := hide (HTK.out.below hb3 HTK.out.lt)
            have HQ3 : Hid (w.heap.size ≤ w3.heap.size ∧ T < w3.heap.size) := ⟨HB3.out.size, T3.out.lt⟩
            have HB4 := hide (HB3.out.alloc HB3.out.size (.cells #[.int .i64 0, .int .i64 0, .slice none 0 0] 24))
            have T4 := hide (T3.out.alloc (.cells #[.int .i64 0, .int .i64 0, .slice none 0 0] 24))
            have Q4 := hide (Blk.new w3 #[.int .i64 0, .int .i64 0, .slice none 0 0] 24)
            clear hb3 m0 m1 m2
            by_cases hl : lamE 0 (W.length : Int) t = 0
            · have HPE : Hid (pputE W t z = if z < 0 ∨ 400 < z then 10 else 0) := by unfold Hid pputE; rw [if_neg H4.out.1, if_pos H4.out.2, if_pos hl]
              rw [hl]
              by_cases hz0 : z < 0
              · have HR : Hid (pputR W t z = (10, ⟨0, 0, []⟩)) := by unfold Hid pputR; rw [HPE.out, if_pos (Or.inl hz0), if_neg (by decide)]
                have hten : (10 : Int) ≠ 0 := by decide
                have m0 := T4.out.cell 0
                have m1 := T4.out.cell 1
                have m2 := T4.out.cell 2
                go_wp2_with fail
                refine (pPut_any W _ wc t _ z _ XR (V0.out _ HB4.out) (W0.out _ HB4.out)).mono ?_
                rintro e wL ⟨hbL, hcs⟩
                rw [HR.out] at hcs
                have HBL := hide (HB4.out.trans (hbL.mono HB4.out.size))
                have QL := hide (Q4.out.below hbL Q4.out.lt)
                clear hbL m0 m1 m2
                obtain ⟨h0, _⟩ | ⟨_, rfl⟩ := hcs
                · exact absurd h0 hten
                · dsimp only
                  have HBM := hide (HBL.out.alloc HBL.out.size (.cells #[.int .i64 0, .int .i64 0, .slice none 0 0] 24))
                  have QM := hide (QL.out.alloc (.cells #[.int .i64 0, .int .i64 0, .slice none 0 0] 24))
                  have q0 := QM.out.cell 0
                  have q1 := QM.out.cell 1
                  have q2 := QM.out.cell 2
                  go_wp2_with fail
                  refine (lam2_errP 10 0 0 none 0 0 _ hten).mono ?_
                  rintro e wN ⟨rfl, hbN⟩
                  have HBN := hide (HBM.out.trans (hbN.mono HBM.out.size))
                  clear hbN
                  go_wp2_with fail
                  go_ret
                  exact ⟨rfl, HBN.out⟩
              · by_cases hz4 : 400 < z
                · exact absurd hz4 (by omega)
                · have HP0 : Hid (pputE W t z = 0) := by unfold Hid; rw [HPE.out, if_neg (by omega)]
                  obtain ⟨⟨n, rfl, hn⟩, hE, hU, hsz⟩ := put_goodP HP0.out
                  have HPR : Hid (pputR W t (n : Int) = if 2000 < sizeM [filT W t] then (8, ⟨0, 0, []⟩) else if (endM false n (filT W t)).1 = 0 then (0, etaT (endM false n (filT W t)).2.1) else ((endM false n (filT W t)).1, ⟨0, 0, []⟩)) := by unfold Hid pputR; rw [if_pos HP0.out]; simp
                  have HE := hide hE
                  have FL := hide (filled_any W wa wc t _ _ XR (V0.out _ HB4.out) (W0.out _ HB4.out) (by omega) hU)
                  have m0 := T4.out.cell 0
                  have m1 := T4.out.cell 1
                  have m2 := T4.out.cell 2
                  generalize filT W t = f at *
                  clear hE hU hsz HPE HP0 hl
                  go_wp2_with fail
                  generalize (w3.alloc (.cells #[.int .i64 0, .int .i64 0, .slice none 0 0] 24)) = w4 at *
                  obtain ⟨Q, eQ⟩ : ∃ Q, Q = w3.heap.size := ⟨_, rfl⟩
                  have Q4' : Hid (Blk w4 Q #[.int .i64 0, .int .i64 0, .slice none 0 0] 24) := by rw [eQ]; exact Q4.out
                  rw [← eQ]
                  have HQ : Hid (w.heap.size ≤ Q ∧ T ≠ Q ∧ Q < w4.heap.size) := ⟨by have := HQ3.out; omega, by have := HQ3.out; omega, Q4'.out.lt⟩
                  clear Q4 eQ
                  refine FL.out.mono ?_
                  rintro e w5 ⟨a5, c5, rfl, hs5, hb5⟩
                  have HB5 := hide (HB4.out.trans (hb5.mono HB4.out.size))
                  have T5 := hide (T4.out.below hb5 T4.out.lt)
                  have Q5 := hide (Q4'.out.below hb5 Q4'.out.lt)
                  have S5 : Hid (SlM w5 (fun b => b ≠ Q) a5 f.subs) := hs5.mono fun b h _ => by
                    have := HQ.out
                    rcases h with h | h
                    · have := HXR.out b h.1; omega
                    · omega
                  clear hs5 hb5 m0 m1 m2 FL
                  have q0 : w5.cell? ⟨Q, 0, none⟩ = some (.int .i64 0) := Q5.out.cell 0
                  have q1 : w5.cell? ⟨Q, 1, none⟩ = some (.int .i64 0) := Q5.out.cell 1
                  have q2 : w5.cell? ⟨Q, 2, none⟩ = some (.slice none 0 0) := Q5.out.cell 2
                  have qf := Q5.out.frozen
                  have hQl : Q < w5.heap.size := Q5.out.lt
                  have HB6 := hide (set3_belowP HB5.out HQ.out.1 (.int .i64 f.kind) (.int .i64 f.idx) (.slice a5 f.subs.length c5))
                  have Q6 := hide (set3_blkP Q5.out (.int .i64 f.kind) (.int .i64 f.idx) (.slice a5 f.subs.length c5))
                  have T6 : Hid (Blk (((w5.setCell ⟨Q, 0, none⟩ (.int .i64 f.kind)).setCell ⟨Q, 1, none⟩ (.int .i64 f.idx)).setCell ⟨Q, 2, none⟩ (.slice a5 f.subs.length c5)) T #[.int .i64 t.kind, .int .i64 t.idx, .slice a t.subs.length c] 24) := (set3_keepP _ _ _ T HQ.out.2.1).trans T5.out
                  have S6 : Hid (SlM (((w5.setCell ⟨Q, 0, none⟩ (.int .i64 f.kind)).setCell ⟨Q, 1, none⟩ (.int .i64 f.idx)).setCell ⟨Q, 2, none⟩ (.slice a5 f.subs.length c5)) (fun b => b ≠ Q) a5 f.subs) := S5.out.kept fun b h => set3_keepP _ _ _ b h
                  have CN := hide (lamSize_any f _ 2000 _ _ ⟨a5, c5, rfl, S6.out⟩ (by omega) (by omega))
                  go_wp2_with fail
                  generalize (((w5.setCell ⟨Q, 0, none⟩ (.int .i64 f.kind)).setCell ⟨Q, 1, none⟩ (.int .i64 f.idx)).setCell ⟨Q, 2, none⟩ (.slice a5 f.subs.length c5)) = w6 at *
                  refine CN.out.mono ?_
                  rintro e w7 ⟨rfl, hb7⟩
                  have HB7 := hide (HB6.out.trans (hb7.mono HB6.out.size))
                  have T7 := hide (T6.out.below hb7 T6.out.lt)
                  have Q7 := hide (Q6.out.below hb7 Q6.out.lt)
                  have S7 := hide (S6.out.later hb7)
                  clear hb7 q0 q1 q2 qf hQl CN
                  by_cases h2 : 2000 < sizeM [f]
                  · have hg : min (sizeM [f] : Int) (2000 + 1) > 2000 := by omega
                    have HR : Hid (pputR W t (n : Int) = (8, ⟨0, 0, []⟩)) := by unfold Hid; rw [HPR.out, if_pos h2]
                    have hei : (8 : Int) ≠ 0 := by decide
                    have m0 : w7.cell? ⟨T, 0, none⟩ = some (.int .i64 t.kind) := T7.out.cell 0
                    have m1 : w7.cell? ⟨T, 1, none⟩ = some (.int .i64 t.idx) := T7.out.cell 1
                    have m2 : w7.cell? ⟨T, 2, none⟩ = some (.slice a t.subs.length c) := T7.out.cell 2
                    go_wp2_with fail
                    refine (pPut_any W _ wc t _ (n : Int) w7 XR (V0.out _ HB7.out) (W0.out _ HB7.out)).mono ?_
                    rintro e wL ⟨hbL, hcs⟩
                    rw [HR.out] at hcs
                    have HBL := hide (HB7.out.trans (hbL.mono HB7.out.size))
                    have QL := hide (Q7.out.below hbL Q7.out.lt)
                    clear hbL m0 m1 m2
                    obtain ⟨h0, _⟩ | ⟨_, rfl⟩ := hcs
                    · exact absurd h0 hei
                    · dsimp only
                      have HBM := hide (HBL.out.alloc HBL.out.size (.cells #[.int .i64 0, .int .i64 0, .slice none 0 0] 24))
                      have QM := hide (QL.out.alloc (.cells #[.int .i64 0, .int .i64 0, .slice none 0 0] 24))
                      have q0 := QM.out.cell 0
                      have q1 := QM.out.cell 1
                      have q2 := QM.out.cell 2
                      go_wp2_with fail
                      refine (lam2_errP 8 _ _ _ _ _ _ hei).mono ?_
                      rintro e wN ⟨rfl, hbN⟩
                      have HBN := hide (HBM.out.trans (hbN.mono HBM.out.size))
                      clear hbN
                      go_wp2_with fail
                      go_ret
                      exact ⟨rfl, HBN.out⟩
                  · have hg : ¬ min (sizeM [f] : Int) (2000 + 1) > 2000 := by omega
                    have q0 : w7.cell? ⟨Q, 0, none⟩ = some (.int .i64 f.kind) := Q7.out.cell 0
                    have q1 : w7.cell? ⟨Q, 1, none⟩ = some (.int .i64 f.idx) := Q7.out.cell 1
                    have q2 : w7.cell? ⟨Q, 2, none⟩ = some (.slice a5 f.subs.length c5) := Q7.out.cell 2
                    go_wp2_with fail
                    refine (lamSize_any f _ 60 _ _ ⟨a5, c5, rfl, S7.out⟩ (by omega) (by omega)).mono ?_
                    rintro e w8 ⟨rfl, hb8⟩
                    have HB8 := hide (HB7.out.trans (hb8.mono HB7.out.size))
                    have T8 := hide (T7.out.below hb8 T7.out.lt)
                    have Q8 := hide (Q7.out.below hb8 Q7.out.lt)
                    have S8 := hide (S7.out.later hb8)
                    clear hb8 q0 q1 q2
                    by_cases h60 : 60 < sizeM [f]
                    · have hg6 : min (sizeM [f] : Int) (60 + 1) > 60 := by omega
                      go_wp2_with fail
                      go_ret
                      exact ⟨rfl, HB8.out⟩
                    · have hg6 : ¬ min (sizeM [f] : Int) (60 + 1) > 60 := by omega
                      have q0 : w8.cell? ⟨Q, 0, none⟩ = some (.int .i64 f.kind) := Q8.out.cell 0
                      have q1 : w8.cell? ⟨Q, 1, none⟩ = some (.int .i64 f.idx) := Q8.out.cell 1
                      have q2 : w8.cell? ⟨Q, 2, none⟩ = some (.slice a5 f.subs.length c5) := Q8.out.cell 2
                      have LE := hide (lamEnd_any 0 n f _ w8 _ hn (by omega) HE.out (by omega) ⟨a5, c5, rfl, S8.out⟩)
                      have GE := hide (end_okP 12 (by omega) n f HE.out (by omega))
                      have HPR2 : Hid (pputR W t (n : Int) = if (endM false n f).1 = 0 then (0, etaT (endM false n f).2.1) else ((endM false n f).1, ⟨0, 0, []⟩)) := by unfold Hid; rw [HPR.out, if_neg h2]
                      clear h2 h60 HPR
                      go_wp2_with fail
                      refine LE.out.mono ?_
                      rintro e w9 ⟨hb9, hcs⟩
                      have HB9 := hide (HB8.out.trans (hb9.mono HB8.out.size))
                      have T9 := hide (T8.out.below hb9 T8.out.lt)
                      have Q9 := hide (Q8.out.below hb9 Q8.out.lt)
                      have HQ8 : Hid (Q < w8.heap.size) := Q8.out.lt
                      clear hb9 q0 q1 q2 LE
                      have q0 : w9.cell? ⟨Q, 0, none⟩ = some (.int .i64 f.kind) := Q9.out.cell 0
                      have q1 : w9.cell? ⟨Q, 1, none⟩ = some (.int .i64 f.idx) := Q9.out.cell 1
                      have q2 : w9.cell? ⟨Q, 2, none⟩ = some (.slice a5 f.subs.length c5) := Q9.out.cell 2
                      have qf := Q9.out.frozen
                      have hQl : Q < w9.heap.size := Q9.out.lt
                      obtain ⟨h0, a9, c9, rfl, hs9⟩ | ⟨h0, rfl⟩ := hcs
                      · have HR : Hid (pputR W t (n : Int) = (0, etaT (endM false n f).2.1)) := by unfold Hid; rw [HPR2.out, if_pos h0]
                        clear HPR2
                        generalize (endM false n f).2.1 = y at *
                        generalize (endM false n f).2.2 = st at *
                        have S9 : Hid (SlM w9 (fun b => b ≠ Q) a9 y.subs) := hs9.mono fun b h _ => by
                          have := HQ8.out
                          rcases h with h | h
                          · exact h.1
                          · omega
                        have HB10 := hide (set3_belowP HB9.out HQ.out.1 (.int .i64 y.kind) (.int .i64 y.idx) (.slice a9 y.subs.length c9))
                        have Q10 := hide (set3_blkP Q9.out (.int .i64 y.kind) (.int .i64 y.idx) (.slice a9 y.subs.length c9))
                        have T10 : Hid (Blk (((w9.setCell ⟨Q, 0, none⟩ (.int .i64 y.kind)).setCell ⟨Q, 1, none⟩ (.int .i64 y.idx)).setCell ⟨Q, 2, none⟩ (.slice a9 y.subs.length c9)) T #[.int .i64 t.kind, .int .i64 t.idx, .slice a t.subs.length c] 24) := (set3_keepP _ _ _ T HQ.out.2.1).trans T9.out
                        have S10 : Hid (SlM (((w9.setCell ⟨Q, 0, none⟩ (.int .i64 y.kind)).setCell ⟨Q, 1, none⟩ (.int .i64 y.idx)).setCell ⟨Q, 2, none⟩ (.slice a9 y.subs.length c9)) (fun b => b ≠ Q) a9 y.subs) := S9.out.kept fun b h => set3_keepP _ _ _ b h
                        have ET := hide (etaOf_any y _ _ _ ⟨a9, c9, rfl, S10.out⟩ (by have := GE.out.2; omega) (bnd_of_err _ 0 12 (by omega) (by have := GE.out.2; omega) (by omega) GE.out.1) (sh_of_err _ _ _ GE.out.1))
                        clear hs9 h0
                        go_wp2_with fail
                        generalize (((w9.setCell ⟨Q, 0, none⟩ (.int .i64 y.kind)).setCell ⟨Q, 1, none⟩ (.int .i64 y.idx)).setCell ⟨Q, 2, none⟩ (.slice a9 y.subs.length c9)) = w10 at *
                        refine ET.out.mono ?_
                        rintro e w11 ⟨a11, c11, rfl, hs11, hb11⟩
                        have HB11 := hide (HB10.out.trans (hb11.mono HB10.out.size))
                        have T11 := hide (T10.out.below hb11 T10.out.lt)
                        have Q11 := hide (Q10.out.below hb11 Q10.out.lt)
                        have S11 : Hid (SlM w11 (fun b => b ≠ Q) a11 (etaT y).subs) := hs11.mono fun b h _ => by
                          have := Q10.out.lt
                          rcases h with h | h
                          · exact h.1
                          · omega
                        clear hs11 hb11 q0 q1 q2 qf hQl ET
                        generalize etaT y = x at *
                        have q0 : w11.cell? ⟨Q, 0, none⟩ = some (.int .i64 y.kind) := Q11.out.cell 0
                        have q1 : w11.cell? ⟨Q, 1, none⟩ = some (.int .i64 y.idx) := Q11.out.cell 1
                        have q2 : w11.cell? ⟨Q, 2, none⟩ = some (.slice a9 y.subs.length c9) := Q11.out.cell 2
                        have qf := Q11.out.frozen
                        have hQl : Q < w11.heap.size := Q11.out.lt
                        have HB12 := hide (set3_belowP HB11.out HQ.out.1 (.int .i64 x.kind) (.int .i64 x.idx) (.slice a11 x.subs.length c11))
                        have Q12 := hide (set3_blkP Q11.out (.int .i64 x.kind) (.int .i64 x.idx) (.slice a11 x.subs.length c11))
                        have T12 : Hid (Blk (((w11.setCell ⟨Q, 0, none⟩ (.int .i64 x.kind)).setCell ⟨Q, 1, none⟩ (.int .i64 x.idx)).setCell ⟨Q, 2, none⟩ (.slice a11 x.subs.length c11)) T #[.int .i64 t.kind, .int .i64 t.idx, .slice a t.subs.length c] 24) := (set3_keepP _ _ _ T HQ.out.2.1).trans T11.out
                        have S12 : Hid (SlM (((w11.setCell ⟨Q, 0, none⟩ (.int .i64 x.kind)).setCell ⟨Q, 1, none⟩ (.int .i64 x.idx)).setCell ⟨Q, 2, none⟩ (.slice a11 x.subs.length c11)) (fun b => b ≠ Q) a11 x.subs) := S11.out.kept fun b h => set3_keepP _ _ _ b h
                        have m0 := T12.out.cell 0
                        have m1 := T12.out.cell 1
                        have m2 := T12.out.cell 2
                        go_wp2_with fail
                        generalize (((w11.setCell ⟨Q, 0, none⟩ (.int .i64 x.kind)).setCell ⟨Q, 1, none⟩ (.int .i64 x.idx)).setCell ⟨Q, 2, none⟩ (.slice a11 x.subs.length c11)) = w12 at *
                        refine (pPut_any W _ wc t _ (n : Int) w12 XR (V0.out _ HB12.out) (W0.out _ HB12.out)).mono ?_
                        rintro e wL ⟨hbL, hcs⟩
                        rw [HR.out] at hcs
                        have HBL := hide (HB12.out.trans (hbL.mono HB12.out.size))
                        have QL := hide (Q12.out.below hbL Q12.out.lt)
                        have SL := hide (S12.out.later hbL)
                        clear hbL m0 m1 m2 q0 q1 q2 qf hQl
                        obtain ⟨_, ax, cx, rfl, hsx⟩ | ⟨h0, _⟩ := hcs
                        · dsimp only at hsx ⊢
                          have HBM := hide (HBL.out.alloc HBL.out.size (.cells #[.int .i64 x.kind, .int .i64 x.idx, .slice ax x.subs.length cx] 24))
                          have QM := hide (QL.out.alloc (.cells #[.int .i64 x.kind, .int .i64 x.idx, .slice ax x.subs.length cx] 24))
                          have SM := hide (SL.out.later ((Below.refl wL.heap.size wL).alloc (Nat.le_refl _) (.cells #[.int .i64 x.kind, .int .i64 x.idx, .slice ax x.subs.length cx] 24)))
                          have SX := hide (hsx.later ((Below.refl wL.heap.size wL).alloc (Nat.le_refl _) (.cells #[.int .i64 x.kind, .int .i64 x.idx, .slice ax x.subs.length cx] 24)))
                          have q0 := QM.out.cell 0
                          have q1 := QM.out.cell 1
                          have q2 := QM.out.cell 2
                          clear hsx
                          go_wp2_with fail
                          refine (lam2_ok x _ _ _ _ _ ⟨ax, cx, rfl, SX.out⟩ ⟨a11, c11, rfl, SM.out⟩).mono ?_
                          rintro e wN ⟨rfl, hbN⟩
                          have HBN := hide (HBM.out.trans (hbN.mono HBM.out.size))
                          clear hbN
                          go_wp2_with fail
                          go_ret
                          exact ⟨rfl, HBN.out⟩
                        · exact absurd rfl h0
                      · have HR : Hid (pputR W t (n : Int) = ((endM false n f).1, ⟨0, 0, []⟩)) := by unfold Hid; rw [HPR2.out, if_neg h0]
                        clear HPR2
                        generalize (endM false n f).1 = er at *
                        have e1 : (er == 0) = false := by simpa using h0
                        have HB10 := hide (set3_belowP HB9.out HQ.out.1 (.int .i64 0) (.int .i64 0) (.slice none 0 0))
                        have Q10 := hide (set3_blkP Q9.out (.int .i64 0) (.int .i64 0) (.slice none 0 0))
                        have T10 : Hid (Blk (((w9.setCell ⟨Q, 0, none⟩ (.int .i64 0)).setCell ⟨Q, 1, none⟩ (.int .i64 0)).setCell ⟨Q, 2, none⟩ (.slice none 0 0)) T #[.int .i64 t.kind, .int .i64 t.idx, .slice a t.subs.length c] 24) := (set3_keepP _ _ _ T HQ.out.2.1).trans T9.out
                        have h0x : er ≠ 0 := h0
                        have m0 := T10.out.cell 0
                        have m1 := T10.out.cell 1
                        have m2 := T10.out.cell 2
                        go_wp2_with fail
                        refine (pPut_any W _ wc t _ (n : Int) _ XR (V0.out _ HB10.out) (W0.out _ HB10.out)).mono ?_
                        rintro e wL ⟨hbL, hcs⟩
                        rw [HR.out] at hcs
                        have HBL := hide (HB10.out.trans (hbL.mono HB10.out.size))
                        have QL := hide (Q10.out.below hbL Q10.out.lt)
                        clear hbL m0 m1 m2 q0 q1 q2 qf hQl
                        obtain ⟨h0, _⟩ | ⟨_, rfl⟩ := hcs
                        · exact absurd h0 h0x
                        · dsimp only
                          have HBM := hide (HBL.out.alloc HBL.out.size (.cells #[.int .i64 0, .int .i64 0, .slice none 0 0] 24))
                          have QM := hide (QL.out.alloc (.cells #[.int .i64 0, .int .i64 0, .slice none 0 0] 24))
                          have q0 := QM.out.cell 0
                          have q1 := QM.out.cell 1
                          have q2 := QM.out.cell 2
                          go_wp2_with fail
                          refine (lam2_errP er 0 0 none 0 0 _ h0x).mono ?_
                          rintro e wN ⟨rfl, hbN⟩
                          have HBN := hide (HBM.out.trans (hbN.mono HBM.out.size))
                          clear hbN
                          go_wp2_with fail
                          go_ret
                          exact ⟨rfl, HBN.out⟩
            · have h1 : (lamE 0 (W.length : Int) t == 0) = false := by simpa using hl
              have HR : Hid (pputR W t z = (lamE 0 (W.length : Int) t, ⟨0, 0, []⟩)) := by unfold Hid pputR; rw [show pputE W t z = lamE 0 (W.length : Int) t by unfold pputE; rw [if_neg H4.out.1, if_pos H4.out.2, if_neg hl], if_neg hl]
              generalize lamE 0 (W.length : Int) t = er at *
              have m0 := T4.out.cell 0
              have m1 := T4.out.cell 1
              have m2 := T4.out.cell 2
              go_wp2_with fail
              refine (pPut_any W _ wc t _ z _ XR (V0.out _ HB4.out) (W0.out _ HB4.out)).mono ?_
              rintro e wL ⟨hbL, hcs⟩
              rw [HR.out] at hcs
              have HBL := hide (HB4.out.trans (hbL.mono HB4.out.size))
              have QL := hide (Q4.out.below hbL Q4.out.lt)
              clear hbL m0 m1 m2
              obtain ⟨h0, _⟩ | ⟨_, rfl⟩ := hcs
              · exact absurd h0 hl
              · dsimp only
                have HBM := hide (HBL.out.alloc HBL.out.size (.cells #[.int .i64 0, .int .i64 0, .slice none 0 0] 24))
                have QM := hide (QL.out.alloc (.cells #[.int .i64 0, .int .i64 0, .slice none 0 0] 24))
                have q0 := QM.out.cell 0
                have q1 := QM.out.cell 1
                have q2 := QM.out.cell 2
                go_wp2_with fail
                refine (lam2_errP er 0 0 none 0 0 _ hl).mono ?_
                rintro e wN ⟨rfl, hbN⟩
                have HBN := hide (HBM.out.trans (hbN.mono HBM.out.size))
                clear hbN
                go_wp2_with fail
                go_ret
                exact ⟨rfl, HBN.out⟩
          · have h1 : (e0 == 0) = false := by simpa using hne
            have HR : Hid (pputR W t z = (e0, ⟨0, 0, []⟩)) := by
              have h : pputE W t z = e0 := by
                have h := HE0.out
                unfold pputE
                split at h
                · rename_i h5; rw [if_pos h5]; exact h
                · rename_i h5; rw [if_neg h5, if_neg (by rw [h]; exact hne)]; exact h
              unfold Hid pputR
              rw [h, if_neg hne]
            have HB3 := hide HBK.out
            have HB4 := hide (HBK.out.alloc HBK.out.size (.cells #[.int .i64 0, .int .i64 0, .slice none 0 0] 24))
            have T4 := hide (HTK.out.alloc (.cells #[.int .i64 0, .int .i64 0, .slice none 0 0] 24))
            have Q4 := hide (Blk.new wr #[.int .i64 0, .int .i64 0, .slice none 0 0] 24)
            have m0 := T4.out.cell 0
            have m1 := T4.out.cell 1
            have m2 := T4.out.cell 2
            go_wp2_with fail
            refine (pPut_any W _ wc t _ z _ XR (V0.out _ HB4.out) (W0.out _ HB4.out)).mono ?_
            rintro e wL ⟨hbL, hcs⟩
            rw [HR.out] at hcs
            have HBL := hide (HB4.out.trans (hbL.mono HB4.out.size))
            have QL := hide (Q4.out.below hbL Q4.out.lt)
            clear hbL m0 m1 m2
            obtain ⟨h0, _⟩ | ⟨_, rfl⟩ := hcs
            · exact absurd h0 hne
            · dsimp only
              have HBM := hide (HBL.out.alloc HBL.out.size (.cells #[.int .i64 0, .int .i64 0, .slice none 0 0] 24))
              have QM := hide (QL.out.alloc (.cells #[.int .i64 0, .int .i64 0, .slice none 0 0] 24))
              have q0 := QM.out.cell 0
              have q1 := QM.out.cell 1
              have q2 := QM.out.cell 2
              go_wp2_with fail
              refine (lam2_errP e0 0 0 none 0 0 _ hne).mono ?_
              rintro e wN ⟨rfl, hbN⟩
              have HBN := hide (HBM.out.trans (hbN.mono HBM.out.size))
              clear hbN
              go_wp2_with fail
              go_ret
              exact ⟨rfl, HBN.out⟩

end Go.Proofs.Ytaifameeoipjjaa
