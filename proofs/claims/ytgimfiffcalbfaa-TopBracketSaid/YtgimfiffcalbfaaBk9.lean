/- Walks: brackets whole. Plain: names in brackets. -/
import Derived.Test.YtgimfiffcalbfaaBk8
import Derived.Test.YtgimfiffcalbfaaBk7
import Derived.Test.YtgimfiffcalbfaaCb13
namespace Go.Proofs.Ytgimfiffcalbfaa
open Go.RowKit
set_option linter.unusedSimpArgs false
set_option linter.unusedVariables false
set_option maxRecDepth 8000

theorem err_apI {f y : Tm} (he : errL [apT f y] = 0) : errL [f] = 0 ∧ errL [y] = 0 := by
  have h3 : errL [f, y] = 0 := by
    have e1 : nameB apB = true := by decide
    have e2 : varB apB = false := by decide
    unfold apT at he
    simp only [errL, e1, e2] at he
    apply Classical.byContradiction
    intro hn
    simp [hn] at he
  rw [errL_cons] at h3
  by_cases h4 : errL [f] = 0
  · rw [if_pos h4] at h3; exact ⟨h4, h3⟩
  · rw [if_neg h4] at h3; exact absurd h3 h4
theorem br_err {v : ByteArray} (hv : v ≠ apB) (n : Nat) : ∀ t : Tm, sizeL [t] ≤ n → isC t = true → errL [t] = 0 → errL [(brR v n t).1] = 0 := by
  have li : errL [(⟨iB, []⟩ : Tm)] = 0 := err_leaf (by decide)
  have lk : errL [(⟨kB, []⟩ : Tm)] = 0 := err_leaf (by decide)
  have ls : errL [(⟨sB, []⟩ : Tm)] = 0 := err_leaf (by decide)
  have ha : ∀ p : Tm × Bool, errL [p.1] = 0 → errL [alw p] = 0 := fun p h => by
    unfold alw
    split
    · exact h
    · exact err_ap lk h
  induction n with
  | zero => intro t h; have := size_posC t; omega
  | succ n ih =>
    intro t h hc he
    rcases isC_cases hc with ⟨s, rfl⟩ | ⟨f, y, rfl, h1, h2⟩
    · by_cases e : s = v
      · rw [br_leaf_yes v n s e]; exact li
      · rw [br_leaf_no v n s e]; exact he
    · have hsz := size_ap f y
      have a1 := size_posC f
      have a2 := size_posC y
      have hfy := err_apI he
      have f1 := ih f (by omega) h1 hfy.1
      have y1 := ih y (by omega) h2 hfy.2
      rw [br_ap hv]
      split
      · exact he
      · split
        · exact f1
        · exact err_ap (err_ap ls (ha _ f1)) (ha _ y1)
theorem alw_err {v : ByteArray} (hv : v ≠ apB) {t : Tm} (hc : isC t = true) (he : errL [t] = 0) : errL [alw (brR v (sizeL [t]) t)] = 0 := by
  have h := br_err hv _ t (Nat.le_refl _) hc he
  unfold alw
  split
  · exact h
  · exact err_ap (err_leaf (by decide)) h
theorem alw_size {v : ByteArray} {t : Tm} (hc : isC t = true) : sizeL [alw (brR v (sizeL [t]) t)] ≤ 5 * sizeL [t] := by
  have h := br_size (v := v) _ t (Nat.le_refl _) hc
  have := size_posC t
  unfold alw
  split
  · omega
  · have e := size_ap ⟨kB, []⟩ (brR v (sizeL [t]) t).1
    have e2 : sizeL [(⟨kB, []⟩ : Tm)] = 1 := by simp [sizeL]
    omega
theorem alw_isC {v : ByteArray} (hv : v ≠ apB) {t : Tm} (hc : isC t = true) : isC (alw (brR v (sizeL [t]) t)) = true := by
  have h1 := (br_law hv (x := ⟨kB, []⟩) (isC_leaf _) _ t (Nat.le_refl _) hc).1
  unfold alw
  split
  · exact h1
  · rw [isC_ap, isC_leaf, h1]; rfl
theorem err_name {t : Tm} (h : errL [t] = 0) : nameB t.name = true := by
  obtain ⟨s, l⟩ := t
  cases hn : nameB s with
  | true => rfl
  | false => simp [errL, hn] at h

set_option maxHeartbeats 2000000 in
theorem without_any (nm : ByteArray) (hv : nm ≠ apB) (t : Tm) (hC : isC t = true) (v : Value) (w : World) (X : Nat → Prop) (htv : TV w X v t) :
    Calls Try.prog 17 #[.string nm, v] w fun e w' => TPost w X (alw (brR nm (sizeL [t]) t)) e w' := by
  obtain ⟨a, c, rfl, hs⟩ := htv
  have HS : Hid (TV w (fun b => X b ∧ b < w.heap.size) (.agg #[.string t.name, .slice a t.args.length c]) t) := ⟨a, c, rfl, hs.mono fun b h1 h2 => ⟨h1, h2⟩⟩
  have HK : Hid (Blk ((w.alloc (.cells #[.string t.name, .slice a t.args.length c] 25)).alloc (.cells #[.string ⟨#[]⟩, .slice none 0 0] 25)) (w.heap.size + 1) #[.string ⟨#[]⟩, .slice none 0 0] 25) := by
    have h := Blk.new (w.alloc (.cells #[.string t.name, .slice a t.args.length c] 25)) #[.string ⟨#[]⟩, .slice none 0 0] 25
    unfold Hid
    simpa using h
  have HB0 : Hid (Below w.heap.size w ((w.alloc (.cells #[.string t.name, .slice a t.args.length c] 25)).alloc (.cells #[.string ⟨#[]⟩, .slice none 0 0] 25))) := below2 _ _
  have hz0 : ((w.alloc (.cells #[.string t.name, .slice a t.args.length c] 25)).alloc (.cells #[.string ⟨#[]⟩, .slice none 0 0] 25)).heap.size = w.heap.size + 2 := by simp
  have HBR := hide (bracket_any nm hv _ t _ _ _ (Nat.le_refl _) hC (HS.out.later HB0.out))
  obtain ⟨t1, q1, hbr⟩ : ∃ t1 q1, brR nm (sizeL [t]) t = (t1, q1) := ⟨_, _, rfl⟩
  rw [hbr] at HBR ⊢
  clear hs hbr
  go_enter Try.func17, Try.ntmps17
  go_wp2_with fail
  refine HBR.out.mono ?_
  rintro e w1 ⟨v1, rfl, ⟨a1, c1, rfl, hs1⟩, hb1⟩
  have B1 := hide (HB0.out.trans (hb1.mono (by omega)))
  have K1 := hide (HK.out.below hb1 HK.out.lt)
  have hsz1 := hb1.size
  have S1 : Hid (Sl w1 (fun b => (X b ∧ b < w.heap.size) ∨ w.heap.size + 2 ≤ b) a1 t1.args) := hs1.mono fun b h _ => h.imp id fun h => by omega
  have hw1 : w.heap.size + 2 ≤ w1.heap.size := by omega
  clear hs1 hb1 hsz1 HBR
  go_wp2_with fail
  refine (always_any t1 q1 _ _ _ ⟨_, _, rfl, S1.out⟩).mono ?_
  rintro e w2 ⟨v2, rfl, ⟨a2, c2, rfl, hs2⟩, hb2⟩
  have B2 := hide (B1.out.trans (hb2.mono B1.out.size))
  have K2 := hide (K1.out.below hb2 K1.out.lt)
  have S2 : Hid (Sl w2 (fun b => (X b ∧ b < w.heap.size) ∨ w.heap.size + 2 ≤ b) a2 (alw (t1, q1)).args) := hs2.mono fun b h _ => h.elim id fun h => Or.inr (by omega)
  have r0 : w2.cell? ⟨w.heap.size + 1, 0, none⟩ = some (.string ⟨#[]⟩) := K2.out.cell 0
  have r1 : w2.cell? ⟨w.heap.size + 1, 1, none⟩ = some (.slice none 0 0) := K2.out.cell 1
  have rf : ∀ i, w2.frozen? ⟨w.heap.size + 1, i, none⟩ = false := K2.out.frozen
  clear hs2 hb2
  obtain ⟨t2, ht2⟩ : ∃ t2, alw (t1, q1) = t2 := ⟨_, rfl⟩
  have HT2 := hide ht2
  rw [ht2] at S2 ⊢
  clear ht2
  go_wp2_with fail
  refine bodyPost_ret (v := .agg #[.string t2.name, .slice a2 t2.args.length c2]) (by simp [results, Try.results17, go_sem, World.cell?_setCell_same, World.cell?_setCell_other, r0, r1]) rfl ?_
  rw [HT2.out]
  exact cl_end3 S2.out B2.out _ _

/-- The variable that is taken out. -/
def xB : ByteArray := ⟨#[88]⟩
theorem bk_end {w w1 : World} {X : Nat → Prop} {x : Tm} {a : Option Addr} {c : Nat} (hs : Sl w1 (fun b => (X b ∧ b < w.heap.size) ∨ w.heap.size + 2 ≤ b) a x.args) (h0 : Below w.heap.size w w1) (u u' : Value) :
    TPost w X x (.returned (.agg #[.string x.name, .slice a x.args.length c])) ((w1.setCell ⟨w.heap.size + 1, 0, none⟩ u).setCell ⟨w.heap.size + 1, 1, none⟩ u') := cl_end3 hs h0 u u'
def BkPost (w : World) (X : Nat → Prop) (t : Tm) (e : Ending) (w' : World) : Prop :=
  ∃ a c, e = .returned (.tuple #[.agg #[.string t.name, .slice a t.args.length c], .int .i64 0]) ∧ Sl w' (fun b => X b ∨ w.heap.size ≤ b) a t.args ∧ Below w.heap.size w w'
set_option maxHeartbeats 2000000 in
theorem bracketX_any (t : Tm) (hC : isC t = true) (hE : combE t = 0) (hz : sizeL [t] ≤ 200) (v : Value) (w : World) (X : Nat → Prop) (htv : TV w X v t) :
    Calls Try.prog 6 #[.string xB, v] w fun e w' => BkPost w X (alw (brR xB (sizeL [t]) t)) e w' := by
  have hvn : xB ≠ apB := by decide
  obtain ⟨a, c, rfl, hs⟩ := htv
  have HS : Hid (TV w (fun b => X b ∧ b < w.heap.size) (.agg #[.string t.name, .slice a t.args.length c]) t) := ⟨a, c, rfl, hs.mono fun b h1 h2 => ⟨h1, h2⟩⟩
  have HK : Hid (Blk ((w.alloc (.cells #[.string t.name, .slice a t.args.length c] 25)).alloc (.cells #[.string ⟨#[]⟩, .slice none 0 0] 25)) (w.heap.size + 1) #[.string ⟨#[]⟩, .slice none 0 0] 25) := by
    have h := Blk.new (w.alloc (.cells #[.string t.name, .slice a t.args.length c] 25)) #[.string ⟨#[]⟩, .slice none 0 0] 25
    unfold Hid
    simpa using h
  have HT : Hid (Blk ((w.alloc (.cells #[.string t.name, .slice a t.args.length c] 25)).alloc (.cells #[.string ⟨#[]⟩, .slice none 0 0] 25)) w.heap.size #[.string t.name, .slice a t.args.length c] 25) := (Blk.new w _ _).alloc _
  have HB0 : Hid (Below w.heap.size w ((w.alloc (.cells #[.string t.name, .slice a t.args.length c] 25)).alloc (.cells #[.string ⟨#[]⟩, .slice none 0 0] 25))) := below2 _ _
  have hz0 : ((w.alloc (.cells #[.string t.name, .slice a t.args.length c] 25)).alloc (.cells #[.string ⟨#[]⟩, .slice none 0 0] 25)).heap.size = w.heap.size + 2 := by simp
  have HN : Hid (∀ w' : World, Calls Try.prog 14 #[.string xB] w' fun e w'' => e = .returned (.bool true) ∧ w'' = w') := fun w' => by
    have h := isName_any xB w'
    rw [show nameB xB = true by decide] at h
    exact h
  have HV : Hid (∀ w' : World, Calls Try.prog 15 #[.string xB] w' fun e w'' => e = .returned (.bool true) ∧ w'' = w') := fun w' => by
    have h := isVariable_any xB w' (by decide)
    rw [show varB xB = true by decide] at h
    exact h
  have HSM : Hid (sizeL [alw (brR xB (sizeL [t]) t)] ≤ 1000) := by have := alw_size (v := xB) hC; unfold Hid; omega
  have HE := hide hE
  clear hs hE
  go_enter Try.func6, Try.ntmps6
  go_wp2_with fail
  refine (HN.out _).mono ?_
  rintro e w0 ⟨rfl, rfl⟩
  go_wp2_with fail
  refine (HV.out _).mono ?_
  rintro e w0 ⟨rfl, rfl⟩
  go_wp2_with fail
  generalize ((w.alloc (.cells #[.string t.name, .slice a t.args.length c] 25)).alloc (.cells #[.string ⟨#[]⟩, .slice none 0 0] 25)) = w0 at *
  refine (ccheck_any t _ _ _ (HS.out.later HB0.out)).mono ?_
  rintro e w1 ⟨rfl, hb1⟩
  rw [HE.out]
  have B1 := hide (HB0.out.trans (hb1.mono (by omega)))
  have K1 := hide (HK.out.below hb1 HK.out.lt)
  have T1 := hide (HT.out.below hb1 HT.out.lt)
  have hw1 : w.heap.size + 2 ≤ w1.heap.size := by have := hb1.size; omega
  have t0 : w1.cell? ⟨w.heap.size, 0, none⟩ = some (.string t.name) := T1.out.cell 0
  have t1 : w1.cell? ⟨w.heap.size, 1, none⟩ = some (.slice a t.args.length c) := T1.out.cell 1
  clear hb1 HK HT HB0 hz0 HN HV
  go_wp2_with fail
  refine (copyOf_any t _ _ _ (HS.out.later B1.out) (by omega)).mono ?_
  rintro e w2 ⟨v2, rfl, hv2, hb2⟩
  have B2 := hide (B1.out.trans (hb2.mono B1.out.size))
  have K2 := hide (K1.out.below hb2 K1.out.lt)
  have hw2 : w.heap.size + 2 ≤ w2.heap.size := by have := hb2.size; omega
  have V2 : Hid (TV w2 (fun b => w.heap.size + 2 ≤ b) v2 t) := hv2.mono fun b h _ => by omega
  clear hb2 hv2 t0 t1 T1
  go_wp2_with fail
  refine (without_any xB hvn t hC _ _ _ V2.out).mono ?_
  rintro e w3 ⟨v3, rfl, ⟨a3, c3, rfl, hs3⟩, hb3⟩
  have B3 := hide (B2.out.trans (hb3.mono B2.out.size))
  have K3 := hide (K2.out.below hb3 K2.out.lt)
  have hw3 : w.heap.size + 2 ≤ w3.heap.size := by have := hb3.size; omega
  have S3 : Hid (Sl w3 (fun b => (X b ∧ b < w.heap.size) ∨ w.heap.size + 2 ≤ b) a3 (alw (brR xB (sizeL [t]) t)).args) := hs3.mono fun b h _ => Or.inr (by omega)
  clear hb3 hs3
  obtain ⟨y, hy⟩ : ∃ y, alw (brR xB (sizeL [t]) t) = y := ⟨_, rfl⟩
  have HY := hide hy
  rw [hy] at S3 HSM ⊢
  clear hy
  have q0 : ∀ o', (w3.alloc o').cell? ⟨w.heap.size + 1, 0, none⟩ = some (.string ⟨#[]⟩) := fun o' => (K3.out.alloc o').cell 0
  go_wp2_with fail
  refine (tooGreat_any y _ _ _ ⟨_, _, rfl, S3.out.later ((Below.refl _ _).alloc (Nat.le_refl _) _)⟩).mono ?_
  rintro e w4 ⟨rfl, hb4⟩
  have hd : decide (2000 < sizeL [y]) = false := decide_eq_false (by have := HSM.out; omega)
  rw [hd]
  have hb4' : Below w3.heap.size w3 w4 := ((Below.refl _ _).alloc (Nat.le_refl _) _).trans (hb4.mono (by simp))
  have B4 := hide (B3.out.trans (hb4'.mono B3.out.size))
  have K4 := hide (K3.out.below hb4' K3.out.lt)
  have S4 := hide (S3.out.later hb4')
  have Y4 := hide ((Blk.new w3 #[.string y.name, .slice a3 y.args.length c3] 25).below hb4 (by simp))
  have y0 : w4.cell? ⟨w3.heap.size, 0, none⟩ = some (.string y.name) := Y4.out.cell 0
  have y1 : w4.cell? ⟨w3.heap.size, 1, none⟩ = some (.slice a3 y.args.length c3) := Y4.out.cell 1
  have r0 : w4.cell? ⟨w.heap.size + 1, 0, none⟩ = some (.string ⟨#[]⟩) := K4.out.cell 0
  have r1 : w4.cell? ⟨w.heap.size + 1, 1, none⟩ = some (.slice none 0 0) := K4.out.cell 1
  have rf : ∀ i, w4.frozen? ⟨w.heap.size + 1, i, none⟩ = false := K4.out.frozen
  clear hb4 hb4' hd q0
  go_wp2_with fail
  refine bodyPost_ret (v := .tuple #[.agg #[.string y.name, .slice a3 y.args.length c3], .int .i64 0]) (by simp [results, Try.results6, go_sem, World.cell?_setCell_same, World.cell?_setCell_other, r0, r1]) rfl ?_
  rw [HY.out]
  obtain ⟨v9, h9, ⟨a9, c9, h10, hs9⟩, hb9⟩ := bk_end (c := c3) S4.out B4.out (.string y.name) (.slice a3 y.args.length c3)
  subst h10
  cases h9
  exact ⟨_, _, rfl, hs9, hb9⟩
#print axioms bracketX_any
end Go.Proofs.Ytgimfiffcalbfaa
