/- Walks: a bracket, as the program makes it. -/
import Derived.Test.YtcdabjekppddjaaGreatDoorBk6
namespace Go.Proofs.YtcdabjekppddjaaGreatDoor
open Go.RowKit
set_option linter.unusedSimpArgs false
set_option linter.unusedVariables false
set_option maxRecDepth 8000

theorem br_end {w w1 : World} {X : Nat → Prop} {x : Tm} {q : Bool} {a : Option Addr} {c : Nat} (hs : Sl w1 (fun b => (X b ∧ b < w.heap.size) ∨ w.heap.size + 2 ≤ b) a x.args) (h0 : Below w.heap.size w w1) (u u' : Value) :
    BrPost w X (x, q) (.returned (.tuple #[.agg #[.string x.name, .slice a x.args.length c], .bool q])) ((w1.setCell ⟨w.heap.size + 1, 0, none⟩ u).setCell ⟨w.heap.size + 1, 1, none⟩ u') := by
  obtain ⟨v, hv, ht, hb⟩ := cl_end3 (c := c) hs h0 u u'
  cases hv
  exact ⟨_, rfl, ht, hb⟩
theorem br_end2 {w w1 : World} {X : Nat → Prop} {x : Tm} {q : Bool} {a : Option Addr} {c : Nat} {ob : Obj} (hs : Sl w1 (fun b => (X b ∧ b < w.heap.size) ∨ w.heap.size + 2 ≤ b) a x.args) (h0 : Below w.heap.size w w1) (u u' : Value) :
    BrPost w X (x, q) (.returned (.tuple #[.agg #[.string x.name, .slice a x.args.length c], .bool q])) (((w1.setCell ⟨w.heap.size + 1, 0, none⟩ u).setCell ⟨w.heap.size + 1, 1, none⟩ u').alloc ob) := by
  obtain ⟨v, hv, ht, hb⟩ := br_end (c := c) (q := q) hs h0 u u'
  exact ⟨v, hv, ht.later ((Below.refl _ _).alloc (Nat.le_refl _) ob), hb.alloc hb.size _⟩
theorem br_leaf_yes (v : ByteArray) (n : Nat) (s : ByteArray) (h : s = v) : brR v (n + 1) ⟨s, []⟩ = (⟨iB, []⟩, true) := by simp [brR, h]
theorem br_leaf_no (v : ByteArray) (n : Nat) (s : ByteArray) (h : s ≠ v) : brR v (n + 1) ⟨s, []⟩ = (⟨s, []⟩, false) := by simp [brR, h]
theorem br_ap {v : ByteArray} (hv : v ≠ apB) (n : Nat) (f y : Tm) : brR v (n + 1) (apT f y) = if (brR v n f).2 = false ∧ (brR v n y).2 = false then (apT f y, false) else
        if (brR v n f).2 = false ∧ y.name = v then ((brR v n f).1, true) else
        (apT (apT ⟨sB, []⟩ (alw (brR v n f))) (alw (brR v n y)), true) := by
  have hna : ¬ apB = v := fun h => hv h.symm
  unfold apT
  rw [brR, if_neg hna]
  rfl

set_option maxHeartbeats 4000000 in
theorem bracket_any (nm : ByteArray) (hv : nm ≠ apB) (n : Nat) : ∀ (t : Tm) (v : Value) (w : World) (X : Nat → Prop), sizeL [t] ≤ n → isC t = true → TV w X v t →
    Calls Tryz.prog 56 #[.string nm, v] w fun e w' => BrPost w X (brR nm n t) e w' := by
  induction n with
  | zero => intro t v w X h; have := size_posC t; omega
  | succ n ih =>
    intro t v w X hz hC htv
    have IH := hide ih
    clear ih
    obtain ⟨a, c, rfl, hs⟩ := htv
    rcases isC_cases hC with ⟨s, rfl⟩ | ⟨f, x, rfl, hcf, hcx⟩
    · have HSL : Hid (Sl w (fun b => X b) a (⟨s, []⟩ : Tm).args) := hs
      clear hs hC hz
      dsimp only [List.length_nil]
      by_cases he : s = nm
      · rw [br_leaf_yes nm n s he]
        have e1 : (s.toList == nm.toList) = true := bytes_yes he
        clear he
        go_enter Tryz.func56, Tryz.ntmps56
        go_wp2_with fail
        refine (symbol_any _ _).mono ?_
        rintro e w1 ⟨rfl, hb1⟩
        have HB1 : Hid (Below w.heap.size w w1) := (below2 _ _).trans (hb1.mono (by simp; omega))
        have HK0 : Hid (Blk ((w.alloc (.cells #[.string s, .slice a 0 c] 24)).alloc (.cells #[.string ⟨#[]⟩, .slice none 0 0] 24)) (w.heap.size + 1) #[.string ⟨#[]⟩, .slice none 0 0] 24) := by
          have h := Blk.new (w.alloc (.cells #[.string s, .slice a 0 c] 24)) #[.string ⟨#[]⟩, .slice none 0 0] 24
          unfold Hid
          simpa using h
        have HK := hide (HK0.out.below hb1 HK0.out.lt)
        have r0 : w1.cell? ⟨w.heap.size + 1, 0, none⟩ = some (.string ⟨#[]⟩) := HK.out.cell 0
        have r1 : w1.cell? ⟨w.heap.size + 1, 1, none⟩ = some (.slice none 0 0) := HK.out.cell 1
        have rf : ∀ i, w1.frozen? ⟨w.heap.size + 1, i, none⟩ = false := HK.out.frozen
        clear hb1 HK0
        go_wp2_with fail
        refine bodyPost_ret (v := .tuple #[.agg #[.string iB, .slice none 0 0], .bool true]) (by simp [results, Tryz.results56, go_sem, World.cell?_setCell_same, World.cell?_setCell_other, r0, r1, iB]) rfl ?_
        exact br_end (x := ⟨iB, []⟩) ⟨by simp, Or.inl rfl⟩ HB1.out _ _
      · rw [br_leaf_no nm n s he]
        have e1 : (s.toList == nm.toList) = false := bytes_no he
        clear he
        go_enter Tryz.func56, Tryz.ntmps56
        go_wp2_with fail
        refine bodyPost_ret (v := .tuple #[.agg #[.string s, .slice a 0 c], .bool false]) (by simp [results, Tryz.results56, go_sem]) rfl ?_
        refine ⟨_, rfl, ⟨a, c, rfl, (HSL.out.later ?_).mono fun b h _ => Or.inl h⟩, ?_⟩
        · exact below2 _ _
        · exact below2 _ _
    · have hsz := size_ap f x
      have p1 := size_posC f
      have p2 := size_posC x
      have hzf : sizeL [f] ≤ n := by omega
      have hzx : sizeL [x] ≤ n := by omega
      have HCF := hide hcf
      have HCX := hide hcx
      have e1 : (apB.toList == nm.toList) = false := bytes_no fun h => hv h.symm
      have HBR := hide (br_ap hv n f x)
      have HS : Hid (Sl w (fun b => X b ∧ b < w.heap.size) a (apT f x).args) := hs.mono fun b h1 h2 => ⟨h1, h2⟩
      obtain ⟨b, o, a1, c1, a2, c2, rfl, hb, d0, d1, d2, d3, hs1, hs2⟩ := sl_twoC (HS.out)
      have D0 := hide d0
      have D1 := hide d1
      have D2 := hide d2
      have D3 := hide d3
      have HS1 : Hid (TV w (fun b => X b ∧ b < w.heap.size) (.agg #[.string f.name, .slice a1 f.args.length c1]) f) := ⟨a1, c1, rfl, hs1⟩
      have HS2 : Hid (TV w (fun b => X b ∧ b < w.heap.size) (.agg #[.string x.name, .slice a2 x.args.length c2]) x) := ⟨a2, c2, rfl, hs2⟩
      have hll : (apT f x).args.length = 2 := rfl
      have hnn : (apT f x).name = apB := rfl
      rw [hll, hnn]
      have B0 : Hid (Below w.heap.size w ((w.alloc (.cells #[.string apB, .slice (some ⟨b, o, none⟩) 2 c] 24)).alloc (.cells #[.string ⟨#[]⟩, .slice none 0 0] 24))) := below2 _ _
      have KR0 : Hid (Blk ((w.alloc (.cells #[.string apB, .slice (some ⟨b, o, none⟩) 2 c] 24)).alloc (.cells #[.string ⟨#[]⟩, .slice none 0 0] 24)) (w.heap.size + 1) #[.string ⟨#[]⟩, .slice none 0 0] 24) := by
        have h := Blk.new (w.alloc (.cells #[.string apB, .slice (some ⟨b, o, none⟩) 2 c] 24)) #[.string ⟨#[]⟩, .slice none 0 0] 24
        unfold Hid
        simpa using h
      have KT0 : Hid (Blk ((w.alloc (.cells #[.string apB, .slice (some ⟨b, o, none⟩) 2 c] 24)).alloc (.cells #[.string ⟨#[]⟩, .slice none 0 0] 24)) w.heap.size #[.string apB, .slice (some ⟨b, o, none⟩) 2 c] 24) := (Blk.new w _ _).alloc _
      have hz0 : (((w.alloc (.cells #[.string apB, .slice (some ⟨b, o, none⟩) 2 c] 24)).alloc (.cells #[.string ⟨#[]⟩, .slice none 0 0] 24))).heap.size = w.heap.size + 2 := by simp
      have CB : Hid (∀ w', Below w.heap.size w w' → w'.cell? ⟨b, o, none⟩ = some (.string f.name) ∧ w'.cell? ⟨b, o + 1, none⟩ = some (.slice a1 f.args.length c1) ∧ w'.cell? ⟨b, o + 2, none⟩ = some (.string x.name) ∧ w'.cell? ⟨b, o + 3, none⟩ = some (.slice a2 x.args.length c2)) := fun w' h => ⟨(h.cell (p := ⟨b, o, none⟩) hb).trans D0.out, (h.cell (p := ⟨b, o + 1, none⟩) hb).trans D1.out, (h.cell (p := ⟨b, o + 2, none⟩) hb).trans D2.out, (h.cell (p := ⟨b, o + 3, none⟩) hb).trans D3.out⟩
      clear hs hs1 hs2 hC hz hsz p1 p2 hcf hcx hll hnn D0 D1 D2 D3
      go_enter Tryz.func56, Tryz.ntmps56
      go_wp2_with fail
      refine (IH.out f _ _ _ hzf HCF.out (HS1.out.later B0.out)).mono ?_
      rintro e w1 ⟨v1, rfl, ⟨af1, cf1, rfl, hsf⟩, hb1⟩
      have B1 := hide (B0.out.trans (hb1.mono (by omega)))
      have KR1 := hide (KR0.out.below hb1 KR0.out.lt)
      have KT1 := hide (KT0.out.below hb1 KT0.out.lt)
      have hsz1 := hb1.size
      have hw1 : w.heap.size + 2 ≤ w1.heap.size := by omega
      have SF1 : Hid (Sl w1 (fun b => (X b ∧ b < w.heap.size) ∨ w.heap.size + 2 ≤ b) af1 (brR nm n f).1.args) := hsf.mono fun b h _ => h.imp id fun h => by omega
      obtain ⟨g0, g1', g2', g3⟩ := CB.out w1 B1.out
      have t0 : w1.cell? ⟨w.heap.size, 0, none⟩ = some (.string apB) := KT1.out.cell 0
      have t1 : w1.cell? ⟨w.heap.size, 1, none⟩ = some (.slice (some ⟨b, o, none⟩) 2 c) := KT1.out.cell 1
      have t0A : ∀ o', (w1.alloc o').cell? ⟨w.heap.size, 0, none⟩ = some (.string apB) := fun o' => (KT1.out.alloc o').cell 0
      have t1A : ∀ o', (w1.alloc o').cell? ⟨w.heap.size, 1, none⟩ = some (.slice (some ⟨b, o, none⟩) 2 c) := fun o' => (KT1.out.alloc o').cell 1
      have cA : ∀ o', (w1.alloc o').cell? ⟨b, o + 2, none⟩ = some (.string x.name) ∧ (w1.alloc o').cell? ⟨b, o + 3, none⟩ = some (.slice a2 x.args.length c2) := fun o' => (CB.out _ (B1.out.alloc B1.out.size o')).2.2
      have c2A := fun o' => (cA o').1
      have c3A := fun o' => (cA o').2
      clear hb1 hsf d0 d1 d2 d3 hsz1 hz0 cA
      have hbw : b < w1.heap.size := by have := B1.out.size; omega
      have hb1' : Below w1.heap.size w1 (w1.alloc (.cells #[.string (brR nm n f).1.name, .slice af1 (brR nm n f).1.args.length cf1] 24)) := (Below.refl _ _).alloc (Nat.le_refl _) _
      have B1A := hide (B1.out.trans (hb1'.mono B1.out.size))
      have KR1A := hide (KR1.out.below hb1' KR1.out.lt)
      have KT1A := hide (KT1.out.below hb1' KT1.out.lt)
      have SF1A := hide (SF1.out.later hb1')
      have KF1A := hide (Blk.new w1 #[.string (brR nm n f).1.name, .slice af1 (brR nm n f).1.args.length cf1] 24)
      clear hb1'
      obtain ⟨f1, hf1⟩ : ∃ f1, (brR nm n f).1 = f1 := ⟨_, rfl⟩
      obtain ⟨q1, hq1⟩ : ∃ q1, (brR nm n f).2 = q1 := ⟨_, rfl⟩
      have HF1 := hide hf1
      have HQ1 := hide hq1
      rw [hf1] at B1A KR1A KT1A SF1A KF1A SF1 ⊢
      rw [hq1]
      clear hf1 hq1
      go_wp2_with fail
      refine (IH.out x _ _ _ hzx HCX.out (HS2.out.later B1A.out)).mono ?_
      rintro e w2 ⟨v2, rfl, ⟨ax2, cx2, rfl, hsx⟩, hb2⟩
      have B2 := hide (B1A.out.trans (hb2.mono B1A.out.size))
      have KR2 := hide (KR1A.out.below hb2 KR1A.out.lt)
      have KT2 := hide (KT1A.out.below hb2 KT1A.out.lt)
      have KF2 := hide (KF1A.out.below hb2 KF1A.out.lt)
      have SF2 := hide (SF1A.out.later hb2)
      have hw2 : w1.heap.size < w2.heap.size := KF2.out.lt
      have SX2 : Hid (Sl w2 (fun b => (X b ∧ b < w.heap.size) ∨ w.heap.size + 2 ≤ b) ax2 (brR nm n x).1.args) := hsx.mono fun b h _ => h.imp id fun h => by simp at h; omega
      have ST2 : Hid (Sl w2 (fun b => (X b ∧ b < w.heap.size) ∨ w.heap.size + 2 ≤ b) (some ⟨b, o, none⟩) (apT f x).args) := (HS.out.later B2.out).mono fun b h _ => Or.inl h
      obtain ⟨x1, hx1⟩ : ∃ x1, (brR nm n x).1 = x1 := ⟨_, rfl⟩
      obtain ⟨q2, hq2⟩ : ∃ q2, (brR nm n x).2 = q2 := ⟨_, rfl⟩
      have HP1 : Hid (brR nm n f = (f1, q1)) := by unfold Hid; rw [← HF1.out, ← HQ1.out]
      have HP2 : Hid (brR nm n x = (x1, q2)) := by unfold Hid; rw [← hx1, ← hq2]
      rw [hx1] at SX2 ⊢
      rw [hq2]
      clear hsx hb2 hx1 hq2 HF1 HQ1 g0 g1' g2' g3 t0 t1 t0A t1A c2A c3A
      have hwAs : Hid (Below w2.heap.size w2 (w2.alloc (.cells #[.string x1.name, .slice ax2 x1.args.length cx2] 24))) := (Below.refl _ _).alloc (Nat.le_refl _) _
      have KX := hide (Blk.new w2 #[.string x1.name, .slice ax2 x1.args.length cx2] 24)
      have KF := hide (KF2.out.below hwAs.out KF2.out.lt)
      have KR := hide (KR2.out.below hwAs.out KR2.out.lt)
      have KT := hide (KT2.out.below hwAs.out KT2.out.lt)
      have SF := hide (SF2.out.later hwAs.out)
      have SX := hide (SX2.out.later hwAs.out)
      have ST := hide (ST2.out.later hwAs.out)
      have BA := hide (B2.out.trans (hwAs.out.mono B2.out.size))
      have tA0 : ∀ o', (w2.alloc o').cell? ⟨w.heap.size, 0, none⟩ = some (.string apB) := fun o' => (KT2.out.alloc o').cell 0
      have tA1 : ∀ o', (w2.alloc o').cell? ⟨w.heap.size, 1, none⟩ = some (.slice (some ⟨b, o, none⟩) 2 c) := fun o' => (KT2.out.alloc o').cell 1
      have cA : ∀ o', (w2.alloc o').cell? ⟨b, o + 2, none⟩ = some (.string x.name) ∧ (w2.alloc o').cell? ⟨b, o + 3, none⟩ = some (.slice a2 x.args.length c2) := fun o' => (CB.out _ (B2.out.alloc B2.out.size o')).2.2
      have cA2 := fun o' => (cA o').1
      have cA3 := fun o' => (cA o').2
      have fA0 : ∀ o', (w2.alloc o').cell? ⟨w1.heap.size, 0, none⟩ = some (.string f1.name) := fun o' => (KF2.out.alloc o').cell 0
      have fA1 : ∀ o', (w2.alloc o').cell? ⟨w1.heap.size, 1, none⟩ = some (.slice af1 f1.args.length cf1) := fun o' => (KF2.out.alloc o').cell 1
      have rA0 : ∀ o', (w2.alloc o').cell? ⟨w.heap.size + 1, 0, none⟩ = some (.string ⟨#[]⟩) := fun o' => (KR2.out.alloc o').cell 0
      have rA1 : ∀ o', (w2.alloc o').cell? ⟨w.heap.size + 1, 1, none⟩ = some (.slice none 0 0) := fun o' => (KR2.out.alloc o').cell 1
      have rAf : ∀ o' i, (w2.alloc o').frozen? ⟨w.heap.size + 1, i, none⟩ = false := fun o' => (KR2.out.alloc o').frozen
      clear cA
      cases q1 with
      | false =>
        cases q2 with
        | false =>
          have HPA : Hid (brR nm (n + 1) (apT f x) = (apT f x, false)) := by unfold Hid; rw [HBR.out, HP1.out, HP2.out]; simp
          have t0 : w2.cell? ⟨w.heap.size, 0, none⟩ = some (.string apB) := KT2.out.cell 0
          have t1 : w2.cell? ⟨w.heap.size, 1, none⟩ = some (.slice (some ⟨b, o, none⟩) 2 c) := KT2.out.cell 1
          have u0 : (w2.alloc (.cells #[.string x1.name, .slice ax2 x1.args.length cx2] 24)).cell? ⟨w.heap.size, 0, none⟩ = some (.string apB) := KT.out.cell 0
          have u1 : (w2.alloc (.cells #[.string x1.name, .slice ax2 x1.args.length cx2] 24)).cell? ⟨w.heap.size, 1, none⟩ = some (.slice (some ⟨b, o, none⟩) 2 c) := KT.out.cell 1
          have r0 : w2.cell? ⟨w.heap.size + 1, 0, none⟩ = some (.string ⟨#[]⟩) := KR2.out.cell 0
          have r1 : w2.cell? ⟨w.heap.size + 1, 1, none⟩ = some (.slice none 0 0) := KR2.out.cell 1
          have rf : ∀ i, w2.frozen? ⟨w.heap.size + 1, i, none⟩ = false := KR2.out.frozen
          have hl2 : w.heap.size < w2.heap.size := by omega
          have hl3 : w.heap.size + 1 < w2.heap.size := by omega
          go_wp2_with fail
          refine bodyPost_ret (v := .tuple #[.agg #[.string apB, .slice (some ⟨b, o, none⟩) 2 c], .bool false]) (by simp [results, Tryz.results56, go_sem, World.cell?_setCell_same, World.cell?_setCell_other, r0, r1, hl3, World.cell?_alloc_old]) rfl ?_
          rw [HPA.out]
          exact br_end2 (x := apT f x) ST2.out B2.out _ _
        | true =>
          by_cases hxn : x.name = nm
          · have HPA : Hid (brR nm (n + 1) (apT f x) = (f1, true)) := by unfold Hid; rw [HBR.out, HP1.out, HP2.out]; simp [hxn]
            have e2 : (x.name.toList == nm.toList) = true := bytes_yes hxn
            clear hxn
            obtain ⟨_, _, g2', g3⟩ := CB.out _ BA.out
            obtain ⟨_, _, h2', h3⟩ := CB.out _ B2.out
            have t1 : w2.cell? ⟨w.heap.size, 1, none⟩ = some (.slice (some ⟨b, o, none⟩) 2 c) := KT2.out.cell 1
            have f0 : w2.cell? ⟨w1.heap.size, 0, none⟩ = some (.string f1.name) := KF2.out.cell 0
            have f1' : w2.cell? ⟨w1.heap.size, 1, none⟩ = some (.slice af1 f1.args.length cf1) := KF2.out.cell 1
            have r0 : w2.cell? ⟨w.heap.size + 1, 0, none⟩ = some (.string ⟨#[]⟩) := KR2.out.cell 0
            have r1 : w2.cell? ⟨w.heap.size + 1, 1, none⟩ = some (.slice none 0 0) := KR2.out.cell 1
            have rf : ∀ i, w2.frozen? ⟨w.heap.size + 1, i, none⟩ = false := KR2.out.frozen
            have hl2 : w.heap.size < w2.heap.size := by omega
            have hl3 : w.heap.size + 1 < w2.heap.size := by omega
            have hl4 : b < w2.heap.size := by omega
            go_wp2_with fail
            refine bodyPost_ret (v := .tuple #[.agg #[.string f1.name, .slice af1 f1.args.length cf1], .bool true]) (by simp [results, Tryz.results56, go_sem, World.cell?_setCell_same, World.cell?_setCell_other, r0, r1, hl3, World.cell?_alloc_old]) rfl ?_
            rw [HPA.out]
            exact br_end2 SF2.out B2.out _ _
          · obtain ⟨g1, hg1⟩ : ∃ g1, alw (f1, false) = g1 := ⟨_, rfl⟩
            obtain ⟨g2, hg2⟩ : ∃ g2, alw (x1, true) = g2 := ⟨_, rfl⟩
            have HPA : Hid (brR nm (n + 1) (apT f x) = (apT (apT ⟨sB, []⟩ g1) g2, true)) := by unfold Hid; rw [HBR.out, HP1.out, HP2.out, hg1, hg2]; simp [hxn]
            have HG1 := hide hg1
            have HG2 := hide hg2
            have e2 : (x.name.toList == nm.toList) = false := bytes_no hxn
            clear hxn hg1 hg2
            obtain ⟨_, _, h2', h3⟩ := CB.out _ B2.out
            have t1 : w2.cell? ⟨w.heap.size, 1, none⟩ = some (.slice (some ⟨b, o, none⟩) 2 c) := KT2.out.cell 1
            have hl2 : w.heap.size < w2.heap.size := by omega
            have hl4 : b < w2.heap.size := by omega
            go_wp2_with fail
            clear t1 h2' h3 hl2 hl4 e2
            have hzA : (w2.alloc (.cells #[.string x1.name, .slice ax2 x1.args.length cx2] 24)).heap.size = w2.heap.size + 1 := by simp
            clear tA0 tA1 cA2 cA3 fA0 fA1 rA0 rA1 rAf
            generalize hwA : w2.alloc (.cells #[.string x1.name, .slice ax2 x1.args.length cx2] 24) = wA at *
            have HSC : Hid (∀ w', Below wA.heap.size wA w' → w'.cell? ⟨w1.heap.size, 0, none⟩ = some (.string f1.name) ∧ w'.cell? ⟨w1.heap.size, 1, none⟩ = some (.slice af1 f1.args.length cf1) ∧ w'.cell? ⟨w2.heap.size, 0, none⟩ = some (.string x1.name) ∧ w'.cell? ⟨w2.heap.size, 1, none⟩ = some (.slice ax2 x1.args.length cx2)) := fun w' hb => ⟨(KF.out.below hb KF.out.lt).cell 0, (KF.out.below hb KF.out.lt).cell 1, (KX.out.below hb KX.out.lt).cell 0, (KX.out.below hb KX.out.lt).cell 1⟩
            have HSX : Hid (∀ w' u u', Below wA.heap.size wA w' → ((w'.setCell ⟨w.heap.size + 1, 0, none⟩ u).setCell ⟨w.heap.size + 1, 1, none⟩ u').cell? ⟨w1.heap.size, 0, none⟩ = some (.string f1.name) ∧ ((w'.setCell ⟨w.heap.size + 1, 0, none⟩ u).setCell ⟨w.heap.size + 1, 1, none⟩ u').cell? ⟨w1.heap.size, 1, none⟩ = some (.slice af1 f1.args.length cf1) ∧ ((w'.setCell ⟨w.heap.size + 1, 0, none⟩ u).setCell ⟨w.heap.size + 1, 1, none⟩ u').cell? ⟨w2.heap.size, 0, none⟩ = some (.string x1.name) ∧ ((w'.setCell ⟨w.heap.size + 1, 0, none⟩ u).setCell ⟨w.heap.size + 1, 1, none⟩ u').cell? ⟨w2.heap.size, 1, none⟩ = some (.slice ax2 x1.args.length cx2)) := fun w' u u' hb => by
              have k1 : Blk ((w'.setCell ⟨w.heap.size + 1, 0, none⟩ u).setCell ⟨w.heap.size + 1, 1, none⟩ u') w1.heap.size #[.string f1.name, .slice af1 f1.args.length cf1] 24 := ((KF.out.below hb KF.out.lt).setOther _ _ (by omega)).setOther _ _ (by omega)
              have k2 : Blk ((w'.setCell ⟨w.heap.size + 1, 0, none⟩ u).setCell ⟨w.heap.size + 1, 1, none⟩ u') w2.heap.size #[.string x1.name, .slice ax2 x1.args.length cx2] 24 := ((KX.out.below hb KX.out.lt).setOther _ _ (by omega)).setOther _ _ (by omega)
              exact ⟨k1.cell 0, k1.cell 1, k2.cell 0, k2.cell 1⟩
            have HSS := hide (HSC.out _ (Below.refl _ _))
            have AF : Hid (∀ w', Below wA.heap.size wA w' → Calls Tryz.prog 55 #[.agg #[.string f1.name, .slice af1 f1.args.length cf1], .bool false] w' fun e w'' => ∃ a' c', e = .returned (.agg #[.string g1.name, .slice a' g1.args.length c']) ∧ Sl w'' (fun b => (X b ∧ b < w.heap.size) ∨ w.heap.size + 2 ≤ b) a' g1.args ∧ Below w'.heap.size w' w'') := fun w' hb => by
              refine (always_any f1 false _ w' _ ⟨_, _, rfl, SF.out.later hb⟩).mono ?_
              rintro e w'' ⟨v'', rfl, ⟨a', c', rfl, hs''⟩, hb''⟩
              have hb3 := hb.size
              have hs4 : Sl w'' (fun b => (X b ∧ b < w.heap.size) ∨ w.heap.size + 2 ≤ b) a' (alw (f1, false)).args := hs''.mono fun b h _ => h.elim id fun h => Or.inr (by omega)
              rw [HG1.out] at hs4 ⊢
              exact ⟨a', c', rfl, hs4, hb''⟩
            have AX : Hid (∀ w', Below wA.heap.size wA w' → Calls Tryz.prog 55 #[.agg #[.string x1.name, .slice ax2 x1.args.length cx2], .bool true] w' fun e w'' => ∃ a' c', e = .returned (.agg #[.string g2.name, .slice a' g2.args.length c']) ∧ Sl w'' (fun b => (X b ∧ b < w.heap.size) ∨ w.heap.size + 2 ≤ b) a' g2.args ∧ Below w'.heap.size w' w'') := fun w' hb => by
              refine (always_any x1 true _ w' _ ⟨_, _, rfl, SX.out.later hb⟩).mono ?_
              rintro e w'' ⟨v'', rfl, ⟨a', c', rfl, hs''⟩, hb''⟩
              have hb3 := hb.size
              have hs4 : Sl w'' (fun b => (X b ∧ b < w.heap.size) ∨ w.heap.size + 2 ≤ b) a' (alw (x1, true)).args := hs''.mono fun b h _ => h.elim id fun h => Or.inr (by omega)
              rw [HG2.out] at hs4 ⊢
              exact ⟨a', c', rfl, hs4, hb''⟩
            clear SF SX HG1 HG2 hwA
            go_region_held3 (fun w' => w'.cell? ⟨w1.heap.size, 0, none⟩ = some (.string f1.name) ∧ w'.cell? ⟨w1.heap.size, 1, none⟩ = some (.slice af1 f1.args.length cf1) ∧ w'.cell? ⟨w2.heap.size, 0, none⟩ = some (.string x1.name) ∧ w'.cell? ⟨w2.heap.size, 1, none⟩ = some (.slice ax2 x1.args.length cx2)) (first | exact HSS.out | exact HSX.out _ _ _ k7 | exact z7 | exact z6 | exact z5 | exact z4 | exact z3 | go_keep)
              (first
                | (go_at_call 69; refine (symbol_any _ _).mono ?_; rintro e w3 ⟨rfl, hb3⟩; have k3 := drew_below (w := wA) hb3; have hz3 := k3.size; have z3 := HSC.out _ k3; clear hb3)
                | (go_at_call 55; refine (AF.out _ (by exact k3)).mono ?_; rintro e w4 ⟨a4, c4, rfl, hs4, hb4⟩; have k4 := k3.trans (hb4.mono hz3); have hz4 := k4.size; have z4 := HSC.out _ k4; have HS4 := hide hs4; clear hb4 hs4)
                | (go_at_call 68; refine (ap_any ⟨sB, []⟩ g1 _ _ _ (fun b => (X b ∧ b < w.heap.size) ∨ w.heap.size + 2 ≤ b) (by exact ⟨none, 0, rfl, ⟨by simp, Or.inl rfl⟩⟩) (by exact ⟨a4, c4, rfl, HS4.out⟩)).mono ?_; rintro e w5 ⟨v5, rfl, ⟨a5, c5, rfl, hs5⟩, hb5⟩; have k5 := k4.trans (hb5.mono hz4); have hz5 := k5.size; have z5 := HSC.out _ k5; have HS5 : Hid (Sl w5 (fun b => (X b ∧ b < w.heap.size) ∨ w.heap.size + 2 ≤ b) a5 (apT ⟨sB, []⟩ g1).args) := (hs5.mono fun b h _ => h.elim id fun h => Or.inr (by omega)); clear hb5 hs5)
                | (go_at_call 55; refine (AX.out _ (by exact k5)).mono ?_; rintro e w6 ⟨a6, c6, rfl, hs6, hb6⟩; have k6 := k5.trans (hb6.mono hz5); have hz6 := k6.size; have z6 := HSC.out _ k6; have HS6 := hide hs6; have HS56 := hide (HS5.out.later hb6); clear hb6 hs6)
                | (go_at_call 68; refine (ap_any (apT ⟨sB, []⟩ g1) g2 _ _ _ (fun b => (X b ∧ b < w.heap.size) ∨ w.heap.size + 2 ≤ b) (by exact ⟨a5, c5, rfl, HS56.out⟩) (by exact ⟨a6, c6, rfl, HS6.out⟩)).mono ?_; rintro e w7 ⟨v7, rfl, ⟨a7, c7, rfl, hs7⟩, hb7⟩; have k7 := k6.trans (hb7.mono hz6); have hz7 := k7.size; have z7 := HSC.out _ k7; have HS7 : Hid (Sl w7 (fun b => (X b ∧ b < w.heap.size) ∨ w.heap.size + 2 ≤ b) a7 (apT (apT ⟨sB, []⟩ g1) g2).args) := (hs7.mono fun b h _ => h.elim id fun h => Or.inr (by omega)); have HK7 := hide (KR.out.below k7 KR.out.lt); have r0 : w7.cell? ⟨w.heap.size + 1, 0, none⟩ = some (.string ⟨#[]⟩) := HK7.out.cell 0; have r1 : w7.cell? ⟨w.heap.size + 1, 1, none⟩ = some (.slice none 0 0) := HK7.out.cell 1; have rf : ∀ i, w7.frozen? ⟨w.heap.size + 1, i, none⟩ = false := HK7.out.frozen; clear hb7 hs7))
            have HB7 := hide (BA.out.trans (k7.mono BA.out.size))
            go_wp2_with fail
            refine bodyPost_ret (v := .tuple #[.agg #[.string (apT (apT ⟨sB, []⟩ g1) g2).name, .slice a7 (apT (apT ⟨sB, []⟩ g1) g2).args.length c7], .bool true]) (by simp [results, Tryz.results56, go_sem, World.cell?_setCell_same, World.cell?_setCell_other, r0, r1]) rfl ?_
            rw [HPA.out]
            exact br_end HS7.out HB7.out _ _
      | true =>
        obtain ⟨g1, hg1⟩ : ∃ g1, alw (f1, true) = g1 := ⟨_, rfl⟩
        obtain ⟨g2, hg2⟩ : ∃ g2, alw (x1, q2) = g2 := ⟨_, rfl⟩
        have HPA : Hid (brR nm (n + 1) (apT f x) = (apT (apT ⟨sB, []⟩ g1) g2, true)) := by unfold Hid; rw [HBR.out, HP1.out, HP2.out, hg1, hg2]; simp
        have HG1 := hide hg1
        have HG2 := hide hg2
        clear hg1 hg2
        go_wp2_with fail
        have hzA : (w2.alloc (.cells #[.string x1.name, .slice ax2 x1.args.length cx2] 24)).heap.size = w2.heap.size + 1 := by simp
        clear tA0 tA1 cA2 cA3 fA0 fA1 rA0 rA1 rAf
        generalize hwA : w2.alloc (.cells #[.string x1.name, .slice ax2 x1.args.length cx2] 24) = wA at *
        have HSC : Hid (∀ w', Below wA.heap.size wA w' → w'.cell? ⟨w1.heap.size, 0, none⟩ = some (.string f1.name) ∧ w'.cell? ⟨w1.heap.size, 1, none⟩ = some (.slice af1 f1.args.length cf1) ∧ w'.cell? ⟨w2.heap.size, 0, none⟩ = some (.string x1.name) ∧ w'.cell? ⟨w2.heap.size, 1, none⟩ = some (.slice ax2 x1.args.length cx2)) := fun w' hb => ⟨(KF.out.below hb KF.out.lt).cell 0, (KF.out.below hb KF.out.lt).cell 1, (KX.out.below hb KX.out.lt).cell 0, (KX.out.below hb KX.out.lt).cell 1⟩
        have HSX : Hid (∀ w' u u', Below wA.heap.size wA w' → ((w'.setCell ⟨w.heap.size + 1, 0, none⟩ u).setCell ⟨w.heap.size + 1, 1, none⟩ u').cell? ⟨w1.heap.size, 0, none⟩ = some (.string f1.name) ∧ ((w'.setCell ⟨w.heap.size + 1, 0, none⟩ u).setCell ⟨w.heap.size + 1, 1, none⟩ u').cell? ⟨w1.heap.size, 1, none⟩ = some (.slice af1 f1.args.length cf1) ∧ ((w'.setCell ⟨w.heap.size + 1, 0, none⟩ u).setCell ⟨w.heap.size + 1, 1, none⟩ u').cell? ⟨w2.heap.size, 0, none⟩ = some (.string x1.name) ∧ ((w'.setCell ⟨w.heap.size + 1, 0, none⟩ u).setCell ⟨w.heap.size + 1, 1, none⟩ u').cell? ⟨w2.heap.size, 1, none⟩ = some (.slice ax2 x1.args.length cx2)) := fun w' u u' hb => by
          have k1 : Blk ((w'.setCell ⟨w.heap.size + 1, 0, none⟩ u).setCell ⟨w.heap.size + 1, 1, none⟩ u') w1.heap.size #[.string f1.name, .slice af1 f1.args.length cf1] 24 := ((KF.out.below hb KF.out.lt).setOther _ _ (by omega)).setOther _ _ (by omega)
          have k2 : Blk ((w'.setCell ⟨w.heap.size + 1, 0, none⟩ u).setCell ⟨w.heap.size + 1, 1, none⟩ u') w2.heap.size #[.string x1.name, .slice ax2 x1.args.length cx2] 24 := ((KX.out.below hb KX.out.lt).setOther _ _ (by omega)).setOther _ _ (by omega)
          exact ⟨k1.cell 0, k1.cell 1, k2.cell 0, k2.cell 1⟩
        have HSS := hide (HSC.out _ (Below.refl _ _))
        have AF : Hid (∀ w', Below wA.heap.size wA w' → Calls Tryz.prog 55 #[.agg #[.string f1.name, .slice af1 f1.args.length cf1], .bool true] w' fun e w'' => ∃ a' c', e = .returned (.agg #[.string g1.name, .slice a' g1.args.length c']) ∧ Sl w'' (fun b => (X b ∧ b < w.heap.size) ∨ w.heap.size + 2 ≤ b) a' g1.args ∧ Below w'.heap.size w' w'') := fun w' hb => by
          refine (always_any f1 true _ w' _ ⟨_, _, rfl, SF.out.later hb⟩).mono ?_
          rintro e w'' ⟨v'', rfl, ⟨a', c', rfl, hs''⟩, hb''⟩
          have hb3 := hb.size
          have hs4 : Sl w'' (fun b => (X b ∧ b < w.heap.size) ∨ w.heap.size + 2 ≤ b) a' (alw (f1, true)).args := hs''.mono fun b h _ => h.elim id fun h => Or.inr (by omega)
          rw [HG1.out] at hs4 ⊢
          exact ⟨a', c', rfl, hs4, hb''⟩
        have AX : Hid (∀ w', Below wA.heap.size wA w' → Calls Tryz.prog 55 #[.agg #[.string x1.name, .slice ax2 x1.args.length cx2], .bool q2] w' fun e w'' => ∃ a' c', e = .returned (.agg #[.string g2.name, .slice a' g2.args.length c']) ∧ Sl w'' (fun b => (X b ∧ b < w.heap.size) ∨ w.heap.size + 2 ≤ b) a' g2.args ∧ Below w'.heap.size w' w'') := fun w' hb => by
          refine (always_any x1 q2 _ w' _ ⟨_, _, rfl, SX.out.later hb⟩).mono ?_
          rintro e w'' ⟨v'', rfl, ⟨a', c', rfl, hs''⟩, hb''⟩
          have hb3 := hb.size
          have hs4 : Sl w'' (fun b => (X b ∧ b < w.heap.size) ∨ w.heap.size + 2 ≤ b) a' (alw (x1, q2)).args := hs''.mono fun b h _ => h.elim id fun h => Or.inr (by omega)
          rw [HG2.out] at hs4 ⊢
          exact ⟨a', c', rfl, hs4, hb''⟩
        clear SF SX HG1 HG2 hwA
        go_region_held3 (fun w' => w'.cell? ⟨w1.heap.size, 0, none⟩ = some (.string f1.name) ∧ w'.cell? ⟨w1.heap.size, 1, none⟩ = some (.slice af1 f1.args.length cf1) ∧ w'.cell? ⟨w2.heap.size, 0, none⟩ = some (.string x1.name) ∧ w'.cell? ⟨w2.heap.size, 1, none⟩ = some (.slice ax2 x1.args.length cx2)) (first | exact HSS.out | exact HSX.out _ _ _ k7 | exact z7 | exact z6 | exact z5 | exact z4 | exact z3 | go_keep)
          (first
            | (go_at_call 69; refine (symbol_any _ _).mono ?_; rintro e w3 ⟨rfl, hb3⟩; have k3 := drew_below (w := wA) hb3; have hz3 := k3.size; have z3 := HSC.out _ k3; clear hb3)
            | (go_at_call 55; refine (AF.out _ (by exact k3)).mono ?_; rintro e w4 ⟨a4, c4, rfl, hs4, hb4⟩; have k4 := k3.trans (hb4.mono hz3); have hz4 := k4.size; have z4 := HSC.out _ k4; have HS4 := hide hs4; clear hb4 hs4)
            | (go_at_call 68; refine (ap_any ⟨sB, []⟩ g1 _ _ _ (fun b => (X b ∧ b < w.heap.size) ∨ w.heap.size + 2 ≤ b) (by exact ⟨none, 0, rfl, ⟨by simp, Or.inl rfl⟩⟩) (by exact ⟨a4, c4, rfl, HS4.out⟩)).mono ?_; rintro e w5 ⟨v5, rfl, ⟨a5, c5, rfl, hs5⟩, hb5⟩; have k5 := k4.trans (hb5.mono hz4); have hz5 := k5.size; have z5 := HSC.out _ k5; have HS5 : Hid (Sl w5 (fun b => (X b ∧ b < w.heap.size) ∨ w.heap.size + 2 ≤ b) a5 (apT ⟨sB, []⟩ g1).args) := (hs5.mono fun b h _ => h.elim id fun h => Or.inr (by omega)); clear hb5 hs5)
            | (go_at_call 55; refine (AX.out _ (by exact k5)).mono ?_; rintro e w6 ⟨a6, c6, rfl, hs6, hb6⟩; have k6 := k5.trans (hb6.mono hz5); have hz6 := k6.size; have z6 := HSC.out _ k6; have HS6 := hide hs6; have HS56 := hide (HS5.out.later hb6); clear hb6 hs6)
            | (go_at_call 68; refine (ap_any (apT ⟨sB, []⟩ g1) g2 _ _ _ (fun b => (X b ∧ b < w.heap.size) ∨ w.heap.size + 2 ≤ b) (by exact ⟨a5, c5, rfl, HS56.out⟩) (by exact ⟨a6, c6, rfl, HS6.out⟩)).mono ?_; rintro e w7 ⟨v7, rfl, ⟨a7, c7, rfl, hs7⟩, hb7⟩; have k7 := k6.trans (hb7.mono hz6); have hz7 := k7.size; have z7 := HSC.out _ k7; have HS7 : Hid (Sl w7 (fun b => (X b ∧ b < w.heap.size) ∨ w.heap.size + 2 ≤ b) a7 (apT (apT ⟨sB, []⟩ g1) g2).args) := (hs7.mono fun b h _ => h.elim id fun h => Or.inr (by omega)); have HK7 := hide (KR.out.below k7 KR.out.lt); have r0 : w7.cell? ⟨w.heap.size + 1, 0, none⟩ = some (.string ⟨#[]⟩) := HK7.out.cell 0; have r1 : w7.cell? ⟨w.heap.size + 1, 1, none⟩ = some (.slice none 0 0) := HK7.out.cell 1; have rf : ∀ i, w7.frozen? ⟨w.heap.size + 1, i, none⟩ = false := HK7.out.frozen; clear hb7 hs7))
        have HB7 := hide (BA.out.trans (k7.mono BA.out.size))
        go_wp2_with fail
        refine bodyPost_ret (v := .tuple #[.agg #[.string (apT (apT ⟨sB, []⟩ g1) g2).name, .slice a7 (apT (apT ⟨sB, []⟩ g1) g2).args.length c7], .bool true]) (by simp [results, Tryz.results56, go_sem, World.cell?_setCell_same, World.cell?_setCell_other, r0, r1]) rfl ?_
        rw [HPA.out]
        exact br_end HS7.out HB7.out _ _
end Go.Proofs.YtcdabjekppddjaaGreatDoor
