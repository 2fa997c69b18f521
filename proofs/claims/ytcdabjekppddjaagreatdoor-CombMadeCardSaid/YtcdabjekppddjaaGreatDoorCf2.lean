/- Walks: the document's brackets. -/
import Derived.Test.YtcdabjekppddjaaGreatDoorCf1
import Derived.Test.YtcdabjekppddjaaGreatDoorW142o
import Derived.Deep.RegionHeld3
import Derived.Deep.DeepCutAuto
namespace Go.Proofs.YtcdabjekppddjaaGreatDoor
open Go.RowKit
set_option linter.unusedSimpArgs false
set_option linter.unusedVariables false
set_option maxRecDepth 8000

theorem leafD_any (s : ByteArray) (w : World) :
    Calls Tryz.prog 24 #[.string s] w fun e w' => e = .returned (.agg #[.string s, .slice none 0 0]) ∧ Below w.heap.size w w' := by
  go_enter Tryz.func24, Tryz.ntmps24
  go_wp2_with fail
  have hb := Blk.new w #[.string s, .slice none 0 0] 24
  have c0 := hb.cell 0
  have c1 := hb.cell 1
  refine bodyPost_ret (v := .agg #[.string s, .slice none 0 0]) (by simp [results, Tryz.results24, go_sem, c0, c1]) rfl ⟨rfl, (Below.refl _ _).alloc (Nat.le_refl _) _⟩

theorem cell_ltC {w : World} {b o : Nat} {v : Value} (h : w.cell? ⟨b, o, none⟩ = some v) : b < w.heap.size := World.block_lt_of_cell? w _ h
/-- A name stands in a term, just if the bracket finds it. -/
theorem br_oft {v : ByteArray} (hv : v ≠ apB) (n : Nat) : ∀ t : Tm, sizeL [t] ≤ n → isC t = true → ((brR v n t).2 = false ↔ oftL v [t] = 0) := by
  induction n with
  | zero => intro t h; have := size_posC t; omega
  | succ n ih =>
    intro t hz hc
    rcases isC_cases hc with ⟨s, rfl⟩ | ⟨f, x, rfl, h1, h2⟩
    · by_cases h : s = v
      · rw [br_leaf_yes _ _ _ h]; simp [oftL, preL, h]
      · rw [br_leaf_no _ _ _ h]; simp [oftL, preL, h]
    · rw [size_ap] at hz
      have a := ih f (by omega) h1
      have b := ih x (by omega) h2
      have e : oftL v [apT f x] = oftL v [f] + oftL v [x] := by
        have hna : ¬ apB = v := fun h => hv h.symm
        have e : preL [apT f x] = apT f x :: (preL [f] ++ preL [x]) := by
          obtain ⟨a, b⟩ := f
          obtain ⟨c, d⟩ := x
          simp [apT, preL]
        unfold oftL
        rw [e, List.filter_cons, if_neg (by simp [apT, hna]), List.filter_append, List.length_append]
      rw [br_ap hv, e]
      by_cases c1 : (brR v n f).2 = false ∧ (brR v n x).2 = false
      · rw [if_pos c1]
        simp [a.1 c1.1, b.1 c1.2]
      · rw [if_neg c1]
        constructor
        · intro h
          split at h <;> cases h
        · intro h
          exact absurd ⟨a.2 (by omega), b.2 (by omega)⟩ c1
/-- What such a call tells. -/
def TmP (w : World) (X : Nat → Prop) (t : Tm) (e : Ending) (w' : World) : Prop := ∃ a c, e = .returned (.agg #[.string t.name, .slice a t.args.length c]) ∧ Sl w' (fun b => X b ∨ w.heap.size ≤ b) a t.args ∧ Below w.heap.size w w'

set_option maxHeartbeats 4000000 in
theorem bracketOf_any (nm : ByteArray) (hv : nm ≠ apB) (n : Nat) : ∀ (t : Tm) (v : Value) (w : World) (X : Nat → Prop), sizeL [t] ≤ n ∧ sizeL [t] ≤ 20000 → isC t = true → TV w X v t →
    Calls Tryz.prog 9 #[.string nm, v] w fun e w' => TmP w X (alw (brR nm n t)) e w' := by
  induction n with
  | zero => intro t v w X h; have := size_posC t; omega
  | succ n ih =>
    intro t v w X hz hc hvt
    have IH := hide ih
    clear ih
    obtain ⟨a, c, rfl, hs⟩ := hvt
    generalize hW : ((w.alloc (.cells #[.string t.name, .slice a t.args.length c] 24)).alloc (.cells #[.string ⟨#[]⟩, .slice none 0 0] 24)) = w2
    have B2 : Hid (Below w.heap.size w w2) := by unfold Hid; rw [← hW]; exact ((Below.refl _ _).alloc (Nat.le_refl _) _).alloc (by simp) _
    have T2 : Hid (Blk w2 w.heap.size #[.string t.name, .slice a t.args.length c] 24) := by unfold Hid; rw [← hW]; exact (Blk.new w _ _).alloc _
    have R2 : Hid (Blk w2 (w.heap.size + 1) #[.string ⟨#[]⟩, .slice none 0 0] 24) := by
      unfold Hid; rw [← hW]
      have h := Blk.new (w.alloc (.cells #[.string t.name, .slice a t.args.length c] 24)) #[.string ⟨#[]⟩, .slice none 0 0] 24
      rw [World.size_alloc] at h
      exact h
    have HZ2 : Hid (w2.heap.size = w.heap.size + 2) := by unfold Hid; rw [← hW]; simp
    obtain ⟨Xn, hXn⟩ : ∃ Xn : Nat → Prop, Xn = fun b => (X b ∧ b < w.heap.size) ∨ w2.heap.size ≤ b := ⟨_, rfl⟩
    have HXD := hide hXn
    have SL2 : Hid (Sl w2 Xn a t.args) := by unfold Hid; rw [hXn]; exact (hs.mono (Y := fun b => X b ∧ b < w.heap.size) fun b h1 h2 => ⟨h1, h2⟩).later B2.out |>.mono fun b h _ => Or.inl h
    have HW := hide hW
    have hml := hs.1
    clear hW hs hXn
    go_enter Tryz.func9, Tryz.ntmps9
    go_upto_region 1 with fail
    rw [HW.out]
    clear HW
    obtain ⟨R, hR⟩ : ∃ R, R = w.heap.size + 1 := ⟨_, rfl⟩
    rw [← hR] at R2 ⊢
    obtain ⟨P, hP⟩ : ∃ P, P = w.heap.size := ⟨_, rfl⟩
    have HRP : Hid (R = w.heap.size + 1 ∧ P = w.heap.size) := ⟨hR, hP⟩
    rw [← hP] at T2 ⊢
    clear hR hP
    have c0 : w2.cell? ⟨P, 0, none⟩ = some (.string t.name) := T2.out.cell 0
    have c1 : w2.cell? ⟨P, 1, none⟩ = some (.slice a t.args.length c) := T2.out.cell 1
    have cl := T2.out.lt
    have hXR : Hid (∀ b, Xn b → b ≠ R) := fun b hb => by rw [HXD.out] at hb; have := HRP.out.1; have := HZ2.out; omega
    go_wp2_with fail
    refine (often_any t nm _ _ Xn hz.2 (by exact ⟨a, c, rfl, SL2.out⟩)).mono ?_
    rintro e w3 ⟨rfl, hb3⟩
    have T3 := hide (T2.out.below hb3 T2.out.lt)
    have RR := hide (R2.out.below hb3 R2.out.lt)
    have B3 := hide (B2.out.trans (hb3.mono B2.out.size))
    have SL3 := hide (SL2.out.later hb3)
    have HZ3 := hide hb3.size
    have HXN : Hid (∀ b, w3.heap.size ≤ b → Xn b) := fun b hb => by rw [HXD.out]; exact Or.inr (Nat.le_trans HZ3.out hb)
    have FIN : Hid (∀ (wz : World) (u : Tm) (au : Option Addr) (cu : Nat), Below w3.heap.size w3 wz → Sl wz Xn au u.args → u = alw (brR nm (n + 1) t) → ∀ u0 u1 : Value, TmP w X (alw (brR nm (n + 1) t)) (.returned (.agg #[.string u.name, .slice au u.args.length cu])) ((wz.setCell ⟨R, 0, none⟩ u0).setCell ⟨R, 1, none⟩ u1)) := fun wz u au cu hb hsu hu u0 u1 => by
      subst hu
      refine ⟨au, cu, rfl, ?_, ?_⟩
      · have h1 : Sl ((wz.setCell ⟨R, 0, none⟩ u0).setCell ⟨R, 1, none⟩ u1) Xn au (alw (brR nm (n + 1) t)).args := hsu.kept fun b hb => by rw [Below.heap_setCell _ _ _ _ (by simpa using hXR.out b hb), Below.heap_setCell _ _ _ _ (by simpa using hXR.out b hb)]
        refine h1.mono fun b hb _ => ?_
        rw [HXD.out] at hb
        rcases hb with hb | hb
        · exact Or.inl hb.1
        · exact Or.inr (Nat.le_trans B2.out.size hb)
      · exact ((B3.out.trans (hb.mono B3.out.size)).setCell (by have := HRP.out.1; simp; omega) _).setCell (by have := HRP.out.1; simp; omega) _
    have hoft := br_oft hv (n + 1) t hz.1 hc
    clear hb3 c0 c1 cl T2 R2 SL2
    have c0 : w3.cell? ⟨P, 0, none⟩ = some (.string t.name) := T3.out.cell 0
    have c1 : w3.cell? ⟨P, 1, none⟩ = some (.slice a t.args.length c) := T3.out.cell 1
    have cl := T3.out.lt
    by_cases h0 : oftL nm [t] = 0
    · have HK0 : Hid (apT ⟨kB, []⟩ t = alw (brR nm (n + 1) t)) := by
        unfold Hid
        have h1 := hoft.2 h0
        have h2 := br_keep nm (n + 1) t h1
        unfold alw
        rw [h1, h2]
        rfl
      rw [h0]
      clear h0 hoft
      have KP : Hid (∀ w', Below w3.heap.size w3 w' → w'.cell? ⟨P, 0, none⟩ = some (.string t.name) ∧ w'.cell? ⟨P, 1, none⟩ = some (.slice a t.args.length c)) := fun w' hb => ⟨(T3.out.below hb T3.out.lt).cell 0, (T3.out.below hb T3.out.lt).cell 1⟩
      have KPR : Hid (∀ w', Below w3.heap.size w3 w' → ∀ u0 u1 : Value, (fun w' => w'.cell? ⟨P, 0, none⟩ = some (.string t.name) ∧ w'.cell? ⟨P, 1, none⟩ = some (.slice a t.args.length c)) ((w'.setCell ⟨R, 0, none⟩ u0).setCell ⟨R, 1, none⟩ u1)) := fun w' hb u0 u1 => by
        have hne : P ≠ R := by have := HRP.out; omega
        have h9 := ((T3.out.below hb T3.out.lt).setOther 0 u0 hne).setOther 1 u1 hne
        exact ⟨h9.cell 0, h9.cell 1⟩
      have VT : Hid (∀ w', Below w3.heap.size w3 w' → TV w' Xn (.agg #[.string t.name, .slice a t.args.length c]) t) := fun w' hb => ⟨a, c, rfl, SL3.out.later hb⟩
      have kd : Below w3.heap.size w3 w3.drew := (Below.refl _ _).drew
      have HSd := hide (KP.out _ kd)
      go_upto_region 2 with fail
      refine wp_region_held_drew (S := (fun w' => w'.cell? ⟨P, 0, none⟩ = some (.string t.name) ∧ w'.cell? ⟨P, 1, none⟩ = some (.slice a t.args.length c))) (by kernel_rfl) HSd.out (fun hHeld => ?_)
      refine wpAnyH_take (i := 1) (v := ?_) rfl (by kernel_rfl) (by kernel_rfl) (by kernel_rfl) (fun _ _ _ h => h) (Or.inl ⟨by rfl, ?_⟩) (by assumption) ?_
      rotate_left
      · intro w' hSw
        obtain ⟨e0, e1⟩ := hSw
        go_simp <;> with_reducible rfl
      try simp only [Act.put, List.setIfInBounds_toArray, List.set_cons_zero, List.set_cons_succ, List.getElem_toArray, List.getElem_cons_succ, List.getElem_cons_zero]
      refine wpAnyH_ready (rs := [0]) (by kernel_rfl) (by simp) ?_
      refine AllReadyH.cons rfl (fun K hK => ?_) AllReadyH.nil
      go_simp
      go_at_call 24
      refine (leafD_any _ _).mono ?_
      rintro e w4 ⟨rfl, hb4⟩
      have k4 : Below w3.heap.size w3 w4 := kd.trans (hb4.mono kd.size)
      clear hb4
      go_simp
      refine hK.out _ _ (by exact KP.out _ k4) (fun hHeld => ?_)
      clear hK K
      try simp only [Act.put, List.setIfInBounds_toArray, List.set_cons_zero, List.set_cons_succ, List.getElem_toArray, List.getElem_cons_succ, List.getElem_cons_zero]
      refine wpAnyH_ready (rs := [2]) (by kernel_rfl) (by simp) ?_
      refine AllReadyH.cons rfl (fun K hK => ?_) AllReadyH.nil
      go_simp
      go_at_call 23
      refine (put2_any ⟨kB, []⟩ t _ _ _ Xn (by exact ⟨none, 0, rfl, ⟨by simp, Or.inl rfl⟩⟩) (by exact VT.out _ k4)).mono ?_
      rintro e w5 ⟨v9, rfl, ⟨a9, c9, rfl, hs9⟩, hb5⟩
      have k5 : Below w3.heap.size w3 w5 := k4.trans (hb5.mono k4.size)
      have S9 : Hid (Sl w5 Xn a9 (apT ⟨kB, []⟩ t).args) := hs9.mono fun b h _ => h.elim id (fun h => HXN.out b (Nat.le_trans k4.size h))
      clear hs9 hb5
      go_simp
      refine hK.out _ _ (by exact KP.out _ k5) (fun hHeld => ?_)
      clear hK K
      try simp only [Act.put, List.setIfInBounds_toArray, List.set_cons_zero, List.set_cons_succ, List.getElem_toArray, List.getElem_cons_succ, List.getElem_cons_zero]
      obtain ⟨u, hu⟩ : ∃ u, u = apT ⟨kB, []⟩ t := ⟨_, rfl⟩
      rw [← hu] at S9 ⊢
      have HU := hide hu
      clear hu
      have rb := hide (RR.out.below k5 RR.out.lt)
      have y0 : w5.cell? ⟨R, 0, none⟩ = some (.string ⟨#[]⟩) := rb.out.cell 0
      have y1 : w5.cell? ⟨R, 1, none⟩ = some (.slice none 0 0) := rb.out.cell 1
      have yf := rb.out.frozen
      have yl := rb.out.lt
      refine wpAnyH_ready (rs := [3]) (by kernel_rfl) (by simp) ?_
      refine AllReadyH.cons rfl (fun K hK => ?_) AllReadyH.nil
      go_simp
      refine hK.out _ _ (by exact KPR.out _ k5 _ _) (fun hHeld => ?_)
      clear hK K
      try simp only [Act.put, List.setIfInBounds_toArray, List.set_cons_zero, List.set_cons_succ, List.getElem_toArray, List.getElem_cons_succ, List.getElem_cons_zero]
      refine wpAnyH_done (by kernel_rfl) ?_ _
      go_wp2_with fail
      refine bodyPost_ret (v := .agg #[.string u.name, .slice a9 u.args.length c9]) (by simp [results, Tryz.results9, go_sem, World.cell?_setCell_same, World.cell?_setCell_other, y0, y1]) rfl ?_
      exact FIN.out w5 u a9 c9 k5 S9.out (by rw [HU.out]; exact HK0.out) _ _
    · have h0i : ((oftL nm [t] : Int) == 0) = false := by simp; omega
      have hyes : (brR nm (n + 1) t).2 = true := by
        cases h : (brR nm (n + 1) t).2 with
        | true => rfl
        | false => exact absurd (hoft.1 h) h0
      rcases isC_cases hc with ⟨s, rfl⟩ | ⟨f, x, rfl, h1, h2⟩
      · have hs : s = nm := by
          apply Classical.byContradiction
          intro h
          rw [br_leaf_no _ _ _ h] at hyes
          cases hyes
        have HK0 : Hid ((⟨iB, []⟩ : Tm) = alw (brR nm (n + 1) ⟨s, []⟩)) := by unfold Hid; rw [br_leaf_yes _ _ _ hs]; rfl
        have hsl : s.toList = nm.toList := by rw [hs]
        clear hs h0 hoft hyes
        have r0 : w3.cell? ⟨R, 0, none⟩ = some (.string ⟨#[]⟩) := RR.out.cell 0
        go_wp2_with fail
        refine (leafD_any _ _).mono ?_
        rintro e w4 ⟨rfl, hb4⟩
        have rb := hide (RR.out.below hb4 RR.out.lt)
        have HB4 := hide hb4
        clear hb4 r0
        have y0 : w4.cell? ⟨R, 0, none⟩ = some (.string ⟨#[]⟩) := rb.out.cell 0
        have y1 : w4.cell? ⟨R, 1, none⟩ = some (.slice none 0 0) := rb.out.cell 1
        have yf := rb.out.frozen
        have yl := rb.out.lt
        go_wp2_with fail
        refine bodyPost_ret (v := .agg #[.string iB, .slice none 0 0]) (by simp [results, Tryz.results9, go_sem, World.cell?_setCell_same, World.cell?_setCell_other, y0, y1, iB]) rfl ?_
        exact FIN.out w4 ⟨iB, []⟩ none 0 HB4.out ⟨by simp, Or.inl rfl⟩ HK0.out _ _
      · have hzf : sizeL [f] ≤ n ∧ sizeL [f] ≤ 20000 := by have := hz; rw [size_ap] at this; omega
        have hzx : sizeL [x] ≤ n ∧ sizeL [x] ≤ 20000 := by have := hz; rw [size_ap] at this; omega
        have HZF := hide hzf
        have HZX := hide hzx
        have HCF := hide h1
        have HCX := hide h2
        have hnl : ¬ apB.toList = nm.toList := fun h => hv (by
          rw [ByteArray.toList_eq, ByteArray.toList_eq] at h
          have h1 : apB.data = nm.data := Array.toList_inj.1 h
          cases nm
          simp only at h1
          unfold apB at h1 ⊢
          rw [← h1])
        obtain ⟨B, o, af, cf, rfl, d0, d1, hf⟩ := SL3.out.get (Below.refl w3.heap.size w3) (fun b _ h => h) 0 (by simp [apT])
        obtain ⟨B', o', ax, cx, e0, f0, f1, hx⟩ := SL3.out.get (Below.refl w3.heap.size w3) (fun b _ h => h) 1 (by simp [apT])
        simp only [Option.some.injEq, Addr.mk.injEq, and_true] at e0
        obtain ⟨rfl, rfl⟩ := e0
        have d0' : w3.cell? ⟨B, o, none⟩ = some (.string f.name) := by simpa [apT] using d0
        have d1' : w3.cell? ⟨B, o + 1, none⟩ = some (.slice af f.args.length cf) := by simpa [apT] using d1
        have f0' : w3.cell? ⟨B, o + 2, none⟩ = some (.string x.name) := by simpa [apT] using f0
        have f1' : w3.cell? ⟨B, o + 3, none⟩ = some (.slice ax x.args.length cx) := by simpa [apT] using f1
        have hfv : TV w3 Xn (.agg #[.string f.name, .slice af f.args.length cf]) f := by simpa [apT] using hf
        have hxv : TV w3 Xn (.agg #[.string x.name, .slice ax x.args.length cx]) x := by simpa [apT] using hx
        clear d0 d1 f0 f1 hf hx
        have c0' : w3.cell? ⟨P, 0, none⟩ = some (.string apB) := c0
        have c1' : w3.cell? ⟨P, 1, none⟩ = some (.slice (some ⟨B, o, none⟩) 2 c) := c1
        clear c0 c1
        have hBl := cell_ltC d0'
        generalize hW4 : ((w3.alloc (.cells #[.string f.name, .slice af f.args.length cf] 24)).alloc (.cells #[.string x.name, .slice ax x.args.length cx] 24)) = w4
        have k34 : Hid (Below w3.heap.size w3 w4) := by unfold Hid; rw [← hW4]; exact ((Below.refl _ _).alloc (Nat.le_refl _) _).alloc (by simp) _
        have F4 : Hid (Blk w4 w3.heap.size #[.string f.name, .slice af f.args.length cf] 24) := by unfold Hid; rw [← hW4]; exact (Blk.new w3 _ _).alloc _
        have X4 : Hid (Blk w4 (w3.heap.size + 1) #[.string x.name, .slice ax x.args.length cx] 24) := by
          unfold Hid; rw [← hW4]
          have h := Blk.new (w3.alloc (.cells #[.string f.name, .slice af f.args.length cf] 24)) #[.string x.name, .slice ax x.args.length cx] 24
          rw [World.size_alloc] at h
          exact h
        have HW4 := hide hW4
        have R4 := hide (RR.out.below k34.out RR.out.lt)
        have VF : Hid (∀ w', Below w4.heap.size w4 w' → TV w' Xn (.agg #[.string f.name, .slice af f.args.length cf]) f) := fun w' hb => hfv.later (k34.out.trans (hb.mono k34.out.size))
        have VX : Hid (∀ w', Below w4.heap.size w4 w' → TV w' Xn (.agg #[.string x.name, .slice ax x.args.length cx]) x) := fun w' hb => hxv.later (k34.out.trans (hb.mono k34.out.size))
        have HLR := hide RR.out.lt
        clear hfv hxv hW4
        have hnl2 : (apB.toList == nm.toList) = false := by simpa using hnl
        go_upto_region 7 with fail
        rw [HW4.out]
        clear HW4 c0' c1' d0' d1' f0' f1'
        obtain ⟨PX, hPX⟩ : ∃ PX, PX = w3.heap.size + 1 := ⟨_, rfl⟩
        obtain ⟨PF, hPF⟩ : ∃ PF, PF = w3.heap.size := ⟨_, rfl⟩
        have HNF : Hid (PF ≠ R) := by have := HLR.out; unfold Hid; omega
        have HNX : Hid (PX ≠ R) := by have := HLR.out; unfold Hid; omega
        rw [← hPX] at X4 ⊢
        rw [← hPF] at F4 ⊢
        clear hPX hPF
        have HC1 : Hid (¬ ((brR nm n f).2 = false ∧ (brR nm n x).2 = false)) := fun h => by
          rw [br_ap hv, if_pos h] at hyes
          cases hyes
        have f0 : w4.cell? ⟨PF, 0, none⟩ = some (.string f.name) := F4.out.cell 0
        have f1 : w4.cell? ⟨PF, 1, none⟩ = some (.slice af f.args.length cf) := F4.out.cell 1
        have x0 : w4.cell? ⟨PX, 0, none⟩ = some (.string x.name) := X4.out.cell 0
        have fl := F4.out.lt
        have xl := X4.out.lt
        by_cases hxn : x.name = nm
        · have hxl : (x.name.toList == nm.toList) = true := by rw [hxn]; simp
          have HXNM := hide hxn
          clear hxn
          go_wp2_with fail
          refine (often_any f nm _ _ Xn HZF.out.2 (by exact VF.out _ (Below.refl _ _))).mono ?_
          rintro e w5 ⟨rfl, hb5⟩
          have hof := br_oft hv n f HZF.out.1 HCF.out
          by_cases hf0 : oftL nm [f] = 0
          · have HRES : Hid (f = alw (brR nm (n + 1) (apT f x))) := by
              have h1 := hof.2 hf0
              unfold Hid
              rw [br_ap hv, if_neg HC1.out, if_pos ⟨h1, HXNM.out⟩, br_keep nm n f h1]
              rfl
            have F5 := hide (F4.out.below hb5 F4.out.lt)
            have R5 := hide (R4.out.below hb5 R4.out.lt)
            have VF5 := hide (VF.out _ hb5)
            have K5 := hide (k34.out.trans (hb5.mono k34.out.size))
            rw [hf0]
            clear hf0 hof hb5 f0 f1 x0 fl xl
            have f0 : w5.cell? ⟨PF, 0, none⟩ = some (.string f.name) := F5.out.cell 0
            have f1 : w5.cell? ⟨PF, 1, none⟩ = some (.slice af f.args.length cf) := F5.out.cell 1
            have fl := F5.out.lt
            have y0 : w5.cell? ⟨R, 0, none⟩ = some (.string ⟨#[]⟩) := R5.out.cell 0
            have y1 : w5.cell? ⟨R, 1, none⟩ = some (.slice none 0 0) := R5.out.cell 1
            have yf := R5.out.frozen
            have yl := R5.out.lt
            go_wp2_with fail
            refine bodyPost_ret (v := .agg #[.string f.name, .slice af f.args.length cf]) (by simp [results, Tryz.results9, go_sem, World.cell?_setCell_same, World.cell?_setCell_other, y0, y1]) rfl ?_
            obtain ⟨af', cf', e9, h9⟩ := VF5.out
            simp only [Value.agg.injEq, Array.mk.injEq, List.cons.injEq, Value.slice.injEq, and_true, true_and] at e9
            obtain ⟨rfl, rfl⟩ := e9
            exact FIN.out w5 f af cf K5.out h9 HRES.out _ _
          · have hfi : ((oftL nm [f] : Int) == 0) = false := by simp; omega
            have HC2 : Hid (¬ ((brR nm n f).2 = false ∧ x.name = nm)) := fun h => hf0 (hof.1 h.1)
            have F4 := hide (F4.out.below hb5 F4.out.lt)
            have X4 := hide (X4.out.below hb5 X4.out.lt)
            have R4 := hide (R4.out.below hb5 R4.out.lt)
            have k34 := hide (k34.out.trans (hb5.mono k34.out.size))
            have VF : Hid (∀ w', Below w5.heap.size w5 w' → TV w' Xn (.agg #[.string f.name, .slice af f.args.length cf]) f) := fun w' hb => VF.out _ (hb5.trans (hb.mono hb5.size))
            have VX : Hid (∀ w', Below w5.heap.size w5 w' → TV w' Xn (.agg #[.string x.name, .slice ax x.args.length cx]) x) := fun w' hb => VX.out _ (hb5.trans (hb.mono hb5.size))
            clear hb5 f0 f1 x0 fl xl hf0 hof
            obtain ⟨w4, rfl⟩ : ∃ w4, w4 = w5 := ⟨_, rfl⟩
            have KP : Hid (∀ w', Below w4.heap.size w4 w' → w'.cell? ⟨PF, 0, none⟩ = some (.string f.name) ∧ w'.cell? ⟨PF, 1, none⟩ = some (.slice af f.args.length cf) ∧ w'.cell? ⟨PX, 0, none⟩ = some (.string x.name) ∧ w'.cell? ⟨PX, 1, none⟩ = some (.slice ax x.args.length cx)) := fun w' hb => ⟨(F4.out.below hb F4.out.lt).cell 0, (F4.out.below hb F4.out.lt).cell 1, (X4.out.below hb X4.out.lt).cell 0, (X4.out.below hb X4.out.lt).cell 1⟩
            have KPR : Hid (∀ w', Below w4.heap.size w4 w' → ∀ u0 u1 : Value, (fun w' => w'.cell? ⟨PF, 0, none⟩ = some (.string f.name) ∧ w'.cell? ⟨PF, 1, none⟩ = some (.slice af f.args.length cf) ∧ w'.cell? ⟨PX, 0, none⟩ = some (.string x.name) ∧ w'.cell? ⟨PX, 1, none⟩ = some (.slice ax x.args.length cx)) ((w'.setCell ⟨R, 0, none⟩ u0).setCell ⟨R, 1, none⟩ u1)) := fun w' hb u0 u1 => by
              have h9 := ((F4.out.below hb F4.out.lt).setOther 0 u0 HNF.out).setOther 1 u1 HNF.out
              have h8 := ((X4.out.below hb X4.out.lt).setOther 0 u0 HNX.out).setOther 1 u1 HNX.out
              exact ⟨h9.cell 0, h9.cell 1, h8.cell 0, h8.cell 1⟩
            have RR := R4
            have HXN : Hid (∀ b, w4.heap.size ≤ b → Xn b) := fun b hb => HXN.out b (Nat.le_trans k34.out.size hb)
            have kd : Below w4.heap.size w4 w4.drew := (Below.refl _ _).drew
            have HSd := hide (KP.out _ kd)
            have fl4 := F4.out.lt
            have xl4 := X4.out.lt
            have HRES : Hid (apT (apT ⟨sB, []⟩ (alw (brR nm n f))) (alw (brR nm n x)) = alw (brR nm (n + 1) (apT f x))) := by
              unfold Hid
              rw [br_ap hv, if_neg HC1.out, if_neg HC2.out]
              rfl
            go_upto_region 9 with fail
            refine wp_region_held_drew (S := (fun w' => w'.cell? ⟨PF, 0, none⟩ = some (.string f.name) ∧ w'.cell? ⟨PF, 1, none⟩ = some (.slice af f.args.length cf) ∧ w'.cell? ⟨PX, 0, none⟩ = some (.string x.name) ∧ w'.cell? ⟨PX, 1, none⟩ = some (.slice ax x.args.length cx))) (by kernel_rfl) HSd.out (fun hHeld => ?_)
            refine wpAnyH_take (i := 1) (v := ?_) rfl (by kernel_rfl) (by kernel_rfl) (by kernel_rfl) (fun _ _ _ h => h) (Or.inl ⟨by rfl, ?_⟩) (by assumption) ?_
            rotate_left
            · intro w' hSw
              go_simp <;> with_reducible rfl
            try simp only [Act.put, List.setIfInBounds_toArray, List.set_cons_zero, List.set_cons_succ, List.getElem_toArray, List.getElem_cons_succ, List.getElem_cons_zero]
            refine wpAnyH_take (i := 2) (v := ?_) rfl (by kernel_rfl) (by kernel_rfl) (by kernel_rfl) (fun _ _ _ h => h) (Or.inl ⟨by rfl, ?_⟩) (by assumption) ?_
            rotate_left
            · intro w' hSw
              obtain ⟨e0, e1, e2, e3⟩ := hSw
              go_simp <;> with_reducible rfl
            try simp only [Act.put, List.setIfInBounds_toArray, List.set_cons_zero, List.set_cons_succ, List.getElem_toArray, List.getElem_cons_succ, List.getElem_cons_zero]
            refine wpAnyH_take (i := 5) (v := ?_) rfl (by kernel_rfl) (by kernel_rfl) (by kernel_rfl) (fun _ _ _ h => h) (Or.inl ⟨by rfl, ?_⟩) (by assumption) ?_
            rotate_left
            · intro w' hSw
              go_simp <;> with_reducible rfl
            try simp only [Act.put, List.setIfInBounds_toArray, List.set_cons_zero, List.set_cons_succ, List.getElem_toArray, List.getElem_cons_succ, List.getElem_cons_zero]
            refine wpAnyH_take (i := 6) (v := ?_) rfl (by kernel_rfl) (by kernel_rfl) (by kernel_rfl) (fun _ _ _ h => h) (Or.inl ⟨by rfl, ?_⟩) (by assumption) ?_
            rotate_left
            · intro w' hSw
              obtain ⟨e0, e1, e2, e3⟩ := hSw
              go_simp <;> with_reducible rfl
            try simp only [Act.put, List.setIfInBounds_toArray, List.set_cons_zero, List.set_cons_succ, List.getElem_toArray, List.getElem_cons_succ, List.getElem_cons_zero]
            refine wpAnyH_ready (rs := [0]) (by kernel_rfl) (by simp) ?_
            refine AllReadyH.cons rfl (fun K hK => ?_) AllReadyH.nil
            go_simp
            go_at_call 24
            refine (leafD_any _ _).mono ?_
            rintro e w5 ⟨rfl, hb5⟩
            have k5 : Below w4.heap.size w4 w5 := kd.trans (hb5.mono kd.size)
            clear hb5
            go_simp
            refine hK.out _ _ (by exact KP.out _ k5) (fun hHeld => ?_)
            clear hK K
            try simp only [Act.put, List.setIfInBounds_toArray, List.set_cons_zero, List.set_cons_succ, List.getElem_toArray, List.getElem_cons_succ, List.getElem_cons_zero]
            refine wpAnyH_ready (rs := [3]) (by kernel_rfl) (by simp) ?_
            refine AllReadyH.cons rfl (fun K hK => ?_) AllReadyH.nil
            go_simp
            go_at_call 9
            refine (IH.out f _ _ Xn HZF.out HCF.out (by exact VF.out _ k5)).mono ?_
            rintro e w6 ⟨a6, c6, rfl, hs6, hb6⟩
            have k6 : Below w4.heap.size w4 w6 := k5.trans (hb6.mono k5.size)
            have S6 : Hid (Sl w6 Xn a6 (alw (brR nm n f)).args) := hs6.mono fun b h _ => h.elim id (fun h => HXN.out b (Nat.le_trans k5.size h))
            obtain ⟨tf, htf⟩ : ∃ tf, tf = alw (brR nm n f) := ⟨_, rfl⟩
            rw [← htf] at S6 ⊢
            have HTF := hide htf
            clear hs6 hb6 htf
            go_simp
            refine hK.out _ _ (by exact KP.out _ k6) (fun hHeld => ?_)
            clear hK K
            try simp only [Act.put, List.setIfInBounds_toArray, List.set_cons_zero, List.set_cons_succ, List.getElem_toArray, List.getElem_cons_succ, List.getElem_cons_zero]
            refine wpAnyH_ready (rs := [4]) (by kernel_rfl) (by simp) ?_
            refine AllReadyH.cons rfl (fun K hK => ?_) AllReadyH.nil
            go_simp
            go_at_call 23
            refine (put2_any ⟨sB, []⟩ tf _ _ _ Xn (by exact ⟨none, 0, rfl, ⟨by simp, Or.inl rfl⟩⟩) (by exact ⟨a6, c6, rfl, S6.out⟩)).mono ?_
            rintro e w7 ⟨v7, rfl, ⟨a7, c7, rfl, hs7⟩, hb7⟩
            have k7 : Below w4.heap.size w4 w7 := k6.trans (hb7.mono k6.size)
            have S7 : Hid (Sl w7 Xn a7 (apT ⟨sB, []⟩ tf).args) := hs7.mono fun b h _ => h.elim id (fun h => HXN.out b (Nat.le_trans k6.size h))
            obtain ⟨ts, hts⟩ : ∃ ts, ts = apT ⟨sB, []⟩ tf := ⟨_, rfl⟩
            rw [← hts] at S7 ⊢
            have HTS := hide hts
            clear hs7 hb7 hts
            go_simp
            refine hK.out _ _ (by exact KP.out _ k7) (fun hHeld => ?_)
            clear hK K
            try simp only [Act.put, List.setIfInBounds_toArray, List.set_cons_zero, List.set_cons_succ, List.getElem_toArray, List.getElem_cons_succ, List.getElem_cons_zero]
            refine wpAnyH_ready (rs := [7]) (by kernel_rfl) (by simp) ?_
            refine AllReadyH.cons rfl (fun K hK => ?_) AllReadyH.nil
            go_simp
            go_at_call 9
            refine (IH.out x _ _ Xn HZX.out HCX.out (by exact VX.out _ k7)).mono ?_
            rintro e w8 ⟨a8, c8, rfl, hs8, hb8⟩
            have k8 : Below w4.heap.size w4 w8 := k7.trans (hb8.mono k7.size)
            have S8 : Hid (Sl w8 Xn a8 (alw (brR nm n x)).args) := hs8.mono fun b h _ => h.elim id (fun h => HXN.out b (Nat.le_trans k7.size h))
            have S7' := hide (S7.out.later hb8)
            obtain ⟨tx, htx⟩ : ∃ tx, tx = alw (brR nm n x) := ⟨_, rfl⟩
            rw [← htx] at S8 ⊢
            have HTX := hide htx
            clear hs8 hb8 htx
            go_simp
            refine hK.out _ _ (by exact KP.out _ k8) (fun hHeld => ?_)
            clear hK K
            try simp only [Act.put, List.setIfInBounds_toArray, List.set_cons_zero, List.set_cons_succ, List.getElem_toArray, List.getElem_cons_succ, List.getElem_cons_zero]
            refine wpAnyH_ready (rs := [8]) (by kernel_rfl) (by simp) ?_
            refine AllReadyH.cons rfl (fun K hK => ?_) AllReadyH.nil
            go_simp
            go_at_call 23
            refine (put2_any ts tx _ _ _ Xn (by exact ⟨a7, c7, rfl, S7'.out⟩) (by exact ⟨a8, c8, rfl, S8.out⟩)).mono ?_
            rintro e w9 ⟨v9, rfl, ⟨a9, c9, rfl, hs9⟩, hb9⟩
            have k9 : Below w4.heap.size w4 w9 := k8.trans (hb9.mono k8.size)
            have S9 : Hid (Sl w9 Xn a9 (apT ts tx).args) := hs9.mono fun b h _ => h.elim id (fun h => HXN.out b (Nat.le_trans k8.size h))
            clear hs9 hb9
            go_simp
            refine hK.out _ _ (by exact KP.out _ k9) (fun hHeld => ?_)
            clear hK K
            try simp only [Act.put, List.setIfInBounds_toArray, List.set_cons_zero, List.set_cons_succ, List.getElem_toArray, List.getElem_cons_succ, List.getElem_cons_zero]
            obtain ⟨u, hu⟩ : ∃ u, u = apT ts tx := ⟨_, rfl⟩
            rw [← hu] at S9 ⊢
            have HU : Hid (u = alw (brR nm (n + 1) (apT f x))) := by unfold Hid; rw [hu, HTS.out, HTF.out, HTX.out]; exact HRES.out
            clear hu
            have rb := hide (RR.out.below k9 RR.out.lt)
            have y0 : w9.cell? ⟨R, 0, none⟩ = some (.string ⟨#[]⟩) := rb.out.cell 0
            have y1 : w9.cell? ⟨R, 1, none⟩ = some (.slice none 0 0) := rb.out.cell 1
            have yf := rb.out.frozen
            have yl := rb.out.lt
            refine wpAnyH_ready (rs := [9]) (by kernel_rfl) (by simp) ?_
            refine AllReadyH.cons rfl (fun K hK => ?_) AllReadyH.nil
            go_simp
            refine hK.out _ _ (by exact KPR.out _ k9 _ _) (fun hHeld => ?_)
            clear hK K
            try simp only [Act.put, List.setIfInBounds_toArray, List.set_cons_zero, List.set_cons_succ, List.getElem_toArray, List.getElem_cons_succ, List.getElem_cons_zero]
            refine wpAnyH_done (by kernel_rfl) ?_ _
            go_wp2_with fail
            refine bodyPost_ret (v := .agg #[.string u.name, .slice a9 u.args.length c9]) (by simp [results, Tryz.results9, go_sem, World.cell?_setCell_same, World.cell?_setCell_other, y0, y1]) rfl ?_
            exact FIN.out w9 u a9 c9 (k34.out.trans (k9.mono k34.out.size)) S9.out HU.out _ _
        · have hxl : (x.name.toList == nm.toList) = false := by
            simp only [beq_eq_false_iff_ne, ne_eq]
            intro h
            rw [ByteArray.toList_eq, ByteArray.toList_eq] at h
            exact hxn (by
              have h1 : x.name.data = nm.data := Array.toList_inj.1 h
              rcases x with ⟨⟨xd⟩, xa⟩
              cases nm
              simp only at h1 ⊢
              rw [h1])
          have HC2 : Hid (¬ ((brR nm n f).2 = false ∧ x.name = nm)) := fun h => hxn h.2
          clear hxn
          have KP : Hid (∀ w', Below w4.heap.size w4 w' → w'.cell? ⟨PF, 0, none⟩ = some (.string f.name) ∧ w'.cell? ⟨PF, 1, none⟩ = some (.slice af f.args.length cf) ∧ w'.cell? ⟨PX, 0, none⟩ = some (.string x.name) ∧ w'.cell? ⟨PX, 1, none⟩ = some (.slice ax x.args.length cx)) := fun w' hb => ⟨(F4.out.below hb F4.out.lt).cell 0, (F4.out.below hb F4.out.lt).cell 1, (X4.out.below hb X4.out.lt).cell 0, (X4.out.below hb X4.out.lt).cell 1⟩
          have KPR : Hid (∀ w', Below w4.heap.size w4 w' → ∀ u0 u1 : Value, (fun w' => w'.cell? ⟨PF, 0, none⟩ = some (.string f.name) ∧ w'.cell? ⟨PF, 1, none⟩ = some (.slice af f.args.length cf) ∧ w'.cell? ⟨PX, 0, none⟩ = some (.string x.name) ∧ w'.cell? ⟨PX, 1, none⟩ = some (.slice ax x.args.length cx)) ((w'.setCell ⟨R, 0, none⟩ u0).setCell ⟨R, 1, none⟩ u1)) := fun w' hb u0 u1 => by
            have h9 := ((F4.out.below hb F4.out.lt).setOther 0 u0 HNF.out).setOther 1 u1 HNF.out
            have h8 := ((X4.out.below hb X4.out.lt).setOther 0 u0 HNX.out).setOther 1 u1 HNX.out
            exact ⟨h9.cell 0, h9.cell 1, h8.cell 0, h8.cell 1⟩
          have RR := R4
          have HXN : Hid (∀ b, w4.heap.size ≤ b → Xn b) := fun b hb => HXN.out b (Nat.le_trans k34.out.size hb)
          have kd : Below w4.heap.size w4 w4.drew := (Below.refl _ _).drew
          have HSd := hide (KP.out _ kd)
          have fl4 := F4.out.lt
          have xl4 := X4.out.lt
          have HRES : Hid (apT (apT ⟨sB, []⟩ (alw (brR nm n f))) (alw (brR nm n x)) = alw (brR nm (n + 1) (apT f x))) := by
            unfold Hid
            rw [br_ap hv, if_neg HC1.out, if_neg HC2.out]
            rfl
          go_upto_region 9 with fail
          refine wp_region_held_drew (S := (fun w' => w'.cell? ⟨PF, 0, none⟩ = some (.string f.name) ∧ w'.cell? ⟨PF, 1, none⟩ = some (.slice af f.args.length cf) ∧ w'.cell? ⟨PX, 0, none⟩ = some (.string x.name) ∧ w'.cell? ⟨PX, 1, none⟩ = some (.slice ax x.args.length cx))) (by kernel_rfl) HSd.out (fun hHeld => ?_)
          refine wpAnyH_take (i := 1) (v := ?_) rfl (by kernel_rfl) (by kernel_rfl) (by kernel_rfl) (fun _ _ _ h => h) (Or.inl ⟨by rfl, ?_⟩) (by assumption) ?_
          rotate_left
          · intro w' hSw
            go_simp <;> with_reducible rfl
          try simp only [Act.put, List.setIfInBounds_toArray, List.set_cons_zero, List.set_cons_succ, List.getElem_toArray, List.getElem_cons_succ, List.getElem_cons_zero]
          refine wpAnyH_take (i := 2) (v := ?_) rfl (by kernel_rfl) (by kernel_rfl) (by kernel_rfl) (fun _ _ _ h => h) (Or.inl ⟨by rfl, ?_⟩) (by assumption) ?_
          rotate_left
          · intro w' hSw
            obtain ⟨e0, e1, e2, e3⟩ := hSw
            go_simp <;> with_reducible rfl
          try simp only [Act.put, List.setIfInBounds_toArray, List.set_cons_zero, List.set_cons_succ, List.getElem_toArray, List.getElem_cons_succ, List.getElem_cons_zero]
          refine wpAnyH_take (i := 5) (v := ?_) rfl (by kernel_rfl) (by kernel_rfl) (by kernel_rfl) (fun _ _ _ h => h) (Or.inl ⟨by rfl, ?_⟩) (by assumption) ?_
          rotate_left
          · intro w' hSw
            go_simp <;> with_reducible rfl
          try simp only [Act.put, List.setIfInBounds_toArray, List.set_cons_zero, List.set_cons_succ, List.getElem_toArray, List.getElem_cons_succ, List.getElem_cons_zero]
          refine wpAnyH_take (i := 6) (v := ?_) rfl (by kernel_rfl) (by kernel_rfl) (by kernel_rfl) (fun _ _ _ h => h) (Or.inl ⟨by rfl, ?_⟩) (by assumption) ?_
          rotate_left
          · intro w' hSw
            obtain ⟨e0, e1, e2, e3⟩ := hSw
            go_simp <;> with_reducible rfl
          try simp only [Act.put, List.setIfInBounds_toArray, List.set_cons_zero, List.set_cons_succ, List.getElem_toArray, List.getElem_cons_succ, List.getElem_cons_zero]
          refine wpAnyH_ready (rs := [0]) (by kernel_rfl) (by simp) ?_
          refine AllReadyH.cons rfl (fun K hK => ?_) AllReadyH.nil
          go_simp
          go_at_call 24
          refine (leafD_any _ _).mono ?_
          rintro e w5 ⟨rfl, hb5⟩
          have k5 : Below w4.heap.size w4 w5 := kd.trans (hb5.mono kd.size)
          clear hb5
          go_simp
          refine hK.out _ _ (by exact KP.out _ k5) (fun hHeld => ?_)
          clear hK K
          try simp only [Act.put, List.setIfInBounds_toArray, List.set_cons_zero, List.set_cons_succ, List.getElem_toArray, List.getElem_cons_succ, List.getElem_cons_zero]
          refine wpAnyH_ready (rs := [3]) (by kernel_rfl) (by simp) ?_
          refine AllReadyH.cons rfl (fun K hK => ?_) AllReadyH.nil
          go_simp
          go_at_call 9
          refine (IH.out f _ _ Xn HZF.out HCF.out (by exact VF.out _ k5)).mono ?_
          rintro e w6 ⟨a6, c6, rfl, hs6, hb6⟩
          have k6 : Below w4.heap.size w4 w6 := k5.trans (hb6.mono k5.size)
          have S6 : Hid (Sl w6 Xn a6 (alw (brR nm n f)).args) := hs6.mono fun b h _ => h.elim id (fun h => HXN.out b (Nat.le_trans k5.size h))
          obtain ⟨tf, htf⟩ : ∃ tf, tf = alw (brR nm n f) := ⟨_, rfl⟩
          rw [← htf] at S6 ⊢
          have HTF := hide htf
          clear hs6 hb6 htf
          go_simp
          refine hK.out _ _ (by exact KP.out _ k6) (fun hHeld => ?_)
          clear hK K
          try simp only [Act.put, List.setIfInBounds_toArray, List.set_cons_zero, List.set_cons_succ, List.getElem_toArray, List.getElem_cons_succ, List.getElem_cons_zero]
          refine wpAnyH_ready (rs := [4]) (by kernel_rfl) (by simp) ?_
          refine AllReadyH.cons rfl (fun K hK => ?_) AllReadyH.nil
          go_simp
          go_at_call 23
          refine (put2_any ⟨sB, []⟩ tf _ _ _ Xn (by exact ⟨none, 0, rfl, ⟨by simp, Or.inl rfl⟩⟩) (by exact ⟨a6, c6, rfl, S6.out⟩)).mono ?_
          rintro e w7 ⟨v7, rfl, ⟨a7, c7, rfl, hs7⟩, hb7⟩
          have k7 : Below w4.heap.size w4 w7 := k6.trans (hb7.mono k6.size)
          have S7 : Hid (Sl w7 Xn a7 (apT ⟨sB, []⟩ tf).args) := hs7.mono fun b h _ => h.elim id (fun h => HXN.out b (Nat.le_trans k6.size h))
          obtain ⟨ts, hts⟩ : ∃ ts, ts = apT ⟨sB, []⟩ tf := ⟨_, rfl⟩
          rw [← hts] at S7 ⊢
          have HTS := hide hts
          clear hs7 hb7 hts
          go_simp
          refine hK.out _ _ (by exact KP.out _ k7) (fun hHeld => ?_)
          clear hK K
          try simp only [Act.put, List.setIfInBounds_toArray, List.set_cons_zero, List.set_cons_succ, List.getElem_toArray, List.getElem_cons_succ, List.getElem_cons_zero]
          refine wpAnyH_ready (rs := [7]) (by kernel_rfl) (by simp) ?_
          refine AllReadyH.cons rfl (fun K hK => ?_) AllReadyH.nil
          go_simp
          go_at_call 9
          refine (IH.out x _ _ Xn HZX.out HCX.out (by exact VX.out _ k7)).mono ?_
          rintro e w8 ⟨a8, c8, rfl, hs8, hb8⟩
          have k8 : Below w4.heap.size w4 w8 := k7.trans (hb8.mono k7.size)
          have S8 : Hid (Sl w8 Xn a8 (alw (brR nm n x)).args) := hs8.mono fun b h _ => h.elim id (fun h => HXN.out b (Nat.le_trans k7.size h))
          have S7' := hide (S7.out.later hb8)
          obtain ⟨tx, htx⟩ : ∃ tx, tx = alw (brR nm n x) := ⟨_, rfl⟩
          rw [← htx] at S8 ⊢
          have HTX := hide htx
          clear hs8 hb8 htx
          go_simp
          refine hK.out _ _ (by exact KP.out _ k8) (fun hHeld => ?_)
          clear hK K
          try simp only [Act.put, List.setIfInBounds_toArray, List.set_cons_zero, List.set_cons_succ, List.getElem_toArray, List.getElem_cons_succ, List.getElem_cons_zero]
          refine wpAnyH_ready (rs := [8]) (by kernel_rfl) (by simp) ?_
          refine AllReadyH.cons rfl (fun K hK => ?_) AllReadyH.nil
          go_simp
          go_at_call 23
          refine (put2_any ts tx _ _ _ Xn (by exact ⟨a7, c7, rfl, S7'.out⟩) (by exact ⟨a8, c8, rfl, S8.out⟩)).mono ?_
          rintro e w9 ⟨v9, rfl, ⟨a9, c9, rfl, hs9⟩, hb9⟩
          have k9 : Below w4.heap.size w4 w9 := k8.trans (hb9.mono k8.size)
          have S9 : Hid (Sl w9 Xn a9 (apT ts tx).args) := hs9.mono fun b h _ => h.elim id (fun h => HXN.out b (Nat.le_trans k8.size h))
          clear hs9 hb9
          go_simp
          refine hK.out _ _ (by exact KP.out _ k9) (fun hHeld => ?_)
          clear hK K
          try simp only [Act.put, List.setIfInBounds_toArray, List.set_cons_zero, List.set_cons_succ, List.getElem_toArray, List.getElem_cons_succ, List.getElem_cons_zero]
          obtain ⟨u, hu⟩ : ∃ u, u = apT ts tx := ⟨_, rfl⟩
          rw [← hu] at S9 ⊢
          have HU : Hid (u = alw (brR nm (n + 1) (apT f x))) := by unfold Hid; rw [hu, HTS.out, HTF.out, HTX.out]; exact HRES.out
          clear hu
          have rb := hide (RR.out.below k9 RR.out.lt)
          have y0 : w9.cell? ⟨R, 0, none⟩ = some (.string ⟨#[]⟩) := rb.out.cell 0
          have y1 : w9.cell? ⟨R, 1, none⟩ = some (.slice none 0 0) := rb.out.cell 1
          have yf := rb.out.frozen
          have yl := rb.out.lt
          refine wpAnyH_ready (rs := [9]) (by kernel_rfl) (by simp) ?_
          refine AllReadyH.cons rfl (fun K hK => ?_) AllReadyH.nil
          go_simp
          refine hK.out _ _ (by exact KPR.out _ k9 _ _) (fun hHeld => ?_)
          clear hK K
          try simp only [Act.put, List.setIfInBounds_toArray, List.set_cons_zero, List.set_cons_succ, List.getElem_toArray, List.getElem_cons_succ, List.getElem_cons_zero]
          refine wpAnyH_done (by kernel_rfl) ?_ _
          go_wp2_with fail
          refine bodyPost_ret (v := .agg #[.string u.name, .slice a9 u.args.length c9]) (by simp [results, Tryz.results9, go_sem, World.cell?_setCell_same, World.cell?_setCell_other, y0, y1]) rfl ?_
          exact FIN.out w9 u a9 c9 (k34.out.trans (k9.mono k34.out.size)) S9.out HU.out _ _
end Go.Proofs.YtcdabjekppddjaaGreatDoor
