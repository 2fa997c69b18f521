/- Walks: the document's EtaOf. -/
import Derived.Test.YtaifameeoipjjaaL23
import Derived.BigQuiet
import Derived.Deep.RegionHeld3
namespace Go.Proofs.Ytaifameeoipjjaa
open Go.RowKit
set_option linter.unusedSimpArgs false
set_option linter.unusedVariables false
set_option maxRecDepth 8000

theorem lm_end {w wz : World} {X : Nat → Prop} {t : Lm} {a : Option Addr} {c R : Nat} {v0 v1 v2 : Value} (hR : w.heap.size ≤ R) (hb : Below w.heap.size w wz) (hs : SlM wz (fun b => ((X b ∧ b < w.heap.size) ∨ w.heap.size ≤ b) ∧ b ≠ R) a t.subs) :
    LmPost w X t (.returned (.agg #[.int .i64 t.kind, .int .i64 t.idx, .slice a t.subs.length c])) (((wz.setCell ⟨R, 0, none⟩ v0).setCell ⟨R, 1, none⟩ v1).setCell ⟨R, 2, none⟩ v2) := by
  refine ⟨a, c, rfl, (hs.kept fun b h => ?_).mono fun b h _ => h.1, ((hb.setCell (p := ⟨R, 0, none⟩) hR _).setCell (p := ⟨R, 1, none⟩) hR _).setCell (p := ⟨R, 2, none⟩) hR _⟩
  rw [Below.heap_setCell _ _ _ _ (by simpa using h.2), Below.heap_setCell _ _ _ _ (by simpa using h.2), Below.heap_setCell _ _ _ _ (by simpa using h.2)]
theorem LmPost.later {w w1 w2 : World} {X : Nat → Prop} {t : Lm} {e : Ending} (h : LmPost w X t e w1) (hb : Below w1.heap.size w1 w2) : LmPost w X t e w2 := by
  obtain ⟨a, c, e1, h1, h2⟩ := h
  exact ⟨a, c, e1, h1.later hb, h2.trans (hb.mono h2.size)⟩
/-- What is held while a binder is asked whether it does nothing. -/
def EtS (Q bf of : Nat) (af ax : Option Addr) (cf cx c9 : Nat) (yx : Int) (f x : Lm) (w' : World) : Prop :=
  Blk w' Q #[.int .i64 3, .int .i64 yx, .slice (some ⟨bf, of, none⟩) 2 c9] 24 ∧ w'.cell? ⟨bf, of, none⟩ = some (.int .i64 f.kind) ∧ w'.cell? ⟨bf, of + 1, none⟩ = some (.int .i64 f.idx) ∧ w'.cell? ⟨bf, of + 2, none⟩ = some (.slice af f.subs.length cf) ∧ w'.cell? ⟨bf, of + 3, none⟩ = some (.int .i64 x.kind) ∧ w'.cell? ⟨bf, of + 3 + 1, none⟩ = some (.int .i64 x.idx) ∧ w'.cell? ⟨bf, of + 3 + 2, none⟩ = some (.slice ax x.subs.length cx)
theorem EtS.call0 {Q bf of : Nat} {af ax : Option Addr} {cf cx c9 : Nat} {yx : Int} {f x : Lm} {w w1 : World} (hb : Below w.heap.size w w1) (h : EtS Q bf of af ax cf cx c9 yx f x w) : EtS Q bf of af ax cf cx c9 yx f x w1 := by
  obtain ⟨h0, h1, h2, h3, h4, h5, h6⟩ := h
  exact ⟨h0.below hb h0.lt, cell_later hb h1, cell_later hb h2, cell_later hb h3, cell_later hb h4, cell_later hb h5, cell_later hb h6⟩
theorem EtS.call {Q bf of : Nat} {af ax : Option Addr} {cf cx c9 : Nat} {yx : Int} {f x : Lm} {w w1 : World} {n : Nat} (hb : Below (w.drewN n).heap.size (w.drewN n) w1) (h : EtS Q bf of af ax cf cx c9 yx f x w) : EtS Q bf of af ax cf cx c9 yx f x w1 :=
  EtS.call0 ((below_drewN (Below.refl _ _) n).trans (hb.mono (by simp))) h
/-- Is a term what the nearest binder binds? -/
def varZ (x : Lm) : Bool := decide (x.kind = 1) && decide (x.idx = 0)
theorem etaK_three (ix yx : Int) (f x : Lm) : etaK 2 ix [⟨3, yx, [f, x]⟩] = if (decide (usesM 0 [f] = 0) && varZ x) = true then higT (-1) 0 f else ⟨2, ix, [⟨3, yx, [f, x]⟩]⟩ := by
  have h : idleT ⟨3, yx, [f, x]⟩ = (decide (usesM 0 [f] = 0) && varZ x) := by unfold idleT varZ; simp [Bool.and_assoc]
  unfold etaK
  simp only [if_true, h]
set_option maxHeartbeats 1000000 in
theorem sameVar_any (x : Lm) (v : Value) (w : World) (X : Nat → Prop) (hv : MV w X v x) (hsh : ShM [x]) :
    Calls Try.prog 15 #[v, .agg #[.int .i64 1, .int .i64 0, .slice none 0 0]] w fun e w' => e = .returned (.bool (varZ x)) ∧ Below w.heap.size w w' := by
  obtain ⟨kd, ix, l⟩ := x
  rw [ShM_cons] at hsh
  by_cases hv1 : kd = 1 ∧ ix = 0
  · obtain ⟨rfl, rfl⟩ := hv1
    have hl0 : l = [] := List.length_eq_zero_iff.1 (by have := hsh.1; simpa [subsK] using this)
    subst hl0
    have h := sameM_any ⟨1, 0, []⟩ _ _ w X X hv ⟨none, 0, rfl, by simp, Or.inl rfl⟩
    simpa [varZ] using h
  · obtain ⟨a, c, rfl, hs⟩ := hv
    have HB : Hid (∀ o o', Below w.heap.size w ((w.alloc o).alloc o')) := fun o o' => below2M o o'
    have HZ : Hid (false = varZ ⟨kd, ix, l⟩) := by unfold Hid varZ; symm; simp; intro h h2; exact hv1 ⟨h, h2⟩
    by_cases h1 : kd = 1
    · subst h1
      have h2 : (ix != 0) = true := by simp; intro h; exact hv1 ⟨rfl, h⟩
      have h3 : (ix == 0) = false := by simp; intro h; exact hv1 ⟨rfl, h⟩
      go_enter Try.func15, Try.ntmps15
      go_wp2_with fail
      go_ret
      exact ⟨ret_boolM HZ.out, HB.out _ _⟩
    · have h2 : (kd != 1) = true := by simpa using h1
      have h3 : (kd == 1) = false := by simpa using h1
      go_enter Try.func15, Try.ntmps15
      go_wp2_with fail
      go_ret
      exact ⟨ret_boolM HZ.out, HB.out _ _⟩
set_option maxHeartbeats 4000000 in
theorem etaOf_any (t : Lm) : ∀ (v : Value) (w : World) (X : Nat → Prop), MV w X v t → sizeM [t] ≤ 10000 → BndM [t] → ShM [t] →
    Calls Try.prog 9 #[v] w fun e w' => LmPost w X (etaT t) e w' := by
  induction t using Lm.ind with
  | h kd ix l ih =>
    intro v w X hv hd1 hbn hsh
    obtain ⟨a, c, rfl, hs⟩ := hv
    have IH := hide ih
    have HS := hide hs
    have hl := hs.1
    have hz : sizeM [(⟨kd, ix, l⟩ : Lm)] = 1 + sizeM l := by simp [sizeM]
    rw [hz] at hd1
    rw [BndM_cons] at hbn
    rw [ShM_cons] at hsh
    obtain ⟨⟨hx0, hx1⟩, hbn, _⟩ := hbn
    obtain ⟨hnl, hsh, _⟩ := hsh
    have HBN := hide hbn
    have HSH := hide hsh
    have HNL := hide hnl
    have hlen := sizeM_len l
    clear ih hs hz hbn hsh hnl
    have B2 : Hid (Below w.heap.size w ((w.alloc (.cells #[.int .i64 kd, .int .i64 ix, .slice a l.length c] 24)).alloc (.cells #[.int .i64 0, .int .i64 0, .slice none 0 0] 24))) := ((Below.refl _ _).alloc (Nat.le_refl _) _).alloc (by simp) _
    have T2 : Hid (Blk ((w.alloc (.cells #[.int .i64 kd, .int .i64 ix, .slice a l.length c] 24)).alloc (.cells #[.int .i64 0, .int .i64 0, .slice none 0 0] 24)) w.heap.size #[.int .i64 kd, .int .i64 ix, .slice a l.length c] 24) := (Blk.new w _ _).alloc _
    have R2 : Hid (Blk ((w.alloc (.cells #[.int .i64 kd, .int .i64 ix, .slice a l.length c] 24)).alloc (.cells #[.int .i64 0, .int .i64 0, .slice none 0 0] 24)) (w.heap.size + 1) #[.int .i64 0, .int .i64 0, .slice none 0 0] 24) := by
      have h := Blk.new (w.alloc (.cells #[.int .i64 kd, .int .i64 ix, .slice a l.length c] 24)) #[.int .i64 0, .int .i64 0, .slice none 0 0] 24
      rw [World.size_alloc] at h
      exact h
    by_cases k2 : kd = 2
    case pos =>
      subst k2
      go_enter Try.func9, Try.ntmps9
      go_wp2_with fail
      have T3 := hide (T2.out.alloc (.cells #[.int .i64 2, .int .i64 ix, .slice none 0 0] 24))
      have R3 := hide (R2.out.alloc (.cells #[.int .i64 2, .int .i64 ix, .slice none 0 0] 24))
      have O3 := hide (Blk.new ((w.alloc (.cells #[.int .i64 2, .int .i64 ix, .slice a l.length c] 24)).alloc (.cells #[.int .i64 0, .int .i64 0, .slice none 0 0] 24)) #[.int .i64 2, .int .i64 ix, .slice none 0 0] 24)
      have B3 := hide (B2.out.alloc B2.out.size (.cells #[.int .i64 2, .int .i64 ix, .slice none 0 0] 24))
      have eO : ((w.alloc (.cells #[.int .i64 2, .int .i64 ix, .slice a l.length c] 24)).alloc (.cells #[.int .i64 0, .int .i64 0, .slice none 0 0] 24)).heap.size = w.heap.size + 2 := by simp
      rw [eO] at O3
      clear eO B2 T2 R2
      generalize ((w.alloc (.cells #[.int .i64 2, .int .i64 ix, .slice a l.length c] 24)).alloc (.cells #[.int .i64 0, .int .i64 0, .slice none 0 0] 24)).alloc (.cells #[.int .i64 2, .int .i64 ix, .slice none 0 0] 24) = w3 at *
      obtain ⟨O, eO⟩ : ∃ O, O = w.heap.size + 2 := ⟨_, rfl⟩
      rw [← eO] at O3
      simp only [← eO]
      have hO : w.heap.size + 2 ≤ O := by omega
      clear eO
      go_loopw [4] (fun i wr => ∃ (k : Nat) (u : Value), k ≤ l.length ∧ i = .int .i64 (k : Int) ∧ LmSet w (fun b => X b ∧ b < w.heap.size) O 2 ix a l.length c u (etaM (l.take k)) wr) (fun i wr => l.length - (intOf i).toNat)
      case atStart => exact ⟨0, .slice none 0 0, Nat.zero_le _, rfl, [], by have h := RowM.start w3 (O + 1) 24 (fun b => X b ∧ b < w.heap.size); simpa [etaM] using h, B3.out, T3.out, R3.out, O3.out, O3.out.lt⟩
      case round =>
        obtain ⟨k, u9, hk, rfl, hset⟩ := hrel
        have SET := hide hset
        obtain ⟨xs, hrow, hbb, hT, hR, hOb, hOl⟩ := hset
        have XE := hide hbb
        have XT := hide hT
        have XR := hide hR
        have XO := hide hOb
        have XW := hide hrow
        clear hrow hbb hR hOb
        have c0 : wr.cell? ⟨w.heap.size, 0, none⟩ = some (.int .i64 2) := hT.cell 0
        have c1 : wr.cell? ⟨w.heap.size, 1, none⟩ = some (.int .i64 ix) := hT.cell 1
        have c2 : wr.cell? ⟨w.heap.size, 2, none⟩ = some (.slice a l.length c) := hT.cell 2
        have o0 : wr.cell? ⟨O, 0, none⟩ = some (.int .i64 2) := XO.out.cell 0
        have o1 : wr.cell? ⟨O, 1, none⟩ = some (.int .i64 ix) := XO.out.cell 1
        have o2 : wr.cell? ⟨O, 2, none⟩ = some u9 := XO.out.cell 2
        clear hT
        by_cases hlt : k < l.length
        · obtain ⟨b, o, a', c', rfl, d0, d0', d1, hx⟩ := (HS.out.mono (Y := (fun b => X b ∧ b < w.heap.size)) fun b h1 h2 => ⟨h1, h2⟩).get XE.out (fun b h _ => h.2) k hlt
          have HX := hide hx
          have hlt2 : (k : Int) < (l.length : Int) := by omega
          have hXb : b < w.heap.size := by
            obtain ⟨_, h1⟩ := HS.out
            rcases h1 with h1 | ⟨b', o', e', h1⟩
            · rw [h1] at hlt; simp at hlt
            · cases e'; exact cell_ltM (liesM_get _ _ _ h1 k hlt).2.1
          have hszk : sizeM [l[k]] ≤ sizeM l := by
            have h1 := sizeM_take l k hlt
            have h2 := sizeM_take_le l (k + 1)
            omega
          have HLN : Hid ((etaM (l.take k)).length ≤ 1000000) := by unfold Hid; rw [etaM_map]; simp; omega
          have HBk := hide (BndM.at k hlt HBN.out)
          have HTK := hide (etaM_take  l k hlt)
          have IHQ : Hid (Calls Try.prog 9 #[.agg #[.int .i64 l[k].kind, .int .i64 l[k].idx, .slice a' l[k].subs.length c']] wr.drew fun e w'' => ∃ a1 c1, e = .returned (.agg #[.int .i64 ((etaT l[k])).kind, .int .i64 ((etaT l[k])).idx, .slice a1 ((etaT l[k])).subs.length c1]) ∧ SlM w'' (fun b => (X b ∧ b < w.heap.size) ∨ wr.heap.size ≤ b) a1 ((etaT l[k])).subs ∧ Below wr.heap.size wr w'') := (IH.out l[k] (List.getElem_mem hlt) _ wr.drew (fun b => X b ∧ b < w.heap.size) (HX.out.later ((Below.refl wr.heap.size wr).drew)) (by omega) HBk.out (ShM.at k hlt HSH.out)).mono fun e w'' hp => by
              obtain ⟨a1, c1, h1, h2, h3⟩ := hp
              exact ⟨a1, c1, h1, h2.mono (fun b hb _ => hb.imp (fun h => h.1) id), ((Below.refl wr.heap.size wr).drew).trans h3⟩
          have HS8 : Hid (LmS w.heap.size b (o + k * 3) 2 ix (some ⟨b, o, none⟩) l.length c l[k].kind l[k].idx (.slice a' l[k].subs.length c') wr) := ⟨XT.out, d0, d0', d1⟩
          clear hx d0 d0' d1 c0 c1 o0 o1
          go_wp2_with fail
          have HSd : Hid (LmS w.heap.size b (o + k * 3) 2 ix (some ⟨b, o, none⟩) l.length c l[k].kind l[k].idx (.slice a' l[k].subs.length c') wr.drew) := HS8.out
          refine wp_region_held_drew (S := LmS w.heap.size b (o + k * 3) 2 ix (some ⟨b, o, none⟩) l.length c l[k].kind l[k].idx (.slice a' l[k].subs.length c')) (by kernel_rfl) HSd.out (fun hHeld => ?_)
          refine wpAnyH_take (i := 0) (v := ?_) rfl (by kernel_rfl) (by kernel_rfl) (by kernel_rfl) (fun _ _ _ h => h) (Or.inl ⟨by rfl, ?_⟩) (by assumption) ?_
          rotate_left
          · intro w' hSw
            go_simp <;> with_reducible rfl
          try simp only [Act.put, List.setIfInBounds_toArray, List.set_cons_zero, List.set_cons_succ, List.getElem_toArray, List.getElem_cons_succ, List.getElem_cons_zero]
          refine wpAnyH_take (i := 2) (v := ?_) rfl (by kernel_rfl) (by kernel_rfl) (by kernel_rfl) (fun _ _ _ h => h) (Or.inl ⟨by rfl, ?_⟩) (by assumption) ?_
          rotate_left
          · intro w' hSw
            go_simp <;> with_reducible rfl
          try simp only [Act.put, List.setIfInBounds_toArray, List.set_cons_zero, List.set_cons_succ, List.getElem_toArray, List.getElem_cons_succ, List.getElem_cons_zero]
          refine wpAnyH_take (i := 3) (v := ?_) rfl (by kernel_rfl) (by kernel_rfl) (by kernel_rfl) (fun _ _ _ h => h) (Or.inl ⟨by rfl, ?_⟩) (by assumption) ?_
          rotate_left
          · intro w' hSw
            have c2 : w'.cell? ⟨w.heap.size, 2, none⟩ = some (.slice (some ⟨b, o, none⟩) l.length c) := hSw.1.cell 2
            go_simp <;> with_reducible rfl
          try simp only [Act.put, List.setIfInBounds_toArray, List.set_cons_zero, List.set_cons_succ, List.getElem_toArray, List.getElem_cons_succ, List.getElem_cons_zero]
          refine wpAnyH_take (i := 4) (v := ?_) rfl (by kernel_rfl) (by kernel_rfl) (by kernel_rfl) (fun _ _ _ h => h) (Or.inl ⟨by rfl, ?_⟩) (by assumption) ?_
          rotate_left
          · intro w' hSw
            go_simp <;> with_reducible rfl
          try simp only [Act.put, List.setIfInBounds_toArray, List.set_cons_zero, List.set_cons_succ, List.getElem_toArray, List.getElem_cons_succ, List.getElem_cons_zero]
          refine wpAnyH_take (i := 5) (v := ?_) rfl (by kernel_rfl) (by kernel_rfl) (by kernel_rfl) (fun _ _ _ h => h) (Or.inl ⟨by rfl, ?_⟩) (by assumption) ?_
          rotate_left
          · intro w' hSw
            go_simp <;> with_reducible rfl
          try simp only [Act.put, List.setIfInBounds_toArray, List.set_cons_zero, List.set_cons_succ, List.getElem_toArray, List.getElem_cons_succ, List.getElem_cons_zero]
          refine wpAnyH_take (i := 6) (v := ?_) rfl (by kernel_rfl) (by kernel_rfl) (by kernel_rfl) (fun _ _ _ h => h) (Or.inl ⟨by rfl, ?_⟩) (by assumption) ?_
          rotate_left
          · intro w' hSw
            have e0 := hSw.2.1
            have e1 := hSw.2.2.1
            have e2 := hSw.2.2.2
            go_simp <;> with_reducible rfl
          try simp only [Act.put, List.setIfInBounds_toArray, List.set_cons_zero, List.set_cons_succ, List.getElem_toArray, List.getElem_cons_succ, List.getElem_cons_zero]
          have ob4 : wr.drew.cell? ⟨O, 2, none⟩ = some u9 := XO.out.cell 2
          refine wpAnyH_ready (rs := [1, 7]) (by kernel_rfl) (by simp) ?_
          refine AllReadyH.cons rfl (fun K hK => ?_) (AllReadyH.cons rfl (fun K hK => ?_) AllReadyH.nil)
          · go_simp
            refine hK.out _ _ (by exact HSd.out) (fun hHeld => ?_)
            clear hK K
            try simp only [Act.put, List.setIfInBounds_toArray, List.set_cons_zero, List.set_cons_succ, List.getElem_toArray, List.getElem_cons_succ, List.getElem_cons_zero]
            refine wpAnyH_ready (rs := [7]) (by kernel_rfl) (by simp) ?_
            refine AllReadyH.cons rfl (fun K hK => ?_) AllReadyH.nil
            go_simp
            go_at_call 9
            refine IHQ.out.mono ?_
            rintro e w5 ⟨a5, c5, rfl, hs5, hb5⟩
            obtain ⟨g, cap, w3, hrun, S1, S2, S3, o3, of, S4, hset⟩ := lm_round (c1 := c5) hO (fun b h => h.2) hXb SET.out HS8.out HLN.out hb5 hs5
            have HRUN := hide hrun
            have HSET := hide hset
            have S1h := hide S1
            have S2h := hide S2
            have S3h := hide S3
            have S4h := hide S4
            have ob5 : w5.cell? ⟨O, 2, none⟩ = some u9 := (hb5.cell (p := ⟨O, 2, none⟩) XO.out.lt).trans (XO.out.cell 2)
            have HB5 := hide hb5
            clear hrun hset S1 S2 S3 S4 hs5 hb5
            go_simp
            refine hK.out _ _ (by exact S1h.out) (fun hHeld => ?_)
            clear hK K
            try simp only [Act.put, List.setIfInBounds_toArray, List.set_cons_zero, List.set_cons_succ, List.getElem_toArray, List.getElem_cons_succ, List.getElem_cons_zero]
            refine wpAnyH_ready (rs := [8]) (by kernel_rfl) (by simp) ?_
            refine AllReadyH.cons rfl (fun K hK => ?_) AllReadyH.nil
            go_simp
            refine hK.out _ _ (by exact S2h.out) (fun hHeld => ?_)
            clear hK K
            try simp only [Act.put, List.setIfInBounds_toArray, List.set_cons_zero, List.set_cons_succ, List.getElem_toArray, List.getElem_cons_succ, List.getElem_cons_zero]
            refine wpAnyH_ready (rs := [9]) (by kernel_rfl) (by simp) ?_
            refine AllReadyH.cons rfl (fun K hK => ?_) AllReadyH.nil
            refine step_append_eqM rfl _ _ _ _ rfl rfl rfl HRUN.out ?_
            refine hK.out _ _ (by exact S3h.out) (fun hHeld => ?_)
            clear hK K
            try simp only [Act.put, List.setIfInBounds_toArray, List.set_cons_zero, List.set_cons_succ, List.getElem_toArray, List.getElem_cons_succ, List.getElem_cons_zero]
            refine wpAnyH_take (i := 10) (v := ?_) rfl (by kernel_rfl) (by kernel_rfl) (by kernel_rfl) (fun _ _ _ h => h) (Or.inl ⟨by rfl, ?_⟩) (by assumption) ?_
            rotate_left
            · intro w' hSw
              go_simp <;> with_reducible rfl
            try simp only [Act.put, List.setIfInBounds_toArray, List.set_cons_zero, List.set_cons_succ, List.getElem_toArray, List.getElem_cons_succ, List.getElem_cons_zero]
            refine wpAnyH_ready (rs := [11]) (by kernel_rfl) (by simp) ?_
            refine AllReadyH.cons rfl (fun K hK => ?_) AllReadyH.nil
            go_simp
            refine hK.out _ _ (by exact S4h.out) (fun hHeld => ?_)
            clear hK K
            try simp only [Act.put, List.setIfInBounds_toArray, List.set_cons_zero, List.set_cons_succ, List.getElem_toArray, List.getElem_cons_succ, List.getElem_cons_zero]
            refine wpAnyH_done (by kernel_rfl) ?_ _
            go_wp2_with fail
            go_roundw
            case rel => exact ⟨k + 1, _, by omega, by go_num, by rw [HTK.out]; exact HSET.out⟩
            case measure => simp [intOf]; omega
          · go_simp
            go_at_call 9
            refine IHQ.out.mono ?_
            rintro e w5 ⟨a5, c5, rfl, hs5, hb5⟩
            obtain ⟨g, cap, w3, hrun, S1, S2, S3, o3, of, S4, hset⟩ := lm_round (c1 := c5) hO (fun b h => h.2) hXb SET.out HS8.out HLN.out hb5 hs5
            have HRUN := hide hrun
            have HSET := hide hset
            have S1h := hide S1
            have S2h := hide S2
            have S3h := hide S3
            have S4h := hide S4
            have ob5 : w5.cell? ⟨O, 2, none⟩ = some u9 := (hb5.cell (p := ⟨O, 2, none⟩) XO.out.lt).trans (XO.out.cell 2)
            have HB5 := hide hb5
            clear hrun hset S1 S2 S3 S4 hs5 hb5
            go_simp
            refine hK.out _ _ (by exact S1h.out) (fun hHeld => ?_)
            clear hK K
            try simp only [Act.put, List.setIfInBounds_toArray, List.set_cons_zero, List.set_cons_succ, List.getElem_toArray, List.getElem_cons_succ, List.getElem_cons_zero]
            refine wpAnyH_ready (rs := [1, 8]) (by kernel_rfl) (by simp) ?_
            refine AllReadyH.cons rfl (fun K hK => ?_) (AllReadyH.cons rfl (fun K hK => ?_) AllReadyH.nil)
            · go_simp
              refine hK.out _ _ (by exact S1h.out) (fun hHeld => ?_)
              clear hK K
              try simp only [Act.put, List.setIfInBounds_toArray, List.set_cons_zero, List.set_cons_succ, List.getElem_toArray, List.getElem_cons_succ, List.getElem_cons_zero]
              refine wpAnyH_ready (rs := [8]) (by kernel_rfl) (by simp) ?_
              refine AllReadyH.cons rfl (fun K hK => ?_) AllReadyH.nil
              go_simp
              refine hK.out _ _ (by exact S2h.out) (fun hHeld => ?_)
              clear hK K
              try simp only [Act.put, List.setIfInBounds_toArray, List.set_cons_zero, List.set_cons_succ, List.getElem_toArray, List.getElem_cons_succ, List.getElem_cons_zero]
              refine wpAnyH_ready (rs := [9]) (by kernel_rfl) (by simp) ?_
              refine AllReadyH.cons rfl (fun K hK => ?_) AllReadyH.nil
              refine step_append_eqM rfl _ _ _ _ rfl rfl rfl HRUN.out ?_
              refine hK.out _ _ (by exact S3h.out) (fun hHeld => ?_)
              clear hK K
              try simp only [Act.put, List.setIfInBounds_toArray, List.set_cons_zero, List.set_cons_succ, List.getElem_toArray, List.getElem_cons_succ, List.getElem_cons_zero]
              refine wpAnyH_take (i := 10) (v := ?_) rfl (by kernel_rfl) (by kernel_rfl) (by kernel_rfl) (fun _ _ _ h => h) (Or.inl ⟨by rfl, ?_⟩) (by assumption) ?_
              rotate_left
              · intro w' hSw
                go_simp <;> with_reducible rfl
              try simp only [Act.put, List.setIfInBounds_toArray, List.set_cons_zero, List.set_cons_succ, List.getElem_toArray, List.getElem_cons_succ, List.getElem_cons_zero]
              refine wpAnyH_ready (rs := [11]) (by kernel_rfl) (by simp) ?_
              refine AllReadyH.cons rfl (fun K hK => ?_) AllReadyH.nil
              go_simp
              refine hK.out _ _ (by exact S4h.out) (fun hHeld => ?_)
              clear hK K
              try simp only [Act.put, List.setIfInBounds_toArray, List.set_cons_zero, List.set_cons_succ, List.getElem_toArray, List.getElem_cons_succ, List.getElem_cons_zero]
              refine wpAnyH_done (by kernel_rfl) ?_ _
              go_wp2_with fail
              go_roundw
              case rel => exact ⟨k + 1, _, by omega, by go_num, by rw [HTK.out]; exact HSET.out⟩
              case measure => simp [intOf]; omega
            · go_simp
              refine hK.out _ _ (by exact S2h.out) (fun hHeld => ?_)
              clear hK K
              try simp only [Act.put, List.setIfInBounds_toArray, List.set_cons_zero, List.set_cons_succ, List.getElem_toArray, List.getElem_cons_succ, List.getElem_cons_zero]
              refine wpAnyH_ready (rs := [1]) (by kernel_rfl) (by simp) ?_
              refine AllReadyH.cons rfl (fun K hK => ?_) AllReadyH.nil
              have ob6 := ((hide (XO.out.below HB5.out XO.out.lt)).out.alloc (.cells #[.int .i64 (etaT l[k]).kind, .int .i64 (etaT l[k]).idx, .slice a5 (etaT l[k]).subs.length c5] 24)).cell 2
              go_simp
              refine hK.out _ _ (by exact S2h.out) (fun hHeld => ?_)
              clear hK K
              try simp only [Act.put, List.setIfInBounds_toArray, List.set_cons_zero, List.set_cons_succ, List.getElem_toArray, List.getElem_cons_succ, List.getElem_cons_zero]
              refine wpAnyH_ready (rs := [9]) (by kernel_rfl) (by simp) ?_
              refine AllReadyH.cons rfl (fun K hK => ?_) AllReadyH.nil
              refine step_append_eqM rfl _ _ _ _ rfl rfl rfl HRUN.out ?_
              refine hK.out _ _ (by exact S3h.out) (fun hHeld => ?_)
              clear hK K
              try simp only [Act.put, List.setIfInBounds_toArray, List.set_cons_zero, List.set_cons_succ, List.getElem_toArray, List.getElem_cons_succ, List.getElem_cons_zero]
              refine wpAnyH_take (i := 10) (v := ?_) rfl (by kernel_rfl) (by kernel_rfl) (by kernel_rfl) (fun _ _ _ h => h) (Or.inl ⟨by rfl, ?_⟩) (by assumption) ?_
              rotate_left
              · intro w' hSw
                go_simp <;> with_reducible rfl
              try simp only [Act.put, List.setIfInBounds_toArray, List.set_cons_zero, List.set_cons_succ, List.getElem_toArray, List.getElem_cons_succ, List.getElem_cons_zero]
              refine wpAnyH_ready (rs := [11]) (by kernel_rfl) (by simp) ?_
              refine AllReadyH.cons rfl (fun K hK => ?_) AllReadyH.nil
              go_simp
              refine hK.out _ _ (by exact S4h.out) (fun hHeld => ?_)
              clear hK K
              try simp only [Act.put, List.setIfInBounds_toArray, List.set_cons_zero, List.set_cons_succ, List.getElem_toArray, List.getElem_cons_succ, List.getElem_cons_zero]
              refine wpAnyH_done (by kernel_rfl) ?_ _
              go_wp2_with fail
              go_roundw
              case rel => exact ⟨k + 1, _, by omega, by go_num, by rw [HTK.out]; exact HSET.out⟩
              case measure => simp [intOf]; omega

        · have hge : ¬ ((k : Int) < (l.length : Int)) := by omega
          have htk : l.take k = l := List.take_of_length_le (by omega)
          rw [htk] at XW
          obtain ⟨ae, ce, rfl, hse⟩ := XW.out.sl
          have HSE := hide hse
          clear hse
          have r0 : wr.cell? ⟨w.heap.size + 1, 0, none⟩ = some (.int .i64 0) := XR.out.cell 0
          have r1 : wr.cell? ⟨w.heap.size + 1, 1, none⟩ = some (.int .i64 0) := XR.out.cell 1
          have r2 : wr.cell? ⟨w.heap.size + 1, 2, none⟩ = some (.slice none 0 0) := XR.out.cell 2
          have rf := XR.out.frozen
          have hRl : w.heap.size + 1 < wr.heap.size := XR.out.lt
          have HEQ : Hid ((etaM (l)).length = l.length) := by unfold Hid; rw [etaM_map]; simp
          have hle1 : (etaM l).length = 1 := by rw [etaM_map]; have := HNL.out; simpa [subsK] using this
          obtain ⟨y, hy⟩ := List.length_eq_one_iff.1 hle1
          have HYF : Hid (ShM [y] ∧ BndM [y] ∧ sizeM [y] ≤ sizeM l) := by have h := eta_facts l HSH.out HBN.out; rw [hy] at h; exact h
          have HTE : Hid (etaT ⟨2, ix, l⟩ = etaK 2 ix [y]) := by unfold Hid etaT; simp only [hy]
          rw [hy] at HSE XO
          rw [hy] at o2
          simp only [List.length_singleton] at XO o2
          obtain ⟨yk, yx, yl⟩ := y
          have SE : Hid (SlM wr (fun b => ((X b ∧ b < w.heap.size) ∨ w.heap.size ≤ b) ∧ b ≠ w.heap.size + 1) ae [⟨yk, yx, yl⟩]) := HSE.out.mono fun b hb _ => by
            rcases hb with h | h
            · exact ⟨Or.inl h, by have := h.2; omega⟩
            · exact ⟨Or.inr (by omega), by omega⟩
          obtain ⟨b, o, a9, c9, rfl, d0, d0', d1, hx9⟩ := SE.out.get (Below.refl _ _) (fun _ _ h => h) 0 (by simp)
          simp only [Nat.zero_mul, Nat.add_zero, List.getElem_cons_zero] at d0 d0' d1 hx9
          obtain ⟨a10, c10, e10, hs9⟩ := hx9
          simp at e10
          obtain ⟨rfl, rfl⟩ := e10
          have B1 : Below wr.heap.size wr (wr.alloc (.cells #[.int .i64 yk, .int .i64 yx, .slice a9 yl.length c9] 24)) := (Below.refl _ _).alloc (Nat.le_refl _) _
          have S9 := hide (hs9.later B1)
          have SZ := hide (SE.out.later B1)
          have QZ : Hid (Blk (wr.alloc (.cells #[.int .i64 yk, .int .i64 yx, .slice a9 yl.length c9] 24)) wr.heap.size #[.int .i64 yk, .int .i64 yx, .slice a9 yl.length c9] 24) := Blk.new _ _ _
          have OZ := hide (XO.out.alloc (.cells #[.int .i64 yk, .int .i64 yx, .slice a9 yl.length c9] 24))
          have RZ := hide (XR.out.alloc (.cells #[.int .i64 yk, .int .i64 yx, .slice a9 yl.length c9] 24))
          have BZ := hide (XE.out.alloc XE.out.size (.cells #[.int .i64 yk, .int .i64 yx, .slice a9 yl.length c9] 24))
          clear hs9 hy hle1 HSE XW SE B1
          go_upto_region 9 with fail
          clear r0 r1 r2 rf hRl o0 o1 o2 d0 d0' d1 XO XR XE
          generalize (wr.alloc (.cells #[.int .i64 yk, .int .i64 yx, .slice a9 yl.length c9] 24)) = wq at *
          generalize wr.heap.size = Q at *
          have BR : Hid (Below wq.heap.size wq wq) := Below.refl _ _
          by_cases k3 : yk = 3
          case neg =>
            have e3 : (yk == 3) = false := by simpa using k3
            have HT : Hid (etaK 2 ix [⟨yk, yx, yl⟩] = ⟨2, ix, [⟨yk, yx, yl⟩]⟩) := by
              rcases etaK_two ix [⟨yk, yx, yl⟩] with h | ⟨q1, q2, q3, q4, h1, h2, h3⟩
              · exact h
              · simp at h1
                exfalso
                rw [← h1.1] at h2
                unfold idleT at h2
                simp [k3] at h2
            have q0 : wq.cell? ⟨Q, 0, none⟩ = some (.int .i64 yk) := QZ.out.cell 0
            go_quiet (fail)
            have RY := hide (RZ.out.below BR.out RZ.out.lt)
            have r0 : wq.cell? ⟨w.heap.size + 1, 0, none⟩ = some (.int .i64 0) := RY.out.cell 0
            have r1 : wq.cell? ⟨w.heap.size + 1, 1, none⟩ = some (.int .i64 0) := RY.out.cell 1
            have r2 : wq.cell? ⟨w.heap.size + 1, 2, none⟩ = some (.slice none 0 0) := RY.out.cell 2
            have rf := RY.out.frozen
            have hRl : w.heap.size + 1 < wq.heap.size := RY.out.lt
            have OY := hide (OZ.out.below BR.out OZ.out.lt)
            have o0 : wq.cell? ⟨O, 0, none⟩ = some (.int .i64 2) := OY.out.cell 0
            have o1 : wq.cell? ⟨O, 1, none⟩ = some (.int .i64 ix) := OY.out.cell 1
            have o2 : wq.cell? ⟨O, 2, none⟩ = some (.slice (some ⟨b, o, none⟩) 1 ce) := OY.out.cell 2
            go_wp2_with fail
            refine bodyPost_ret (v := .agg #[.int .i64 2, .int .i64 ix, .slice (some ⟨b, o, none⟩) 1 ce]) (by simp [results, Try.results9, go_sem, World.cell?_setCell_same, World.cell?_setCell_other, r0, r1, r2, hRl]) rfl ?_
            rw [HTE.out, HT.out]
            exact lm_end (t := ⟨2, ix, [⟨yk, yx, yl⟩]⟩) (by omega) (BZ.out.trans ((below_drewN BR.out _).mono BZ.out.size)) (SZ.out.later (below_drewN BR.out _))
          case pos =>
            subst k3
            have hyl := HYF.out.1
            rw [ShM_cons] at hyl
            have hyl2 : yl.length = 2 := by simpa [subsK] using hyl.1
            obtain ⟨f, x, rfl⟩ : ∃ f x, yl = [f, x] := by
              match yl, hyl2 with
              | [f, x], _ => exact ⟨f, x, rfl⟩
            have HFX : Hid (ShM [f] ∧ ShM [x]) := ⟨ShM.at 0 (by simp) hyl.2.1, ShM.at 1 (by simp) hyl.2.1⟩
            obtain ⟨bf, of, af, cf, rfl, f0, f0', f1, hxf⟩ := S9.out.get (Below.refl _ _) (fun _ _ h => h) 0 (by simp)
            obtain ⟨bf2, of2, ax, cx, ebf, x0, x0', x1, hxx⟩ := S9.out.get (Below.refl _ _) (fun _ _ h => h) 1 (by simp)
            simp at ebf
            obtain ⟨rfl, rfl⟩ := ebf
            simp only [Nat.zero_mul, Nat.one_mul, Nat.add_zero, List.getElem_cons_zero, List.getElem_cons_succ, List.length_cons, List.length_nil] at f0 f0' f1 x0 x0' x1 hxf hxx
            have HXF := hide hxf
            have HXX := hide hxx
            have HSZ : Hid (sizeM [f] ≤ 10000 ∧ BndM [f]) := by
              have h1 := HYF.out.2.1
              rw [BndM_cons] at h1
              have h2 : sizeM [f] ≤ sizeM [f, x] := sizeM_take_le [f, x] 1
              have h3 := HYF.out.2.2
              have h4 : sizeM [(⟨3, yx, [f, x]⟩ : Lm)] = 1 + sizeM [f, x] := by simp [sizeM]
              exact ⟨by omega, BndM.at 0 (by simp) h1.2.1⟩
            have HS0 : Hid (wq.cell? ⟨Q, 0, none⟩ = some (.int .i64 3) ∧ wq.cell? ⟨Q, 2, none⟩ = some (.slice (some ⟨bf, of, none⟩) 2 c9) ∧ wq.cell? ⟨bf, of, none⟩ = some (.int .i64 f.kind) ∧ wq.cell? ⟨bf, of + 1, none⟩ = some (.int .i64 f.idx) ∧ wq.cell? ⟨bf, of + 2, none⟩ = some (.slice af f.subs.length cf) ∧ wq.cell? ⟨bf, of + 3, none⟩ = some (.int .i64 x.kind) ∧ wq.cell? ⟨bf, of + 3 + 1, none⟩ = some (.int .i64 x.idx) ∧ wq.cell? ⟨bf, of + 3 + 2, none⟩ = some (.slice ax x.subs.length cx)) := ⟨QZ.out.cell 0, QZ.out.cell 2, f0, f0', f1, x0, x0', x1⟩
            have KP : Hid (∀ w', Below wq.heap.size wq w' → w'.cell? ⟨Q, 0, none⟩ = some (.int .i64 3) ∧ w'.cell? ⟨Q, 2, none⟩ = some (.slice (some ⟨bf, of, none⟩) 2 c9) ∧ w'.cell? ⟨bf, of, none⟩ = some (.int .i64 f.kind) ∧ w'.cell? ⟨bf, of + 1, none⟩ = some (.int .i64 f.idx) ∧ w'.cell? ⟨bf, of + 2, none⟩ = some (.slice af f.subs.length cf) ∧ w'.cell? ⟨bf, of + 3, none⟩ = some (.int .i64 x.kind) ∧ w'.cell? ⟨bf, of + 3 + 1, none⟩ = some (.int .i64 x.idx) ∧ w'.cell? ⟨bf, of + 3 + 2, none⟩ = some (.slice ax x.subs.length cx)) := fun w' hb => ⟨cell_later hb HS0.out.1, cell_later hb HS0.out.2.1, cell_later hb HS0.out.2.2.1, cell_later hb HS0.out.2.2.2.1, cell_later hb HS0.out.2.2.2.2.1, cell_later hb HS0.out.2.2.2.2.2.1, cell_later hb HS0.out.2.2.2.2.2.2.1, cell_later hb HS0.out.2.2.2.2.2.2.2⟩
            have HSS := HS0
            clear hxf hxx hyl hyl2 f0 f0' f1 x0 x0' x1 hlen hd1
            have HSV : Hid (∀ wd, Below wq.heap.size wq wd → Calls Try.prog 15 #[.agg #[.int .i64 x.kind, .int .i64 x.idx, .slice ax x.subs.length cx], .agg #[.int .i64 1, .int .i64 0, .slice none 0 0]] wd fun e w' => e = .returned (.bool (varZ x)) ∧ Below wd.heap.size wd w') := fun wd hb => sameVar_any x _ wd _ (HXX.out.later hb) HFX.out.2
            have HUS : Hid (∀ wd, Below wq.heap.size wq wd → Calls Try.prog 17 #[.agg #[.int .i64 f.kind, .int .i64 f.idx, .slice af f.subs.length cf], .int .i64 0] wd fun e w' => e = .returned (.int .i64 (usesM 0 [f] : Int)) ∧ Below wd.heap.size wd w') := fun wd hb => uses_any f _ 0 wd _ (HXF.out.later hb) (by omega) (by have := HSZ.out.1; omega)
            have HE3 := hide (etaK_three ix yx f x)
            cases hz : varZ x with
            | false =>
              have HT : Hid (etaK 2 ix [⟨3, yx, [f, x]⟩] = ⟨2, ix, [⟨3, yx, [f, x]⟩]⟩) := by unfold Hid; rw [HE3.out, hz]; simp
              rw [hz] at HSV
              clear hz HUS HE3
              have k0 : Below wq.heap.size wq wq.drew := (Below.refl _ _).drew
              refine wp_region_held_drew (S := fun w' => w'.cell? ⟨Q, 0, none⟩ = some (.int .i64 3) ∧ w'.cell? ⟨Q, 2, none⟩ = some (.slice (some ⟨bf, of, none⟩) 2 c9) ∧ w'.cell? ⟨bf, of, none⟩ = some (.int .i64 f.kind) ∧ w'.cell? ⟨bf, of + 1, none⟩ = some (.int .i64 f.idx) ∧ w'.cell? ⟨bf, of + 2, none⟩ = some (.slice af f.subs.length cf) ∧ w'.cell? ⟨bf, of + 3, none⟩ = some (.int .i64 x.kind) ∧ w'.cell? ⟨bf, of + 3 + 1, none⟩ = some (.int .i64 x.idx) ∧ w'.cell? ⟨bf, of + 3 + 2, none⟩ = some (.slice ax x.subs.length cx)) (by kernel_rfl) (KP.out _ k0) (fun hHeld => ?_)
              refine wpAnyH_take (i := 0) (v := ?_) rfl (by kernel_rfl) (by kernel_rfl) (by kernel_rfl) (fun _ _ _ h => h) (Or.inl ⟨by rfl, ?_⟩) (by assumption) ?_
              rotate_left
              · intro w' hSw
                obtain ⟨h1, h2, h3, h4, h5, h6, h7, h8⟩ := hSw
                go_simp <;> with_reducible rfl
              try simp only [Act.put, List.setIfInBounds_toArray, List.set_cons_zero, List.set_cons_succ, List.getElem_toArray, List.getElem_cons_succ, List.getElem_cons_zero]
              refine wpAnyH_take (i := 1) (v := ?_) rfl (by kernel_rfl) (by kernel_rfl) (by kernel_rfl) (fun _ _ _ h => h) (Or.inl ⟨by rfl, ?_⟩) (by assumption) ?_
              rotate_left
              · intro w' hSw
                obtain ⟨h1, h2, h3, h4, h5, h6, h7, h8⟩ := hSw
                go_simp <;> with_reducible rfl
              try simp only [Act.put, List.setIfInBounds_toArray, List.set_cons_zero, List.set_cons_succ, List.getElem_toArray, List.getElem_cons_succ, List.getElem_cons_zero]
              refine wpAnyH_take (i := 2) (v := ?_) rfl (by kernel_rfl) (by kernel_rfl) (by kernel_rfl) (fun _ _ _ h => h) (Or.inl ⟨by rfl, ?_⟩) (by assumption) ?_
              rotate_left
              · intro w' hSw
                obtain ⟨h1, h2, h3, h4, h5, h6, h7, h8⟩ := hSw
                go_simp <;> with_reducible rfl
              try simp only [Act.put, List.setIfInBounds_toArray, List.set_cons_zero, List.set_cons_succ, List.getElem_toArray, List.getElem_cons_succ, List.getElem_cons_zero]
              refine wpAnyH_take (i := 3) (v := ?_) rfl (by kernel_rfl) (by kernel_rfl) (by kernel_rfl) (fun _ _ _ h => h) (Or.inl ⟨by rfl, ?_⟩) (by assumption) ?_
              rotate_left
              · intro w' hSw
                obtain ⟨h1, h2, h3, h4, h5, h6, h7, h8⟩ := hSw
                go_simp <;> with_reducible rfl
              try simp only [Act.put, List.setIfInBounds_toArray, List.set_cons_zero, List.set_cons_succ, List.getElem_toArray, List.getElem_cons_succ, List.getElem_cons_zero]
              refine wpAnyH_take (i := 4) (v := ?_) rfl (by kernel_rfl) (by kernel_rfl) (by kernel_rfl) (fun _ _ _ h => h) (Or.inl ⟨by rfl, ?_⟩) (by assumption) ?_
              rotate_left
              · intro w' hSw
                obtain ⟨h1, h2, h3, h4, h5, h6, h7, h8⟩ := hSw
                go_simp <;> with_reducible rfl
              try simp only [Act.put, List.setIfInBounds_toArray, List.set_cons_zero, List.set_cons_succ, List.getElem_toArray, List.getElem_cons_succ, List.getElem_cons_zero]
              refine wpAnyH_take (i := 5) (v := ?_) rfl (by kernel_rfl) (by kernel_rfl) (by kernel_rfl) (fun _ _ _ h => h) (Or.inl ⟨by rfl, ?_⟩) (by assumption) ?_
              rotate_left
              · intro w' hSw
                obtain ⟨h1, h2, h3, h4, h5, h6, h7, h8⟩ := hSw
                go_simp <;> with_reducible rfl
              try simp only [Act.put, List.setIfInBounds_toArray, List.set_cons_zero, List.set_cons_succ, List.getElem_toArray, List.getElem_cons_succ, List.getElem_cons_zero]
              refine wpAnyH_take (i := 6) (v := ?_) rfl (by kernel_rfl) (by kernel_rfl) (by kernel_rfl) (fun _ _ _ h => h) (Or.inl ⟨by rfl, ?_⟩) (by assumption) ?_
              rotate_left
              · intro w' hSw
                obtain ⟨h1, h2, h3, h4, h5, h6, h7, h8⟩ := hSw
                go_simp <;> with_reducible rfl
              try simp only [Act.put, List.setIfInBounds_toArray, List.set_cons_zero, List.set_cons_succ, List.getElem_toArray, List.getElem_cons_succ, List.getElem_cons_zero]
              refine wpAnyH_take (i := 7) (v := ?_) rfl (by kernel_rfl) (by kernel_rfl) (by kernel_rfl) (fun _ _ _ h => h) (Or.inl ⟨by rfl, ?_⟩) (by assumption) ?_
              rotate_left
              · intro w' hSw
                obtain ⟨h1, h2, h3, h4, h5, h6, h7, h8⟩ := hSw
                go_simp <;> with_reducible rfl
              try simp only [Act.put, List.setIfInBounds_toArray, List.set_cons_zero, List.set_cons_succ, List.getElem_toArray, List.getElem_cons_succ, List.getElem_cons_zero]
              refine wpAnyH_ready (rs := [8]) (by kernel_rfl) (by simp) ?_
              refine AllReadyH.cons rfl (fun K hK => ?_) AllReadyH.nil
              go_simp
              go_at_call 16
              refine (lvar_any 0 _).mono ?_
              rintro e w4 ⟨rfl, hb4⟩
              have k4 : Below wq.heap.size wq w4 := k0.trans hb4
              have z4 := KP.out _ k4
              clear hb4
              go_simp
              refine hK.out _ _ (by exact z4) (fun hHeld => ?_)
              clear hK K
              try simp only [Act.put, List.setIfInBounds_toArray, List.set_cons_zero, List.set_cons_succ, List.getElem_toArray, List.getElem_cons_succ, List.getElem_cons_zero]
              refine wpAnyH_ready (rs := [9]) (by kernel_rfl) (by simp) ?_
              refine AllReadyH.cons rfl (fun K hK => ?_) AllReadyH.nil
              go_simp
              go_at_call 15
              refine (HSV.out _ k4).mono ?_
              rintro e w5 ⟨rfl, hb5⟩
              have k5 := k4.trans (hb5.mono k4.size)
              have z5 := KP.out _ k5
              clear hb5
              go_simp
              refine hK.out _ _ (by exact z5) (fun hHeld => ?_)
              clear hK K
              try simp only [Act.put, List.setIfInBounds_toArray, List.set_cons_zero, List.set_cons_succ, List.getElem_toArray, List.getElem_cons_succ, List.getElem_cons_zero]
              refine wpAnyH_take (i := 10) (v := ?_) rfl (by kernel_rfl) (by kernel_rfl) (by kernel_rfl) (fun _ _ _ h => h) (Or.inl ⟨by rfl, ?_⟩) (by assumption) ?_
              rotate_left
              · intro w' hSw
                go_simp <;> with_reducible rfl
              try simp only [Act.put, List.setIfInBounds_toArray, List.set_cons_zero, List.set_cons_succ, List.getElem_toArray, List.getElem_cons_succ, List.getElem_cons_zero]
              refine wpAnyH_take (i := 11) (v := ?_) rfl (by kernel_rfl) (by kernel_rfl) (by kernel_rfl) (fun _ _ _ h => h) (Or.inl ⟨by rfl, ?_⟩) (by assumption) ?_
              rotate_left
              · intro w' hSw
                go_simp <;> with_reducible rfl
              try simp only [Act.put, List.setIfInBounds_toArray, List.set_cons_zero, List.set_cons_succ, List.getElem_toArray, List.getElem_cons_succ, List.getElem_cons_zero]
              refine wpAnyH_take (i := 12) (v := undef) rfl (by kernel_rfl) (by kernel_rfl) (by kernel_rfl) (fun _ _ _ h => h) (Or.inr ⟨by rfl, rfl⟩) (by assumption) ?_
              try simp only [Act.put, List.setIfInBounds_toArray, List.set_cons_zero, List.set_cons_succ, List.getElem_toArray, List.getElem_cons_succ, List.getElem_cons_zero]
              refine wpAnyH_take (i := 13) (v := undef) rfl (by kernel_rfl) (by kernel_rfl) (by kernel_rfl) (fun _ _ _ h => h) (Or.inr ⟨by rfl, rfl⟩) (by assumption) ?_
              try simp only [Act.put, List.setIfInBounds_toArray, List.set_cons_zero, List.set_cons_succ, List.getElem_toArray, List.getElem_cons_succ, List.getElem_cons_zero]
              refine wpAnyH_take (i := 14) (v := undef) rfl (by kernel_rfl) (by kernel_rfl) (by kernel_rfl) (fun _ _ _ h => h) (Or.inr ⟨by rfl, rfl⟩) (by assumption) ?_
              try simp only [Act.put, List.setIfInBounds_toArray, List.set_cons_zero, List.set_cons_succ, List.getElem_toArray, List.getElem_cons_succ, List.getElem_cons_zero]
              refine wpAnyH_take (i := 15) (v := undef) rfl (by kernel_rfl) (by kernel_rfl) (by kernel_rfl) (fun _ _ _ h => h) (Or.inr ⟨by rfl, rfl⟩) (by assumption) ?_
              try simp only [Act.put, List.setIfInBounds_toArray, List.set_cons_zero, List.set_cons_succ, List.getElem_toArray, List.getElem_cons_succ, List.getElem_cons_zero]
              refine wpAnyH_take (i := 16) (v := undef) rfl (by kernel_rfl) (by kernel_rfl) (by kernel_rfl) (fun _ _ _ h => h) (Or.inr ⟨by rfl, rfl⟩) (by assumption) ?_
              try simp only [Act.put, List.setIfInBounds_toArray, List.set_cons_zero, List.set_cons_succ, List.getElem_toArray, List.getElem_cons_succ, List.getElem_cons_zero]
              refine wpAnyH_take (i := 17) (v := undef) rfl (by kernel_rfl) (by kernel_rfl) (by kernel_rfl) (fun _ _ _ h => h) (Or.inr ⟨by rfl, rfl⟩) (by assumption) ?_
              try simp only [Act.put, List.setIfInBounds_toArray, List.set_cons_zero, List.set_cons_succ, List.getElem_toArray, List.getElem_cons_succ, List.getElem_cons_zero]
              refine wpAnyH_take (i := 18) (v := ?_) rfl (by kernel_rfl) (by kernel_rfl) (by kernel_rfl) (fun _ _ _ h => h) (Or.inl ⟨by rfl, ?_⟩) (by assumption) ?_
              rotate_left
              · intro w' hSw
                go_simp <;> with_reducible rfl
              try simp only [Act.put, List.setIfInBounds_toArray, List.set_cons_zero, List.set_cons_succ, List.getElem_toArray, List.getElem_cons_succ, List.getElem_cons_zero]
              refine wpAnyH_done (by kernel_rfl) ?_ _
              clear z4 z5 KP HSS HS0
              have RY := hide (RZ.out.below k5 RZ.out.lt)
              have r0 : w5.cell? ⟨w.heap.size + 1, 0, none⟩ = some (.int .i64 0) := RY.out.cell 0
              have r1 : w5.cell? ⟨w.heap.size + 1, 1, none⟩ = some (.int .i64 0) := RY.out.cell 1
              have r2 : w5.cell? ⟨w.heap.size + 1, 2, none⟩ = some (.slice none 0 0) := RY.out.cell 2
              have rf := RY.out.frozen
              have hRl : w.heap.size + 1 < w5.heap.size := RY.out.lt
              have OY := hide (OZ.out.below k5 OZ.out.lt)
              have o0 : w5.cell? ⟨O, 0, none⟩ = some (.int .i64 2) := OY.out.cell 0
              have o1 : w5.cell? ⟨O, 1, none⟩ = some (.int .i64 ix) := OY.out.cell 1
              have o2 : w5.cell? ⟨O, 2, none⟩ = some (.slice (some ⟨b, o, none⟩) 1 ce) := OY.out.cell 2
              go_wp2_with fail
              refine bodyPost_ret (v := .agg #[.int .i64 2, .int .i64 ix, .slice (some ⟨b, o, none⟩) 1 ce]) (by simp [results, Try.results9, go_sem, World.cell?_setCell_same, World.cell?_setCell_other, r0, r1, r2, hRl]) rfl ?_
              rw [HTE.out, HT.out]
              exact lm_end (t := ⟨2, ix, [⟨3, yx, [f, x]⟩]⟩) (by omega) (BZ.out.trans (k5.mono BZ.out.size)) (SZ.out.later k5)
            | true =>
              rw [hz] at HSV
              by_cases hu : usesM 0 [f] = 0
              · have HT : Hid (etaK 2 ix [⟨3, yx, [f, x]⟩] = higT (-1) 0 f) := by unfold Hid; rw [HE3.out, hz, hu]; simp
                rw [hu] at HUS
                clear hz HE3
                go_region_held3 (fun w' => w'.cell? ⟨Q, 0, none⟩ = some (.int .i64 3) ∧ w'.cell? ⟨Q, 2, none⟩ = some (.slice (some ⟨bf, of, none⟩) 2 c9) ∧ w'.cell? ⟨bf, of, none⟩ = some (.int .i64 f.kind) ∧ w'.cell? ⟨bf, of + 1, none⟩ = some (.int .i64 f.idx) ∧ w'.cell? ⟨bf, of + 2, none⟩ = some (.slice af f.subs.length cf) ∧ w'.cell? ⟨bf, of + 3, none⟩ = some (.int .i64 x.kind) ∧ w'.cell? ⟨bf, of + 3 + 1, none⟩ = some (.int .i64 x.idx) ∧ w'.cell? ⟨bf, of + 3 + 2, none⟩ = some (.slice ax x.subs.length cx)) (first | exact HSS.out | exact z6 | exact z5 | exact z4 | go_keep)
                  (first
                    | (go_at_call 16; refine (lvar_any 0 _).mono ?_; rintro e w4 ⟨rfl, hb4⟩; have k4 : Below wq.heap.size wq w4 := (by first | exact (((Below.refl wq.heap.size wq).drew).drew).trans hb4 | exact ((below_drewN (Below.refl wq.heap.size wq) _).drew).trans hb4 | exact (below_drewN (Below.refl wq.heap.size wq) 2).trans hb4 | exact ((Below.refl wq.heap.size wq).drew).trans hb4 | exact (below_drewN (Below.refl wq.heap.size wq) 1).trans (hb4.mono (by simp))); have z4 := KP.out _ k4; clear hb4)
                    | (go_at_call 15; refine (HSV.out _ k4).mono ?_; rintro e w5 ⟨rfl, hb5⟩; have k5 := k4.trans (hb5.mono k4.size); have z5 := KP.out _ k5; clear hb5)
                    | (go_at_call 17; refine (HUS.out _ k5).mono ?_; rintro e w6 ⟨rfl, hb6⟩; have k6 := k5.trans (hb6.mono k5.size); have z6 := KP.out _ k6; clear hb6))
                obtain ⟨z60, z61, z62, z63, z64, z65, z66, z67⟩ := z6
                clear z4 z5 KP HSS HS0
                have RY := hide (RZ.out.below k6 RZ.out.lt)
                have r0 : w6.cell? ⟨w.heap.size + 1, 0, none⟩ = some (.int .i64 0) := RY.out.cell 0
                have r1 : w6.cell? ⟨w.heap.size + 1, 1, none⟩ = some (.int .i64 0) := RY.out.cell 1
                have r2 : w6.cell? ⟨w.heap.size + 1, 2, none⟩ = some (.slice none 0 0) := RY.out.cell 2
                have rf := RY.out.frozen
                have hRl : w.heap.size + 1 < w6.heap.size := RY.out.lt
                have OY := hide (OZ.out.below k6 OZ.out.lt)
                have o0 : w6.cell? ⟨O, 0, none⟩ = some (.int .i64 2) := OY.out.cell 0
                have o1 : w6.cell? ⟨O, 1, none⟩ = some (.int .i64 ix) := OY.out.cell 1
                have o2 : w6.cell? ⟨O, 2, none⟩ = some (.slice (some ⟨b, o, none⟩) 1 ce) := OY.out.cell 2
                go_wp2_with fail
                refine (higher_any (-1) (by decide) (by decide) f _ 0 w6 _ (HXF.out.later k6) (by omega) (by have := HSZ.out.1; omega) HSZ.out.2).mono ?_
                rintro e w7 ⟨a7, c7, rfl, hs7, hb7⟩
                have k7 := k6.trans (hb7.mono k6.size)
                have HS7 := hide hs7
                have hR6 := hRl
                clear hs7 r0 r1 r2 rf hRl o0 o1 o2 OY RY z60 z61 z62 z63 z64 z65 z66 z67
                have RY := hide (RZ.out.below k7 RZ.out.lt)
                have r0 : w7.cell? ⟨w.heap.size + 1, 0, none⟩ = some (.int .i64 0) := RY.out.cell 0
                have r1 : w7.cell? ⟨w.heap.size + 1, 1, none⟩ = some (.int .i64 0) := RY.out.cell 1
                have r2 : w7.cell? ⟨w.heap.size + 1, 2, none⟩ = some (.slice none 0 0) := RY.out.cell 2
                have rf := RY.out.frozen
                have hRl : w.heap.size + 1 < w7.heap.size := RY.out.lt
                go_wp2_with fail
                refine bodyPost_ret (v := .agg #[.int .i64 (higT (-1) 0 f).kind, .int .i64 (higT (-1) 0 f).idx, .slice a7 (higT (-1) 0 f).subs.length c7]) (by simp [results, Try.results9, go_sem, World.cell?_setCell_same, World.cell?_setCell_other, r0, r1, r2, hRl]) rfl ?_
                rw [HTE.out, HT.out]
                refine lm_end (t := higT (-1) 0 f) (by omega) (BZ.out.trans (k7.mono BZ.out.size)) (HS7.out.mono fun b hb _ => ?_)
                rcases hb with h | h
                · exact h.1
                · have h6 := BZ.out.size
                  have h7 := k6.size
                  exact ⟨Or.inr (by omega), by omega⟩
              · have HT : Hid (etaK 2 ix [⟨3, yx, [f, x]⟩] = ⟨2, ix, [⟨3, yx, [f, x]⟩]⟩) := by unfold Hid; rw [HE3.out]; simp [hu]
                have hun : (((usesM 0 [f] : Nat) : Int) == 0) = false := by simp; omega
                clear hz HE3
                generalize usesM 0 [f] = un at *
                go_region_held3 (fun w' => w'.cell? ⟨Q, 0, none⟩ = some (.int .i64 3) ∧ w'.cell? ⟨Q, 2, none⟩ = some (.slice (some ⟨bf, of, none⟩) 2 c9) ∧ w'.cell? ⟨bf, of, none⟩ = some (.int .i64 f.kind) ∧ w'.cell? ⟨bf, of + 1, none⟩ = some (.int .i64 f.idx) ∧ w'.cell? ⟨bf, of + 2, none⟩ = some (.slice af f.subs.length cf) ∧ w'.cell? ⟨bf, of + 3, none⟩ = some (.int .i64 x.kind) ∧ w'.cell? ⟨bf, of + 3 + 1, none⟩ = some (.int .i64 x.idx) ∧ w'.cell? ⟨bf, of + 3 + 2, none⟩ = some (.slice ax x.subs.length cx)) (first | exact HSS.out | exact z6 | exact z5 | exact z4 | go_keep)
                  (first
                    | (go_at_call 16; refine (lvar_any 0 _).mono ?_; rintro e w4 ⟨rfl, hb4⟩; have k4 : Below wq.heap.size wq w4 := (by first | exact (((Below.refl wq.heap.size wq).drew).drew).trans hb4 | exact ((below_drewN (Below.refl wq.heap.size wq) _).drew).trans hb4 | exact (below_drewN (Below.refl wq.heap.size wq) 2).trans hb4 | exact ((Below.refl wq.heap.size wq).drew).trans hb4 | exact (below_drewN (Below.refl wq.heap.size wq) 1).trans (hb4.mono (by simp))); have z4 := KP.out _ k4; clear hb4)
                    | (go_at_call 15; refine (HSV.out _ k4).mono ?_; rintro e w5 ⟨rfl, hb5⟩; have k5 := k4.trans (hb5.mono k4.size); have z5 := KP.out _ k5; clear hb5)
                    | (go_at_call 17; refine (HUS.out _ k5).mono ?_; rintro e w6 ⟨rfl, hb6⟩; have k6 := k5.trans (hb6.mono k5.size); have z6 := KP.out _ k6; clear hb6))
                clear z4 z5 z6 KP HSS HS0
                have RY := hide (RZ.out.below k6 RZ.out.lt)
                have r0 : w6.cell? ⟨w.heap.size + 1, 0, none⟩ = some (.int .i64 0) := RY.out.cell 0
                have r1 : w6.cell? ⟨w.heap.size + 1, 1, none⟩ = some (.int .i64 0) := RY.out.cell 1
                have r2 : w6.cell? ⟨w.heap.size + 1, 2, none⟩ = some (.slice none 0 0) := RY.out.cell 2
                have rf := RY.out.frozen
                have hRl : w.heap.size + 1 < w6.heap.size := RY.out.lt
                have OY := hide (OZ.out.below k6 OZ.out.lt)
                have o0 : w6.cell? ⟨O, 0, none⟩ = some (.int .i64 2) := OY.out.cell 0
                have o1 : w6.cell? ⟨O, 1, none⟩ = some (.int .i64 ix) := OY.out.cell 1
                have o2 : w6.cell? ⟨O, 2, none⟩ = some (.slice (some ⟨b, o, none⟩) 1 ce) := OY.out.cell 2
                go_wp2_with fail
                refine bodyPost_ret (v := .agg #[.int .i64 2, .int .i64 ix, .slice (some ⟨b, o, none⟩) 1 ce]) (by simp [results, Try.results9, go_sem, World.cell?_setCell_same, World.cell?_setCell_other, r0, r1, r2, hRl]) rfl ?_
                rw [HTE.out, HT.out]
                exact lm_end (t := ⟨2, ix, [⟨3, yx, [f, x]⟩]⟩) (by omega) (BZ.out.trans (k6.mono BZ.out.size)) (SZ.out.later k6)
    case neg =>
      have e2 : (kd == 2) = false := by simpa using k2
      have HT : Hid (etaT ⟨kd, ix, l⟩ = ⟨kd, ix, etaM l⟩) := by unfold Hid etaT etaK; simp [k2]
      go_enter Try.func9, Try.ntmps9
      go_wp2_with fail
      have T3 := hide (T2.out.alloc (.cells #[.int .i64 kd, .int .i64 ix, .slice none 0 0] 24))
      have R3 := hide (R2.out.alloc (.cells #[.int .i64 kd, .int .i64 ix, .slice none 0 0] 24))
      have O3 := hide (Blk.new ((w.alloc (.cells #[.int .i64 kd, .int .i64 ix, .slice a l.length c] 24)).alloc (.cells #[.int .i64 0, .int .i64 0, .slice none 0 0] 24)) #[.int .i64 kd, .int .i64 ix, .slice none 0 0] 24)
      have B3 := hide (B2.out.alloc B2.out.size (.cells #[.int .i64 kd, .int .i64 ix, .slice none 0 0] 24))
      have eO : ((w.alloc (.cells #[.int .i64 kd, .int .i64 ix, .slice a l.length c] 24)).alloc (.cells #[.int .i64 0, .int .i64 0, .slice none 0 0] 24)).heap.size = w.heap.size + 2 := by simp
      rw [eO] at O3
      clear eO B2 T2 R2
      generalize ((w.alloc (.cells #[.int .i64 kd, .int .i64 ix, .slice a l.length c] 24)).alloc (.cells #[.int .i64 0, .int .i64 0, .slice none 0 0] 24)).alloc (.cells #[.int .i64 kd, .int .i64 ix, .slice none 0 0] 24) = w3 at *
      obtain ⟨O, eO⟩ : ∃ O, O = w.heap.size + 2 := ⟨_, rfl⟩
      rw [← eO] at O3
      simp only [← eO]
      have hO : w.heap.size + 2 ≤ O := by omega
      clear eO
      go_loopw [4] (fun i wr => ∃ (k : Nat) (u : Value), k ≤ l.length ∧ i = .int .i64 (k : Int) ∧ LmSet w (fun b => X b ∧ b < w.heap.size) O kd ix a l.length c u (etaM (l.take k)) wr) (fun i wr => l.length - (intOf i).toNat)
      case atStart => exact ⟨0, .slice none 0 0, Nat.zero_le _, rfl, [], by have h := RowM.start w3 (O + 1) 24 (fun b => X b ∧ b < w.heap.size); simpa [etaM] using h, B3.out, T3.out, R3.out, O3.out, O3.out.lt⟩
      case round =>
        obtain ⟨k, u9, hk, rfl, hset⟩ := hrel
        have SET := hide hset
        obtain ⟨xs, hrow, hbb, hT, hR, hOb, hOl⟩ := hset
        have XE := hide hbb
        have XT := hide hT
        have XR := hide hR
        have XO := hide hOb
        have XW := hide hrow
        clear hrow hbb hR hOb
        have c0 : wr.cell? ⟨w.heap.size, 0, none⟩ = some (.int .i64 kd) := hT.cell 0
        have c1 : wr.cell? ⟨w.heap.size, 1, none⟩ = some (.int .i64 ix) := hT.cell 1
        have c2 : wr.cell? ⟨w.heap.size, 2, none⟩ = some (.slice a l.length c) := hT.cell 2
        have o0 : wr.cell? ⟨O, 0, none⟩ = some (.int .i64 kd) := XO.out.cell 0
        have o1 : wr.cell? ⟨O, 1, none⟩ = some (.int .i64 ix) := XO.out.cell 1
        have o2 : wr.cell? ⟨O, 2, none⟩ = some u9 := XO.out.cell 2
        clear hT
        by_cases hlt : k < l.length
        · obtain ⟨b, o, a', c', rfl, d0, d0', d1, hx⟩ := (HS.out.mono (Y := (fun b => X b ∧ b < w.heap.size)) fun b h1 h2 => ⟨h1, h2⟩).get XE.out (fun b h _ => h.2) k hlt
          have HX := hide hx
          have hlt2 : (k : Int) < (l.length : Int) := by omega
          have hXb : b < w.heap.size := by
            obtain ⟨_, h1⟩ := HS.out
            rcases h1 with h1 | ⟨b', o', e', h1⟩
            · rw [h1] at hlt; simp at hlt
            · cases e'; exact cell_ltM (liesM_get _ _ _ h1 k hlt).2.1
          have hszk : sizeM [l[k]] ≤ sizeM l := by
            have h1 := sizeM_take l k hlt
            have h2 := sizeM_take_le l (k + 1)
            omega
          have HLN : Hid ((etaM (l.take k)).length ≤ 1000000) := by unfold Hid; rw [etaM_map]; simp; omega
          have HBk := hide (BndM.at k hlt HBN.out)
          have HTK := hide (etaM_take  l k hlt)
          have IHQ : Hid (Calls Try.prog 9 #[.agg #[.int .i64 l[k].kind, .int .i64 l[k].idx, .slice a' l[k].subs.length c']] wr.drew fun e w'' => ∃ a1 c1, e = .returned (.agg #[.int .i64 ((etaT l[k])).kind, .int .i64 ((etaT l[k])).idx, .slice a1 ((etaT l[k])).subs.length c1]) ∧ SlM w'' (fun b => (X b ∧ b < w.heap.size) ∨ wr.heap.size ≤ b) a1 ((etaT l[k])).subs ∧ Below wr.heap.size wr w'') := (IH.out l[k] (List.getElem_mem hlt) _ wr.drew (fun b => X b ∧ b < w.heap.size) (HX.out.later ((Below.refl wr.heap.size wr).drew)) (by omega) HBk.out (ShM.at k hlt HSH.out)).mono fun e w'' hp => by
              obtain ⟨a1, c1, h1, h2, h3⟩ := hp
              exact ⟨a1, c1, h1, h2.mono (fun b hb _ => hb.imp (fun h => h.1) id), ((Below.refl wr.heap.size wr).drew).trans h3⟩
          have HS8 : Hid (LmS w.heap.size b (o + k * 3) kd ix (some ⟨b, o, none⟩) l.length c l[k].kind l[k].idx (.slice a' l[k].subs.length c') wr) := ⟨XT.out, d0, d0', d1⟩
          clear hx d0 d0' d1 c0 c1 o0 o1
          go_wp2_with fail
          have HSd : Hid (LmS w.heap.size b (o + k * 3) kd ix (some ⟨b, o, none⟩) l.length c l[k].kind l[k].idx (.slice a' l[k].subs.length c') wr.drew) := HS8.out
          refine wp_region_held_drew (S := LmS w.heap.size b (o + k * 3) kd ix (some ⟨b, o, none⟩) l.length c l[k].kind l[k].idx (.slice a' l[k].subs.length c')) (by kernel_rfl) HSd.out (fun hHeld => ?_)
          refine wpAnyH_take (i := 0) (v := ?_) rfl (by kernel_rfl) (by kernel_rfl) (by kernel_rfl) (fun _ _ _ h => h) (Or.inl ⟨by rfl, ?_⟩) (by assumption) ?_
          rotate_left
          · intro w' hSw
            go_simp <;> with_reducible rfl
          try simp only [Act.put, List.setIfInBounds_toArray, List.set_cons_zero, List.set_cons_succ, List.getElem_toArray, List.getElem_cons_succ, List.getElem_cons_zero]
          refine wpAnyH_take (i := 2) (v := ?_) rfl (by kernel_rfl) (by kernel_rfl) (by kernel_rfl) (fun _ _ _ h => h) (Or.inl ⟨by rfl, ?_⟩) (by assumption) ?_
          rotate_left
          · intro w' hSw
            go_simp <;> with_reducible rfl
          try simp only [Act.put, List.setIfInBounds_toArray, List.set_cons_zero, List.set_cons_succ, List.getElem_toArray, List.getElem_cons_succ, List.getElem_cons_zero]
          refine wpAnyH_take (i := 3) (v := ?_) rfl (by kernel_rfl) (by kernel_rfl) (by kernel_rfl) (fun _ _ _ h => h) (Or.inl ⟨by rfl, ?_⟩) (by assumption) ?_
          rotate_left
          · intro w' hSw
            have c2 : w'.cell? ⟨w.heap.size, 2, none⟩ = some (.slice (some ⟨b, o, none⟩) l.length c) := hSw.1.cell 2
            go_simp <;> with_reducible rfl
          try simp only [Act.put, List.setIfInBounds_toArray, List.set_cons_zero, List.set_cons_succ, List.getElem_toArray, List.getElem_cons_succ, List.getElem_cons_zero]
          refine wpAnyH_take (i := 4) (v := ?_) rfl (by kernel_rfl) (by kernel_rfl) (by kernel_rfl) (fun _ _ _ h => h) (Or.inl ⟨by rfl, ?_⟩) (by assumption) ?_
          rotate_left
          · intro w' hSw
            go_simp <;> with_reducible rfl
          try simp only [Act.put, List.setIfInBounds_toArray, List.set_cons_zero, List.set_cons_succ, List.getElem_toArray, List.getElem_cons_succ, List.getElem_cons_zero]
          refine wpAnyH_take (i := 5) (v := ?_) rfl (by kernel_rfl) (by kernel_rfl) (by kernel_rfl) (fun _ _ _ h => h) (Or.inl ⟨by rfl, ?_⟩) (by assumption) ?_
          rotate_left
          · intro w' hSw
            go_simp <;> with_reducible rfl
          try simp only [Act.put, List.setIfInBounds_toArray, List.set_cons_zero, List.set_cons_succ, List.getElem_toArray, List.getElem_cons_succ, List.getElem_cons_zero]
          refine wpAnyH_take (i := 6) (v := ?_) rfl (by kernel_rfl) (by kernel_rfl) (by kernel_rfl) (fun _ _ _ h => h) (Or.inl ⟨by rfl, ?_⟩) (by assumption) ?_
          rotate_left
          · intro w' hSw
            have e0 := hSw.2.1
            have e1 := hSw.2.2.1
            have e2 := hSw.2.2.2
            go_simp <;> with_reducible rfl
          try simp only [Act.put, List.setIfInBounds_toArray, List.set_cons_zero, List.set_cons_succ, List.getElem_toArray, List.getElem_cons_succ, List.getElem_cons_zero]
          have ob4 : wr.drew.cell? ⟨O, 2, none⟩ = some u9 := XO.out.cell 2
          refine wpAnyH_ready (rs := [1, 7]) (by kernel_rfl) (by simp) ?_
          refine AllReadyH.cons rfl (fun K hK => ?_) (AllReadyH.cons rfl (fun K hK => ?_) AllReadyH.nil)
          · go_simp
            refine hK.out _ _ (by exact HSd.out) (fun hHeld => ?_)
            clear hK K
            try simp only [Act.put, List.setIfInBounds_toArray, List.set_cons_zero, List.set_cons_succ, List.getElem_toArray, List.getElem_cons_succ, List.getElem_cons_zero]
            refine wpAnyH_ready (rs := [7]) (by kernel_rfl) (by simp) ?_
            refine AllReadyH.cons rfl (fun K hK => ?_) AllReadyH.nil
            go_simp
            go_at_call 9
            refine IHQ.out.mono ?_
            rintro e w5 ⟨a5, c5, rfl, hs5, hb5⟩
            obtain ⟨g, cap, w3, hrun, S1, S2, S3, o3, of, S4, hset⟩ := lm_round (c1 := c5) hO (fun b h => h.2) hXb SET.out HS8.out HLN.out hb5 hs5
            have HRUN := hide hrun
            have HSET := hide hset
            have S1h := hide S1
            have S2h := hide S2
            have S3h := hide S3
            have S4h := hide S4
            have ob5 : w5.cell? ⟨O, 2, none⟩ = some u9 := (hb5.cell (p := ⟨O, 2, none⟩) XO.out.lt).trans (XO.out.cell 2)
            have HB5 := hide hb5
            clear hrun hset S1 S2 S3 S4 hs5 hb5
            go_simp
            refine hK.out _ _ (by exact S1h.out) (fun hHeld => ?_)
            clear hK K
            try simp only [Act.put, List.setIfInBounds_toArray, List.set_cons_zero, List.set_cons_succ, List.getElem_toArray, List.getElem_cons_succ, List.getElem_cons_zero]
            refine wpAnyH_ready (rs := [8]) (by kernel_rfl) (by simp) ?_
            refine AllReadyH.cons rfl (fun K hK => ?_) AllReadyH.nil
            go_simp
            refine hK.out _ _ (by exact S2h.out) (fun hHeld => ?_)
            clear hK K
            try simp only [Act.put, List.setIfInBounds_toArray, List.set_cons_zero, List.set_cons_succ, List.getElem_toArray, List.getElem_cons_succ, List.getElem_cons_zero]
            refine wpAnyH_ready (rs := [9]) (by kernel_rfl) (by simp) ?_
            refine AllReadyH.cons rfl (fun K hK => ?_) AllReadyH.nil
            refine step_append_eqM rfl _ _ _ _ rfl rfl rfl HRUN.out ?_
            refine hK.out _ _ (by exact S3h.out) (fun hHeld => ?_)
            clear hK K
            try simp only [Act.put, List.setIfInBounds_toArray, List.set_cons_zero, List.set_cons_succ, List.getElem_toArray, List.getElem_cons_succ, List.getElem_cons_zero]
            refine wpAnyH_take (i := 10) (v := ?_) rfl (by kernel_rfl) (by kernel_rfl) (by kernel_rfl) (fun _ _ _ h => h) (Or.inl ⟨by rfl, ?_⟩) (by assumption) ?_
            rotate_left
            · intro w' hSw
              go_simp <;> with_reducible rfl
            try simp only [Act.put, List.setIfInBounds_toArray, List.set_cons_zero, List.set_cons_succ, List.getElem_toArray, List.getElem_cons_succ, List.getElem_cons_zero]
            refine wpAnyH_ready (rs := [11]) (by kernel_rfl) (by simp) ?_
            refine AllReadyH.cons rfl (fun K hK => ?_) AllReadyH.nil
            go_simp
            refine hK.out _ _ (by exact S4h.out) (fun hHeld => ?_)
            clear hK K
            try simp only [Act.put, List.setIfInBounds_toArray, List.set_cons_zero, List.set_cons_succ, List.getElem_toArray, List.getElem_cons_succ, List.getElem_cons_zero]
            refine wpAnyH_done (by kernel_rfl) ?_ _
            go_wp2_with fail
            go_roundw
            case rel => exact ⟨k + 1, _, by omega, by go_num, by rw [HTK.out]; exact HSET.out⟩
            case measure => simp [intOf]; omega
          · go_simp
            go_at_call 9
            refine IHQ.out.mono ?_
            rintro e w5 ⟨a5, c5, rfl, hs5, hb5⟩
            obtain ⟨g, cap, w3, hrun, S1, S2, S3, o3, of, S4, hset⟩ := lm_round (c1 := c5) hO (fun b h => h.2) hXb SET.out HS8.out HLN.out hb5 hs5
            have HRUN := hide hrun
            have HSET := hide hset
            have S1h := hide S1
            have S2h := hide S2
            have S3h := hide S3
            have S4h := hide S4
            have ob5 : w5.cell? ⟨O, 2, none⟩ = some u9 := (hb5.cell (p := ⟨O, 2, none⟩) XO.out.lt).trans (XO.out.cell 2)
            have HB5 := hide hb5
            clear hrun hset S1 S2 S3 S4 hs5 hb5
            go_simp
            refine hK.out _ _ (by exact S1h.out) (fun hHeld => ?_)
            clear hK K
            try simp only [Act.put, List.setIfInBounds_toArray, List.set_cons_zero, List.set_cons_succ, List.getElem_toArray, List.getElem_cons_succ, List.getElem_cons_zero]
            refine wpAnyH_ready (rs := [1, 8]) (by kernel_rfl) (by simp) ?_
            refine AllReadyH.cons rfl (fun K hK => ?_) (AllReadyH.cons rfl (fun K hK => ?_) AllReadyH.nil)
            · go_simp
              refine hK.out _ _ (by exact S1h.out) (fun hHeld => ?_)
              clear hK K
              try simp only [Act.put, List.setIfInBounds_toArray, List.set_cons_zero, List.set_cons_succ, List.getElem_toArray, List.getElem_cons_succ, List.getElem_cons_zero]
              refine wpAnyH_ready (rs := [8]) (by kernel_rfl) (by simp) ?_
              refine AllReadyH.cons rfl (fun K hK => ?_) AllReadyH.nil
              go_simp
              refine hK.out _ _ (by exact S2h.out) (fun hHeld => ?_)
              clear hK K
              try simp only [Act.put, List.setIfInBounds_toArray, List.set_cons_zero, List.set_cons_succ, List.getElem_toArray, List.getElem_cons_succ, List.getElem_cons_zero]
              refine wpAnyH_ready (rs := [9]) (by kernel_rfl) (by simp) ?_
              refine AllReadyH.cons rfl (fun K hK => ?_) AllReadyH.nil
              refine step_append_eqM rfl _ _ _ _ rfl rfl rfl HRUN.out ?_
              refine hK.out _ _ (by exact S3h.out) (fun hHeld => ?_)
              clear hK K
              try simp only [Act.put, List.setIfInBounds_toArray, List.set_cons_zero, List.set_cons_succ, List.getElem_toArray, List.getElem_cons_succ, List.getElem_cons_zero]
              refine wpAnyH_take (i := 10) (v := ?_) rfl (by kernel_rfl) (by kernel_rfl) (by kernel_rfl) (fun _ _ _ h => h) (Or.inl ⟨by rfl, ?_⟩) (by assumption) ?_
              rotate_left
              · intro w' hSw
                go_simp <;> with_reducible rfl
              try simp only [Act.put, List.setIfInBounds_toArray, List.set_cons_zero, List.set_cons_succ, List.getElem_toArray, List.getElem_cons_succ, List.getElem_cons_zero]
              refine wpAnyH_ready (rs := [11]) (by kernel_rfl) (by simp) ?_
              refine AllReadyH.cons rfl (fun K hK => ?_) AllReadyH.nil
              go_simp
              refine hK.out _ _ (by exact S4h.out) (fun hHeld => ?_)
              clear hK K
              try simp only [Act.put, List.setIfInBounds_toArray, List.set_cons_zero, List.set_cons_succ, List.getElem_toArray, List.getElem_cons_succ, List.getElem_cons_zero]
              refine wpAnyH_done (by kernel_rfl) ?_ _
              go_wp2_with fail
              go_roundw
              case rel => exact ⟨k + 1, _, by omega, by go_num, by rw [HTK.out]; exact HSET.out⟩
              case measure => simp [intOf]; omega
            · go_simp
              refine hK.out _ _ (by exact S2h.out) (fun hHeld => ?_)
              clear hK K
              try simp only [Act.put, List.setIfInBounds_toArray, List.set_cons_zero, List.set_cons_succ, List.getElem_toArray, List.getElem_cons_succ, List.getElem_cons_zero]
              refine wpAnyH_ready (rs := [1]) (by kernel_rfl) (by simp) ?_
              refine AllReadyH.cons rfl (fun K hK => ?_) AllReadyH.nil
              have ob6 := ((hide (XO.out.below HB5.out XO.out.lt)).out.alloc (.cells #[.int .i64 (etaT l[k]).kind, .int .i64 (etaT l[k]).idx, .slice a5 (etaT l[k]).subs.length c5] 24)).cell 2
              go_simp
              refine hK.out _ _ (by exact S2h.out) (fun hHeld => ?_)
              clear hK K
              try simp only [Act.put, List.setIfInBounds_toArray, List.set_cons_zero, List.set_cons_succ, List.getElem_toArray, List.getElem_cons_succ, List.getElem_cons_zero]
              refine wpAnyH_ready (rs := [9]) (by kernel_rfl) (by simp) ?_
              refine AllReadyH.cons rfl (fun K hK => ?_) AllReadyH.nil
              refine step_append_eqM rfl _ _ _ _ rfl rfl rfl HRUN.out ?_
              refine hK.out _ _ (by exact S3h.out) (fun hHeld => ?_)
              clear hK K
              try simp only [Act.put, List.setIfInBounds_toArray, List.set_cons_zero, List.set_cons_succ, List.getElem_toArray, List.getElem_cons_succ, List.getElem_cons_zero]
              refine wpAnyH_take (i := 10) (v := ?_) rfl (by kernel_rfl) (by kernel_rfl) (by kernel_rfl) (fun _ _ _ h => h) (Or.inl ⟨by rfl, ?_⟩) (by assumption) ?_
              rotate_left
              · intro w' hSw
                go_simp <;> with_reducible rfl
              try simp only [Act.put, List.setIfInBounds_toArray, List.set_cons_zero, List.set_cons_succ, List.getElem_toArray, List.getElem_cons_succ, List.getElem_cons_zero]
              refine wpAnyH_ready (rs := [11]) (by kernel_rfl) (by simp) ?_
              refine AllReadyH.cons rfl (fun K hK => ?_) AllReadyH.nil
              go_simp
              refine hK.out _ _ (by exact S4h.out) (fun hHeld => ?_)
              clear hK K
              try simp only [Act.put, List.setIfInBounds_toArray, List.set_cons_zero, List.set_cons_succ, List.getElem_toArray, List.getElem_cons_succ, List.getElem_cons_zero]
              refine wpAnyH_done (by kernel_rfl) ?_ _
              go_wp2_with fail
              go_roundw
              case rel => exact ⟨k + 1, _, by omega, by go_num, by rw [HTK.out]; exact HSET.out⟩
              case measure => simp [intOf]; omega

        · have hge : ¬ ((k : Int) < (l.length : Int)) := by omega
          have htk : l.take k = l := List.take_of_length_le (by omega)
          rw [htk] at XW
          obtain ⟨ae, ce, rfl, hse⟩ := XW.out.sl
          have HSE := hide hse
          clear hse
          have r0 : wr.cell? ⟨w.heap.size + 1, 0, none⟩ = some (.int .i64 0) := XR.out.cell 0
          have r1 : wr.cell? ⟨w.heap.size + 1, 1, none⟩ = some (.int .i64 0) := XR.out.cell 1
          have r2 : wr.cell? ⟨w.heap.size + 1, 2, none⟩ = some (.slice none 0 0) := XR.out.cell 2
          have rf := XR.out.frozen
          have hRl : w.heap.size + 1 < wr.heap.size := XR.out.lt
          have HEQ : Hid ((etaM (l)).length = l.length) := by unfold Hid; rw [etaM_map]; simp
          go_wp2_with fail
          refine bodyPost_ret (v := .agg #[.int .i64 kd, .int .i64 ix, .slice ae (etaM (l)).length ce]) (by simp [results, Try.results9, go_sem, World.cell?_setCell_same, World.cell?_setCell_other, r0, r1, r2, hRl]) rfl ?_
          rw [HT.out]
          refine ⟨ae, ce, rfl, (HSE.out.kept fun b hb => ?_).mono fun b hb _ => ?_, ((XE.out.setCell (by simp) _).setCell (by simp) _).setCell (by simp) _⟩
          · have hbn : b ≠ w.heap.size + 1 := by
              rcases hb with h | h
              · have := h.2; omega
              · omega
            rw [Below.heap_setCell _ _ _ _ (by simpa using hbn), Below.heap_setCell _ _ _ _ (by simpa using hbn), Below.heap_setCell _ _ _ _ (by simpa using hbn)]
          · rcases hb with h | h
            · exact Or.inl h
            · right; omega
end Go.Proofs.Ytaifameeoipjjaa
