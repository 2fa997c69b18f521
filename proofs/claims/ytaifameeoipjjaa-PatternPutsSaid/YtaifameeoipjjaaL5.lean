/- Walks: a term is put in for what is bound from outside, as the document says. -/
import Derived.Test.YtaifameeoipjjaaL4
namespace Go.Proofs.Ytaifameeoipjjaa
open Go.RowKit
set_option linter.unusedSimpArgs false
set_option linter.unusedVariables false
set_option maxRecDepth 8000

set_option maxHeartbeats 4000000 in
theorem instead_any (z : Lm) (la : Option Addr) (cl : Nat) (hzs : sizeM [z] ≤ 100000) (hzb : BndM [z]) (t : Lm) : ∀ (v : Value) (d : Int) (w : World) (X : Nat → Prop), MV w X v t → SlM w X la [z] → 0 ≤ d → d + sizeM [t] ≤ 100000 → BndM [t] →
    Calls Try.prog 36 #[v, .slice la 1 cl, .int .i64 d] w fun e w' => LmPost w X (insT z d t) e w' := by
  induction t using Lm.ind with
  | h kd ix l ih =>
    intro v d w X hv hzl hd0 hd1 hbn
    obtain ⟨a, c, rfl, hs⟩ := hv
    have IH := hide ih
    have HS := hide hs
    have HZ := hide hzl
    have hl := hs.1
    have hz : sizeM [(⟨kd, ix, l⟩ : Lm)] = 1 + sizeM l := by simp [sizeM]
    rw [hz] at hd1
    rw [BndM_cons] at hbn
    obtain ⟨⟨hx0, hx1⟩, hbn, _⟩ := hbn
    have HBN := hide hbn
    have hlen := sizeM_len l
    clear ih hs hz hbn hzl
    have B2 : Hid (Below w.heap.size w ((w.alloc (.cells #[.int .i64 kd, .int .i64 ix, .slice a l.length c] 24)).alloc (.cells #[.int .i64 0, .int .i64 0, .slice none 0 0] 24))) := ((Below.refl _ _).alloc (Nat.le_refl _) _).alloc (by simp) _
    have T2 : Hid (Blk ((w.alloc (.cells #[.int .i64 kd, .int .i64 ix, .slice a l.length c] 24)).alloc (.cells #[.int .i64 0, .int .i64 0, .slice none 0 0] 24)) w.heap.size #[.int .i64 kd, .int .i64 ix, .slice a l.length c] 24) := (Blk.new w _ _).alloc _
    have R2 : Hid (Blk ((w.alloc (.cells #[.int .i64 kd, .int .i64 ix, .slice a l.length c] 24)).alloc (.cells #[.int .i64 0, .int .i64 0, .slice none 0 0] 24)) (w.heap.size + 1) #[.int .i64 0, .int .i64 0, .slice none 0 0] 24) := by
      have h := Blk.new (w.alloc (.cells #[.int .i64 kd, .int .i64 ix, .slice a l.length c] 24)) #[.int .i64 0, .int .i64 0, .slice none 0 0] 24
      rw [World.size_alloc] at h
      exact h
    by_cases k1 : kd = 1
    case pos =>
      subst k1
      by_cases hlt : ix < d
      · have HT : Hid (insT z d ⟨1, ix, l⟩ = ⟨1, ix, l⟩) := by unfold Hid insT; simp [hlt]
        go_enter Try.func36, Try.ntmps36
        go_wp2_with fail
        refine bodyPost_ret (v := .agg #[.int .i64 1, .int .i64 ix, .slice a l.length c]) (by simp [results, Try.results36, go_sem]) rfl ?_
        rw [HT.out]
        have hb9 := ((Below.refl w.heap.size w).alloc (Nat.le_refl _) (.cells #[.int .i64 1, .int .i64 ix, .slice a l.length c] 24)).alloc (by simp) (.cells #[.int .i64 1, .int .i64 ix, .slice a l.length c] 24)
        exact ⟨a, c, rfl, (HS.out.mono (Y := fun b => X b ∧ b < w.heap.size) fun b h1 h2 => ⟨h1, h2⟩).below hb9 (fun b h _ => h.2) |>.mono fun b h _ => Or.inl h, hb9⟩
      · obtain ⟨q, hq⟩ : ∃ q, q = ix - d := ⟨_, rfl⟩
        have hw1 : IntKind.i64.wrap (ix - d) = q := by rw [IntKind.wrap_i64]; omega
        by_cases hq0 : q = 0
        · subst hq0
          have hixd : ix = d := by omega
          have HT : Hid (insT z d ⟨1, ix, l⟩ = higT d 0 z) := by unfold Hid insT; simp [hlt, hixd]
          obtain ⟨b, o, a', c', rfl, d0, d0', d1, hx⟩ := (HZ.out.mono (Y := fun b => X b ∧ b < w.heap.size) fun b h1 h2 => ⟨h1, h2⟩).get B2.out (fun b h _ => h.2) 0 (by simp)
          have HX := hide hx
          simp only [Nat.zero_mul, Nat.add_zero, List.getElem_cons_zero] at d0 d0' d1
          have HGC := hide ((higher_any d (by omega) (by omega) z _ 0 _ (fun b => X b ∧ b < w.heap.size) HX.out (Int.le_refl 0) (by omega) hzb))
          clear hx hq hixd
          go_enter Try.func36, Try.ntmps36
          go_wp2_with fail
          refine HGC.out.mono ?_
          rintro e w3 ⟨a3, c3, rfl, hs3, hb3⟩
          have S3 := hide hs3
          have R3 := hide (R2.out.below hb3 (by simp))
          have B3 := hide (B2.out.trans (hb3.mono (by simp; omega)))
          have r0 : w3.cell? ⟨w.heap.size + 1, 0, none⟩ = some (.int .i64 0) := R3.out.cell 0
          have r1 : w3.cell? ⟨w.heap.size + 1, 1, none⟩ = some (.int .i64 0) := R3.out.cell 1
          have r2 : w3.cell? ⟨w.heap.size + 1, 2, none⟩ = some (.slice none 0 0) := R3.out.cell 2
          have rf := R3.out.frozen
          have hRl : w.heap.size + 1 < w3.heap.size := R3.out.lt
          clear hb3 hs3
          go_wp2_with fail
          refine bodyPost_ret (v := .agg #[.int .i64 (higT d 0 z).kind, .int .i64 (higT d 0 z).idx, .slice a3 (higT d 0 z).subs.length c3]) (by simp [results, Try.results36, go_sem, World.cell?_setCell_same, World.cell?_setCell_other, r0, r1, r2, hRl]) rfl ?_
          rw [HT.out]
          refine ⟨a3, c3, rfl, (S3.out.kept fun b hb => ?_).mono fun b hb _ => ?_, ((B3.out.setCell (by simp) _).setCell (by simp) _).setCell (by simp) _⟩
          · have hbn : b ≠ w.heap.size + 1 := by
              rcases hb with h | h
              · have := h.1.2; omega
              · simp at h; omega
            rw [Below.heap_setCell _ _ _ _ (by simpa using hbn), Below.heap_setCell _ _ _ _ (by simpa using hbn), Below.heap_setCell _ _ _ _ (by simpa using hbn)]
          · rcases hb with h | h
            · exact Or.inl h.1
            · right; simp at h; omega
        · have hq1 : ¬ (q < 1) := by omega
          have HT : Hid (insT z d ⟨1, ix, l⟩ = ⟨1, ix - 1, []⟩) := by unfold Hid insT; simp [hlt, show ¬ (ix = d) by omega]
          have hw2 : IntKind.i64.wrap (ix - 1) = ix - 1 := by rw [IntKind.wrap_i64]; omega
          clear hq
          go_enter Try.func36, Try.ntmps36
          go_wp2_with fail
          refine (lvar_any _ _).mono ?_
          rintro e w3 ⟨rfl, hb3⟩
          have R3 := hide (R2.out.below hb3 (by simp))
          have B3 := hide (B2.out.trans (hb3.mono (by simp; omega)))
          have r0 : w3.cell? ⟨w.heap.size + 1, 0, none⟩ = some (.int .i64 0) := R3.out.cell 0
          have r1 : w3.cell? ⟨w.heap.size + 1, 1, none⟩ = some (.int .i64 0) := R3.out.cell 1
          have r2 : w3.cell? ⟨w.heap.size + 1, 2, none⟩ = some (.slice none 0 0) := R3.out.cell 2
          have rf := R3.out.frozen
          have hRl : w.heap.size + 1 < w3.heap.size := R3.out.lt
          clear hb3
          go_wp2_with fail
          refine bodyPost_ret (v := .agg #[.int .i64 1, .int .i64 (ix - 1), .slice none 0 0]) (by simp [results, Try.results36, go_sem, World.cell?_setCell_same, World.cell?_setCell_other, r0, r1, r2, hRl]) rfl ?_
          rw [HT.out]
          exact ⟨none, 0, rfl, ⟨by simp, Or.inl rfl⟩, ((B3.out.setCell (by simp) _).setCell (by simp) _).setCell (by simp) _⟩
    case neg =>
      have e1 : (kd == 1) = false := by simpa using k1
      by_cases k2 : kd = 2
      case pos =>
        subst k2
        have hw1 : IntKind.i64.wrap (d + 1) = d + 1 := by rw [IntKind.wrap_i64]; omega
        have HT : Hid (insT z d ⟨2, ix, l⟩ = ⟨2, ix, insM z (d + 1) l⟩) := by unfold Hid insT; simp [deepK]
        go_enter Try.func36, Try.ntmps36
        go_wp2_with fail
        have T3 := hide (T2.out.alloc (.cells #[.int .i64 2, .int .i64 ix, .slice none 0 0] 24))
        have R3 := hide (R2.out.alloc (.cells #[.int .i64 2, .int .i64 ix, .slice none 0 0] 24))
        have O3 := hide (Blk.new ((w.alloc (.cells #[.int .i64 2, .int .i64 ix, .slice a l.length c] 24)).alloc (.cells #[.int .i64 0, .int .i64 0, .slice none 0 0] 24)) #[.int .i64 2, .int .i64 ix, .slice none 0 0] 24)
        have B3 := hide (B2.out.alloc B2.out.size (.cells #[.int .i64 2, .int .i64 ix, .slice none 0 0] 24))
        have eO : ((w.alloc (.cells #[.int .i64 2, .int .i64 ix, .slice a l.length c] 24)).alloc (.cells #[.int .i64 0, .int .i64 0, .slice none 0 0] 24)).heap.size = w.heap.size + 2 := by simp
        rw [eO] at O3
        clear eO B2 T2 R2
        generalize ((w.alloc (.cells #[.int .i64 2, .int .i64 ix, .slice a l.length c] 24)).alloc (.cells #[.int .i64 0, .int .i64 0, .slice none 0 0] 24)).alloc (.cells #[.int .i64 2, .int .i64 ix, .slice none 0 0] 24) = w3 at *
        obtain ⟨O, eO⟩ : ∃ O, O = w.heap.size + 2 := ⟨_, rfl⟩
        rw [← eO] at O3
        simp only [← eO]
        have hO : w.heap.size + 2 ≤ O := by omega
        clear eO
        go_loopw [9] (fun i wr => ∃ (k : Nat) (u : Value), k ≤ l.length ∧ i = .int .i64 (k : Int) ∧ LmSet w (fun b => X b ∧ b < w.heap.size) O 2 ix a l.length c u (insM z (d + 1) (l.take k)) wr) (fun i wr => l.length - (intOf i).toNat)
        case atStart => exact ⟨0, .slice none 0 0, Nat.zero_le _, rfl, [], by have h := RowM.start w3 (O + 1) 24 (fun b => X b ∧ b < w.heap.size); simpa [insM] using h, B3.out, T3.out, R3.out, O3.out, O3.out.lt⟩
        case round =>
          obtain ⟨k, u9, hk, rfl, hset⟩ := hrel
          have SET := hide hset
          obtain ⟨xs, hrow, hbb, hT, hR, hOb, hOl⟩ := hset
          have XE := hide hbb
          have XT := hide hT
          have XR := hide hR
          have XO := hide hOb
          have XW := hide hrow
          clear hrow hbb hR hOb
          have c0 : wr.cell? ⟨w.heap.size, 0, none⟩ = some (.int .i64 2) := hT.cell 0
          have c1 : wr.cell? ⟨w.heap.size, 1, none⟩ = some (.int .i64 ix) := hT.cell 1
          have c2 : wr.cell? ⟨w.heap.size, 2, none⟩ = some (.slice a l.length c) := hT.cell 2
          have o0 : wr.cell? ⟨O, 0, none⟩ = some (.int .i64 2) := XO.out.cell 0
          have o1 : wr.cell? ⟨O, 1, none⟩ = some (.int .i64 ix) := XO.out.cell 1
          have o2 : wr.cell? ⟨O, 2, none⟩ = some u9 := XO.out.cell 2
          clear hT
          by_cases hlt : k < l.length
          · obtain ⟨b, o, a', c', rfl, d0, d0', d1, hx⟩ := (HS.out.mono (Y := (fun b => X b ∧ b < w.heap.size)) fun b h1 h2 => ⟨h1, h2⟩).get XE.out (fun b h _ => h.2) k hlt
            have HX := hide hx
            have hlt2 : (k : Int) < (l.length : Int) := by omega
            have hXb : b < w.heap.size := by
              obtain ⟨_, h1⟩ := HS.out
              rcases h1 with h1 | ⟨b', o', e', h1⟩
              · rw [h1] at hlt; simp at hlt
              · cases e'; exact cell_ltM (liesM_get _ _ _ h1 k hlt).2.1
            have hszk : sizeM [l[k]] ≤ sizeM l := by
              have h1 := sizeM_take l k hlt
              have h2 := sizeM_take_le l (k + 1)
              omega
            have HLN : Hid ((insM z (d + 1) (l.take k)).length ≤ 1000000) := by unfold Hid; rw [insM_map]; simp; omega
            have HBk := hide (BndM.at k hlt HBN.out)
            have HTK := hide (insM_take z (d + 1) l k hlt)
            have IHQ : Hid (Calls Try.prog 36 #[.agg #[.int .i64 l[k].kind, .int .i64 l[k].idx, .slice a' l[k].subs.length c'], .slice la 1 cl, .int .i64 (d + 1)] wr.drew fun e w'' => ∃ a1 c1, e = .returned (.agg #[.int .i64 (insT z (d + 1) l[k]).kind, .int .i64 (insT z (d + 1) l[k]).idx, .slice a1 (insT z (d + 1) l[k]).subs.length c1]) ∧ SlM w'' (fun b => (X b ∧ b < w.heap.size) ∨ wr.heap.size ≤ b) a1 (insT z (d + 1) l[k]).subs ∧ Below wr.heap.size wr w'') := (IH.out l[k] (List.getElem_mem hlt) _ (d + 1) wr.drew (fun b => X b ∧ b < w.heap.size) (HX.out.later ((Below.refl wr.heap.size wr).drew)) ((HZ.out.mono (Y := fun b => X b ∧ b < w.heap.size) fun b h1 h2 => ⟨h1, h2⟩).below XE.out.drew (fun b h _ => h.2)) (by omega) (by omega) HBk.out).mono fun e w'' hp => by
                obtain ⟨a1, c1, h1, h2, h3⟩ := hp
                exact ⟨a1, c1, h1, h2.mono (fun b hb _ => hb.imp (fun h => h.1) id), ((Below.refl wr.heap.size wr).drew).trans h3⟩
            have HS8 : Hid (LmS w.heap.size b (o + k * 3) 2 ix (some ⟨b, o, none⟩) l.length c l[k].kind l[k].idx (.slice a' l[k].subs.length c') wr) := ⟨XT.out, d0, d0', d1⟩
            clear hx d0 d0' d1 c0 c1 o0 o1
            go_wp2_with fail
            have HSd : Hid (LmS w.heap.size b (o + k * 3) 2 ix (some ⟨b, o, none⟩) l.length c l[k].kind l[k].idx (.slice a' l[k].subs.length c') wr.drew) := HS8.out
            refine wp_region_held_drew (S := LmS w.heap.size b (o + k * 3) 2 ix (some ⟨b, o, none⟩) l.length c l[k].kind l[k].idx (.slice a' l[k].subs.length c')) (by kernel_rfl) HSd.out (fun hHeld => ?_)
            refine wpAnyH_take (i := 0) (v := ?_) rfl (by kernel_rfl) (by kernel_rfl) (by kernel_rfl) (fun _ _ _ h => h) (Or.inl ⟨by rfl, ?_⟩) (by assumption) ?_
            rotate_left
            · intro w' hSw
              go_simp <;> with_reducible rfl
            try simp only [Act.put, List.setIfInBounds_toArray, List.set_cons_zero, List.set_cons_succ, List.getElem_toArray, List.getElem_cons_succ, List.getElem_cons_zero]
            refine wpAnyH_take (i := 2) (v := ?_) rfl (by kernel_rfl) (by kernel_rfl) (by kernel_rfl) (fun _ _ _ h => h) (Or.inl ⟨by rfl, ?_⟩) (by assumption) ?_
            rotate_left
            · intro w' hSw
              go_simp <;> with_reducible rfl
            try simp only [Act.put, List.setIfInBounds_toArray, List.set_cons_zero, List.set_cons_succ, List.getElem_toArray, List.getElem_cons_succ, List.getElem_cons_zero]
            refine wpAnyH_take (i := 3) (v := ?_) rfl (by kernel_rfl) (by kernel_rfl) (by kernel_rfl) (fun _ _ _ h => h) (Or.inl ⟨by rfl, ?_⟩) (by assumption) ?_
            rotate_left
            · intro w' hSw
              have c2 : w'.cell? ⟨w.heap.size, 2, none⟩ = some (.slice (some ⟨b, o, none⟩) l.length c) := hSw.1.cell 2
              go_simp <;> with_reducible rfl
            try simp only [Act.put, List.setIfInBounds_toArray, List.set_cons_zero, List.set_cons_succ, List.getElem_toArray, List.getElem_cons_succ, List.getElem_cons_zero]
            refine wpAnyH_take (i := 4) (v := ?_) rfl (by kernel_rfl) (by kernel_rfl) (by kernel_rfl) (fun _ _ _ h => h) (Or.inl ⟨by rfl, ?_⟩) (by assumption) ?_
            rotate_left
            · intro w' hSw
              go_simp <;> with_reducible rfl
            try simp only [Act.put, List.setIfInBounds_toArray, List.set_cons_zero, List.set_cons_succ, List.getElem_toArray, List.getElem_cons_succ, List.getElem_cons_zero]
            refine wpAnyH_take (i := 5) (v := ?_) rfl (by kernel_rfl) (by kernel_rfl) (by kernel_rfl) (fun _ _ _ h => h) (Or.inl ⟨by rfl, ?_⟩) (by assumption) ?_
            rotate_left
            · intro w' hSw
              go_simp <;> with_reducible rfl
            try simp only [Act.put, List.setIfInBounds_toArray, List.set_cons_zero, List.set_cons_succ, List.getElem_toArray, List.getElem_cons_succ, List.getElem_cons_zero]
            refine wpAnyH_take (i := 6) (v := ?_) rfl (by kernel_rfl) (by kernel_rfl) (by kernel_rfl) (fun _ _ _ h => h) (Or.inl ⟨by rfl, ?_⟩) (by assumption) ?_
            rotate_left
            · intro w' hSw
              have e0 := hSw.2.1
              have e1 := hSw.2.2.1
              have e2 := hSw.2.2.2
              go_simp <;> with_reducible rfl
            try simp only [Act.put, List.setIfInBounds_toArray, List.set_cons_zero, List.set_cons_succ, List.getElem_toArray, List.getElem_cons_succ, List.getElem_cons_zero]
            refine wpAnyH_take (i := 7) (v := ?_) rfl (by kernel_rfl) (by kernel_rfl) (by kernel_rfl) (fun _ _ _ h => h) (Or.inl ⟨by rfl, ?_⟩) (by assumption) ?_
            rotate_left
            · intro w' hSw
              go_simp <;> with_reducible rfl
            try simp only [Act.put, List.setIfInBounds_toArray, List.set_cons_zero, List.set_cons_succ, List.getElem_toArray, List.getElem_cons_succ, List.getElem_cons_zero]
            refine wpAnyH_take (i := 8) (v := ?_) rfl (by kernel_rfl) (by kernel_rfl) (by kernel_rfl) (fun _ _ _ h => h) (Or.inl ⟨by rfl, ?_⟩) (by assumption) ?_
            rotate_left
            · intro w' hSw
              go_simp <;> with_reducible rfl
            try simp only [Act.put, List.setIfInBounds_toArray, List.set_cons_zero, List.set_cons_succ, List.getElem_toArray, List.getElem_cons_succ, List.getElem_cons_zero]
            have ob4 : wr.drew.cell? ⟨O, 2, none⟩ = some u9 := XO.out.cell 2
            refine wpAnyH_ready (rs := [1, 9]) (by kernel_rfl) (by simp) ?_
            refine AllReadyH.cons rfl (fun K hK => ?_) (AllReadyH.cons rfl (fun K hK => ?_) AllReadyH.nil)
            · go_simp
              refine hK.out _ _ (by exact HSd.out) (fun hHeld => ?_)
              clear hK K
              try simp only [Act.put, List.setIfInBounds_toArray, List.set_cons_zero, List.set_cons_succ, List.getElem_toArray, List.getElem_cons_succ, List.getElem_cons_zero]
              refine wpAnyH_ready (rs := [9]) (by kernel_rfl) (by simp) ?_
              refine AllReadyH.cons rfl (fun K hK => ?_) AllReadyH.nil
              go_simp
              go_at_call 36
              refine IHQ.out.mono ?_
              rintro e w5 ⟨a5, c5, rfl, hs5, hb5⟩
              obtain ⟨g, cap, w3, hrun, S1, S2, S3, o3, of, S4, hset⟩ := lm_round (c1 := c5) hO (fun b h => h.2) hXb SET.out HS8.out HLN.out hb5 hs5
              have HRUN := hide hrun
              have HSET := hide hset
              have S1h := hide S1
              have S2h := hide S2
              have S3h := hide S3
              have S4h := hide S4
              have ob5 : w5.cell? ⟨O, 2, none⟩ = some u9 := (hb5.cell (p := ⟨O, 2, none⟩) XO.out.lt).trans (XO.out.cell 2)
              have HB5 := hide hb5
              clear hrun hset S1 S2 S3 S4 hs5 hb5
              go_simp
              refine hK.out _ _ (by exact S1h.out) (fun hHeld => ?_)
              clear hK K
              try simp only [Act.put, List.setIfInBounds_toArray, List.set_cons_zero, List.set_cons_succ, List.getElem_toArray, List.getElem_cons_succ, List.getElem_cons_zero]
              refine wpAnyH_ready (rs := [10]) (by kernel_rfl) (by simp) ?_
              refine AllReadyH.cons rfl (fun K hK => ?_) AllReadyH.nil
              go_simp
              refine hK.out _ _ (by exact S2h.out) (fun hHeld => ?_)
              clear hK K
              try simp only [Act.put, List.setIfInBounds_toArray, List.set_cons_zero, List.set_cons_succ, List.getElem_toArray, List.getElem_cons_succ, List.getElem_cons_zero]
              refine wpAnyH_ready (rs := [11]) (by kernel_rfl) (by simp) ?_
              refine AllReadyH.cons rfl (fun K hK => ?_) AllReadyH.nil
              refine step_append_eqM rfl _ _ _ _ rfl rfl rfl HRUN.out ?_
              refine hK.out _ _ (by exact S3h.out) (fun hHeld => ?_)
              clear hK K
              try simp only [Act.put, List.setIfInBounds_toArray, List.set_cons_zero, List.set_cons_succ, List.getElem_toArray, List.getElem_cons_succ, List.getElem_cons_zero]
              refine wpAnyH_take (i := 12) (v := ?_) rfl (by kernel_rfl) (by kernel_rfl) (by kernel_rfl) (fun _ _ _ h => h) (Or.inl ⟨by rfl, ?_⟩) (by assumption) ?_
              rotate_left
              · intro w' hSw
                go_simp <;> with_reducible rfl
              try simp only [Act.put, List.setIfInBounds_toArray, List.set_cons_zero, List.set_cons_succ, List.getElem_toArray, List.getElem_cons_succ, List.getElem_cons_zero]
              refine wpAnyH_ready (rs := [13]) (by kernel_rfl) (by simp) ?_
              refine AllReadyH.cons rfl (fun K hK => ?_) AllReadyH.nil
              go_simp
              refine hK.out _ _ (by exact S4h.out) (fun hHeld => ?_)
              clear hK K
              try simp only [Act.put, List.setIfInBounds_toArray, List.set_cons_zero, List.set_cons_succ, List.getElem_toArray, List.getElem_cons_succ, List.getElem_cons_zero]
              refine wpAnyH_done (by kernel_rfl) ?_ _
              go_wp2_with fail
              go_roundw
              case rel => exact ⟨k + 1, _, by omega, by go_num, by rw [HTK.out]; exact HSET.out⟩
              case measure => simp [intOf]; omega
            · go_simp
              go_at_call 36
              refine IHQ.out.mono ?_
              rintro e w5 ⟨a5, c5, rfl, hs5, hb5⟩
              obtain ⟨g, cap, w3, hrun, S1, S2, S3, o3, of, S4, hset⟩ := lm_round (c1 := c5) hO (fun b h => h.2) hXb SET.out HS8.out HLN.out hb5 hs5
              have HRUN := hide hrun
              have HSET := hide hset
              have S1h := hide S1
              have S2h := hide S2
              have S3h := hide S3
              have S4h := hide S4
              have ob5 : w5.cell? ⟨O, 2, none⟩ = some u9 := (hb5.cell (p := ⟨O, 2, none⟩) XO.out.lt).trans (XO.out.cell 2)
              have HB5 := hide hb5
              clear hrun hset S1 S2 S3 S4 hs5 hb5
              go_simp
              refine hK.out _ _ (by exact S1h.out) (fun hHeld => ?_)
              clear hK K
              try simp only [Act.put, List.setIfInBounds_toArray, List.set_cons_zero, List.set_cons_succ, List.getElem_toArray, List.getElem_cons_succ, List.getElem_cons_zero]
              refine wpAnyH_ready (rs := [1, 10]) (by kernel_rfl) (by simp) ?_
              refine AllReadyH.cons rfl (fun K hK => ?_) (AllReadyH.cons rfl (fun K hK => ?_) AllReadyH.nil)
              · go_simp
                refine hK.out _ _ (by exact S1h.out) (fun hHeld => ?_)
                clear hK K
                try simp only [Act.put, List.setIfInBounds_toArray, List.set_cons_zero, List.set_cons_succ, List.getElem_toArray, List.getElem_cons_succ, List.getElem_cons_zero]
                refine wpAnyH_ready (rs := [10]) (by kernel_rfl) (by simp) ?_
                refine AllReadyH.cons rfl (fun K hK => ?_) AllReadyH.nil
                go_simp
                refine hK.out _ _ (by exact S2h.out) (fun hHeld => ?_)
                clear hK K
                try simp only [Act.put, List.setIfInBounds_toArray, List.set_cons_zero, List.set_cons_succ, List.getElem_toArray, List.getElem_cons_succ, List.getElem_cons_zero]
                refine wpAnyH_ready (rs := [11]) (by kernel_rfl) (by simp) ?_
                refine AllReadyH.cons rfl (fun K hK => ?_) AllReadyH.nil
                refine step_append_eqM rfl _ _ _ _ rfl rfl rfl HRUN.out ?_
                refine hK.out _ _ (by exact S3h.out) (fun hHeld => ?_)
                clear hK K
                try simp only [Act.put, List.setIfInBounds_toArray, List.set_cons_zero, List.set_cons_succ, List.getElem_toArray, List.getElem_cons_succ, List.getElem_cons_zero]
                refine wpAnyH_take (i := 12) (v := ?_) rfl (by kernel_rfl) (by kernel_rfl) (by kernel_rfl) (fun _ _ _ h => h) (Or.inl ⟨by rfl, ?_⟩) (by assumption) ?_
                rotate_left
                · intro w' hSw
                  go_simp <;> with_reducible rfl
                try simp only [Act.put, List.setIfInBounds_toArray, List.set_cons_zero, List.set_cons_succ, List.getElem_toArray, List.getElem_cons_succ, List.getElem_cons_zero]
                refine wpAnyH_ready (rs := [13]) (by kernel_rfl) (by simp) ?_
                refine AllReadyH.cons rfl (fun K hK => ?_) AllReadyH.nil
                go_simp
                refine hK.out _ _ (by exact S4h.out) (fun hHeld => ?_)
                clear hK K
                try simp only [Act.put, List.setIfInBounds_toArray, List.set_cons_zero, List.set_cons_succ, List.getElem_toArray, List.getElem_cons_succ, List.getElem_cons_zero]
                refine wpAnyH_done (by kernel_rfl) ?_ _
                go_wp2_with fail
                go_roundw
                case rel => exact ⟨k + 1, _, by omega, by go_num, by rw [HTK.out]; exact HSET.out⟩
                case measure => simp [intOf]; omega
              · go_simp
                refine hK.out _ _ (by exact S2h.out) (fun hHeld => ?_)
                clear hK K
                try simp only [Act.put, List.setIfInBounds_toArray, List.set_cons_zero, List.set_cons_succ, List.getElem_toArray, List.getElem_cons_succ, List.getElem_cons_zero]
                refine wpAnyH_ready (rs := [1]) (by kernel_rfl) (by simp) ?_
                refine AllReadyH.cons rfl (fun K hK => ?_) AllReadyH.nil
                have ob6 := ((hide (XO.out.below HB5.out XO.out.lt)).out.alloc (.cells #[.int .i64 (insT z (d + 1) l[k]).kind, .int .i64 (insT z (d + 1) l[k]).idx, .slice a5 (insT z (d + 1) l[k]).subs.length c5] 24)).cell 2
                go_simp
                refine hK.out _ _ (by exact S2h.out) (fun hHeld => ?_)
                clear hK K
                try simp only [Act.put, List.setIfInBounds_toArray, List.set_cons_zero, List.set_cons_succ, List.getElem_toArray, List.getElem_cons_succ, List.getElem_cons_zero]
                refine wpAnyH_ready (rs := [11]) (by kernel_rfl) (by simp) ?_
                refine AllReadyH.cons rfl (fun K hK => ?_) AllReadyH.nil
                refine step_append_eqM rfl _ _ _ _ rfl rfl rfl HRUN.out ?_
                refine hK.out _ _ (by exact S3h.out) (fun hHeld => ?_)
                clear hK K
                try simp only [Act.put, List.setIfInBounds_toArray, List.set_cons_zero, List.set_cons_succ, List.getElem_toArray, List.getElem_cons_succ, List.getElem_cons_zero]
                refine wpAnyH_take (i := 12) (v := ?_) rfl (by kernel_rfl) (by kernel_rfl) (by kernel_rfl) (fun _ _ _ h => h) (Or.inl ⟨by rfl, ?_⟩) (by assumption) ?_
                rotate_left
                · intro w' hSw
                  go_simp <;> with_reducible rfl
                try simp only [Act.put, List.setIfInBounds_toArray, List.set_cons_zero, List.set_cons_succ, List.getElem_toArray, List.getElem_cons_succ, List.getElem_cons_zero]
                refine wpAnyH_ready (rs := [13]) (by kernel_rfl) (by simp) ?_
                refine AllReadyH.cons rfl (fun K hK => ?_) AllReadyH.nil
                go_simp
                refine hK.out _ _ (by exact S4h.out) (fun hHeld => ?_)
                clear hK K
                try simp only [Act.put, List.setIfInBounds_toArray, List.set_cons_zero, List.set_cons_succ, List.getElem_toArray, List.getElem_cons_succ, List.getElem_cons_zero]
                refine wpAnyH_done (by kernel_rfl) ?_ _
                go_wp2_with fail
                go_roundw
                case rel => exact ⟨k + 1, _, by omega, by go_num, by rw [HTK.out]; exact HSET.out⟩
                case measure => simp [intOf]; omega

          · have hge : ¬ ((k : Int) < (l.length : Int)) := by omega
            have htk : l.take k = l := List.take_of_length_le (by omega)
            rw [htk] at XW
            obtain ⟨ae, ce, rfl, hse⟩ := XW.out.sl
            have HSE := hide hse
            clear hse
            have r0 : wr.cell? ⟨w.heap.size + 1, 0, none⟩ = some (.int .i64 0) := XR.out.cell 0
            have r1 : wr.cell? ⟨w.heap.size + 1, 1, none⟩ = some (.int .i64 0) := XR.out.cell 1
            have r2 : wr.cell? ⟨w.heap.size + 1, 2, none⟩ = some (.slice none 0 0) := XR.out.cell 2
            have rf := XR.out.frozen
            have hRl : w.heap.size + 1 < wr.heap.size := XR.out.lt
            have HEQ : Hid ((insM z (d + 1) (l)).length = l.length) := by unfold Hid; rw [insM_map]; simp
            go_wp2_with fail
            refine bodyPost_ret (v := .agg #[.int .i64 2, .int .i64 ix, .slice ae (insM z (d + 1) (l)).length ce]) (by simp [results, Try.results36, go_sem, World.cell?_setCell_same, World.cell?_setCell_other, r0, r1, r2, hRl]) rfl ?_
            rw [HT.out]
            refine ⟨ae, ce, rfl, (HSE.out.kept fun b hb => ?_).mono fun b hb _ => ?_, ((XE.out.setCell (by simp) _).setCell (by simp) _).setCell (by simp) _⟩
            · have hbn : b ≠ w.heap.size + 1 := by
                rcases hb with h | h
                · have := h.2; omega
                · omega
              rw [Below.heap_setCell _ _ _ _ (by simpa using hbn), Below.heap_setCell _ _ _ _ (by simpa using hbn), Below.heap_setCell _ _ _ _ (by simpa using hbn)]
            · rcases hb with h | h
              · exact Or.inl h
              · right; omega
      case neg =>
        have e2 : (kd == 2) = false := by simpa using k2
        have HT : Hid (insT z d ⟨kd, ix, l⟩ = ⟨kd, ix, insM z d l⟩) := by unfold Hid insT; simp [deepK, k1, k2]
        go_enter Try.func36, Try.ntmps36
        go_wp2_with fail
        have T3 := hide (T2.out.alloc (.cells #[.int .i64 kd, .int .i64 ix, .slice none 0 0] 24))
        have R3 := hide (R2.out.alloc (.cells #[.int .i64 kd, .int .i64 ix, .slice none 0 0] 24))
        have O3 := hide (Blk.new ((w.alloc (.cells #[.int .i64 kd, .int .i64 ix, .slice a l.length c] 24)).alloc (.cells #[.int .i64 0, .int .i64 0, .slice none 0 0] 24)) #[.int .i64 kd, .int .i64 ix, .slice none 0 0] 24)
        have B3 := hide (B2.out.alloc B2.out.size (.cells #[.int .i64 kd, .int .i64 ix, .slice none 0 0] 24))
        have eO : ((w.alloc (.cells #[.int .i64 kd, .int .i64 ix, .slice a l.length c] 24)).alloc (.cells #[.int .i64 0, .int .i64 0, .slice none 0 0] 24)).heap.size = w.heap.size + 2 := by simp
        rw [eO] at O3
        clear eO B2 T2 R2
        generalize ((w.alloc (.cells #[.int .i64 kd, .int .i64 ix, .slice a l.length c] 24)).alloc (.cells #[.int .i64 0, .int .i64 0, .slice none 0 0] 24)).alloc (.cells #[.int .i64 kd, .int .i64 ix, .slice none 0 0] 24) = w3 at *
        obtain ⟨O, eO⟩ : ∃ O, O = w.heap.size + 2 := ⟨_, rfl⟩
        rw [← eO] at O3
        simp only [← eO]
        have hO : w.heap.size + 2 ≤ O := by omega
        clear eO
        go_loopw [9] (fun i wr => ∃ (k : Nat) (u : Value), k ≤ l.length ∧ i = .int .i64 (k : Int) ∧ LmSet w (fun b => X b ∧ b < w.heap.size) O kd ix a l.length c u (insM z (d) (l.take k)) wr) (fun i wr => l.length - (intOf i).toNat)
        case atStart => exact ⟨0, .slice none 0 0, Nat.zero_le _, rfl, [], by have h := RowM.start w3 (O + 1) 24 (fun b => X b ∧ b < w.heap.size); simpa [insM] using h, B3.out, T3.out, R3.out, O3.out, O3.out.lt⟩
        case round =>
          obtain ⟨k, u9, hk, rfl, hset⟩ := hrel
          have SET := hide hset
          obtain ⟨xs, hrow, hbb, hT, hR, hOb, hOl⟩ := hset
          have XE := hide hbb
          have XT := hide hT
          have XR := hide hR
          have XO := hide hOb
          have XW := hide hrow
          clear hrow hbb hR hOb
          have c0 : wr.cell? ⟨w.heap.size, 0, none⟩ = some (.int .i64 kd) := hT.cell 0
          have c1 : wr.cell? ⟨w.heap.size, 1, none⟩ = some (.int .i64 ix) := hT.cell 1
          have c2 : wr.cell? ⟨w.heap.size, 2, none⟩ = some (.slice a l.length c) := hT.cell 2
          have o0 : wr.cell? ⟨O, 0, none⟩ = some (.int .i64 kd) := XO.out.cell 0
          have o1 : wr.cell? ⟨O, 1, none⟩ = some (.int .i64 ix) := XO.out.cell 1
          have o2 : wr.cell? ⟨O, 2, none⟩ = some u9 := XO.out.cell 2
          clear hT
          by_cases hlt : k < l.length
          · obtain ⟨b, o, a', c', rfl, d0, d0', d1, hx⟩ := (HS.out.mono (Y := (fun b => X b ∧ b < w.heap.size)) fun b h1 h2 => ⟨h1, h2⟩).get XE.out (fun b h _ => h.2) k hlt
            have HX := hide hx
            have hlt2 : (k : Int) < (l.length : Int) := by omega
            have hXb : b < w.heap.size := by
              obtain ⟨_, h1⟩ := HS.out
              rcases h1 with h1 | ⟨b', o', e', h1⟩
              · rw [h1] at hlt; simp at hlt
              · cases e'; exact cell_ltM (liesM_get _ _ _ h1 k hlt).2.1
            have hszk : sizeM [l[k]] ≤ sizeM l := by
              have h1 := sizeM_take l k hlt
              have h2 := sizeM_take_le l (k + 1)
              omega
            have HLN : Hid ((insM z (d) (l.take k)).length ≤ 1000000) := by unfold Hid; rw [insM_map]; simp; omega
            have HBk := hide (BndM.at k hlt HBN.out)
            have HTK := hide (insM_take z (d) l k hlt)
            have IHQ : Hid (Calls Try.prog 36 #[.agg #[.int .i64 l[k].kind, .int .i64 l[k].idx, .slice a' l[k].subs.length c'], .slice la 1 cl, .int .i64 (d)] wr.drew fun e w'' => ∃ a1 c1, e = .returned (.agg #[.int .i64 (insT z (d) l[k]).kind, .int .i64 (insT z (d) l[k]).idx, .slice a1 (insT z (d) l[k]).subs.length c1]) ∧ SlM w'' (fun b => (X b ∧ b < w.heap.size) ∨ wr.heap.size ≤ b) a1 (insT z (d) l[k]).subs ∧ Below wr.heap.size wr w'') := (IH.out l[k] (List.getElem_mem hlt) _ (d) wr.drew (fun b => X b ∧ b < w.heap.size) (HX.out.later ((Below.refl wr.heap.size wr).drew)) ((HZ.out.mono (Y := fun b => X b ∧ b < w.heap.size) fun b h1 h2 => ⟨h1, h2⟩).below XE.out.drew (fun b h _ => h.2)) (by omega) (by omega) HBk.out).mono fun e w'' hp => by
                obtain ⟨a1, c1, h1, h2, h3⟩ := hp
                exact ⟨a1, c1, h1, h2.mono (fun b hb _ => hb.imp (fun h => h.1) id), ((Below.refl wr.heap.size wr).drew).trans h3⟩
            have HS8 : Hid (LmS w.heap.size b (o + k * 3) kd ix (some ⟨b, o, none⟩) l.length c l[k].kind l[k].idx (.slice a' l[k].subs.length c') wr) := ⟨XT.out, d0, d0', d1⟩
            clear hx d0 d0' d1 c0 c1 o0 o1
            go_wp2_with fail
            have HSd : Hid (LmS w.heap.size b (o + k * 3) kd ix (some ⟨b, o, none⟩) l.length c l[k].kind l[k].idx (.slice a' l[k].subs.length c') wr.drew) := HS8.out
            refine wp_region_held_drew (S := LmS w.heap.size b (o + k * 3) kd ix (some ⟨b, o, none⟩) l.length c l[k].kind l[k].idx (.slice a' l[k].subs.length c')) (by kernel_rfl) HSd.out (fun hHeld => ?_)
            refine wpAnyH_take (i := 0) (v := ?_) rfl (by kernel_rfl) (by kernel_rfl) (by kernel_rfl) (fun _ _ _ h => h) (Or.inl ⟨by rfl, ?_⟩) (by assumption) ?_
            rotate_left
            · intro w' hSw
              go_simp <;> with_reducible rfl
            try simp only [Act.put, List.setIfInBounds_toArray, List.set_cons_zero, List.set_cons_succ, List.getElem_toArray, List.getElem_cons_succ, List.getElem_cons_zero]
            refine wpAnyH_take (i := 2) (v := ?_) rfl (by kernel_rfl) (by kernel_rfl) (by kernel_rfl) (fun _ _ _ h => h) (Or.inl ⟨by rfl, ?_⟩) (by assumption) ?_
            rotate_left
            · intro w' hSw
              go_simp <;> with_reducible rfl
            try simp only [Act.put, List.setIfInBounds_toArray, List.set_cons_zero, List.set_cons_succ, List.getElem_toArray, List.getElem_cons_succ, List.getElem_cons_zero]
            refine wpAnyH_take (i := 3) (v := ?_) rfl (by kernel_rfl) (by kernel_rfl) (by kernel_rfl) (fun _ _ _ h => h) (Or.inl ⟨by rfl, ?_⟩) (by assumption) ?_
            rotate_left
            · intro w' hSw
              have c2 : w'.cell? ⟨w.heap.size, 2, none⟩ = some (.slice (some ⟨b, o, none⟩) l.length c) := hSw.1.cell 2
              go_simp <;> with_reducible rfl
            try simp only [Act.put, List.setIfInBounds_toArray, List.set_cons_zero, List.set_cons_succ, List.getElem_toArray, List.getElem_cons_succ, List.getElem_cons_zero]
            refine wpAnyH_take (i := 4) (v := ?_) rfl (by kernel_rfl) (by kernel_rfl) (by kernel_rfl) (fun _ _ _ h => h) (Or.inl ⟨by rfl, ?_⟩) (by assumption) ?_
            rotate_left
            · intro w' hSw
              go_simp <;> with_reducible rfl
            try simp only [Act.put, List.setIfInBounds_toArray, List.set_cons_zero, List.set_cons_succ, List.getElem_toArray, List.getElem_cons_succ, List.getElem_cons_zero]
            refine wpAnyH_take (i := 5) (v := ?_) rfl (by kernel_rfl) (by kernel_rfl) (by kernel_rfl) (fun _ _ _ h => h) (Or.inl ⟨by rfl, ?_⟩) (by assumption) ?_
            rotate_left
            · intro w' hSw
              go_simp <;> with_reducible rfl
            try simp only [Act.put, List.setIfInBounds_toArray, List.set_cons_zero, List.set_cons_succ, List.getElem_toArray, List.getElem_cons_succ, List.getElem_cons_zero]
            refine wpAnyH_take (i := 6) (v := ?_) rfl (by kernel_rfl) (by kernel_rfl) (by kernel_rfl) (fun _ _ _ h => h) (Or.inl ⟨by rfl, ?_⟩) (by assumption) ?_
            rotate_left
            · intro w' hSw
              have e0 := hSw.2.1
              have e1 := hSw.2.2.1
              have e2 := hSw.2.2.2
              go_simp <;> with_reducible rfl
            try simp only [Act.put, List.setIfInBounds_toArray, List.set_cons_zero, List.set_cons_succ, List.getElem_toArray, List.getElem_cons_succ, List.getElem_cons_zero]
            refine wpAnyH_take (i := 7) (v := ?_) rfl (by kernel_rfl) (by kernel_rfl) (by kernel_rfl) (fun _ _ _ h => h) (Or.inl ⟨by rfl, ?_⟩) (by assumption) ?_
            rotate_left
            · intro w' hSw
              go_simp <;> with_reducible rfl
            try simp only [Act.put, List.setIfInBounds_toArray, List.set_cons_zero, List.set_cons_succ, List.getElem_toArray, List.getElem_cons_succ, List.getElem_cons_zero]
            refine wpAnyH_take (i := 8) (v := ?_) rfl (by kernel_rfl) (by kernel_rfl) (by kernel_rfl) (fun _ _ _ h => h) (Or.inl ⟨by rfl, ?_⟩) (by assumption) ?_
            rotate_left
            · intro w' hSw
              go_simp <;> with_reducible rfl
            try simp only [Act.put, List.setIfInBounds_toArray, List.set_cons_zero, List.set_cons_succ, List.getElem_toArray, List.getElem_cons_succ, List.getElem_cons_zero]
            have ob4 : wr.drew.cell? ⟨O, 2, none⟩ = some u9 := XO.out.cell 2
            refine wpAnyH_ready (rs := [1, 9]) (by kernel_rfl) (by simp) ?_
            refine AllReadyH.cons rfl (fun K hK => ?_) (AllReadyH.cons rfl (fun K hK => ?_) AllReadyH.nil)
            · go_simp
              refine hK.out _ _ (by exact HSd.out) (fun hHeld => ?_)
              clear hK K
              try simp only [Act.put, List.setIfInBounds_toArray, List.set_cons_zero, List.set_cons_succ, List.getElem_toArray, List.getElem_cons_succ, List.getElem_cons_zero]
              refine wpAnyH_ready (rs := [9]) (by kernel_rfl) (by simp) ?_
              refine AllReadyH.cons rfl (fun K hK => ?_) AllReadyH.nil
              go_simp
              go_at_call 36
              refine IHQ.out.mono ?_
              rintro e w5 ⟨a5, c5, rfl, hs5, hb5⟩
              obtain ⟨g, cap, w3, hrun, S1, S2, S3, o3, of, S4, hset⟩ := lm_round (c1 := c5) hO (fun b h => h.2) hXb SET.out HS8.out HLN.out hb5 hs5
              have HRUN := hide hrun
              have HSET := hide hset
              have S1h := hide S1
              have S2h := hide S2
              have S3h := hide S3
              have S4h := hide S4
              have ob5 : w5.cell? ⟨O, 2, none⟩ = some u9 := (hb5.cell (p := ⟨O, 2, none⟩) XO.out.lt).trans (XO.out.cell 2)
              have HB5 := hide hb5
              clear hrun hset S1 S2 S3 S4 hs5 hb5
              go_simp
              refine hK.out _ _ (by exact S1h.out) (fun hHeld => ?_)
              clear hK K
              try simp only [Act.put, List.setIfInBounds_toArray, List.set_cons_zero, List.set_cons_succ, List.getElem_toArray, List.getElem_cons_succ, List.getElem_cons_zero]
              refine wpAnyH_ready (rs := [10]) (by kernel_rfl) (by simp) ?_
              refine AllReadyH.cons rfl (fun K hK => ?_) AllReadyH.nil
              go_simp
              refine hK.out _ _ (by exact S2h.out) (fun hHeld => ?_)
              clear hK K
              try simp only [Act.put, List.setIfInBounds_toArray, List.set_cons_zero, List.set_cons_succ, List.getElem_toArray, List.getElem_cons_succ, List.getElem_cons_zero]
              refine wpAnyH_ready (rs := [11]) (by kernel_rfl) (by simp) ?_
              refine AllReadyH.cons rfl (fun K hK => ?_) AllReadyH.nil
              refine step_append_eqM rfl _ _ _ _ rfl rfl rfl HRUN.out ?_
              refine hK.out _ _ (by exact S3h.out) (fun hHeld => ?_)
              clear hK K
              try simp only [Act.put, List.setIfInBounds_toArray, List.set_cons_zero, List.set_cons_succ, List.getElem_toArray, List.getElem_cons_succ, List.getElem_cons_zero]
              refine wpAnyH_take (i := 12) (v := ?_) rfl (by kernel_rfl) (by kernel_rfl) (by kernel_rfl) (fun _ _ _ h => h) (Or.inl ⟨by rfl, ?_⟩) (by assumption) ?_
              rotate_left
              · intro w' hSw
                go_simp <;> with_reducible rfl
              try simp only [Act.put, List.setIfInBounds_toArray, List.set_cons_zero, List.set_cons_succ, List.getElem_toArray, List.getElem_cons_succ, List.getElem_cons_zero]
              refine wpAnyH_ready (rs := [13]) (by kernel_rfl) (by simp) ?_
              refine AllReadyH.cons rfl (fun K hK => ?_) AllReadyH.nil
              go_simp
              refine hK.out _ _ (by exact S4h.out) (fun hHeld => ?_)
              clear hK K
              try simp only [Act.put, List.setIfInBounds_toArray, List.set_cons_zero, List.set_cons_succ, List.getElem_toArray, List.getElem_cons_succ, List.getElem_cons_zero]
              refine wpAnyH_done (by kernel_rfl) ?_ _
              go_wp2_with fail
              go_roundw
              case rel => exact ⟨k + 1, _, by omega, by go_num, by rw [HTK.out]; exact HSET.out⟩
              case measure => simp [intOf]; omega
            · go_simp
              go_at_call 36
              refine IHQ.out.mono ?_
              rintro e w5 ⟨a5, c5, rfl, hs5, hb5⟩
              obtain ⟨g, cap, w3, hrun, S1, S2, S3, o3, of, S4, hset⟩ := lm_round (c1 := c5) hO (fun b h => h.2) hXb SET.out HS8.out HLN.out hb5 hs5
              have HRUN := hide hrun
              have HSET := hide hset
              have S1h := hide S1
              have S2h := hide S2
              have S3h := hide S3
              have S4h := hide S4
              have ob5 : w5.cell? ⟨O, 2, none⟩ = some u9 := (hb5.cell (p := ⟨O, 2, none⟩) XO.out.lt).trans (XO.out.cell 2)
              have HB5 := hide hb5
              clear hrun hset S1 S2 S3 S4 hs5 hb5
              go_simp
              refine hK.out _ _ (by exact S1h.out) (fun hHeld => ?_)
              clear hK K
              try simp only [Act.put, List.setIfInBounds_toArray, List.set_cons_zero, List.set_cons_succ, List.getElem_toArray, List.getElem_cons_succ, List.getElem_cons_zero]
              refine wpAnyH_ready (rs := [1, 10]) (by kernel_rfl) (by simp) ?_
              refine AllReadyH.cons rfl (fun K hK => ?_) (AllReadyH.cons rfl (fun K hK => ?_) AllReadyH.nil)
              · go_simp
                refine hK.out _ _ (by exact S1h.out) (fun hHeld => ?_)
                clear hK K
                try simp only [Act.put, List.setIfInBounds_toArray, List.set_cons_zero, List.set_cons_succ, List.getElem_toArray, List.getElem_cons_succ, List.getElem_cons_zero]
                refine wpAnyH_ready (rs := [10]) (by kernel_rfl) (by simp) ?_
                refine AllReadyH.cons rfl (fun K hK => ?_) AllReadyH.nil
                go_simp
                refine hK.out _ _ (by exact S2h.out) (fun hHeld => ?_)
                clear hK K
                try simp only [Act.put, List.setIfInBounds_toArray, List.set_cons_zero, List.set_cons_succ, List.getElem_toArray, List.getElem_cons_succ, List.getElem_cons_zero]
                refine wpAnyH_ready (rs := [11]) (by kernel_rfl) (by simp) ?_
                refine AllReadyH.cons rfl (fun K hK => ?_) AllReadyH.nil
                refine step_append_eqM rfl _ _ _ _ rfl rfl rfl HRUN.out ?_
                refine hK.out _ _ (by exact S3h.out) (fun hHeld => ?_)
                clear hK K
                try simp only [Act.put, List.setIfInBounds_toArray, List.set_cons_zero, List.set_cons_succ, List.getElem_toArray, List.getElem_cons_succ, List.getElem_cons_zero]
                refine wpAnyH_take (i := 12) (v := ?_) rfl (by kernel_rfl) (by kernel_rfl) (by kernel_rfl) (fun _ _ _ h => h) (Or.inl ⟨by rfl, ?_⟩) (by assumption) ?_
                rotate_left
                · intro w' hSw
                  go_simp <;> with_reducible rfl
                try simp only [Act.put, List.setIfInBounds_toArray, List.set_cons_zero, List.set_cons_succ, List.getElem_toArray, List.getElem_cons_succ, List.getElem_cons_zero]
                refine wpAnyH_ready (rs := [13]) (by kernel_rfl) (by simp) ?_
                refine AllReadyH.cons rfl (fun K hK => ?_) AllReadyH.nil
                go_simp
                refine hK.out _ _ (by exact S4h.out) (fun hHeld => ?_)
                clear hK K
                try simp only [Act.put, List.setIfInBounds_toArray, List.set_cons_zero, List.set_cons_succ, List.getElem_toArray, List.getElem_cons_succ, List.getElem_cons_zero]
                refine wpAnyH_done (by kernel_rfl) ?_ _
                go_wp2_with fail
                go_roundw
                case rel => exact ⟨k + 1, _, by omega, by go_num, by rw [HTK.out]; exact HSET.out⟩
                case measure => simp [intOf]; omega
              · go_simp
                refine hK.out _ _ (by exact S2h.out) (fun hHeld => ?_)
                clear hK K
                try simp only [Act.put, List.setIfInBounds_toArray, List.set_cons_zero, List.set_cons_succ, List.getElem_toArray, List.getElem_cons_succ, List.getElem_cons_zero]
                refine wpAnyH_ready (rs := [1]) (by kernel_rfl) (by simp) ?_
                refine AllReadyH.cons rfl (fun K hK => ?_) AllReadyH.nil
                have ob6 := ((hide (XO.out.below HB5.out XO.out.lt)).out.alloc (.cells #[.int .i64 (insT z (d) l[k]).kind, .int .i64 (insT z (d) l[k]).idx, .slice a5 (insT z (d) l[k]).subs.length c5] 24)).cell 2
                go_simp
                refine hK.out _ _ (by exact S2h.out) (fun hHeld => ?_)
                clear hK K
                try simp only [Act.put, List.setIfInBounds_toArray, List.set_cons_zero, List.set_cons_succ, List.getElem_toArray, List.getElem_cons_succ, List.getElem_cons_zero]
                refine wpAnyH_ready (rs := [11]) (by kernel_rfl) (by simp) ?_
                refine AllReadyH.cons rfl (fun K hK => ?_) AllReadyH.nil
                refine step_append_eqM rfl _ _ _ _ rfl rfl rfl HRUN.out ?_
                refine hK.out _ _ (by exact S3h.out) (fun hHeld => ?_)
                clear hK K
                try simp only [Act.put, List.setIfInBounds_toArray, List.set_cons_zero, List.set_cons_succ, List.getElem_toArray, List.getElem_cons_succ, List.getElem_cons_zero]
                refine wpAnyH_take (i := 12) (v := ?_) rfl (by kernel_rfl) (by kernel_rfl) (by kernel_rfl) (fun _ _ _ h => h) (Or.inl ⟨by rfl, ?_⟩) (by assumption) ?_
                rotate_left
                · intro w' hSw
                  go_simp <;> with_reducible rfl
                try simp only [Act.put, List.setIfInBounds_toArray, List.set_cons_zero, List.set_cons_succ, List.getElem_toArray, List.getElem_cons_succ, List.getElem_cons_zero]
                refine wpAnyH_ready (rs := [13]) (by kernel_rfl) (by simp) ?_
                refine AllReadyH.cons rfl (fun K hK => ?_) AllReadyH.nil
                go_simp
                refine hK.out _ _ (by exact S4h.out) (fun hHeld => ?_)
                clear hK K
                try simp only [Act.put, List.setIfInBounds_toArray, List.set_cons_zero, List.set_cons_succ, List.getElem_toArray, List.getElem_cons_succ, List.getElem_cons_zero]
                refine wpAnyH_done (by kernel_rfl) ?_ _
                go_wp2_with fail
                go_roundw
                case rel => exact ⟨k + 1, _, by omega, by go_num, by rw [HTK.out]; exact HSET.out⟩
                case measure => simp [intOf]; omega

          · have hge : ¬ ((k : Int) < (l.length : Int)) := by omega
            have htk : l.take k = l := List.take_of_length_le (by omega)
            rw [htk] at XW
            obtain ⟨ae, ce, rfl, hse⟩ := XW.out.sl
            have HSE := hide hse
            clear hse
            have r0 : wr.cell? ⟨w.heap.size + 1, 0, none⟩ = some (.int .i64 0) := XR.out.cell 0
            have r1 : wr.cell? ⟨w.heap.size + 1, 1, none⟩ = some (.int .i64 0) := XR.out.cell 1
            have r2 : wr.cell? ⟨w.heap.size + 1, 2, none⟩ = some (.slice none 0 0) := XR.out.cell 2
            have rf := XR.out.frozen
            have hRl : w.heap.size + 1 < wr.heap.size := XR.out.lt
            have HEQ : Hid ((insM z (d) (l)).length = l.length) := by unfold Hid; rw [insM_map]; simp
            go_wp2_with fail
            refine bodyPost_ret (v := .agg #[.int .i64 kd, .int .i64 ix, .slice ae (insM z (d) (l)).length ce]) (by simp [results, Try.results36, go_sem, World.cell?_setCell_same, World.cell?_setCell_other, r0, r1, r2, hRl]) rfl ?_
            rw [HT.out]
            refine ⟨ae, ce, rfl, (HSE.out.kept fun b hb => ?_).mono fun b hb _ => ?_, ((XE.out.setCell (by simp) _).setCell (by simp) _).setCell (by simp) _⟩
            · have hbn : b ≠ w.heap.size + 1 := by
                rcases hb with h | h
                · have := h.2; omega
                · omega
              rw [Below.heap_setCell _ _ _ _ (by simpa using hbn), Below.heap_setCell _ _ _ _ (by simpa using hbn), Below.heap_setCell _ _ _ _ (by simpa using hbn)]
            · rcases hb with h | h
              · exact Or.inl h
              · right; omega
end Go.Proofs.Ytaifameeoipjjaa
