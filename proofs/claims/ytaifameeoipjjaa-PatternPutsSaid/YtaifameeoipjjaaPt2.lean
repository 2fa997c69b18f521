/- Walks: terms put for the unknowns, as the document says. -/
import Derived.Test.YtaifameeoipjjaaPt1
import Derived.Test.YtaifameeoipjjaaL4
namespace Go.Proofs.Ytaifameeoipjjaa
open Go.RowKit
set_option linter.unusedSimpArgs false
set_option linter.unusedVariables false
set_option maxRecDepth 8000

theorem sl_atP {w : World} {X : Nat → Prop} {a : Option Addr} {l : List Lm} (h : SlM w X a l) {k : Nat} (hk : k < l.length) : ∃ b o a' c', a = some ⟨b, o, none⟩ ∧ w.cell? ⟨b, o + k * 3, none⟩ = some (.int .i64 l[k].kind) ∧ w.cell? ⟨b, o + k * 3 + 1, none⟩ = some (.int .i64 l[k].idx) ∧ w.cell? ⟨b, o + k * 3 + 2, none⟩ = some (.slice a' l[k].subs.length c') ∧ SlM w X a' l[k].subs ∧ b < w.heap.size := by
  obtain ⟨b, o, a', c', rfl, d0, d1, d2, hx⟩ := (h.mono (Y := fun b => X b ∧ b < w.heap.size) fun b h1 h2 => ⟨h1, h2⟩).get (Below.refl w.heap.size w) (fun b h _ => h.2) k hk
  obtain ⟨a2, c2, e, hs⟩ := hx
  simp only [Value.agg.injEq, List.toArray_inj, Array.mk.injEq, List.cons.injEq, Value.slice.injEq, true_and, and_true] at e
  obtain ⟨rfl, rfl⟩ := e
  exact ⟨b, o, a', c', rfl, d0, d1, d2, hs.mono fun b h _ => h.1, cell_ltM d0⟩

set_option maxHeartbeats 4000000 in
theorem filled_any (W : List Lm) (wa : Option Addr) (wc : Nat) (t : Lm) : ∀ (v : Value) (w : World) (X : Nat → Prop), MV w X v t → SlM w X wa W → sizeM [t] ≤ 100000 → UnkM W.length [t] →
    Calls Try.prog 6 #[v, .slice wa W.length wc] w fun e w' => LmPost w X (filT W t) e w' := by
  induction t using Lm.ind with
  | h kd ix l ih =>
    intro v w X hv hw hd1 hbn
    obtain ⟨a, c, rfl, hs⟩ := hv
    have IH := hide ih
    have HS := hide hs
    have HW := hide hw
    have hl := hs.1
    have hz : sizeM [(⟨kd, ix, l⟩ : Lm)] = 1 + sizeM l := by simp [sizeM]
    rw [hz] at hd1
    rw [UnkM_cons] at hbn
    obtain ⟨hx5, hbn, _⟩ := hbn
    have HBN := hide hbn
    have hlen := sizeM_len l
    clear ih hs hz hbn hw
    have B2 : Hid (Below w.heap.size w ((w.alloc (.cells #[.int .i64 kd, .int .i64 ix, .slice a l.length c] 24)).alloc (.cells #[.int .i64 0, .int .i64 0, .slice none 0 0] 24))) := ((Below.refl _ _).alloc (Nat.le_refl _) _).alloc (by simp) _
    have T2 : Hid (Blk ((w.alloc (.cells #[.int .i64 kd, .int .i64 ix, .slice a l.length c] 24)).alloc (.cells #[.int .i64 0, .int .i64 0, .slice none 0 0] 24)) w.heap.size #[.int .i64 kd, .int .i64 ix, .slice a l.length c] 24) := (Blk.new w _ _).alloc _
    have R2 : Hid (Blk ((w.alloc (.cells #[.int .i64 kd, .int .i64 ix, .slice a l.length c] 24)).alloc (.cells #[.int .i64 0, .int .i64 0, .slice none 0 0] 24)) (w.heap.size + 1) #[.int .i64 0, .int .i64 0, .slice none 0 0] 24) := by
      have h := Blk.new (w.alloc (.cells #[.int .i64 kd, .int .i64 ix, .slice a l.length c] 24)) #[.int .i64 0, .int .i64 0, .slice none 0 0] 24
      rw [World.size_alloc] at h
      exact h
    by_cases k5 : kd = 5
    case pos =>
      subst k5
      obtain ⟨x0, x1⟩ := hx5 rfl
      obtain ⟨n, rfl⟩ : ∃ n : Nat, ix = (n : Int) := ⟨ix.toNat, by omega⟩
      have hn : n < W.length := by omega
      have HT : Hid (filT W ⟨5, (n : Int), l⟩ = W[n]) := by unfold Hid filT; simp [List.getElem?_eq_getElem hn]
      obtain ⟨b, o, a', c', rfl, d0, d1, d2, hx, hbl⟩ := sl_atP HW.out hn
      have HX := hide hx
      have hWl := HW.out.1
      have KC : Hid (∀ w', Below w.heap.size w w' → w'.cell? ⟨b, o + n * 3, none⟩ = some (.int .i64 W[n].kind) ∧ w'.cell? ⟨b, o + n * 3 + 1, none⟩ = some (.int .i64 W[n].idx) ∧ w'.cell? ⟨b, o + n * 3 + 2, none⟩ = some (.slice a' W[n].subs.length c')) := fun w' hb => ⟨(hb.cell (p := ⟨b, o + n * 3, none⟩) hbl).trans d0, (hb.cell (p := ⟨b, o + n * 3 + 1, none⟩) hbl).trans d1, (hb.cell (p := ⟨b, o + n * 3 + 2, none⟩) hbl).trans d2⟩
      obtain ⟨f0, f1, f2⟩ := KC.out _ B2.out
      have hnl : (n : Int) < (W.length : Int) := by omega
      have hn0 : (0 : Int) ≤ (n : Int) := by omega
      clear hx d0 d1 d2 hx5 x0 x1
      go_enter Try.func6, Try.ntmps6
      go_wp2_with fail
      refine bodyPost_ret (v := .agg #[.int .i64 W[n].kind, .int .i64 W[n].idx, .slice a' W[n].subs.length c']) (by simp [results, Try.results6, go_sem, World.cell?_setCell_same, World.cell?_setCell_other]) rfl ?_
      rw [HT.out]
      have hb9 := ((Below.refl w.heap.size w).alloc (Nat.le_refl _) (.cells #[.int .i64 5, .int .i64 (n : Int), .slice a l.length c] 24)).alloc (by simp) (.cells #[.int .i64 W[n].kind, .int .i64 W[n].idx, .slice a' W[n].subs.length c'] 24)
      exact ⟨a', c', rfl, (HX.out.mono (Y := fun b => X b ∧ b < w.heap.size) fun b h1 h2 => ⟨h1, h2⟩).below hb9 (fun b h _ => h.2) |>.mono fun b h _ => Or.inl h, hb9⟩
    case neg =>
    have e2 : (kd == 5) = false := by simpa using k5
    have HT : Hid (filT W ⟨kd, ix, l⟩ = ⟨kd, ix, filM W l⟩) := by unfold Hid filT; simp [k5]
    go_enter Try.func6, Try.ntmps6
    go_wp2_with fail
    have T3 := hide (T2.out.alloc (.cells #[.int .i64 kd, .int .i64 ix, .slice none 0 0] 24))
    have R3 := hide (R2.out.alloc (.cells #[.int .i64 kd, .int .i64 ix, .slice none 0 0] 24))
    have O3 := hide (Blk.new ((w.alloc (.cells #[.int .i64 kd, .int .i64 ix, .slice a l.length c] 24)).alloc (.cells #[.int .i64 0, .int .i64 0, .slice none 0 0] 24)) #[.int .i64 kd, .int .i64 ix, .slice none 0 0] 24)
    have B3 := hide (B2.out.alloc B2.out.size (.cells #[.int .i64 kd, .int .i64 ix, .slice none 0 0] 24))
    have eO : ((w.alloc (.cells #[.int .i64 kd, .int .i64 ix, .slice a l.length c] 24)).alloc (.cells #[.int .i64 0, .int .i64 0, .slice none 0 0] 24)).heap.size = w.heap.size + 2 := by simp
    rw [eO] at O3
    clear eO B2 T2 R2
    generalize ((w.alloc (.cells #[.int .i64 kd, .int .i64 ix, .slice a l.length c] 24)).alloc (.cells #[.int .i64 0, .int .i64 0, .slice none 0 0] 24)).alloc (.cells #[.int .i64 kd, .int .i64 ix, .slice none 0 0] 24) = w3 at *
    obtain ⟨O, eO⟩ : ∃ O, O = w.heap.size + 2 := ⟨_, rfl⟩
    rw [← eO] at O3
    simp only [← eO]
    have hO : w.heap.size + 2 ≤ O := by omega
    clear eO
    go_loopw [6] (fun i wr => ∃ (k : Nat) (u : Value), k ≤ l.length ∧ i = .int .i64 (k : Int) ∧ LmSet w (fun b => X b ∧ b < w.heap.size) O kd ix a l.length c u (filM W (l.take k)) wr) (fun i wr => l.length - (intOf i).toNat)
    case atStart => exact ⟨0, .slice none 0 0, Nat.zero_le _, rfl, [], by have h := RowM.start w3 (O + 1) 24 (fun b => X b ∧ b < w.heap.size); simpa [filM] using h, B3.out, T3.out, R3.out, O3.out, O3.out.lt⟩
    case round =>
      obtain ⟨k, u9, hk, rfl, hset⟩ := hrel
      have SET := hide hset
      obtain ⟨xs, hrow, hbb, hT, hR, hOb, hOl⟩ := hset
      have XE := hide hbb
      have XT := hide hT
      have XR := hide hR
      have XO := hide hOb
      have XW := hide hrow
      clear hrow hbb hR hOb
      have c0 : wr.cell? ⟨w.heap.size, 0, none⟩ = some (.int .i64 kd) := hT.cell 0
      have c1 : wr.cell? ⟨w.heap.size, 1, none⟩ = some (.int .i64 ix) := hT.cell 1
      have c2 : wr.cell? ⟨w.heap.size, 2, none⟩ = some (.slice a l.length c) := hT.cell 2
      have o0 : wr.cell? ⟨O, 0, none⟩ = some (.int .i64 kd) := XO.out.cell 0
      have o1 : wr.cell? ⟨O, 1, none⟩ = some (.int .i64 ix) := XO.out.cell 1
      have o2 : wr.cell? ⟨O, 2, none⟩ = some u9 := XO.out.cell 2
      clear hT
      by_cases hlt : k < l.length
      · obtain ⟨b, o, a', c', rfl, d0, d0', d1, hx⟩ := (HS.out.mono (Y := (fun b => X b ∧ b < w.heap.size)) fun b h1 h2 => ⟨h1, h2⟩).get XE.out (fun b h _ => h.2) k hlt
        have HX := hide hx
        have hlt2 : (k : Int) < (l.length : Int) := by omega
        have hXb : b < w.heap.size := by
          obtain ⟨_, h1⟩ := HS.out
          rcases h1 with h1 | ⟨b', o', e', h1⟩
          · rw [h1] at hlt; simp at hlt
          · cases e'; exact cell_ltM (liesM_get _ _ _ h1 k hlt).2.1
        have hszk : sizeM [l[k]] ≤ sizeM l := by
          have h1 := sizeM_take l k hlt
          have h2 := sizeM_take_le l (k + 1)
          omega
        have HLN : Hid ((filM W (l.take k)).length ≤ 1000000) := by unfold Hid; rw [filM_map]; simp; omega
        have HBk := hide (UnkM.at k hlt HBN.out)
        have HTK := hide (filM_take W l k hlt)
        have IHQ : Hid (Calls Try.prog 6 #[.agg #[.int .i64 l[k].kind, .int .i64 l[k].idx, .slice a' l[k].subs.length c'], .slice wa W.length wc] wr.drew fun e w'' => ∃ a1 c1, e = .returned (.agg #[.int .i64 (filT W l[k]).kind, .int .i64 (filT W l[k]).idx, .slice a1 (filT W l[k]).subs.length c1]) ∧ SlM w'' (fun b => (X b ∧ b < w.heap.size) ∨ wr.heap.size ≤ b) a1 (filT W l[k]).subs ∧ Below wr.heap.size wr w'') := (IH.out l[k] (List.getElem_mem hlt) _ wr.drew (fun b => X b ∧ b < w.heap.size) (HX.out.later ((Below.refl wr.heap.size wr).drew)) (((HW.out.mono (Y := fun b => X b ∧ b < w.heap.size) fun b h1 h2 => ⟨h1, h2⟩).below XE.out (fun b h _ => h.2)).later ((Below.refl wr.heap.size wr).drew)) (by omega) HBk.out).mono fun e w'' hp => by
            obtain ⟨a1, c1, h1, h2, h3⟩ := hp
            exact ⟨a1, c1, h1, h2.mono (fun b hb _ => hb.imp (fun h => h.1) id), ((Below.refl wr.heap.size wr).drew).trans h3⟩
        have HS8 : Hid (LmS w.heap.size b (o + k * 3) kd ix (some ⟨b, o, none⟩) l.length c l[k].kind l[k].idx (.slice a' l[k].subs.length c') wr) := ⟨XT.out, d0, d0', d1⟩
        clear hx d0 d0' d1 c0 c1 o0 o1
        go_wp2_with fail
        have HSd : Hid (LmS w.heap.size b (o + k * 3) kd ix (some ⟨b, o, none⟩) l.length c l[k].kind l[k].idx (.slice a' l[k].subs.length c') wr.drew) := HS8.out
        refine wp_region_held_drew (S := LmS w.heap.size b (o + k * 3) kd ix (some ⟨b, o, none⟩) l.length c l[k].kind l[k].idx (.slice a' l[k].subs.length c')) (by kernel_rfl) HSd.out (fun hHeld => ?_)
        refine wpAnyH_take (i := 0) (v := ?_) rfl (by kernel_rfl) (by kernel_rfl) (by kernel_rfl) (fun _ _ _ h => h) (Or.inl ⟨by rfl, ?_⟩) (by assumption) ?_
        rotate_left
        · intro w' hSw
          go_simp <;> with_reducible rfl
        try simp only [Act.put, List.setIfInBounds_toArray, List.set_cons_zero, List.set_cons_succ, List.getElem_toArray, List.getElem_cons_succ, List.getElem_cons_zero]
        refine wpAnyH_take (i := 2) (v := ?_) rfl (by kernel_rfl) (by kernel_rfl) (by kernel_rfl) (fun _ _ _ h => h) (Or.inl ⟨by rfl, ?_⟩) (by assumption) ?_
        rotate_left
        · intro w' hSw
          go_simp <;> with_reducible rfl
        try simp only [Act.put, List.setIfInBounds_toArray, List.set_cons_zero, List.set_cons_succ, List.getElem_toArray, List.getElem_cons_succ, List.getElem_cons_zero]
        refine wpAnyH_take (i := 3) (v := ?_) rfl (by kernel_rfl) (by kernel_rfl) (by kernel_rfl) (fun _ _ _ h => h) (Or.inl ⟨by rfl, ?_⟩) (by assumption) ?_
        rotate_left
        · intro w' hSw
          have c2 : w'.cell? ⟨w.heap.size, 2, none⟩ = some (.slice (some ⟨b, o, none⟩) l.length c) := hSw.1.cell 2
          go_simp <;> with_reducible rfl
        try simp only [Act.put, List.setIfInBounds_toArray, List.set_cons_zero, List.set_cons_succ, List.getElem_toArray, List.getElem_cons_succ, List.getElem_cons_zero]
        refine wpAnyH_take (i := 4) (v := ?_) rfl (by kernel_rfl) (by kernel_rfl) (by kernel_rfl) (fun _ _ _ h => h) (Or.inl ⟨by rfl, ?_⟩) (by assumption) ?_
        rotate_left
        · intro w' hSw
          go_simp <;> with_reducible rfl
        try simp only [Act.put, List.setIfInBounds_toArray, List.set_cons_zero, List.set_cons_succ, List.getElem_toArray, List.getElem_cons_succ, List.getElem_cons_zero]
        refine wpAnyH_take (i := 5) (v := ?_) rfl (by kernel_rfl) (by kernel_rfl) (by kernel_rfl) (fun _ _ _ h => h) (Or.inl ⟨by rfl, ?_⟩) (by assumption) ?_
        rotate_left
        · intro w' hSw
          go_simp <;> with_reducible rfl
        try simp only [Act.put, List.setIfInBounds_toArray, List.set_cons_zero, List.set_cons_succ, List.getElem_toArray, List.getElem_cons_succ, List.getElem_cons_zero]
        refine wpAnyH_take (i := 6) (v := ?_) rfl (by kernel_rfl) (by kernel_rfl) (by kernel_rfl) (fun _ _ _ h => h) (Or.inl ⟨by rfl, ?_⟩) (by assumption) ?_
        rotate_left
        · intro w' hSw
          have e0 := hSw.2.1
          have e1 := hSw.2.2.1
          have e2 := hSw.2.2.2
          go_simp <;> with_reducible rfl
        try simp only [Act.put, List.setIfInBounds_toArray, List.set_cons_zero, List.set_cons_succ, List.getElem_toArray, List.getElem_cons_succ, List.getElem_cons_zero]
        refine wpAnyH_take (i := 7) (v := ?_) rfl (by kernel_rfl) (by kernel_rfl) (by kernel_rfl) (fun _ _ _ h => h) (Or.inl ⟨by rfl, ?_⟩) (by assumption) ?_
        rotate_left
        · intro w' hSw
          go_simp <;> with_reducible rfl
        try simp only [Act.put, List.setIfInBounds_toArray, List.set_cons_zero, List.set_cons_succ, List.getElem_toArray, List.getElem_cons_succ, List.getElem_cons_zero]
        have ob4 : wr.drew.cell? ⟨O, 2, none⟩ = some u9 := XO.out.cell 2
        refine wpAnyH_ready (rs := [1, 8]) (by kernel_rfl) (by simp) ?_
        refine AllReadyH.cons rfl (fun K hK => ?_) (AllReadyH.cons rfl (fun K hK => ?_) AllReadyH.nil)
        · go_simp
          refine hK.out _ _ (by exact HSd.out) (fun hHeld => ?_)
          clear hK K
          try simp only [Act.put, List.setIfInBounds_toArray, List.set_cons_zero, List.set_cons_succ, List.getElem_toArray, List.getElem_cons_succ, List.getElem_cons_zero]
          refine wpAnyH_ready (rs := [8]) (by kernel_rfl) (by simp) ?_
          refine AllReadyH.cons rfl (fun K hK => ?_) AllReadyH.nil
          go_simp
          go_at_call 6
          refine IHQ.out.mono ?_
          rintro e w5 ⟨a5, c5, rfl, hs5, hb5⟩
          obtain ⟨g, cap, w3, hrun, S1, S2, S3, o3, of, S4, hset⟩ := lm_round (c1 := c5) hO (fun b h => h.2) hXb SET.out HS8.out HLN.out hb5 hs5
          have HRUN := hide hrun
          have HSET := hide hset
          have S1h := hide S1
          have S2h := hide S2
          have S3h := hide S3
          have S4h := hide S4
          have ob5 : w5.cell? ⟨O, 2, none⟩ = some u9 := (hb5.cell (p := ⟨O, 2, none⟩) XO.out.lt).trans (XO.out.cell 2)
          have HB5 := hide hb5
          clear hrun hset S1 S2 S3 S4 hs5 hb5
          go_simp
          refine hK.out _ _ (by exact S1h.out) (fun hHeld => ?_)
          clear hK K
          try simp only [Act.put, List.setIfInBounds_toArray, List.set_cons_zero, List.set_cons_succ, List.getElem_toArray, List.getElem_cons_succ, List.getElem_cons_zero]
          refine wpAnyH_ready (rs := [9]) (by kernel_rfl) (by simp) ?_
          refine AllReadyH.cons rfl (fun K hK => ?_) AllReadyH.nil
          go_simp
          refine hK.out _ _ (by exact S2h.out) (fun hHeld => ?_)
          clear hK K
          try simp only [Act.put, List.setIfInBounds_toArray, List.set_cons_zero, List.set_cons_succ, List.getElem_toArray, List.getElem_cons_succ, List.getElem_cons_zero]
          refine wpAnyH_ready (rs := [10]) (by kernel_rfl) (by simp) ?_
          refine AllReadyH.cons rfl (fun K hK => ?_) AllReadyH.nil
          refine step_append_eqM rfl _ _ _ _ rfl rfl rfl HRUN.out ?_
          refine hK.out _ _ (by exact S3h.out) (fun hHeld => ?_)
          clear hK K
          try simp only [Act.put, List.setIfInBounds_toArray, List.set_cons_zero, List.set_cons_succ, List.getElem_toArray, List.getElem_cons_succ, List.getElem_cons_zero]
          refine wpAnyH_take (i := 11) (v := ?_) rfl (by kernel_rfl) (by kernel_rfl) (by kernel_rfl) (fun _ _ _ h => h) (Or.inl ⟨by rfl, ?_⟩) (by assumption) ?_
          rotate_left
          · intro w' hSw
            go_simp <;> with_reducible rfl
          try simp only [Act.put, List.setIfInBounds_toArray, List.set_cons_zero, List.set_cons_succ, List.getElem_toArray, List.getElem_cons_succ, List.getElem_cons_zero]
          refine wpAnyH_ready (rs := [12]) (by kernel_rfl) (by simp) ?_
          refine AllReadyH.cons rfl (fun K hK => ?_) AllReadyH.nil
          go_simp
          refine hK.out _ _ (by exact S4h.out) (fun hHeld => ?_)
          clear hK K
          try simp only [Act.put, List.setIfInBounds_toArray, List.set_cons_zero, List.set_cons_succ, List.getElem_toArray, List.getElem_cons_succ, List.getElem_cons_zero]
          refine wpAnyH_done (by kernel_rfl) ?_ _
          go_wp2_with fail
          go_roundw
          case rel => exact ⟨k + 1, _, by omega, by go_num, by rw [HTK.out]; exact HSET.out⟩
          case measure => simp [intOf]; omega
        · go_simp
          go_at_call 6
          refine IHQ.out.mono ?_
          rintro e w5 ⟨a5, c5, rfl, hs5, hb5⟩
          obtain ⟨g, cap, w3, hrun, S1, S2, S3, o3, of, S4, hset⟩ := lm_round (c1 := c5) hO (fun b h => h.2) hXb SET.out HS8.out HLN.out hb5 hs5
          have HRUN := hide hrun
          have HSET := hide hset
          have S1h := hide S1
          have S2h := hide S2
          have S3h := hide S3
          have S4h := hide S4
          have ob5 : w5.cell? ⟨O, 2, none⟩ = some u9 := (hb5.cell (p := ⟨O, 2, none⟩) XO.out.lt).trans (XO.out.cell 2)
          have HB5 := hide hb5
          clear hrun hset S1 S2 S3 S4 hs5 hb5
          go_simp
          refine hK.out _ _ (by exact S1h.out) (fun hHeld => ?_)
          clear hK K
          try simp only [Act.put, List.setIfInBounds_toArray, List.set_cons_zero, List.set_cons_succ, List.getElem_toArray, List.getElem_cons_succ, List.getElem_cons_zero]
          refine wpAnyH_ready (rs := [1, 9]) (by kernel_rfl) (by simp) ?_
          refine AllReadyH.cons rfl (fun K hK => ?_) (AllReadyH.cons rfl (fun K hK => ?_) AllReadyH.nil)
          · go_simp
            refine hK.out _ _ (by exact S1h.out) (fun hHeld => ?_)
            clear hK K
            try simp only [Act.put, List.setIfInBounds_toArray, List.set_cons_zero, List.set_cons_succ, List.getElem_toArray, List.getElem_cons_succ, List.getElem_cons_zero]
            refine wpAnyH_ready (rs := [9]) (by kernel_rfl) (by simp) ?_
            refine AllReadyH.cons rfl (fun K hK => ?_) AllReadyH.nil
            go_simp
            refine hK.out _ _ (by exact S2h.out) (fun hHeld => ?_)
            clear hK K
            try simp only [Act.put, List.setIfInBounds_toArray, List.set_cons_zero, List.set_cons_succ, List.getElem_toArray, List.getElem_cons_succ, List.getElem_cons_zero]
            refine wpAnyH_ready (rs := [10]) (by kernel_rfl) (by simp) ?_
            refine AllReadyH.cons rfl (fun K hK => ?_) AllReadyH.nil
            refine step_append_eqM rfl _ _ _ _ rfl rfl rfl HRUN.out ?_
            refine hK.out _ _ (by exact S3h.out) (fun hHeld => ?_)
            clear hK K
            try simp only [Act.put, List.setIfInBounds_toArray, List.set_cons_zero, List.set_cons_succ, List.getElem_toArray, List.getElem_cons_succ, List.getElem_cons_zero]
            refine wpAnyH_take (i := 11) (v := ?_) rfl (by kernel_rfl) (by kernel_rfl) (by kernel_rfl) (fun _ _ _ h => h) (Or.inl ⟨by rfl, ?_⟩) (by assumption) ?_
            rotate_left
            · intro w' hSw
              go_simp <;> with_reducible rfl
            try simp only [Act.put, List.setIfInBounds_toArray, List.set_cons_zero, List.set_cons_succ, List.getElem_toArray, List.getElem_cons_succ, List.getElem_cons_zero]
            refine wpAnyH_ready (rs := [12]) (by kernel_rfl) (by simp) ?_
            refine AllReadyH.cons rfl (fun K hK => ?_) AllReadyH.nil
            go_simp
            refine hK.out _ _ (by exact S4h.out) (fun hHeld => ?_)
            clear hK K
            try simp only [Act.put, List.setIfInBounds_toArray, List.set_cons_zero, List.set_cons_succ, List.getElem_toArray, List.getElem_cons_succ, List.getElem_cons_zero]
            refine wpAnyH_done (by kernel_rfl) ?_ _
            go_wp2_with fail
            go_roundw
            case rel => exact ⟨k + 1, _, by omega, by go_num, by rw [HTK.out]; exact HSET.out⟩
            case measure => simp [intOf]; omega
          · go_simp
            refine hK.out _ _ (by exact S2h.out) (fun hHeld => ?_)
            clear hK K
            try simp only [Act.put, List.setIfInBounds_toArray, List.set_cons_zero, List.set_cons_succ, List.getElem_toArray, List.getElem_cons_succ, List.getElem_cons_zero]
            refine wpAnyH_ready (rs := [1]) (by kernel_rfl) (by simp) ?_
            refine AllReadyH.cons rfl (fun K hK => ?_) AllReadyH.nil
            have ob6 := ((hide (XO.out.below HB5.out XO.out.lt)).out.alloc (.cells #[.int .i64 (filT W l[k]).kind, .int .i64 (filT W l[k]).idx, .slice a5 (filT W l[k]).subs.length c5] 24)).cell 2
            go_simp
            refine hK.out _ _ (by exact S2h.out) (fun hHeld => ?_)
            clear hK K
            try simp only [Act.put, List.setIfInBounds_toArray, List.set_cons_zero, List.set_cons_succ, List.getElem_toArray, List.getElem_cons_succ, List.getElem_cons_zero]
            refine wpAnyH_ready (rs := [10]) (by kernel_rfl) (by simp) ?_
            refine AllReadyH.cons rfl (fun K hK => ?_) AllReadyH.nil
            refine step_append_eqM rfl _ _ _ _ rfl rfl rfl HRUN.out ?_
            refine hK.out _ _ (by exact S3h.out) (fun hHeld => ?_)
            clear hK K
            try simp only [Act.put, List.setIfInBounds_toArray, List.set_cons_zero, List.set_cons_succ, List.getElem_toArray, List.getElem_cons_succ, List.getElem_cons_zero]
            refine wpAnyH_take (i := 11) (v := ?_) rfl (by kernel_rfl) (by kernel_rfl) (by kernel_rfl) (fun _ _ _ h => h) (Or.inl ⟨by rfl, ?_⟩) (by assumption) ?_
            rotate_left
            · intro w' hSw
              go_simp <;> with_reducible rfl
            try simp only [Act.put, List.setIfInBounds_toArray, List.set_cons_zero, List.set_cons_succ, List.getElem_toArray, List.getElem_cons_succ, List.getElem_cons_zero]
            refine wpAnyH_ready (rs := [12]) (by kernel_rfl) (by simp) ?_
            refine AllReadyH.cons rfl (fun K hK => ?_) AllReadyH.nil
            go_simp
            refine hK.out _ _ (by exact S4h.out) (fun hHeld => ?_)
            clear hK K
            try simp only [Act.put, List.setIfInBounds_toArray, List.set_cons_zero, List.set_cons_succ, List.getElem_toArray, List.getElem_cons_succ, List.getElem_cons_zero]
            refine wpAnyH_done (by kernel_rfl) ?_ _
            go_wp2_with fail
            go_roundw
            case rel => exact ⟨k + 1, _, by omega, by go_num, by rw [HTK.out]; exact HSET.out⟩
            case measure => simp [intOf]; omega

      · have hge : ¬ ((k : Int) < (l.length : Int)) := by omega
        have htk : l.take k = l := List.take_of_length_le (by omega)
        rw [htk] at XW
        obtain ⟨ae, ce, rfl, hse⟩ := XW.out.sl
        have HSE := hide hse
        clear hse
        have r0 : wr.cell? ⟨w.heap.size + 1, 0, none⟩ = some (.int .i64 0) := XR.out.cell 0
        have r1 : wr.cell? ⟨w.heap.size + 1, 1, none⟩ = some (.int .i64 0) := XR.out.cell 1
        have r2 : wr.cell? ⟨w.heap.size + 1, 2, none⟩ = some (.slice none 0 0) := XR.out.cell 2
        have rf := XR.out.frozen
        have hRl : w.heap.size + 1 < wr.heap.size := XR.out.lt
        have HEQ : Hid ((filM W (l)).length = l.length) := by unfold Hid; rw [filM_map]; simp
        go_wp2_with fail
        refine bodyPost_ret (v := .agg #[.int .i64 kd, .int .i64 ix, .slice ae (filM W (l)).length ce]) (by simp [results, Try.results6, go_sem, World.cell?_setCell_same, World.cell?_setCell_other, r0, r1, r2, hRl]) rfl ?_
        rw [HT.out]
        refine ⟨ae, ce, rfl, (HSE.out.kept fun b hb => ?_).mono fun b hb _ => ?_, ((XE.out.setCell (by simp) _).setCell (by simp) _).setCell (by simp) _⟩
        · have hbn : b ≠ w.heap.size + 1 := by
            rcases hb with h | h
            · have := h.2; omega
            · omega
          rw [Below.heap_setCell _ _ _ _ (by simpa using hbn), Below.heap_setCell _ _ _ _ (by simpa using hbn), Below.heap_setCell _ _ _ _ (by simpa using hbn)]
        · rcases hb with h | h
          · exact Or.inl h
          · right; omega
end Go.Proofs.Ytaifameeoipjjaa
