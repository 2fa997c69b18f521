/- Walks: the code's Eta. -/
import Derived.Test.YtaifameeoipjjaaL26
namespace Go.Proofs.Ytaifameeoipjjaa
open Go.RowKit
set_option linter.unusedSimpArgs false
set_option linter.unusedVariables false
set_option maxRecDepth 8000

theorem LmSet.laterE {w wr w1 : World} {Y : Nat → Prop} {O n c : Nat} {u : Value} {L : List Lm} {kd ix : Int} {a : Option Addr} (h : LmSet w Y O kd ix a n c u L wr) (hb : Below wr.heap.size wr w1) : LmSet w Y O kd ix a n c u L w1 := by
  obtain ⟨xs, hrow, hx, hT, hR, hOb, hOl⟩ := h
  exact ⟨xs, hrow.below hb, hx.trans (hb.mono hx.size), hT.below hb hT.lt, hR.below hb hR.lt, hOb.below hb hOb.lt, by have := hb.size; omega⟩
theorem lm_roundS {w wr w1 : World} {Y : Nat → Prop} {O n c : Nat} {u : Value} {L : List Lm} {kd ix : Int} {a a1 : Option Addr} {c1 : Nat} {t : Lm} {b o : Nat} {k1 x1 : Int} {v1 : Value} (hO : w.heap.size + 2 ≤ O) (hY : ∀ b, Y b → b < w.heap.size) (hbo : some b ≠ u.ownBlock) (hbO : b ≠ O) (hset : LmSet w Y O kd ix a n c u L wr) (hS : LmS w.heap.size b o kd ix a n c k1 x1 v1 wr) (hn : L.length ≤ 1000000)
    (hb : Below wr.heap.size wr w1) (hs : SlM w1 (fun b => Y b ∨ wr.heap.size ≤ b) a1 t.subs) :
    ∃ g cap w3, (Builtin.append_ #[22, 22] 22 #[u, .slice (some ⟨w1.heap.size, 0, none⟩) 1 1]).run Try.prog (w1.alloc (.cells #[.int .i64 t.kind, .int .i64 t.idx, .slice a1 t.subs.length c1] 24)) = .ok (.slice (some ⟨g, 0, none⟩) (L.length + 1) cap) w3 ∧
      LmS w.heap.size b o kd ix a n c k1 x1 v1 w1 ∧ LmS w.heap.size b o kd ix a n c k1 x1 v1 (w1.alloc (.cells #[.int .i64 t.kind, .int .i64 t.idx, .slice a1 t.subs.length c1] 24)) ∧ LmS w.heap.size b o kd ix a n c k1 x1 v1 w3 ∧ w3.cell? ⟨O, 2, none⟩ = some u ∧ w3.frozen? ⟨O, 2, none⟩ = false ∧
      LmS w.heap.size b o kd ix a n c k1 x1 v1 (w3.setCell ⟨O, 2, none⟩ (.slice (some ⟨g, 0, none⟩) (L.length + 1) cap)) ∧ LmSet w Y O kd ix a n c (.slice (some ⟨g, 0, none⟩) (L.length + 1) cap) (L ++ [t]) (w3.setCell ⟨O, 2, none⟩ (.slice (some ⟨g, 0, none⟩) (L.length + 1) cap)) := by
  obtain ⟨xs, hrow, hx, hT, hR, hOb, hOl⟩ := hset
  obtain ⟨i0, hi, hz0, hz1, hz2⟩ := info_parts Try.infoLam
  have hlt := hrow.own.lt
  have hbs := hb.size
  have hsx := hx.size
  obtain ⟨g, cap, w3, hr, ho, hg, hat, hgl⟩ := run_append_lies (P := Try.prog) (w := w1.alloc (.cells #[.int .i64 t.kind, .int .i64 t.idx, .slice a1 t.subs.length c1] 24)) 22 22 (O + 1) 24 i0 _ 3 40 Try.underlying22 hi hz0 hz1 hz2 rfl (by decide) u L.length xs ((hrow.below hb).own.alloc _)
    ⟨w1.heap.size, 0, none⟩ 1 1 [.int .i64 t.kind, .int .i64 t.idx, .slice a1 t.subs.length c1] rfl (cell_lam_new _ _ _ _ _) (fun y hy => by simp at hy; rcases hy with rfl | rfl | rfl <;> rfl) (by decide) (by unfold maxLen; omega) (by omega) (by simp; omega) _ rfl
  have hp := hrow.push (w1 := w1) (w3 := w3) (t := t) (by omega) (fun b h => by have := hY b h; omega) hb ⟨a1, c1, rfl, hs⟩ _ rfl ho hg hat
  have hne : ∀ j, j < O + 1 → some j ≠ u.ownBlock := fun j hj e => by have := (hlt j e.symm).1; omega
  have hs3 := hg.size
  simp at hs3
  have hx3 : Below w.heap.size w w3 := ((hx.trans (hb.mono (by omega))).alloc (by omega) _).grown hg (by simp; omega) (fun k hk => by have := (hlt k hk).1; omega)
  have S1 := hS.below hb
  have S2 := S1.below ((Below.refl w1.heap.size w1).alloc (Nat.le_refl _) (.cells #[.int .i64 t.kind, .int .i64 t.idx, .slice a1 t.subs.length c1] 24))
  have S3 : LmS w.heap.size b o kd ix a n c k1 x1 v1 w3 := S2.kept (hg.block _ S2.1.lt (hne _ (by omega))) (hg.block _ (cell_ltM S2.2.1) hbo)
  have hO3 := ((hOb.below hb (by omega)).alloc (.cells #[.int .i64 t.kind, .int .i64 t.idx, .slice a1 t.subs.length c1] 24)).grown hg (hne _ (by omega))
  refine ⟨g, cap, w3, hr, S1, S2, S3, hO3.cell 2, hO3.frozen 2, S3.kept (Below.heap_setCell _ _ _ _ (by simp; omega)) (Below.heap_setCell _ _ _ _ (by simpa using hbO)), _, hp.setCell (by omega) (fun h => by have := hY _ h; omega) _, hx3.setCell (p := ⟨O, 2, none⟩) (by simp; omega) _, ?_, ?_, ?_, by simp [World.setCell]; omega⟩
  · exact (((hT.below hb (by omega)).alloc _).grown hg (hne _ (by omega))).setOther _ _ (by omega)
  · exact (((hR.below hb (by omega)).alloc _).grown hg (hne _ (by omega))).setOther _ _ (by omega)
  · exact hO3.set 2 _
/-- A lambda term that is all new. -/
def EtPost (w : World) (t : Lm) (e : Ending) (w' : World) : Prop :=
  ∃ a c, e = .returned (.agg #[.int .i64 t.kind, .int .i64 t.idx, .slice a t.subs.length c]) ∧ SlM w' (fun b => w.heap.size ≤ b) a t.subs ∧ Below w.heap.size w w'
theorem et_end {w wz : World} {t : Lm} {a : Option Addr} {c R : Nat} {v0 v1 v2 : Value} (hR : w.heap.size ≤ R) (hb : Below w.heap.size w wz) (hs : SlM wz (fun b => w.heap.size ≤ b ∧ b ≠ R) a t.subs) :
    EtPost w t (.returned (.agg #[.int .i64 t.kind, .int .i64 t.idx, .slice a t.subs.length c])) (((wz.setCell ⟨R, 0, none⟩ v0).setCell ⟨R, 1, none⟩ v1).setCell ⟨R, 2, none⟩ v2) := by
  refine ⟨a, c, rfl, (hs.kept fun b h => ?_).mono fun b h _ => h.1, ((hb.setCell (p := ⟨R, 0, none⟩) hR _).setCell (p := ⟨R, 1, none⟩) hR _).setCell (p := ⟨R, 2, none⟩) hR _⟩
  rw [Below.heap_setCell _ _ _ _ (by simpa using h.2), Below.heap_setCell _ _ _ _ (by simpa using h.2), Below.heap_setCell _ _ _ _ (by simpa using h.2)]
set_option maxHeartbeats 4000000 in
theorem eta_any (t : Lm) : ∀ (v : Value) (w : World) (X : Nat → Prop), MV w X v t → sizeM [t] ≤ 10000 → BndM [t] → ShM [t] →
    Calls Try.prog 24 #[v] w fun e w' => EtPost w (etaT t) e w' := by
  induction t using Lm.ind with
  | h kd ix l ih =>
    intro v w X hv hd1 hbn hsh
    obtain ⟨a, c, rfl, hs⟩ := hv
    have IH := hide ih
    have HS := hide hs
    have hl := hs.1
    have hz : sizeM [(⟨kd, ix, l⟩ : Lm)] = 1 + sizeM l := by simp [sizeM]
    rw [hz] at hd1
    rw [BndM_cons] at hbn
    rw [ShM_cons] at hsh
    obtain ⟨⟨hx0, hx1⟩, hbn, _⟩ := hbn
    obtain ⟨hnl, hsh, _⟩ := hsh
    have HBN := hide hbn
    have HSH := hide hsh
    have HNL := hide hnl
    have hlen := sizeM_len l
    clear ih hs hz hbn hsh hnl
    have B2 : Hid (Below w.heap.size w ((w.alloc (.cells #[.int .i64 kd, .int .i64 ix, .slice a l.length c] 24)).alloc (.cells #[.int .i64 0, .int .i64 0, .slice none 0 0] 24))) := ((Below.refl _ _).alloc (Nat.le_refl _) _).alloc (by simp) _
    have T2 : Hid (Blk ((w.alloc (.cells #[.int .i64 kd, .int .i64 ix, .slice a l.length c] 24)).alloc (.cells #[.int .i64 0, .int .i64 0, .slice none 0 0] 24)) w.heap.size #[.int .i64 kd, .int .i64 ix, .slice a l.length c] 24) := (Blk.new w _ _).alloc _
    have R2 : Hid (Blk ((w.alloc (.cells #[.int .i64 kd, .int .i64 ix, .slice a l.length c] 24)).alloc (.cells #[.int .i64 0, .int .i64 0, .slice none 0 0] 24)) (w.heap.size + 1) #[.int .i64 0, .int .i64 0, .slice none 0 0] 24) := by
      have h := Blk.new (w.alloc (.cells #[.int .i64 kd, .int .i64 ix, .slice a l.length c] 24)) #[.int .i64 0, .int .i64 0, .slice none 0 0] 24
      rw [World.size_alloc] at h
      exact h
    by_cases k2 : kd = 2
    case pos =>
      subst k2
      go_enter Try.func24, Try.ntmps24
      go_wp2_with fail
      have T3 := hide (T2.out.alloc (.cells #[.int .i64 2, .int .i64 ix, .slice none 0 0] 24))
      have R3 := hide (R2.out.alloc (.cells #[.int .i64 2, .int .i64 ix, .slice none 0 0] 24))
      have O3 := hide (Blk.new ((w.alloc (.cells #[.int .i64 2, .int .i64 ix, .slice a l.length c] 24)).alloc (.cells #[.int .i64 0, .int .i64 0, .slice none 0 0] 24)) #[.int .i64 2, .int .i64 ix, .slice none 0 0] 24)
      have B3 := hide (B2.out.alloc B2.out.size (.cells #[.int .i64 2, .int .i64 ix, .slice none 0 0] 24))
      have eO : ((w.alloc (.cells #[.int .i64 2, .int .i64 ix, .slice a l.length c] 24)).alloc (.cells #[.int .i64 0, .int .i64 0, .slice none 0 0] 24)).heap.size = w.heap.size + 2 := by simp
      rw [eO] at O3
      clear eO B2 T2 R2
      generalize ((w.alloc (.cells #[.int .i64 2, .int .i64 ix, .slice a l.length c] 24)).alloc (.cells #[.int .i64 0, .int .i64 0, .slice none 0 0] 24)).alloc (.cells #[.int .i64 2, .int .i64 ix, .slice none 0 0] 24) = w3 at *
      obtain ⟨O, eO⟩ : ∃ O, O = w.heap.size + 2 := ⟨_, rfl⟩
      rw [← eO] at O3
      simp only [← eO]
      have hO : w.heap.size + 2 ≤ O := by omega
      clear eO
      go_loopw [14] (fun i wr => ∃ (k : Nat) (u : Value), k ≤ l.length ∧ i = .int .i64 (k : Int) ∧ LmSet w (fun _ => False) O 2 ix a l.length c u (etaM (l.take k)) wr) (fun i wr => l.length - (intOf i).toNat)
      case atStart => exact ⟨0, .slice none 0 0, Nat.zero_le _, rfl, [], by have h := RowM.start w3 (O + 1) 24 (fun _ => False); simpa [etaM] using h, B3.out, T3.out, R3.out, O3.out, O3.out.lt⟩
      case round =>
        obtain ⟨k, u9, hk, rfl, hset⟩ := hrel
        have SET := hide hset
        obtain ⟨xs, hrow, hbb, hT, hR, hOb, hOl⟩ := hset
        have XE := hide hbb
        have XT := hide hT
        have XR := hide hR
        have XO := hide hOb
        have XW := hide hrow
        clear hrow hbb hR hOb
        have c0 : wr.cell? ⟨w.heap.size, 0, none⟩ = some (.int .i64 2) := hT.cell 0
        have c1 : wr.cell? ⟨w.heap.size, 1, none⟩ = some (.int .i64 ix) := hT.cell 1
        have c2 : wr.cell? ⟨w.heap.size, 2, none⟩ = some (.slice a l.length c) := hT.cell 2
        have o0 : wr.cell? ⟨O, 0, none⟩ = some (.int .i64 2) := XO.out.cell 0
        have o1 : wr.cell? ⟨O, 1, none⟩ = some (.int .i64 ix) := XO.out.cell 1
        have o2 : wr.cell? ⟨O, 2, none⟩ = some u9 := XO.out.cell 2
        clear hT
        by_cases hlt : k < l.length
        · obtain ⟨b, o, a', c', rfl, d0, d0', d1, hx⟩ := (HS.out.mono (Y := fun b => X b ∧ b < w.heap.size) fun b h1 h2 => ⟨h1, h2⟩).get XE.out (fun b h _ => h.2) k hlt
          have hlt2 : (k : Int) < (l.length : Int) := by omega
          have hszk : sizeM [l[k]] ≤ sizeM l := by
            have h1 := sizeM_take l k hlt
            have h2 := sizeM_take_le l (k + 1)
            omega
          have HLN : Hid ((etaM (l.take k)).length ≤ 1000000) := by unfold Hid; rw [etaM_map]; simp; omega
          have HBk := hide (BndM.at k hlt HBN.out)
          have HTK := hide (etaM_take l k hlt)
          have BQ : Below wr.heap.size wr (wr.alloc (.cells #[.int .i64 l[k].kind, .int .i64 l[k].idx, .slice a' l[k].subs.length c'] 24)) := (Below.refl _ _).alloc (Nat.le_refl _) _
          have HX := hide (hx.later BQ)
          have HOB : Hid (some wr.heap.size ≠ u9.ownBlock ∧ wr.heap.size ≠ O) := ⟨fun e => by have := (XW.out.own.lt _ e.symm).2; omega, by have := XO.out.lt; omega⟩
          have SET := hide (SET.out.laterE BQ)
          have HS8 : Hid (LmS w.heap.size wr.heap.size 0 2 ix (some ⟨b, o, none⟩) l.length c l[k].kind l[k].idx (.slice a' l[k].subs.length c') (wr.alloc (.cells #[.int .i64 l[k].kind, .int .i64 l[k].idx, .slice a' l[k].subs.length c'] 24))) := ⟨XT.out.alloc _, (Blk.new wr #[.int .i64 l[k].kind, .int .i64 l[k].idx, .slice a' l[k].subs.length c'] 24).cell 0, (Blk.new wr #[.int .i64 l[k].kind, .int .i64 l[k].idx, .slice a' l[k].subs.length c'] 24).cell 1, (Blk.new wr #[.int .i64 l[k].kind, .int .i64 l[k].idx, .slice a' l[k].subs.length c'] 24).cell 2⟩
          have XO := hide (XO.out.alloc (.cells #[.int .i64 l[k].kind, .int .i64 l[k].idx, .slice a' l[k].subs.length c'] 24))
          clear hx c0 c1 o0 o1 o2 BQ
          go_upto_region 5 with fail
          clear d0 d0' d1 XE XT XR XW c2 hOl
          generalize (wr.alloc (.cells #[.int .i64 l[k].kind, .int .i64 l[k].idx, .slice a' l[k].subs.length c'] 24)) = wq at *
          generalize wr.heap.size = Q at *
          have IHQ : Hid (Calls Try.prog 24 #[.agg #[.int .i64 l[k].kind, .int .i64 l[k].idx, .slice a' l[k].subs.length c']] wq.drew fun e w'' => ∃ a1 c1, e = .returned (.agg #[.int .i64 (etaT l[k]).kind, .int .i64 (etaT l[k]).idx, .slice a1 (etaT l[k]).subs.length c1]) ∧ SlM w'' (fun b => False ∨ wq.heap.size ≤ b) a1 (etaT l[k]).subs ∧ Below wq.heap.size wq w'') := (IH.out l[k] (List.getElem_mem hlt) _ wq.drew _ (HX.out.later ((Below.refl wq.heap.size wq).drew)) (by omega) HBk.out (ShM.at k hlt HSH.out)).mono fun e w'' hp => by
              obtain ⟨a1, c1, h1, h2, h3⟩ := hp
              exact ⟨a1, c1, h1, h2.mono (fun b hb _ => Or.inr hb), ((Below.refl wq.heap.size wq).drew).trans h3⟩
          have HSd : Hid (LmS w.heap.size Q 0 2 ix (some ⟨b, o, none⟩) l.length c l[k].kind l[k].idx (.slice a' l[k].subs.length c') wq.drew) := HS8.out
          refine wp_region_held_drew (S := LmS w.heap.size Q 0 2 ix (some ⟨b, o, none⟩) l.length c l[k].kind l[k].idx (.slice a' l[k].subs.length c')) (by kernel_rfl) HSd.out (fun hHeld => ?_)
          refine wpAnyH_take (i := 0) (v := ?_) rfl (by kernel_rfl) (by kernel_rfl) (by kernel_rfl) (fun _ _ _ h => h) (Or.inl ⟨by rfl, ?_⟩) (by assumption) ?_
          rotate_left
          · intro w' hSw
            go_simp <;> with_reducible rfl
          try simp only [Act.put, List.setIfInBounds_toArray, List.set_cons_zero, List.set_cons_succ, List.getElem_toArray, List.getElem_cons_succ, List.getElem_cons_zero]
          refine wpAnyH_take (i := 2) (v := ?_) rfl (by kernel_rfl) (by kernel_rfl) (by kernel_rfl) (fun _ _ _ h => h) (Or.inl ⟨by rfl, ?_⟩) (by assumption) ?_
          rotate_left
          · intro w' hSw
            have e0 := hSw.2.1
            have e1 := hSw.2.2.1
            have e2 := hSw.2.2.2
            go_simp <;> with_reducible rfl
          try simp only [Act.put, List.setIfInBounds_toArray, List.set_cons_zero, List.set_cons_succ, List.getElem_toArray, List.getElem_cons_succ, List.getElem_cons_zero]
          have ob4 : wq.drew.cell? ⟨O, 2, none⟩ = some u9 := XO.out.cell 2
          refine wpAnyH_ready (rs := [1, 3]) (by kernel_rfl) (by simp) ?_
          refine AllReadyH.cons rfl (fun K hK => ?_) (AllReadyH.cons rfl (fun K hK => ?_) AllReadyH.nil)
          · go_simp
            refine hK.out _ _ (by exact HSd.out) (fun hHeld => ?_)
            clear hK K
            try simp only [Act.put, List.setIfInBounds_toArray, List.set_cons_zero, List.set_cons_succ, List.getElem_toArray, List.getElem_cons_succ, List.getElem_cons_zero]
            refine wpAnyH_ready (rs := [3]) (by kernel_rfl) (by simp) ?_
            refine AllReadyH.cons rfl (fun K hK => ?_) AllReadyH.nil
            go_simp
            go_at_call 24
            refine IHQ.out.mono ?_
            rintro e w5 ⟨a5, c5, rfl, hs5, hb5⟩
            obtain ⟨g, cap, w3, hrun, S1, S2, S3, o3, of, S4, hset⟩ := lm_roundS (c1 := c5) hO (fun b h => h.elim) HOB.out.1 HOB.out.2 SET.out HS8.out HLN.out hb5 hs5
            have HRUN := hide hrun
            have HSET := hide hset
            have S1h := hide S1
            have S2h := hide S2
            have S3h := hide S3
            have S4h := hide S4
            have ob5 : w5.cell? ⟨O, 2, none⟩ = some u9 := (hb5.cell (p := ⟨O, 2, none⟩) XO.out.lt).trans (XO.out.cell 2)
            have HB5 := hide hb5
            clear hrun hset S1 S2 S3 S4 hs5 hb5
            go_simp
            refine hK.out _ _ (by exact S1h.out) (fun hHeld => ?_)
            clear hK K
            try simp only [Act.put, List.setIfInBounds_toArray, List.set_cons_zero, List.set_cons_succ, List.getElem_toArray, List.getElem_cons_succ, List.getElem_cons_zero]
            refine wpAnyH_ready (rs := [4]) (by kernel_rfl) (by simp) ?_
            refine AllReadyH.cons rfl (fun K hK => ?_) AllReadyH.nil
            go_simp
            refine hK.out _ _ (by exact S2h.out) (fun hHeld => ?_)
            clear hK K
            try simp only [Act.put, List.setIfInBounds_toArray, List.set_cons_zero, List.set_cons_succ, List.getElem_toArray, List.getElem_cons_succ, List.getElem_cons_zero]
            refine wpAnyH_ready (rs := [5]) (by kernel_rfl) (by simp) ?_
            refine AllReadyH.cons rfl (fun K hK => ?_) AllReadyH.nil
            refine step_append_eqM rfl _ _ _ _ rfl rfl rfl HRUN.out ?_
            refine hK.out _ _ (by exact S3h.out) (fun hHeld => ?_)
            clear hK K
            try simp only [Act.put, List.setIfInBounds_toArray, List.set_cons_zero, List.set_cons_succ, List.getElem_toArray, List.getElem_cons_succ, List.getElem_cons_zero]
            refine wpAnyH_take (i := 6) (v := ?_) rfl (by kernel_rfl) (by kernel_rfl) (by kernel_rfl) (fun _ _ _ h => h) (Or.inl ⟨by rfl, ?_⟩) (by assumption) ?_
            rotate_left
            · intro w' hSw
              go_simp <;> with_reducible rfl
            try simp only [Act.put, List.setIfInBounds_toArray, List.set_cons_zero, List.set_cons_succ, List.getElem_toArray, List.getElem_cons_succ, List.getElem_cons_zero]
            refine wpAnyH_ready (rs := [7]) (by kernel_rfl) (by simp) ?_
            refine AllReadyH.cons rfl (fun K hK => ?_) AllReadyH.nil
            go_simp
            refine hK.out _ _ (by exact S4h.out) (fun hHeld => ?_)
            clear hK K
            try simp only [Act.put, List.setIfInBounds_toArray, List.set_cons_zero, List.set_cons_succ, List.getElem_toArray, List.getElem_cons_succ, List.getElem_cons_zero]
            refine wpAnyH_done (by kernel_rfl) ?_ _
            go_wp2_with fail
            go_roundw
            case rel => exact ⟨k + 1, _, by omega, by go_num, by rw [HTK.out]; exact HSET.out⟩
            case measure => simp [intOf]; omega
          · go_simp
            go_at_call 24
            refine IHQ.out.mono ?_
            rintro e w5 ⟨a5, c5, rfl, hs5, hb5⟩
            obtain ⟨g, cap, w3, hrun, S1, S2, S3, o3, of, S4, hset⟩ := lm_roundS (c1 := c5) hO (fun b h => h.elim) HOB.out.1 HOB.out.2 SET.out HS8.out HLN.out hb5 hs5
            have HRUN := hide hrun
            have HSET := hide hset
            have S1h := hide S1
            have S2h := hide S2
            have S3h := hide S3
            have S4h := hide S4
            have ob5 : w5.cell? ⟨O, 2, none⟩ = some u9 := (hb5.cell (p := ⟨O, 2, none⟩) XO.out.lt).trans (XO.out.cell 2)
            have HB5 := hide hb5
            clear hrun hset S1 S2 S3 S4 hs5 hb5
            go_simp
            refine hK.out _ _ (by exact S1h.out) (fun hHeld => ?_)
            clear hK K
            try simp only [Act.put, List.setIfInBounds_toArray, List.set_cons_zero, List.set_cons_succ, List.getElem_toArray, List.getElem_cons_succ, List.getElem_cons_zero]
            refine wpAnyH_ready (rs := [1, 4]) (by kernel_rfl) (by simp) ?_
            refine AllReadyH.cons rfl (fun K hK => ?_) (AllReadyH.cons rfl (fun K hK => ?_) AllReadyH.nil)
            · go_simp
              refine hK.out _ _ (by exact S1h.out) (fun hHeld => ?_)
              clear hK K
              try simp only [Act.put, List.setIfInBounds_toArray, List.set_cons_zero, List.set_cons_succ, List.getElem_toArray, List.getElem_cons_succ, List.getElem_cons_zero]
              refine wpAnyH_ready (rs := [4]) (by kernel_rfl) (by simp) ?_
              refine AllReadyH.cons rfl (fun K hK => ?_) AllReadyH.nil
              go_simp
              refine hK.out _ _ (by exact S2h.out) (fun hHeld => ?_)
              clear hK K
              try simp only [Act.put, List.setIfInBounds_toArray, List.set_cons_zero, List.set_cons_succ, List.getElem_toArray, List.getElem_cons_succ, List.getElem_cons_zero]
              refine wpAnyH_ready (rs := [5]) (by kernel_rfl) (by simp) ?_
              refine AllReadyH.cons rfl (fun K hK => ?_) AllReadyH.nil
              refine step_append_eqM rfl _ _ _ _ rfl rfl rfl HRUN.out ?_
              refine hK.out _ _ (by exact S3h.out) (fun hHeld => ?_)
              clear hK K
              try simp only [Act.put, List.setIfInBounds_toArray, List.set_cons_zero, List.set_cons_succ, List.getElem_toArray, List.getElem_cons_succ, List.getElem_cons_zero]
              refine wpAnyH_take (i := 6) (v := ?_) rfl (by kernel_rfl) (by kernel_rfl) (by kernel_rfl) (fun _ _ _ h => h) (Or.inl ⟨by rfl, ?_⟩) (by assumption) ?_
              rotate_left
              · intro w' hSw
                go_simp <;> with_reducible rfl
              try simp only [Act.put, List.setIfInBounds_toArray, List.set_cons_zero, List.set_cons_succ, List.getElem_toArray, List.getElem_cons_succ, List.getElem_cons_zero]
              refine wpAnyH_ready (rs := [7]) (by kernel_rfl) (by simp) ?_
              refine AllReadyH.cons rfl (fun K hK => ?_) AllReadyH.nil
              go_simp
              refine hK.out _ _ (by exact S4h.out) (fun hHeld => ?_)
              clear hK K
              try simp only [Act.put, List.setIfInBounds_toArray, List.set_cons_zero, List.set_cons_succ, List.getElem_toArray, List.getElem_cons_succ, List.getElem_cons_zero]
              refine wpAnyH_done (by kernel_rfl) ?_ _
              go_wp2_with fail
              go_roundw
              case rel => exact ⟨k + 1, _, by omega, by go_num, by rw [HTK.out]; exact HSET.out⟩
              case measure => simp [intOf]; omega
            · go_simp
              refine hK.out _ _ (by exact S2h.out) (fun hHeld => ?_)
              clear hK K
              try simp only [Act.put, List.setIfInBounds_toArray, List.set_cons_zero, List.set_cons_succ, List.getElem_toArray, List.getElem_cons_succ, List.getElem_cons_zero]
              refine wpAnyH_ready (rs := [1]) (by kernel_rfl) (by simp) ?_
              refine AllReadyH.cons rfl (fun K hK => ?_) AllReadyH.nil
              have ob6 := ((hide (XO.out.below HB5.out XO.out.lt)).out.alloc (.cells #[.int .i64 (etaT l[k]).kind, .int .i64 (etaT l[k]).idx, .slice a5 (etaT l[k]).subs.length c5] 24)).cell 2
              go_simp
              refine hK.out _ _ (by exact S2h.out) (fun hHeld => ?_)
              clear hK K
              try simp only [Act.put, List.setIfInBounds_toArray, List.set_cons_zero, List.set_cons_succ, List.getElem_toArray, List.getElem_cons_succ, List.getElem_cons_zero]
              refine wpAnyH_ready (rs := [5]) (by kernel_rfl) (by simp) ?_
              refine AllReadyH.cons rfl (fun K hK => ?_) AllReadyH.nil
              refine step_append_eqM rfl _ _ _ _ rfl rfl rfl HRUN.out ?_
              refine hK.out _ _ (by exact S3h.out) (fun hHeld => ?_)
              clear hK K
              try simp only [Act.put, List.setIfInBounds_toArray, List.set_cons_zero, List.set_cons_succ, List.getElem_toArray, List.getElem_cons_succ, List.getElem_cons_zero]
              refine wpAnyH_take (i := 6) (v := ?_) rfl (by kernel_rfl) (by kernel_rfl) (by kernel_rfl) (fun _ _ _ h => h) (Or.inl ⟨by rfl, ?_⟩) (by assumption) ?_
              rotate_left
              · intro w' hSw
                go_simp <;> with_reducible rfl
              try simp only [Act.put, List.setIfInBounds_toArray, List.set_cons_zero, List.set_cons_succ, List.getElem_toArray, List.getElem_cons_succ, List.getElem_cons_zero]
              refine wpAnyH_ready (rs := [7]) (by kernel_rfl) (by simp) ?_
              refine AllReadyH.cons rfl (fun K hK => ?_) AllReadyH.nil
              go_simp
              refine hK.out _ _ (by exact S4h.out) (fun hHeld => ?_)
              clear hK K
              try simp only [Act.put, List.setIfInBounds_toArray, List.set_cons_zero, List.set_cons_succ, List.getElem_toArray, List.getElem_cons_succ, List.getElem_cons_zero]
              refine wpAnyH_done (by kernel_rfl) ?_ _
              go_wp2_with fail
              go_roundw
              case rel => exact ⟨k + 1, _, by omega, by go_num, by rw [HTK.out]; exact HSET.out⟩
              case measure => simp [intOf]; omega
        · have hge : ¬ ((k : Int) < (l.length : Int)) := by omega
          have htk : l.take k = l := List.take_of_length_le (by omega)
          rw [htk] at XW
          obtain ⟨ae, ce, rfl, hse⟩ := XW.out.sl
          have HSE := hide hse
          clear hse
          have r0 : wr.cell? ⟨w.heap.size + 1, 0, none⟩ = some (.int .i64 0) := XR.out.cell 0
          have r1 : wr.cell? ⟨w.heap.size + 1, 1, none⟩ = some (.int .i64 0) := XR.out.cell 1
          have r2 : wr.cell? ⟨w.heap.size + 1, 2, none⟩ = some (.slice none 0 0) := XR.out.cell 2
          have rf := XR.out.frozen
          have hRl : w.heap.size + 1 < wr.heap.size := XR.out.lt
          have hle1 : (etaM l).length = 1 := by rw [etaM_map]; have := HNL.out; simpa [subsK] using this
          obtain ⟨y, hy⟩ := List.length_eq_one_iff.1 hle1
          have HYF : Hid (ShM [y] ∧ BndM [y] ∧ sizeM [y] ≤ sizeM l) := by have h := eta_facts l HSH.out HBN.out; rw [hy] at h; exact h
          have HTE : Hid (etaT ⟨2, ix, l⟩ = etaK 2 ix [y]) := by unfold Hid etaT; simp only [hy]
          rw [hy] at HSE XO
          rw [hy] at o2
          simp only [List.length_singleton] at XO o2
          obtain ⟨yk, yx, yl⟩ := y
          have SE : Hid (SlM wr (fun b => w.heap.size ≤ b ∧ b ≠ w.heap.size + 1) ae [⟨yk, yx, yl⟩]) := HSE.out.mono fun b hb _ => by
            rcases hb with h | h
            · exact h.elim
            · omega
          obtain ⟨b, o, a9, c9, rfl, d0, d0', d1, hx9⟩ := SE.out.get (Below.refl _ _) (fun _ _ h => h) 0 (by simp)
          simp only [Nat.zero_mul, Nat.add_zero, List.getElem_cons_zero] at d0 d0' d1 hx9
          have HX9 := hide hx9
          have HD : Hid (wr.cell? ⟨b, o, none⟩ = some (.int .i64 yk) ∧ wr.cell? ⟨b, o + 1, none⟩ = some (.int .i64 yx) ∧ wr.cell? ⟨b, o + 2, none⟩ = some (.slice a9 yl.length c9)) := ⟨d0, d0', d1⟩
          clear hx9 hy hle1 HSE XW
          go_wp2_with fail
          refine (isIdle_any ⟨yk, yx, yl⟩ _ wr _ HX9.out HYF.out.1 (by have := HYF.out.2.2; omega)).mono ?_
          rintro e w2 ⟨rfl, hb2⟩
          clear r0 r1 r2 rf hRl o0 o1 o2 d0 d0' d1 c0 c1 c2
          have RY := hide (XR.out.below hb2 XR.out.lt)
          have r0 : w2.cell? ⟨w.heap.size + 1, 0, none⟩ = some (.int .i64 0) := RY.out.cell 0
          have r1 : w2.cell? ⟨w.heap.size + 1, 1, none⟩ = some (.int .i64 0) := RY.out.cell 1
          have r2 : w2.cell? ⟨w.heap.size + 1, 2, none⟩ = some (.slice none 0 0) := RY.out.cell 2
          have rf := RY.out.frozen
          have hRl : w.heap.size + 1 < w2.heap.size := RY.out.lt
          have OY := hide (XO.out.below hb2 XO.out.lt)
          have o0 : w2.cell? ⟨O, 0, none⟩ = some (.int .i64 2) := OY.out.cell 0
          have o1 : w2.cell? ⟨O, 1, none⟩ = some (.int .i64 ix) := OY.out.cell 1
          have o2 : w2.cell? ⟨O, 2, none⟩ = some (.slice (some ⟨b, o, none⟩) 1 ce) := OY.out.cell 2
          cases hid : idleT ⟨yk, yx, yl⟩ with
          | false =>
            have HT : Hid (etaK 2 ix [⟨yk, yx, yl⟩] = ⟨2, ix, [⟨yk, yx, yl⟩]⟩) := by
              rcases etaK_two ix [⟨yk, yx, yl⟩] with h | ⟨q1, q2, q3, q4, h1, h2, h3⟩
              · exact h
              · simp at h1
                obtain ⟨rfl, rfl, rfl⟩ := h1
                rw [h2] at hid
                cases hid
            clear hid
            go_wp2_with fail
            refine bodyPost_ret (v := .agg #[.int .i64 2, .int .i64 ix, .slice (some ⟨b, o, none⟩) 1 ce]) (by simp [results, Try.results24, go_sem, World.cell?_setCell_same, World.cell?_setCell_other, r0, r1, r2, hRl]) rfl ?_
            rw [HTE.out, HT.out]
            exact et_end (t := ⟨2, ix, [⟨yk, yx, yl⟩]⟩) (by omega) (XE.out.trans (hb2.mono XE.out.size)) (SE.out.later hb2)
          | true =>
            obtain ⟨rfl, f, x, rfl⟩ : yk = 3 ∧ ∃ f x, yl = [f, x] := by
              unfold idleT at hid
              simp only [Bool.and_eq_true, decide_eq_true_eq] at hid
              refine ⟨hid.1, ?_⟩
              match yl, hid.2 with
              | [f, x], _ => exact ⟨f, x, rfl⟩
              | [], h => simp at h
              | [_], h => simp at h
              | _ :: _ :: _ :: _, h => simp at h
            have HT : Hid (etaK 2 ix [⟨3, yx, [f, x]⟩] = higT (-1) 0 f) := by unfold Hid; rw [etaK_three, ← idle_three yx, hid]; simp
            have hyl := HYF.out.1
            rw [ShM_cons] at hyl
            have HSF : Hid (ShM [f]) := ShM.at 0 (by simp) hyl.2.1
            have HSZ : Hid (sizeM [f] ≤ 10000 ∧ BndM [f]) := by
              have h1 := HYF.out.2.1
              rw [BndM_cons] at h1
              have h2 : sizeM [f] ≤ sizeM [f, x] := sizeM_take_le [f, x] 1
              have h3 := HYF.out.2.2
              have h4 : sizeM [(⟨3, yx, [f, x]⟩ : Lm)] = 1 + sizeM [f, x] := by simp [sizeM]
              exact ⟨by omega, BndM.at 0 (by simp) h1.2.1⟩
            obtain ⟨a10, c10, e10, hs9⟩ := HX9.out
            simp at e10
            obtain ⟨rfl, rfl⟩ := e10
            obtain ⟨bf, of, af, cf, rfl, f0, f0', f1, hxf⟩ := (hs9.later hb2).get (Below.refl _ _) (fun _ _ h => h) 0 (by simp)
            simp only [Nat.zero_mul, Nat.add_zero, List.getElem_cons_zero, List.length_cons, List.length_nil] at f0 f0' f1 hxf
            have HXF := hide hxf
            have d0 : w2.cell? ⟨b, o, none⟩ = some (.int .i64 3) := cell_later hb2 HD.out.1
            have d0' : w2.cell? ⟨b, o + 1, none⟩ = some (.int .i64 yx) := cell_later hb2 HD.out.2.1
            have d1 : w2.cell? ⟨b, o + 2, none⟩ = some (.slice (some ⟨bf, of, none⟩) 2 c9) := cell_later hb2 HD.out.2.2
            clear hid hyl hs9 hxf
            go_wp2_with fail
            refine (lower_any f HSZ.out.1 HSZ.out.2 HSF.out _ w2 _ HXF.out).mono ?_
            rintro e w3 ⟨v7, rfl, ⟨a7, c7, rfl, hs7⟩, hb3⟩
            have k3 := hb2.trans (hb3.mono hb2.size)
            have HS7 := hide hs7
            clear hs7 r0 r1 r2 rf hRl o0 o1 o2 d0 d0' d1 f0 f0' f1 RY OY
            have RY := hide (XR.out.below k3 XR.out.lt)
            have r0 : w3.cell? ⟨w.heap.size + 1, 0, none⟩ = some (.int .i64 0) := RY.out.cell 0
            have r1 : w3.cell? ⟨w.heap.size + 1, 1, none⟩ = some (.int .i64 0) := RY.out.cell 1
            have r2 : w3.cell? ⟨w.heap.size + 1, 2, none⟩ = some (.slice none 0 0) := RY.out.cell 2
            have rf := RY.out.frozen
            have hRl : w.heap.size + 1 < w3.heap.size := RY.out.lt
            go_wp2_with fail
            refine bodyPost_ret (v := .agg #[.int .i64 (higT (-1) 0 f).kind, .int .i64 (higT (-1) 0 f).idx, .slice a7 (higT (-1) 0 f).subs.length c7]) (by simp [results, Try.results24, go_sem, World.cell?_setCell_same, World.cell?_setCell_other, r0, r1, r2, hRl]) rfl ?_
            rw [HTE.out, HT.out]
            refine et_end (t := higT (-1) 0 f) (by omega) (XE.out.trans (k3.mono XE.out.size)) (HS7.out.mono fun b hb _ => ?_)
            have h6 := XE.out.size
            have h7 := hb2.size
            have h8 := XR.out.lt
            exact ⟨by omega, by omega⟩
    case neg =>
      have e2 : (kd == 2) = false := by simpa using k2
      have HT : Hid (etaT ⟨kd, ix, l⟩ = ⟨kd, ix, etaM l⟩) := by unfold Hid etaT etaK; simp [k2]
      go_enter Try.func24, Try.ntmps24
      go_wp2_with fail
      have T3 := hide (T2.out.alloc (.cells #[.int .i64 kd, .int .i64 ix, .slice none 0 0] 24))
      have R3 := hide (R2.out.alloc (.cells #[.int .i64 kd, .int .i64 ix, .slice none 0 0] 24))
      have O3 := hide (Blk.new ((w.alloc (.cells #[.int .i64 kd, .int .i64 ix, .slice a l.length c] 24)).alloc (.cells #[.int .i64 0, .int .i64 0, .slice none 0 0] 24)) #[.int .i64 kd, .int .i64 ix, .slice none 0 0] 24)
      have B3 := hide (B2.out.alloc B2.out.size (.cells #[.int .i64 kd, .int .i64 ix, .slice none 0 0] 24))
      have eO : ((w.alloc (.cells #[.int .i64 kd, .int .i64 ix, .slice a l.length c] 24)).alloc (.cells #[.int .i64 0, .int .i64 0, .slice none 0 0] 24)).heap.size = w.heap.size + 2 := by simp
      rw [eO] at O3
      clear eO B2 T2 R2
      generalize ((w.alloc (.cells #[.int .i64 kd, .int .i64 ix, .slice a l.length c] 24)).alloc (.cells #[.int .i64 0, .int .i64 0, .slice none 0 0] 24)).alloc (.cells #[.int .i64 kd, .int .i64 ix, .slice none 0 0] 24) = w3 at *
      obtain ⟨O, eO⟩ : ∃ O, O = w.heap.size + 2 := ⟨_, rfl⟩
      rw [← eO] at O3
      simp only [← eO]
      have hO : w.heap.size + 2 ≤ O := by omega
      clear eO
      go_loopw [14] (fun i wr => ∃ (k : Nat) (u : Value), k ≤ l.length ∧ i = .int .i64 (k : Int) ∧ LmSet w (fun _ => False) O kd ix a l.length c u (etaM (l.take k)) wr) (fun i wr => l.length - (intOf i).toNat)
      case atStart => exact ⟨0, .slice none 0 0, Nat.zero_le _, rfl, [], by have h := RowM.start w3 (O + 1) 24 (fun _ => False); simpa [etaM] using h, B3.out, T3.out, R3.out, O3.out, O3.out.lt⟩
      case round =>
        obtain ⟨k, u9, hk, rfl, hset⟩ := hrel
        have SET := hide hset
        obtain ⟨xs, hrow, hbb, hT, hR, hOb, hOl⟩ := hset
        have XE := hide hbb
        have XT := hide hT
        have XR := hide hR
        have XO := hide hOb
        have XW := hide hrow
        clear hrow hbb hR hOb
        have c0 : wr.cell? ⟨w.heap.size, 0, none⟩ = some (.int .i64 kd) := hT.cell 0
        have c1 : wr.cell? ⟨w.heap.size, 1, none⟩ = some (.int .i64 ix) := hT.cell 1
        have c2 : wr.cell? ⟨w.heap.size, 2, none⟩ = some (.slice a l.length c) := hT.cell 2
        have o0 : wr.cell? ⟨O, 0, none⟩ = some (.int .i64 kd) := XO.out.cell 0
        have o1 : wr.cell? ⟨O, 1, none⟩ = some (.int .i64 ix) := XO.out.cell 1
        have o2 : wr.cell? ⟨O, 2, none⟩ = some u9 := XO.out.cell 2
        clear hT
        by_cases hlt : k < l.length
        · obtain ⟨b, o, a', c', rfl, d0, d0', d1, hx⟩ := (HS.out.mono (Y := fun b => X b ∧ b < w.heap.size) fun b h1 h2 => ⟨h1, h2⟩).get XE.out (fun b h _ => h.2) k hlt
          have hlt2 : (k : Int) < (l.length : Int) := by omega
          have hszk : sizeM [l[k]] ≤ sizeM l := by
            have h1 := sizeM_take l k hlt
            have h2 := sizeM_take_le l (k + 1)
            omega
          have HLN : Hid ((etaM (l.take k)).length ≤ 1000000) := by unfold Hid; rw [etaM_map]; simp; omega
          have HBk := hide (BndM.at k hlt HBN.out)
          have HTK := hide (etaM_take l k hlt)
          have BQ : Below wr.heap.size wr (wr.alloc (.cells #[.int .i64 l[k].kind, .int .i64 l[k].idx, .slice a' l[k].subs.length c'] 24)) := (Below.refl _ _).alloc (Nat.le_refl _) _
          have HX := hide (hx.later BQ)
          have HOB : Hid (some wr.heap.size ≠ u9.ownBlock ∧ wr.heap.size ≠ O) := ⟨fun e => by have := (XW.out.own.lt _ e.symm).2; omega, by have := XO.out.lt; omega⟩
          have SET := hide (SET.out.laterE BQ)
          have HS8 : Hid (LmS w.heap.size wr.heap.size 0 kd ix (some ⟨b, o, none⟩) l.length c l[k].kind l[k].idx (.slice a' l[k].subs.length c') (wr.alloc (.cells #[.int .i64 l[k].kind, .int .i64 l[k].idx, .slice a' l[k].subs.length c'] 24))) := ⟨XT.out.alloc _, (Blk.new wr #[.int .i64 l[k].kind, .int .i64 l[k].idx, .slice a' l[k].subs.length c'] 24).cell 0, (Blk.new wr #[.int .i64 l[k].kind, .int .i64 l[k].idx, .slice a' l[k].subs.length c'] 24).cell 1, (Blk.new wr #[.int .i64 l[k].kind, .int .i64 l[k].idx, .slice a' l[k].subs.length c'] 24).cell 2⟩
          have XO := hide (XO.out.alloc (.cells #[.int .i64 l[k].kind, .int .i64 l[k].idx, .slice a' l[k].subs.length c'] 24))
          clear hx c0 c1 o0 o1 o2 BQ
          go_upto_region 5 with fail
          clear d0 d0' d1 XE XT XR XW c2 hOl
          generalize (wr.alloc (.cells #[.int .i64 l[k].kind, .int .i64 l[k].idx, .slice a' l[k].subs.length c'] 24)) = wq at *
          generalize wr.heap.size = Q at *
          have IHQ : Hid (Calls Try.prog 24 #[.agg #[.int .i64 l[k].kind, .int .i64 l[k].idx, .slice a' l[k].subs.length c']] wq.drew fun e w'' => ∃ a1 c1, e = .returned (.agg #[.int .i64 (etaT l[k]).kind, .int .i64 (etaT l[k]).idx, .slice a1 (etaT l[k]).subs.length c1]) ∧ SlM w'' (fun b => False ∨ wq.heap.size ≤ b) a1 (etaT l[k]).subs ∧ Below wq.heap.size wq w'') := (IH.out l[k] (List.getElem_mem hlt) _ wq.drew _ (HX.out.later ((Below.refl wq.heap.size wq).drew)) (by omega) HBk.out (ShM.at k hlt HSH.out)).mono fun e w'' hp => by
              obtain ⟨a1, c1, h1, h2, h3⟩ := hp
              exact ⟨a1, c1, h1, h2.mono (fun b hb _ => Or.inr hb), ((Below.refl wq.heap.size wq).drew).trans h3⟩
          have HSd : Hid (LmS w.heap.size Q 0 kd ix (some ⟨b, o, none⟩) l.length c l[k].kind l[k].idx (.slice a' l[k].subs.length c') wq.drew) := HS8.out
          refine wp_region_held_drew (S := LmS w.heap.size Q 0 kd ix (some ⟨b, o, none⟩) l.length c l[k].kind l[k].idx (.slice a' l[k].subs.length c')) (by kernel_rfl) HSd.out (fun hHeld => ?_)
          refine wpAnyH_take (i := 0) (v := ?_) rfl (by kernel_rfl) (by kernel_rfl) (by kernel_rfl) (fun _ _ _ h => h) (Or.inl ⟨by rfl, ?_⟩) (by assumption) ?_
          rotate_left
          · intro w' hSw
            go_simp <;> with_reducible rfl
          try simp only [Act.put, List.setIfInBounds_toArray, List.set_cons_zero, List.set_cons_succ, List.getElem_toArray, List.getElem_cons_succ, List.getElem_cons_zero]
          refine wpAnyH_take (i := 2) (v := ?_) rfl (by kernel_rfl) (by kernel_rfl) (by kernel_rfl) (fun _ _ _ h => h) (Or.inl ⟨by rfl, ?_⟩) (by assumption) ?_
          rotate_left
          · intro w' hSw
            have e0 := hSw.2.1
            have e1 := hSw.2.2.1
            have e2 := hSw.2.2.2
            go_simp <;> with_reducible rfl
          try simp only [Act.put, List.setIfInBounds_toArray, List.set_cons_zero, List.set_cons_succ, List.getElem_toArray, List.getElem_cons_succ, List.getElem_cons_zero]
          have ob4 : wq.drew.cell? ⟨O, 2, none⟩ = some u9 := XO.out.cell 2
          refine wpAnyH_ready (rs := [1, 3]) (by kernel_rfl) (by simp) ?_
          refine AllReadyH.cons rfl (fun K hK => ?_) (AllReadyH.cons rfl (fun K hK => ?_) AllReadyH.nil)
          · go_simp
            refine hK.out _ _ (by exact HSd.out) (fun hHeld => ?_)
            clear hK K
            try simp only [Act.put, List.setIfInBounds_toArray, List.set_cons_zero, List.set_cons_succ, List.getElem_toArray, List.getElem_cons_succ, List.getElem_cons_zero]
            refine wpAnyH_ready (rs := [3]) (by kernel_rfl) (by simp) ?_
            refine AllReadyH.cons rfl (fun K hK => ?_) AllReadyH.nil
            go_simp
            go_at_call 24
            refine IHQ.out.mono ?_
            rintro e w5 ⟨a5, c5, rfl, hs5, hb5⟩
            obtain ⟨g, cap, w3, hrun, S1, S2, S3, o3, of, S4, hset⟩ := lm_roundS (c1 := c5) hO (fun b h => h.elim) HOB.out.1 HOB.out.2 SET.out HS8.out HLN.out hb5 hs5
            have HRUN := hide hrun
            have HSET := hide hset
            have S1h := hide S1
            have S2h := hide S2
            have S3h := hide S3
            have S4h := hide S4
            have ob5 : w5.cell? ⟨O, 2, none⟩ = some u9 := (hb5.cell (p := ⟨O, 2, none⟩) XO.out.lt).trans (XO.out.cell 2)
            have HB5 := hide hb5
            clear hrun hset S1 S2 S3 S4 hs5 hb5
            go_simp
            refine hK.out _ _ (by exact S1h.out) (fun hHeld => ?_)
            clear hK K
            try simp only [Act.put, List.setIfInBounds_toArray, List.set_cons_zero, List.set_cons_succ, List.getElem_toArray, List.getElem_cons_succ, List.getElem_cons_zero]
            refine wpAnyH_ready (rs := [4]) (by kernel_rfl) (by simp) ?_
            refine AllReadyH.cons rfl (fun K hK => ?_) AllReadyH.nil
            go_simp
            refine hK.out _ _ (by exact S2h.out) (fun hHeld => ?_)
            clear hK K
            try simp only [Act.put, List.setIfInBounds_toArray, List.set_cons_zero, List.set_cons_succ, List.getElem_toArray, List.getElem_cons_succ, List.getElem_cons_zero]
            refine wpAnyH_ready (rs := [5]) (by kernel_rfl) (by simp) ?_
            refine AllReadyH.cons rfl (fun K hK => ?_) AllReadyH.nil
            refine step_append_eqM rfl _ _ _ _ rfl rfl rfl HRUN.out ?_
            refine hK.out _ _ (by exact S3h.out) (fun hHeld => ?_)
            clear hK K
            try simp only [Act.put, List.setIfInBounds_toArray, List.set_cons_zero, List.set_cons_succ, List.getElem_toArray, List.getElem_cons_succ, List.getElem_cons_zero]
            refine wpAnyH_take (i := 6) (v := ?_) rfl (by kernel_rfl) (by kernel_rfl) (by kernel_rfl) (fun _ _ _ h => h) (Or.inl ⟨by rfl, ?_⟩) (by assumption) ?_
            rotate_left
            · intro w' hSw
              go_simp <;> with_reducible rfl
            try simp only [Act.put, List.setIfInBounds_toArray, List.set_cons_zero, List.set_cons_succ, List.getElem_toArray, List.getElem_cons_succ, List.getElem_cons_zero]
            refine wpAnyH_ready (rs := [7]) (by kernel_rfl) (by simp) ?_
            refine AllReadyH.cons rfl (fun K hK => ?_) AllReadyH.nil
            go_simp
            refine hK.out _ _ (by exact S4h.out) (fun hHeld => ?_)
            clear hK K
            try simp only [Act.put, List.setIfInBounds_toArray, List.set_cons_zero, List.set_cons_succ, List.getElem_toArray, List.getElem_cons_succ, List.getElem_cons_zero]
            refine wpAnyH_done (by kernel_rfl) ?_ _
            go_wp2_with fail
            go_roundw
            case rel => exact ⟨k + 1, _, by omega, by go_num, by rw [HTK.out]; exact HSET.out⟩
            case measure => simp [intOf]; omega
          · go_simp
            go_at_call 24
            refine IHQ.out.mono ?_
            rintro e w5 ⟨a5, c5, rfl, hs5, hb5⟩
            obtain ⟨g, cap, w3, hrun, S1, S2, S3, o3, of, S4, hset⟩ := lm_roundS (c1 := c5) hO (fun b h => h.elim) HOB.out.1 HOB.out.2 SET.out HS8.out HLN.out hb5 hs5
            have HRUN := hide hrun
            have HSET := hide hset
            have S1h := hide S1
            have S2h := hide S2
            have S3h := hide S3
            have S4h := hide S4
            have ob5 : w5.cell? ⟨O, 2, none⟩ = some u9 := (hb5.cell (p := ⟨O, 2, none⟩) XO.out.lt).trans (XO.out.cell 2)
            have HB5 := hide hb5
            clear hrun hset S1 S2 S3 S4 hs5 hb5
            go_simp
            refine hK.out _ _ (by exact S1h.out) (fun hHeld => ?_)
            clear hK K
            try simp only [Act.put, List.setIfInBounds_toArray, List.set_cons_zero, List.set_cons_succ, List.getElem_toArray, List.getElem_cons_succ, List.getElem_cons_zero]
            refine wpAnyH_ready (rs := [1, 4]) (by kernel_rfl) (by simp) ?_
            refine AllReadyH.cons rfl (fun K hK => ?_) (AllReadyH.cons rfl (fun K hK => ?_) AllReadyH.nil)
            · go_simp
              refine hK.out _ _ (by exact S1h.out) (fun hHeld => ?_)
              clear hK K
              try simp only [Act.put, List.setIfInBounds_toArray, List.set_cons_zero, List.set_cons_succ, List.getElem_toArray, List.getElem_cons_succ, List.getElem_cons_zero]
              refine wpAnyH_ready (rs := [4]) (by kernel_rfl) (by simp) ?_
              refine AllReadyH.cons rfl (fun K hK => ?_) AllReadyH.nil
              go_simp
              refine hK.out _ _ (by exact S2h.out) (fun hHeld => ?_)
              clear hK K
              try simp only [Act.put, List.setIfInBounds_toArray, List.set_cons_zero, List.set_cons_succ, List.getElem_toArray, List.getElem_cons_succ, List.getElem_cons_zero]
              refine wpAnyH_ready (rs := [5]) (by kernel_rfl) (by simp) ?_
              refine AllReadyH.cons rfl (fun K hK => ?_) AllReadyH.nil
              refine step_append_eqM rfl _ _ _ _ rfl rfl rfl HRUN.out ?_
              refine hK.out _ _ (by exact S3h.out) (fun hHeld => ?_)
              clear hK K
              try simp only [Act.put, List.setIfInBounds_toArray, List.set_cons_zero, List.set_cons_succ, List.getElem_toArray, List.getElem_cons_succ, List.getElem_cons_zero]
              refine wpAnyH_take (i := 6) (v := ?_) rfl (by kernel_rfl) (by kernel_rfl) (by kernel_rfl) (fun _ _ _ h => h) (Or.inl ⟨by rfl, ?_⟩) (by assumption) ?_
              rotate_left
              · intro w' hSw
                go_simp <;> with_reducible rfl
              try simp only [Act.put, List.setIfInBounds_toArray, List.set_cons_zero, List.set_cons_succ, List.getElem_toArray, List.getElem_cons_succ, List.getElem_cons_zero]
              refine wpAnyH_ready (rs := [7]) (by kernel_rfl) (by simp) ?_
              refine AllReadyH.cons rfl (fun K hK => ?_) AllReadyH.nil
              go_simp
              refine hK.out _ _ (by exact S4h.out) (fun hHeld => ?_)
              clear hK K
              try simp only [Act.put, List.setIfInBounds_toArray, List.set_cons_zero, List.set_cons_succ, List.getElem_toArray, List.getElem_cons_succ, List.getElem_cons_zero]
              refine wpAnyH_done (by kernel_rfl) ?_ _
              go_wp2_with fail
              go_roundw
              case rel => exact ⟨k + 1, _, by omega, by go_num, by rw [HTK.out]; exact HSET.out⟩
              case measure => simp [intOf]; omega
            · go_simp
              refine hK.out _ _ (by exact S2h.out) (fun hHeld => ?_)
              clear hK K
              try simp only [Act.put, List.setIfInBounds_toArray, List.set_cons_zero, List.set_cons_succ, List.getElem_toArray, List.getElem_cons_succ, List.getElem_cons_zero]
              refine wpAnyH_ready (rs := [1]) (by kernel_rfl) (by simp) ?_
              refine AllReadyH.cons rfl (fun K hK => ?_) AllReadyH.nil
              have ob6 := ((hide (XO.out.below HB5.out XO.out.lt)).out.alloc (.cells #[.int .i64 (etaT l[k]).kind, .int .i64 (etaT l[k]).idx, .slice a5 (etaT l[k]).subs.length c5] 24)).cell 2
              go_simp
              refine hK.out _ _ (by exact S2h.out) (fun hHeld => ?_)
              clear hK K
              try simp only [Act.put, List.setIfInBounds_toArray, List.set_cons_zero, List.set_cons_succ, List.getElem_toArray, List.getElem_cons_succ, List.getElem_cons_zero]
              refine wpAnyH_ready (rs := [5]) (by kernel_rfl) (by simp) ?_
              refine AllReadyH.cons rfl (fun K hK => ?_) AllReadyH.nil
              refine step_append_eqM rfl _ _ _ _ rfl rfl rfl HRUN.out ?_
              refine hK.out _ _ (by exact S3h.out) (fun hHeld => ?_)
              clear hK K
              try simp only [Act.put, List.setIfInBounds_toArray, List.set_cons_zero, List.set_cons_succ, List.getElem_toArray, List.getElem_cons_succ, List.getElem_cons_zero]
              refine wpAnyH_take (i := 6) (v := ?_) rfl (by kernel_rfl) (by kernel_rfl) (by kernel_rfl) (fun _ _ _ h => h) (Or.inl ⟨by rfl, ?_⟩) (by assumption) ?_
              rotate_left
              · intro w' hSw
                go_simp <;> with_reducible rfl
              try simp only [Act.put, List.setIfInBounds_toArray, List.set_cons_zero, List.set_cons_succ, List.getElem_toArray, List.getElem_cons_succ, List.getElem_cons_zero]
              refine wpAnyH_ready (rs := [7]) (by kernel_rfl) (by simp) ?_
              refine AllReadyH.cons rfl (fun K hK => ?_) AllReadyH.nil
              go_simp
              refine hK.out _ _ (by exact S4h.out) (fun hHeld => ?_)
              clear hK K
              try simp only [Act.put, List.setIfInBounds_toArray, List.set_cons_zero, List.set_cons_succ, List.getElem_toArray, List.getElem_cons_succ, List.getElem_cons_zero]
              refine wpAnyH_done (by kernel_rfl) ?_ _
              go_wp2_with fail
              go_roundw
              case rel => exact ⟨k + 1, _, by omega, by go_num, by rw [HTK.out]; exact HSET.out⟩
              case measure => simp [intOf]; omega
        · have hge : ¬ ((k : Int) < (l.length : Int)) := by omega
          have htk : l.take k = l := List.take_of_length_le (by omega)
          rw [htk] at XW
          obtain ⟨ae, ce, rfl, hse⟩ := XW.out.sl
          have HSE := hide hse
          clear hse
          have r0 : wr.cell? ⟨w.heap.size + 1, 0, none⟩ = some (.int .i64 0) := XR.out.cell 0
          have r1 : wr.cell? ⟨w.heap.size + 1, 1, none⟩ = some (.int .i64 0) := XR.out.cell 1
          have r2 : wr.cell? ⟨w.heap.size + 1, 2, none⟩ = some (.slice none 0 0) := XR.out.cell 2
          have rf := XR.out.frozen
          have hRl : w.heap.size + 1 < wr.heap.size := XR.out.lt
          have HEQ : Hid ((etaM l).length = l.length) := by unfold Hid; rw [etaM_map]; simp
          go_wp2_with fail
          refine bodyPost_ret (v := .agg #[.int .i64 kd, .int .i64 ix, .slice ae (etaM l).length ce]) (by simp [results, Try.results24, go_sem, World.cell?_setCell_same, World.cell?_setCell_other, r0, r1, r2, hRl]) rfl ?_
          rw [HT.out]
          exact et_end (t := ⟨kd, ix, etaM l⟩) (by omega) XE.out (HSE.out.mono fun b hb _ => by rcases hb with h | h; exact h.elim; omega)
end Go.Proofs.Ytaifameeoipjjaa
