/- Walks: terms put for the unknowns, as the program does it. -/
import Derived.Test.YtaifameeoipjjaaPt2
namespace Go.Proofs.Ytaifameeoipjjaa
open Go.RowKit
set_option linter.unusedSimpArgs false
set_option linter.unusedVariables false
set_option maxRecDepth 8000

theorem LmSet.laterP {w wr w1 : World} {Y : Nat → Prop} {O n c : Nat} {u : Value} {L : List Lm} {kd ix : Int} {a : Option Addr} (h : LmSet w Y O kd ix a n c u L wr) (hb : Below wr.heap.size wr w1) : LmSet w Y O kd ix a n c u L w1 := by
  obtain ⟨xs, hrow, hx, hT, hR, hOb, hOl⟩ := h
  exact ⟨xs, hrow.below hb, hx.trans (hb.mono hx.size), hT.below hb hT.lt, hR.below hb hR.lt, hOb.below hb hOb.lt, by have := hb.size; omega⟩
theorem lm_roundP {w wr w1 : World} {Y : Nat → Prop} {O n c : Nat} {u : Value} {L : List Lm} {kd ix : Int} {a a1 : Option Addr} {c1 : Nat} {t : Lm} {b o : Nat} {k1 x1 : Int} {v1 : Value} (hO : w.heap.size + 2 ≤ O) (hY : ∀ b, Y b → b < w.heap.size) (hbo : some b ≠ u.ownBlock) (hbO : b ≠ O) (hset : LmSet w Y O kd ix a n c u L wr) (hS : LmS w.heap.size b o kd ix a n c k1 x1 v1 wr) (hn : L.length ≤ 1000000)
    (hb : Below wr.heap.size wr w1) (hs : SlM w1 (fun b => Y b ∨ wr.heap.size ≤ b) a1 t.subs) :
    ∃ g cap w3, (Builtin.append_ #[22, 22] 22 #[u, .slice (some ⟨w1.heap.size, 0, none⟩) 1 1]).run Try.prog (w1.alloc (.cells #[.int .i64 t.kind, .int .i64 t.idx, .slice a1 t.subs.length c1] 24)) = .ok (.slice (some ⟨g, 0, none⟩) (L.length + 1) cap) w3 ∧
      LmS w.heap.size b o kd ix a n c k1 x1 v1 w1 ∧ LmS w.heap.size b o kd ix a n c k1 x1 v1 (w1.alloc (.cells #[.int .i64 t.kind, .int .i64 t.idx, .slice a1 t.subs.length c1] 24)) ∧ LmS w.heap.size b o kd ix a n c k1 x1 v1 w3 ∧ w3.cell? ⟨O, 2, none⟩ = some u ∧ w3.frozen? ⟨O, 2, none⟩ = false ∧
      LmS w.heap.size b o kd ix a n c k1 x1 v1 (w3.setCell ⟨O, 2, none⟩ (.slice (some ⟨g, 0, none⟩) (L.length + 1) cap)) ∧ LmSet w Y O kd ix a n c (.slice (some ⟨g, 0, none⟩) (L.length + 1) cap) (L ++ [t]) (w3.setCell ⟨O, 2, none⟩ (.slice (some ⟨g, 0, none⟩) (L.length + 1) cap)) := by
  obtain ⟨xs, hrow, hx, hT, hR, hOb, hOl⟩ := hset
  obtain ⟨i0, hi, hz0, hz1, hz2⟩ := info_parts Try.infoLam
  have hlt := hrow.own.lt
  have hbs := hb.size
  have hsx := hx.size
  obtain ⟨g, cap, w3, hr, ho, hg, hat, hgl⟩ := run_append_lies (P := Try.prog) (w := w1.alloc (.cells #[.int .i64 t.kind, .int .i64 t.idx, .slice a1 t.subs.length c1] 24)) 22 22 (O + 1) 24 i0 _ 3 40 Try.underlying22 hi hz0 hz1 hz2 rfl (by decide) u L.length xs ((hrow.below hb).own.alloc _)
    ⟨w1.heap.size, 0, none⟩ 1 1 [.int .i64 t.kind, .int .i64 t.idx, .slice a1 t.subs.length c1] rfl (cell_lam_new _ _ _ _ _) (fun y hy => by simp at hy; rcases hy with rfl | rfl | rfl <;> rfl) (by decide) (by unfold maxLen; omega) (by omega) (by simp; omega) _ rfl
  have hp := hrow.push (w1 := w1) (w3 := w3) (t := t) (by omega) (fun b h => by have := hY b h; omega) hb ⟨a1, c1, rfl, hs⟩ _ rfl ho hg hat
  have hne : ∀ j, j < O + 1 → some j ≠ u.ownBlock := fun j hj e => by have := (hlt j e.symm).1; omega
  have hs3 := hg.size
  simp at hs3
  have hx3 : Below w.heap.size w w3 := ((hx.trans (hb.mono (by omega))).alloc (by omega) _).grown hg (by simp; omega) (fun k hk => by have := (hlt k hk).1; omega)
  have S1 := hS.below hb
  have S2 := S1.below ((Below.refl w1.heap.size w1).alloc (Nat.le_refl _) (.cells #[.int .i64 t.kind, .int .i64 t.idx, .slice a1 t.subs.length c1] 24))
  have S3 : LmS w.heap.size b o kd ix a n c k1 x1 v1 w3 := S2.kept (hg.block _ S2.1.lt (hne _ (by omega))) (hg.block _ (cell_ltM S2.2.1) hbo)
  have hO3 := ((hOb.below hb (by omega)).alloc (.cells #[.int .i64 t.kind, .int .i64 t.idx, .slice a1 t.subs.length c1] 24)).grown hg (hne _ (by omega))
  refine ⟨g, cap, w3, hr, S1, S2, S3, hO3.cell 2, hO3.frozen 2, S3.kept (Below.heap_setCell _ _ _ _ (by simp; omega)) (Below.heap_setCell _ _ _ _ (by simpa using hbO)), _, hp.setCell (by omega) (fun h => by have := hY _ h; omega) _, hx3.setCell (p := ⟨O, 2, none⟩) (by simp; omega) _, ?_, ?_, ?_, by simp [World.setCell]; omega⟩
  · exact (((hT.below hb (by omega)).alloc _).grown hg (hne _ (by omega))).setOther _ _ (by omega)
  · exact (((hR.below hb (by omega)).alloc _).grown hg (hne _ (by omega))).setOther _ _ (by omega)
  · exact hO3.set 2 _
set_option maxHeartbeats 4000000 in
theorem fill_any (W : List Lm) (wa : Option Addr) (wc : Nat) (t : Lm) : ∀ (v : Value) (w : World) (X : Nat → Prop), MV w X v t → SlM w X wa W → sizeM [t] ≤ 100000 → UnkM W.length [t] →
    Calls Try.prog 20 #[v, .slice wa W.length wc] w fun e w' => LmPost w X (filT W t) e w' := by
  induction t using Lm.ind with
  | h kd ix l ih =>
    intro v w X hv hw hd1 hbn
    obtain ⟨a, c, rfl, hs⟩ := hv
    have IH := hide ih
    have HS := hide hs
    have HW := hide hw
    have hl := hs.1
    have hz : sizeM [(⟨kd, ix, l⟩ : Lm)] = 1 + sizeM l := by simp [sizeM]
    rw [hz] at hd1
    rw [UnkM_cons] at hbn
    obtain ⟨hx5, hbn, _⟩ := hbn
    have HBN := hide hbn
    have hlen := sizeM_len l
    clear ih hs hz hbn hw
    have B2 : Hid (Below w.heap.size w ((w.alloc (.cells #[.int .i64 kd, .int .i64 ix, .slice a l.length c] 24)).alloc (.cells #[.int .i64 0, .int .i64 0, .slice none 0 0] 24))) := ((Below.refl _ _).alloc (Nat.le_refl _) _).alloc (by simp) _
    have T2 : Hid (Blk ((w.alloc (.cells #[.int .i64 kd, .int .i64 ix, .slice a l.length c] 24)).alloc (.cells #[.int .i64 0, .int .i64 0, .slice none 0 0] 24)) w.heap.size #[.int .i64 kd, .int .i64 ix, .slice a l.length c] 24) := (Blk.new w _ _).alloc _
    have R2 : Hid (Blk ((w.alloc (.cells #[.int .i64 kd, .int .i64 ix, .slice a l.length c] 24)).alloc (.cells #[.int .i64 0, .int .i64 0, .slice none 0 0] 24)) (w.heap.size + 1) #[.int .i64 0, .int .i64 0, .slice none 0 0] 24) := by
      have h := Blk.new (w.alloc (.cells #[.int .i64 kd, .int .i64 ix, .slice a l.length c] 24)) #[.int .i64 0, .int .i64 0, .slice none 0 0] 24
      rw [World.size_alloc] at h
      exact h
    by_cases k5 : kd = 5
    case pos =>
      subst k5
      obtain ⟨x0, x1⟩ := hx5 rfl
      obtain ⟨n, rfl⟩ : ∃ n : Nat, ix = (n : Int) := ⟨ix.toNat, by omega⟩
      have hn : n < W.length := by omega
      have HT : Hid (filT W ⟨5, (n : Int), l⟩ = W[n]) := by unfold Hid filT; simp [List.getElem?_eq_getElem hn]
      obtain ⟨b, o, a', c', rfl, d0, d1, d2, hx, hbl⟩ := sl_atP HW.out hn
      have HX := hide hx
      have hWl := HW.out.1
      have KC : Hid (∀ w', Below w.heap.size w w' → w'.cell? ⟨b, o + n * 3, none⟩ = some (.int .i64 W[n].kind) ∧ w'.cell? ⟨b, o + n * 3 + 1, none⟩ = some (.int .i64 W[n].idx) ∧ w'.cell? ⟨b, o + n * 3 + 2, none⟩ = some (.slice a' W[n].subs.length c')) := fun w' hb => ⟨(hb.cell (p := ⟨b, o + n * 3, none⟩) hbl).trans d0, (hb.cell (p := ⟨b, o + n * 3 + 1, none⟩) hbl).trans d1, (hb.cell (p := ⟨b, o + n * 3 + 2, none⟩) hbl).trans d2⟩
      obtain ⟨f0, f1, f2⟩ := KC.out _ B2.out
      have hnl : (n : Int) < (W.length : Int) := by omega
      have hn0 : (0 : Int) ≤ (n : Int) := by omega
      clear hx d0 d1 d2 hx5 x0 x1
      go_enter Try.func20, Try.ntmps20
      go_wp2_with fail
      refine bodyPost_ret (v := .agg #[.int .i64 W[n].kind, .int .i64 W[n].idx, .slice a' W[n].subs.length c']) (by simp [results, Try.results20, go_sem, World.cell?_setCell_same, World.cell?_setCell_other]) rfl ?_
      rw [HT.out]
      have hb9 := ((Below.refl w.heap.size w).alloc (Nat.le_refl _) (.cells #[.int .i64 5, .int .i64 (n : Int), .slice a l.length c] 24)).alloc (by simp) (.cells #[.int .i64 W[n].kind, .int .i64 W[n].idx, .slice a' W[n].subs.length c'] 24)
      exact ⟨a', c', rfl, (HX.out.mono (Y := fun b => X b ∧ b < w.heap.size) fun b h1 h2 => ⟨h1, h2⟩).below hb9 (fun b h _ => h.2) |>.mono fun b h _ => Or.inl h, hb9⟩
    case neg =>
      have e2 : (kd == 5) = false := by simpa using k5
      have HT : Hid (filT W ⟨kd, ix, l⟩ = ⟨kd, ix, filM W l⟩) := by unfold Hid filT; simp [k5]
      go_enter Try.func20, Try.ntmps20
      go_wp2_with fail
      have T3 := hide (T2.out.alloc (.cells #[.int .i64 kd, .int .i64 ix, .slice none 0 0] 24))
      have R3 := hide (R2.out.alloc (.cells #[.int .i64 kd, .int .i64 ix, .slice none 0 0] 24))
      have O3 := hide (Blk.new ((w.alloc (.cells #[.int .i64 kd, .int .i64 ix, .slice a l.length c] 24)).alloc (.cells #[.int .i64 0, .int .i64 0, .slice none 0 0] 24)) #[.int .i64 kd, .int .i64 ix, .slice none 0 0] 24)
      have B3 := hide (B2.out.alloc B2.out.size (.cells #[.int .i64 kd, .int .i64 ix, .slice none 0 0] 24))
      have eO : ((w.alloc (.cells #[.int .i64 kd, .int .i64 ix, .slice a l.length c] 24)).alloc (.cells #[.int .i64 0, .int .i64 0, .slice none 0 0] 24)).heap.size = w.heap.size + 2 := by simp
      rw [eO] at O3
      clear eO B2 T2 R2
      generalize ((w.alloc (.cells #[.int .i64 kd, .int .i64 ix, .slice a l.length c] 24)).alloc (.cells #[.int .i64 0, .int .i64 0, .slice none 0 0] 24)).alloc (.cells #[.int .i64 kd, .int .i64 ix, .slice none 0 0] 24) = w3 at *
      obtain ⟨O, eO⟩ : ∃ O, O = w.heap.size + 2 := ⟨_, rfl⟩
      rw [← eO] at O3
      simp only [← eO]
      have hO : w.heap.size + 2 ≤ O := by omega
      clear eO
      go_loopw [24] (fun i wr => ∃ (k : Nat) (u : Value), k ≤ l.length ∧ i = .int .i64 (k : Int) ∧ LmSet w (fun b => X b ∧ b < w.heap.size) O kd ix a l.length c u (filM W (l.take k)) wr) (fun i wr => l.length - (intOf i).toNat)
      case atStart => exact ⟨0, .slice none 0 0, Nat.zero_le _, rfl, [], by have h := RowM.start w3 (O + 1) 24 (fun b => X b ∧ b < w.heap.size); simpa [filM] using h, B3.out, T3.out, R3.out, O3.out, O3.out.lt⟩
      case round =>
        obtain ⟨k, u9, hk, rfl, hset⟩ := hrel
        have SET := hide hset
        obtain ⟨xs, hrow, hbb, hT, hR, hOb, hOl⟩ := hset
        have XE := hide hbb
        have XT := hide hT
        have XR := hide hR
        have XO := hide hOb
        have XW := hide hrow
        clear hrow hbb hR hOb
        have c0 : wr.cell? ⟨w.heap.size, 0, none⟩ = some (.int .i64 kd) := hT.cell 0
        have c1 : wr.cell? ⟨w.heap.size, 1, none⟩ = some (.int .i64 ix) := hT.cell 1
        have c2 : wr.cell? ⟨w.heap.size, 2, none⟩ = some (.slice a l.length c) := hT.cell 2
        have o0 : wr.cell? ⟨O, 0, none⟩ = some (.int .i64 kd) := XO.out.cell 0
        have o1 : wr.cell? ⟨O, 1, none⟩ = some (.int .i64 ix) := XO.out.cell 1
        have o2 : wr.cell? ⟨O, 2, none⟩ = some u9 := XO.out.cell 2
        clear hT
        by_cases hlt : k < l.length
        · obtain ⟨b, o, a', c', rfl, d0, d0', d1, hx⟩ := (HS.out.mono (Y := fun b => X b ∧ b < w.heap.size) fun b h1 h2 => ⟨h1, h2⟩).get XE.out (fun b h _ => h.2) k hlt
          have hlt2 : (k : Int) < (l.length : Int) := by omega
          have hszk : sizeM [l[k]] ≤ sizeM l := by
            have h1 := sizeM_take l k hlt
            have h2 := sizeM_take_le l (k + 1)
            omega
          have HLN : Hid ((filM W (l.take k)).length ≤ 1000000) := by unfold Hid; rw [filM_map]; simp; omega
          have HBk := hide (UnkM.at k hlt HBN.out)
          have HTK := hide (filM_take W l k hlt)
          have BQ : Below wr.heap.size wr (wr.alloc (.cells #[.int .i64 l[k].kind, .int .i64 l[k].idx, .slice a' l[k].subs.length c'] 24)) := (Below.refl _ _).alloc (Nat.le_refl _) _
          have HX := hide (hx.later BQ)
          have HWQ := hide (((HW.out.mono (Y := fun b => X b ∧ b < w.heap.size) fun b h1 h2 => ⟨h1, h2⟩).below XE.out (fun b h _ => h.2)).later BQ)
          have HOB : Hid (some wr.heap.size ≠ u9.ownBlock ∧ wr.heap.size ≠ O) := ⟨fun e => by have := (XW.out.own.lt _ e.symm).2; omega, by have := XO.out.lt; omega⟩
          have SET := hide (SET.out.laterP BQ)
          have HS8 : Hid (LmS w.heap.size wr.heap.size 0 kd ix (some ⟨b, o, none⟩) l.length c l[k].kind l[k].idx (.slice a' l[k].subs.length c') (wr.alloc (.cells #[.int .i64 l[k].kind, .int .i64 l[k].idx, .slice a' l[k].subs.length c'] 24))) := ⟨XT.out.alloc _, (Blk.new wr #[.int .i64 l[k].kind, .int .i64 l[k].idx, .slice a' l[k].subs.length c'] 24).cell 0, (Blk.new wr #[.int .i64 l[k].kind, .int .i64 l[k].idx, .slice a' l[k].subs.length c'] 24).cell 1, (Blk.new wr #[.int .i64 l[k].kind, .int .i64 l[k].idx, .slice a' l[k].subs.length c'] 24).cell 2⟩
          have XO := hide (XO.out.alloc (.cells #[.int .i64 l[k].kind, .int .i64 l[k].idx, .slice a' l[k].subs.length c'] 24))
          clear hx c0 c1 o0 o1 o2 BQ
          go_upto_region 7 with fail
          clear d0 d0' d1 XE XT XR XW c2 hOl
          generalize (wr.alloc (.cells #[.int .i64 l[k].kind, .int .i64 l[k].idx, .slice a' l[k].subs.length c'] 24)) = wq at *
          generalize wr.heap.size = Q at *
          have IHQ : Hid (Calls Try.prog 20 #[.agg #[.int .i64 l[k].kind, .int .i64 l[k].idx, .slice a' l[k].subs.length c'], .slice wa W.length wc] wq.drew fun e w'' => ∃ a1 c1, e = .returned (.agg #[.int .i64 (filT W l[k]).kind, .int .i64 (filT W l[k]).idx, .slice a1 (filT W l[k]).subs.length c1]) ∧ SlM w'' (fun b => (X b ∧ b < w.heap.size) ∨ wq.heap.size ≤ b) a1 (filT W l[k]).subs ∧ Below wq.heap.size wq w'') := (IH.out l[k] (List.getElem_mem hlt) _ wq.drew (fun b => X b ∧ b < w.heap.size) (HX.out.later ((Below.refl wq.heap.size wq).drew)) (HWQ.out.later ((Below.refl wq.heap.size wq).drew)) (by omega) HBk.out).mono fun e w'' hp => by
              obtain ⟨a1, c1, h1, h2, h3⟩ := hp
              exact ⟨a1, c1, h1, h2.mono (fun b hb _ => hb.imp (fun h => h.1) id), ((Below.refl wq.heap.size wq).drew).trans h3⟩
          have HSd : Hid (LmS w.heap.size Q 0 kd ix (some ⟨b, o, none⟩) l.length c l[k].kind l[k].idx (.slice a' l[k].subs.length c') wq.drew) := HS8.out
          refine wp_region_held_drew (S := LmS w.heap.size Q 0 kd ix (some ⟨b, o, none⟩) l.length c l[k].kind l[k].idx (.slice a' l[k].subs.length c')) (by kernel_rfl) HSd.out (fun hHeld => ?_)
          refine wpAnyH_take (i := 0) (v := ?_) rfl (by kernel_rfl) (by kernel_rfl) (by kernel_rfl) (fun _ _ _ h => h) (Or.inl ⟨by rfl, ?_⟩) (by assumption) ?_
          rotate_left
          · intro w' hSw
            go_simp <;> with_reducible rfl
          try simp only [Act.put, List.setIfInBounds_toArray, List.set_cons_zero, List.set_cons_succ, List.getElem_toArray, List.getElem_cons_succ, List.getElem_cons_zero]
          refine wpAnyH_take (i := 2) (v := ?_) rfl (by kernel_rfl) (by kernel_rfl) (by kernel_rfl) (fun _ _ _ h => h) (Or.inl ⟨by rfl, ?_⟩) (by assumption) ?_
          rotate_left
          · intro w' hSw
            have e0 := hSw.2.1
            have e1 := hSw.2.2.1
            have e2 := hSw.2.2.2
            go_simp <;> with_reducible rfl
          try simp only [Act.put, List.setIfInBounds_toArray, List.set_cons_zero, List.set_cons_succ, List.getElem_toArray, List.getElem_cons_succ, List.getElem_cons_zero]
          have ob4 : wq.drew.cell? ⟨O, 2, none⟩ = some u9 := XO.out.cell 2
          refine wpAnyH_take (i := 3) (v := ?_) rfl (by kernel_rfl) (by kernel_rfl) (by kernel_rfl) (fun _ _ _ h => h) (Or.inl ⟨by rfl, ?_⟩) (by assumption) ?_
          rotate_left
          · intro w' hSw
            go_simp <;> with_reducible rfl
          try simp only [Act.put, List.setIfInBounds_toArray, List.set_cons_zero, List.set_cons_succ, List.getElem_toArray, List.getElem_cons_succ, List.getElem_cons_zero]
          refine wpAnyH_ready (rs := [1, 4]) (by kernel_rfl) (by simp) ?_
          refine AllReadyH.cons rfl (fun K hK => ?_) (AllReadyH.cons rfl (fun K hK => ?_) AllReadyH.nil)
          · go_simp
            refine hK.out _ _ (by exact HSd.out) (fun hHeld => ?_)
            clear hK K
            try simp only [Act.put, List.setIfInBounds_toArray, List.set_cons_zero, List.set_cons_succ, List.getElem_toArray, List.getElem_cons_succ, List.getElem_cons_zero]
            refine wpAnyH_ready (rs := [4]) (by kernel_rfl) (by simp) ?_
            refine AllReadyH.cons rfl (fun K hK => ?_) AllReadyH.nil
            go_simp
            go_at_call 20
            refine IHQ.out.mono ?_
            rintro e w5 ⟨a5, c5, rfl, hs5, hb5⟩
            obtain ⟨g, cap, w3, hrun, S1, S2, S3, o3, of, S4, hset⟩ := lm_roundP (c1 := c5) hO (fun b h => h.2) HOB.out.1 HOB.out.2 SET.out HS8.out HLN.out hb5 hs5
            have HRUN := hide hrun
            have HSET := hide hset
            have S1h := hide S1
            have S2h := hide S2
            have S3h := hide S3
            have S4h := hide S4
            have ob5 : w5.cell? ⟨O, 2, none⟩ = some u9 := (hb5.cell (p := ⟨O, 2, none⟩) XO.out.lt).trans (XO.out.cell 2)
            have HB5 := hide hb5
            clear hrun hset S1 S2 S3 S4 hs5 hb5
            go_simp
            refine hK.out _ _ (by exact S1h.out) (fun hHeld => ?_)
            clear hK K
            try simp only [Act.put, List.setIfInBounds_toArray, List.set_cons_zero, List.set_cons_succ, List.getElem_toArray, List.getElem_cons_succ, List.getElem_cons_zero]
            refine wpAnyH_ready (rs := [5]) (by kernel_rfl) (by simp) ?_
            refine AllReadyH.cons rfl (fun K hK => ?_) AllReadyH.nil
            go_simp
            refine hK.out _ _ (by exact S2h.out) (fun hHeld => ?_)
            clear hK K
            try simp only [Act.put, List.setIfInBounds_toArray, List.set_cons_zero, List.set_cons_succ, List.getElem_toArray, List.getElem_cons_succ, List.getElem_cons_zero]
            refine wpAnyH_ready (rs := [6]) (by kernel_rfl) (by simp) ?_
            refine AllReadyH.cons rfl (fun K hK => ?_) AllReadyH.nil
            refine step_append_eqM rfl _ _ _ _ rfl rfl rfl HRUN.out ?_
            refine hK.out _ _ (by exact S3h.out) (fun hHeld => ?_)
            clear hK K
            try simp only [Act.put, List.setIfInBounds_toArray, List.set_cons_zero, List.set_cons_succ, List.getElem_toArray, List.getElem_cons_succ, List.getElem_cons_zero]
            refine wpAnyH_take (i := 7) (v := ?_) rfl (by kernel_rfl) (by kernel_rfl) (by kernel_rfl) (fun _ _ _ h => h) (Or.inl ⟨by rfl, ?_⟩) (by assumption) ?_
            rotate_left
            · intro w' hSw
              go_simp <;> with_reducible rfl
            try simp only [Act.put, List.setIfInBounds_toArray, List.set_cons_zero, List.set_cons_succ, List.getElem_toArray, List.getElem_cons_succ, List.getElem_cons_zero]
            refine wpAnyH_ready (rs := [8]) (by kernel_rfl) (by simp) ?_
            refine AllReadyH.cons rfl (fun K hK => ?_) AllReadyH.nil
            go_simp
            refine hK.out _ _ (by exact S4h.out) (fun hHeld => ?_)
            clear hK K
            try simp only [Act.put, List.setIfInBounds_toArray, List.set_cons_zero, List.set_cons_succ, List.getElem_toArray, List.getElem_cons_succ, List.getElem_cons_zero]
            refine wpAnyH_done (by kernel_rfl) ?_ _
            go_wp2_with fail
            go_roundw
            case rel => exact ⟨k + 1, _, by omega, by go_num, by rw [HTK.out]; exact HSET.out⟩
            case measure => simp [intOf]; omega
          · go_simp
            go_at_call 20
            refine IHQ.out.mono ?_
            rintro e w5 ⟨a5, c5, rfl, hs5, hb5⟩
            obtain ⟨g, cap, w3, hrun, S1, S2, S3, o3, of, S4, hset⟩ := lm_roundP (c1 := c5) hO (fun b h => h.2) HOB.out.1 HOB.out.2 SET.out HS8.out HLN.out hb5 hs5
            have HRUN := hide hrun
            have HSET := hide hset
            have S1h := hide S1
            have S2h := hide S2
            have S3h := hide S3
            have S4h := hide S4
            have ob5 : w5.cell? ⟨O, 2, none⟩ = some u9 := (hb5.cell (p := ⟨O, 2, none⟩) XO.out.lt).trans (XO.out.cell 2)
            have HB5 := hide hb5
            clear hrun hset S1 S2 S3 S4 hs5 hb5
            go_simp
            refine hK.out _ _ (by exact S1h.out) (fun hHeld => ?_)
            clear hK K
            try simp only [Act.put, List.setIfInBounds_toArray, List.set_cons_zero, List.set_cons_succ, List.getElem_toArray, List.getElem_cons_succ, List.getElem_cons_zero]
            refine wpAnyH_ready (rs := [1, 5]) (by kernel_rfl) (by simp) ?_
            refine AllReadyH.cons rfl (fun K hK => ?_) (AllReadyH.cons rfl (fun K hK => ?_) AllReadyH.nil)
            · go_simp
              refine hK.out _ _ (by exact S1h.out) (fun hHeld => ?_)
              clear hK K
              try simp only [Act.put, List.setIfInBounds_toArray, List.set_cons_zero, List.set_cons_succ, List.getElem_toArray, List.getElem_cons_succ, List.getElem_cons_zero]
              refine wpAnyH_ready (rs := [5]) (by kernel_rfl) (by simp) ?_
              refine AllReadyH.cons rfl (fun K hK => ?_) AllReadyH.nil
              go_simp
              refine hK.out _ _ (by exact S2h.out) (fun hHeld => ?_)
              clear hK K
              try simp only [Act.put, List.setIfInBounds_toArray, List.set_cons_zero, List.set_cons_succ, List.getElem_toArray, List.getElem_cons_succ, List.getElem_cons_zero]
              refine wpAnyH_ready (rs := [6]) (by kernel_rfl) (by simp) ?_
              refine AllReadyH.cons rfl (fun K hK => ?_) AllReadyH.nil
              refine step_append_eqM rfl _ _ _ _ rfl rfl rfl HRUN.out ?_
              refine hK.out _ _ (by exact S3h.out) (fun hHeld => ?_)
              clear hK K
              try simp only [Act.put, List.setIfInBounds_toArray, List.set_cons_zero, List.set_cons_succ, List.getElem_toArray, List.getElem_cons_succ, List.getElem_cons_zero]
              refine wpAnyH_take (i := 7) (v := ?_) rfl (by kernel_rfl) (by kernel_rfl) (by kernel_rfl) (fun _ _ _ h => h) (Or.inl ⟨by rfl, ?_⟩) (by assumption) ?_
              rotate_left
              · intro w' hSw
                go_simp <;> with_reducible rfl
              try simp only [Act.put, List.setIfInBounds_toArray, List.set_cons_zero, List.set_cons_succ, List.getElem_toArray, List.getElem_cons_succ, List.getElem_cons_zero]
              refine wpAnyH_ready (rs := [8]) (by kernel_rfl) (by simp) ?_
              refine AllReadyH.cons rfl (fun K hK => ?_) AllReadyH.nil
              go_simp
              refine hK.out _ _ (by exact S4h.out) (fun hHeld => ?_)
              clear hK K
              try simp only [Act.put, List.setIfInBounds_toArray, List.set_cons_zero, List.set_cons_succ, List.getElem_toArray, List.getElem_cons_succ, List.getElem_cons_zero]
              refine wpAnyH_done (by kernel_rfl) ?_ _
              go_wp2_with fail
              go_roundw
              case rel => exact ⟨k + 1, _, by omega, by go_num, by rw [HTK.out]; exact HSET.out⟩
              case measure => simp [intOf]; omega
            · go_simp
              refine hK.out _ _ (by exact S2h.out) (fun hHeld => ?_)
              clear hK K
              try simp only [Act.put, List.setIfInBounds_toArray, List.set_cons_zero, List.set_cons_succ, List.getElem_toArray, List.getElem_cons_succ, List.getElem_cons_zero]
              refine wpAnyH_ready (rs := [1]) (by kernel_rfl) (by simp) ?_
              refine AllReadyH.cons rfl (fun K hK => ?_) AllReadyH.nil
              have ob6 := ((hide (XO.out.below HB5.out XO.out.lt)).out.alloc (.cells #[.int .i64 (filT W l[k]).kind, .int .i64 (filT W l[k]).idx, .slice a5 (filT W l[k]).subs.length c5] 24)).cell 2
              go_simp
              refine hK.out _ _ (by exact S2h.out) (fun hHeld => ?_)
              clear hK K
              try simp only [Act.put, List.setIfInBounds_toArray, List.set_cons_zero, List.set_cons_succ, List.getElem_toArray, List.getElem_cons_succ, List.getElem_cons_zero]
              refine wpAnyH_ready (rs := [6]) (by kernel_rfl) (by simp) ?_
              refine AllReadyH.cons rfl (fun K hK => ?_) AllReadyH.nil
              refine step_append_eqM rfl _ _ _ _ rfl rfl rfl HRUN.out ?_
              refine hK.out _ _ (by exact S3h.out) (fun hHeld => ?_)
              clear hK K
              try simp only [Act.put, List.setIfInBounds_toArray, List.set_cons_zero, List.set_cons_succ, List.getElem_toArray, List.getElem_cons_succ, List.getElem_cons_zero]
              refine wpAnyH_take (i := 7) (v := ?_) rfl (by kernel_rfl) (by kernel_rfl) (by kernel_rfl) (fun _ _ _ h => h) (Or.inl ⟨by rfl, ?_⟩) (by assumption) ?_
              rotate_left
              · intro w' hSw
                go_simp <;> with_reducible rfl
              try simp only [Act.put, List.setIfInBounds_toArray, List.set_cons_zero, List.set_cons_succ, List.getElem_toArray, List.getElem_cons_succ, List.getElem_cons_zero]
              refine wpAnyH_ready (rs := [8]) (by kernel_rfl) (by simp) ?_
              refine AllReadyH.cons rfl (fun K hK => ?_) AllReadyH.nil
              go_simp
              refine hK.out _ _ (by exact S4h.out) (fun hHeld => ?_)
              clear hK K
              try simp only [Act.put, List.setIfInBounds_toArray, List.set_cons_zero, List.set_cons_succ, List.getElem_toArray, List.getElem_cons_succ, List.getElem_cons_zero]
              refine wpAnyH_done (by kernel_rfl) ?_ _
              go_wp2_with fail
              go_roundw
              case rel => exact ⟨k + 1, _, by omega, by go_num, by rw [HTK.out]; exact HSET.out⟩
              case measure => simp [intOf]; omega
        · have hge : ¬ ((k : Int) < (l.length : Int)) := by omega
          have htk : l.take k = l := List.take_of_length_le (by omega)
          rw [htk] at XW
          obtain ⟨ae, ce, rfl, hse⟩ := XW.out.sl
          have HSE := hide hse
          clear hse
          have r0 : wr.cell? ⟨w.heap.size + 1, 0, none⟩ = some (.int .i64 0) := XR.out.cell 0
          have r1 : wr.cell? ⟨w.heap.size + 1, 1, none⟩ = some (.int .i64 0) := XR.out.cell 1
          have r2 : wr.cell? ⟨w.heap.size + 1, 2, none⟩ = some (.slice none 0 0) := XR.out.cell 2
          have rf := XR.out.frozen
          have hRl : w.heap.size + 1 < wr.heap.size := XR.out.lt
          have HEQ : Hid ((filM W l).length = l.length) := by unfold Hid; rw [filM_map]; simp
          go_wp2_with fail
          refine bodyPost_ret (v := .agg #[.int .i64 kd, .int .i64 ix, .slice ae (filM W l).length ce]) (by simp [results, Try.results20, go_sem, World.cell?_setCell_same, World.cell?_setCell_other, r0, r1, r2, hRl]) rfl ?_
          rw [HT.out]
          refine ⟨ae, ce, rfl, (HSE.out.kept fun b hb => ?_).mono fun b hb _ => ?_, ((XE.out.setCell (by simp) _).setCell (by simp) _).setCell (by simp) _⟩
          · have hbn : b ≠ w.heap.size + 1 := by
              rcases hb with h | h
              · have := h.2; omega
              · omega
            rw [Below.heap_setCell _ _ _ _ (by simpa using hbn), Below.heap_setCell _ _ _ _ (by simpa using hbn), Below.heap_setCell _ _ _ _ (by simpa using hbn)]
          · rcases hb with h | h
            · exact Or.inl h
            · right; omega
end Go.Proofs.Ytaifameeoipjjaa
