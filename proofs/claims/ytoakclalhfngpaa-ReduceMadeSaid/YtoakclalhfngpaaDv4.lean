/- Walks: the document's DevelopOf. -/
import Derived.Test.YtoakclalhfngpaaDv3
import Derived.Test.YtoakclalhfngpaaL13
import Derived.Test.YtoakclalhfngpaaL21
namespace Go.Proofs.Ytoakclalhfngpaa
open Go.RowKit Go.Shelf
set_option linter.unusedSimpArgs false
set_option linter.unusedVariables false
set_option maxRecDepth 8000

/-- One more of a row that a variable holds. -/
theorem rowM_append {wr w1 : World} {N : Nat} {Y : Nat → Prop} {u : Value} {L : List Lm} {xs : List Value} {a1 : Option Addr} {c1 : Nat} {t : Lm} (hrow : RowM wr N 27 Y u L xs) (hN : N ≤ wr.heap.size) (hY : ∀ b, Y b → b < N) (hn : L.length ≤ 1000000) (hb : Below wr.heap.size wr w1) (hs : SlM w1 (fun b => Y b ∨ wr.heap.size ≤ b) a1 t.subs) (P : Nat) (hP : w1.heap.size = P) :
    ∃ g cap w3 ys, (Builtin.append_ #[25, 25] 25 #[u, .slice (some ⟨P, 0, none⟩) 1 1]).run Try.prog (w1.alloc (.cells #[.int .i64 t.kind, .int .i64 t.idx, .slice a1 t.subs.length c1] 27)) = .ok (.slice (some ⟨g, 0, none⟩) (L.length + 1) cap) w3 ∧
      RowM w3 N 27 Y (.slice (some ⟨g, 0, none⟩) (L.length + 1) cap) (L ++ [t]) ys ∧ Below N wr w3 ∧ w1.heap.size ≤ w3.heap.size := by
  subst hP
  obtain ⟨i0, hi, hz0, hz1, hz2⟩ := info_parts Try.infoLam
  have hlt := hrow.own.lt
  have hbs := hb.size
  obtain ⟨g, cap, w3, hr, ho, hg, hat, hgl⟩ := run_append_lies (P := Try.prog) (w := w1.alloc (.cells #[.int .i64 t.kind, .int .i64 t.idx, .slice a1 t.subs.length c1] 27)) 25 25 N 27 i0 _ 3 40 Try.underlying25 hi hz0 hz1 hz2 rfl (by decide) u L.length xs ((hrow.below hb).own.alloc _)
    ⟨w1.heap.size, 0, none⟩ 1 1 [.int .i64 t.kind, .int .i64 t.idx, .slice a1 t.subs.length c1] rfl (cell_lam_new _ _ _ _ _) (fun y hy => by simp at hy; rcases hy with rfl | rfl | rfl <;> rfl) (by decide) (by unfold maxLen; omega) (by omega) (by simp; omega) _ rfl
  have hp := hrow.push (w1 := w1) (w3 := w3) (t := t) hN hY hb ⟨a1, c1, rfl, hs⟩ _ rfl ho hg hat
  have hs3 := hg.size
  simp at hs3
  exact ⟨g, cap, w3, _, hr, hp, ((hb.mono hN).alloc (by omega) _).grown hg (by simp; omega) (fun k hk => (hlt k hk).1), by omega⟩

def DdAt (n : Nat) (t : Lm) : Prop := ∀ (v : Value) (w : World) (X : Nat → Prop), MV w X v t → Calls Try.prog 15 #[v] w fun e w' => DvPost n t w e w'

set_option maxHeartbeats 8000000 in
theorem developOf_at (n : Nat) : ∀ (t : Lm) (u : Int), sizeM [t] ≤ n → 0 ≤ u → u + sizeM [t] ≤ 40000 → errM u 0 [t] = 0 → DdAt n t := by
  induction n with
  | zero => intro t u h; have := sizeM_posL t; omega
  | succ n ih =>
    intro t u hn hu hu2 he v w X hv
    obtain ⟨kd, ix, l⟩ := t
    obtain ⟨a, c, rfl, hs⟩ := hv
    dsimp only at hs ⊢
    have hsz : sizeM [⟨kd, ix, l⟩] = 1 + sizeM l := sizeM_one kd ix l
    have hlen := sizeM_len l
    have HE := hide he
    have HIH : Hid (∀ s ∈ l, DdAt n s) := fun s hsl => by
      obtain ⟨i, hi', rfl⟩ := List.mem_iff_getElem.1 hsl
      have := sizeM_get l i hi'
      have hd : u ≤ deepK u kd ∧ deepK u kd ≤ u + 1 := by unfold deepK; split <;> omega
      exact ih _ (deepK u kd) (by omega) (by omega) (by omega) (err_all0.1 (err_one0.1 he).2 _ hsl)
    have B2 : Hid (Below w.heap.size w ((w.alloc (.cells #[.int .i64 kd, .int .i64 ix, .slice a l.length c] 27)).alloc (.cells #[.int .i64 0, .int .i64 0, .slice none 0 0] 27))) := below2M _ _
    have T2 : Hid (Blk ((w.alloc (.cells #[.int .i64 kd, .int .i64 ix, .slice a l.length c] 27)).alloc (.cells #[.int .i64 0, .int .i64 0, .slice none 0 0] 27)) w.heap.size #[.int .i64 kd, .int .i64 ix, .slice a l.length c] 27) := (Blk.new w _ _).alloc _
    have R2 : Hid (Blk ((w.alloc (.cells #[.int .i64 kd, .int .i64 ix, .slice a l.length c] 27)).alloc (.cells #[.int .i64 0, .int .i64 0, .slice none 0 0] 27)) (w.heap.size + 1) #[.int .i64 0, .int .i64 0, .slice none 0 0] 27) := by
      have h := Blk.new (w.alloc (.cells #[.int .i64 kd, .int .i64 ix, .slice a l.length c] 27)) #[.int .i64 0, .int .i64 0, .slice none 0 0] 27
      unfold Hid
      simpa using h
    have hz2 : ((w.alloc (.cells #[.int .i64 kd, .int .i64 ix, .slice a l.length c] 27)).alloc (.cells #[.int .i64 0, .int .i64 0, .slice none 0 0] 27)).heap.size = w.heap.size + 2 := by simp
    have HS : Hid (SlM w (fun b => X b ∧ b < w.heap.size) a l) := hs.mono fun b h1 h2 => ⟨h1, h2⟩
    clear hs he ih
    go_enter Try.func15, Try.ntmps15
    go_wp2_with fail
    generalize ((w.alloc (.cells #[.int .i64 kd, .int .i64 ix, .slice a l.length c] 27)).alloc (.cells #[.int .i64 0, .int .i64 0, .slice none 0 0] 27)) = w2 at *
    go_loopw [4, 5] (fun u i wr => ∃ (k : Nat) (out : List Lm) (xs : List Value), k ≤ l.length ∧ i = .int .i64 (k : Int) ∧ devL (devT n) (l.take k) = some out ∧ out.length = k ∧ RowM wr (w.heap.size + 2) 27 (fun _ => False) u out xs ∧ Below (w.heap.size + 2) w2 wr) (fun u i wr => l.length - (intOf i).toNat)
    case atStart => exact ⟨0, [], [], Nat.zero_le _, rfl, by simp [devL], rfl, RowM.start _ _ _ _, Below.refl _ _⟩
    case round =>
      obtain ⟨k, out, xs, hk, rfl, hdv, hol', hrow, hbr⟩ := hrel
      have hol := hide hol'
      have HDV := hide hdv
      have XW := hide hrow
      have XB := hide hbr
      have XT := hide (T2.out.below hbr (by omega))
      have XR := hide (R2.out.below hbr (by omega))
      have XE := hide (B2.out.trans (hbr.mono (by omega)))
      have hzr : w.heap.size + 2 ≤ wr.heap.size := by have := hbr.size; omega
      have c2 : wr.cell? ⟨w.heap.size, 2, none⟩ = some (.slice a l.length c) := XT.out.cell 2
      clear hol' hdv hrow hbr
      by_cases hlt : k < l.length
      · obtain ⟨b, o, a', c', hae, d0, d0', d1, hx⟩ := HS.out.get XE.out (fun b h _ => h.2) k hlt
        subst hae
        have hlt2 : (k : Int) < (l.length : Int) := by omega
        have HX := hide hx
        have hIH := hide (HIH.out l[k] (List.getElem_mem hlt))
        clear hx
        go_wp2_with fail
        refine (hIH.out _ _ _ HX.out).mono ?_
        rintro e w5 ⟨hb5, hcase⟩
        have HB5 := hide hb5
        have hz5 : wr.heap.size ≤ w5.heap.size := HB5.out.size
        clear hb5 d0 d0' d1 c2
        rcases hcase with ⟨t5, a5, c5, hd5, rfl, hs5⟩ | ⟨hd5, k5, x5, a5, l5, c5, rfl⟩
        · have HDN := hide (devL_step hlt HDV.out hd5)
          have HB7 := hide (HB5.out.alloc hz5 (.cells #[.int .i64 t5.kind, .int .i64 t5.idx, .slice a5 t5.subs.length c5] 27))
          have HS7 : Hid (SlM (w5.alloc (.cells #[.int .i64 t5.kind, .int .i64 t5.idx, .slice a5 t5.subs.length c5] 27)) (fun b => False ∨ wr.heap.size ≤ b) a5 t5.subs) := (hs5.mono fun b h _ => Or.inr h).later ((Below.refl _ _).alloc (Nat.le_refl _) _)
          have hz7 : (w5.alloc (.cells #[.int .i64 t5.kind, .int .i64 t5.idx, .slice a5 t5.subs.length c5] 27)).heap.size = w5.heap.size + 1 := by simp
          obtain ⟨g, cap, w9, ys, hrun, hrow9, hb9, _⟩ := rowM_append (c1 := c5) (t := t5) XW.out (by omega) (fun _ h => h.elim) (by have := hol.out; omega) HB7.out HS7.out (w5.heap.size + 1) hz7
          have XX7 : Hid (Blk (w5.alloc (.cells #[.int .i64 t5.kind, .int .i64 t5.idx, .slice a5 t5.subs.length c5] 27)) w5.heap.size #[.int .i64 t5.kind, .int .i64 t5.idx, .slice a5 t5.subs.length c5] 27) := Blk.new _ _ _
          have y0 := XX7.out.cell 0
          have y1 := XX7.out.cell 1
          have y2 := XX7.out.cell 2
          simp only [List.getElem?_toArray, List.getElem?_cons_succ, List.getElem?_cons_zero] at y0 y1 y2
          have HRUN := hide hrun
          have HROW := hide hrow9
          have HB9 := hide (XB.out.trans hb9)
          clear hrun hrow9 hb9 hd5 hs5 hz7
          go_wp2_with (at_builtin; refine wpList_append_eq rfl _ _ _ _ rfl rfl rfl HRUN.out ?_)
          go_roundw
          case rel => exact ⟨k + 1, out ++ [t5], ys, by omega, by go_num, HDN.out, by have := hol.out; simp; omega, HROW.out, HB9.out⟩
          case measure => simp [intOf]; omega
        · have HN : Hid (devT (n + 1) ⟨kd, ix, l⟩ = none) := devT_none (devL_stop hlt HDV.out hd5)
          have R5 := hide (XR.out.below HB5.out XR.out.lt)
          have BW5 := hide (XE.out.trans (HB5.out.mono XE.out.size))
          have R6 := hide (R5.out.alloc (.cells #[.int .i64 k5, .int .i64 x5, .slice a5 l5 c5] 27))
          have r0 := R6.out.cell 0
          have r1 := R6.out.cell 1
          have r2 := R6.out.cell 2
          have rf := R6.out.frozen
          simp only [List.getElem?_toArray, List.getElem?_cons_succ, List.getElem?_cons_zero] at r0 r1 r2
          have r0' : w5.cell? ⟨w.heap.size + 1, 0, none⟩ = some (.int .i64 0) := R5.out.cell 0
          have r1' : w5.cell? ⟨w.heap.size + 1, 1, none⟩ = some (.int .i64 0) := R5.out.cell 1
          have r2' : w5.cell? ⟨w.heap.size + 1, 2, none⟩ = some (.slice none 0 0) := R5.out.cell 2
          have rf' := R5.out.frozen
          have hl5 : w.heap.size + 1 < w5.heap.size := R5.out.lt
          clear hd5
          go_wp2_with fail
          refine bodyPost_ret (v := .tuple #[.agg #[.int .i64 0, .int .i64 0, .slice none 0 0], .bool false]) (by simp [results, Try.results15, go_sem, World.cell?_setCell_same, World.cell?_setCell_other, r0, r1, r2, r0', r1', r2', hl5, World.cell?_alloc_old]) rfl ?_
          have HBF : ∀ o x0 x1 x2, Below w.heap.size w ((((w5.setCell ⟨w.heap.size + 1, 0, none⟩ x0).setCell ⟨w.heap.size + 1, 1, none⟩ x1).setCell ⟨w.heap.size + 1, 2, none⟩ x2).alloc o) ∧ Below w.heap.size w ((((w5.alloc o).setCell ⟨w.heap.size + 1, 0, none⟩ x0).setCell ⟨w.heap.size + 1, 1, none⟩ x1).setCell ⟨w.heap.size + 1, 2, none⟩ x2) := fun o x0 x1 x2 => ⟨(bl_set3 BW5.out _ (by omega) x0 x1 x2).alloc (by have := (bl_set3 BW5.out (w.heap.size + 1) (by omega) x0 x1 x2).size; omega) o, bl_set3 (BW5.out.alloc (by omega) o) _ (by omega) x0 x1 x2⟩
          exact ⟨by first | exact (HBF _ _ _ _).1 | exact (HBF _ _ _ _).2, Or.inr ⟨HN.out, _, _, _, _, _, rfl⟩⟩
      · have htk : l.take k = l := List.take_of_length_le (by omega)
        rw [htk] at HDV
        obtain ⟨ae, ce, rfl, hse⟩ := XW.out.sl
        have HSE : Hid (SlM wr (fun b => w.heap.size + 2 ≤ b ∧ b < wr.heap.size) ae out) := hse.mono fun b hb h => by
          rcases hb with h' | h'
          · exact h'.elim
          · exact ⟨h', h⟩
        have hge : ¬ ((k : Int) < (l.length : Int)) := by omega
        have c0 : wr.cell? ⟨w.heap.size, 0, none⟩ = some (.int .i64 kd) := XT.out.cell 0
        have c1 : wr.cell? ⟨w.heap.size, 1, none⟩ = some (.int .i64 ix) := XT.out.cell 1
        have BO : Hid (Below wr.heap.size wr (wr.alloc (.cells #[.int .i64 kd, .int .i64 ix, .slice ae out.length ce] 27))) := (Below.refl _ _).alloc (Nat.le_refl _) _
        have KO : Hid (Blk (wr.alloc (.cells #[.int .i64 kd, .int .i64 ix, .slice ae out.length ce] 27)) wr.heap.size #[.int .i64 kd, .int .i64 ix, .slice ae out.length ce] 27) := Blk.new _ _ _
        have KT := hide (XT.out.alloc (.cells #[.int .i64 kd, .int .i64 ix, .slice ae out.length ce] 27))
        have KR := hide (XR.out.alloc (.cells #[.int .i64 kd, .int .i64 ix, .slice ae out.length ce] 27))
        have XE2 := hide (XE.out.trans (BO.out.mono (by omega)))
        have KS := hide (HSE.out.later BO.out)
        have HVT : Hid (MV (wr.alloc (.cells #[.int .i64 kd, .int .i64 ix, .slice ae out.length ce] 27)) (fun b => X b ∧ b < w.heap.size) (.agg #[.int .i64 kd, .int .i64 ix, .slice a l.length c]) ⟨kd, ix, l⟩) := ⟨a, c, rfl, HS.out.later XE2.out⟩
        have k0 := KT.out.cell 0
        have k1 := KT.out.cell 1
        have k2 := KT.out.cell 2
        simp only [List.getElem?_toArray, List.getElem?_cons_succ, List.getElem?_cons_zero] at k0 k1 k2
        have hzO : (wr.alloc (.cells #[.int .i64 kd, .int .i64 ix, .slice ae out.length ce] 27)).heap.size = wr.heap.size + 1 := by simp
        have HK3 : Hid (kd = 3 → l ≠ []) := fun h3 e => by
          have hkn := (knE_zero.1 (err_one0.1 HE.out).1).2.1
          rw [h3, e] at hkn
          simp [subsK] at hkn
        clear hse htk
        go_wp2_with fail
        refine (isRedex_any ⟨kd, ix, l⟩ _ _ _ HVT.out HK3.out).mono ?_
        clear k0 k1 k2 c0 c1 c2
        generalize (wr.alloc (.cells #[.int .i64 kd, .int .i64 ix, .slice ae out.length ce] 27)) = wO at *
        rintro e w6 ⟨rfl, hb6⟩
        have hz6 := hb6.size
        have O6 := hide (KO.out.below hb6 (by omega))
        have R6 := hide (KR.out.below hb6 (by omega))
        have E6 := hide (XE2.out.trans (hb6.mono (by omega)))
        have S6 := hide (KS.out.later hb6)
        clear hb6
        obtain ⟨O, eO⟩ : ∃ O, O = wr.heap.size := ⟨_, rfl⟩
        rw [← eO] at O6 S6
        have hOz : O < w6.heap.size := by omega
        have hOw : w.heap.size + 2 ≤ O := by omega
        simp only [← eO]
        have HEO := hide eO
        clear KO KR XE2 KS KT BO HVT hzO eO
        cases hrd : rdxT ⟨kd, ix, l⟩ with
        | false =>
          have HRES : Hid (devT (n + 1) ⟨kd, ix, l⟩ = if 2000 < sizeM [(⟨kd, ix, out⟩ : Lm)] then none else some ⟨kd, ix, out⟩) := by
            unfold Hid
            rw [devT_succ HDV.out]
            have e : devK kd ix l out = ⟨kd, ix, out⟩ := by unfold devK; rw [hrd]; simp
            rw [e]
          have S6 : Hid (SlM w6 (fun b => w.heap.size ≤ b ∧ b ≠ w.heap.size + 1) ae out) := S6.out.mono fun b h _ => by omega
          clear hrd
          have HMV : Hid (MV w6 (fun b => w.heap.size ≤ b ∧ b ≠ w.heap.size + 1) (.agg #[.int .i64 kd, .int .i64 ix, .slice ae out.length ce]) (⟨kd, ix, out⟩ : Lm)) := ⟨ae, ce, rfl, S6.out⟩
          have KPC : Hid (∀ w', Below w6.heap.size w6 w' → w'.cell? ⟨O, 0, none⟩ = some (.int .i64 kd) ∧ w'.cell? ⟨O, 1, none⟩ = some (.int .i64 ix) ∧ w'.cell? ⟨O, 2, none⟩ = some (.slice ae out.length ce)) := fun w' hb => ⟨(O6.out.below hb O6.out.lt).cell 0, (O6.out.below hb O6.out.lt).cell 1, (O6.out.below hb O6.out.lt).cell 2⟩
          have HD9 : Hid (Below w6.heap.size w6 w6.drew) := (Below.refl _ _).drew
          have HO0 := hide (KPC.out w6.drew HD9.out)
          have HR9' : Hid (∀ w', Below w6.heap.size w6 w' → Blk w' (w.heap.size + 1) #[.int .i64 0, .int .i64 0, .slice none 0 0] 27) := fun w' hb => R6.out.below hb R6.out.lt
          have CNT : Hid (∀ w', Below w6.heap.size w6 w' → Calls Try.prog 9 #[.agg #[.int .i64 kd, .int .i64 ix, .slice ae out.length ce], .int .i64 2000] w' fun e w'' => e = .returned (.int .i64 (min (sizeM [(⟨kd, ix, out⟩ : Lm)] : Int) 2001)) ∧ Below w6.heap.size w6 w'') := fun w' hb => by
            refine (lamSize_any (⟨kd, ix, out⟩ : Lm) _ 2000 w' _ (HMV.out.later hb) (by omega) (by omega)).mono ?_
            rintro e w'' ⟨rfl, h⟩
            exact ⟨rfl, hb.trans (h.mono hb.size)⟩
          have nO : O ≠ w.heap.size + 1 := by omega
          have hEz := E6.out.size
          clear HMV
          go_upto_region 15 with fail
          go_region_held3 (fun w' => w'.cell? ⟨O, 0, none⟩ = some (.int .i64 kd) ∧ w'.cell? ⟨O, 1, none⟩ = some (.int .i64 ix) ∧ w'.cell? ⟨O, 2, none⟩ = some (.slice ae out.length ce)) (first | exact hS | exact HO0.out | exact ⟨set3_keep hS.1 nO, set3_keep hS.2.1 nO, set3_keep hS.2.2 nO⟩ | go_keep)
            (first | (go_at_call 9; refine (CNT.out _ (by first | exact HD9.out | exact Below.refl _ _)).mono ?_; rintro e w5 ⟨rfl, hb5⟩; have hS := KPC.out _ hb5; have RB := HR9'.out _ hb5; have r0 : w5.cell? ⟨w.heap.size + 1, 0, none⟩ = some (.int .i64 0) := RB.cell 0; have r1 : w5.cell? ⟨w.heap.size + 1, 1, none⟩ = some (.int .i64 0) := RB.cell 1; have r2 : w5.cell? ⟨w.heap.size + 1, 2, none⟩ = some (.slice none 0 0) := RB.cell 2; have rf := RB.frozen))
          all_goals
            have HB6 := hide (E6.out.trans (hb5.mono hEz))
            have HS6 := hide (S6.out.later hb5)
            clear hS
          all_goals go_wp2_with fail
          all_goals refine bodyPost_ret (v := .tuple #[.agg #[.int .i64 kd, .int .i64 ix, .slice ae out.length ce], .bool (decide (min (sizeM [(⟨kd, ix, out⟩ : Lm)] : Int) 2001 ≤ 2000))]) (by simp [results, Try.results15, go_sem, World.cell?_setCell_same, World.cell?_setCell_other, r0, r1, r2]) rfl ?_
          all_goals exact dv_end (t' := (⟨kd, ix, out⟩ : Lm)) (by omega) HB6.out HS6.out HRES.out _ _ _
        | true =>
          obtain ⟨x', fi, b, z, e, h1, h2⟩ := subs_two HE.out hrd
          cases e
          have hl2 := devL_len HDV.out
          obtain ⟨f', z', rfl⟩ : ∃ f' z', out = [f', z'] := by
            match out, hl2 with
            | [f', z'], _ => exact ⟨f', z', rfl⟩
          obtain ⟨hdf, hdz⟩ : devT n ⟨2, fi, [b]⟩ = some f' ∧ devT n z = some z' := by
            have hh := HDV.out
            rw [devL_cons] at hh
            cases hf : devT n ⟨2, fi, [b]⟩ with
            | none => rw [hf] at hh; cases hh
            | some f1 =>
              rw [hf] at hh
              cases hq : devT n z with
              | none => simp [devL, hq] at hh
              | some z1 => simp [devL, hq] at hh; exact ⟨by rw [hh.1], by rw [hh.2]⟩
          obtain ⟨b', rfl⟩ := devT_lam hdf
          have hef : errM u 0 [⟨2, fi, [b]⟩] = 0 := by
            have h4 := (err_one0.1 HE.out).2
            have e3 : deepK u 3 = u := by simp [deepK]
            rw [e3] at h4
            exact (err_two0.1 h4).1
          have HGF := hide (gd_body (dv_small hu (by omega) hef hdf))
          have HGZ := hide (dv_small hu (by omega) h2 hdz)
          have HRES : Hid (devT (n + 1) ⟨3, ix, [⟨2, fi, [b]⟩, z]⟩ = if 2000 < sizeM [insT z' 0 b'] then none else some (insT z' 0 b')) := by
            unfold Hid
            rw [devT_succ HDV.out]
            have e : devK 3 ix [⟨2, fi, [b]⟩, z] [⟨2, fi, [b']⟩, z'] = insT z' 0 b' := by unfold devK; rw [if_pos hrd]; rfl
            rw [e]
          obtain ⟨B, o, a1, c1, a2, c2, rfl, hXB, d0, d1, d2, d3, d4, d5, hs1, hs2⟩ := slM_cells S6.out
          obtain ⟨B1, o1, a3, c3, rfl, hXB1, g0, g1, g2, hs3⟩ := slM_one hs1
          dsimp only [List.length_cons, List.length_nil] at *
          have hB6 : B < w6.heap.size := by omega
          have hB16 : B1 < w6.heap.size := by omega
          have HLF : Hid (LfM [b'] ∧ LfM [z']) := ⟨lf_of_err _ _ _ HGF.out.2.2.1, lf_of_err _ _ _ HGZ.out.2.2.1⟩
          have hg1 := HGF.out.2.2.2
          have hg2 := HGZ.out.2.2.2
          have BQ : Hid (Below w6.heap.size w6 (w6.alloc (.cells #[.int .i64 b'.kind, .int .i64 b'.idx, .slice a3 b'.subs.length c3] 27))) := (Below.refl _ _).alloc (Nat.le_refl _) _
          have KQ : Hid (Blk (w6.alloc (.cells #[.int .i64 b'.kind, .int .i64 b'.idx, .slice a3 b'.subs.length c3] 27)) w6.heap.size #[.int .i64 b'.kind, .int .i64 b'.idx, .slice a3 b'.subs.length c3] 27) := Blk.new _ _ _
          have HZ6 : Hid (w6.cell? ⟨B, o + 3, none⟩ = some (.int .i64 z'.kind) ∧ w6.cell? ⟨B, o + 4, none⟩ = some (.int .i64 z'.idx) ∧ w6.cell? ⟨B, o + 5, none⟩ = some (.slice a2 z'.subs.length c2)) := ⟨d3, d4, d5⟩
          have H3 := hide hs3
          have H2 := hide hs2
          clear hrd h1 h2 hef hdf hdz hs1 hs2 hs3 hl2 S6
          go_upto_region 12 with fail
          have hzQ : (w6.alloc (.cells #[.int .i64 b'.kind, .int .i64 b'.idx, .slice a3 b'.subs.length c3] 27)).heap.size = w6.heap.size + 1 := by simp
          clear d0 d1 d2 d3 d4 d5 g0 g1 g2
          generalize (w6.alloc (.cells #[.int .i64 b'.kind, .int .i64 b'.idx, .slice a3 b'.subs.length c3] 27)) = wQ at *
          obtain ⟨Q, eQ⟩ : ∃ Q, Q = w6.heap.size := ⟨_, rfl⟩
          rw [← eQ] at KQ
          simp only [← eQ]
          have hQ : Q < wQ.heap.size := by omega
          have hQ0 : O < Q := by omega
          have hQ6 : w6.heap.size < wQ.heap.size := by omega
          clear eQ hzQ
          have HSC : Hid (∀ w', Below wQ.heap.size wQ w' → w'.cell? ⟨Q, 0, none⟩ = some (.int .i64 b'.kind) ∧ w'.cell? ⟨Q, 1, none⟩ = some (.int .i64 b'.idx) ∧ w'.cell? ⟨Q, 2, none⟩ = some (.slice a3 b'.subs.length c3) ∧ w'.cell? ⟨B, o + 3, none⟩ = some (.int .i64 z'.kind) ∧ w'.cell? ⟨B, o + 4, none⟩ = some (.int .i64 z'.idx) ∧ w'.cell? ⟨B, o + 5, none⟩ = some (.slice a2 z'.subs.length c2)) := fun w' hb => by
            have hbz : Below w6.heap.size w6 w' := BQ.out.trans (hb.mono (by omega))
            exact ⟨(KQ.out.below hb hQ).cell 0, (KQ.out.below hb hQ).cell 1, (KQ.out.below hb hQ).cell 2, (hbz.cell (p := ⟨B, o + 3, none⟩) hB6).trans HZ6.out.1, (hbz.cell (p := ⟨B, o + 4, none⟩) hB6).trans HZ6.out.2.1, (hbz.cell (p := ⟨B, o + 5, none⟩) hB6).trans HZ6.out.2.2⟩
          have VB : Hid (∀ w', Below wQ.heap.size wQ w' → MV w' (fun b => w.heap.size + 2 ≤ b ∧ b < O) (.agg #[.int .i64 b'.kind, .int .i64 b'.idx, .slice a3 b'.subs.length c3]) b') := fun w' hb => ⟨a3, c3, rfl, (H3.out.later (BQ.out.trans (hb.mono (by omega)))).mono fun b h _ => by omega⟩
          have VZ : Hid (∀ w', Below wQ.heap.size wQ w' → MV w' (fun b => w.heap.size + 2 ≤ b ∧ b < O) (.agg #[.int .i64 z'.kind, .int .i64 z'.idx, .slice a2 z'.subs.length c2]) z') := fun w' hb => ⟨a2, c2, rfl, (H2.out.later (BQ.out.trans (hb.mono (by omega)))).mono fun b h _ => by omega⟩
          obtain ⟨nb, hnb⟩ : ∃ nb : Int, nb = (sizeM [b'] : Int) := ⟨_, rfl⟩
          obtain ⟨nz, hnz⟩ : ∃ nz : Int, nz = (sizeM [z'] : Int) := ⟨_, rfl⟩
          obtain ⟨nu, hnu⟩ : ∃ nu : Int, nu = (usesM 0 [b'] : Int) := ⟨_, rfl⟩
          have hul := usesM_le [b'] 0
          have CS1 : Hid (∀ w', Below wQ.heap.size wQ w' → Calls Try.prog 9 #[.agg #[.int .i64 b'.kind, .int .i64 b'.idx, .slice a3 b'.subs.length c3], .int .i64 2000] w' fun e w'' => e = .returned (.int .i64 nb) ∧ Below wQ.heap.size wQ w'') := fun w' hb => by
            refine (lamSize_any b' _ 2000 w' _ (VB.out w' hb) (by omega) (by omega)).mono ?_
            rintro e w'' ⟨rfl, h⟩
            exact ⟨by rw [hnb]; congr 2; omega, hb.trans (h.mono hb.size)⟩
          have CS2 : Hid (∀ w', Below wQ.heap.size wQ w' → Calls Try.prog 9 #[.agg #[.int .i64 z'.kind, .int .i64 z'.idx, .slice a2 z'.subs.length c2], .int .i64 2000] w' fun e w'' => e = .returned (.int .i64 nz) ∧ Below wQ.heap.size wQ w'') := fun w' hb => by
            refine (lamSize_any z' _ 2000 w' _ (VZ.out w' hb) (by omega) (by omega)).mono ?_
            rintro e w'' ⟨rfl, h⟩
            exact ⟨by rw [hnz]; congr 2; omega, hb.trans (h.mono hb.size)⟩
          have CU : Hid (∀ w', Below wQ.heap.size wQ w' → Calls Try.prog 29 #[.agg #[.int .i64 b'.kind, .int .i64 b'.idx, .slice a3 b'.subs.length c3], .int .i64 0] w' fun e w'' => e = .returned (.int .i64 nu) ∧ Below wQ.heap.size wQ w'') := fun w' hb => by
            refine (uses_any b' _ 0 w' _ (VB.out w' hb) (by omega) (by omega)).mono ?_
            rintro e w'' ⟨rfl, h⟩
            exact ⟨by rw [hnu], hb.trans (h.mono hb.size)⟩
          have HSZ : Hid ((sizeM [insT z' 0 b'] : Int) = nb + nu * (nz - 1)) := by unfold Hid; rw [hnb, hnu, hnz]; exact insT_sizeI HLF.out.2 HLF.out.1
          have hpz := sizeM_posL z'
          have hnb0 : 0 ≤ nb ∧ nb ≤ 2000 := by omega
          have hnz0 : 1 ≤ nz ∧ nz ≤ 2000 := by omega
          have hnu0 : 0 ≤ nu ∧ nu ≤ 2000 := by omega
          have hm0 : 0 ≤ nu * (nz - 1) := Int.mul_nonneg hnu0.1 (by omega)
          have hm1 : nu * (nz - 1) ≤ 2000 * 2000 := Int.mul_le_mul hnu0.2 (by omega) (by omega) (by omega)
          have hm2 : nu * (nz - 1) ≤ 4000000 := by omega
          have hw1 : IntKind.i64.wrap (nz - 1) = nz - 1 := by rw [IntKind.wrap_i64]; omega
          have hw2 : IntKind.i64.wrap (nu * (nz - 1)) = nu * (nz - 1) := by rw [IntKind.wrap_i64]; omega
          have hw3 : IntKind.i64.wrap (nb + nu * (nz - 1)) = nb + nu * (nz - 1) := by rw [IntKind.wrap_i64]; omega
          clear hnb hnz hnu hul hpz hm1
          have HD : Hid (Below wQ.heap.size wQ wQ.drew) := (Below.refl _ _).drew
          have HS0 := hide (HSC.out wQ.drew HD.out)
          go_cut [58] (fun o58 wc => o58 = .bool (decide (nb + nu * (nz - 1) > 2000)) ∧ Below wQ.heap.size wQ wc)
          case first =>
            have k0 := HD.out
            refine wp_region_held_drew (S := (fun w' => w'.cell? ⟨Q, 0, none⟩ = some (.int .i64 b'.kind) ∧ w'.cell? ⟨Q, 1, none⟩ = some (.int .i64 b'.idx) ∧ w'.cell? ⟨Q, 2, none⟩ = some (.slice a3 b'.subs.length c3) ∧ w'.cell? ⟨B, o + 3, none⟩ = some (.int .i64 z'.kind) ∧ w'.cell? ⟨B, o + 4, none⟩ = some (.int .i64 z'.idx) ∧ w'.cell? ⟨B, o + 5, none⟩ = some (.slice a2 z'.subs.length c2))) (by kernel_rfl) HS0.out (fun hHeld => ?_)
            refine wpAnyH_take (i := 0) (v := ?_) rfl (by kernel_rfl) (by kernel_rfl) (by kernel_rfl) (fun _ _ _ h => h) (Or.inl ⟨by rfl, ?_⟩) (by assumption) ?_
            rotate_left
            · intro w' hSw
              have e0 := hSw.1
              have e1 := hSw.2.1
              have e2 := hSw.2.2.1
              have e3 := hSw.2.2.2.1
              have e4 := hSw.2.2.2.2.1
              have e5 := hSw.2.2.2.2.2
              go_simp <;> with_reducible rfl
            try simp only [Act.put, List.setIfInBounds_toArray, List.set_cons_zero, List.set_cons_succ, List.getElem_toArray, List.getElem_cons_succ, List.getElem_cons_zero]
            refine wpAnyH_take (i := 2) (v := ?_) rfl (by kernel_rfl) (by kernel_rfl) (by kernel_rfl) (fun _ _ _ h => h) (Or.inl ⟨by rfl, ?_⟩) (by assumption) ?_
            rotate_left
            · intro w' hSw
              have e0 := hSw.1
              have e1 := hSw.2.1
              have e2 := hSw.2.2.1
              have e3 := hSw.2.2.2.1
              have e4 := hSw.2.2.2.2.1
              have e5 := hSw.2.2.2.2.2
              go_simp <;> with_reducible rfl
            try simp only [Act.put, List.setIfInBounds_toArray, List.set_cons_zero, List.set_cons_succ, List.getElem_toArray, List.getElem_cons_succ, List.getElem_cons_zero]
            refine wpAnyH_take (i := 4) (v := ?_) rfl (by kernel_rfl) (by kernel_rfl) (by kernel_rfl) (fun _ _ _ h => h) (Or.inl ⟨by rfl, ?_⟩) (by assumption) ?_
            rotate_left
            · intro w' hSw
              have e0 := hSw.1
              have e1 := hSw.2.1
              have e2 := hSw.2.2.1
              have e3 := hSw.2.2.2.1
              have e4 := hSw.2.2.2.2.1
              have e5 := hSw.2.2.2.2.2
              go_simp <;> with_reducible rfl
            try simp only [Act.put, List.setIfInBounds_toArray, List.set_cons_zero, List.set_cons_succ, List.getElem_toArray, List.getElem_cons_succ, List.getElem_cons_zero]
            refine wpAnyH_take (i := 5) (v := ?_) rfl (by kernel_rfl) (by kernel_rfl) (by kernel_rfl) (fun _ _ _ h => h) (Or.inl ⟨by rfl, ?_⟩) (by assumption) ?_
            rotate_left
            · intro w' hSw
              have e0 := hSw.1
              have e1 := hSw.2.1
              have e2 := hSw.2.2.1
              have e3 := hSw.2.2.2.1
              have e4 := hSw.2.2.2.2.1
              have e5 := hSw.2.2.2.2.2
              go_simp <;> with_reducible rfl
            try simp only [Act.put, List.setIfInBounds_toArray, List.set_cons_zero, List.set_cons_succ, List.getElem_toArray, List.getElem_cons_succ, List.getElem_cons_zero]
            refine wpAnyH_take (i := 6) (v := ?_) rfl (by kernel_rfl) (by kernel_rfl) (by kernel_rfl) (fun _ _ _ h => h) (Or.inl ⟨by rfl, ?_⟩) (by assumption) ?_
            rotate_left
            · intro w' hSw
              have e0 := hSw.1
              have e1 := hSw.2.1
              have e2 := hSw.2.2.1
              have e3 := hSw.2.2.2.1
              have e4 := hSw.2.2.2.2.1
              have e5 := hSw.2.2.2.2.2
              go_simp <;> with_reducible rfl
            try simp only [Act.put, List.setIfInBounds_toArray, List.set_cons_zero, List.set_cons_succ, List.getElem_toArray, List.getElem_cons_succ, List.getElem_cons_zero]
            refine wpAnyH_ready (rs := [1]) (by kernel_rfl) (by simp) ?_
            refine AllReadyH.cons rfl (fun K hK => ?_) AllReadyH.nil
            go_simp
            go_at_call 9
            refine (CS1.out _ k0).mono ?_
            rintro e w50' ⟨rfl, k1⟩
            have z1 := HSC.out _ k1
            go_simp
            refine hK.out _ _ (by exact z1) (fun hHeld => ?_)
            clear hK K
            try simp only [Act.put, List.setIfInBounds_toArray, List.set_cons_zero, List.set_cons_succ, List.getElem_toArray, List.getElem_cons_succ, List.getElem_cons_zero]
            refine wpAnyH_ready (rs := [3]) (by kernel_rfl) (by simp) ?_
            refine AllReadyH.cons rfl (fun K hK => ?_) AllReadyH.nil
            go_simp
            go_at_call 29
            refine (CU.out _ k1).mono ?_
            rintro e w51' ⟨rfl, k2⟩
            have z2 := HSC.out _ k2
            go_simp
            refine hK.out _ _ (by exact z2) (fun hHeld => ?_)
            clear hK K
            try simp only [Act.put, List.setIfInBounds_toArray, List.set_cons_zero, List.set_cons_succ, List.getElem_toArray, List.getElem_cons_succ, List.getElem_cons_zero]
            refine wpAnyH_ready (rs := [7]) (by kernel_rfl) (by simp) ?_
            refine AllReadyH.cons rfl (fun K hK => ?_) AllReadyH.nil
            go_simp
            go_at_call 9
            refine (CS2.out _ k2).mono ?_
            rintro e w52' ⟨rfl, k3⟩
            have z3 := HSC.out _ k3
            go_simp
            refine hK.out _ _ (by exact z3) (fun hHeld => ?_)
            clear hK K
            try simp only [Act.put, List.setIfInBounds_toArray, List.set_cons_zero, List.set_cons_succ, List.getElem_toArray, List.getElem_cons_succ, List.getElem_cons_zero]
            refine wpAnyH_take (i := 8) (v := ?_) rfl (by kernel_rfl) (by kernel_rfl) (by kernel_rfl) (fun _ _ _ h => h) (Or.inl ⟨by rfl, ?_⟩) (by assumption) ?_
            rotate_left
            · intro w' hSw
              go_simp <;> with_reducible rfl
            try simp only [Act.put, List.setIfInBounds_toArray, List.set_cons_zero, List.set_cons_succ, List.getElem_toArray, List.getElem_cons_succ, List.getElem_cons_zero]
            refine wpAnyH_take (i := 9) (v := ?_) rfl (by kernel_rfl) (by kernel_rfl) (by kernel_rfl) (fun _ _ _ h => h) (Or.inl ⟨by rfl, ?_⟩) (by assumption) ?_
            rotate_left
            · intro w' hSw
              go_simp <;> with_reducible rfl
            try simp only [Act.put, List.setIfInBounds_toArray, List.set_cons_zero, List.set_cons_succ, List.getElem_toArray, List.getElem_cons_succ, List.getElem_cons_zero]
            refine wpAnyH_take (i := 10) (v := ?_) rfl (by kernel_rfl) (by kernel_rfl) (by kernel_rfl) (fun _ _ _ h => h) (Or.inl ⟨by rfl, ?_⟩) (by assumption) ?_
            rotate_left
            · intro w' hSw
              go_simp <;> with_reducible rfl
            try simp only [Act.put, List.setIfInBounds_toArray, List.set_cons_zero, List.set_cons_succ, List.getElem_toArray, List.getElem_cons_succ, List.getElem_cons_zero]
            refine wpAnyH_take (i := 11) (v := ?_) rfl (by kernel_rfl) (by kernel_rfl) (by kernel_rfl) (fun _ _ _ h => h) (Or.inl ⟨by rfl, ?_⟩) (by assumption) ?_
            rotate_left
            · intro w' hSw
              go_simp <;> with_reducible rfl
            try simp only [Act.put, List.setIfInBounds_toArray, List.set_cons_zero, List.set_cons_succ, List.getElem_toArray, List.getElem_cons_succ, List.getElem_cons_zero]
            refine wpAnyH_done (by kernel_rfl) ?_ _
            go_wp2_with fail
            go_meet
            exact ⟨by first | rfl | (rw [hw1, hw2, hw3]) | (simp only [hw1, hw2, hw3]), k3⟩
          case rest =>
            obtain ⟨rfl, hbc⟩ := hcut
            obtain ⟨wd, hwd⟩ : ∃ wd, wd = wc := ⟨_, rfl⟩
            subst hwd
            have HBC := hide hbc
            have hzc := hbc.size
            have bz : Hid (Below w6.heap.size w6 wd) := BQ.out.trans (hbc.mono (by omega))
            have O7 := hide (O6.out.below bz.out hOz)
            have R7 := hide (R6.out.below bz.out (by omega))
            have E7 := hide (E6.out.trans (bz.out.mono (by omega)))
            clear hbc
            by_cases hbig : nb + nu * (nz - 1) > 2000
            · have hdec : decide (nb + nu * (nz - 1) > 2000) = true := decide_eq_true hbig
              have HN : Hid (devT (n + 1) ⟨3, ix, [⟨2, fi, [b]⟩, z]⟩ = none) := by
                unfold Hid
                rw [HRES.out, if_pos (by have := HSZ.out; omega)]
              rw [hdec]
              have r0 : wd.cell? ⟨w.heap.size + 1, 0, none⟩ = some (.int .i64 0) := R7.out.cell 0
              have r1 : wd.cell? ⟨w.heap.size + 1, 1, none⟩ = some (.int .i64 0) := R7.out.cell 1
              have r2 : wd.cell? ⟨w.heap.size + 1, 2, none⟩ = some (.slice none 0 0) := R7.out.cell 2
              have rf := R7.out.frozen
              clear hdec hbig
              go_wp2_with fail
              refine bodyPost_ret (v := .tuple #[.agg #[.int .i64 0, .int .i64 0, .slice none 0 0], .bool false]) (by simp [results, Try.results15, go_sem, World.cell?_setCell_same, World.cell?_setCell_other, r0, r1, r2]) rfl ?_
              exact ⟨bl_set3 E7.out _ (by omega) _ _ _, Or.inr ⟨HN.out, _, _, _, _, _, rfl⟩⟩
            · have hdec : decide (nb + nu * (nz - 1) > 2000) = false := decide_eq_false hbig
              rw [hdec]
              clear hdec
              have HS7 := hide (HSC.out wd HBC.out)
              have HSC7 : Hid (∀ w', Below wd.heap.size wd w' → w'.cell? ⟨Q, 0, none⟩ = some (.int .i64 b'.kind) ∧ w'.cell? ⟨Q, 1, none⟩ = some (.int .i64 b'.idx) ∧ w'.cell? ⟨Q, 2, none⟩ = some (.slice a3 b'.subs.length c3) ∧ w'.cell? ⟨B, o + 3, none⟩ = some (.int .i64 z'.kind) ∧ w'.cell? ⟨B, o + 4, none⟩ = some (.int .i64 z'.idx) ∧ w'.cell? ⟨B, o + 5, none⟩ = some (.slice a2 z'.subs.length c2)) := fun w' hb => HSC.out w' (HBC.out.trans (hb.mono hzc))
              have BETA : Hid (∀ w', Below wd.heap.size wd w' → Calls Try.prog 32 #[.agg #[.int .i64 b'.kind, .int .i64 b'.idx, .slice a3 b'.subs.length c3], .agg #[.int .i64 z'.kind, .int .i64 z'.idx, .slice a2 z'.subs.length c2]] w' fun e w'' => ∃ a c, e = .returned (.agg #[.int .i64 (insT z' 0 b').kind, .int .i64 (insT z' 0 b').idx, .slice a (insT z' 0 b').subs.length c]) ∧ SlM w'' (fun b => w.heap.size ≤ b ∧ b ≠ w.heap.size + 1 ∧ b ≠ O) a (insT z' 0 b').subs ∧ Below wd.heap.size wd w'') := fun w' hb => by
                obtain ⟨p1, p2, p3, p4⟩ := HGF.out
                obtain ⟨k1, k2, k3, k4⟩ := HGZ.out
                have hbq := HBC.out.trans (hb.mono hzc)
                refine (beta_any b' z' _ _ w' _ (VB.out w' hbq) (VZ.out w' hbq) (by omega) (bnd_of_err _ _ _ p1 (by omega) (by omega) p3) (by omega) (bnd_of_err _ _ _ k1 (by omega) (by omega) k3)).mono ?_
                rintro e w'' ⟨p, q, rfl, h1, h2⟩
                have hzz := hb.size
                exact ⟨p, q, rfl, h1.mono fun b h _ => by omega, hb.trans (h2.mono hzz)⟩
              have HD7 : Hid (Below wd.heap.size wd wd.drew) := (Below.refl _ _).drew
              have HR4 : Hid (∀ w', Below wd.heap.size wd w' → Blk w' O #[.int .i64 3, .int .i64 ix, .slice (some ⟨B, o, none⟩) 2 ce] 27) := fun w' hb => O7.out.below hb (by omega)
              have nQ : Q ≠ O := by omega
              have nB : B ≠ O := by omega
              go_upto_region 14 with fail
              go_cut [] (fun wx => ∃ y ay cy, y = insT z' 0 b' ∧ Blk wx O #[.int .i64 y.kind, .int .i64 y.idx, .slice ay y.subs.length cy] 27 ∧ SlM wx (fun b => w.heap.size ≤ b ∧ b ≠ w.heap.size + 1) ay y.subs ∧ Below w.heap.size w wx ∧ Blk wx (w.heap.size + 1) #[.int .i64 0, .int .i64 0, .slice none 0 0] 27)
              case first =>
                go_region_held3 (fun w' => w'.cell? ⟨Q, 0, none⟩ = some (.int .i64 b'.kind) ∧ w'.cell? ⟨Q, 1, none⟩ = some (.int .i64 b'.idx) ∧ w'.cell? ⟨Q, 2, none⟩ = some (.slice a3 b'.subs.length c3) ∧ w'.cell? ⟨B, o + 3, none⟩ = some (.int .i64 z'.kind) ∧ w'.cell? ⟨B, o + 4, none⟩ = some (.int .i64 z'.idx) ∧ w'.cell? ⟨B, o + 5, none⟩ = some (.slice a2 z'.subs.length c2)) (first | exact hS | exact HS7.out | exact ⟨set3_keep hS.1 nQ, set3_keep hS.2.1 nQ, set3_keep hS.2.2.1 nQ, set3_keep hS.2.2.2.1 nB, set3_keep hS.2.2.2.2.1 nB, set3_keep hS.2.2.2.2.2 nB⟩ | go_keep)
                  (first | (go_at_call 32; refine (BETA.out _ (by first | exact HD7.out | exact Below.refl _ _)).mono ?_; rintro e w5 ⟨a9, c9, rfl, hs9, hB5⟩; have hS := HSC7.out _ hB5; have RB := HR4.out _ hB5; have r0 : w5.cell? ⟨O, 0, none⟩ = some (.int .i64 3) := RB.cell 0; have r1 : w5.cell? ⟨O, 1, none⟩ = some (.int .i64 ix) := RB.cell 1; have r2 : w5.cell? ⟨O, 2, none⟩ = some (.slice (some ⟨B, o, none⟩) 2 ce) := RB.cell 2; have rf := RB.frozen))
                all_goals
                  have H9 := hide hs9
                  have HB9 := hide hB5
                  have HR9 := hide RB
                  clear hs9 hB5 RB hS
                all_goals go_wp2_with fail
                all_goals go_meet
                all_goals
                  have hz9 := HB9.out.size
                  refine ⟨_, a9, c9, rfl, blk_set3 HR9.out _ _ _, (H9.out.kept fun q hq => ?_).mono fun b h _ => ⟨h.1, h.2.1⟩, bl_set3 (E7.out.trans (HB9.out.mono (by omega))) _ (by omega) _ _ _, blk_set3o (R7.out.below HB9.out (by omega)) (by omega) _ _ _⟩
                  rw [Below.heap_setCell _ _ _ _ (by simpa using hq.2.2), Below.heap_setCell _ _ _ _ (by simpa using hq.2.2), Below.heap_setCell _ _ _ _ (by simpa using hq.2.2)]
              case rest =>
                obtain ⟨y, ay, cy, hy, hO9, hS9, hE9, hR9⟩ := hcut
                rw [← hy] at HRES
                have O9 := hide hO9
                have R9 := hide hR9
                have E9 := hide hE9
                have S9 := hide hS9
                have hOx : w.heap.size + 1 < wc.heap.size := hR9.lt
                clear hO9 hS9 hE9 hR9 hy
                have HMV : Hid (MV wc (fun b => w.heap.size ≤ b ∧ b ≠ w.heap.size + 1) (.agg #[.int .i64 y.kind, .int .i64 y.idx, .slice ay y.subs.length cy]) y) := ⟨ay, cy, rfl, S9.out⟩
                have KPC : Hid (∀ w', Below wc.heap.size wc w' → w'.cell? ⟨O, 0, none⟩ = some (.int .i64 y.kind) ∧ w'.cell? ⟨O, 1, none⟩ = some (.int .i64 y.idx) ∧ w'.cell? ⟨O, 2, none⟩ = some (.slice ay y.subs.length cy)) := fun w' hb => ⟨(O9.out.below hb O9.out.lt).cell 0, (O9.out.below hb O9.out.lt).cell 1, (O9.out.below hb O9.out.lt).cell 2⟩
                have HD9 : Hid (Below wc.heap.size wc wc.drew) := (Below.refl _ _).drew
                have HO0 := hide (KPC.out wc.drew HD9.out)
                have HR9' : Hid (∀ w', Below wc.heap.size wc w' → Blk w' (w.heap.size + 1) #[.int .i64 0, .int .i64 0, .slice none 0 0] 27) := fun w' hb => R9.out.below hb R9.out.lt
                have CNT : Hid (∀ w', Below wc.heap.size wc w' → Calls Try.prog 9 #[.agg #[.int .i64 y.kind, .int .i64 y.idx, .slice ay y.subs.length cy], .int .i64 2000] w' fun e w'' => e = .returned (.int .i64 (min (sizeM [y] : Int) 2001)) ∧ Below wc.heap.size wc w'') := fun w' hb => by
                  refine (lamSize_any y _ 2000 w' _ (HMV.out.later hb) (by omega) (by omega)).mono ?_
                  rintro e w'' ⟨rfl, h⟩
                  exact ⟨rfl, hb.trans (h.mono hb.size)⟩
                have nO : O ≠ w.heap.size + 1 := by omega
                have hEz := E9.out.size
                clear HMV
                go_upto_region 15 with fail
                go_region_held3 (fun w' => w'.cell? ⟨O, 0, none⟩ = some (.int .i64 y.kind) ∧ w'.cell? ⟨O, 1, none⟩ = some (.int .i64 y.idx) ∧ w'.cell? ⟨O, 2, none⟩ = some (.slice ay y.subs.length cy)) (first | exact hS | exact HO0.out | exact ⟨set3_keep hS.1 nO, set3_keep hS.2.1 nO, set3_keep hS.2.2 nO⟩ | go_keep)
                  (first | (go_at_call 9; refine (CNT.out _ (by first | exact HD9.out | exact Below.refl _ _)).mono ?_; rintro e w5 ⟨rfl, hb5⟩; have hS := KPC.out _ hb5; have RB := HR9'.out _ hb5; have r0 : w5.cell? ⟨w.heap.size + 1, 0, none⟩ = some (.int .i64 0) := RB.cell 0; have r1 : w5.cell? ⟨w.heap.size + 1, 1, none⟩ = some (.int .i64 0) := RB.cell 1; have r2 : w5.cell? ⟨w.heap.size + 1, 2, none⟩ = some (.slice none 0 0) := RB.cell 2; have rf := RB.frozen))
                all_goals
                  have HB6 := hide (E9.out.trans (hb5.mono hEz))
                  have HS6 := hide (S9.out.later hb5)
                  clear hS
                all_goals go_wp2_with fail
                all_goals refine bodyPost_ret (v := .tuple #[.agg #[.int .i64 y.kind, .int .i64 y.idx, .slice ay y.subs.length cy], .bool (decide (min (sizeM [y] : Int) 2001 ≤ 2000))]) (by simp [results, Try.results15, go_sem, World.cell?_setCell_same, World.cell?_setCell_other, r0, r1, r2]) rfl ?_
                all_goals exact dv_end (t' := y) (by omega) HB6.out HS6.out HRES.out _ _ _
#print axioms developOf_at
end Go.Proofs.Ytoakclalhfngpaa
