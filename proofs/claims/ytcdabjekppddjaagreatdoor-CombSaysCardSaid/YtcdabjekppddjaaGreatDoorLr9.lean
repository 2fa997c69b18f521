/- Walks: reading a lambda term. -/
import Derived.Test.YtcdabjekppddjaaGreatDoorLr8
namespace Go.Proofs.YtcdabjekppddjaaGreatDoor
open Go.RowKit
set_option linter.unusedSimpArgs false
set_option linter.unusedVariables false
set_option maxRecDepth 8000

theorem lrd_term (s : ByteArray) (f : Nat) (nm : List ByteArray) (i k : Nat) : lrd s (f + 1) .term nm i k = if i < s.size ∧ byteAt s i = 92 then bndL s f nm (i + 1) k else if (lrd s f .piece nm i k).err ≠ 0 then noLr (lrd s f .piece nm i k).err else lrd s f (.behind (lrd s f .piece nm i k).t) nm (lrd s f .piece nm i k).pos (lrd s f .piece nm i k).k := by
  first | (rw [lrd]; done) | (rw [lrd]; rfl)
theorem lrd_behind (s : ByteArray) (f : Nat) (t : Lm) (nm : List ByteArray) (i k : Nat) : lrd s (f + 1) (.behind t) nm i k = if i < s.size ∧ byteAt s i = 32 then (if 200 < k + 1 then noLr 3 else if (lrd s f .piece nm (i + 1) (k + 1)).err ≠ 0 then noLr (lrd s f .piece nm (i + 1) (k + 1)).err else lrd s f (.behind ⟨3, 0, [t, (lrd s f .piece nm (i + 1) (k + 1)).t]⟩) nm (lrd s f .piece nm (i + 1) (k + 1)).pos (lrd s f .piece nm (i + 1) (k + 1)).k) else ⟨0, t, i, k⟩ := by
  first | (rw [lrd]; done) | (rw [lrd]; rfl)

theorem lrd_piece (s : ByteArray) (f : Nat) (nm : List ByteArray) (i k : Nat) : lrd s (f + 1) .piece nm i k = if i < s.size ∧ byteAt s i = 40 then
      (if (lrd s f .term nm (i + 1) k).err ≠ 0 then noLr (lrd s f .term nm (i + 1) k).err else if askE s (lrd s f .term nm (i + 1) k).pos 41 ≠ 0 then noLr (askE s (lrd s f .term nm (i + 1) k).pos 41) else ⟨0, (lrd s f .term nm (i + 1) k).t, (lrd s f .term nm (i + 1) k).pos + 1, (lrd s f .term nm (i + 1) k).k⟩)
    else if nameE s i ≠ 0 then noLr (nameE s i)
    else if 200 < k + 1 then noLr 3
    else namedL nm (s.extract i (stopAt s i)) (stopAt s i) (k + 1) := by
  first | (rw [lrd]; done) | (rw [lrd]; rfl)
/-- Knots are never fewer. -/
theorem lrd_kge (s : ByteArray) : ∀ f m nm i k, (lrd s f m nm i k).err = 0 → k ≤ (lrd s f m nm i k).k := by
  intro f
  induction f with
  | zero => intro m nm i k h; simp [lrd, noLr] at h
  | succ f ih =>
    intro m nm i k h
    cases m with
    | term =>
      rw [lrd_term] at h ⊢
      by_cases h1 : i < s.size ∧ byteAt s i = 92
      · rw [if_pos h1] at h ⊢
        unfold bndL at h ⊢
        by_cases h2 : 200 < k + 1
        · rw [if_pos h2] at h; simp [noLr] at h
        rw [if_neg h2] at h ⊢
        by_cases h3 : nameE s (i + 1) ≠ 0
        · rw [if_pos h3] at h; exact absurd h h3
        rw [if_neg h3] at h ⊢
        by_cases h4 : askE s (stopAt s (i + 1)) 46 ≠ 0
        · rw [if_pos h4] at h; exact absurd h h4
        rw [if_neg h4] at h ⊢
        by_cases h5 : (lrd s f .term (nm ++ [s.extract (i + 1) (stopAt s (i + 1))]) (stopAt s (i + 1) + 1) (k + 1)).err ≠ 0
        · rw [if_pos h5] at h; exact absurd h h5
        rw [if_neg h5]
        have := ih .term _ _ _ (by simpa using h5)
        simp only; omega
      · rw [if_neg h1] at h ⊢
        by_cases h5 : (lrd s f .piece nm i k).err ≠ 0
        · rw [if_pos h5] at h; exact absurd h h5
        rw [if_neg h5] at h ⊢
        have g1 := ih .piece nm i k (by simpa using h5)
        have g2 := ih (.behind (lrd s f .piece nm i k).t) nm _ _ h
        omega
    | behind t =>
      rw [lrd_behind] at h ⊢
      by_cases h1 : i < s.size ∧ byteAt s i = 32
      · rw [if_pos h1] at h ⊢
        by_cases h2 : 200 < k + 1
        · rw [if_pos h2] at h; simp [noLr] at h
        rw [if_neg h2] at h ⊢
        by_cases h5 : (lrd s f .piece nm (i + 1) (k + 1)).err ≠ 0
        · rw [if_pos h5] at h; exact absurd h h5
        rw [if_neg h5] at h ⊢
        have g1 := ih .piece nm (i + 1) (k + 1) (by simpa using h5)
        have g2 := ih (.behind ⟨3, 0, [t, (lrd s f .piece nm (i + 1) (k + 1)).t]⟩) nm _ _ h
        omega
      · rw [if_neg h1]
        exact Nat.le_refl _
    | piece =>
      rw [lrd_piece] at h ⊢
      by_cases h1 : i < s.size ∧ byteAt s i = 40
      · rw [if_pos h1] at h ⊢
        by_cases h5 : (lrd s f .term nm (i + 1) k).err ≠ 0
        · rw [if_pos h5] at h; exact absurd h h5
        rw [if_neg h5] at h ⊢
        by_cases h6 : askE s (lrd s f .term nm (i + 1) k).pos 41 ≠ 0
        · rw [if_pos h6] at h; exact absurd h h6
        rw [if_neg h6]
        exact ih .term nm (i + 1) k (by simpa using h5)
      · rw [if_neg h1] at h ⊢
        by_cases h3 : nameE s i ≠ 0
        · rw [if_pos h3] at h; exact absurd h h3
        rw [if_neg h3] at h ⊢
        by_cases h2 : 200 < k + 1
        · rw [if_pos h2] at h; simp [noLr] at h
        rw [if_neg h2] at h ⊢
        rw [(named_ok h).2]
        omega

/-- Two lambda terms in a row of their own. -/
theorem lies_twoL {W : World} {X : Nat → Prop} {S c c' : Nat} {a a' : Option Addr} {t t' : Lm} (hX : X S) (h0 : W.cell? ⟨S, 0, none⟩ = some (.int .i64 t.kind)) (h1 : W.cell? ⟨S, 1, none⟩ = some (.int .i64 t.idx)) (h2 : W.cell? ⟨S, 2, none⟩ = some (.slice a t.subs.length c)) (h3 : W.cell? ⟨S, 3, none⟩ = some (.int .i64 t'.kind)) (h4 : W.cell? ⟨S, 4, none⟩ = some (.int .i64 t'.idx)) (h5 : W.cell? ⟨S, 5, none⟩ = some (.slice a' t'.subs.length c')) (hs : SlM W X a t.subs) (hs' : SlM W X a' t'.subs) : SlM W X (some ⟨S, 0, none⟩) [t, t'] := by
  obtain ⟨k, x, l⟩ := t
  obtain ⟨k', x', l'⟩ := t'
  refine ⟨by simp, Or.inr ⟨S, 0, rfl, ?_⟩⟩
  simp only [LiesM]
  exact ⟨hX, h0, h1, ⟨a, c, h2, hs.1, hs.2⟩, hX, h3, h4, ⟨a', c', h5, hs'.1, hs'.2⟩, trivial⟩

theorem slm_bfr {w w' : World} {X : Nat → Prop} {a : Option Addr} {l : List Lm} {B : Nat} {nv nv' : Value} (hs : SlM w X a l) (hf : BFr w w' B nv nv') (hX : ∀ b, X b → b ≠ B ∧ some b ≠ nv.ownBlock) : SlM w' (fun b => X b ∧ b < w.heap.size) a l :=
  (hs.mono (Y := fun b => X b ∧ b < w.heap.size) fun b h1 h2 => ⟨h1, h2⟩).kept fun b hb => hf.2.2.2.2.1 b hb.2 (hX b hb.1).1 (hX b hb.1).2
/-- What is known at each round's head. -/
def TmInv (N B T F : Nat) (s : ByteArray) (nm : List ByteArray) (nv : Value) (w : World) (r : Lrd) (wr : World) : Prop :=
  ∃ (f' : Nat) (t : Lm) (p k' : Nat) (nv' : Value) (a : Option Addr) (c : Nat), f' ≤ F ∧ 3 * (s.size - p) + 1 ≤ f' ∧ p ≤ s.size ∧ k' ≤ 200 ∧ nm.length ≤ 100 + k' ∧ r = lrd s f' (.behind t) nm p k' ∧ Rst N B s nm p k' nv' wr ∧ BFr w wr B nv nv' ∧ Blk wr w.heap.size #[.int .i64 0, .int .i64 0, .slice none 0 0] 36 ∧ some w.heap.size ≠ nv'.ownBlock ∧
    Blk wr T #[.int .i64 t.kind, .int .i64 t.idx, .slice a t.subs.length c] 36 ∧ some T ≠ nv'.ownBlock ∧ SlM wr (fun b => w.heap.size < b ∧ b ≠ T ∧ some b ≠ nv'.ownBlock) a t.subs

set_option maxHeartbeats 4000000 in
theorem lterm_of (N B : Nat) (s : ByteArray) (hs : s.size ≤ 4000) (F : Nat) (hT : LTerm N B s F) (hP : ∀ F', F' ≤ F → LPiece N B s F') : LTerm N B s (F + 1) := by
  intro nm nv i k w hst hnk hi hk hF
  have HT := hide hT
  have HP := hide hP
  have hbox := hst.box
  have hBlt := hst.lt
  have HRD := hide (lrd_term s F nm i k)
  generalize lrd s (F + 1) .term nm i k = r at *
  have Z0 := hide (hst.alloc (.cells #[.int .i64 0, .int .i64 0, .slice none 0 0] 36))
  have R0 := hide (Blk.new w #[.int .i64 0, .int .i64 0, .slice none 0 0] 36)
  have F0 : Hid (BFr w (w.alloc (.cells #[.int .i64 0, .int .i64 0, .slice none 0 0] 36)) B nv nv) := BFr.of_below ((Below.refl _ _).alloc (Nat.le_refl _) _) B nv
  have hz0 : (w.alloc (.cells #[.int .i64 0, .int .i64 0, .slice none 0 0] 36)).heap.size = w.heap.size + 1 := by simp
  clear hT hP hst
  go_enter Tryz.func89, Tryz.ntmps89
  go_wp2_with fail
  generalize (w.alloc (.cells #[.int .i64 0, .int .i64 0, .slice none 0 0] 36)) = w0 at *
  refine (take_anyL (nv := nv) B i k s 92 hi hs _ (by exact Z0.out.bx)).mono ?_
  intro e w1 hp
  unfold TookPostL at hp
  by_cases h4 : i < s.size ∧ byteAt s i = 92
  · rw [if_pos h4] at hp
    obtain ⟨rfl, hx1, he1, hz1⟩ := hp
    have Z1 := hide (Z0.out.ex he1 hx1)
    have F1 := hide (F0.out.trans (he1.bfrL nv))
    have R1 := hide (blk_bfr R0.out (he1.bfrL nv) hbox.1 hbox.2)
    have HR : Hid (r = bndL s F nm (i + 1) k) := by unfold Hid; rw [HRD.out, if_pos h4]
    clear he1 hx1 HRD Z0 F0 R0
    go_wp2_with fail
    refine (lbinder_of N B s hs F HT.out nm nv (i + 1) k w1 Z1.out hnk (by omega) hk (by omega)).mono ?_
    intro e w2 hp
    generalize bndL s F nm (i + 1) k = r2 at *
    rcases hp with ⟨hr0, nv2, a2, c2, rfl, hs2, hst2, hf2⟩ | ⟨hr0, rfl, nv2, hf2⟩
    · have R2 := hide (blk_bfr R1.out hf2 hbox.1 hbox.2)
      have ho2 := own_bfr hf2 R1.out.lt hbox.2
      have F2 := hide (F1.out.trans hf2)
      have Z2 := hide hst2
      have S2 : Hid (SlM w2 (fun b => w.heap.size < b ∧ some b ≠ nv2.ownBlock) a2 r2.t.subs) := hs2.mono fun b hb _ => ⟨by omega, hb.2⟩
      have HF : Hid (r = ⟨0, r2.t, r2.pos, r2.k⟩) := by
        unfold Hid; rw [HR.out]; obtain ⟨e0, e1, e2, e3⟩ := r2; simp only at hr0; rw [hr0]
      have r0 := R2.out.cell 0
      have r1 := R2.out.cell 1
      have r2' := R2.out.cell 2
      have rf := R2.out.frozen
      simp only [List.getElem?_toArray, List.getElem?_cons_succ, List.getElem?_cons_zero] at r0 r1 r2'
      clear hf2 hs2 hst2 hr0
      go_wp2_with fail
      refine bodyPost_ret (v := .agg #[.int .i64 r2.t.kind, .int .i64 r2.t.idx, .slice a2 r2.t.subs.length c2]) (by simp [results, Tryz.results89, go_sem, World.cell?_setCell_same, World.cell?_setCell_other, r0, r1, r2']) rfl ?_
      exact lr_fin HF.out Z2.out F2.out hBlt ho2 S2.out _ _ _
    · exact ⟨rfl, Or.inr ⟨by rw [HR.out]; exact hr0, by rw [HR.out], nv2, F1.out.trans hf2⟩⟩
  · rw [if_neg h4] at hp
    obtain ⟨rfl, n1, rfl⟩ := hp
    have Z1 := hide (Z0.out.drewN n1)
    have F1 := hide (F0.out.trans (BFr.of_below (below_drewN (Below.refl _ _) n1) B nv))
    have R1 := hide (R0.out.drewN n1)
    have HR : Hid (r = if (lrd s F .piece nm i k).err ≠ 0 then noLr (lrd s F .piece nm i k).err else lrd s F (.behind (lrd s F .piece nm i k).t) nm (lrd s F .piece nm i k).pos (lrd s F .piece nm i k).k) := by unfold Hid; rw [HRD.out, if_neg h4]
    have hz1 : (w0.drewN n1).heap.size = w.heap.size + 1 := by
      have : (w0.drewN n1).heap = w0.heap := rfl
      rw [this]; exact hz0
    generalize w0.drewN n1 = w1 at *
    clear HRD Z0 F0 R0
    go_wp2_with fail
    refine (HP.out F (Nat.le_refl _) nm nv i k w1 Z1.out hnk hi hk (by omega)).mono ?_
    intro e w2 hp
    have HPO := hide (lrd_pos s F .piece nm i k)
    have HKM := hide (lrd_kge s F .piece nm i k)
    generalize lrd s F .piece nm i k = r2 at *
    rcases hp with ⟨hr0, nv2, a2, c2, rfl, hs2, hst2, hf2⟩ | ⟨hr0, rfl, nv2, hf2⟩
    case inr => exact ⟨rfl, lrP_no (by rw [HR.out, if_pos hr0]) hr0 (F1.out.trans hf2)⟩
    have hpos := HPO.out hr0 hi hk
    have hp2 := hpos.2.2.2 (fun t e => by cases e)
    have HR2 : Hid (r = lrd s F (.behind r2.t) nm r2.pos r2.k) := by unfold Hid; rw [HR.out, if_neg (by rw [hr0]; simp)]
    have R2 := hide (blk_bfr R1.out hf2 hbox.1 hbox.2)
    have ho2 := own_bfr hf2 R1.out.lt hbox.2
    have F2 := hide (F1.out.trans hf2)
    have hz2 : w1.heap.size ≤ w2.heap.size := hf2.2.2.2.1
    have hbx2 := hst2.box
    have Z3 := hide (hst2.alloc (.cells #[.int .i64 r2.t.kind, .int .i64 r2.t.idx, .slice a2 r2.t.subs.length c2] 36))
    have T3 := hide (Blk.new w2 #[.int .i64 r2.t.kind, .int .i64 r2.t.idx, .slice a2 r2.t.subs.length c2] 36)
    have R3 := hide (R2.out.alloc (.cells #[.int .i64 r2.t.kind, .int .i64 r2.t.idx, .slice a2 r2.t.subs.length c2] 36))
    have S3 : Hid (SlM (w2.alloc (.cells #[.int .i64 r2.t.kind, .int .i64 r2.t.idx, .slice a2 r2.t.subs.length c2] 36)) (fun b => w.heap.size < b ∧ b ≠ w2.heap.size ∧ some b ≠ nv2.ownBlock) a2 r2.t.subs) := (hs2.mono (Y := fun b => w.heap.size < b ∧ b ≠ w2.heap.size ∧ some b ≠ nv2.ownBlock) fun b hb hl => ⟨by omega, by omega, hb.2⟩).later ((Below.refl _ _).alloc (Nat.le_refl _) _)
    have F3 := hide (F2.out.trans (BFr.of_below ((Below.refl w2.heap.size w2).alloc (Nat.le_refl _) (.cells #[.int .i64 r2.t.kind, .int .i64 r2.t.idx, .slice a2 r2.t.subs.length c2] 36)) B nv2))
    have hkk : nm.length ≤ 100 + r2.k := by have := HKM.out hr0; omega
    clear hf2 hs2 hst2 R2 F2 hr0 HR HPO
    go_wp2_with fail
    generalize (w2.alloc (.cells #[.int .i64 r2.t.kind, .int .i64 r2.t.idx, .slice a2 r2.t.subs.length c2] 36)) = w3 at *
    have hTgt : w.heap.size < w2.heap.size := by omega
    generalize w2.heap.size = T at *
    go_loopw [] (fun wr => TmInv N B T F s nm nv w r wr) (fun wr => s.size - rdAtL wr B)
    case atStart => exact ⟨F, r2.t, r2.pos, r2.k, nv2, a2, c2, Nat.le_refl _, by omega, hpos.2.1, hpos.2.2.1, hkk, HR2.out, Z3.out, F3.out, R3.out, ho2, T3.out, hbx2.2, S3.out⟩
    case round =>
      obtain ⟨f', t, p, k', nv', a, c, hf1, hf2, hp1, hk1, hnk1, hr, hst, hfr, hR, hRo, hTb, hTo, hsl⟩ := hrel
      obtain ⟨f0, rfl⟩ : ∃ f0, f' = f0 + 1 := ⟨f' - 1, by omega⟩
      have HLB := hide (lrd_behind s f0 t nm p k')
      have HR4 : Hid (r = if p < s.size ∧ byteAt s p = 32 then (if 200 < k' + 1 then noLr 3 else if (lrd s f0 .piece nm (p + 1) (k' + 1)).err ≠ 0 then noLr (lrd s f0 .piece nm (p + 1) (k' + 1)).err else lrd s f0 (.behind ⟨3, 0, [t, (lrd s f0 .piece nm (p + 1) (k' + 1)).t]⟩) nm (lrd s f0 .piece nm (p + 1) (k' + 1)).pos (lrd s f0 .piece nm (p + 1) (k' + 1)).k) else ⟨0, t, p, k'⟩) := by unfold Hid; rw [hr, HLB.out]
      have Z4 := hide hst
      have F4 := hide hfr
      have R4 := hide hR
      have T4 := hide hTb
      have S4 := hide hsl
      have hBr := hst.lt
      have hTr := hTb.lt
      have hTB : T ≠ B := by
        intro e
        have h1 := hst.bx
        have h2 := hTb
        unfold Bl Blk at h1
        unfold Blk at h2
        rw [e, h1] at h2
        simp at h2
      have hAt := hst.bx.at
      clear hr hst hfr hR hTb hsl HLB Z3 F3 R3 T3 S3 HR2
      go_wp2_with fail
      refine (take_anyL (nv := nv') B p k' s 32 hp1 hs _ (by exact Z4.out.bx)).mono ?_
      intro e w5 hp
      unfold TookPostL at hp
      by_cases h5 : p < s.size ∧ byteAt s p = 32
      case neg =>
        rw [if_neg h5] at hp
        obtain ⟨rfl, n5, rfl⟩ := hp
        have HF : Hid (r = ⟨0, t, p, k'⟩) := by unfold Hid; rw [HR4.out, if_neg h5]
        have Z5 := hide (Z4.out.drewN n5)
        have F5 := hide (F4.out.trans (BFr.of_below (below_drewN (Below.refl _ _) n5) B nv'))
        have R5 := hide (R4.out.drewN n5)
        have T5 := hide (T4.out.drewN n5)
        have S5 : Hid (SlM (wr.drewN n5) (fun b => w.heap.size < b ∧ some b ≠ nv'.ownBlock) a t.subs) := (S4.out.later (below_drewN (Below.refl _ _) n5)).mono fun b hb _ => ⟨hb.1, hb.2.2⟩
        generalize wr.drewN n5 = w5 at *
        have q0 := T5.out.cell 0
        have q1 := T5.out.cell 1
        have q2 := T5.out.cell 2
        have r0 := R5.out.cell 0
        have r1 := R5.out.cell 1
        have r2' := R5.out.cell 2
        have rf := R5.out.frozen
        simp only [List.getElem?_toArray, List.getElem?_cons_succ, List.getElem?_cons_zero] at q0 q1 q2 r0 r1 r2'
        go_wp2_with fail
        refine bodyPost_ret (v := .agg #[.int .i64 t.kind, .int .i64 t.idx, .slice a t.subs.length c]) (by simp [results, Tryz.results89, go_sem, World.cell?_setCell_same, World.cell?_setCell_other, r0, r1, r2']) rfl ?_
        exact lr_fin HF.out Z5.out F5.out hBlt hRo S5.out _ _ _
      rw [if_pos h5] at hp
      obtain ⟨rfl, hx5, he5, hz5⟩ := hp
      have HR5 := hide (show r = _ from (HR4.out).trans (if_pos h5))
      have Z5 := hide (Z4.out.ex he5 hx5)
      have F5 := hide (F4.out.trans (he5.bfrL nv'))
      have R5 := hide (blk_bfr R4.out (he5.bfrL nv') hbox.1 hRo)
      have T5 := hide (blk_bfr T4.out (he5.bfrL nv') hTB hTo)
      have S5 : Hid (SlM w5 (fun b => w.heap.size < b ∧ b ≠ T ∧ some b ≠ nv'.ownBlock) a t.subs) := (slm_bfr S4.out (he5.bfrL nv') (fun b hb => ⟨by omega, hb.2.2⟩)).mono fun b hb _ => hb.1
      clear hx5 he5 HR4 Z4 F4 R4 T4 S4
      go_wp2_with fail
      refine (rdKnot_anyL (nv := nv') B (p + 1) k' s (by omega) _ (by exact Z5.out.bx)).mono ?_
      intro e w6 hp
      unfold RdKnotPostL at hp
      by_cases h3 : 200 < k' + 1
      · rw [if_pos h3] at hp
        obtain ⟨he, he3⟩ := hp
        unfold thrownL at he
        subst he
        exact ⟨rfl, lrP_no (by rw [HR5.out, if_pos h3]) (by simp) (F5.out.trans (he3.bfrL nv'))⟩
      rw [if_neg h3] at hp
      obtain ⟨⟨v6, rfl⟩, hx6, he6, hz6⟩ := hp
      have HR6 := hide (show r = _ from (HR5.out).trans (if_neg h3))
      have Z6 := hide (Z5.out.ex he6 hx6)
      have F6 := hide (F5.out.trans (he6.bfrL nv'))
      have R6 := hide (blk_bfr R5.out (he6.bfrL nv') hbox.1 hRo)
      have T6 := hide (blk_bfr T5.out (he6.bfrL nv') hTB hTo)
      have S6 : Hid (SlM w6 (fun b => w.heap.size < b ∧ b ≠ T ∧ some b ≠ nv'.ownBlock) a t.subs) := (slm_bfr S5.out (he6.bfrL nv') (fun b hb => ⟨by omega, hb.2.2⟩)).mono fun b hb _ => hb.1
      clear hx6 he6 HR5 Z5 F5 R5 T5 S5
      go_wp2_with fail
      have Zd := hide (Z6.out.later (Below.drew (Below.refl w6.heap.size w6)))
      have Fd := hide (F6.out.trans (BFr.of_below (Below.drew (Below.refl w6.heap.size w6)) B nv'))
      have Rd : Hid (Blk w6.drew w.heap.size #[.int .i64 0, .int .i64 0, .slice none 0 0] 36) := R6.out
      have Td : Hid (Blk w6.drew T #[.int .i64 t.kind, .int .i64 t.idx, .slice a t.subs.length c] 36) := T6.out
      have Sd := hide (S6.out.later (Below.drew (Below.refl w6.heap.size w6)))
      refine wp_region_held_drew (S := fun w' => N ≤ w'.heap.size) (by kernel_rfl) (by exact Zd.out.le) (fun hHeld => ?_)
      generalize w6.drew = wd at *
      clear Z6 F6 R6 T6 S6
      have HPO7 := hide (lrd_pos s f0 .piece nm (p + 1) (k' + 1))
      have HKM7 := hide (lrd_kge s f0 .piece nm (p + 1) (k' + 1))
      refine wpAnyH_take (i := 1) (v := ?_) rfl (by kernel_rfl) (by kernel_rfl) (by kernel_rfl) (fun _ _ _ h => h) (Or.inl ⟨by rfl, ?_⟩) (by assumption) ?_
      rotate_left
      · intro w' hSw
        go_simp <;> with_reducible rfl
      try simp only [Act.put, List.setIfInBounds_toArray, List.set_cons_zero, List.set_cons_succ, List.getElem_toArray, List.getElem_cons_succ, List.getElem_cons_zero]
      refine wpAnyH_ready (rs := [0, 2]) (by kernel_rfl) (by simp) ?_
      refine AllReadyH.cons rfl (fun K hK => ?_) (AllReadyH.cons rfl (fun K hK => ?_) AllReadyH.nil)
      · have m0 := Td.out.cell 0
        have m1 := Td.out.cell 1
        have m2 := Td.out.cell 2
        simp only [List.getElem?_toArray, List.getElem?_cons_succ, List.getElem?_cons_zero] at m0 m1 m2
        go_simp
        refine hK.out _ _ (by exact Zd.out.le) (fun hHeld => ?_)
        clear hK K
        try simp only [Act.put, List.setIfInBounds_toArray, List.set_cons_zero, List.set_cons_succ, List.getElem_toArray, List.getElem_cons_succ, List.getElem_cons_zero]
        clear m0 m1 m2
        refine wpAnyH_ready (rs := [2]) (by kernel_rfl) (by simp) ?_
        refine AllReadyH.cons rfl (fun K hK => ?_) AllReadyH.nil
        go_simp
        go_at_call 102
        refine (HP.out f0 (by omega) nm nv' (p + 1) (k' + 1) wd Zd.out (by omega) (by omega) (by omega) (by omega)).mono ?_
        intro e w7 hp
        generalize lrd s f0 .piece nm (p + 1) (k' + 1) = r7 at *
        rcases hp with ⟨hr0, nv7, a7, c7, rfl, hs7, hst7, hf7⟩ | ⟨hr0, rfl, nv7, hf7⟩
        case inr => exact ⟨rfl, lrP_no (by rw [HR6.out, if_pos hr0]) hr0 (Fd.out.trans hf7)⟩
        have hpos7 := HPO7.out hr0 (by omega) (by omega)
        have hp7 := hpos7.2.2.2 (fun t e => by cases e)
        have hkm7 := HKM7.out hr0
        have HR7 : Hid (r = lrd s f0 (.behind ⟨3, 0, [t, r7.t]⟩) nm r7.pos r7.k) := by unfold Hid; rw [HR6.out, if_neg (by rw [hr0]; simp)]
        have Z7 := hide hst7
        have F7 := hide (Fd.out.trans hf7)
        have R7 := hide (blk_bfr Rd.out hf7 hbox.1 hRo)
        have hRo7 := own_bfr hf7 Rd.out.lt hRo
        have T7 := hide (blk_bfr Td.out hf7 hTB hTo)
        have hTo7 := own_bfr hf7 Td.out.lt hTo
        have S7 : Hid (SlM w7 (fun b => w.heap.size < b ∧ b ≠ T ∧ some b ≠ nv7.ownBlock) a t.subs) := (slm_bfr Sd.out hf7 (fun b hb => ⟨by omega, hb.2.2⟩)).mono fun b hb _ => ⟨hb.1.1, hb.1.2.1, own_bfr hf7 hb.2 hb.1.2.2⟩
        have hTd := Td.out.lt
        have hRd := Rd.out.lt
        have U7 : Hid (SlM w7 (fun b => w.heap.size < b ∧ b ≠ T ∧ some b ≠ nv7.ownBlock) a7 r7.t.subs) := hs7.mono fun b hb _ => ⟨by omega, by omega, hb.2⟩
        have hz7 : wd.heap.size ≤ w7.heap.size := hf7.2.2.2.1
        clear hs7 hst7 hf7 hr0 HPO7 HKM7
        go_simp
        refine hK.out _ _ (by exact Z7.out.le) (fun hHeld => ?_)
        clear hK K
        try simp only [Act.put, List.setIfInBounds_toArray, List.set_cons_zero, List.set_cons_succ, List.getElem_toArray, List.getElem_cons_succ, List.getElem_cons_zero]
        have Z8 := hide (Z7.out.alloc (.cells #[.int .i64 t.kind, .int .i64 t.idx, .slice a t.subs.length c, .int .i64 r7.t.kind, .int .i64 r7.t.idx, .slice a7 r7.t.subs.length c7] 36))
        have F8 := hide (F7.out.trans (BFr.of_below ((Below.refl w7.heap.size w7).alloc (Nat.le_refl _) (.cells #[.int .i64 t.kind, .int .i64 t.idx, .slice a t.subs.length c, .int .i64 r7.t.kind, .int .i64 r7.t.idx, .slice a7 r7.t.subs.length c7] 36)) B nv7))
        have R8 := hide (R7.out.alloc (.cells #[.int .i64 t.kind, .int .i64 t.idx, .slice a t.subs.length c, .int .i64 r7.t.kind, .int .i64 r7.t.idx, .slice a7 r7.t.subs.length c7] 36))
        have T8 := hide (T7.out.alloc (.cells #[.int .i64 t.kind, .int .i64 t.idx, .slice a t.subs.length c, .int .i64 r7.t.kind, .int .i64 r7.t.idx, .slice a7 r7.t.subs.length c7] 36))
        have S8 := hide (S7.out.later ((Below.refl w7.heap.size w7).alloc (Nat.le_refl _) (.cells #[.int .i64 t.kind, .int .i64 t.idx, .slice a t.subs.length c, .int .i64 r7.t.kind, .int .i64 r7.t.idx, .slice a7 r7.t.subs.length c7] 36)))
        have U8 := hide (U7.out.later ((Below.refl w7.heap.size w7).alloc (Nat.le_refl _) (.cells #[.int .i64 t.kind, .int .i64 t.idx, .slice a t.subs.length c, .int .i64 r7.t.kind, .int .i64 r7.t.idx, .slice a7 r7.t.subs.length c7] 36)))
        have P8 := hide (Blk.new w7 #[.int .i64 t.kind, .int .i64 t.idx, .slice a t.subs.length c, .int .i64 r7.t.kind, .int .i64 r7.t.idx, .slice a7 r7.t.subs.length c7] 36)
        have hbx7 := Z7.out.box
        refine wpAnyH_ready (rs := [3]) (by kernel_rfl) (by simp) ?_
        refine AllReadyH.cons rfl (fun K hK => ?_) AllReadyH.nil
        go_simp
        refine hK.out _ _ (by exact Z8.out.le) (fun hHeld => ?_)
        clear hK K
        try simp only [Act.put, List.setIfInBounds_toArray, List.set_cons_zero, List.set_cons_succ, List.getElem_toArray, List.getElem_cons_succ, List.getElem_cons_zero]
        generalize (w7.alloc (.cells #[.int .i64 t.kind, .int .i64 t.idx, .slice a t.subs.length c, .int .i64 r7.t.kind, .int .i64 r7.t.idx, .slice a7 r7.t.subs.length c7] 36)) = w8 at *
        have hTw7 : T < w7.heap.size := by omega
        have hRw7 : w.heap.size < w7.heap.size := by omega
        have hXS : Hid (w.heap.size < w7.heap.size ∧ w7.heap.size ≠ T ∧ some w7.heap.size ≠ nv7.ownBlock) := ⟨by omega, by omega, hbx7.2⟩
        refine wpAnyH_take (i := 4) (v := ?_) rfl (by kernel_rfl) (by kernel_rfl) (by kernel_rfl) (fun _ _ _ h => h) (Or.inl ⟨by rfl, ?_⟩) (by assumption) ?_
        rotate_left
        · intro w' hSw
          go_simp <;> with_reducible rfl
        try simp only [Act.put, List.setIfInBounds_toArray, List.set_cons_zero, List.set_cons_succ, List.getElem_toArray, List.getElem_cons_succ, List.getElem_cons_zero]
        have m0 := T8.out.cell 0
        have m1 := T8.out.cell 1
        have m2 := T8.out.cell 2
        have mf := T8.out.frozen
        simp only [List.getElem?_toArray, List.getElem?_cons_succ, List.getElem?_cons_zero] at m0 m1 m2
        have kx : ∀ q : Nat, q ≠ T → (((w8.setCell ⟨T, 0, none⟩ (.int .i64 3)).setCell ⟨T, 1, none⟩ (.int .i64 0)).setCell ⟨T, 2, none⟩ (.slice (some ⟨w7.heap.size, 0, none⟩) 2 2)).heap[q]? = w8.heap[q]? := fun q hq => by
          rw [Below.heap_setCell _ _ _ _ (by simpa using hq), Below.heap_setCell _ _ _ _ (by simpa using hq), Below.heap_setCell _ _ _ _ (by simpa using hq)]
        have hf9 : Hid (BFr w8 (((w8.setCell ⟨T, 0, none⟩ (.int .i64 3)).setCell ⟨T, 1, none⟩ (.int .i64 0)).setCell ⟨T, 2, none⟩ (.slice (some ⟨w7.heap.size, 0, none⟩) 2 2)) B nv7 nv7 ∨ True) := Or.inr trivial
        have hz9 : (((w8.setCell ⟨T, 0, none⟩ (.int .i64 3)).setCell ⟨T, 1, none⟩ (.int .i64 0)).setCell ⟨T, 2, none⟩ (.slice (some ⟨w7.heap.size, 0, none⟩) 2 2)).heap.size = w8.heap.size := by simp [World.setCell]
        have hos9 : (((w8.setCell ⟨T, 0, none⟩ (.int .i64 3)).setCell ⟨T, 1, none⟩ (.int .i64 0)).setCell ⟨T, 2, none⟩ (.slice (some ⟨w7.heap.size, 0, none⟩) 2 2)).os = w8.os ∧ (((w8.setCell ⟨T, 0, none⟩ (.int .i64 3)).setCell ⟨T, 1, none⟩ (.int .i64 0)).setCell ⟨T, 2, none⟩ (.slice (some ⟨w7.heap.size, 0, none⟩) 2 2)).tape = w8.tape ∧ (((w8.setCell ⟨T, 0, none⟩ (.int .i64 3)).setCell ⟨T, 1, none⟩ (.int .i64 0)).setCell ⟨T, 2, none⟩ (.slice (some ⟨w7.heap.size, 0, none⟩) 2 2)).output = w8.output := ⟨rfl, rfl, rfl⟩
        have T9 : Hid (Blk (((w8.setCell ⟨T, 0, none⟩ (.int .i64 3)).setCell ⟨T, 1, none⟩ (.int .i64 0)).setCell ⟨T, 2, none⟩ (.slice (some ⟨w7.heap.size, 0, none⟩) 2 2)) T #[.int .i64 3, .int .i64 0, .slice (some ⟨w7.heap.size, 0, none⟩) 2 2] 36) := lt_set3 T8.out _ _ _
        have hN9 : N ≤ (((w8.setCell ⟨T, 0, none⟩ (.int .i64 3)).setCell ⟨T, 1, none⟩ (.int .i64 0)).setCell ⟨T, 2, none⟩ (.slice (some ⟨w7.heap.size, 0, none⟩) 2 2)).heap.size := by rw [hz9]; exact Z8.out.le
        refine wpAnyH_ready (rs := [5]) (by kernel_rfl) (by simp) ?_
        refine AllReadyH.cons rfl (fun K hK => ?_) AllReadyH.nil
        go_simp
        refine hK.out _ _ (by exact hN9) (fun hHeld => ?_)
        clear hK K
        try simp only [Act.put, List.setIfInBounds_toArray, List.set_cons_zero, List.set_cons_succ, List.getElem_toArray, List.getElem_cons_succ, List.getElem_cons_zero]
        generalize (((w8.setCell ⟨T, 0, none⟩ (.int .i64 3)).setCell ⟨T, 1, none⟩ (.int .i64 0)).setCell ⟨T, 2, none⟩ (.slice (some ⟨w7.heap.size, 0, none⟩) 2 2)) = w9 at *
        clear m0 m1 m2 mf hf9
        refine wpAnyH_done (by kernel_rfl) ?_ _
        have R9 : Hid (Blk w9 w.heap.size #[.int .i64 0, .int .i64 0, .slice none 0 0] 36) := (kx _ (by omega)).trans R8.out
        have F9 : Hid (BFr w w9 B nv nv7) := ⟨hos9.1.trans F8.out.1, hos9.2.1.trans F8.out.2.1, hos9.2.2.trans F8.out.2.2.1, by have := F8.out.2.2.2.1; omega, fun q hq h1 h2 => (kx q (by omega)).trans (F8.out.2.2.2.2.1 q hq h1 h2), F8.out.2.2.2.2.2⟩
        have Z9 : Hid (Rst N B s nm r7.pos r7.k nv7 w9) := by
          have hb9 : Below N w8 w9 := ⟨hos9.1, hos9.2.1, hos9.2.2, by omega, fun q hq => kx q (by have := Z8.out.nb; omega)⟩
          refine ⟨?_, Z8.out.own.kept (row := some T) ⟨hos9.1, hos9.2.1, hos9.2.2, by omega, fun q hq hn => kx q (fun e => hn (by rw [e]))⟩ (Or.inr fun e => hTo7 e.symm), Z8.out.nb, hN9, Z8.out.tb.on hb9, Z8.out.ts.on hb9⟩
          have hbx := Z8.out.bx
          unfold Bl Blk at hbx ⊢
          rw [kx B (fun e => hTB e.symm)]
          exact hbx
        have P9 : Hid (Blk w9 w7.heap.size #[.int .i64 t.kind, .int .i64 t.idx, .slice a t.subs.length c, .int .i64 r7.t.kind, .int .i64 r7.t.idx, .slice a7 r7.t.subs.length c7] 36) := (kx _ (by omega)).trans P8.out
        have S9 : Hid (SlM w9 (fun b => w.heap.size < b ∧ b ≠ T ∧ some b ≠ nv7.ownBlock) (some ⟨w7.heap.size, 0, none⟩) [t, r7.t]) := lies_twoL hXS.out (P9.out.cell 0) (P9.out.cell 1) (P9.out.cell 2) (P9.out.cell 3) (P9.out.cell 4) (P9.out.cell 5) (S8.out.kept fun q hq => kx q hq.2.1) (U8.out.kept fun q hq => kx q hq.2.1)
        have hAt9 := Z9.out.bx.at
        clear kx hos9 hz9 Z8 F8 R8 T8 S8 U8 P8 P9 Z7 F7 R7 T7 S7 U7
        go_wp2_with fail
        go_roundw
        case rel => exact ⟨f0, ⟨3, 0, [t, r7.t]⟩, r7.pos, r7.k, nv7, some ⟨w7.heap.size, 0, none⟩, 2, by omega, by omega, hpos7.2.1, hpos7.2.2.1, by omega, HR7.out, Z9.out, F9.out, R9.out, hRo7, T9.out, hTo7, S9.out⟩
        case measure => rw [hAt9, hAt]; omega
      · go_simp
        go_at_call 102
        refine (HP.out f0 (by omega) nm nv' (p + 1) (k' + 1) wd Zd.out (by omega) (by omega) (by omega) (by omega)).mono ?_
        intro e w7 hp
        generalize lrd s f0 .piece nm (p + 1) (k' + 1) = r7 at *
        rcases hp with ⟨hr0, nv7, a7, c7, rfl, hs7, hst7, hf7⟩ | ⟨hr0, rfl, nv7, hf7⟩
        case inr => exact ⟨rfl, lrP_no (by rw [HR6.out, if_pos hr0]) hr0 (Fd.out.trans hf7)⟩
        have hpos7 := HPO7.out hr0 (by omega) (by omega)
        have hp7 := hpos7.2.2.2 (fun t e => by cases e)
        have hkm7 := HKM7.out hr0
        have HR7 : Hid (r = lrd s f0 (.behind ⟨3, 0, [t, r7.t]⟩) nm r7.pos r7.k) := by unfold Hid; rw [HR6.out, if_neg (by rw [hr0]; simp)]
        have Z7 := hide hst7
        have F7 := hide (Fd.out.trans hf7)
        have R7 := hide (blk_bfr Rd.out hf7 hbox.1 hRo)
        have hRo7 := own_bfr hf7 Rd.out.lt hRo
        have T7 := hide (blk_bfr Td.out hf7 hTB hTo)
        have hTo7 := own_bfr hf7 Td.out.lt hTo
        have S7 : Hid (SlM w7 (fun b => w.heap.size < b ∧ b ≠ T ∧ some b ≠ nv7.ownBlock) a t.subs) := (slm_bfr Sd.out hf7 (fun b hb => ⟨by omega, hb.2.2⟩)).mono fun b hb _ => ⟨hb.1.1, hb.1.2.1, own_bfr hf7 hb.2 hb.1.2.2⟩
        have hTd := Td.out.lt
        have hRd := Rd.out.lt
        have U7 : Hid (SlM w7 (fun b => w.heap.size < b ∧ b ≠ T ∧ some b ≠ nv7.ownBlock) a7 r7.t.subs) := hs7.mono fun b hb _ => ⟨by omega, by omega, hb.2⟩
        have hz7 : wd.heap.size ≤ w7.heap.size := hf7.2.2.2.1
        clear hs7 hst7 hf7 hr0 HPO7 HKM7
        go_simp
        refine hK.out _ _ (by exact Z7.out.le) (fun hHeld => ?_)
        clear hK K
        try simp only [Act.put, List.setIfInBounds_toArray, List.set_cons_zero, List.set_cons_succ, List.getElem_toArray, List.getElem_cons_succ, List.getElem_cons_zero]
        refine wpAnyH_ready (rs := [0]) (by kernel_rfl) (by simp) ?_
        refine AllReadyH.cons rfl (fun K hK => ?_) AllReadyH.nil
        have m0 := T7.out.cell 0
        have m1 := T7.out.cell 1
        have m2 := T7.out.cell 2
        simp only [List.getElem?_toArray, List.getElem?_cons_succ, List.getElem?_cons_zero] at m0 m1 m2
        go_simp
        refine hK.out _ _ (by exact Z7.out.le) (fun hHeld => ?_)
        clear hK K
        try simp only [Act.put, List.setIfInBounds_toArray, List.set_cons_zero, List.set_cons_succ, List.getElem_toArray, List.getElem_cons_succ, List.getElem_cons_zero]
        clear m0 m1 m2
        have Z8 := hide (Z7.out.alloc (.cells #[.int .i64 t.kind, .int .i64 t.idx, .slice a t.subs.length c, .int .i64 r7.t.kind, .int .i64 r7.t.idx, .slice a7 r7.t.subs.length c7] 36))
        have F8 := hide (F7.out.trans (BFr.of_below ((Below.refl w7.heap.size w7).alloc (Nat.le_refl _) (.cells #[.int .i64 t.kind, .int .i64 t.idx, .slice a t.subs.length c, .int .i64 r7.t.kind, .int .i64 r7.t.idx, .slice a7 r7.t.subs.length c7] 36)) B nv7))
        have R8 := hide (R7.out.alloc (.cells #[.int .i64 t.kind, .int .i64 t.idx, .slice a t.subs.length c, .int .i64 r7.t.kind, .int .i64 r7.t.idx, .slice a7 r7.t.subs.length c7] 36))
        have T8 := hide (T7.out.alloc (.cells #[.int .i64 t.kind, .int .i64 t.idx, .slice a t.subs.length c, .int .i64 r7.t.kind, .int .i64 r7.t.idx, .slice a7 r7.t.subs.length c7] 36))
        have S8 := hide (S7.out.later ((Below.refl w7.heap.size w7).alloc (Nat.le_refl _) (.cells #[.int .i64 t.kind, .int .i64 t.idx, .slice a t.subs.length c, .int .i64 r7.t.kind, .int .i64 r7.t.idx, .slice a7 r7.t.subs.length c7] 36)))
        have U8 := hide (U7.out.later ((Below.refl w7.heap.size w7).alloc (Nat.le_refl _) (.cells #[.int .i64 t.kind, .int .i64 t.idx, .slice a t.subs.length c, .int .i64 r7.t.kind, .int .i64 r7.t.idx, .slice a7 r7.t.subs.length c7] 36)))
        have P8 := hide (Blk.new w7 #[.int .i64 t.kind, .int .i64 t.idx, .slice a t.subs.length c, .int .i64 r7.t.kind, .int .i64 r7.t.idx, .slice a7 r7.t.subs.length c7] 36)
        have hbx7 := Z7.out.box
        refine wpAnyH_ready (rs := [3]) (by kernel_rfl) (by simp) ?_
        refine AllReadyH.cons rfl (fun K hK => ?_) AllReadyH.nil
        go_simp
        refine hK.out _ _ (by exact Z8.out.le) (fun hHeld => ?_)
        clear hK K
        try simp only [Act.put, List.setIfInBounds_toArray, List.set_cons_zero, List.set_cons_succ, List.getElem_toArray, List.getElem_cons_succ, List.getElem_cons_zero]
        generalize (w7.alloc (.cells #[.int .i64 t.kind, .int .i64 t.idx, .slice a t.subs.length c, .int .i64 r7.t.kind, .int .i64 r7.t.idx, .slice a7 r7.t.subs.length c7] 36)) = w8 at *
        have hTw7 : T < w7.heap.size := by omega
        have hRw7 : w.heap.size < w7.heap.size := by omega
        have hXS : Hid (w.heap.size < w7.heap.size ∧ w7.heap.size ≠ T ∧ some w7.heap.size ≠ nv7.ownBlock) := ⟨by omega, by omega, hbx7.2⟩
        refine wpAnyH_take (i := 4) (v := ?_) rfl (by kernel_rfl) (by kernel_rfl) (by kernel_rfl) (fun _ _ _ h => h) (Or.inl ⟨by rfl, ?_⟩) (by assumption) ?_
        rotate_left
        · intro w' hSw
          go_simp <;> with_reducible rfl
        try simp only [Act.put, List.setIfInBounds_toArray, List.set_cons_zero, List.set_cons_succ, List.getElem_toArray, List.getElem_cons_succ, List.getElem_cons_zero]
        have m0 := T8.out.cell 0
        have m1 := T8.out.cell 1
        have m2 := T8.out.cell 2
        have mf := T8.out.frozen
        simp only [List.getElem?_toArray, List.getElem?_cons_succ, List.getElem?_cons_zero] at m0 m1 m2
        have kx : ∀ q : Nat, q ≠ T → (((w8.setCell ⟨T, 0, none⟩ (.int .i64 3)).setCell ⟨T, 1, none⟩ (.int .i64 0)).setCell ⟨T, 2, none⟩ (.slice (some ⟨w7.heap.size, 0, none⟩) 2 2)).heap[q]? = w8.heap[q]? := fun q hq => by
          rw [Below.heap_setCell _ _ _ _ (by simpa using hq), Below.heap_setCell _ _ _ _ (by simpa using hq), Below.heap_setCell _ _ _ _ (by simpa using hq)]
        have hf9 : Hid (BFr w8 (((w8.setCell ⟨T, 0, none⟩ (.int .i64 3)).setCell ⟨T, 1, none⟩ (.int .i64 0)).setCell ⟨T, 2, none⟩ (.slice (some ⟨w7.heap.size, 0, none⟩) 2 2)) B nv7 nv7 ∨ True) := Or.inr trivial
        have hz9 : (((w8.setCell ⟨T, 0, none⟩ (.int .i64 3)).setCell ⟨T, 1, none⟩ (.int .i64 0)).setCell ⟨T, 2, none⟩ (.slice (some ⟨w7.heap.size, 0, none⟩) 2 2)).heap.size = w8.heap.size := by simp [World.setCell]
        have hos9 : (((w8.setCell ⟨T, 0, none⟩ (.int .i64 3)).setCell ⟨T, 1, none⟩ (.int .i64 0)).setCell ⟨T, 2, none⟩ (.slice (some ⟨w7.heap.size, 0, none⟩) 2 2)).os = w8.os ∧ (((w8.setCell ⟨T, 0, none⟩ (.int .i64 3)).setCell ⟨T, 1, none⟩ (.int .i64 0)).setCell ⟨T, 2, none⟩ (.slice (some ⟨w7.heap.size, 0, none⟩) 2 2)).tape = w8.tape ∧ (((w8.setCell ⟨T, 0, none⟩ (.int .i64 3)).setCell ⟨T, 1, none⟩ (.int .i64 0)).setCell ⟨T, 2, none⟩ (.slice (some ⟨w7.heap.size, 0, none⟩) 2 2)).output = w8.output := ⟨rfl, rfl, rfl⟩
        have T9 : Hid (Blk (((w8.setCell ⟨T, 0, none⟩ (.int .i64 3)).setCell ⟨T, 1, none⟩ (.int .i64 0)).setCell ⟨T, 2, none⟩ (.slice (some ⟨w7.heap.size, 0, none⟩) 2 2)) T #[.int .i64 3, .int .i64 0, .slice (some ⟨w7.heap.size, 0, none⟩) 2 2] 36) := lt_set3 T8.out _ _ _
        have hN9 : N ≤ (((w8.setCell ⟨T, 0, none⟩ (.int .i64 3)).setCell ⟨T, 1, none⟩ (.int .i64 0)).setCell ⟨T, 2, none⟩ (.slice (some ⟨w7.heap.size, 0, none⟩) 2 2)).heap.size := by rw [hz9]; exact Z8.out.le
        refine wpAnyH_ready (rs := [5]) (by kernel_rfl) (by simp) ?_
        refine AllReadyH.cons rfl (fun K hK => ?_) AllReadyH.nil
        go_simp
        refine hK.out _ _ (by exact hN9) (fun hHeld => ?_)
        clear hK K
        try simp only [Act.put, List.setIfInBounds_toArray, List.set_cons_zero, List.set_cons_succ, List.getElem_toArray, List.getElem_cons_succ, List.getElem_cons_zero]
        generalize (((w8.setCell ⟨T, 0, none⟩ (.int .i64 3)).setCell ⟨T, 1, none⟩ (.int .i64 0)).setCell ⟨T, 2, none⟩ (.slice (some ⟨w7.heap.size, 0, none⟩) 2 2)) = w9 at *
        clear m0 m1 m2 mf hf9
        refine wpAnyH_done (by kernel_rfl) ?_ _
        have R9 : Hid (Blk w9 w.heap.size #[.int .i64 0, .int .i64 0, .slice none 0 0] 36) := (kx _ (by omega)).trans R8.out
        have F9 : Hid (BFr w w9 B nv nv7) := ⟨hos9.1.trans F8.out.1, hos9.2.1.trans F8.out.2.1, hos9.2.2.trans F8.out.2.2.1, by have := F8.out.2.2.2.1; omega, fun q hq h1 h2 => (kx q (by omega)).trans (F8.out.2.2.2.2.1 q hq h1 h2), F8.out.2.2.2.2.2⟩
        have Z9 : Hid (Rst N B s nm r7.pos r7.k nv7 w9) := by
          have hb9 : Below N w8 w9 := ⟨hos9.1, hos9.2.1, hos9.2.2, by omega, fun q hq => kx q (by have := Z8.out.nb; omega)⟩
          refine ⟨?_, Z8.out.own.kept (row := some T) ⟨hos9.1, hos9.2.1, hos9.2.2, by omega, fun q hq hn => kx q (fun e => hn (by rw [e]))⟩ (Or.inr fun e => hTo7 e.symm), Z8.out.nb, hN9, Z8.out.tb.on hb9, Z8.out.ts.on hb9⟩
          have hbx := Z8.out.bx
          unfold Bl Blk at hbx ⊢
          rw [kx B (fun e => hTB e.symm)]
          exact hbx
        have P9 : Hid (Blk w9 w7.heap.size #[.int .i64 t.kind, .int .i64 t.idx, .slice a t.subs.length c, .int .i64 r7.t.kind, .int .i64 r7.t.idx, .slice a7 r7.t.subs.length c7] 36) := (kx _ (by omega)).trans P8.out
        have S9 : Hid (SlM w9 (fun b => w.heap.size < b ∧ b ≠ T ∧ some b ≠ nv7.ownBlock) (some ⟨w7.heap.size, 0, none⟩) [t, r7.t]) := lies_twoL hXS.out (P9.out.cell 0) (P9.out.cell 1) (P9.out.cell 2) (P9.out.cell 3) (P9.out.cell 4) (P9.out.cell 5) (S8.out.kept fun q hq => kx q hq.2.1) (U8.out.kept fun q hq => kx q hq.2.1)
        have hAt9 := Z9.out.bx.at
        clear kx hos9 hz9 Z8 F8 R8 T8 S8 U8 P8 P9 Z7 F7 R7 T7 S7 U7
        go_wp2_with fail
        go_roundw
        case rel => exact ⟨f0, ⟨3, 0, [t, r7.t]⟩, r7.pos, r7.k, nv7, some ⟨w7.heap.size, 0, none⟩, 2, by omega, by omega, hpos7.2.1, hpos7.2.2.1, by omega, HR7.out, Z9.out, F9.out, R9.out, hRo7, T9.out, hTo7, S9.out⟩
        case measure => rw [hAt9, hAt]; omega
end Go.Proofs.YtcdabjekppddjaaGreatDoor
