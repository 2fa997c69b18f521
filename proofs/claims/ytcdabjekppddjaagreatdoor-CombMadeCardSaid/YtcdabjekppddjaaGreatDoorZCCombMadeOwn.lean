/- Several texts in one. -/
import Derived.Test.YtcdabjekppddjaaGreatDoorZBCombMadeOwn
import Derived.Defers
import Derived.Recover
import Derived.Laws.Pointers
/- Walks: reading a lambda term. -/
namespace Go.Proofs.YtcdabjekppddjaaGreatDoor
open Go.RowKit
set_option linter.unusedSimpArgs false
set_option linter.unusedVariables false
set_option maxRecDepth 8000

theorem lrd_term (s : ByteArray) (f : Nat) (nm : List ByteArray) (i k : Nat) : lrd s (f + 1) .term nm i k = if i < s.size ∧ byteAt s i = 92 then bndL s f nm (i + 1) k else if (lrd s f .piece nm i k).err ≠ 0 then noLr (lrd s f .piece nm i k).err else lrd s f (.behind (lrd s f .piece nm i k).t) nm (lrd s f .piece nm i k).pos (lrd s f .piece nm i k).k := by
  first | (rw [lrd]; done) | (rw [lrd]; rfl)
theorem lrd_behind (s : ByteArray) (f : Nat) (t : Lm) (nm : List ByteArray) (i k : Nat) : lrd s (f + 1) (.behind t) nm i k = if i < s.size ∧ byteAt s i = 32 then (if 200 < k + 1 then noLr 3 else if (lrd s f .piece nm (i + 1) (k + 1)).err ≠ 0 then noLr (lrd s f .piece nm (i + 1) (k + 1)).err else lrd s f (.behind ⟨3, 0, [t, (lrd s f .piece nm (i + 1) (k + 1)).t]⟩) nm (lrd s f .piece nm (i + 1) (k + 1)).pos (lrd s f .piece nm (i + 1) (k + 1)).k) else ⟨0, t, i, k⟩ := by
  first | (rw [lrd]; done) | (rw [lrd]; rfl)

theorem lrd_piece (s : ByteArray) (f : Nat) (nm : List ByteArray) (i k : Nat) : lrd s (f + 1) .piece nm i k = if i < s.size ∧ byteAt s i = 40 then
      (if (lrd s f .term nm (i + 1) k).err ≠ 0 then noLr (lrd s f .term nm (i + 1) k).err else if askE s (lrd s f .term nm (i + 1) k).pos 41 ≠ 0 then noLr (askE s (lrd s f .term nm (i + 1) k).pos 41) else ⟨0, (lrd s f .term nm (i + 1) k).t, (lrd s f .term nm (i + 1) k).pos + 1, (lrd s f .term nm (i + 1) k).k⟩)
    else if nameE s i ≠ 0 then noLr (nameE s i)
    else if 200 < k + 1 then noLr 3
    else namedL nm (s.extract i (stopAt s i)) (stopAt s i) (k + 1) := by
  first | (rw [lrd]; done) | (rw [lrd]; rfl)
/-- Knots are never fewer. -/
theorem lrd_kge (s : ByteArray) : ∀ f m nm i k, (lrd s f m nm i k).err = 0 → k ≤ (lrd s f m nm i k).k := by
  intro f
  induction f with
  | zero => intro m nm i k h; simp [lrd, noLr] at h
  | succ f ih =>
    intro m nm i k h
    cases m with
    | term =>
      rw [lrd_term] at h ⊢
      by_cases h1 : i < s.size ∧ byteAt s i = 92
      · rw [if_pos h1] at h ⊢
        unfold bndL at h ⊢
        by_cases h2 : 200 < k + 1
        · rw [if_pos h2] at h; simp [noLr] at h
        rw [if_neg h2] at h ⊢
        by_cases h3 : nameE s (i + 1) ≠ 0
        · rw [if_pos h3] at h; exact absurd h h3
        rw [if_neg h3] at h ⊢
        by_cases h4 : askE s (stopAt s (i + 1)) 46 ≠ 0
        · rw [if_pos h4] at h; exact absurd h h4
        rw [if_neg h4] at h ⊢
        by_cases h5 : (lrd s f .term (nm ++ [s.extract (i + 1) (stopAt s (i + 1))]) (stopAt s (i + 1) + 1) (k + 1)).err ≠ 0
        · rw [if_pos h5] at h; exact absurd h h5
        rw [if_neg h5]
        have := ih .term _ _ _ (by simpa using h5)
        simp only; omega
      · rw [if_neg h1] at h ⊢
        by_cases h5 : (lrd s f .piece nm i k).err ≠ 0
        · rw [if_pos h5] at h; exact absurd h h5
        rw [if_neg h5] at h ⊢
        have g1 := ih .piece nm i k (by simpa using h5)
        have g2 := ih (.behind (lrd s f .piece nm i k).t) nm _ _ h
        omega
    | behind t =>
      rw [lrd_behind] at h ⊢
      by_cases h1 : i < s.size ∧ byteAt s i = 32
      · rw [if_pos h1] at h ⊢
        by_cases h2 : 200 < k + 1
        · rw [if_pos h2] at h; simp [noLr] at h
        rw [if_neg h2] at h ⊢
        by_cases h5 : (lrd s f .piece nm (i + 1) (k + 1)).err ≠ 0
        · rw [if_pos h5] at h; exact absurd h h5
        rw [if_neg h5] at h ⊢
        have g1 := ih .piece nm (i + 1) (k + 1) (by simpa using h5)
        have g2 := ih (.behind ⟨3, 0, [t, (lrd s f .piece nm (i + 1) (k + 1)).t]⟩) nm _ _ h
        omega
      · rw [if_neg h1]
        exact Nat.le_refl _
    | piece =>
      rw [lrd_piece] at h ⊢
      by_cases h1 : i < s.size ∧ byteAt s i = 40
      · rw [if_pos h1] at h ⊢
        by_cases h5 : (lrd s f .term nm (i + 1) k).err ≠ 0
        · rw [if_pos h5] at h; exact absurd h h5
        rw [if_neg h5] at h ⊢
        by_cases h6 : askE s (lrd s f .term nm (i + 1) k).pos 41 ≠ 0
        · rw [if_pos h6] at h; exact absurd h h6
        rw [if_neg h6]
        exact ih .term nm (i + 1) k (by simpa using h5)
      · rw [if_neg h1] at h ⊢
        by_cases h3 : nameE s i ≠ 0
        · rw [if_pos h3] at h; exact absurd h h3
        rw [if_neg h3] at h ⊢
        by_cases h2 : 200 < k + 1
        · rw [if_pos h2] at h; simp [noLr] at h
        rw [if_neg h2] at h ⊢
        rw [(named_ok h).2]
        omega

/-- Two lambda terms in a row of their own. -/
theorem lies_twoL {W : World} {X : Nat → Prop} {S c c' : Nat} {a a' : Option Addr} {t t' : Lm} (hX : X S) (h0 : W.cell? ⟨S, 0, none⟩ = some (.int .i64 t.kind)) (h1 : W.cell? ⟨S, 1, none⟩ = some (.int .i64 t.idx)) (h2 : W.cell? ⟨S, 2, none⟩ = some (.slice a t.subs.length c)) (h3 : W.cell? ⟨S, 3, none⟩ = some (.int .i64 t'.kind)) (h4 : W.cell? ⟨S, 4, none⟩ = some (.int .i64 t'.idx)) (h5 : W.cell? ⟨S, 5, none⟩ = some (.slice a' t'.subs.length c')) (hs : SlM W X a t.subs) (hs' : SlM W X a' t'.subs) : SlM W X (some ⟨S, 0, none⟩) [t, t'] := by
  obtain ⟨k, x, l⟩ := t
  obtain ⟨k', x', l'⟩ := t'
  refine ⟨by simp, Or.inr ⟨S, 0, rfl, ?_⟩⟩
  simp only [LiesM]
  exact ⟨hX, h0, h1, ⟨a, c, h2, hs.1, hs.2⟩, hX, h3, h4, ⟨a', c', h5, hs'.1, hs'.2⟩, trivial⟩

theorem slm_bfr {w w' : World} {X : Nat → Prop} {a : Option Addr} {l : List Lm} {B : Nat} {nv nv' : Value} (hs : SlM w X a l) (hf : BFr w w' B nv nv') (hX : ∀ b, X b → b ≠ B ∧ some b ≠ nv.ownBlock) : SlM w' (fun b => X b ∧ b < w.heap.size) a l :=
  (hs.mono (Y := fun b => X b ∧ b < w.heap.size) fun b h1 h2 => ⟨h1, h2⟩).kept fun b hb => hf.2.2.2.2.1 b hb.2 (hX b hb.1).1 (hX b hb.1).2
/-- What is known at each round's head. -/
def TmInv (N B T F : Nat) (s : ByteArray) (nm : List ByteArray) (nv : Value) (w : World) (r : Lrd) (wr : World) : Prop :=
  ∃ (f' : Nat) (t : Lm) (p k' : Nat) (nv' : Value) (a : Option Addr) (c : Nat), f' ≤ F ∧ 3 * (s.size - p) + 1 ≤ f' ∧ p ≤ s.size ∧ k' ≤ 200 ∧ nm.length ≤ 100 + k' ∧ r = lrd s f' (.behind t) nm p k' ∧ Rst N B s nm p k' nv' wr ∧ BFr w wr B nv nv' ∧ Blk wr w.heap.size #[.int .i64 0, .int .i64 0, .slice none 0 0] 36 ∧ some w.heap.size ≠ nv'.ownBlock ∧
    Blk wr T #[.int .i64 t.kind, .int .i64 t.idx, .slice a t.subs.length c] 36 ∧ some T ≠ nv'.ownBlock ∧ SlM wr (fun b => w.heap.size < b ∧ b ≠ T ∧ some b ≠ nv'.ownBlock) a t.subs

set_option maxHeartbeats 4000000 in
theorem lterm_of (N B : Nat) (s : ByteArray) (hs : s.size ≤ 4000) (F : Nat) (hT : LTerm N B s F) (hP : ∀ F', F' ≤ F → LPiece N B s F') : LTerm N B s (F + 1) := by
  intro nm nv i k w hst hnk hi hk hF
  have HT := hide hT
  have HP := hide hP
  have hbox := hst.box
  have hBlt := hst.lt
  have HRD := hide (lrd_term s F nm i k)
  generalize lrd s (F + 1) .term nm i k = r at *
  have Z0 := hide (hst.alloc (.cells #[.int .i64 0, .int .i64 0, .slice none 0 0] 36))
  have R0 := hide (Blk.new w #[.int .i64 0, .int .i64 0, .slice none 0 0] 36)
  have F0 : Hid (BFr w (w.alloc (.cells #[.int .i64 0, .int .i64 0, .slice none 0 0] 36)) B nv nv) := BFr.of_below ((Below.refl _ _).alloc (Nat.le_refl _) _) B nv
  have hz0 : (w.alloc (.cells #[.int .i64 0, .int .i64 0, .slice none 0 0] 36)).heap.size = w.heap.size + 1 := by simp
  clear hT hP hst
  go_enter Tryz.func89, Tryz.ntmps89
  go_wp2_with fail
  generalize (w.alloc (.cells #[.int .i64 0, .int .i64 0, .slice none 0 0] 36)) = w0 at *
  refine (take_anyL (nv := nv) B i k s 92 hi hs _ (by exact Z0.out.bx)).mono ?_
  intro e w1 hp
  unfold TookPostL at hp
  by_cases h4 : i < s.size ∧ byteAt s i = 92
  · rw [if_pos h4] at hp
    obtain ⟨rfl, hx1, he1, hz1⟩ := hp
    have Z1 := hide (Z0.out.ex he1 hx1)
    have F1 := hide (F0.out.trans (he1.bfrL nv))
    have R1 := hide (blk_bfr R0.out (he1.bfrL nv) hbox.1 hbox.2)
    have HR : Hid (r = bndL s F nm (i + 1) k) := by unfold Hid; rw [HRD.out, if_pos h4]
    clear he1 hx1 HRD Z0 F0 R0
    go_wp2_with fail
    refine (lbinder_of N B s hs F HT.out nm nv (i + 1) k w1 Z1.out hnk (by omega) hk (by omega)).mono ?_
    intro e w2 hp
    generalize bndL s F nm (i + 1) k = r2 at *
    rcases hp with ⟨hr0, nv2, a2, c2, rfl, hs2, hst2, hf2⟩ | ⟨hr0, rfl, nv2, hf2⟩
    · have R2 := hide (blk_bfr R1.out hf2 hbox.1 hbox.2)
      have ho2 := own_bfr hf2 R1.out.lt hbox.2
      have F2 := hide (F1.out.trans hf2)
      have Z2 := hide hst2
      have S2 : Hid (SlM w2 (fun b => w.heap.size < b ∧ some b ≠ nv2.ownBlock) a2 r2.t.subs) := hs2.mono fun b hb _ => ⟨by omega, hb.2⟩
      have HF : Hid (r = ⟨0, r2.t, r2.pos, r2.k⟩) := by
        unfold Hid; rw [HR.out]; obtain ⟨e0, e1, e2, e3⟩ := r2; simp only at hr0; rw [hr0]
      have r0 := R2.out.cell 0
      have r1 := R2.out.cell 1
      have r2' := R2.out.cell 2
      have rf := R2.out.frozen
      simp only [List.getElem?_toArray, List.getElem?_cons_succ, List.getElem?_cons_zero] at r0 r1 r2'
      clear hf2 hs2 hst2 hr0
      go_wp2_with fail
      refine bodyPost_ret (v := .agg #[.int .i64 r2.t.kind, .int .i64 r2.t.idx, .slice a2 r2.t.subs.length c2]) (by simp [results, Tryz.results89, go_sem, World.cell?_setCell_same, World.cell?_setCell_other, r0, r1, r2']) rfl ?_
      exact lr_fin HF.out Z2.out F2.out hBlt ho2 S2.out _ _ _
    · exact ⟨rfl, Or.inr ⟨by rw [HR.out]; exact hr0, by rw [HR.out], nv2, F1.out.trans hf2⟩⟩
  · rw [if_neg h4] at hp
    obtain ⟨rfl, n1, rfl⟩ := hp
    have Z1 := hide (Z0.out.drewN n1)
    have F1 := hide (F0.out.trans (BFr.of_below (below_drewN (Below.refl _ _) n1) B nv))
    have R1 := hide (R0.out.drewN n1)
    have HR : Hid (r = if (lrd s F .piece nm i k).err ≠ 0 then noLr (lrd s F .piece nm i k).err else lrd s F (.behind (lrd s F .piece nm i k).t) nm (lrd s F .piece nm i k).pos (lrd s F .piece nm i k).k) := by unfold Hid; rw [HRD.out, if_neg h4]
    have hz1 : (w0.drewN n1).heap.size = w.heap.size + 1 := by
      have : (w0.drewN n1).heap = w0.heap := rfl
      rw [this]; exact hz0
    generalize w0.drewN n1 = w1 at *
    clear HRD Z0 F0 R0
    go_wp2_with fail
    refine (HP.out F (Nat.le_refl _) nm nv i k w1 Z1.out hnk hi hk (by omega)).mono ?_
    intro e w2 hp
    have HPO := hide (lrd_pos s F .piece nm i k)
    have HKM := hide (lrd_kge s F .piece nm i k)
    generalize lrd s F .piece nm i k = r2 at *
    rcases hp with ⟨hr0, nv2, a2, c2, rfl, hs2, hst2, hf2⟩ | ⟨hr0, rfl, nv2, hf2⟩
    case inr => exact ⟨rfl, lrP_no (by rw [HR.out, if_pos hr0]) hr0 (F1.out.trans hf2)⟩
    have hpos := HPO.out hr0 hi hk
    have hp2 := hpos.2.2.2 (fun t e => by cases e)
    have HR2 : Hid (r = lrd s F (.behind r2.t) nm r2.pos r2.k) := by unfold Hid; rw [HR.out, if_neg (by rw [hr0]; simp)]
    have R2 := hide (blk_bfr R1.out hf2 hbox.1 hbox.2)
    have ho2 := own_bfr hf2 R1.out.lt hbox.2
    have F2 := hide (F1.out.trans hf2)
    have hz2 : w1.heap.size ≤ w2.heap.size := hf2.2.2.2.1
    have hbx2 := hst2.box
    have Z3 := hide (hst2.alloc (.cells #[.int .i64 r2.t.kind, .int .i64 r2.t.idx, .slice a2 r2.t.subs.length c2] 36))
    have T3 := hide (Blk.new w2 #[.int .i64 r2.t.kind, .int .i64 r2.t.idx, .slice a2 r2.t.subs.length c2] 36)
    have R3 := hide (R2.out.alloc (.cells #[.int .i64 r2.t.kind, .int .i64 r2.t.idx, .slice a2 r2.t.subs.length c2] 36))
    have S3 : Hid (SlM (w2.alloc (.cells #[.int .i64 r2.t.kind, .int .i64 r2.t.idx, .slice a2 r2.t.subs.length c2] 36)) (fun b => w.heap.size < b ∧ b ≠ w2.heap.size ∧ some b ≠ nv2.ownBlock) a2 r2.t.subs) := (hs2.mono (Y := fun b => w.heap.size < b ∧ b ≠ w2.heap.size ∧ some b ≠ nv2.ownBlock) fun b hb hl => ⟨by omega, by omega, hb.2⟩).later ((Below.refl _ _).alloc (Nat.le_refl _) _)
    have F3 := hide (F2.out.trans (BFr.of_below ((Below.refl w2.heap.size w2).alloc (Nat.le_refl _) (.cells #[.int .i64 r2.t.kind, .int .i64 r2.t.idx, .slice a2 r2.t.subs.length c2] 36)) B nv2))
    have hkk : nm.length ≤ 100 + r2.k := by have := HKM.out hr0; omega
    clear hf2 hs2 hst2 R2 F2 hr0 HR HPO
    go_wp2_with fail
    generalize (w2.alloc (.cells #[.int .i64 r2.t.kind, .int .i64 r2.t.idx, .slice a2 r2.t.subs.length c2] 36)) = w3 at *
    have hTgt : w.heap.size < w2.heap.size := by omega
    generalize w2.heap.size = T at *
    go_loopw [] (fun wr => TmInv N B T F s nm nv w r wr) (fun wr => s.size - rdAtL wr B)
    case atStart => exact ⟨F, r2.t, r2.pos, r2.k, nv2, a2, c2, Nat.le_refl _, by omega, hpos.2.1, hpos.2.2.1, hkk, HR2.out, Z3.out, F3.out, R3.out, ho2, T3.out, hbx2.2, S3.out⟩
    case round =>
      obtain ⟨f', t, p, k', nv', a, c, hf1, hf2, hp1, hk1, hnk1, hr, hst, hfr, hR, hRo, hTb, hTo, hsl⟩ := hrel
      obtain ⟨f0, rfl⟩ : ∃ f0, f' = f0 + 1 := ⟨f' - 1, by omega⟩
      have HLB := hide (lrd_behind s f0 t nm p k')
      have HR4 : Hid (r = if p < s.size ∧ byteAt s p = 32 then (if 200 < k' + 1 then noLr 3 else if (lrd s f0 .piece nm (p + 1) (k' + 1)).err ≠ 0 then noLr (lrd s f0 .piece nm (p + 1) (k' + 1)).err else lrd s f0 (.behind ⟨3, 0, [t, (lrd s f0 .piece nm (p + 1) (k' + 1)).t]⟩) nm (lrd s f0 .piece nm (p + 1) (k' + 1)).pos (lrd s f0 .piece nm (p + 1) (k' + 1)).k) else ⟨0, t, p, k'⟩) := by unfold Hid; rw [hr, HLB.out]
      have Z4 := hide hst
      have F4 := hide hfr
      have R4 := hide hR
      have T4 := hide hTb
      have S4 := hide hsl
      have hBr := hst.lt
      have hTr := hTb.lt
      have hTB : T ≠ B := by
        intro e
        have h1 := hst.bx
        have h2 := hTb
        unfold Bl Blk at h1
        unfold Blk at h2
        rw [e, h1] at h2
        simp at h2
      have hAt := hst.bx.at
      clear hr hst hfr hR hTb hsl HLB Z3 F3 R3 T3 S3 HR2
      go_wp2_with fail
      refine (take_anyL (nv := nv') B p k' s 32 hp1 hs _ (by exact Z4.out.bx)).mono ?_
      intro e w5 hp
      unfold TookPostL at hp
      by_cases h5 : p < s.size ∧ byteAt s p = 32
      case neg =>
        rw [if_neg h5] at hp
        obtain ⟨rfl, n5, rfl⟩ := hp
        have HF : Hid (r = ⟨0, t, p, k'⟩) := by unfold Hid; rw [HR4.out, if_neg h5]
        have Z5 := hide (Z4.out.drewN n5)
        have F5 := hide (F4.out.trans (BFr.of_below (below_drewN (Below.refl _ _) n5) B nv'))
        have R5 := hide (R4.out.drewN n5)
        have T5 := hide (T4.out.drewN n5)
        have S5 : Hid (SlM (wr.drewN n5) (fun b => w.heap.size < b ∧ some b ≠ nv'.ownBlock) a t.subs) := (S4.out.later (below_drewN (Below.refl _ _) n5)).mono fun b hb _ => ⟨hb.1, hb.2.2⟩
        generalize wr.drewN n5 = w5 at *
        have q0 := T5.out.cell 0
        have q1 := T5.out.cell 1
        have q2 := T5.out.cell 2
        have r0 := R5.out.cell 0
        have r1 := R5.out.cell 1
        have r2' := R5.out.cell 2
        have rf := R5.out.frozen
        simp only [List.getElem?_toArray, List.getElem?_cons_succ, List.getElem?_cons_zero] at q0 q1 q2 r0 r1 r2'
        go_wp2_with fail
        refine bodyPost_ret (v := .agg #[.int .i64 t.kind, .int .i64 t.idx, .slice a t.subs.length c]) (by simp [results, Tryz.results89, go_sem, World.cell?_setCell_same, World.cell?_setCell_other, r0, r1, r2']) rfl ?_
        exact lr_fin HF.out Z5.out F5.out hBlt hRo S5.out _ _ _
      rw [if_pos h5] at hp
      obtain ⟨rfl, hx5, he5, hz5⟩ := hp
      have HR5 := hide (show r = _ from (HR4.out).trans (if_pos h5))
      have Z5 := hide (Z4.out.ex he5 hx5)
      have F5 := hide (F4.out.trans (he5.bfrL nv'))
      have R5 := hide (blk_bfr R4.out (he5.bfrL nv') hbox.1 hRo)
      have T5 := hide (blk_bfr T4.out (he5.bfrL nv') hTB hTo)
      have S5 : Hid (SlM w5 (fun b => w.heap.size < b ∧ b ≠ T ∧ some b ≠ nv'.ownBlock) a t.subs) := (slm_bfr S4.out (he5.bfrL nv') (fun b hb => ⟨by omega, hb.2.2⟩)).mono fun b hb _ => hb.1
      clear hx5 he5 HR4 Z4 F4 R4 T4 S4
      go_wp2_with fail
      refine (rdKnot_anyL (nv := nv') B (p + 1) k' s (by omega) _ (by exact Z5.out.bx)).mono ?_
      intro e w6 hp
      unfold RdKnotPostL at hp
      by_cases h3 : 200 < k' + 1
      · rw [if_pos h3] at hp
        obtain ⟨he, he3⟩ := hp
        unfold thrownL at he
        subst he
        exact ⟨rfl, lrP_no (by rw [HR5.out, if_pos h3]) (by simp) (F5.out.trans (he3.bfrL nv'))⟩
      rw [if_neg h3] at hp
      obtain ⟨⟨v6, rfl⟩, hx6, he6, hz6⟩ := hp
      have HR6 := hide (show r = _ from (HR5.out).trans (if_neg h3))
      have Z6 := hide (Z5.out.ex he6 hx6)
      have F6 := hide (F5.out.trans (he6.bfrL nv'))
      have R6 := hide (blk_bfr R5.out (he6.bfrL nv') hbox.1 hRo)
      have T6 := hide (blk_bfr T5.out (he6.bfrL nv') hTB hTo)
      have S6 : Hid (SlM w6 (fun b => w.heap.size < b ∧ b ≠ T ∧ some b ≠ nv'.ownBlock) a t.subs) := (slm_bfr S5.out (he6.bfrL nv') (fun b hb => ⟨by omega, hb.2.2⟩)).mono fun b hb _ => hb.1
      clear hx6 he6 HR5 Z5 F5 R5 T5 S5
      go_wp2_with fail
      have Zd := hide (Z6.out.later (Below.drew (Below.refl w6.heap.size w6)))
      have Fd := hide (F6.out.trans (BFr.of_below (Below.drew (Below.refl w6.heap.size w6)) B nv'))
      have Rd : Hid (Blk w6.drew w.heap.size #[.int .i64 0, .int .i64 0, .slice none 0 0] 36) := R6.out
      have Td : Hid (Blk w6.drew T #[.int .i64 t.kind, .int .i64 t.idx, .slice a t.subs.length c] 36) := T6.out
      have Sd := hide (S6.out.later (Below.drew (Below.refl w6.heap.size w6)))
      refine wp_region_held_drew (S := fun w' => N ≤ w'.heap.size) (by kernel_rfl) (by exact Zd.out.le) (fun hHeld => ?_)
      generalize w6.drew = wd at *
      clear Z6 F6 R6 T6 S6
      have HPO7 := hide (lrd_pos s f0 .piece nm (p + 1) (k' + 1))
      have HKM7 := hide (lrd_kge s f0 .piece nm (p + 1) (k' + 1))
      refine wpAnyH_take (i := 1) (v := ?_) rfl (by kernel_rfl) (by kernel_rfl) (by kernel_rfl) (fun _ _ _ h => h) (Or.inl ⟨by rfl, ?_⟩) (by assumption) ?_
      rotate_left
      · intro w' hSw
        go_simp <;> with_reducible rfl
      try simp only [Act.put, List.setIfInBounds_toArray, List.set_cons_zero, List.set_cons_succ, List.getElem_toArray, List.getElem_cons_succ, List.getElem_cons_zero]
      refine wpAnyH_ready (rs := [0, 2]) (by kernel_rfl) (by simp) ?_
      refine AllReadyH.cons rfl (fun K hK => ?_) (AllReadyH.cons rfl (fun K hK => ?_) AllReadyH.nil)
      · have m0 := Td.out.cell 0
        have m1 := Td.out.cell 1
        have m2 := Td.out.cell 2
        simp only [List.getElem?_toArray, List.getElem?_cons_succ, List.getElem?_cons_zero] at m0 m1 m2
        go_simp
        refine hK.out _ _ (by exact Zd.out.le) (fun hHeld => ?_)
        clear hK K
        try simp only [Act.put, List.setIfInBounds_toArray, List.set_cons_zero, List.set_cons_succ, List.getElem_toArray, List.getElem_cons_succ, List.getElem_cons_zero]
        clear m0 m1 m2
        refine wpAnyH_ready (rs := [2]) (by kernel_rfl) (by simp) ?_
        refine AllReadyH.cons rfl (fun K hK => ?_) AllReadyH.nil
        go_simp
        go_at_call 102
        refine (HP.out f0 (by omega) nm nv' (p + 1) (k' + 1) wd Zd.out (by omega) (by omega) (by omega) (by omega)).mono ?_
        intro e w7 hp
        generalize lrd s f0 .piece nm (p + 1) (k' + 1) = r7 at *
        rcases hp with ⟨hr0, nv7, a7, c7, rfl, hs7, hst7, hf7⟩ | ⟨hr0, rfl, nv7, hf7⟩
        case inr => exact ⟨rfl, lrP_no (by rw [HR6.out, if_pos hr0]) hr0 (Fd.out.trans hf7)⟩
        have hpos7 := HPO7.out hr0 (by omega) (by omega)
        have hp7 := hpos7.2.2.2 (fun t e => by cases e)
        have hkm7 := HKM7.out hr0
        have HR7 : Hid (r = lrd s f0 (.behind ⟨3, 0, [t, r7.t]⟩) nm r7.pos r7.k) := by unfold Hid; rw [HR6.out, if_neg (by rw [hr0]; simp)]
        have Z7 := hide hst7
        have F7 := hide (Fd.out.trans hf7)
        have R7 := hide (blk_bfr Rd.out hf7 hbox.1 hRo)
        have hRo7 := own_bfr hf7 Rd.out.lt hRo
        have T7 := hide (blk_bfr Td.out hf7 hTB hTo)
        have hTo7 := own_bfr hf7 Td.out.lt hTo
        have S7 : Hid (SlM w7 (fun b => w.heap.size < b ∧ b ≠ T ∧ some b ≠ nv7.ownBlock) a t.subs) := (slm_bfr Sd.out hf7 (fun b hb => ⟨by omega, hb.2.2⟩)).mono fun b hb _ => ⟨hb.1.1, hb.1.2.1, own_bfr hf7 hb.2 hb.1.2.2⟩
        have hTd := Td.out.lt
        have hRd := Rd.out.lt
        have U7 : Hid (SlM w7 (fun b => w.heap.size < b ∧ b ≠ T ∧ some b ≠ nv7.ownBlock) a7 r7.t.subs) := hs7.mono fun b hb _ => ⟨by omega, by omega, hb.2⟩
        have hz7 : wd.heap.size ≤ w7.heap.size := hf7.2.2.2.1
        clear hs7 hst7 hf7 hr0 HPO7 HKM7
        go_simp
        refine hK.out _ _ (by exact Z7.out.le) (fun hHeld => ?_)
        clear hK K
        try simp only [Act.put, List.setIfInBounds_toArray, List.set_cons_zero, List.set_cons_succ, List.getElem_toArray, List.getElem_cons_succ, List.getElem_cons_zero]
        have Z8 := hide (Z7.out.alloc (.cells #[.int .i64 t.kind, .int .i64 t.idx, .slice a t.subs.length c, .int .i64 r7.t.kind, .int .i64 r7.t.idx, .slice a7 r7.t.subs.length c7] 36))
        have F8 := hide (F7.out.trans (BFr.of_below ((Below.refl w7.heap.size w7).alloc (Nat.le_refl _) (.cells #[.int .i64 t.kind, .int .i64 t.idx, .slice a t.subs.length c, .int .i64 r7.t.kind, .int .i64 r7.t.idx, .slice a7 r7.t.subs.length c7] 36)) B nv7))
        have R8 := hide (R7.out.alloc (.cells #[.int .i64 t.kind, .int .i64 t.idx, .slice a t.subs.length c, .int .i64 r7.t.kind, .int .i64 r7.t.idx, .slice a7 r7.t.subs.length c7] 36))
        have T8 := hide (T7.out.alloc (.cells #[.int .i64 t.kind, .int .i64 t.idx, .slice a t.subs.length c, .int .i64 r7.t.kind, .int .i64 r7.t.idx, .slice a7 r7.t.subs.length c7] 36))
        have S8 := hide (S7.out.later ((Below.refl w7.heap.size w7).alloc (Nat.le_refl _) (.cells #[.int .i64 t.kind, .int .i64 t.idx, .slice a t.subs.length c, .int .i64 r7.t.kind, .int .i64 r7.t.idx, .slice a7 r7.t.subs.length c7] 36)))
        have U8 := hide (U7.out.later ((Below.refl w7.heap.size w7).alloc (Nat.le_refl _) (.cells #[.int .i64 t.kind, .int .i64 t.idx, .slice a t.subs.length c, .int .i64 r7.t.kind, .int .i64 r7.t.idx, .slice a7 r7.t.subs.length c7] 36)))
        have P8 := hide (Blk.new w7 #[.int .i64 t.kind, .int .i64 t.idx, .slice a t.subs.length c, .int .i64 r7.t.kind, .int .i64 r7.t.idx, .slice a7 r7.t.subs.length c7] 36)
        have hbx7 := Z7.out.box
        refine wpAnyH_ready (rs := [3]) (by kernel_rfl) (by simp) ?_
        refine AllReadyH.cons rfl (fun K hK => ?_) AllReadyH.nil
        go_simp
        refine hK.out _ _ (by exact Z8.out.le) (fun hHeld => ?_)
        clear hK K
        try simp only [Act.put, List.setIfInBounds_toArray, List.set_cons_zero, List.set_cons_succ, List.getElem_toArray, List.getElem_cons_succ, List.getElem_cons_zero]
        generalize (w7.alloc (.cells #[.int .i64 t.kind, .int .i64 t.idx, .slice a t.subs.length c, .int .i64 r7.t.kind, .int .i64 r7.t.idx, .slice a7 r7.t.subs.length c7] 36)) = w8 at *
        have hTw7 : T < w7.heap.size := by omega
        have hRw7 : w.heap.size < w7.heap.size := by omega
        have hXS : Hid (w.heap.size < w7.heap.size ∧ w7.heap.size ≠ T ∧ some w7.heap.size ≠ nv7.ownBlock) := ⟨by omega, by omega, hbx7.2⟩
        refine wpAnyH_take (i := 4) (v := ?_) rfl (by kernel_rfl) (by kernel_rfl) (by kernel_rfl) (fun _ _ _ h => h) (Or.inl ⟨by rfl, ?_⟩) (by assumption) ?_
        rotate_left
        · intro w' hSw
          go_simp <;> with_reducible rfl
        try simp only [Act.put, List.setIfInBounds_toArray, List.set_cons_zero, List.set_cons_succ, List.getElem_toArray, List.getElem_cons_succ, List.getElem_cons_zero]
        have m0 := T8.out.cell 0
        have m1 := T8.out.cell 1
        have m2 := T8.out.cell 2
        have mf := T8.out.frozen
        simp only [List.getElem?_toArray, List.getElem?_cons_succ, List.getElem?_cons_zero] at m0 m1 m2
        have kx : ∀ q : Nat, q ≠ T → (((w8.setCell ⟨T, 0, none⟩ (.int .i64 3)).setCell ⟨T, 1, none⟩ (.int .i64 0)).setCell ⟨T, 2, none⟩ (.slice (some ⟨w7.heap.size, 0, none⟩) 2 2)).heap[q]? = w8.heap[q]? := fun q hq => by
          rw [Below.heap_setCell _ _ _ _ (by simpa using hq), Below.heap_setCell _ _ _ _ (by simpa using hq), Below.heap_setCell _ _ _ _ (by simpa using hq)]
        have hf9 : Hid (BFr w8 (((w8.setCell ⟨T, 0, none⟩ (.int .i64 3)).setCell ⟨T, 1, none⟩ (.int .i64 0)).setCell ⟨T, 2, none⟩ (.slice (some ⟨w7.heap.size, 0, none⟩) 2 2)) B nv7 nv7 ∨ True) := Or.inr trivial
        have hz9 : (((w8.setCell ⟨T, 0, none⟩ (.int .i64 3)).setCell ⟨T, 1, none⟩ (.int .i64 0)).setCell ⟨T, 2, none⟩ (.slice (some ⟨w7.heap.size, 0, none⟩) 2 2)).heap.size = w8.heap.size := by simp [World.setCell]
        have hos9 : (((w8.setCell ⟨T, 0, none⟩ (.int .i64 3)).setCell ⟨T, 1, none⟩ (.int .i64 0)).setCell ⟨T, 2, none⟩ (.slice (some ⟨w7.heap.size, 0, none⟩) 2 2)).os = w8.os ∧ (((w8.setCell ⟨T, 0, none⟩ (.int .i64 3)).setCell ⟨T, 1, none⟩ (.int .i64 0)).setCell ⟨T, 2, none⟩ (.slice (some ⟨w7.heap.size, 0, none⟩) 2 2)).tape = w8.tape ∧ (((w8.setCell ⟨T, 0, none⟩ (.int .i64 3)).setCell ⟨T, 1, none⟩ (.int .i64 0)).setCell ⟨T, 2, none⟩ (.slice (some ⟨w7.heap.size, 0, none⟩) 2 2)).output = w8.output := ⟨rfl, rfl, rfl⟩
        have T9 : Hid (Blk (((w8.setCell ⟨T, 0, none⟩ (.int .i64 3)).setCell ⟨T, 1, none⟩ (.int .i64 0)).setCell ⟨T, 2, none⟩ (.slice (some ⟨w7.heap.size, 0, none⟩) 2 2)) T #[.int .i64 3, .int .i64 0, .slice (some ⟨w7.heap.size, 0, none⟩) 2 2] 36) := lt_set3 T8.out _ _ _
        have hN9 : N ≤ (((w8.setCell ⟨T, 0, none⟩ (.int .i64 3)).setCell ⟨T, 1, none⟩ (.int .i64 0)).setCell ⟨T, 2, none⟩ (.slice (some ⟨w7.heap.size, 0, none⟩) 2 2)).heap.size := by rw [hz9]; exact Z8.out.le
        refine wpAnyH_ready (rs := [5]) (by kernel_rfl) (by simp) ?_
        refine AllReadyH.cons rfl (fun K hK => ?_) AllReadyH.nil
        go_simp
        refine hK.out _ _ (by exact hN9) (fun hHeld => ?_)
        clear hK K
        try simp only [Act.put, List.setIfInBounds_toArray, List.set_cons_zero, List.set_cons_succ, List.getElem_toArray, List.getElem_cons_succ, List.getElem_cons_zero]
        generalize (((w8.setCell ⟨T, 0, none⟩ (.int .i64 3)).setCell ⟨T, 1, none⟩ (.int .i64 0)).setCell ⟨T, 2, none⟩ (.slice (some ⟨w7.heap.size, 0, none⟩) 2 2)) = w9 at *
        clear m0 m1 m2 mf hf9
        refine wpAnyH_done (by kernel_rfl) ?_ _
        have R9 : Hid (Blk w9 w.heap.size #[.int .i64 0, .int .i64 0, .slice none 0 0] 36) := (kx _ (by omega)).trans R8.out
        have F9 : Hid (BFr w w9 B nv nv7) := ⟨hos9.1.trans F8.out.1, hos9.2.1.trans F8.out.2.1, hos9.2.2.trans F8.out.2.2.1, by have := F8.out.2.2.2.1; omega, fun q hq h1 h2 => (kx q (by omega)).trans (F8.out.2.2.2.2.1 q hq h1 h2), F8.out.2.2.2.2.2⟩
        have Z9 : Hid (Rst N B s nm r7.pos r7.k nv7 w9) := by
          have hb9 : Below N w8 w9 := ⟨hos9.1, hos9.2.1, hos9.2.2, by omega, fun q hq => kx q (by have := Z8.out.nb; omega)⟩
          refine ⟨?_, Z8.out.own.kept (row := some T) ⟨hos9.1, hos9.2.1, hos9.2.2, by omega, fun q hq hn => kx q (fun e => hn (by rw [e]))⟩ (Or.inr fun e => hTo7 e.symm), Z8.out.nb, hN9, Z8.out.tb.on hb9, Z8.out.ts.on hb9⟩
          have hbx := Z8.out.bx
          unfold Bl Blk at hbx ⊢
          rw [kx B (fun e => hTB e.symm)]
          exact hbx
        have P9 : Hid (Blk w9 w7.heap.size #[.int .i64 t.kind, .int .i64 t.idx, .slice a t.subs.length c, .int .i64 r7.t.kind, .int .i64 r7.t.idx, .slice a7 r7.t.subs.length c7] 36) := (kx _ (by omega)).trans P8.out
        have S9 : Hid (SlM w9 (fun b => w.heap.size < b ∧ b ≠ T ∧ some b ≠ nv7.ownBlock) (some ⟨w7.heap.size, 0, none⟩) [t, r7.t]) := lies_twoL hXS.out (P9.out.cell 0) (P9.out.cell 1) (P9.out.cell 2) (P9.out.cell 3) (P9.out.cell 4) (P9.out.cell 5) (S8.out.kept fun q hq => kx q hq.2.1) (U8.out.kept fun q hq => kx q hq.2.1)
        have hAt9 := Z9.out.bx.at
        clear kx hos9 hz9 Z8 F8 R8 T8 S8 U8 P8 P9 Z7 F7 R7 T7 S7 U7
        go_wp2_with fail
        go_roundw
        case rel => exact ⟨f0, ⟨3, 0, [t, r7.t]⟩, r7.pos, r7.k, nv7, some ⟨w7.heap.size, 0, none⟩, 2, by omega, by omega, hpos7.2.1, hpos7.2.2.1, by omega, HR7.out, Z9.out, F9.out, R9.out, hRo7, T9.out, hTo7, S9.out⟩
        case measure => rw [hAt9, hAt]; omega
      · go_simp
        go_at_call 102
        refine (HP.out f0 (by omega) nm nv' (p + 1) (k' + 1) wd Zd.out (by omega) (by omega) (by omega) (by omega)).mono ?_
        intro e w7 hp
        generalize lrd s f0 .piece nm (p + 1) (k' + 1) = r7 at *
        rcases hp with ⟨hr0, nv7, a7, c7, rfl, hs7, hst7, hf7⟩ | ⟨hr0, rfl, nv7, hf7⟩
        case inr => exact ⟨rfl, lrP_no (by rw [HR6.out, if_pos hr0]) hr0 (Fd.out.trans hf7)⟩
        have hpos7 := HPO7.out hr0 (by omega) (by omega)
        have hp7 := hpos7.2.2.2 (fun t e => by cases e)
        have hkm7 := HKM7.out hr0
        have HR7 : Hid (r = lrd s f0 (.behind ⟨3, 0, [t, r7.t]⟩) nm r7.pos r7.k) := by unfold Hid; rw [HR6.out, if_neg (by rw [hr0]; simp)]
        have Z7 := hide hst7
        have F7 := hide (Fd.out.trans hf7)
        have R7 := hide (blk_bfr Rd.out hf7 hbox.1 hRo)
        have hRo7 := own_bfr hf7 Rd.out.lt hRo
        have T7 := hide (blk_bfr Td.out hf7 hTB hTo)
        have hTo7 := own_bfr hf7 Td.out.lt hTo
        have S7 : Hid (SlM w7 (fun b => w.heap.size < b ∧ b ≠ T ∧ some b ≠ nv7.ownBlock) a t.subs) := (slm_bfr Sd.out hf7 (fun b hb => ⟨by omega, hb.2.2⟩)).mono fun b hb _ => ⟨hb.1.1, hb.1.2.1, own_bfr hf7 hb.2 hb.1.2.2⟩
        have hTd := Td.out.lt
        have hRd := Rd.out.lt
        have U7 : Hid (SlM w7 (fun b => w.heap.size < b ∧ b ≠ T ∧ some b ≠ nv7.ownBlock) a7 r7.t.subs) := hs7.mono fun b hb _ => ⟨by omega, by omega, hb.2⟩
        have hz7 : wd.heap.size ≤ w7.heap.size := hf7.2.2.2.1
        clear hs7 hst7 hf7 hr0 HPO7 HKM7
        go_simp
        refine hK.out _ _ (by exact Z7.out.le) (fun hHeld => ?_)
        clear hK K
        try simp only [Act.put, List.setIfInBounds_toArray, List.set_cons_zero, List.set_cons_succ, List.getElem_toArray, List.getElem_cons_succ, List.getElem_cons_zero]
        refine wpAnyH_ready (rs := [0]) (by kernel_rfl) (by simp) ?_
        refine AllReadyH.cons rfl (fun K hK => ?_) AllReadyH.nil
        have m0 := T7.out.cell 0
        have m1 := T7.out.cell 1
        have m2 := T7.out.cell 2
        simp only [List.getElem?_toArray, List.getElem?_cons_succ, List.getElem?_cons_zero] at m0 m1 m2
        go_simp
        refine hK.out _ _ (by exact Z7.out.le) (fun hHeld => ?_)
        clear hK K
        try simp only [Act.put, List.setIfInBounds_toArray, List.set_cons_zero, List.set_cons_succ, List.getElem_toArray, List.getElem_cons_succ, List.getElem_cons_zero]
        clear m0 m1 m2
        have Z8 := hide (Z7.out.alloc (.cells #[.int .i64 t.kind, .int .i64 t.idx, .slice a t.subs.length c, .int .i64 r7.t.kind, .int .i64 r7.t.idx, .slice a7 r7.t.subs.length c7] 36))
        have F8 := hide (F7.out.trans (BFr.of_below ((Below.refl w7.heap.size w7).alloc (Nat.le_refl _) (.cells #[.int .i64 t.kind, .int .i64 t.idx, .slice a t.subs.length c, .int .i64 r7.t.kind, .int .i64 r7.t.idx, .slice a7 r7.t.subs.length c7] 36)) B nv7))
        have R8 := hide (R7.out.alloc (.cells #[.int .i64 t.kind, .int .i64 t.idx, .slice a t.subs.length c, .int .i64 r7.t.kind, .int .i64 r7.t.idx, .slice a7 r7.t.subs.length c7] 36))
        have T8 := hide (T7.out.alloc (.cells #[.int .i64 t.kind, .int .i64 t.idx, .slice a t.subs.length c, .int .i64 r7.t.kind, .int .i64 r7.t.idx, .slice a7 r7.t.subs.length c7] 36))
        have S8 := hide (S7.out.later ((Below.refl w7.heap.size w7).alloc (Nat.le_refl _) (.cells #[.int .i64 t.kind, .int .i64 t.idx, .slice a t.subs.length c, .int .i64 r7.t.kind, .int .i64 r7.t.idx, .slice a7 r7.t.subs.length c7] 36)))
        have U8 := hide (U7.out.later ((Below.refl w7.heap.size w7).alloc (Nat.le_refl _) (.cells #[.int .i64 t.kind, .int .i64 t.idx, .slice a t.subs.length c, .int .i64 r7.t.kind, .int .i64 r7.t.idx, .slice a7 r7.t.subs.length c7] 36)))
        have P8 := hide (Blk.new w7 #[.int .i64 t.kind, .int .i64 t.idx, .slice a t.subs.length c, .int .i64 r7.t.kind, .int .i64 r7.t.idx, .slice a7 r7.t.subs.length c7] 36)
        have hbx7 := Z7.out.box
        refine wpAnyH_ready (rs := [3]) (by kernel_rfl) (by simp) ?_
        refine AllReadyH.cons rfl (fun K hK => ?_) AllReadyH.nil
        go_simp
        refine hK.out _ _ (by exact Z8.out.le) (fun hHeld => ?_)
        clear hK K
        try simp only [Act.put, List.setIfInBounds_toArray, List.set_cons_zero, List.set_cons_succ, List.getElem_toArray, List.getElem_cons_succ, List.getElem_cons_zero]
        generalize (w7.alloc (.cells #[.int .i64 t.kind, .int .i64 t.idx, .slice a t.subs.length c, .int .i64 r7.t.kind, .int .i64 r7.t.idx, .slice a7 r7.t.subs.length c7] 36)) = w8 at *
        have hTw7 : T < w7.heap.size := by omega
        have hRw7 : w.heap.size < w7.heap.size := by omega
        have hXS : Hid (w.heap.size < w7.heap.size ∧ w7.heap.size ≠ T ∧ some w7.heap.size ≠ nv7.ownBlock) := ⟨by omega, by omega, hbx7.2⟩
        refine wpAnyH_take (i := 4) (v := ?_) rfl (by kernel_rfl) (by kernel_rfl) (by kernel_rfl) (fun _ _ _ h => h) (Or.inl ⟨by rfl, ?_⟩) (by assumption) ?_
        rotate_left
        · intro w' hSw
          go_simp <;> with_reducible rfl
        try simp only [Act.put, List.setIfInBounds_toArray, List.set_cons_zero, List.set_cons_succ, List.getElem_toArray, List.getElem_cons_succ, List.getElem_cons_zero]
        have m0 := T8.out.cell 0
        have m1 := T8.out.cell 1
        have m2 := T8.out.cell 2
        have mf := T8.out.frozen
        simp only [List.getElem?_toArray, List.getElem?_cons_succ, List.getElem?_cons_zero] at m0 m1 m2
        have kx : ∀ q : Nat, q ≠ T → (((w8.setCell ⟨T, 0, none⟩ (.int .i64 3)).setCell ⟨T, 1, none⟩ (.int .i64 0)).setCell ⟨T, 2, none⟩ (.slice (some ⟨w7.heap.size, 0, none⟩) 2 2)).heap[q]? = w8.heap[q]? := fun q hq => by
          rw [Below.heap_setCell _ _ _ _ (by simpa using hq), Below.heap_setCell _ _ _ _ (by simpa using hq), Below.heap_setCell _ _ _ _ (by simpa using hq)]
        have hf9 : Hid (BFr w8 (((w8.setCell ⟨T, 0, none⟩ (.int .i64 3)).setCell ⟨T, 1, none⟩ (.int .i64 0)).setCell ⟨T, 2, none⟩ (.slice (some ⟨w7.heap.size, 0, none⟩) 2 2)) B nv7 nv7 ∨ True) := Or.inr trivial
        have hz9 : (((w8.setCell ⟨T, 0, none⟩ (.int .i64 3)).setCell ⟨T, 1, none⟩ (.int .i64 0)).setCell ⟨T, 2, none⟩ (.slice (some ⟨w7.heap.size, 0, none⟩) 2 2)).heap.size = w8.heap.size := by simp [World.setCell]
        have hos9 : (((w8.setCell ⟨T, 0, none⟩ (.int .i64 3)).setCell ⟨T, 1, none⟩ (.int .i64 0)).setCell ⟨T, 2, none⟩ (.slice (some ⟨w7.heap.size, 0, none⟩) 2 2)).os = w8.os ∧ (((w8.setCell ⟨T, 0, none⟩ (.int .i64 3)).setCell ⟨T, 1, none⟩ (.int .i64 0)).setCell ⟨T, 2, none⟩ (.slice (some ⟨w7.heap.size, 0, none⟩) 2 2)).tape = w8.tape ∧ (((w8.setCell ⟨T, 0, none⟩ (.int .i64 3)).setCell ⟨T, 1, none⟩ (.int .i64 0)).setCell ⟨T, 2, none⟩ (.slice (some ⟨w7.heap.size, 0, none⟩) 2 2)).output = w8.output := ⟨rfl, rfl, rfl⟩
        have T9 : Hid (Blk (((w8.setCell ⟨T, 0, none⟩ (.int .i64 3)).setCell ⟨T, 1, none⟩ (.int .i64 0)).setCell ⟨T, 2, none⟩ (.slice (some ⟨w7.heap.size, 0, none⟩) 2 2)) T #[.int .i64 3, .int .i64 0, .slice (some ⟨w7.heap.size, 0, none⟩) 2 2] 36) := lt_set3 T8.out _ _ _
        have hN9 : N ≤ (((w8.setCell ⟨T, 0, none⟩ (.int .i64 3)).setCell ⟨T, 1, none⟩ (.int .i64 0)).setCell ⟨T, 2, none⟩ (.slice (some ⟨w7.heap.size, 0, none⟩) 2 2)).heap.size := by rw [hz9]; exact Z8.out.le
        refine wpAnyH_ready (rs := [5]) (by kernel_rfl) (by simp) ?_
        refine AllReadyH.cons rfl (fun K hK => ?_) AllReadyH.nil
        go_simp
        refine hK.out _ _ (by exact hN9) (fun hHeld => ?_)
        clear hK K
        try simp only [Act.put, List.setIfInBounds_toArray, List.set_cons_zero, List.set_cons_succ, List.getElem_toArray, List.getElem_cons_succ, List.getElem_cons_zero]
        generalize (((w8.setCell ⟨T, 0, none⟩ (.int .i64 3)).setCell ⟨T, 1, none⟩ (.int .i64 0)).setCell ⟨T, 2, none⟩ (.slice (some ⟨w7.heap.size, 0, none⟩) 2 2)) = w9 at *
        clear m0 m1 m2 mf hf9
        refine wpAnyH_done (by kernel_rfl) ?_ _
        have R9 : Hid (Blk w9 w.heap.size #[.int .i64 0, .int .i64 0, .slice none 0 0] 36) := (kx _ (by omega)).trans R8.out
        have F9 : Hid (BFr w w9 B nv nv7) := ⟨hos9.1.trans F8.out.1, hos9.2.1.trans F8.out.2.1, hos9.2.2.trans F8.out.2.2.1, by have := F8.out.2.2.2.1; omega, fun q hq h1 h2 => (kx q (by omega)).trans (F8.out.2.2.2.2.1 q hq h1 h2), F8.out.2.2.2.2.2⟩
        have Z9 : Hid (Rst N B s nm r7.pos r7.k nv7 w9) := by
          have hb9 : Below N w8 w9 := ⟨hos9.1, hos9.2.1, hos9.2.2, by omega, fun q hq => kx q (by have := Z8.out.nb; omega)⟩
          refine ⟨?_, Z8.out.own.kept (row := some T) ⟨hos9.1, hos9.2.1, hos9.2.2, by omega, fun q hq hn => kx q (fun e => hn (by rw [e]))⟩ (Or.inr fun e => hTo7 e.symm), Z8.out.nb, hN9, Z8.out.tb.on hb9, Z8.out.ts.on hb9⟩
          have hbx := Z8.out.bx
          unfold Bl Blk at hbx ⊢
          rw [kx B (fun e => hTB e.symm)]
          exact hbx
        have P9 : Hid (Blk w9 w7.heap.size #[.int .i64 t.kind, .int .i64 t.idx, .slice a t.subs.length c, .int .i64 r7.t.kind, .int .i64 r7.t.idx, .slice a7 r7.t.subs.length c7] 36) := (kx _ (by omega)).trans P8.out
        have S9 : Hid (SlM w9 (fun b => w.heap.size < b ∧ b ≠ T ∧ some b ≠ nv7.ownBlock) (some ⟨w7.heap.size, 0, none⟩) [t, r7.t]) := lies_twoL hXS.out (P9.out.cell 0) (P9.out.cell 1) (P9.out.cell 2) (P9.out.cell 3) (P9.out.cell 4) (P9.out.cell 5) (S8.out.kept fun q hq => kx q hq.2.1) (U8.out.kept fun q hq => kx q hq.2.1)
        have hAt9 := Z9.out.bx.at
        clear kx hos9 hz9 Z8 F8 R8 T8 S8 U8 P8 P9 Z7 F7 R7 T7 S7 U7
        go_wp2_with fail
        go_roundw
        case rel => exact ⟨f0, ⟨3, 0, [t, r7.t]⟩, r7.pos, r7.k, nv7, some ⟨w7.heap.size, 0, none⟩, 2, by omega, by omega, hpos7.2.1, hpos7.2.2.1, by omega, HR7.out, Z9.out, F9.out, R9.out, hRo7, T9.out, hTo7, S9.out⟩
        case measure => rw [hAt9, hAt]; omega
end Go.Proofs.YtcdabjekppddjaaGreatDoor


/- Walks: Text. -/
namespace Go.Proofs.YtcdabjekppddjaaGreatDoor
open Go.RowKit
set_option linter.unusedSimpArgs false
set_option linter.unusedVariables false
set_option maxRecDepth 8000

theorem Tb.raise {B B' : Nat} {w w' : World} (h : Tb B w) (hb : Below B w w') (hle : B ≤ B') : Tb B' w' := fun w'' h2 => h w'' (hb.trans (h2.mono hle))

end Go.Proofs.YtcdabjekppddjaaGreatDoor

/- Walks: reading a text as a lambda term, and what is thrown is caught. -/
namespace Go.Proofs.YtcdabjekppddjaaGreatDoor
open Go.RowKit
set_option linter.unusedSimpArgs false
set_option linter.unusedVariables false
set_option maxRecDepth 8000

theorem lread_all (N B : Nat) (s : ByteArray) (hs : s.size ≤ 4000) : ∀ F, (∀ F', F' ≤ F → LTerm N B s F' ∧ LPiece N B s F') := by
  intro F
  induction F with
  | zero =>
    intro F' hF'
    have : F' = 0 := by omega
    subst this
    exact ⟨fun nm nv i k w h h1 h2 h3 h4 => by omega, fun nm nv i k w h h1 h2 h3 h4 => by omega⟩
  | succ F ih =>
    intro F' hF'
    by_cases h : F' = F + 1
    · subst h
      exact ⟨lterm_of N B s hs F (ih F (Nat.le_refl _)).1 (fun F' h => (ih F' h).2), lpiece_of N B s hs F (ih F (Nat.le_refl _)).1⟩
    · exact ih F' (by omega)

theorem assertErrnoL (v : Value) (xT : TypeId) (w : World) : (Instr.typeAssert (.iface 26 v) xT 26 false).run Tryz.prog w = .ok v w := by
  simp [Instr.typeAssert, run_underlying Tryz.underlying26, go_sem, Result.andThen]

theorem catchL_panicking (Pt Pe : Nat) (z z0 : Int) (x0 x1 : Int) (x2 : Value) (w : World) (ht : Blk w Pt #[.int .i64 x0, .int .i64 x1, x2] 36) (he : Blk w Pe #[.int .i64 z0] 26) :
    CallsD Tryz.prog 85 #[.pointer (some ⟨Pt, 0, none⟩), .pointer (some ⟨Pe, 0, none⟩)] (.panicking [{ v := .iface 26 (.int .i64 z), recovered := false }]) w fun e u' w' =>
      e = .returned (.tuple #[]) ∧ u' = .panicking [{ v := .iface 26 (.int .i64 z), recovered := true }] ∧ w' = ((((w.setCell ⟨Pt, 0, none⟩ (.int .i64 0)).setCell ⟨Pt, 1, none⟩ (.int .i64 0)).setCell ⟨Pt, 2, none⟩ (.slice none 0 0)).setCell ⟨Pe, 0, none⟩ (.int .i64 z)).drew := by
  refine callsD_of_wpS Tryz.func85 rfl fun c₀ cs hu => ?_
  apply wpS_seq
  apply wpS_region
  simp [wpOpsS, go_sem, recoverD, hu, Tryz.ntmps85, Exit.thenS]
  apply wpS_seq
  apply wpS_region
  simp [wpOpsS, go_sem, Exit.thenS, Array.replicate]
  refine wpS_cond (t := true) (by simp [Act.eval, Array.replicate]) ?_
  simp only [if_true]
  refine wpS_of_wp ?_
  have t0 : w.cell? ⟨Pt, 0, none⟩ = some (.int .i64 x0) := ht.cell 0
  have t1 : w.cell? ⟨Pt, 1, none⟩ = some (.int .i64 x1) := ht.cell 1
  have t2 : w.cell? ⟨Pt, 2, none⟩ = some x2 := ht.cell 2
  have tf := ht.frozen
  have e0 : w.cell? ⟨Pe, 0, none⟩ = some (.int .i64 z0) := he.cell 0
  have ef := he.frozen
  have hne : ¬ Pt = Pe := fun h => by
    subst h
    unfold Blk at ht he
    rw [ht] at he
    simp at he
  have hne2 : ¬ Pe = Pt := fun h => hne h.symm
  have hta := assertErrnoL (.int .i64 z)
  go_region
  exact ⟨rfl, _, rfl, .tuple #[], by simp [results, Tryz.results85, go_sem], rfl, rfl, rfl⟩

theorem catchL_idle (Pt Pe : Nat) (w : World) :
    CallsD Tryz.prog 85 #[.pointer (some ⟨Pt, 0, none⟩), .pointer (some ⟨Pe, 0, none⟩)] .returning w fun e u' w' => e = .returned (.tuple #[]) ∧ u' = .returning ∧ w' = w := by
  refine callsD_of_wpS Tryz.func85 rfl fun c₀ cs hu => ?_
  apply wpS_seq
  apply wpS_region
  simp [wpOpsS, go_sem, recoverD, hu, Tryz.ntmps85, Exit.thenS]
  apply wpS_seq
  apply wpS_region
  simp [wpOpsS, go_sem, Exit.thenS, Array.replicate]
  refine wpS_cond (t := false) (by simp [Act.eval, Array.replicate]) ?_
  simp only [Bool.false_eq_true, if_false]
  refine wpS_of_wp (wp_skip ?_)
  cases c₀
  simp_all [bodyPostS, results, Tryz.results85]

/-- What making a reader does. -/
def NewPostL (w : World) (s : ByteArray) (e : Ending) (w' : World) : Prop :=
  if 4000 < s.size then e = thrownL 3 ∧ Below w.heap.size w w' else e = .returned (.agg #[.string s, .int .i64 0, .int .i64 0]) ∧ Below w.heap.size w w'
theorem new_anyL (s : ByteArray) (w : World) : Calls Tryz.prog 87 #[.string s] w fun e w' => NewPostL w s e w' := by
  by_cases hs : 4000 < s.size
  · have HP : Hid (∀ w', Below w.heap.size w w' → NewPostL w s (thrownL 3) w') := fun w' h => by unfold NewPostL; rw [if_pos hs]; exact ⟨rfl, h⟩
    go_enter Tryz.func87, Tryz.ntmps87
    go_wp2_with fail
    exact ⟨rfl, HP.out _ (by first | exact Below.refl _ _ | exact (Below.refl _ _).alloc (Nat.le_refl _) _)⟩
  · have HP : Hid (∀ w', Below w.heap.size w w' → NewPostL w s (.returned (.agg #[.string s, .int .i64 0, .int .i64 0])) w') := fun w' h => by unfold NewPostL; rw [if_neg hs]; exact ⟨rfl, h⟩
    go_enter Tryz.func87, Tryz.ntmps87
    go_wp2_with fail
    refine bodyPost_ret (v := .agg #[.string s, .int .i64 0, .int .i64 0]) (by simp [results, Tryz.results87, go_sem, World.cell?_setCell_same, World.cell?_setCell_other]) rfl ?_
    exact HP.out _ (by first | exact Below.refl _ _ | exact (Below.refl _ _).alloc (Nat.le_refl _) _)
def EndPostL (w : World) (e : Ending) (w' : World) : Prop := (∃ v, e = .returned v) ∧ ∃ m, w' = w.drewN m
theorem end_yesL {nv : Value} (B i k : Nat) (s : ByteArray) (he : i = s.size) (w : World) (h : Bl nv w B s i k) :
    Calls Tryz.prog 90 #[.pointer (some ⟨B, 0, none⟩)] w fun e w' => EndPostL w e w' := by
  have HA := hide (atEnd_yesL (nv := nv) B i k s he w h)
  clear he h
  go_enter Tryz.func90, Tryz.ntmps90
  go_wp2_with fail
  refine HA.out.mono ?_
  rintro e w' ⟨rfl, m, rfl⟩
  go_wp2_with fail
  refine bodyPost_ret (v := .tuple #[]) (by simp [results, Tryz.results90, go_sem]) rfl ?_
  exact ⟨⟨_, rfl⟩, m, rfl⟩
theorem end_noL {nv : Value} (B i k : Nat) (s : ByteArray) (he : ¬ i = s.size) (w : World) (h : Bl nv w B s i k) :
    Calls Tryz.prog 90 #[.pointer (some ⟨B, 0, none⟩)] w fun e w' => e = thrownL 12 ∧ ∃ m, w' = w.drewN m := by
  have HA := hide (atEnd_noL (nv := nv) B i k s he w h)
  clear he h
  go_enter Tryz.func90, Tryz.ntmps90
  go_wp2_with fail
  refine HA.out.mono ?_
  rintro e w' ⟨rfl, m, rfl⟩
  go_wp2_with fail
  exact ⟨rfl, rfl, m, rfl⟩

/-- What reading a whole text gives. -/
def lrdAll (s : ByteArray) (fr : List ByteArray) : Lrd :=
  if freE fr ≠ 0 then noLr (freE fr)
  else if 4000 < s.size then noLr 3
  else if (lrd s (3 * s.size + 3) .term fr 0 0).err ≠ 0 then noLr (lrd s (3 * s.size + 3) .term fr 0 0).err
  else if (lrd s (3 * s.size + 3) .term fr 0 0).pos = s.size then lrd s (3 * s.size + 3) .term fr 0 0
  else noLr 12
def ParsePostL (w : World) (r : Lrd) (e : Ending) (w' : World) : Prop :=
  ∃ v, e = .returned (.tuple #[v, .int .i64 r.err]) ∧ (r.err = 0 → MV w' (fun b => w.heap.size ≤ b) v r.t) ∧ (r.err ≠ 0 → v = .agg #[.int .i64 0, .int .i64 0, .slice none 0 0]) ∧ Below w.heap.size w w'
theorem parseL_no {w w' : World} {r : Lrd} {z : Int} (h : r = noLr z) (hz : z ≠ 0) (hb : Below w.heap.size w w') : ParsePostL w r (.returned (.tuple #[.agg #[.int .i64 0, .int .i64 0, .slice none 0 0], .int .i64 z])) w' := by
  subst h
  exact ⟨_, rfl, fun h => absurd h hz, fun _ => rfl, hb⟩

/-- A copy of names. -/
theorem cloneN_any (fr : List ByteArray) (fa : Option Addr) (fc : Nat) (w : World) (Y : Nat → Prop) (hl : fr.length ≤ 1000) (h : LV Value.string w Y (.slice fa fr.length fc) fr) :
    Calls Tryz.prog 88 #[.slice fa fr.length fc] w fun e w' => ∃ v', e = .returned v' ∧ w'.ownsRow w.heap.size 9 1 v' fr.length (fr.map Value.string) ∧ Below w.heap.size w w' := by
  obtain ⟨a2, c2, e2, ⟨_, hc2⟩, h3⟩ := h
  simp at e2
  obtain ⟨rfl, rfl⟩ := e2
  cases fa with
  | none =>
    rcases h3 with rfl | ⟨b, o, e, _⟩
    · refine (Tryz.slices_Clone_string_nil _ _ w).mono ?_
      rintro e w' ⟨rfl, rfl⟩
      exact ⟨_, rfl, World.ownsRow_nil _ _ _ _, Below.refl _ _⟩
    · cases e
  | some ad =>
    by_cases h0 : fr = []
    · subst h0
      refine (Tryz.slices_Clone_string_zero ad fc w).mono ?_
      rintro e w' ⟨v', rfl, ho, _, hb⟩
      exact ⟨v', rfl, ho, hb⟩
    · obtain ⟨b, o, e, _, hcl⟩ := h3.resolve_left h0
      cases e
      refine (Tryz.slices_Clone_string b o fr.length fc fr w (Nat.le_refl _) (by omega) (fun j hj => by
        have := hcl j hj
        rw [this]
        simp [List.getD, hj])).mono ?_
      rintro e w' ⟨v', rfl, ho, _, hb⟩
      exact ⟨v', rfl, by simpa using ho, hb⟩

set_option maxHeartbeats 4000000 in
theorem parseL_any (s : ByteArray) (fr : List ByteArray) (fa : Option Addr) (fc : Nat) (w : World) (Y : Nat → Prop) (hf : LV Value.string w Y (.slice fa fr.length fc) fr) (hT : Tb w.heap.size w) (hS : Tse w.heap.size w) :
    Calls Tryz.prog 72 #[.string s, .slice fa fr.length fc] w fun e w' => ParsePostL w (lrdAll s fr) e w' := by
  have hmf : ∀ (fn : Fn) (first cap : Array Value) (w : World), (Instr.makeFunc fn first cap).run Tryz.prog w = .ok (.func fn first cap) w := fun _ _ _ _ => rfl
  have HN := hide hf
  have HT := hide hT
  have HS := hide hS
  obtain ⟨r, hr⟩ : ∃ r, r = lrdAll s fr := ⟨_, rfl⟩
  have HR0 : Hid (r = if freE fr ≠ 0 then noLr (freE fr) else if 4000 < s.size then noLr 3 else if (lrd s (3 * s.size + 3) .term fr 0 0).err ≠ 0 then noLr (lrd s (3 * s.size + 3) .term fr 0 0).err else if (lrd s (3 * s.size + 3) .term fr 0 0).pos = s.size then lrd s (3 * s.size + 3) .term fr 0 0 else noLr 12) := by unfold Hid; rw [hr]; rfl
  rw [← hr]
  clear hr hf hT hS
  go_enter_defers Tryz.func72, Tryz.ntmps72
  go_wp2_with fail
  have PT2 := hide (show Blk ((w.alloc (.cells #[.int .i64 0, .int .i64 0, .slice none 0 0] 36)).alloc (.cells #[.int .i64 0] 26)) w.heap.size #[.int .i64 0, .int .i64 0, .slice none 0 0] 36 from (Blk.new w _ _).alloc _)
  have PE2 : Hid (Blk ((w.alloc (.cells #[.int .i64 0, .int .i64 0, .slice none 0 0] 36)).alloc (.cells #[.int .i64 0] 26)) (w.heap.size + 1) #[.int .i64 0] 26) := by
    have h := Blk.new (w.alloc (.cells #[.int .i64 0, .int .i64 0, .slice none 0 0] 36)) #[.int .i64 0] 26
    have hz : (w.alloc (.cells #[.int .i64 0, .int .i64 0, .slice none 0 0] 36)).heap.size = w.heap.size + 1 := by simp
    rw [hz] at h
    exact h
  have PB2 := hide (show Below w.heap.size w ((w.alloc (.cells #[.int .i64 0, .int .i64 0, .slice none 0 0] 36)).alloc (.cells #[.int .i64 0] 26)) from ((Below.refl _ _).alloc (Nat.le_refl _) _).alloc (by simp) _)
  have hz2 : ((w.alloc (.cells #[.int .i64 0, .int .i64 0, .slice none 0 0] 36)).alloc (.cells #[.int .i64 0] 26)).heap.size = w.heap.size + 2 := by simp
  generalize ((w.alloc (.cells #[.int .i64 0, .int .i64 0, .slice none 0 0] 36)).alloc (.cells #[.int .i64 0] 26)) = w2 at *
  refine (lNames_any fr _ _ Y (by exact HN.out.later PB2.out)).mono ?_
  rintro e w3 ⟨rfl, hb3⟩
  have PT3 := hide (PT2.out.below hb3 PT2.out.lt)
  have PE3 := hide (PE2.out.below hb3 PE2.out.lt)
  have PB3 := hide (PB2.out.trans (hb3.mono PB2.out.size))
  have hz3 := hb3.size
  clear hb3 PT2 PE2 PB2
  by_cases h1 : freE fr = 0
  case neg =>
    have HRF : Hid (r = noLr (freE fr)) := by unfold Hid; rw [HR0.out, if_pos h1]
    have hne : (freE fr == 0) = false := by simpa using h1
    have hne2 : (freE fr != 0) = true := by simpa using h1
    go_wp2_with fail
    refine leaves_cons (f := 85) (args := #[.pointer (some ⟨w.heap.size, 0, none⟩), .pointer (some ⟨w.heap.size + 1, 0, none⟩)]) (by simp) (by simp [go_sem]) ?_
    refine (catchL_panicking w.heap.size (w.heap.size + 1) (freE fr) 0 _ _ _ w3 PT3.out PE3.out).mono ?_
    rintro e u' w'' ⟨rfl, rfl, rfl⟩
    have Q := (lt_set3 PT3.out (.int .i64 0) (.int .i64 0) (.slice none 0 0)).setOther (b' := w.heap.size + 1) 0 (.int .i64 (freE fr)) (by omega)
    have q0 := Q.cell 0
    have q1 := Q.cell 1
    have q2 := Q.cell 2
    have q3 := ((lt_set3o (B := w.heap.size) PE3.out (by omega) (.int .i64 0) (.int .i64 0) (.slice none 0 0)).set 0 (.int .i64 (freE fr))).cell 0
    simp at q0 q1 q2 q3
    simp [Leaves, settle, results, Tryz.results72, go_sem, q0, q1, q2, q3]
    exact parseL_no HRF.out h1 (((((PB3.out).setCell (by simp) _).setCell (by simp) _).setCell (by simp) _).setCell (by simp) _).drew
  have HR1 := hide (show r = _ from (HR0.out).trans (if_neg (by rw [h1]; simp)))
  have h40 := (freE_at h1).1
  rw [h1]
  clear HR0 h1
  go_wp2_with fail
  refine (new_anyL s w3).mono ?_
  intro e w4 hp
  unfold NewPostL at hp
  by_cases hs : 4000 < s.size
  case pos =>
    rw [if_pos hs] at hp
    obtain ⟨he, hb4⟩ := hp
    unfold thrownL at he
    subst he
    have HRF : Hid (r = noLr 3) := by unfold Hid; rw [HR1.out, if_pos hs]
    have PT4 := PT3.out.below hb4 PT3.out.lt
    have PE4 := PE3.out.below hb4 PE3.out.lt
    have PB4 := PB3.out.trans (hb4.mono PB3.out.size)
    refine leaves_cons (f := 85) (args := #[.pointer (some ⟨w.heap.size, 0, none⟩), .pointer (some ⟨w.heap.size + 1, 0, none⟩)]) (by simp) (by simp [go_sem]) ?_
    refine (catchL_panicking w.heap.size (w.heap.size + 1) (3) 0 _ _ _ w4 PT4 PE4).mono ?_
    rintro e u' w'' ⟨rfl, rfl, rfl⟩
    have Q := (lt_set3 PT4 (.int .i64 0) (.int .i64 0) (.slice none 0 0)).setOther (b' := w.heap.size + 1) 0 (.int .i64 (3)) (by omega)
    have q0 := Q.cell 0
    have q1 := Q.cell 1
    have q2 := Q.cell 2
    have q3 := ((lt_set3o (B := w.heap.size) PE4 (by omega) (.int .i64 0) (.int .i64 0) (.slice none 0 0)).set 0 (.int .i64 (3))).cell 0
    simp at q0 q1 q2 q3
    simp [Leaves, settle, results, Tryz.results72, go_sem, q0, q1, q2, q3]
    exact parseL_no HRF.out (by decide) (((((PB4).setCell (by simp) _).setCell (by simp) _).setCell (by simp) _).setCell (by simp) _).drew
  rw [if_neg hs] at hp
  obtain ⟨rfl, hb4⟩ := hp
  have HR2 := hide (show r = _ from (HR1.out).trans (if_neg hs))
  have PT4 := hide (PT3.out.below hb4 PT3.out.lt)
  have PE4 := hide (PE3.out.below hb4 PE3.out.lt)
  have PB4 := hide (PB3.out.trans (hb4.mono PB3.out.size))
  have hz4 := hb4.size
  clear hb4 PT3 PE3 PB3 HR1
  go_wp2_with fail
  refine (cloneN_any fr fa fc w4 Y (by omega) (by exact HN.out.later PB4.out)).mono ?_
  rintro e w5 ⟨nv, rfl, ho5, hb5⟩
  have PT5 := hide ((PT4.out.below hb5 PT4.out.lt).alloc (.cells #[.string s, .int .i64 0, .int .i64 0, nv] 102))
  have PE5 := hide ((PE4.out.below hb5 PE4.out.lt).alloc (.cells #[.string s, .int .i64 0, .int .i64 0, nv] 102))
  have hz5 := hb5.size
  have PB5 := hide ((PB4.out.trans (hb5.mono PB4.out.size)).alloc (by omega) (.cells #[.string s, .int .i64 0, .int .i64 0, nv] 102))
  have ZX : Hid (Rst w4.heap.size w5.heap.size s fr 0 0 nv (w5.alloc (.cells #[.string s, .int .i64 0, .int .i64 0, nv] 102))) := by
    have hbb : Below w.heap.size w (w5.alloc (.cells #[.string s, .int .i64 0, .int .i64 0, nv] 102)) := PB5.out
    exact ⟨Blk.new w5 _ _, ho5.alloc _, hz5, by simp; omega, HT.out.raise hbb (by omega), HS.out.raise hbb (by omega)⟩
  have hnv : ∃ a k c, nv = .slice a k c := by
    rcases ho5.2 with ⟨h, _⟩ | ⟨g, cap, cur, h, _⟩
    · exact ⟨_, _, _, h⟩
    · exact ⟨_, _, _, h⟩
  obtain ⟨na, nl, nc, rfl⟩ := hnv
  have hlast := hide (lread_all w4.heap.size w5.heap.size s (by omega) (3 * s.size + 3) (3 * s.size + 3) (Nat.le_refl _)).1
  clear ho5 hb5 PT4 PE4 PB4
  go_wp2_with fail
  have hz6 : (w5.alloc (.cells #[.string s, .int .i64 0, .int .i64 0, .slice na nl nc] 102)).heap.size = w5.heap.size + 1 := by simp
  generalize (w5.alloc (.cells #[.string s, .int .i64 0, .int .i64 0, .slice na nl nc] 102)) = w6 at *
  refine (hlast.out fr _ 0 0 w6 ZX.out (by omega) (by omega) (by omega) (by omega)).mono ?_
  intro e w7 hp
  generalize lrd s (3 * s.size + 3) .term fr 0 0 = q at *
  have hPT := PT5.out.lt
  have hPE := PE5.out.lt
  have hn0 : Hid (∀ b, b < w4.heap.size → some b ≠ (Value.slice na nl nc).ownBlock) := fun b hb e => by have := (ZX.out.own.lt _ e.symm).1; omega
  rcases hp with ⟨hr0, nv7, a, c, rfl, hs7, hst7, hf7⟩ | ⟨hr0, rfl, nv7, hf7⟩
  case inr =>
    have HRF : Hid (r = noLr q.err) := by unfold Hid; rw [HR2.out, if_pos hr0]
    have PT7 := blk_bfr PT5.out hf7 (by omega) (hn0.out _ (by omega))
    have PE7 := blk_bfr PE5.out hf7 (by omega) (hn0.out _ (by omega))
    have PB7 := PB5.out.trans ((ZX.out.fr hf7).mono (by omega))
    refine leaves_cons (f := 85) (args := #[.pointer (some ⟨w.heap.size, 0, none⟩), .pointer (some ⟨w.heap.size + 1, 0, none⟩)]) (by simp) (by simp [go_sem]) ?_
    refine (catchL_panicking w.heap.size (w.heap.size + 1) (q.err) 0 _ _ _ w7 PT7 PE7).mono ?_
    rintro e u' w'' ⟨rfl, rfl, rfl⟩
    have Q := (lt_set3 PT7 (.int .i64 0) (.int .i64 0) (.slice none 0 0)).setOther (b' := w.heap.size + 1) 0 (.int .i64 (q.err)) (by omega)
    have q0 := Q.cell 0
    have q1 := Q.cell 1
    have q2 := Q.cell 2
    have q3 := ((lt_set3o (B := w.heap.size) PE7 (by omega) (.int .i64 0) (.int .i64 0) (.slice none 0 0)).set 0 (.int .i64 (q.err))).cell 0
    simp at q0 q1 q2 q3
    simp [Leaves, settle, results, Tryz.results72, go_sem, q0, q1, q2, q3]
    exact parseL_no HRF.out hr0 (((((PB7).setCell (by simp) _).setCell (by simp) _).setCell (by simp) _).setCell (by simp) _).drew
  have HR3 := hide (show r = _ from (HR2.out).trans (if_neg (by rw [hr0]; simp)))
  have PT7 := hide (blk_bfr PT5.out hf7 (by omega) (hn0.out _ (by omega)))
  have PE7 := hide (blk_bfr PE5.out hf7 (by omega) (hn0.out _ (by omega)))
  have PB7 := hide (PB5.out.trans ((ZX.out.fr hf7).mono (by omega)))
  have X7 := hide hst7.bx
  have HQ0 := hide hr0
  have S7 := hide (hs7.mono (Y := fun b => w.heap.size + 2 ≤ b) fun b hb _ => by omega)
  clear hs7 hst7 hf7 hr0 PT5 PE5 PB5 ZX HR2 hlast
  have t0 : w7.cell? ⟨w.heap.size, 0, none⟩ = some (.int .i64 0) := PT7.out.cell 0
  have t1 : w7.cell? ⟨w.heap.size, 1, none⟩ = some (.int .i64 0) := PT7.out.cell 1
  have t2 : w7.cell? ⟨w.heap.size, 2, none⟩ = some (.slice none 0 0) := PT7.out.cell 2
  have tf := PT7.out.frozen
  go_wp2_with fail
  have PT8 := hide (lt_set3 PT7.out (.int .i64 q.t.kind) (.int .i64 q.t.idx) (.slice a q.t.subs.length c))
  have PE8 := hide (lt_set3o (B := w.heap.size) PE7.out (by omega) (.int .i64 q.t.kind) (.int .i64 q.t.idx) (.slice a q.t.subs.length c))
  have X8 : Hid (Bl nv7 (((w7.setCell ⟨w.heap.size, 0, none⟩ (.int .i64 q.t.kind)).setCell ⟨w.heap.size, 1, none⟩ (.int .i64 q.t.idx)).setCell ⟨w.heap.size, 2, none⟩ (.slice a q.t.subs.length c)) w5.heap.size s q.pos q.k) := lt_set3o X7.out (by omega) _ _ _
  have PB8 := hide (((PB7.out.setCell (p := ⟨w.heap.size, 0, none⟩) (by simp) (.int .i64 q.t.kind)).setCell (p := ⟨w.heap.size, 1, none⟩) (by simp) (.int .i64 q.t.idx)).setCell (p := ⟨w.heap.size, 2, none⟩) (by simp) (.slice a q.t.subs.length c))
  have S8 : Hid (SlM (((w7.setCell ⟨w.heap.size, 0, none⟩ (.int .i64 q.t.kind)).setCell ⟨w.heap.size, 1, none⟩ (.int .i64 q.t.idx)).setCell ⟨w.heap.size, 2, none⟩ (.slice a q.t.subs.length c)) (fun b => w.heap.size + 2 ≤ b) a q.t.subs) := S7.out.kept fun b hb => by rw [Below.heap_setCell _ _ _ _ (by simp; omega), Below.heap_setCell _ _ _ _ (by simp; omega), Below.heap_setCell _ _ _ _ (by simp; omega)]
  clear t0 t1 t2 tf
  generalize (((w7.setCell ⟨w.heap.size, 0, none⟩ (.int .i64 q.t.kind)).setCell ⟨w.heap.size, 1, none⟩ (.int .i64 q.t.idx)).setCell ⟨w.heap.size, 2, none⟩ (.slice a q.t.subs.length c)) = w8 at *
  clear PT7 PE7 X7 PB7 S7
  by_cases hps : q.pos = s.size
  case neg =>
    refine (end_noL w5.heap.size q.pos q.k s hps _ X8.out).mono ?_
    rintro e w9 ⟨he, n9, rfl⟩
    unfold thrownL at he
    subst he
    have HRF : Hid (r = noLr 12) := by unfold Hid; rw [HR3.out, if_neg hps]
    have PT9 := PT8.out.drewN n9
    have PE9 := PE8.out.drewN n9
    have PB9 := below_drewN PB8.out n9
    generalize w8.drewN n9 = w9 at *
    refine leaves_cons (f := 85) (args := #[.pointer (some ⟨w.heap.size, 0, none⟩), .pointer (some ⟨w.heap.size + 1, 0, none⟩)]) (by simp) (by simp [go_sem]) ?_
    refine (catchL_panicking w.heap.size (w.heap.size + 1) (12) 0 _ _ _ w9 PT9 PE9).mono ?_
    rintro e u' w'' ⟨rfl, rfl, rfl⟩
    have Q := (lt_set3 PT9 (.int .i64 0) (.int .i64 0) (.slice none 0 0)).setOther (b' := w.heap.size + 1) 0 (.int .i64 (12)) (by omega)
    have q0 := Q.cell 0
    have q1 := Q.cell 1
    have q2 := Q.cell 2
    have q3 := ((lt_set3o (B := w.heap.size) PE9 (by omega) (.int .i64 0) (.int .i64 0) (.slice none 0 0)).set 0 (.int .i64 (12))).cell 0
    simp at q0 q1 q2 q3
    simp [Leaves, settle, results, Tryz.results72, go_sem, q0, q1, q2, q3]
    exact parseL_no HRF.out (by decide) (((((PB9).setCell (by simp) _).setCell (by simp) _).setCell (by simp) _).setCell (by simp) _).drew
  refine (end_yesL w5.heap.size q.pos q.k s hps _ X8.out).mono ?_
  rintro e w9 ⟨⟨v9, rfl⟩, n9, rfl⟩
  have PT9 := hide (PT8.out.drewN n9)
  have PE9 := hide (PE8.out.drewN n9)
  have PB9 := hide (below_drewN PB8.out n9)
  have S9 : Hid (SlM (w8.drewN n9) (fun b => w.heap.size + 2 ≤ b) a q.t.subs) := S8.out.kept fun b hb => rfl
  generalize w8.drewN n9 = w9 at *
  clear PT8 PE8 PB8 S8 X8
  have t0 : w9.cell? ⟨w.heap.size, 0, none⟩ = some (.int .i64 q.t.kind) := PT9.out.cell 0
  have t1 : w9.cell? ⟨w.heap.size, 1, none⟩ = some (.int .i64 q.t.idx) := PT9.out.cell 1
  have t2 : w9.cell? ⟨w.heap.size, 2, none⟩ = some (.slice a q.t.subs.length c) := PT9.out.cell 2
  have tf := PT9.out.frozen
  have e0 : w9.cell? ⟨w.heap.size + 1, 0, none⟩ = some (.int .i64 0) := PE9.out.cell 0
  have ef := PE9.out.frozen
  have HRF : Hid (r = q) := by unfold Hid; rw [HR3.out, if_pos hps]
  go_wp2_with fail
  refine leaves_cons (f := 85) (args := #[.pointer (some ⟨w.heap.size, 0, none⟩), .pointer (some ⟨w.heap.size + 1, 0, none⟩)]) (by simp) (by simp [go_sem]) ?_
  refine (catchL_idle w.heap.size (w.heap.size + 1) _).mono ?_
  rintro e u' w'' ⟨rfl, rfl, rfl⟩
  have Q := (lt_set3 PT9.out (.int .i64 q.t.kind) (.int .i64 q.t.idx) (.slice a q.t.subs.length c)).setOther (b' := w.heap.size + 1) 0 (.int .i64 0) (by omega)
  have q0 := Q.cell 0
  have q1 := Q.cell 1
  have q2 := Q.cell 2
  have q3 := ((lt_set3o (B := w.heap.size) PE9.out (by omega) (.int .i64 q.t.kind) (.int .i64 q.t.idx) (.slice a q.t.subs.length c)).set 0 (.int .i64 0)).cell 0
  simp at q0 q1 q2 q3
  simp [Leaves, settle, results, Tryz.results72, go_sem, q0, q1, q2, q3]
  refine ⟨.agg #[.int .i64 q.t.kind, .int .i64 q.t.idx, .slice a q.t.subs.length c], by rw [HRF.out, HQ0.out], fun _ => ?_, fun h => absurd (by rw [HRF.out]; exact HQ0.out) h, (((PB9.out.setCell (by simp) _).setCell (by simp) _).setCell (by simp) _).setCell (by simp) _⟩
  rw [HRF.out]
  exact ⟨a, c, rfl, (S9.out.kept fun b hb => by rw [Below.heap_setCell _ _ _ _ (by simp; omega), Below.heap_setCell _ _ _ _ (by simp; omega), Below.heap_setCell _ _ _ _ (by simp; omega), Below.heap_setCell _ _ _ _ (by simp; omega)]).mono fun b hb _ => by omega⟩
end Go.Proofs.YtcdabjekppddjaaGreatDoor

/- Walks: the program's names of constants; a leaf as a lambda term. -/
namespace Go.Proofs.YtcdabjekppddjaaGreatDoor
open Go.RowKit
set_option linter.unusedSimpArgs false
set_option linter.unusedVariables false
set_option maxRecDepth 8000

set_option maxHeartbeats 1000000 in
theorem cconst_any (s : ByteArray) (hn : nameB s = true) (B : Nat) (w : World) (hT : Tb B w) (hS : Tse B w) (hB : B ≤ w.heap.size) :
    Calls Tryz.prog 73 #[.string s] w fun e w' => (∃ n : Int, e = .returned (.tuple #[.int .i64 n, .bool (conN s).isSome]) ∧ ∀ k, conN s = some k → n = k) ∧ Below w.heap.size w w' := by
  have hz := name_sz hn
  obtain ⟨c0, hc0⟩ := tail_list s hz.1
  have hez : (s.extract 1 s.size).size ≤ 18 := by rw [ByteArray.size_extract]; omega
  have HT := hide hT
  have HS := hide hS
  have hsz : (1 : Int) ≤ (s.size : Int) := by omega
  have hs0 : 0 < s.size := hz.1
  have hfst : s[0] = c0 := by
    have h3 : s.data.toList[0]? = some c0 := by rw [hc0]; rfl
    rw [Array.getElem?_toList] at h3
    exact (Array.getElem?_eq_some_iff.1 h3).2
  go_enter Tryz.func73, Tryz.ntmps73
  by_cases h99 : c0 = 99
  rotate_left
  · have HC : Hid (conN s = none) := by
      cases hc : conN s with
      | none => rfl
      | some k =>
        obtain ⟨_, h2⟩ := conN_some hc
        rw [hc0] at h2
        simp only [List.cons.injEq] at h2
        exact absurd h2.1 h99
    have hne : ¬ ((s[0].toNat : Int) = 99) := fun h => h99 (by rw [← hfst]; exact UInt8.toNat_inj.1 (by simp; omega))
    have hne' : ((s[0].toNat : Int) == 99) = false := by simpa using hne
    clear hc0 hfst
    go_wp2_with fail
    go_ret2
    exact ⟨⟨0, by rw [HC.out]; rfl, fun k hk => by rw [HC.out] at hk; cases hk⟩, Below.refl _ _⟩
  subst h99
  have heq : (s[0].toNat : Int) = 99 := by rw [hfst]; rfl
  have heq' : ((s[0].toNat : Int) == 99) = true := by simpa using heq
  clear hfst
  go_wp2_with fail
  cases ha : Lib.atoi (s.extract 1 s.size).data.toList with
  | none =>
    have HC : Hid (conN s = none) := by
      cases hc : conN s with
      | none => rfl
      | some k => rw [con_tail hc0 hc] at ha; cases ha
    obtain ⟨tp, p, hvar⟩ := HS.out
    refine (Tryz.strconv_Atoi_err_var _ hez ha tp p _ (hvar _ (Below.refl _ _))).mono ?_
    rintro e w1 ⟨N, rfl, hN, hNb, hb1⟩
    have HB1 := hide hb1
    clear hb1 hNb hvar
    go_upto_region 4 with fail
    refine wp_region_held_drew (S := (fun _ => True)) (by kernel_rfl) trivial (fun hHeld => ?_)
    refine wpAnyH_take (i := 0) (v := ?_) rfl (by kernel_rfl) (by kernel_rfl) (by kernel_rfl) (fun _ _ _ h => h) (Or.inl ⟨by rfl, ?_⟩) (by assumption) ?_
    rotate_left
    · intro w' hSw
      go_simp <;> with_reducible rfl
    try simp only [Act.put, List.setIfInBounds_toArray, List.set_cons_zero, List.set_cons_succ, List.getElem_toArray, List.getElem_cons_succ, List.getElem_cons_zero]
    refine wpAnyH_take (i := 1) (v := ?_) rfl (by kernel_rfl) (by kernel_rfl) (by kernel_rfl) (fun _ _ _ h => h) (Or.inl ⟨by rfl, ?_⟩) (by assumption) ?_
    rotate_left
    · intro w' hSw
      go_simp <;> with_reducible rfl
    try simp only [Act.put, List.setIfInBounds_toArray, List.set_cons_zero, List.set_cons_succ, List.getElem_toArray, List.getElem_cons_succ, List.getElem_cons_zero]
    refine wpAnyH_take (i := 2) (v := ?_) rfl (by kernel_rfl) (by kernel_rfl) (by kernel_rfl) (fun _ _ _ h => h) (Or.inl ⟨by rfl, ?_⟩) (by assumption) ?_
    rotate_left
    · intro w' hSw
      go_simp <;> with_reducible rfl
    try simp only [Act.put, List.setIfInBounds_toArray, List.set_cons_zero, List.set_cons_succ, List.getElem_toArray, List.getElem_cons_succ, List.getElem_cons_zero]
    refine wpAnyH_take (i := 3) (v := ?_) rfl (by kernel_rfl) (by kernel_rfl) (by kernel_rfl) (fun _ _ _ h => h) (Or.inl ⟨by rfl, ?_⟩) (by assumption) ?_
    rotate_left
    · intro w' hSw
      go_simp <;> with_reducible rfl
    try simp only [Act.put, List.setIfInBounds_toArray, List.set_cons_zero, List.set_cons_succ, List.getElem_toArray, List.getElem_cons_succ, List.getElem_cons_zero]
    refine wpAnyH_take (i := 4) (v := undef) rfl (by kernel_rfl) (by kernel_rfl) (by kernel_rfl) (fun _ _ _ h => h) (Or.inr ⟨by rfl, rfl⟩) (by assumption) ?_
    try simp only [Act.put, List.setIfInBounds_toArray, List.set_cons_zero, List.set_cons_succ, List.getElem_toArray, List.getElem_cons_succ, List.getElem_cons_zero]
    refine wpAnyH_take (i := 5) (v := undef) rfl (by kernel_rfl) (by kernel_rfl) (by kernel_rfl) (fun _ _ _ h => h) (Or.inr ⟨by rfl, rfl⟩) (by assumption) ?_
    try simp only [Act.put, List.setIfInBounds_toArray, List.set_cons_zero, List.set_cons_succ, List.getElem_toArray, List.getElem_cons_succ, List.getElem_cons_zero]
    refine wpAnyH_take (i := 6) (v := ?_) rfl (by kernel_rfl) (by kernel_rfl) (by kernel_rfl) (fun _ _ _ h => h) (Or.inl ⟨by rfl, ?_⟩) (by assumption) ?_
    rotate_left
    · intro w' hSw
      go_simp <;> with_reducible rfl
    try simp only [Act.put, List.setIfInBounds_toArray, List.set_cons_zero, List.set_cons_succ, List.getElem_toArray, List.getElem_cons_succ, List.getElem_cons_zero]
    refine wpAnyH_take (i := 7) (v := ?_) rfl (by kernel_rfl) (by kernel_rfl) (by kernel_rfl) (fun _ _ _ h => h) (Or.inl ⟨by rfl, ?_⟩) (by assumption) ?_
    rotate_left
    · intro w' hSw
      go_simp <;> with_reducible rfl
    try simp only [Act.put, List.setIfInBounds_toArray, List.set_cons_zero, List.set_cons_succ, List.getElem_toArray, List.getElem_cons_succ, List.getElem_cons_zero]
    refine wpAnyH_take (i := 8) (v := undef) rfl (by kernel_rfl) (by kernel_rfl) (by kernel_rfl) (fun _ _ _ h => h) (Or.inr ⟨by rfl, rfl⟩) (by assumption) ?_
    try simp only [Act.put, List.setIfInBounds_toArray, List.set_cons_zero, List.set_cons_succ, List.getElem_toArray, List.getElem_cons_succ, List.getElem_cons_zero]
    refine wpAnyH_take (i := 9) (v := undef) rfl (by kernel_rfl) (by kernel_rfl) (by kernel_rfl) (fun _ _ _ h => h) (Or.inr ⟨by rfl, rfl⟩) (by assumption) ?_
    try simp only [Act.put, List.setIfInBounds_toArray, List.set_cons_zero, List.set_cons_succ, List.getElem_toArray, List.getElem_cons_succ, List.getElem_cons_zero]
    refine wpAnyH_take (i := 10) (v := undef) rfl (by kernel_rfl) (by kernel_rfl) (by kernel_rfl) (fun _ _ _ h => h) (Or.inr ⟨by rfl, rfl⟩) (by assumption) ?_
    try simp only [Act.put, List.setIfInBounds_toArray, List.set_cons_zero, List.set_cons_succ, List.getElem_toArray, List.getElem_cons_succ, List.getElem_cons_zero]
    refine wpAnyH_take (i := 11) (v := undef) rfl (by kernel_rfl) (by kernel_rfl) (by kernel_rfl) (fun _ _ _ h => h) (Or.inr ⟨by rfl, rfl⟩) (by assumption) ?_
    try simp only [Act.put, List.setIfInBounds_toArray, List.set_cons_zero, List.set_cons_succ, List.getElem_toArray, List.getElem_cons_succ, List.getElem_cons_zero]
    refine wpAnyH_take (i := 12) (v := undef) rfl (by kernel_rfl) (by kernel_rfl) (by kernel_rfl) (fun _ _ _ h => h) (Or.inr ⟨by rfl, rfl⟩) (by assumption) ?_
    try simp only [Act.put, List.setIfInBounds_toArray, List.set_cons_zero, List.set_cons_succ, List.getElem_toArray, List.getElem_cons_succ, List.getElem_cons_zero]
    refine wpAnyH_take (i := 13) (v := ?_) rfl (by kernel_rfl) (by kernel_rfl) (by kernel_rfl) (fun _ _ _ h => h) (Or.inl ⟨by rfl, ?_⟩) (by assumption) ?_
    rotate_left
    · intro w' hSw
      go_simp <;> with_reducible rfl
    try simp only [Act.put, List.setIfInBounds_toArray, List.set_cons_zero, List.set_cons_succ, List.getElem_toArray, List.getElem_cons_succ, List.getElem_cons_zero]
    refine wpAnyH_take (i := 14) (v := ?_) rfl (by kernel_rfl) (by kernel_rfl) (by kernel_rfl) (fun _ _ _ h => h) (Or.inl ⟨by rfl, ?_⟩) (by assumption) ?_
    rotate_left
    · intro w' hSw
      go_simp <;> with_reducible rfl
    try simp only [Act.put, List.setIfInBounds_toArray, List.set_cons_zero, List.set_cons_succ, List.getElem_toArray, List.getElem_cons_succ, List.getElem_cons_zero]
    refine wpAnyH_take (i := 15) (v := ?_) rfl (by kernel_rfl) (by kernel_rfl) (by kernel_rfl) (fun _ _ _ h => h) (Or.inl ⟨by rfl, ?_⟩) (by assumption) ?_
    rotate_left
    · intro w' hSw
      go_simp <;> with_reducible rfl
    try simp only [Act.put, List.setIfInBounds_toArray, List.set_cons_zero, List.set_cons_succ, List.getElem_toArray, List.getElem_cons_succ, List.getElem_cons_zero]
    refine wpAnyH_done (by kernel_rfl) ?_ _
    go_wp2_with fail
    go_ret2
    exact ⟨⟨0, by rw [HC.out]; rfl, fun k hk => by rw [HC.out] at hk; cases hk⟩, Below.drew HB1.out⟩
  | some n =>
    have hbd := Lib.atoi_bound ha (by have : (s.extract 1 s.size).data.toList.length = (s.extract 1 s.size).size := by rw [Array.length_toList]; rfl
                                      omega)
    refine (Tryz.strconv_Atoi _ n hez ha _).mono ?_
    rintro e w1 ⟨rfl, t, hw1⟩
    have HB1 : Hid (Below w.heap.size w w1) := by unfold Hid; rw [hw1]; exact Lib.bytesWorld_below _ _ _
    clear hw1
    have KD : Hid (Below w.heap.size w w1.drew) := Below.drew HB1.out
    have HA := hide ha
    clear ha
    by_cases h40 : n < 40
    · have hit : (Lib.itoa n).length ≤ 1000 := by
        have := Lib.itoa_length_le n (by omega) (by omega)
        omega
      have HCE : Hid ((Lib.itoa n == (s.extract 1 s.size).data.toList) = (conN s).isSome ∧ ∀ k, conN s = some k → n = k) := by
        refine ⟨?_, fun k hk => ?_⟩
        · rw [Bool.eq_iff_iff]
          constructor
          · intro h
            have h1 : Lib.itoa n = (s.extract 1 s.size).data.toList := by simpa using h
            rw [← h1] at hc0
            by_cases hneg : n < 0
            · rw [Lib.itoa, if_pos hneg] at hc0
              exact (neg_name hn hc0).elim
            · rw [Lib.itoa, if_neg hneg] at hc0
              rw [conN_is (k := n.toNat) (by omega) hc0]; rfl
          · intro h
            obtain ⟨k, hk⟩ := Option.isSome_iff_exists.1 h
            have h1 := con_tail hc0 hk
            rw [HA.out] at h1
            obtain ⟨h2, h3⟩ := conN_some hk
            have h4 : n = (k : Int) := Option.some.inj h1
            rw [hc0] at h3
            simp only [List.cons.injEq, true_and] at h3
            rw [h3, h4]; simp [Lib.itoa]
        · have h1 := con_tail hc0 hk
          rw [HA.out] at h1
          exact Option.some.inj h1
      clear hc0
      go_upto_region 4 with fail
      refine wp_region_held_drew (S := (fun _ => True)) (by kernel_rfl) trivial (fun hHeld => ?_)
      refine wpAnyH_take (i := 0) (v := ?_) rfl (by kernel_rfl) (by kernel_rfl) (by kernel_rfl) (fun _ _ _ h => h) (Or.inl ⟨by rfl, ?_⟩) (by assumption) ?_
      rotate_left
      · intro w' hSw
        go_simp <;> with_reducible rfl
      try simp only [Act.put, List.setIfInBounds_toArray, List.set_cons_zero, List.set_cons_succ, List.getElem_toArray, List.getElem_cons_succ, List.getElem_cons_zero]
      refine wpAnyH_take (i := 1) (v := ?_) rfl (by kernel_rfl) (by kernel_rfl) (by kernel_rfl) (fun _ _ _ h => h) (Or.inl ⟨by rfl, ?_⟩) (by assumption) ?_
      rotate_left
      · intro w' hSw
        go_simp <;> with_reducible rfl
      try simp only [Act.put, List.setIfInBounds_toArray, List.set_cons_zero, List.set_cons_succ, List.getElem_toArray, List.getElem_cons_succ, List.getElem_cons_zero]
      refine wpAnyH_take (i := 2) (v := ?_) rfl (by kernel_rfl) (by kernel_rfl) (by kernel_rfl) (fun _ _ _ h => h) (Or.inl ⟨by rfl, ?_⟩) (by assumption) ?_
      rotate_left
      · intro w' hSw
        go_simp <;> with_reducible rfl
      try simp only [Act.put, List.setIfInBounds_toArray, List.set_cons_zero, List.set_cons_succ, List.getElem_toArray, List.getElem_cons_succ, List.getElem_cons_zero]
      refine wpAnyH_take (i := 3) (v := ?_) rfl (by kernel_rfl) (by kernel_rfl) (by kernel_rfl) (fun _ _ _ h => h) (Or.inl ⟨by rfl, ?_⟩) (by assumption) ?_
      rotate_left
      · intro w' hSw
        go_simp <;> with_reducible rfl
      try simp only [Act.put, List.setIfInBounds_toArray, List.set_cons_zero, List.set_cons_succ, List.getElem_toArray, List.getElem_cons_succ, List.getElem_cons_zero]
      refine wpAnyH_take (i := 4) (v := ?_) rfl (by kernel_rfl) (by kernel_rfl) (by kernel_rfl) (fun _ _ _ h => h) (Or.inl ⟨by rfl, ?_⟩) (by assumption) ?_
      rotate_left
      · intro w' hSw
        go_simp <;> with_reducible rfl
      try simp only [Act.put, List.setIfInBounds_toArray, List.set_cons_zero, List.set_cons_succ, List.getElem_toArray, List.getElem_cons_succ, List.getElem_cons_zero]
      refine wpAnyH_take (i := 5) (v := ?_) rfl (by kernel_rfl) (by kernel_rfl) (by kernel_rfl) (fun _ _ _ h => h) (Or.inl ⟨by rfl, ?_⟩) (by assumption) ?_
      rotate_left
      · intro w' hSw
        go_simp <;> with_reducible rfl
      try simp only [Act.put, List.setIfInBounds_toArray, List.set_cons_zero, List.set_cons_succ, List.getElem_toArray, List.getElem_cons_succ, List.getElem_cons_zero]
      refine wpAnyH_take (i := 6) (v := ?_) rfl (by kernel_rfl) (by kernel_rfl) (by kernel_rfl) (fun _ _ _ h => h) (Or.inl ⟨by rfl, ?_⟩) (by assumption) ?_
      rotate_left
      · intro w' hSw
        go_simp <;> with_reducible rfl
      try simp only [Act.put, List.setIfInBounds_toArray, List.set_cons_zero, List.set_cons_succ, List.getElem_toArray, List.getElem_cons_succ, List.getElem_cons_zero]
      refine wpAnyH_take (i := 7) (v := ?_) rfl (by kernel_rfl) (by kernel_rfl) (by kernel_rfl) (fun _ _ _ h => h) (Or.inl ⟨by rfl, ?_⟩) (by assumption) ?_
      rotate_left
      · intro w' hSw
        go_simp <;> with_reducible rfl
      try simp only [Act.put, List.setIfInBounds_toArray, List.set_cons_zero, List.set_cons_succ, List.getElem_toArray, List.getElem_cons_succ, List.getElem_cons_zero]
      refine wpAnyH_take (i := 8) (v := ?_) rfl (by kernel_rfl) (by kernel_rfl) (by kernel_rfl) (fun _ _ _ h => h) (Or.inl ⟨by rfl, ?_⟩) (by assumption) ?_
      rotate_left
      · intro w' hSw
        go_simp <;> with_reducible rfl
      try simp only [Act.put, List.setIfInBounds_toArray, List.set_cons_zero, List.set_cons_succ, List.getElem_toArray, List.getElem_cons_succ, List.getElem_cons_zero]
      refine wpAnyH_take (i := 10) (v := ?_) rfl (by kernel_rfl) (by kernel_rfl) (by kernel_rfl) (fun _ _ _ h => h) (Or.inl ⟨by rfl, ?_⟩) (by assumption) ?_
      rotate_left
      · intro w' hSw
        go_simp <;> with_reducible rfl
      try simp only [Act.put, List.setIfInBounds_toArray, List.set_cons_zero, List.set_cons_succ, List.getElem_toArray, List.getElem_cons_succ, List.getElem_cons_zero]
      refine wpAnyH_take (i := 11) (v := ?_) rfl (by kernel_rfl) (by kernel_rfl) (by kernel_rfl) (fun _ _ _ h => h) (Or.inl ⟨by rfl, ?_⟩) (by assumption) ?_
      rotate_left
      · intro w' hSw
        go_simp <;> with_reducible rfl
      try simp only [Act.put, List.setIfInBounds_toArray, List.set_cons_zero, List.set_cons_succ, List.getElem_toArray, List.getElem_cons_succ, List.getElem_cons_zero]
      refine wpAnyH_ready (rs := [9]) (by kernel_rfl) (by simp) ?_
      refine AllReadyH.cons rfl (fun K hK => ?_) AllReadyH.nil
      go_simp
      go_at_call 77
      refine (Tryz.strconv_Itoa n (by omega) (by omega) _ (HT.out.on (KD.out.mono hB)).here).mono ?_
      rintro e w2 ⟨rfl, k2, os2, hw2⟩
      have HB2 : Hid (Below w.heap.size w w2) := by unfold Hid; rw [hw2]; exact KD.out.trans (Lib.below_grow _ _ KD.out.size _ _)
      clear hw2
      go_simp
      refine hK.out _ _ trivial (fun hHeld => ?_)
      clear hK K
      try simp only [Act.put, List.setIfInBounds_toArray, List.set_cons_zero, List.set_cons_succ, List.getElem_toArray, List.getElem_cons_succ, List.getElem_cons_zero]
      refine wpAnyH_take (i := 12) (v := ?_) rfl (by kernel_rfl) (by kernel_rfl) (by kernel_rfl) (fun _ _ _ h => h) (Or.inl ⟨by rfl, ?_⟩) (by assumption) ?_
      rotate_left
      · intro w' hSw
        go_simp <;> with_reducible rfl
      try simp only [Act.put, List.setIfInBounds_toArray, List.set_cons_zero, List.set_cons_succ, List.getElem_toArray, List.getElem_cons_succ, List.getElem_cons_zero]
      refine wpAnyH_take (i := 13) (v := ?_) rfl (by kernel_rfl) (by kernel_rfl) (by kernel_rfl) (fun _ _ _ h => h) (Or.inl ⟨by rfl, ?_⟩) (by assumption) ?_
      rotate_left
      · intro w' hSw
        go_simp <;> with_reducible rfl
      try simp only [Act.put, List.setIfInBounds_toArray, List.set_cons_zero, List.set_cons_succ, List.getElem_toArray, List.getElem_cons_succ, List.getElem_cons_zero]
      refine wpAnyH_take (i := 14) (v := ?_) rfl (by kernel_rfl) (by kernel_rfl) (by kernel_rfl) (fun _ _ _ h => h) (Or.inl ⟨by rfl, ?_⟩) (by assumption) ?_
      rotate_left
      · intro w' hSw
        go_simp <;> with_reducible rfl
      try simp only [Act.put, List.setIfInBounds_toArray, List.set_cons_zero, List.set_cons_succ, List.getElem_toArray, List.getElem_cons_succ, List.getElem_cons_zero]
      refine wpAnyH_take (i := 15) (v := ?_) rfl (by kernel_rfl) (by kernel_rfl) (by kernel_rfl) (fun _ _ _ h => h) (Or.inl ⟨by rfl, ?_⟩) (by assumption) ?_
      rotate_left
      · intro w' hSw
        go_simp <;> with_reducible rfl
      try simp only [Act.put, List.setIfInBounds_toArray, List.set_cons_zero, List.set_cons_succ, List.getElem_toArray, List.getElem_cons_succ, List.getElem_cons_zero]
      refine wpAnyH_done (by kernel_rfl) ?_ _
      go_wp2_with fail
      go_ret2
      exact ⟨⟨n, by rw [← HCE.out.1, ← ByteArray.toList_eq (s.extract 1 s.size)]; rfl, HCE.out.2⟩, HB2.out⟩
    · have HC : Hid (conN s = none) := by
        cases hc : conN s with
        | none => rfl
        | some k =>
          have h1 := con_tail hc0 hc
          rw [HA.out] at h1
          have h4 : n = (k : Int) := Option.some.inj h1
          have := (conN_some hc).1
          omega
      have h40d : decide (n < 40) = false := decide_eq_false h40
      have h40e : 40 ≤ n := by omega
      go_upto_region 4 with fail
      refine wp_region_held_drew (S := (fun _ => True)) (by kernel_rfl) trivial (fun hHeld => ?_)
      refine wpAnyH_take (i := 0) (v := ?_) rfl (by kernel_rfl) (by kernel_rfl) (by kernel_rfl) (fun _ _ _ h => h) (Or.inl ⟨by rfl, ?_⟩) (by assumption) ?_
      rotate_left
      · intro w' hSw
        go_simp <;> with_reducible rfl
      try simp only [Act.put, List.setIfInBounds_toArray, List.set_cons_zero, List.set_cons_succ, List.getElem_toArray, List.getElem_cons_succ, List.getElem_cons_zero]
      refine wpAnyH_take (i := 1) (v := ?_) rfl (by kernel_rfl) (by kernel_rfl) (by kernel_rfl) (fun _ _ _ h => h) (Or.inl ⟨by rfl, ?_⟩) (by assumption) ?_
      rotate_left
      · intro w' hSw
        go_simp <;> with_reducible rfl
      try simp only [Act.put, List.setIfInBounds_toArray, List.set_cons_zero, List.set_cons_succ, List.getElem_toArray, List.getElem_cons_succ, List.getElem_cons_zero]
      refine wpAnyH_take (i := 2) (v := ?_) rfl (by kernel_rfl) (by kernel_rfl) (by kernel_rfl) (fun _ _ _ h => h) (Or.inl ⟨by rfl, ?_⟩) (by assumption) ?_
      rotate_left
      · intro w' hSw
        go_simp <;> with_reducible rfl
      try simp only [Act.put, List.setIfInBounds_toArray, List.set_cons_zero, List.set_cons_succ, List.getElem_toArray, List.getElem_cons_succ, List.getElem_cons_zero]
      refine wpAnyH_take (i := 3) (v := ?_) rfl (by kernel_rfl) (by kernel_rfl) (by kernel_rfl) (fun _ _ _ h => h) (Or.inl ⟨by rfl, ?_⟩) (by assumption) ?_
      rotate_left
      · intro w' hSw
        go_simp <;> with_reducible rfl
      try simp only [Act.put, List.setIfInBounds_toArray, List.set_cons_zero, List.set_cons_succ, List.getElem_toArray, List.getElem_cons_succ, List.getElem_cons_zero]
      refine wpAnyH_take (i := 4) (v := ?_) rfl (by kernel_rfl) (by kernel_rfl) (by kernel_rfl) (fun _ _ _ h => h) (Or.inl ⟨by rfl, ?_⟩) (by assumption) ?_
      rotate_left
      · intro w' hSw
        go_simp <;> with_reducible rfl
      try simp only [Act.put, List.setIfInBounds_toArray, List.set_cons_zero, List.set_cons_succ, List.getElem_toArray, List.getElem_cons_succ, List.getElem_cons_zero]
      refine wpAnyH_take (i := 5) (v := ?_) rfl (by kernel_rfl) (by kernel_rfl) (by kernel_rfl) (fun _ _ _ h => h) (Or.inl ⟨by rfl, ?_⟩) (by assumption) ?_
      rotate_left
      · intro w' hSw
        go_simp <;> with_reducible rfl
      try simp only [Act.put, List.setIfInBounds_toArray, List.set_cons_zero, List.set_cons_succ, List.getElem_toArray, List.getElem_cons_succ, List.getElem_cons_zero]
      refine wpAnyH_take (i := 6) (v := ?_) rfl (by kernel_rfl) (by kernel_rfl) (by kernel_rfl) (fun _ _ _ h => h) (Or.inl ⟨by rfl, ?_⟩) (by assumption) ?_
      rotate_left
      · intro w' hSw
        go_simp <;> with_reducible rfl
      try simp only [Act.put, List.setIfInBounds_toArray, List.set_cons_zero, List.set_cons_succ, List.getElem_toArray, List.getElem_cons_succ, List.getElem_cons_zero]
      refine wpAnyH_take (i := 7) (v := ?_) rfl (by kernel_rfl) (by kernel_rfl) (by kernel_rfl) (fun _ _ _ h => h) (Or.inl ⟨by rfl, ?_⟩) (by assumption) ?_
      rotate_left
      · intro w' hSw
        go_simp <;> with_reducible rfl
      try simp only [Act.put, List.setIfInBounds_toArray, List.set_cons_zero, List.set_cons_succ, List.getElem_toArray, List.getElem_cons_succ, List.getElem_cons_zero]
      refine wpAnyH_take (i := 8) (v := undef) rfl (by kernel_rfl) (by kernel_rfl) (by kernel_rfl) (fun _ _ _ h => h) (Or.inr ⟨by rfl, rfl⟩) (by assumption) ?_
      try simp only [Act.put, List.setIfInBounds_toArray, List.set_cons_zero, List.set_cons_succ, List.getElem_toArray, List.getElem_cons_succ, List.getElem_cons_zero]
      refine wpAnyH_take (i := 9) (v := undef) rfl (by kernel_rfl) (by kernel_rfl) (by kernel_rfl) (fun _ _ _ h => h) (Or.inr ⟨by rfl, rfl⟩) (by assumption) ?_
      try simp only [Act.put, List.setIfInBounds_toArray, List.set_cons_zero, List.set_cons_succ, List.getElem_toArray, List.getElem_cons_succ, List.getElem_cons_zero]
      refine wpAnyH_take (i := 10) (v := undef) rfl (by kernel_rfl) (by kernel_rfl) (by kernel_rfl) (fun _ _ _ h => h) (Or.inr ⟨by rfl, rfl⟩) (by assumption) ?_
      try simp only [Act.put, List.setIfInBounds_toArray, List.set_cons_zero, List.set_cons_succ, List.getElem_toArray, List.getElem_cons_succ, List.getElem_cons_zero]
      refine wpAnyH_take (i := 11) (v := undef) rfl (by kernel_rfl) (by kernel_rfl) (by kernel_rfl) (fun _ _ _ h => h) (Or.inr ⟨by rfl, rfl⟩) (by assumption) ?_
      try simp only [Act.put, List.setIfInBounds_toArray, List.set_cons_zero, List.set_cons_succ, List.getElem_toArray, List.getElem_cons_succ, List.getElem_cons_zero]
      refine wpAnyH_take (i := 12) (v := undef) rfl (by kernel_rfl) (by kernel_rfl) (by kernel_rfl) (fun _ _ _ h => h) (Or.inr ⟨by rfl, rfl⟩) (by assumption) ?_
      try simp only [Act.put, List.setIfInBounds_toArray, List.set_cons_zero, List.set_cons_succ, List.getElem_toArray, List.getElem_cons_succ, List.getElem_cons_zero]
      refine wpAnyH_take (i := 13) (v := ?_) rfl (by kernel_rfl) (by kernel_rfl) (by kernel_rfl) (fun _ _ _ h => h) (Or.inl ⟨by rfl, ?_⟩) (by assumption) ?_
      rotate_left
      · intro w' hSw
        go_simp <;> with_reducible rfl
      try simp only [Act.put, List.setIfInBounds_toArray, List.set_cons_zero, List.set_cons_succ, List.getElem_toArray, List.getElem_cons_succ, List.getElem_cons_zero]
      refine wpAnyH_take (i := 14) (v := ?_) rfl (by kernel_rfl) (by kernel_rfl) (by kernel_rfl) (fun _ _ _ h => h) (Or.inl ⟨by rfl, ?_⟩) (by assumption) ?_
      rotate_left
      · intro w' hSw
        go_simp <;> with_reducible rfl
      try simp only [Act.put, List.setIfInBounds_toArray, List.set_cons_zero, List.set_cons_succ, List.getElem_toArray, List.getElem_cons_succ, List.getElem_cons_zero]
      refine wpAnyH_take (i := 15) (v := ?_) rfl (by kernel_rfl) (by kernel_rfl) (by kernel_rfl) (fun _ _ _ h => h) (Or.inl ⟨by rfl, ?_⟩) (by assumption) ?_
      rotate_left
      · intro w' hSw
        go_simp <;> with_reducible rfl
      try simp only [Act.put, List.setIfInBounds_toArray, List.set_cons_zero, List.set_cons_succ, List.getElem_toArray, List.getElem_cons_succ, List.getElem_cons_zero]
      refine wpAnyH_done (by kernel_rfl) ?_ _
      go_wp2_with fail
      go_ret2
      exact ⟨⟨n, by rw [HC.out]; rfl, fun k hk => by rw [HC.out] at hk; cases hk⟩, KD.out⟩
end Go.Proofs.YtcdabjekppddjaaGreatDoor

/- Plain: the three texts of the program are read. -/
namespace Go.Proofs.YtcdabjekppddjaaGreatDoor
open Go.RowKit
set_option linter.unusedSimpArgs false
set_option linter.unusedVariables false
set_option maxRecDepth 20000

def iTx : ByteArray := ⟨#[92, 120, 48, 46, 120, 48]⟩
def kTx : ByteArray := ⟨#[92, 120, 48, 46, 92, 120, 49, 46, 120, 48]⟩
def sTx : ByteArray := ⟨#[92, 120, 48, 46, 92, 120, 49, 46, 92, 120, 50, 46, 120, 48, 32, 120, 50, 32, 40, 120, 49, 32, 120, 50, 41]⟩
theorem rd_iE : (lrdAll iTx []).err = 0 := by kernel_rfl
theorem rd_iT : (lrdAll iTx []).t = iL := by kernel_rfl
theorem rd_kE : (lrdAll kTx []).err = 0 := by kernel_rfl
theorem rd_kT : (lrdAll kTx []).t = kL := by kernel_rfl
theorem rd_sE : (lrdAll sTx []).err = 0 := by kernel_rfl
theorem rd_sT : (lrdAll sTx []).t = sL := by kernel_rfl
end Go.Proofs.YtcdabjekppddjaaGreatDoor

/- Walks: combinators as a lambda term, as the program makes it. -/
namespace Go.Proofs.YtcdabjekppddjaaGreatDoor
open Go.RowKit
set_option linter.unusedSimpArgs false
set_option linter.unusedVariables false
set_option maxRecDepth 8000

theorem par_i (w : World) (hT : Tb w.heap.size w) (hS : Tse w.heap.size w) : Calls Tryz.prog 72 #[.string iTx, .slice none 0 0] w fun e w' => ∃ a c, e = .returned (.tuple #[.agg #[.int .i64 2, .int .i64 0, .slice a 1 c], .int .i64 0]) ∧ MV w' (fun b => w.heap.size ≤ b) (.agg #[.int .i64 2, .int .i64 0, .slice a 1 c]) iL ∧ Below w.heap.size w w' := by
  refine (parseL_any iTx [] none 0 w (fun _ => False) ⟨none, 0, rfl, ⟨by simp, by simp⟩, Or.inl rfl⟩ hT hS).mono ?_
  rintro e w' ⟨v, rfl, h1, _, hb⟩
  rw [rd_iE]
  obtain ⟨a, c, rfl, hs⟩ := h1 rd_iE
  rw [rd_iT] at hs ⊢
  exact ⟨a, c, rfl, ⟨a, c, rfl, hs⟩, hb⟩
theorem par_k (w : World) (hT : Tb w.heap.size w) (hS : Tse w.heap.size w) : Calls Tryz.prog 72 #[.string kTx, .slice none 0 0] w fun e w' => ∃ a c, e = .returned (.tuple #[.agg #[.int .i64 2, .int .i64 0, .slice a 1 c], .int .i64 0]) ∧ MV w' (fun b => w.heap.size ≤ b) (.agg #[.int .i64 2, .int .i64 0, .slice a 1 c]) kL ∧ Below w.heap.size w w' := by
  refine (parseL_any kTx [] none 0 w (fun _ => False) ⟨none, 0, rfl, ⟨by simp, by simp⟩, Or.inl rfl⟩ hT hS).mono ?_
  rintro e w' ⟨v, rfl, h1, _, hb⟩
  rw [rd_kE]
  obtain ⟨a, c, rfl, hs⟩ := h1 rd_kE
  rw [rd_kT] at hs ⊢
  exact ⟨a, c, rfl, ⟨a, c, rfl, hs⟩, hb⟩
theorem par_s (w : World) (hT : Tb w.heap.size w) (hS : Tse w.heap.size w) : Calls Tryz.prog 72 #[.string sTx, .slice none 0 0] w fun e w' => ∃ a c, e = .returned (.tuple #[.agg #[.int .i64 2, .int .i64 0, .slice a 1 c], .int .i64 0]) ∧ MV w' (fun b => w.heap.size ≤ b) (.agg #[.int .i64 2, .int .i64 0, .slice a 1 c]) sL ∧ Below w.heap.size w w' := by
  refine (parseL_any sTx [] none 0 w (fun _ => False) ⟨none, 0, rfl, ⟨by simp, by simp⟩, Or.inl rfl⟩ hT hS).mono ?_
  rintro e w' ⟨v, rfl, h1, _, hb⟩
  rw [rd_sE]
  obtain ⟨a, c, rfl, hs⟩ := h1 rd_sE
  rw [rd_sT] at hs ⊢
  exact ⟨a, c, rfl, ⟨a, c, rfl, hs⟩, hb⟩

set_option maxHeartbeats 2000000 in
theorem cleaf_any (s : ByteArray) (hn : nameB s = true) (BT : Nat) (w : World) (hBT : BT ≤ w.heap.size) (hT : Tb BT w) (hS : Tse BT w) :
    Calls Tryz.prog 59 #[.string s] w fun e w' => LtP (leafL s) w e w' := by
  have HN := hide hn
  have HBT := hide hBT
  have HT : Hid (∀ w', Below w.heap.size w w' → Tb BT w') := fun w' hb => hT.on (hb.mono hBT)
  have HS : Hid (∀ w', Below w.heap.size w w' → Tse BT w') := fun w' hb => hS.on (hb.mono hBT)
  have HT' : Hid (∀ w', Below w.heap.size w w' → Tb w'.heap.size w') := fun w' hb => hT.raise (hb.mono hBT) (Nat.le_trans hBT hb.size)
  have HS' : Hid (∀ w', Below w.heap.size w w' → Tse w'.heap.size w') := fun w' hb => hS.raise (hb.mono hBT) (Nat.le_trans hBT hb.size)
  clear hn hBT hT hS
  generalize hW : (w.alloc (.cells #[.int .i64 0, .int .i64 0, .slice none 0 0] 36)) = w3
  have K3 : Hid (Below w.heap.size w w3) := by unfold Hid; rw [← hW]; exact (Below.refl _ _).alloc (Nat.le_refl _) _
  have R3 : Hid (Blk w3 w.heap.size #[.int .i64 0, .int .i64 0, .slice none 0 0] 36) := by unfold Hid; rw [← hW]; exact Blk.new w _ _
  have HZ3 : Hid (w3.heap.size = w.heap.size + 1) := by unfold Hid; rw [← hW]; simp
  have HW := hide hW
  clear hW
  go_enter Tryz.func59, Tryz.ntmps59
  go_upto_region 1 with fail
  rw [HW.out]
  clear HW
  obtain ⟨R, hR⟩ : ∃ R, R = w.heap.size := ⟨_, rfl⟩
  rw [← hR] at R3 ⊢
  have HRW : Hid (w.heap.size ≤ R) := by unfold Hid; omega
  have HNE : Hid (∀ b, w3.heap.size ≤ b → b ≠ R) := fun b hb => by have := HZ3.out; omega
  clear hR
  have ENDS : Hid (∀ (wz : World) (k x : Int) (az : Option Addr) (l cz : Nat) (ls : List Lm), l = ls.length → Below w.heap.size w wz → MV wz (fun b => w3.heap.size ≤ b) (.agg #[.int .i64 k, .int .i64 x, .slice az l cz]) ⟨k, x, ls⟩ → leafL s = (0, ⟨k, x, ls⟩) → ∀ u0 u1 u2 : Value, LtP (leafL s) w (.returned (.tuple #[.agg #[.int .i64 k, .int .i64 x, .slice az l cz], .int .i64 0])) (((wz.setCell ⟨R, 0, none⟩ u0).setCell ⟨R, 1, none⟩ u1).setCell ⟨R, 2, none⟩ u2)) := fun wz k x az l cz ls hl hb hm hr u0 u1 u2 => by
    subst hl
    rw [hr]
    refine ⟨set3_below hb HRW.out _ _ _, az, cz, rfl, ?_, fun h => absurd rfl h⟩
    obtain ⟨a', c', e', hs'⟩ := hm
    simp only [Value.agg.injEq, Array.mk.injEq, List.cons.injEq, Value.slice.injEq, true_and, and_true] at e'
    obtain ⟨rfl, rfl⟩ := e'
    exact (hs'.kept fun b hb => set3_other b (HNE.out b hb)).mono fun b hb _ => Nat.le_trans K3.out.size hb
  have ENDE : Hid (∀ (wz : World) (er : Int), Below w.heap.size w wz → leafL s = (er, nilL) → ∀ u0 u1 u2 : Value, LtP (leafL s) w (.returned (.tuple #[.agg #[.int .i64 0, .int .i64 0, .slice none 0 0], .int .i64 er])) (((wz.setCell ⟨R, 0, none⟩ u0).setCell ⟨R, 1, none⟩ u1).setCell ⟨R, 2, none⟩ u2)) := fun wz er hb hr u0 u1 u2 => by
    rw [hr]
    exact ⟨set3_below hb HRW.out _ _ _, none, 0, rfl, ⟨by simp [nilL], Or.inl rfl⟩, fun _ => ⟨rfl, rfl, rfl⟩⟩
  have KK3 : Hid (Below w3.heap.size w3 w3) := Below.refl _ _
  go_wp2_with fail
  refine (isVariable_all s _).mono ?_
  rintro e w4 ⟨rfl, hw4⟩
  subst w4
  cases hvb : varB s with
  | true =>
    have HRES : Hid (leafL s = (15, nilL)) := by
      unfold Hid leafL
      rw [if_neg (fun h => by rw [h] at hvb; revert hvb; decide), if_neg (fun h => by rw [h] at hvb; revert hvb; decide), if_neg (fun h => by rw [h] at hvb; revert hvb; decide), leafV_var hvb]
    have RE := hide (R3.out.below KK3.out R3.out.lt)
    have y0 : w3.cell? ⟨R, 0, none⟩ = some (.int .i64 0) := RE.out.cell 0
    have y1 : w3.cell? ⟨R, 1, none⟩ = some (.int .i64 0) := RE.out.cell 1
    have y2 : w3.cell? ⟨R, 2, none⟩ = some (.slice none 0 0) := RE.out.cell 2
    have yf := RE.out.frozen
    have yl := RE.out.lt
    go_wp2_with fail
    refine bodyPost_ret (v := .tuple #[.agg #[.int .i64 0, .int .i64 0, .slice none 0 0], .int .i64 15]) (by simp [results, Tryz.results59, go_sem, World.cell?_setCell_same, World.cell?_setCell_other, y0, y1, y2]) rfl ?_
    exact ENDE.out w3 15 (K3.out.trans (KK3.out.mono K3.out.size)) HRES.out _ _ _
  | false =>
    by_cases zi : s = ⟨#[105]⟩
    · have HRES : Hid (leafL s = (0, iL)) := by unfold Hid leafL; rw [if_pos zi]
      have ni : (s.toList == [105]) = true := nm_yes zi
      clear zi
      go_wp2_with fail
      refine (par_i _ (HT'.out _ K3.out) (HS'.out _ K3.out)).mono ?_
      rintro e w5 ⟨a5, c5, rfl, hm5, hb5⟩
      have KK5 := hide hb5
      have M5 := hide hm5
      clear hm5 hb5
      have RE := hide (R3.out.below KK5.out R3.out.lt)
      have y0 : w5.cell? ⟨R, 0, none⟩ = some (.int .i64 0) := RE.out.cell 0
      have y1 : w5.cell? ⟨R, 1, none⟩ = some (.int .i64 0) := RE.out.cell 1
      have y2 : w5.cell? ⟨R, 2, none⟩ = some (.slice none 0 0) := RE.out.cell 2
      have yf := RE.out.frozen
      have yl := RE.out.lt
      go_wp2_with fail
      refine bodyPost_ret (v := .tuple #[.agg #[.int .i64 2, .int .i64 0, .slice a5 1 c5], .int .i64 0]) (by simp [results, Tryz.results59, go_sem, World.cell?_setCell_same, World.cell?_setCell_other, y0, y1, y2]) rfl ?_
      exact ENDS.out w5 2 0 _ _ _ _ (by first | rfl | simp) (K3.out.trans (KK5.out.mono K3.out.size)) M5.out HRES.out _ _ _
    have ni : (s.toList == [105]) = false := nm_no zi
    by_cases zk : s = ⟨#[107]⟩
    · have HRES : Hid (leafL s = (0, kL)) := by unfold Hid leafL; rw [if_neg zi, if_pos zk]
      have nk : (s.toList == [107]) = true := nm_yes zk
      clear zk zi
      go_wp2_with fail
      refine (par_k _ (HT'.out _ K3.out) (HS'.out _ K3.out)).mono ?_
      rintro e w5 ⟨a5, c5, rfl, hm5, hb5⟩
      have KK5 := hide hb5
      have M5 := hide hm5
      clear hm5 hb5
      have RE := hide (R3.out.below KK5.out R3.out.lt)
      have y0 : w5.cell? ⟨R, 0, none⟩ = some (.int .i64 0) := RE.out.cell 0
      have y1 : w5.cell? ⟨R, 1, none⟩ = some (.int .i64 0) := RE.out.cell 1
      have y2 : w5.cell? ⟨R, 2, none⟩ = some (.slice none 0 0) := RE.out.cell 2
      have yf := RE.out.frozen
      have yl := RE.out.lt
      go_wp2_with fail
      refine bodyPost_ret (v := .tuple #[.agg #[.int .i64 2, .int .i64 0, .slice a5 1 c5], .int .i64 0]) (by simp [results, Tryz.results59, go_sem, World.cell?_setCell_same, World.cell?_setCell_other, y0, y1, y2]) rfl ?_
      exact ENDS.out w5 2 0 _ _ _ _ (by first | rfl | simp) (K3.out.trans (KK5.out.mono K3.out.size)) M5.out HRES.out _ _ _
    have nk : (s.toList == [107]) = false := nm_no zk
    by_cases zs : s = ⟨#[115]⟩
    · have HRES : Hid (leafL s = (0, sL)) := by unfold Hid leafL; rw [if_neg zi, if_neg zk, if_pos zs]
      have ns : (s.toList == [115]) = true := nm_yes zs
      clear zs zi zk
      go_wp2_with fail
      refine (par_s _ (HT'.out _ K3.out) (HS'.out _ K3.out)).mono ?_
      rintro e w5 ⟨a5, c5, rfl, hm5, hb5⟩
      have KK5 := hide hb5
      have M5 := hide hm5
      clear hm5 hb5
      have RE := hide (R3.out.below KK5.out R3.out.lt)
      have y0 : w5.cell? ⟨R, 0, none⟩ = some (.int .i64 0) := RE.out.cell 0
      have y1 : w5.cell? ⟨R, 1, none⟩ = some (.int .i64 0) := RE.out.cell 1
      have y2 : w5.cell? ⟨R, 2, none⟩ = some (.slice none 0 0) := RE.out.cell 2
      have yf := RE.out.frozen
      have yl := RE.out.lt
      go_wp2_with fail
      refine bodyPost_ret (v := .tuple #[.agg #[.int .i64 2, .int .i64 0, .slice a5 1 c5], .int .i64 0]) (by simp [results, Tryz.results59, go_sem, World.cell?_setCell_same, World.cell?_setCell_other, y0, y1, y2]) rfl ?_
      exact ENDS.out w5 2 0 _ _ _ _ (by first | rfl | simp) (K3.out.trans (KK5.out.mono K3.out.size)) M5.out HRES.out _ _ _
    have ns : (s.toList == [115]) = false := nm_no zs
    have HL2 : Hid (leafL s = leafV s) := by unfold Hid leafL; rw [if_neg zi, if_neg zk, if_neg zs]
    have HVB := hide hvb
    clear zi zk zs hvb
    go_wp2_with fail
    refine (cconst_any s HN.out BT _ (HT.out _ K3.out) (HS.out _ K3.out) (Nat.le_trans HBT.out K3.out.size)).mono ?_
    rintro e w5 ⟨⟨n, rfl, hnk⟩, hb5⟩
    have KK5 := hide hb5
    clear hb5
    cases hc : conN s with
    | none =>
      have HRES : Hid (leafL s = (1, nilL)) := by unfold Hid; rw [HL2.out, leafV_no HVB.out hc]
      rw [show (none : Option Nat).isSome = false from rfl]
      clear hnk hc
      have RE := hide (R3.out.below KK5.out R3.out.lt)
      have y0 : w5.cell? ⟨R, 0, none⟩ = some (.int .i64 0) := RE.out.cell 0
      have y1 : w5.cell? ⟨R, 1, none⟩ = some (.int .i64 0) := RE.out.cell 1
      have y2 : w5.cell? ⟨R, 2, none⟩ = some (.slice none 0 0) := RE.out.cell 2
      have yf := RE.out.frozen
      have yl := RE.out.lt
      go_wp2_with fail
      refine bodyPost_ret (v := .tuple #[.agg #[.int .i64 0, .int .i64 0, .slice none 0 0], .int .i64 1]) (by simp [results, Tryz.results59, go_sem, World.cell?_setCell_same, World.cell?_setCell_other, y0, y1, y2]) rfl ?_
      exact ENDE.out w5 1 (K3.out.trans (KK5.out.mono K3.out.size)) HRES.out _ _ _
    | some k =>
      have HRES : Hid (leafL s = (0, ⟨4, (k : Int), []⟩)) := by unfold Hid; rw [HL2.out, leafV_con HVB.out hc]
      obtain rfl := hnk k hc
      rw [show (some k).isSome = true from rfl]
      clear hnk hc
      have M5 := hide (leafMV w5 (fun b => w3.heap.size ≤ b) 4 (k : Int))
      have RE := hide (R3.out.below KK5.out R3.out.lt)
      have y0 : w5.cell? ⟨R, 0, none⟩ = some (.int .i64 0) := RE.out.cell 0
      have y1 : w5.cell? ⟨R, 1, none⟩ = some (.int .i64 0) := RE.out.cell 1
      have y2 : w5.cell? ⟨R, 2, none⟩ = some (.slice none 0 0) := RE.out.cell 2
      have yf := RE.out.frozen
      have yl := RE.out.lt
      go_wp2_with fail
      refine bodyPost_ret (v := .tuple #[.agg #[.int .i64 4, .int .i64 (k : Int), .slice none 0 0], .int .i64 0]) (by simp [results, Tryz.results59, go_sem, World.cell?_setCell_same, World.cell?_setCell_other, y0, y1, y2]) rfl ?_
      exact ENDS.out w5 4 (k : Int) _ _ _ _ (by first | rfl | simp) (K3.out.trans (KK5.out.mono K3.out.size)) M5.out HRES.out _ _ _
set_option maxHeartbeats 4000000 in
theorem cto_any (n BT : Nat) : ∀ (t : Tm) (v : Value) (w : World) (X : Nat → Prop), OkC t → TV w X v t → sizeL [t] ≤ n → BT ≤ w.heap.size → Tb BT w → Tse BT w →
    Calls Tryz.prog 42 #[v] w fun e w' => LtP (toL n t) w e w' := by
  induction n with
  | zero => intro t v w X _ _ h _ _ _; have := size_posC t; omega
  | succ n ih =>
    intro t v w X ht hv hz hBT hT hS
    have IH := hide ih
    clear ih
    have HBT := hide hBT
    have HT : Hid (∀ w', Below w.heap.size w w' → Tb BT w') := fun w' hb => hT.on (hb.mono hBT)
    have HS : Hid (∀ w', Below w.heap.size w w' → Tse BT w') := fun w' hb => hS.on (hb.mono hBT)
    clear hBT hT hS
    obtain ⟨a, c, rfl, hs⟩ := hv
    generalize hW : ((w.alloc (.cells #[.string t.name, .slice a t.args.length c] 24)).alloc (.cells #[.int .i64 0, .int .i64 0, .slice none 0 0] 36)) = w3
    have K3 : Hid (Below w.heap.size w w3) := by unfold Hid; rw [← hW]; exact ((Below.refl _ _).alloc (Nat.le_refl _) _).alloc (by simp) _
    have T3 : Hid (Blk w3 w.heap.size #[.string t.name, .slice a t.args.length c] 24) := by unfold Hid; rw [← hW]; exact (Blk.new w _ _).alloc _
    have R3 : Hid (Blk w3 (w.heap.size + 1) #[.int .i64 0, .int .i64 0, .slice none 0 0] 36) := by
      unfold Hid; rw [← hW]
      have h := Blk.new (w.alloc (.cells #[.string t.name, .slice a t.args.length c] 24)) #[.int .i64 0, .int .i64 0, .slice none 0 0] 36
      rw [World.size_alloc] at h
      exact h
    have HZ3 : Hid (w3.heap.size = w.heap.size + 2) := by unfold Hid; rw [← hW]; simp
    have SL3 := hide ((hs.mono (Y := fun b => b < w.heap.size) fun b _ h => h).later K3.out)
    have HW := hide hW
    clear hW hs
    go_enter Tryz.func42, Tryz.ntmps42
    go_upto_region 1 with fail
    rw [HW.out]
    clear HW
    obtain ⟨R, hR⟩ : ∃ R, R = w.heap.size + 1 := ⟨_, rfl⟩
    rw [← hR] at R3 ⊢
    obtain ⟨P, hP⟩ : ∃ P, P = w.heap.size := ⟨_, rfl⟩
    rw [← hP] at T3 ⊢
    have HOZ : Hid (R = w.heap.size + 1 ∧ P = w.heap.size) := ⟨hR, hP⟩
    have HRW : Hid (w.heap.size ≤ R) := by unfold Hid; omega
    have HNE : Hid (∀ b, w3.heap.size ≤ b → b ≠ R) := fun b hb => by have := HZ3.out; omega
    clear hR hP
    have c0 : w3.cell? ⟨P, 0, none⟩ = some (.string t.name) := T3.out.cell 0
    have c1 : w3.cell? ⟨P, 1, none⟩ = some (.slice a t.args.length c) := T3.out.cell 1
    have cl := T3.out.lt
    have ENDS : Hid (∀ (wz : World) (k x : Int) (az : Option Addr) (l cz : Nat) (ls : List Lm), l = ls.length → Below w.heap.size w wz → MV wz (fun b => w3.heap.size ≤ b) (.agg #[.int .i64 k, .int .i64 x, .slice az l cz]) ⟨k, x, ls⟩ → toL (n + 1) t = (0, ⟨k, x, ls⟩) → ∀ u0 u1 u2 : Value, LtP (toL (n + 1) t) w (.returned (.tuple #[.agg #[.int .i64 k, .int .i64 x, .slice az l cz], .int .i64 0])) (((wz.setCell ⟨R, 0, none⟩ u0).setCell ⟨R, 1, none⟩ u1).setCell ⟨R, 2, none⟩ u2)) := fun wz k x az l cz ls hl hb hm hr u0 u1 u2 => by
      subst hl
      rw [hr]
      refine ⟨set3_below hb HRW.out _ _ _, az, cz, rfl, ?_, fun h => absurd rfl h⟩
      obtain ⟨a', c', e', hs'⟩ := hm
      simp only [Value.agg.injEq, Array.mk.injEq, List.cons.injEq, Value.slice.injEq, true_and, and_true] at e'
      obtain ⟨rfl, rfl⟩ := e'
      exact (hs'.kept fun b hb => set3_other b (HNE.out b hb)).mono fun b hb _ => Nat.le_trans K3.out.size hb
    have ENDE : Hid (∀ (wz : World) (er : Int), Below w.heap.size w wz → toL (n + 1) t = (er, nilL) → ∀ u0 u1 u2 : Value, LtP (toL (n + 1) t) w (.returned (.tuple #[.agg #[.int .i64 0, .int .i64 0, .slice none 0 0], .int .i64 er])) (((wz.setCell ⟨R, 0, none⟩ u0).setCell ⟨R, 1, none⟩ u1).setCell ⟨R, 2, none⟩ u2)) := fun wz er hb hr u0 u1 u2 => by
      rw [hr]
      exact ⟨set3_below hb HRW.out _ _ _, none, 0, rfl, ⟨by simp [nilL], Or.inl rfl⟩, fun _ => ⟨rfl, rfl, rfl⟩⟩
    rcases ht.look with ⟨s, rfl, hnm⟩ | ⟨f, x, rfl, hf, hx⟩
    · have c1 : w3.cell? ⟨P, 1, none⟩ = some (.slice a 0 c) := c1
      have HL := hide (toL_leaf n s)
      go_wp2_with fail
      refine (cleaf_any s hnm BT _ (Nat.le_trans HBT.out K3.out.size) (HT.out _ K3.out) (HS.out _ K3.out)).mono ?_
      rintro e w4 ⟨hb4, az, cz, rfl, hs4, hn4⟩
      have KK4 := hide hb4
      obtain ⟨⟨er, u⟩, hu⟩ : ∃ r, r = leafL s := ⟨_, rfl⟩
      rw [← hu] at hs4 hn4 ⊢
      have HRES : Hid (toL (n + 1) ⟨s, []⟩ = (er, u)) := by unfold Hid; rw [HL.out, hu]
      clear hu hb4
      simp only at hs4 hn4 ⊢
      have S4 := hide hs4
      have N4 := hide hn4
      clear hs4 hn4
      have RE := hide (R3.out.below KK4.out R3.out.lt)
      have y0 : w4.cell? ⟨R, 0, none⟩ = some (.int .i64 0) := RE.out.cell 0
      have y1 : w4.cell? ⟨R, 1, none⟩ = some (.int .i64 0) := RE.out.cell 1
      have y2 : w4.cell? ⟨R, 2, none⟩ = some (.slice none 0 0) := RE.out.cell 2
      have yf := RE.out.frozen
      have yl := RE.out.lt
      go_wp2_with fail
      refine bodyPost_ret (v := .tuple #[.agg #[.int .i64 u.kind, .int .i64 u.idx, .slice az u.subs.length cz], .int .i64 er]) (by simp [results, Tryz.results42, go_sem, World.cell?_setCell_same, World.cell?_setCell_other, y0, y1, y2]) rfl ?_
      rw [HRES.out]
      exact ⟨set3_below (K3.out.trans (KK4.out.mono K3.out.size)) HRW.out _ _ _, az, cz, rfl, (S4.out.kept fun b hb => set3_other b (HNE.out b hb)).mono fun b hb _ => Nat.le_trans K3.out.size hb, N4.out⟩
    · have ha9 : (apT f x).args.length = 2 := rfl
      rw [ha9] at c1 ⊢
      clear ha9
      have HZF : Hid (sizeL [f] ≤ n) := by have h1 := size_ap f x; have h2 := size_posC x; unfold Hid; omega
      have HZX : Hid (sizeL [x] ≤ n) := by have h1 := size_ap f x; have h2 := size_posC f; unfold Hid; omega
      have HCF := hide hf
      have HCX := hide hx
      have HCL := hide (toL_ap n f x)
      obtain ⟨B, o, ab, cb, rfl, d0, d1, hbv⟩ := SL3.out.get (Below.refl w3.heap.size w3) (fun b _ h => h) 0 (by simp [apT])
      obtain ⟨B', o', ab2, cb2, e9, g0, g1, hbv2⟩ := SL3.out.get (Below.refl w3.heap.size w3) (fun b _ h => h) 1 (by simp [apT])
      simp only [Option.some.injEq, Addr.mk.injEq, and_true] at e9
      obtain ⟨rfl, rfl⟩ := e9
      have d0' : w3.cell? ⟨B, o, none⟩ = some (.string f.name) := by simpa [apT] using d0
      have d1' : w3.cell? ⟨B, o + 1, none⟩ = some (.slice ab f.args.length cb) := by simpa [apT] using d1
      have g0' : w3.cell? ⟨B, o + 2, none⟩ = some (.string x.name) := by simpa [apT] using g0
      have g1' : w3.cell? ⟨B, o + 3, none⟩ = some (.slice ab2 x.args.length cb2) := by simpa [apT] using g1
      have HFV : Hid (TV w3 (fun b => b < w.heap.size) (.agg #[.string f.name, .slice ab f.args.length cb]) f) := by unfold Hid; simpa [apT] using hbv
      have HXV : Hid (TV w3 (fun b => b < w.heap.size) (.agg #[.string x.name, .slice ab2 x.args.length cb2]) x) := by unfold Hid; simpa [apT] using hbv2
      have HG := hide (And.intro g0' g1')
      have hBl := World.block_lt_of_cell? w3 _ d0'
      have HBL := hide hBl
      have c1 : w3.cell? ⟨P, 1, none⟩ = some (.slice (some ⟨B, o, none⟩) 2 c) := T3.out.cell 1
      clear d0 d1 hbv g0 g1 hbv2 g0' g1'
      go_wp2_with fail
      refine (IH.out f _ _ _ HCF.out (by exact HFV.out) HZF.out (Nat.le_trans HBT.out K3.out.size) (HT.out _ K3.out) (HS.out _ K3.out)).mono ?_
      rintro e w4 ⟨hb4, au, cu, rfl, hsu, hn1⟩
      have KK4 := hide hb4
      clear hb4 d0' d1' hBl c0 c1 cl
      obtain ⟨⟨er, u⟩, hu⟩ : ∃ r, r = toL n f := ⟨_, rfl⟩
      rw [← hu] at hsu hn1 ⊢
      have HU := hide hu.symm
      clear hu
      simp only at hsu hn1 ⊢
      have KK5 : Hid (Below w3.heap.size w3 (w4.alloc (.cells #[.int .i64 u.kind, .int .i64 u.idx, .slice au u.subs.length cu] 36))) := KK4.out.alloc KK4.out.size _
      have U5 : Hid (Blk (w4.alloc (.cells #[.int .i64 u.kind, .int .i64 u.idx, .slice au u.subs.length cu] 36)) w4.heap.size #[.int .i64 u.kind, .int .i64 u.idx, .slice au u.subs.length cu] 36) := Blk.new w4 _ _
      have SU5 : Hid (SlM (w4.alloc (.cells #[.int .i64 u.kind, .int .i64 u.idx, .slice au u.subs.length cu] 36)) (fun b => w3.heap.size ≤ b) au u.subs) := hsu.later ((Below.refl _ _).alloc (Nat.le_refl _) _)
      clear hsu hn1
      by_cases he : er = 0
      rotate_left
      · have he' : (er == 0) = false := by simpa using he
        have HRES : Hid (toL (n + 1) (apT f x) = (er, nilL)) := by unfold Hid; rw [HCL.out, HU.out, if_neg he]
        go_upto_region 5 with fail
        generalize (w4.alloc (.cells #[.int .i64 u.kind, .int .i64 u.idx, .slice au u.subs.length cu] 36)) = w5 at *
        have RE := hide (R3.out.below KK5.out R3.out.lt)
        have y0 : w5.cell? ⟨R, 0, none⟩ = some (.int .i64 0) := RE.out.cell 0
        have y1 : w5.cell? ⟨R, 1, none⟩ = some (.int .i64 0) := RE.out.cell 1
        have y2 : w5.cell? ⟨R, 2, none⟩ = some (.slice none 0 0) := RE.out.cell 2
        have yf := RE.out.frozen
        have yl := RE.out.lt
        go_wp2_with fail
        refine bodyPost_ret (v := .tuple #[.agg #[.int .i64 0, .int .i64 0, .slice none 0 0], .int .i64 er]) (by simp [results, Tryz.results42, go_sem, World.cell?_setCell_same, World.cell?_setCell_other, y0, y1, y2]) rfl ?_
        exact ENDE.out w5 er (K3.out.trans (KK5.out.mono K3.out.size)) HRES.out _ _ _
      subst he
      go_upto_region 6 with fail
      generalize (w4.alloc (.cells #[.int .i64 u.kind, .int .i64 u.idx, .slice au u.subs.length cu] 36)) = w5 at *
      obtain ⟨PF, hPF⟩ : ∃ PF, PF = w4.heap.size := ⟨_, rfl⟩
      rw [← hPF] at U5 ⊢
      clear hPF
      have T5 := hide (T3.out.below KK5.out T3.out.lt)
      have c1 : w5.cell? ⟨P, 1, none⟩ = some (.slice (some ⟨B, o, none⟩) 2 c) := T5.out.cell 1
      have cl := T5.out.lt
      have g0 : w5.cell? ⟨B, o + 2, none⟩ = some (.string x.name) := (KK5.out.cell (p := ⟨B, o + 2, none⟩) HBL.out).trans HG.out.1
      have g1 : w5.cell? ⟨B, o + 3, none⟩ = some (.slice ab2 x.args.length cb2) := (KK5.out.cell (p := ⟨B, o + 3, none⟩) HBL.out).trans HG.out.2
      have hBl5 : B < w5.heap.size := Nat.lt_of_lt_of_le HBL.out KK5.out.size
      go_wp2_with fail
      refine (IH.out x _ _ _ HCX.out (by exact HXV.out.later KK5.out) HZX.out (Nat.le_trans HBT.out (K3.out.trans (KK5.out.mono K3.out.size)).size) (HT.out _ (K3.out.trans (KK5.out.mono K3.out.size))) (HS.out _ (K3.out.trans (KK5.out.mono K3.out.size)))).mono ?_
      rintro e w6 ⟨hb6, av, cv, rfl, hsv, hn2⟩
      have KK6 := hide (KK5.out.trans (hb6.mono KK5.out.size))
      have U6 := hide (U5.out.below hb6 U5.out.lt)
      have SU6 := hide (SU5.out.later hb6)
      clear hb6 c1 cl g0 g1 hBl5
      obtain ⟨⟨er, u2⟩, hu⟩ : ∃ r, r = toL n x := ⟨_, rfl⟩
      rw [← hu] at hsv hn2 ⊢
      have HU2 := hide hu.symm
      clear hu
      simp only at hsv hn2 ⊢
      have KK7 : Hid (Below w3.heap.size w3 (w6.alloc (.cells #[.int .i64 u2.kind, .int .i64 u2.idx, .slice av u2.subs.length cv] 36))) := KK6.out.alloc KK6.out.size _
      have U7 := hide (U6.out.alloc (.cells #[.int .i64 u2.kind, .int .i64 u2.idx, .slice av u2.subs.length cv] 36))
      have V7 : Hid (Blk (w6.alloc (.cells #[.int .i64 u2.kind, .int .i64 u2.idx, .slice av u2.subs.length cv] 36)) w6.heap.size #[.int .i64 u2.kind, .int .i64 u2.idx, .slice av u2.subs.length cv] 36) := Blk.new w6 _ _
      have SU7 : Hid (SlM (w6.alloc (.cells #[.int .i64 u2.kind, .int .i64 u2.idx, .slice av u2.subs.length cv] 36)) (fun b => w3.heap.size ≤ b) au u.subs) := SU6.out.later ((Below.refl _ _).alloc (Nat.le_refl _) _)
      have SV7 : Hid (SlM (w6.alloc (.cells #[.int .i64 u2.kind, .int .i64 u2.idx, .slice av u2.subs.length cv] 36)) (fun b => w3.heap.size ≤ b) av u2.subs) := (hsv.mono (Y := fun b => w3.heap.size ≤ b) fun b h _ => Nat.le_trans KK5.out.size h).later ((Below.refl _ _).alloc (Nat.le_refl _) _)
      clear hsv hn2
      by_cases he : er = 0
      rotate_left
      · have he' : (er == 0) = false := by simpa using he
        have HRES : Hid (toL (n + 1) (apT f x) = (er, nilL)) := by unfold Hid; rw [HCL.out, HU.out, HU2.out, if_pos rfl, if_neg he]
        go_upto_region 8 with fail
        generalize (w6.alloc (.cells #[.int .i64 u2.kind, .int .i64 u2.idx, .slice av u2.subs.length cv] 36)) = w7 at *
        have RE := hide (R3.out.below KK7.out R3.out.lt)
        have y0 : w7.cell? ⟨R, 0, none⟩ = some (.int .i64 0) := RE.out.cell 0
        have y1 : w7.cell? ⟨R, 1, none⟩ = some (.int .i64 0) := RE.out.cell 1
        have y2 : w7.cell? ⟨R, 2, none⟩ = some (.slice none 0 0) := RE.out.cell 2
        have yf := RE.out.frozen
        have yl := RE.out.lt
        go_wp2_with fail
        refine bodyPost_ret (v := .tuple #[.agg #[.int .i64 0, .int .i64 0, .slice none 0 0], .int .i64 er]) (by simp [results, Tryz.results42, go_sem, World.cell?_setCell_same, World.cell?_setCell_other, y0, y1, y2]) rfl ?_
        exact ENDE.out w7 er (K3.out.trans (KK7.out.mono K3.out.size)) HRES.out _ _ _
      subst he
      have HRES : Hid (toL (n + 1) (apT f x) = (0, ⟨3, 0, [u, u2]⟩)) := by unfold Hid; rw [HCL.out, HU.out, HU2.out, if_pos rfl, if_pos rfl]
      go_upto_region 9 with fail
      generalize (w6.alloc (.cells #[.int .i64 u2.kind, .int .i64 u2.idx, .slice av u2.subs.length cv] 36)) = w7 at *
      obtain ⟨PY, hPY⟩ : ∃ PY, PY = w6.heap.size := ⟨_, rfl⟩
      rw [← hPY] at V7 ⊢
      clear hPY
      have u0 : w7.cell? ⟨PF, 0, none⟩ = some (.int .i64 u.kind) := U7.out.cell 0
      have u1 : w7.cell? ⟨PF, 1, none⟩ = some (.int .i64 u.idx) := U7.out.cell 1
      have u2c : w7.cell? ⟨PF, 2, none⟩ = some (.slice au u.subs.length cu) := U7.out.cell 2
      have ul := U7.out.lt
      have z0 : w7.cell? ⟨PY, 0, none⟩ = some (.int .i64 u2.kind) := V7.out.cell 0
      have z1 : w7.cell? ⟨PY, 1, none⟩ = some (.int .i64 u2.idx) := V7.out.cell 1
      have z2 : w7.cell? ⟨PY, 2, none⟩ = some (.slice av u2.subs.length cv) := V7.out.cell 2
      have zl := V7.out.lt
      have R7 := hide (R3.out.below KK7.out R3.out.lt)
      have RW9 : Hid (Blk (((w7.setCell ⟨R, 0, none⟩ (.int .i64 3)).setCell ⟨R, 1, none⟩ (.int .i64 0)).setCell ⟨R, 2, none⟩ (.slice (some ⟨w7.heap.size, 0, none⟩) 2 2)) R #[.int .i64 3, .int .i64 0, .slice (some ⟨w7.heap.size, 0, none⟩) 2 2] 36) := ((R7.out.set 0 _).set 1 _).set 2 _
      have SZ9 : Hid ((((w7.setCell ⟨R, 0, none⟩ (.int .i64 3)).setCell ⟨R, 1, none⟩ (.int .i64 0)).setCell ⟨R, 2, none⟩ (.slice (some ⟨w7.heap.size, 0, none⟩) 2 2)).heap.size = w7.heap.size) := by unfold Hid; simp
      have QX : Hid (Blk ((((w7.setCell ⟨R, 0, none⟩ (.int .i64 3)).setCell ⟨R, 1, none⟩ (.int .i64 0)).setCell ⟨R, 2, none⟩ (.slice (some ⟨w7.heap.size, 0, none⟩) 2 2)).alloc (.cells #[.int .i64 u.kind, .int .i64 u.idx, .slice au u.subs.length cu, .int .i64 u2.kind, .int .i64 u2.idx, .slice av u2.subs.length cv] 36)) w7.heap.size #[.int .i64 u.kind, .int .i64 u.idx, .slice au u.subs.length cu, .int .i64 u2.kind, .int .i64 u2.idx, .slice av u2.subs.length cv] 36) := by have h := Blk.new (((w7.setCell ⟨R, 0, none⟩ (.int .i64 3)).setCell ⟨R, 1, none⟩ (.int .i64 0)).setCell ⟨R, 2, none⟩ (.slice (some ⟨w7.heap.size, 0, none⟩) 2 2)) #[.int .i64 u.kind, .int .i64 u.idx, .slice au u.subs.length cu, .int .i64 u2.kind, .int .i64 u2.idx, .slice av u2.subs.length cv] 36; rw [SZ9.out] at h; exact h
      have SU9 : Hid (SlM ((((w7.setCell ⟨R, 0, none⟩ (.int .i64 3)).setCell ⟨R, 1, none⟩ (.int .i64 0)).setCell ⟨R, 2, none⟩ (.slice (some ⟨w7.heap.size, 0, none⟩) 2 2)).alloc (.cells #[.int .i64 u.kind, .int .i64 u.idx, .slice au u.subs.length cu, .int .i64 u2.kind, .int .i64 u2.idx, .slice av u2.subs.length cv] 36)) (fun b => w3.heap.size ≤ b) au u.subs) := (SU7.out.kept fun b hb => set3_other b (HNE.out b hb)).later ((Below.refl _ _).alloc (Nat.le_refl _) _)
      have SV9 : Hid (SlM ((((w7.setCell ⟨R, 0, none⟩ (.int .i64 3)).setCell ⟨R, 1, none⟩ (.int .i64 0)).setCell ⟨R, 2, none⟩ (.slice (some ⟨w7.heap.size, 0, none⟩) 2 2)).alloc (.cells #[.int .i64 u.kind, .int .i64 u.idx, .slice au u.subs.length cu, .int .i64 u2.kind, .int .i64 u2.idx, .slice av u2.subs.length cv] 36)) (fun b => w3.heap.size ≤ b) av u2.subs) := (SV7.out.kept fun b hb => set3_other b (HNE.out b hb)).later ((Below.refl _ _).alloc (Nat.le_refl _) _)
      have KX : Hid (Below w.heap.size w ((((w7.setCell ⟨R, 0, none⟩ (.int .i64 3)).setCell ⟨R, 1, none⟩ (.int .i64 0)).setCell ⟨R, 2, none⟩ (.slice (some ⟨w7.heap.size, 0, none⟩) 2 2)).alloc (.cells #[.int .i64 u.kind, .int .i64 u.idx, .slice au u.subs.length cu, .int .i64 u2.kind, .int .i64 u2.idx, .slice av u2.subs.length cv] 36))) := (set3_below (K3.out.trans (KK7.out.mono K3.out.size)) HRW.out _ _ _).alloc (by rw [SZ9.out]; exact (K3.out.trans (KK7.out.mono K3.out.size)).size) _
      have x0 : ∀ o', ((((w7.setCell ⟨R, 0, none⟩ (.int .i64 3)).setCell ⟨R, 1, none⟩ (.int .i64 0)).setCell ⟨R, 2, none⟩ (.slice (some ⟨w7.heap.size, 0, none⟩) 2 2)).alloc o').cell? ⟨R, 0, none⟩ = some (.int .i64 3) := fun o' => (RW9.out.alloc o').cell 0
      have x1 : ∀ o', ((((w7.setCell ⟨R, 0, none⟩ (.int .i64 3)).setCell ⟨R, 1, none⟩ (.int .i64 0)).setCell ⟨R, 2, none⟩ (.slice (some ⟨w7.heap.size, 0, none⟩) 2 2)).alloc o').cell? ⟨R, 1, none⟩ = some (.int .i64 0) := fun o' => (RW9.out.alloc o').cell 1
      have x2 : ∀ o', ((((w7.setCell ⟨R, 0, none⟩ (.int .i64 3)).setCell ⟨R, 1, none⟩ (.int .i64 0)).setCell ⟨R, 2, none⟩ (.slice (some ⟨w7.heap.size, 0, none⟩) 2 2)).alloc o').cell? ⟨R, 2, none⟩ = some (.slice (some ⟨w7.heap.size, 0, none⟩) 2 2) := fun o' => (RW9.out.alloc o').cell 2
      have y0 : w7.cell? ⟨R, 0, none⟩ = some (.int .i64 0) := R7.out.cell 0
      have y1 : w7.cell? ⟨R, 1, none⟩ = some (.int .i64 0) := R7.out.cell 1
      have y2 : w7.cell? ⟨R, 2, none⟩ = some (.slice none 0 0) := R7.out.cell 2
      have yf := R7.out.frozen
      have yl := R7.out.lt
      go_wp2_with fail
      refine bodyPost_ret (v := .tuple #[.agg #[.int .i64 3, .int .i64 0, .slice (some ⟨w7.heap.size, 0, none⟩) 2 2], .int .i64 0]) (by simp [results, Tryz.results42, go_sem, x0, x1, x2]) rfl ?_
      rw [HRES.out]
      exact ⟨KX.out, some ⟨w7.heap.size, 0, none⟩, 2, rfl, (lies_twoL KK7.out.size (QX.out.cell 0) (QX.out.cell 1) (QX.out.cell 2) (QX.out.cell 3) (QX.out.cell 4) (QX.out.cell 5) SU9.out SV9.out).mono fun b hb _ => Nat.le_trans K3.out.size hb, fun h => absurd rfl h⟩
end Go.Proofs.YtcdabjekppddjaaGreatDoor
