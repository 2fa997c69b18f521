/- Several texts in one. -/
import Derived.Test.YtfkjejpfhflanaaGreatDoorLr8
import Derived.Test.YtfkjejpfhflanaaGreatDoorLt7
import Derived.Test.YtfkjejpfhflanaaGreatDoorZBTopWithoutOwn
import Derived.Defers
import Derived.Recover
import Derived.Laws.Pointers
/- Walks: reading a lambda term. -/
namespace Go.Proofs.YtfkjejpfhflanaaGreatDoor
open Go.RowKit
set_option linter.unusedSimpArgs false
set_option linter.unusedVariables false
set_option maxRecDepth 8000

theorem lrd_term (s : ByteArray) (f : Nat) (nm : List ByteArray) (i k : Nat) : lrd s (f + 1) .term nm i k = if i < s.size ∧ byteAt s i = 92 then bndL s f nm (i + 1) k else if (lrd s f .piece nm i k).err ≠ 0 then noLr (lrd s f .piece nm i k).err else lrd s f (.behind (lrd s f .piece nm i k).t) nm (lrd s f .piece nm i k).pos (lrd s f .piece nm i k).k := by
  first | (rw [lrd]; done) | (rw [lrd]; rfl)
theorem lrd_behind (s : ByteArray) (f : Nat) (t : Lm) (nm : List ByteArray) (i k : Nat) : lrd s (f + 1) (.behind t) nm i k = if i < s.size ∧ byteAt s i = 32 then (if 200 < k + 1 then noLr 3 else if (lrd s f .piece nm (i + 1) (k + 1)).err ≠ 0 then noLr (lrd s f .piece nm (i + 1) (k + 1)).err else lrd s f (.behind ⟨3, 0, [t, (lrd s f .piece nm (i + 1) (k + 1)).t]⟩) nm (lrd s f .piece nm (i + 1) (k + 1)).pos (lrd s f .piece nm (i + 1) (k + 1)).k) else ⟨0, t, i, k⟩ := by
  first | (rw [lrd]; done) | (rw [lrd]; rfl)

theorem lrd_piece (s : ByteArray) (f : Nat) (nm : List ByteArray) (i k : Nat) : lrd s (f + 1) .piece nm i k = if i < s.size ∧ byteAt s i = 40 then
      (if (lrd s f .term nm (i + 1) k).err ≠ 0 then noLr (lrd s f .term nm (i + 1) k).err else if askE s (lrd s f .term nm (i + 1) k).pos 41 ≠ 0 then noLr (askE s (lrd s f .term nm (i + 1) k).pos 41) else ⟨0, (lrd s f .term nm (i + 1) k).t, (lrd s f .term nm (i + 1) k).pos + 1, (lrd s f .term nm (i + 1) k).k⟩)
    else if nameE s i ≠ 0 then noLr (nameE s i)
    else if 200 < k + 1 then noLr 3
    else namedL nm (s.extract i (stopAt s i)) (stopAt s i) (k + 1) := by
  first | (rw [lrd]; done) | (rw [lrd]; rfl)
/-- Knots are never fewer. -/
theorem lrd_kge (s : ByteArray) : ∀ f m nm i k, (lrd s f m nm i k).err = 0 → k ≤ (lrd s f m nm i k).k := by
  intro f
  induction f with
  | zero => intro m nm i k h; simp [lrd, noLr] at h
  | succ f ih =>
    intro m nm i k h
    cases m with
    | term =>
      rw [lrd_term] at h ⊢
      by_cases h1 : i < s.size ∧ byteAt s i = 92
      · rw [if_pos h1] at h ⊢
        unfold bndL at h ⊢
        by_cases h2 : 200 < k + 1
        · rw [if_pos h2] at h; simp [noLr] at h
        rw [if_neg h2] at h ⊢
        by_cases h3 : nameE s (i + 1) ≠ 0
        · rw [if_pos h3] at h; exact absurd h h3
        rw [if_neg h3] at h ⊢
        by_cases h4 : askE s (stopAt s (i + 1)) 46 ≠ 0
        · rw [if_pos h4] at h; exact absurd h h4
        rw [if_neg h4] at h ⊢
        by_cases h5 : (lrd s f .term (nm ++ [s.extract (i + 1) (stopAt s (i + 1))]) (stopAt s (i + 1) + 1) (k + 1)).err ≠ 0
        · rw [if_pos h5] at h; exact absurd h h5
        rw [if_neg h5]
        have := ih .term _ _ _ (by simpa using h5)
        simp only; omega
      · rw [if_neg h1] at h ⊢
        by_cases h5 : (lrd s f .piece nm i k).err ≠ 0
        · rw [if_pos h5] at h; exact absurd h h5
        rw [if_neg h5] at h ⊢
        have g1 := ih .piece nm i k (by simpa using h5)
        have g2 := ih (.behind (lrd s f .piece nm i k).t) nm _ _ h
        omega
    | behind t =>
      rw [lrd_behind] at h ⊢
      by_cases h1 : i < s.size ∧ byteAt s i = 32
      · rw [if_pos h1] at h ⊢
        by_cases h2 : 200 < k + 1
        · rw [if_pos h2] at h; simp [noLr] at h
        rw [if_neg h2] at h ⊢
        by_cases h5 : (lrd s f .piece nm (i + 1) (k + 1)).err ≠ 0
        · rw [if_pos h5] at h; exact absurd h h5
        rw [if_neg h5] at h ⊢
        have g1 := ih .piece nm (i + 1) (k + 1) (by simpa using h5)
        have g2 := ih (.behind ⟨3, 0, [t, (lrd s f .piece nm (i + 1) (k + 1)).t]⟩) nm _ _ h
        omega
      · rw [if_neg h1]
        exact Nat.le_refl _
    | piece =>
      rw [lrd_piece] at h ⊢
      by_cases h1 : i < s.size ∧ byteAt s i = 40
      · rw [if_pos h1] at h ⊢
        by_cases h5 : (lrd s f .term nm (i + 1) k).err ≠ 0
        · rw [if_pos h5] at h; exact absurd h h5
        rw [if_neg h5] at h ⊢
        by_cases h6 : askE s (lrd s f .term nm (i + 1) k).pos 41 ≠ 0
        · rw [if_pos h6] at h; exact absurd h h6
        rw [if_neg h6]
        exact ih .term nm (i + 1) k (by simpa using h5)
      · rw [if_neg h1] at h ⊢
        by_cases h3 : nameE s i ≠ 0
        · rw [if_pos h3] at h; exact absurd h h3
        rw [if_neg h3] at h ⊢
        by_cases h2 : 200 < k + 1
        · rw [if_pos h2] at h; simp [noLr] at h
        rw [if_neg h2] at h ⊢
        rw [(named_ok h).2]
        omega

/-- Two lambda terms in a row of their own. -/
theorem lies_twoL {W : World} {X : Nat → Prop} {S c c' : Nat} {a a' : Option Addr} {t t' : Lm} (hX : X S) (h0 : W.cell? ⟨S, 0, none⟩ = some (.int .i64 t.kind)) (h1 : W.cell? ⟨S, 1, none⟩ = some (.int .i64 t.idx)) (h2 : W.cell? ⟨S, 2, none⟩ = some (.slice a t.subs.length c)) (h3 : W.cell? ⟨S, 3, none⟩ = some (.int .i64 t'.kind)) (h4 : W.cell? ⟨S, 4, none⟩ = some (.int .i64 t'.idx)) (h5 : W.cell? ⟨S, 5, none⟩ = some (.slice a' t'.subs.length c')) (hs : SlM W X a t.subs) (hs' : SlM W X a' t'.subs) : SlM W X (some ⟨S, 0, none⟩) [t, t'] := by
  obtain ⟨k, x, l⟩ := t
  obtain ⟨k', x', l'⟩ := t'
  refine ⟨by simp, Or.inr ⟨S, 0, rfl, ?_⟩⟩
  simp only [LiesM]
  exact ⟨hX, h0, h1, ⟨a, c, h2, hs.1, hs.2⟩, hX, h3, h4, ⟨a', c', h5, hs'.1, hs'.2⟩, trivial⟩

theorem slm_bfr {w w' : World} {X : Nat → Prop} {a : Option Addr} {l : List Lm} {B : Nat} {nv nv' : Value} (hs : SlM w X a l) (hf : BFr w w' B nv nv') (hX : ∀ b, X b → b ≠ B ∧ some b ≠ nv.ownBlock) : SlM w' (fun b => X b ∧ b < w.heap.size) a l :=
  (hs.mono (Y := fun b => X b ∧ b < w.heap.size) fun b h1 h2 => ⟨h1, h2⟩).kept fun b hb => hf.2.2.2.2.1 b hb.2 (hX b hb.1).1 (hX b hb.1).2
/-- What is known at each round's head. -/
def TmInv (N B T F : Nat) (s : ByteArray) (nm : List ByteArray) (nv : Value) (w : World) (r : Lrd) (wr : World) : Prop :=
  ∃ (f' : Nat) (t : Lm) (p k' : Nat) (nv' : Value) (a : Option Addr) (c : Nat), f' ≤ F ∧ 3 * (s.size - p) + 1 ≤ f' ∧ p ≤ s.size ∧ k' ≤ 200 ∧ nm.length ≤ 100 + k' ∧ r = lrd s f' (.behind t) nm p k' ∧ Rst N B s nm p k' nv' wr ∧ BFr w wr B nv nv' ∧ Blk wr w.heap.size #[.int .i64 0, .int .i64 0, .slice none 0 0] 25 ∧ some w.heap.size ≠ nv'.ownBlock ∧
    Blk wr T #[.int .i64 t.kind, .int .i64 t.idx, .slice a t.subs.length c] 25 ∧ some T ≠ nv'.ownBlock ∧ SlM wr (fun b => w.heap.size < b ∧ b ≠ T ∧ some b ≠ nv'.ownBlock) a t.subs

set_option maxHeartbeats 4000000 in
theorem lterm_of (N B : Nat) (s : ByteArray) (hs : s.size ≤ 4000) (F : Nat) (hT : LTerm N B s F) (hP : ∀ F', F' ≤ F → LPiece N B s F') : LTerm N B s (F + 1) := by
  intro nm nv i k w hst hnk hi hk hF
  have HT := hide hT
  have HP := hide hP
  have hbox := hst.box
  have hBlt := hst.lt
  have HRD := hide (lrd_term s F nm i k)
  generalize lrd s (F + 1) .term nm i k = r at *
  have Z0 := hide (hst.alloc (.cells #[.int .i64 0, .int .i64 0, .slice none 0 0] 25))
  have R0 := hide (Blk.new w #[.int .i64 0, .int .i64 0, .slice none 0 0] 25)
  have F0 : Hid (BFr w (w.alloc (.cells #[.int .i64 0, .int .i64 0, .slice none 0 0] 25)) B nv nv) := BFr.of_below ((Below.refl _ _).alloc (Nat.le_refl _) _) B nv
  have hz0 : (w.alloc (.cells #[.int .i64 0, .int .i64 0, .slice none 0 0] 25)).heap.size = w.heap.size + 1 := by simp
  clear hT hP hst
  go_enter Tryz.func41, Tryz.ntmps41
  go_wp2_with fail
  generalize (w.alloc (.cells #[.int .i64 0, .int .i64 0, .slice none 0 0] 25)) = w0 at *
  refine (take_anyL (nv := nv) B i k s 92 hi hs _ (by exact Z0.out.bx)).mono ?_
  intro e w1 hp
  unfold TookPostL at hp
  by_cases h4 : i < s.size ∧ byteAt s i = 92
  · rw [if_pos h4] at hp
    obtain ⟨rfl, hx1, he1, hz1⟩ := hp
    have Z1 := hide (Z0.out.ex he1 hx1)
    have F1 := hide (F0.out.trans (he1.bfrL nv))
    have R1 := hide (blk_bfr R0.out (he1.bfrL nv) hbox.1 hbox.2)
    have HR : Hid (r = bndL s F nm (i + 1) k) := by unfold Hid; rw [HRD.out, if_pos h4]
    clear he1 hx1 HRD Z0 F0 R0
    go_wp2_with fail
    refine (lbinder_of N B s hs F HT.out nm nv (i + 1) k w1 Z1.out hnk (by omega) hk (by omega)).mono ?_
    intro e w2 hp
    generalize bndL s F nm (i + 1) k = r2 at *
    rcases hp with ⟨hr0, nv2, a2, c2, rfl, hs2, hst2, hf2⟩ | ⟨hr0, rfl, nv2, hf2⟩
    · have R2 := hide (blk_bfr R1.out hf2 hbox.1 hbox.2)
      have ho2 := own_bfr hf2 R1.out.lt hbox.2
      have F2 := hide (F1.out.trans hf2)
      have Z2 := hide hst2
      have S2 : Hid (SlM w2 (fun b => w.heap.size < b ∧ some b ≠ nv2.ownBlock) a2 r2.t.subs) := hs2.mono fun b hb _ => ⟨by omega, hb.2⟩
      have HF : Hid (r = ⟨0, r2.t, r2.pos, r2.k⟩) := by
        unfold Hid; rw [HR.out]; obtain ⟨e0, e1, e2, e3⟩ := r2; simp only at hr0; rw [hr0]
      have r0 := R2.out.cell 0
      have r1 := R2.out.cell 1
      have r2' := R2.out.cell 2
      have rf := R2.out.frozen
      simp only [List.getElem?_toArray, List.getElem?_cons_succ, List.getElem?_cons_zero] at r0 r1 r2'
      clear hf2 hs2 hst2 hr0
      go_wp2_with fail
      refine bodyPost_ret (v := .agg #[.int .i64 r2.t.kind, .int .i64 r2.t.idx, .slice a2 r2.t.subs.length c2]) (by simp [results, Tryz.results41, go_sem, World.cell?_setCell_same, World.cell?_setCell_other, r0, r1, r2']) rfl ?_
      exact lr_fin HF.out Z2.out F2.out hBlt ho2 S2.out _ _ _
    · exact ⟨rfl, Or.inr ⟨by rw [HR.out]; exact hr0, by rw [HR.out], nv2, F1.out.trans hf2⟩⟩
  · rw [if_neg h4] at hp
    obtain ⟨rfl, n1, rfl⟩ := hp
    have Z1 := hide (Z0.out.drewN n1)
    have F1 := hide (F0.out.trans (BFr.of_below (below_drewN (Below.refl _ _) n1) B nv))
    have R1 := hide (R0.out.drewN n1)
    have HR : Hid (r = if (lrd s F .piece nm i k).err ≠ 0 then noLr (lrd s F .piece nm i k).err else lrd s F (.behind (lrd s F .piece nm i k).t) nm (lrd s F .piece nm i k).pos (lrd s F .piece nm i k).k) := by unfold Hid; rw [HRD.out, if_neg h4]
    have hz1 : (w0.drewN n1).heap.size = w.heap.size + 1 := by
      have : (w0.drewN n1).heap = w0.heap := rfl
      rw [this]; exact hz0
    generalize w0.drewN n1 = w1 at *
    clear HRD Z0 F0 R0
    go_wp2_with fail
    refine (HP.out F (Nat.le_refl _) nm nv i k w1 Z1.out hnk hi hk (by omega)).mono ?_
    intro e w2 hp
    have HPO := hide (lrd_pos s F .piece nm i k)
    have HKM := hide (lrd_kge s F .piece nm i k)
    generalize lrd s F .piece nm i k = r2 at *
    rcases hp with ⟨hr0, nv2, a2, c2, rfl, hs2, hst2, hf2⟩ | ⟨hr0, rfl, nv2, hf2⟩
    case inr => exact ⟨rfl, lrP_no (by rw [HR.out, if_pos hr0]) hr0 (F1.out.trans hf2)⟩
    have hpos := HPO.out hr0 hi hk
    have hp2 := hpos.2.2.2 (fun t e => by cases e)
    have HR2 : Hid (r = lrd s F (.behind r2.t) nm r2.pos r2.k) := by unfold Hid; rw [HR.out, if_neg (by rw [hr0]; simp)]
    have R2 := hide (blk_bfr R1.out hf2 hbox.1 hbox.2)
    have ho2 := own_bfr hf2 R1.out.lt hbox.2
    have F2 := hide (F1.out.trans hf2)
    have hz2 : w1.heap.size ≤ w2.heap.size := hf2.2.2.2.1
    have hbx2 := hst2.box
    have Z3 := hide (hst2.alloc (.cells #[.int .i64 r2.t.kind, .int .i64 r2.t.idx, .slice a2 r2.t.subs.length c2] 25))
    have T3 := hide (Blk.new w2 #[.int .i64 r2.t.kind, .int .i64 r2.t.idx, .slice a2 r2.t.subs.length c2] 25)
    have R3 := hide (R2.out.alloc (.cells #[.int .i64 r2.t.kind, .int .i64 r2.t.idx, .slice a2 r2.t.subs.length c2] 25))
    have S3 : Hid (SlM (w2.alloc (.cells #[.int .i64 r2.t.kind, .int .i64 r2.t.idx, .slice a2 r2.t.subs.length c2] 25)) (fun b => w.heap.size < b ∧ b ≠ w2.heap.size ∧ some b ≠ nv2.ownBlock) a2 r2.t.subs) := (hs2.mono (Y := fun b => w.heap.size < b ∧ b ≠ w2.heap.size ∧ some b ≠ nv2.ownBlock) fun b hb hl => ⟨by omega, by omega, hb.2⟩).later ((Below.refl _ _).alloc (Nat.le_refl _) _)
    have F3 := hide (F2.out.trans (BFr.of_below ((Below.refl w2.heap.size w2).alloc (Nat.le_refl _) (.cells #[.int .i64 r2.t.kind, .int .i64 r2.t.idx, .slice a2 r2.t.subs.length c2] 25)) B nv2))
    have hkk : nm.length ≤ 100 + r2.k := by have := HKM.out hr0; omega
    clear hf2 hs2 hst2 R2 F2 hr0 HR HPO
    go_wp2_with fail
    generalize (w2.alloc (.cells #[.int .i64 r2.t.kind, .int .i64 r2.t.idx, .slice a2 r2.t.subs.length c2] 25)) = w3 at *
    have hTgt : w.heap.size < w2.heap.size := by omega
    generalize w2.heap.size = T at *
    go_loopw [] (fun wr => TmInv N B T F s nm nv w r wr) (fun wr => s.size - rdAtL wr B)
    case atStart => exact ⟨F, r2.t, r2.pos, r2.k, nv2, a2, c2, Nat.le_refl _, by omega, hpos.2.1, hpos.2.2.1, hkk, HR2.out, Z3.out, F3.out, R3.out, ho2, T3.out, hbx2.2, S3.out⟩
    case round =>
      obtain ⟨f', t, p, k', nv', a, c, hf1, hf2, hp1, hk1, hnk1, hr, hst, hfr, hR, hRo, hTb, hTo, hsl⟩ := hrel
      obtain ⟨f0, rfl⟩ : ∃ f0, f' = f0 + 1 := ⟨f' - 1, by omega⟩
      have HLB := hide (lrd_behind s f0 t nm p k')
      have HR4 : Hid (r = if p < s.size ∧ byteAt s p = 32 then (if 200 < k' + 1 then noLr 3 else if (lrd s f0 .piece nm (p + 1) (k' + 1)).err ≠ 0 then noLr (lrd s f0 .piece nm (p + 1) (k' + 1)).err else lrd s f0 (.behind ⟨3, 0, [t, (lrd s f0 .piece nm (p + 1) (k' + 1)).t]⟩) nm (lrd s f0 .piece nm (p + 1) (k' + 1)).pos (lrd s f0 .piece nm (p + 1) (k' + 1)).k) else ⟨0, t, p, k'⟩) := by unfold Hid; rw [hr, HLB.out]
      have Z4 := hide hst
      have F4 := hide hfr
      have R4 := hide hR
      have T4 := hide hTb
      have S4 := hide hsl
      have hBr := hst.lt
      have hTr := hTb.lt
      have hTB : T ≠ B := by
        intro e
        have h1 := hst.bx
        have h2 := hTb
        unfold Bl Blk at h1
        unfold Blk at h2
        rw [e, h1] at h2
        simp at h2
      have hAt := hst.bx.at
      clear hr hst hfr hR hTb hsl HLB Z3 F3 R3 T3 S3 HR2
      go_wp2_with fail
      refine (take_anyL (nv := nv') B p k' s 32 hp1 hs _ (by exact Z4.out.bx)).mono ?_
      intro e w5 hp
      unfold TookPostL at hp
      by_cases h5 : p < s.size ∧ byteAt s p = 32
      case neg =>
        rw [if_neg h5] at hp
        obtain ⟨rfl, n5, rfl⟩ := hp
        have HF : Hid (r = ⟨0, t, p, k'⟩) := by unfold Hid; rw [HR4.out, if_neg h5]
        have Z5 := hide (Z4.out.drewN n5)
        have F5 := hide (F4.out.trans (BFr.of_below (below_drewN (Below.refl _ _) n5) B nv'))
        have R5 := hide (R4.out.drewN n5)
        have T5 := hide (T4.out.drewN n5)
        have S5 : Hid (SlM (wr.drewN n5) (fun b => w.heap.size < b ∧ some b ≠ nv'.ownBlock) a t.subs) := (S4.out.later (below_drewN (Below.refl _ _) n5)).mono fun b hb _ => ⟨hb.1, hb.2.2⟩
        generalize wr.drewN n5 = w5 at *
        have q0 := T5.out.cell 0
        have q1 := T5.out.cell 1
        have q2 := T5.out.cell 2
        have r0 := R5.out.cell 0
        have r1 := R5.out.cell 1
        have r2' := R5.out.cell 2
        have rf := R5.out.frozen
        simp only [List.getElem?_toArray, List.getElem?_cons_succ, List.getElem?_cons_zero] at q0 q1 q2 r0 r1 r2'
        go_wp2_with fail
        refine bodyPost_ret (v := .agg #[.int .i64 t.kind, .int .i64 t.idx, .slice a t.subs.length c]) (by simp [results, Tryz.results41, go_sem, World.cell?_setCell_same, World.cell?_setCell_other, r0, r1, r2']) rfl ?_
        exact lr_fin HF.out Z5.out F5.out hBlt hRo S5.out _ _ _
      rw [if_pos h5] at hp
      obtain ⟨rfl, hx5, he5, hz5⟩ := hp
      have HR5 := hide (show r = _ from (HR4.out).trans (if_pos h5))
      have Z5 := hide (Z4.out.ex he5 hx5)
      have F5 := hide (F4.out.trans (he5.bfrL nv'))
      have R5 := hide (blk_bfr R4.out (he5.bfrL nv') hbox.1 hRo)
      have T5 := hide (blk_bfr T4.out (he5.bfrL nv') hTB hTo)
      have S5 : Hid (SlM w5 (fun b => w.heap.size < b ∧ b ≠ T ∧ some b ≠ nv'.ownBlock) a t.subs) := (slm_bfr S4.out (he5.bfrL nv') (fun b hb => ⟨by omega, hb.2.2⟩)).mono fun b hb _ => hb.1
      clear hx5 he5 HR4 Z4 F4 R4 T4 S4
      go_wp2_with fail
      refine (rdKnot_anyL (nv := nv') B (p + 1) k' s (by omega) _ (by exact Z5.out.bx)).mono ?_
      intro e w6 hp
      unfold RdKnotPostL at hp
      by_cases h3 : 200 < k' + 1
      · rw [if_pos h3] at hp
        obtain ⟨he, he3⟩ := hp
        unfold thrownL at he
        subst he
        exact ⟨rfl, lrP_no (by rw [HR5.out, if_pos h3]) (by simp) (F5.out.trans (he3.bfrL nv'))⟩
      rw [if_neg h3] at hp
      obtain ⟨⟨v6, rfl⟩, hx6, he6, hz6⟩ := hp
      have HR6 := hide (show r = _ from (HR5.out).trans (if_neg h3))
      have Z6 := hide (Z5.out.ex he6 hx6)
      have F6 := hide (F5.out.trans (he6.bfrL nv'))
      have R6 := hide (blk_bfr R5.out (he6.bfrL nv') hbox.1 hRo)
      have T6 := hide (blk_bfr T5.out (he6.bfrL nv') hTB hTo)
      have S6 : Hid (SlM w6 (fun b => w.heap.size < b ∧ b ≠ T ∧ some b ≠ nv'.ownBlock) a t.subs) := (slm_bfr S5.out (he6.bfrL nv') (fun b hb => ⟨by omega, hb.2.2⟩)).mono fun b hb _ => hb.1
      clear hx6 he6 HR5 Z5 F5 R5 T5 S5
      go_wp2_with fail
      have Zd := hide (Z6.out.later (Below.drew (Below.refl w6.heap.size w6)))
      have Fd := hide (F6.out.trans (BFr.of_below (Below.drew (Below.refl w6.heap.size w6)) B nv'))
      have Rd : Hid (Blk w6.drew w.heap.size #[.int .i64 0, .int .i64 0, .slice none 0 0] 25) := R6.out
      have Td : Hid (Blk w6.drew T #[.int .i64 t.kind, .int .i64 t.idx, .slice a t.subs.length c] 25) := T6.out
      have Sd := hide (S6.out.later (Below.drew (Below.refl w6.heap.size w6)))
      refine wp_region_held_drew (S := fun w' => N ≤ w'.heap.size) (by kernel_rfl) (by exact Zd.out.le) (fun hHeld => ?_)
      generalize w6.drew = wd at *
      clear Z6 F6 R6 T6 S6
      have HPO7 := hide (lrd_pos s f0 .piece nm (p + 1) (k' + 1))
      have HKM7 := hide (lrd_kge s f0 .piece nm (p + 1) (k' + 1))
      refine wpAnyH_take (i := 1) (v := ?_) rfl (by kernel_rfl) (by kernel_rfl) (by kernel_rfl) (fun _ _ _ h => h) (Or.inl ⟨by rfl, ?_⟩) (by assumption) ?_
      rotate_left
      · intro w' hSw
        go_simp <;> with_reducible rfl
      try simp only [Act.put, List.setIfInBounds_toArray, List.set_cons_zero, List.set_cons_succ, List.getElem_toArray, List.getElem_cons_succ, List.getElem_cons_zero]
      refine wpAnyH_ready (rs := [0, 2]) (by kernel_rfl) (by simp) ?_
      refine AllReadyH.cons rfl (fun K hK => ?_) (AllReadyH.cons rfl (fun K hK => ?_) AllReadyH.nil)
      · have m0 := Td.out.cell 0
        have m1 := Td.out.cell 1
        have m2 := Td.out.cell 2
        simp only [List.getElem?_toArray, List.getElem?_cons_succ, List.getElem?_cons_zero] at m0 m1 m2
        go_simp
        refine hK.out _ _ (by exact Zd.out.le) (fun hHeld => ?_)
        clear hK K
        try simp only [Act.put, List.setIfInBounds_toArray, List.set_cons_zero, List.set_cons_succ, List.getElem_toArray, List.getElem_cons_succ, List.getElem_cons_zero]
        clear m0 m1 m2
        refine wpAnyH_ready (rs := [2]) (by kernel_rfl) (by simp) ?_
        refine AllReadyH.cons rfl (fun K hK => ?_) AllReadyH.nil
        go_simp
        go_at_call 63
        refine (HP.out f0 (by omega) nm nv' (p + 1) (k' + 1) wd Zd.out (by omega) (by omega) (by omega) (by omega)).mono ?_
        intro e w7 hp
        generalize lrd s f0 .piece nm (p + 1) (k' + 1) = r7 at *
        rcases hp with ⟨hr0, nv7, a7, c7, rfl, hs7, hst7, hf7⟩ | ⟨hr0, rfl, nv7, hf7⟩
        case inr => exact ⟨rfl, lrP_no (by rw [HR6.out, if_pos hr0]) hr0 (Fd.out.trans hf7)⟩
        have hpos7 := HPO7.out hr0 (by omega) (by omega)
        have hp7 := hpos7.2.2.2 (fun t e => by cases e)
        have hkm7 := HKM7.out hr0
        have HR7 : Hid (r = lrd s f0 (.behind ⟨3, 0, [t, r7.t]⟩) nm r7.pos r7.k) := by unfold Hid; rw [HR6.out, if_neg (by rw [hr0]; simp)]
        have Z7 := hide hst7
        have F7 := hide (Fd.out.trans hf7)
        have R7 := hide (blk_bfr Rd.out hf7 hbox.1 hRo)
        have hRo7 := own_bfr hf7 Rd.out.lt hRo
        have T7 := hide (blk_bfr Td.out hf7 hTB hTo)
        have hTo7 := own_bfr hf7 Td.out.lt hTo
        have S7 : Hid (SlM w7 (fun b => w.heap.size < b ∧ b ≠ T ∧ some b ≠ nv7.ownBlock) a t.subs) := (slm_bfr Sd.out hf7 (fun b hb => ⟨by omega, hb.2.2⟩)).mono fun b hb _ => ⟨hb.1.1, hb.1.2.1, own_bfr hf7 hb.2 hb.1.2.2⟩
        have hTd := Td.out.lt
        have hRd := Rd.out.lt
        have U7 : Hid (SlM w7 (fun b => w.heap.size < b ∧ b ≠ T ∧ some b ≠ nv7.ownBlock) a7 r7.t.subs) := hs7.mono fun b hb _ => ⟨by omega, by omega, hb.2⟩
        have hz7 : wd.heap.size ≤ w7.heap.size := hf7.2.2.2.1
        clear hs7 hst7 hf7 hr0 HPO7 HKM7
        go_simp
        refine hK.out _ _ (by exact Z7.out.le) (fun hHeld => ?_)
        clear hK K
        try simp only [Act.put, List.setIfInBounds_toArray, List.set_cons_zero, List.set_cons_succ, List.getElem_toArray, List.getElem_cons_succ, List.getElem_cons_zero]
        have Z8 := hide (Z7.out.alloc (.cells #[.int .i64 t.kind, .int .i64 t.idx, .slice a t.subs.length c, .int .i64 r7.t.kind, .int .i64 r7.t.idx, .slice a7 r7.t.subs.length c7] 25))
        have F8 := hide (F7.out.trans (BFr.of_below ((Below.refl w7.heap.size w7).alloc (Nat.le_refl _) (.cells #[.int .i64 t.kind, .int .i64 t.idx, .slice a t.subs.length c, .int .i64 r7.t.kind, .int .i64 r7.t.idx, .slice a7 r7.t.subs.length c7] 25)) B nv7))
        have R8 := hide (R7.out.alloc (.cells #[.int .i64 t.kind, .int .i64 t.idx, .slice a t.subs.length c, .int .i64 r7.t.kind, .int .i64 r7.t.idx, .slice a7 r7.t.subs.length c7] 25))
        have T8 := hide (T7.out.alloc (.cells #[.int .i64 t.kind, .int .i64 t.idx, .slice a t.subs.length c, .int .i64 r7.t.kind, .int .i64 r7.t.idx, .slice a7 r7.t.subs.length c7] 25))
        have S8 := hide (S7.out.later ((Below.refl w7.heap.size w7).alloc (Nat.le_refl _) (.cells #[.int .i64 t.kind, .int .i64 t.idx, .slice a t.subs.length c, .int .i64 r7.t.kind, .int .i64 r7.t.idx, .slice a7 r7.t.subs.length c7] 25)))
        have U8 := hide (U7.out.later ((Below.refl w7.heap.size w7).alloc (Nat.le_refl _) (.cells #[.int .i64 t.kind, .int .i64 t.idx, .slice a t.subs.length c, .int .i64 r7.t.kind, .int .i64 r7.t.idx, .slice a7 r7.t.subs.length c7] 25)))
        have P8 := hide (Blk.new w7 #[.int .i64 t.kind, .int .i64 t.idx, .slice a t.subs.length c, .int .i64 r7.t.kind, .int .i64 r7.t.idx, .slice a7 r7.t.subs.length c7] 25)
        have hbx7 := Z7.out.box
        refine wpAnyH_ready (rs := [3]) (by kernel_rfl) (by simp) ?_
        refine AllReadyH.cons rfl (fun K hK => ?_) AllReadyH.nil
        go_simp
        refine hK.out _ _ (by exact Z8.out.le) (fun hHeld => ?_)
        clear hK K
        try simp only [Act.put, List.setIfInBounds_toArray, List.set_cons_zero, List.set_cons_succ, List.getElem_toArray, List.getElem_cons_succ, List.getElem_cons_zero]
        generalize (w7.alloc (.cells #[.int .i64 t.kind, .int .i64 t.idx, .slice a t.subs.length c, .int .i64 r7.t.kind, .int .i64 r7.t.idx, .slice a7 r7.t.subs.length c7] 25)) = w8 at *
        have hTw7 : T < w7.heap.size := by omega
        have hRw7 : w.heap.size < w7.heap.size := by omega
        have hXS : Hid (w.heap.size < w7.heap.size ∧ w7.heap.size ≠ T ∧ some w7.heap.size ≠ nv7.ownBlock) := ⟨by omega, by omega, hbx7.2⟩
        refine wpAnyH_take (i := 4) (v := ?_) rfl (by kernel_rfl) (by kernel_rfl) (by kernel_rfl) (fun _ _ _ h => h) (Or.inl ⟨by rfl, ?_⟩) (by assumption) ?_
        rotate_left
        · intro w' hSw
          go_simp <;> with_reducible rfl
        try simp only [Act.put, List.setIfInBounds_toArray, List.set_cons_zero, List.set_cons_succ, List.getElem_toArray, List.getElem_cons_succ, List.getElem_cons_zero]
        have m0 := T8.out.cell 0
        have m1 := T8.out.cell 1
        have m2 := T8.out.cell 2
        have mf := T8.out.frozen
        simp only [List.getElem?_toArray, List.getElem?_cons_succ, List.getElem?_cons_zero] at m0 m1 m2
        have kx : ∀ q : Nat, q ≠ T → (((w8.setCell ⟨T, 0, none⟩ (.int .i64 3)).setCell ⟨T, 1, none⟩ (.int .i64 0)).setCell ⟨T, 2, none⟩ (.slice (some ⟨w7.heap.size, 0, none⟩) 2 2)).heap[q]? = w8.heap[q]? := fun q hq => by
          rw [Below.heap_setCell _ _ _ _ (by simpa using hq), Below.heap_setCell _ _ _ _ (by simpa using hq), Below.heap_setCell _ _ _ _ (by simpa using hq)]
        have hf9 : Hid (BFr w8 (((w8.setCell ⟨T, 0, none⟩ (.int .i64 3)).setCell ⟨T, 1, none⟩ (.int .i64 0)).setCell ⟨T, 2, none⟩ (.slice (some ⟨w7.heap.size, 0, none⟩) 2 2)) B nv7 nv7 ∨ True) := Or.inr trivial
        have hz9 : (((w8.setCell ⟨T, 0, none⟩ (.int .i64 3)).setCell ⟨T, 1, none⟩ (.int .i64 0)).setCell ⟨T, 2, none⟩ (.slice (some ⟨w7.heap.size, 0, none⟩) 2 2)).heap.size = w8.heap.size := by simp [World.setCell]
        have hos9 : (((w8.setCell ⟨T, 0, none⟩ (.int .i64 3)).setCell ⟨T, 1, none⟩ (.int .i64 0)).setCell ⟨T, 2, none⟩ (.slice (some ⟨w7.heap.size, 0, none⟩) 2 2)).os = w8.os ∧ (((w8.setCell ⟨T, 0, none⟩ (.int .i64 3)).setCell ⟨T, 1, none⟩ (.int .i64 0)).setCell ⟨T, 2, none⟩ (.slice (some ⟨w7.heap.size, 0, none⟩) 2 2)).tape = w8.tape ∧ (((w8.setCell ⟨T, 0, none⟩ (.int .i64 3)).setCell ⟨T, 1, none⟩ (.int .i64 0)).setCell ⟨T, 2, none⟩ (.slice (some ⟨w7.heap.size, 0, none⟩) 2 2)).output = w8.output := ⟨rfl, rfl, rfl⟩
        have T9 : Hid (Blk (((w8.setCell ⟨T, 0, none⟩ (.int .i64 3)).setCell ⟨T, 1, none⟩ (.int .i64 0)).setCell ⟨T, 2, none⟩ (.slice (some ⟨w7.heap.size, 0, none⟩) 2 2)) T #[.int .i64 3, .int .i64 0, .slice (some ⟨w7.heap.size, 0, none⟩) 2 2] 25) := lt_set3 T8.out _ _ _
        have hN9 : N ≤ (((w8.setCell ⟨T, 0, none⟩ (.int .i64 3)).setCell ⟨T, 1, none⟩ (.int .i64 0)).setCell ⟨T, 2, none⟩ (.slice (some ⟨w7.heap.size, 0, none⟩) 2 2)).heap.size := by rw [hz9]; exact Z8.out.le
        refine wpAnyH_ready (rs := [5]) (by kernel_rfl) (by simp) ?_
        refine AllReadyH.cons rfl (fun K hK => ?_) AllReadyH.nil
        go_simp
        refine hK.out _ _ (by exact hN9) (fun hHeld => ?_)
        clear hK K
        try simp only [Act.put, List.setIfInBounds_toArray, List.set_cons_zero, List.set_cons_succ, List.getElem_toArray, List.getElem_cons_succ, List.getElem_cons_zero]
        generalize (((w8.setCell ⟨T, 0, none⟩ (.int .i64 3)).setCell ⟨T, 1, none⟩ (.int .i64 0)).setCell ⟨T, 2, none⟩ (.slice (some ⟨w7.heap.size, 0, none⟩) 2 2)) = w9 at *
        clear m0 m1 m2 mf hf9
        refine wpAnyH_done (by kernel_rfl) ?_ _
        have R9 : Hid (Blk w9 w.heap.size #[.int .i64 0, .int .i64 0, .slice none 0 0] 25) := (kx _ (by omega)).trans R8.out
        have F9 : Hid (BFr w w9 B nv nv7) := ⟨hos9.1.trans F8.out.1, hos9.2.1.trans F8.out.2.1, hos9.2.2.trans F8.out.2.2.1, by have := F8.out.2.2.2.1; omega, fun q hq h1 h2 => (kx q (by omega)).trans (F8.out.2.2.2.2.1 q hq h1 h2), F8.out.2.2.2.2.2⟩
        have Z9 : Hid (Rst N B s nm r7.pos r7.k nv7 w9) := by
          have hb9 : Below N w8 w9 := ⟨hos9.1, hos9.2.1, hos9.2.2, by omega, fun q hq => kx q (by have := Z8.out.nb; omega)⟩
          refine ⟨?_, Z8.out.own.kept (row := some T) ⟨hos9.1, hos9.2.1, hos9.2.2, by omega, fun q hq hn => kx q (fun e => hn (by rw [e]))⟩ (Or.inr fun e => hTo7 e.symm), Z8.out.nb, hN9, Z8.out.tb.on hb9, Z8.out.ts.on hb9⟩
          have hbx := Z8.out.bx
          unfold Bl Blk at hbx ⊢
          rw [kx B (fun e => hTB e.symm)]
          exact hbx
        have P9 : Hid (Blk w9 w7.heap.size #[.int .i64 t.kind, .int .i64 t.idx, .slice a t.subs.length c, .int .i64 r7.t.kind, .int .i64 r7.t.idx, .slice a7 r7.t.subs.length c7] 25) := (kx _ (by omega)).trans P8.out
        have S9 : Hid (SlM w9 (fun b => w.heap.size < b ∧ b ≠ T ∧ some b ≠ nv7.ownBlock) (some ⟨w7.heap.size, 0, none⟩) [t, r7.t]) := lies_twoL hXS.out (P9.out.cell 0) (P9.out.cell 1) (P9.out.cell 2) (P9.out.cell 3) (P9.out.cell 4) (P9.out.cell 5) (S8.out.kept fun q hq => kx q hq.2.1) (U8.out.kept fun q hq => kx q hq.2.1)
        have hAt9 := Z9.out.bx.at
        clear kx hos9 hz9 Z8 F8 R8 T8 S8 U8 P8 P9 Z7 F7 R7 T7 S7 U7
        go_wp2_with fail
        go_roundw
        case rel => exact ⟨f0, ⟨3, 0, [t, r7.t]⟩, r7.pos, r7.k, nv7, some ⟨w7.heap.size, 0, none⟩, 2, by omega, by omega, hpos7.2.1, hpos7.2.2.1, by omega, HR7.out, Z9.out, F9.out, R9.out, hRo7, T9.out, hTo7, S9.out⟩
        case measure => rw [hAt9, hAt]; omega
      · go_simp
        go_at_call 63
        refine (HP.out f0 (by omega) nm nv' (p + 1) (k' + 1) wd Zd.out (by omega) (by omega) (by omega) (by omega)).mono ?_
        intro e w7 hp
        generalize lrd s f0 .piece nm (p + 1) (k' + 1) = r7 at *
        rcases hp with ⟨hr0, nv7, a7, c7, rfl, hs7, hst7, hf7⟩ | ⟨hr0, rfl, nv7, hf7⟩
        case inr => exact ⟨rfl, lrP_no (by rw [HR6.out, if_pos hr0]) hr0 (Fd.out.trans hf7)⟩
        have hpos7 := HPO7.out hr0 (by omega) (by omega)
        have hp7 := hpos7.2.2.2 (fun t e => by cases e)
        have hkm7 := HKM7.out hr0
        have HR7 : Hid (r = lrd s f0 (.behind ⟨3, 0, [t, r7.t]⟩) nm r7.pos r7.k) := by unfold Hid; rw [HR6.out, if_neg (by rw [hr0]; simp)]
        have Z7 := hide hst7
        have F7 := hide (Fd.out.trans hf7)
        have R7 := hide (blk_bfr Rd.out hf7 hbox.1 hRo)
        have hRo7 := own_bfr hf7 Rd.out.lt hRo
        have T7 := hide (blk_bfr Td.out hf7 hTB hTo)
        have hTo7 := own_bfr hf7 Td.out.lt hTo
        have S7 : Hid (SlM w7 (fun b => w.heap.size < b ∧ b ≠ T ∧ some b ≠ nv7.ownBlock) a t.subs) := (slm_bfr Sd.out hf7 (fun b hb => ⟨by omega, hb.2.2⟩)).mono fun b hb _ => ⟨hb.1.1, hb.1.2.1, own_bfr hf7 hb.2 hb.1.2.2⟩
        have hTd := Td.out.lt
        have hRd := Rd.out.lt
        have U7 : Hid (SlM w7 (fun b => w.heap.size < b ∧ b ≠ T ∧ some b ≠ nv7.ownBlock) a7 r7.t.subs) := hs7.mono fun b hb _ => ⟨by omega, by omega, hb.2⟩
        have hz7 : wd.heap.size ≤ w7.heap.size := hf7.2.2.2.1
        clear hs7 hst7 hf7 hr0 HPO7 HKM7
        go_simp
        refine hK.out _ _ (by exact Z7.out.le) (fun hHeld => ?_)
        clear hK K
        try simp only [Act.put, List.setIfInBounds_toArray, List.set_cons_zero, List.set_cons_succ, List.getElem_toArray, List.getElem_cons_succ, List.getElem_cons_zero]
        refine wpAnyH_ready (rs := [0]) (by kernel_rfl) (by simp) ?_
        refine AllReadyH.cons rfl (fun K hK => ?_) AllReadyH.nil
        have m0 := T7.out.cell 0
        have m1 := T7.out.cell 1
        have m2 := T7.out.cell 2
        simp only [List.getElem?_toArray, List.getElem?_cons_succ, List.getElem?_cons_zero] at m0 m1 m2
        go_simp
        refine hK.out _ _ (by exact Z7.out.le) (fun hHeld => ?_)
        clear hK K
        try simp only [Act.put, List.setIfInBounds_toArray, List.set_cons_zero, List.set_cons_succ, List.getElem_toArray, List.getElem_cons_succ, List.getElem_cons_zero]
        clear m0 m1 m2
        have Z8 := hide (Z7.out.alloc (.cells #[.int .i64 t.kind, .int .i64 t.idx, .slice a t.subs.length c, .int .i64 r7.t.kind, .int .i64 r7.t.idx, .slice a7 r7.t.subs.length c7] 25))
        have F8 := hide (F7.out.trans (BFr.of_below ((Below.refl w7.heap.size w7).alloc (Nat.le_refl _) (.cells #[.int .i64 t.kind, .int .i64 t.idx, .slice a t.subs.length c, .int .i64 r7.t.kind, .int .i64 r7.t.idx, .slice a7 r7.t.subs.length c7] 25)) B nv7))
        have R8 := hide (R7.out.alloc (.cells #[.int .i64 t.kind, .int .i64 t.idx, .slice a t.subs.length c, .int .i64 r7.t.kind, .int .i64 r7.t.idx, .slice a7 r7.t.subs.length c7] 25))
        have T8 := hide (T7.out.alloc (.cells #[.int .i64 t.kind, .int .i64 t.idx, .slice a t.subs.length c, .int .i64 r7.t.kind, .int .i64 r7.t.idx, .slice a7 r7.t.subs.length c7] 25))
        have S8 := hide (S7.out.later ((Below.refl w7.heap.size w7).alloc (Nat.le_refl _) (.cells #[.int .i64 t.kind, .int .i64 t.idx, .slice a t.subs.length c, .int .i64 r7.t.kind, .int .i64 r7.t.idx, .slice a7 r7.t.subs.length c7] 25)))
        have U8 := hide (U7.out.later ((Below.refl w7.heap.size w7).alloc (Nat.le_refl _) (.cells #[.int .i64 t.kind, .int .i64 t.idx, .slice a t.subs.length c, .int .i64 r7.t.kind, .int .i64 r7.t.idx, .slice a7 r7.t.subs.length c7] 25)))
        have P8 := hide (Blk.new w7 #[.int .i64 t.kind, .int .i64 t.idx, .slice a t.subs.length c, .int .i64 r7.t.kind, .int .i64 r7.t.idx, .slice a7 r7.t.subs.length c7] 25)
        have hbx7 := Z7.out.box
        refine wpAnyH_ready (rs := [3]) (by kernel_rfl) (by simp) ?_
        refine AllReadyH.cons rfl (fun K hK => ?_) AllReadyH.nil
        go_simp
        refine hK.out _ _ (by exact Z8.out.le) (fun hHeld => ?_)
        clear hK K
        try simp only [Act.put, List.setIfInBounds_toArray, List.set_cons_zero, List.set_cons_succ, List.getElem_toArray, List.getElem_cons_succ, List.getElem_cons_zero]
        generalize (w7.alloc (.cells #[.int .i64 t.kind, .int .i64 t.idx, .slice a t.subs.length c, .int .i64 r7.t.kind, .int .i64 r7.t.idx, .slice a7 r7.t.subs.length c7] 25)) = w8 at *
        have hTw7 : T < w7.heap.size := by omega
        have hRw7 : w.heap.size < w7.heap.size := by omega
        have hXS : Hid (w.heap.size < w7.heap.size ∧ w7.heap.size ≠ T ∧ some w7.heap.size ≠ nv7.ownBlock) := ⟨by omega, by omega, hbx7.2⟩
        refine wpAnyH_take (i := 4) (v := ?_) rfl (by kernel_rfl) (by kernel_rfl) (by kernel_rfl) (fun _ _ _ h => h) (Or.inl ⟨by rfl, ?_⟩) (by assumption) ?_
        rotate_left
        · intro w' hSw
          go_simp <;> with_reducible rfl
        try simp only [Act.put, List.setIfInBounds_toArray, List.set_cons_zero, List.set_cons_succ, List.getElem_toArray, List.getElem_cons_succ, List.getElem_cons_zero]
        have m0 := T8.out.cell 0
        have m1 := T8.out.cell 1
        have m2 := T8.out.cell 2
        have mf := T8.out.frozen
        simp only [List.getElem?_toArray, List.getElem?_cons_succ, List.getElem?_cons_zero] at m0 m1 m2
        have kx : ∀ q : Nat, q ≠ T → (((w8.setCell ⟨T, 0, none⟩ (.int .i64 3)).setCell ⟨T, 1, none⟩ (.int .i64 0)).setCell ⟨T, 2, none⟩ (.slice (some ⟨w7.heap.size, 0, none⟩) 2 2)).heap[q]? = w8.heap[q]? := fun q hq => by
          rw [Below.heap_setCell _ _ _ _ (by simpa using hq), Below.heap_setCell _ _ _ _ (by simpa using hq), Below.heap_setCell _ _ _ _ (by simpa using hq)]
        have hf9 : Hid (BFr w8 (((w8.setCell ⟨T, 0, none⟩ (.int .i64 3)).setCell ⟨T, 1, none⟩ (.int .i64 0)).setCell ⟨T, 2, none⟩ (.slice (some ⟨w7.heap.size, 0, none⟩) 2 2)) B nv7 nv7 ∨ True) := Or.inr trivial
        have hz9 : (((w8.setCell ⟨T, 0, none⟩ (.int .i64 3)).setCell ⟨T, 1, none⟩ (.int .i64 0)).setCell ⟨T, 2, none⟩ (.slice (some ⟨w7.heap.size, 0, none⟩) 2 2)).heap.size = w8.heap.size := by simp [World.setCell]
        have hos9 : (((w8.setCell ⟨T, 0, none⟩ (.int .i64 3)).setCell ⟨T, 1, none⟩ (.int .i64 0)).setCell ⟨T, 2, none⟩ (.slice (some ⟨w7.heap.size, 0, none⟩) 2 2)).os = w8.os ∧ (((w8.setCell ⟨T, 0, none⟩ (.int .i64 3)).setCell ⟨T, 1, none⟩ (.int .i64 0)).setCell ⟨T, 2, none⟩ (.slice (some ⟨w7.heap.size, 0, none⟩) 2 2)).tape = w8.tape ∧ (((w8.setCell ⟨T, 0, none⟩ (.int .i64 3)).setCell ⟨T, 1, none⟩ (.int .i64 0)).setCell ⟨T, 2, none⟩ (.slice (some ⟨w7.heap.size, 0, none⟩) 2 2)).output = w8.output := ⟨rfl, rfl, rfl⟩
        have T9 : Hid (Blk (((w8.setCell ⟨T, 0, none⟩ (.int .i64 3)).setCell ⟨T, 1, none⟩ (.int .i64 0)).setCell ⟨T, 2, none⟩ (.slice (some ⟨w7.heap.size, 0, none⟩) 2 2)) T #[.int .i64 3, .int .i64 0, .slice (some ⟨w7.heap.size, 0, none⟩) 2 2] 25) := lt_set3 T8.out _ _ _
        have hN9 : N ≤ (((w8.setCell ⟨T, 0, none⟩ (.int .i64 3)).setCell ⟨T, 1, none⟩ (.int .i64 0)).setCell ⟨T, 2, none⟩ (.slice (some ⟨w7.heap.size, 0, none⟩) 2 2)).heap.size := by rw [hz9]; exact Z8.out.le
        refine wpAnyH_ready (rs := [5]) (by kernel_rfl) (by simp) ?_
        refine AllReadyH.cons rfl (fun K hK => ?_) AllReadyH.nil
        go_simp
        refine hK.out _ _ (by exact hN9) (fun hHeld => ?_)
        clear hK K
        try simp only [Act.put, List.setIfInBounds_toArray, List.set_cons_zero, List.set_cons_succ, List.getElem_toArray, List.getElem_cons_succ, List.getElem_cons_zero]
        generalize (((w8.setCell ⟨T, 0, none⟩ (.int .i64 3)).setCell ⟨T, 1, none⟩ (.int .i64 0)).setCell ⟨T, 2, none⟩ (.slice (some ⟨w7.heap.size, 0, none⟩) 2 2)) = w9 at *
        clear m0 m1 m2 mf hf9
        refine wpAnyH_done (by kernel_rfl) ?_ _
        have R9 : Hid (Blk w9 w.heap.size #[.int .i64 0, .int .i64 0, .slice none 0 0] 25) := (kx _ (by omega)).trans R8.out
        have F9 : Hid (BFr w w9 B nv nv7) := ⟨hos9.1.trans F8.out.1, hos9.2.1.trans F8.out.2.1, hos9.2.2.trans F8.out.2.2.1, by have := F8.out.2.2.2.1; omega, fun q hq h1 h2 => (kx q (by omega)).trans (F8.out.2.2.2.2.1 q hq h1 h2), F8.out.2.2.2.2.2⟩
        have Z9 : Hid (Rst N B s nm r7.pos r7.k nv7 w9) := by
          have hb9 : Below N w8 w9 := ⟨hos9.1, hos9.2.1, hos9.2.2, by omega, fun q hq => kx q (by have := Z8.out.nb; omega)⟩
          refine ⟨?_, Z8.out.own.kept (row := some T) ⟨hos9.1, hos9.2.1, hos9.2.2, by omega, fun q hq hn => kx q (fun e => hn (by rw [e]))⟩ (Or.inr fun e => hTo7 e.symm), Z8.out.nb, hN9, Z8.out.tb.on hb9, Z8.out.ts.on hb9⟩
          have hbx := Z8.out.bx
          unfold Bl Blk at hbx ⊢
          rw [kx B (fun e => hTB e.symm)]
          exact hbx
        have P9 : Hid (Blk w9 w7.heap.size #[.int .i64 t.kind, .int .i64 t.idx, .slice a t.subs.length c, .int .i64 r7.t.kind, .int .i64 r7.t.idx, .slice a7 r7.t.subs.length c7] 25) := (kx _ (by omega)).trans P8.out
        have S9 : Hid (SlM w9 (fun b => w.heap.size < b ∧ b ≠ T ∧ some b ≠ nv7.ownBlock) (some ⟨w7.heap.size, 0, none⟩) [t, r7.t]) := lies_twoL hXS.out (P9.out.cell 0) (P9.out.cell 1) (P9.out.cell 2) (P9.out.cell 3) (P9.out.cell 4) (P9.out.cell 5) (S8.out.kept fun q hq => kx q hq.2.1) (U8.out.kept fun q hq => kx q hq.2.1)
        have hAt9 := Z9.out.bx.at
        clear kx hos9 hz9 Z8 F8 R8 T8 S8 U8 P8 P9 Z7 F7 R7 T7 S7 U7
        go_wp2_with fail
        go_roundw
        case rel => exact ⟨f0, ⟨3, 0, [t, r7.t]⟩, r7.pos, r7.k, nv7, some ⟨w7.heap.size, 0, none⟩, 2, by omega, by omega, hpos7.2.1, hpos7.2.2.1, by omega, HR7.out, Z9.out, F9.out, R9.out, hRo7, T9.out, hTo7, S9.out⟩
        case measure => rw [hAt9, hAt]; omega
end Go.Proofs.YtfkjejpfhflanaaGreatDoor

/- Walks: Text. -/
namespace Go.Proofs.YtfkjejpfhflanaaGreatDoor
open Go.RowKit
set_option linter.unusedSimpArgs false
set_option linter.unusedVariables false
set_option maxRecDepth 8000

theorem Tb.raise {B B' : Nat} {w w' : World} (h : Tb B w) (hb : Below B w w') (hle : B ≤ B') : Tb B' w' := fun w'' h2 => h w'' (hb.trans (h2.mono hle))

/-- What is wrong with a term that is to be written. -/
def txE (fr : List ByteArray) (t : Lm) : Int := if freE fr = 0 then lamE fr.length 0 t else freE fr
/-- What is written. -/
def txB (fr : List ByteArray) (t : Lm) : List UInt8 := if txE fr t = 0 then ltx fr 0 t else []

theorem lam_ok {u : Int} {t : Lm} (h : lamE u 0 t = 0) : errM u 0 [t] = 0 ∧ sizeM [t] ≤ 200 := by
  unfold lamE at h
  by_cases h1 : u < 0 ∨ 40 < u
  · rw [if_pos h1] at h; cases h
  rw [if_neg h1] at h
  by_cases h2 : 200 < sizeM [t]
  · rw [if_pos h2] at h; cases h
  rw [if_neg h2] at h
  exact ⟨h, by omega⟩
theorem fre_small {fr : List ByteArray} (h : freE fr = 0) : ∀ s ∈ fr, s.size ≤ 8 ∧ 0 < s.size := by
  intro s hs
  obtain ⟨k, hk, rfl⟩ := List.mem_iff_getElem.1 hs
  have h1 := (freE_name h hk).1
  simp [nameB] at h1
  omega
theorem ltx_ne (fr : List ByteArray) (hfr : ∀ s ∈ fr, s.size ≤ 8 ∧ 0 < s.size) (t : Lm) (d : Nat) (u : Int) (he : errM u 0 [t] = 0) (hu : u = fr.length + d) : ltx fr d t ≠ [] := by
  rcases may_look he with ⟨y, rfl, h0, h1⟩ | ⟨b, rfl, hb⟩ | ⟨f, a, rfl, hf, ha⟩ | ⟨y, rfl, h0, h1⟩
  · rw [ltx_bound]
    unfold nmAt
    by_cases hk : (d : Int) - 1 - y < 0
    · rw [if_pos hk]
      have hlt : ((fr.length : Int) + (d - 1 - y)).toNat < fr.length := by omega
      rw [List.getElem?_eq_getElem hlt]
      intro e
      have h2 := (hfr _ (List.getElem_mem hlt)).2
      have h3 := congrArg List.length e
      simp only [Option.getD_some] at h3
      have h4 : (fr[((fr.length : Int) + (d - 1 - y)).toNat]).data.toList.length = (fr[((fr.length : Int) + (d - 1 - y)).toNat]).size := by rw [Array.length_toList]; rfl
      rw [h4] at h3
      simp only [List.length_nil] at h3
      omega
    · rw [if_neg hk]; simp
  · rw [ltx_fun]; simp
  · rw [ltx_app]; simp
  · rw [ltx_con]; simp

set_option maxHeartbeats 2000000 in
theorem bText_any (fr : List ByteArray) (t : Lm) (v : Value) (fa : Option Addr) (fc : Nat) (w : World) (X Y : Nat → Prop) (hv : MV w X v t) (hf : LV Value.string w Y (.slice fa fr.length fc) fr) (hT : Tb w.heap.size w) (h1 : freE fr = 0) (h2 : lamE fr.length 0 t = 0) :
    Calls Tryz.prog 43 #[v, .slice fa fr.length fc] w fun e w' => e = .returned (.string ⟨(ltx fr 0 t).toArray⟩) ∧ Below w.heap.size w w' := by
  obtain ⟨a, c, rfl, hs⟩ := hv
  have hv : MV w X (.agg #[.int .i64 t.kind, .int .i64 t.idx, .slice a t.subs.length c]) t := ⟨a, c, rfl, hs⟩
  have H1 := hide h1
  have H2 := hide (lam_ok h2)
  have HV := hide hv
  have HN := hide hf
  have HT := hide hT
  have K2 := hide (Blk.new w #[.int .i64 t.kind, .int .i64 t.idx, .slice a t.subs.length c] 25)
  have HB2 : Hid (Below w.heap.size w (w.alloc (.cells #[.int .i64 t.kind, .int .i64 t.idx, .slice a t.subs.length c] 25))) := (Below.refl _ _).alloc (Nat.le_refl _) _
  clear hv hs hf hT h1 h2
  go_enter Tryz.func43, Tryz.ntmps43
  go_upto_region 1 with fail
  generalize hw2 : (w.alloc (.cells #[.int .i64 t.kind, .int .i64 t.idx, .slice a t.subs.length c] 25)) = w2 at *
  clear hw2
  have k0 : w2.cell? ⟨w.heap.size, 0, none⟩ = some (.int .i64 t.kind) := K2.out.cell 0
  have k1 : w2.cell? ⟨w.heap.size, 1, none⟩ = some (.int .i64 t.idx) := K2.out.cell 1
  have k2 : w2.cell? ⟨w.heap.size, 2, none⟩ = some (.slice a t.subs.length c) := K2.out.cell 2
  have hlt := K2.out.lt
  go_wp2_with fail
  have HW : Hid (Wrt (w2.alloc (.cells #[.pointer none, .slice none 0 0, .slice fa fr.length fc] 98)) w2.heap.size w2.heap.size (.slice fa fr.length fc) (Lib.byteCells []) (.slice none 0 0)) := ⟨Nat.le_refl _, ⟨_, Or.inl rfl, heap_alloc_new _ _⟩, World.ownsRow_nil _ _ _ _⟩
  have HB3 : Hid (Below w2.heap.size w2 (w2.alloc (.cells #[.pointer none, .slice none 0 0, .slice fa fr.length fc] 98))) := (Below.refl _ _).alloc (Nat.le_refl _) _
  have HX : Hid (MV w (fun b => X b ∧ b < w.heap.size) (.agg #[.int .i64 t.kind, .int .i64 t.idx, .slice a t.subs.length c]) t ∧ LV Value.string w (fun b => Y b ∧ b < w.heap.size) (.slice fa fr.length fc) fr) := ⟨HV.out.mono fun b h1 h2 => ⟨h1, h2⟩, HN.out.mono fun b h1 h2 => ⟨h1, h2⟩⟩
  have hfs := fre_small H1.out
  have hz2 := HB2.out.size
  have hz3 := HB3.out.size
  have h40 := (freE_at H1.out).1
  have HLEN := hide (ltx_len fr (fun s hs => (hfs s hs).1) t _ 0 500 H2.out.1 (by simp) (by have := H2.out.2; omega))
  have hlen : (ltx fr 0 t).length ≤ 1000000 := by have h5 : (500 + 60) * sizeM [t] ≤ 560 * 200 := Nat.mul_le_mul (by omega) H2.out.2; have := HLEN.out; omega
  generalize (w2.alloc (.cells #[.pointer none, .slice none 0 0, .slice fa fr.length fc] 98)) = w3 at *
  have hc0 : ((0 : Nat) : Int) = 0 := rfl
  rw [← hc0]
  refine (wterm_any fr h40 (fun s hs => (hfs s hs).1) t 0 _ _ [] w2.heap.size w2.heap.size fa fc _ (fun b => X b ∧ b < w.heap.size) (fun b => Y b ∧ b < w.heap.size) (by simpa using H2.out.1) (by have := H2.out.2; omega) (by exact (HX.out.1.later HB2.out).later HB3.out) (fun b hb => by have := hb.2; omega) (by exact (HX.out.2.later HB2.out).later HB3.out) (fun b hb => by have := hb.2; omega) (by exact HW.out) hz3 (HT.out.raise (HB2.out.trans (HB3.out.mono hz2)) hz2) (by simp; omega)).mono ?_
  rintro e w4 ⟨rfl, q4, hw4, hf4⟩
  have HW4 : Hid (Wrt w4 w2.heap.size w2.heap.size (.slice fa fr.length fc) (Lib.byteCells (ltx fr 0 t)) q4) := by unfold Hid; rw [List.nil_append] at hw4; exact hw4
  have HB4 := hide (HB2.out.trans ((HB3.out.trans (HW.out.fr hf4 hz3)).mono hz2))
  have HNE := hide (ltx_ne fr hfs t 0 _ H2.out.1 (by simp))
  clear hw4 hf4 HW k0 k1 k2 hlt hc0
  go_wp2_with fail
  refine (stringW_any w2.heap.size w2.heap.size _ q4 (ltx fr 0 t) _ HW4.out HNE.out).mono ?_
  rintro e w5 ⟨rfl, hb5⟩
  have HB5 := hide (HB4.out.trans (hb5.mono hz2))
  clear hb5
  go_wp2_with fail
  go_ret
  exact ⟨rfl, HB5.out⟩

set_option maxHeartbeats 2000000 in
theorem lText_any (fr : List ByteArray) (t : Lm) (v : Value) (fa : Option Addr) (fc : Nat) (w : World) (X Y : Nat → Prop) (hv : MV w X v t) (hf : LV Value.string w Y (.slice fa fr.length fc) fr) (hT : Tb w.heap.size w) :
    Calls Tryz.prog 18 #[v, .slice fa fr.length fc] w fun e w' => e = .returned (.tuple #[.string ⟨(txB fr t).toArray⟩, .int .i64 (txE fr t)]) ∧ Below w.heap.size w w' := by
  obtain ⟨a, c, rfl, hs⟩ := hv
  have hv : MV w X (.agg #[.int .i64 t.kind, .int .i64 t.idx, .slice a t.subs.length c]) t := ⟨a, c, rfl, hs⟩
  have HV := hide hv
  have HN := hide hf
  have HT := hide hT
  have hl := hf
  obtain ⟨a2, c2, e2, ⟨hl1, hl2⟩, _⟩ := hl
  have K0 := hide (Blk.new w #[.int .i64 t.kind, .int .i64 t.idx, .slice a t.subs.length c] 25)
  have HB0 : Hid (Below w.heap.size w (w.alloc (.cells #[.int .i64 t.kind, .int .i64 t.idx, .slice a t.subs.length c] 25))) := (Below.refl _ _).alloc (Nat.le_refl _) _
  clear hv hs hf hT hl2 e2
  generalize hR : (.tuple #[.string ⟨(txB fr t).toArray⟩, .int .i64 (txE fr t)] : Value) = R
  have HR := hide hR
  clear hR
  go_enter Tryz.func18, Tryz.ntmps18
  go_wp2_with fail
  refine (lNames_any fr _ _ Y (by exact HN.out.later HB0.out)).mono ?_
  rintro e w1 ⟨rfl, hb1⟩
  have HB1 := hide (HB0.out.trans (hb1.mono (by simp)))
  have K1 := hide (K0.out.below hb1 K0.out.lt)
  clear hb1
  by_cases h1 : freE fr = 0
  · have H1 := hide h1
    rw [h1]
    clear h1
    have k0 : w1.cell? ⟨w.heap.size, 0, none⟩ = some (.int .i64 t.kind) := K1.out.cell 0
    have k1 : w1.cell? ⟨w.heap.size, 1, none⟩ = some (.int .i64 t.idx) := K1.out.cell 1
    have k2 : w1.cell? ⟨w.heap.size, 2, none⟩ = some (.slice a t.subs.length c) := K1.out.cell 2
    go_wp2_with fail
    refine (lCheck_any t _ _ _ X (by exact HV.out.later HB1.out)).mono ?_
    rintro e w2 ⟨rfl, hb2⟩
    have HB2 := hide (HB1.out.trans (hb2.mono HB1.out.size))
    have K2 := hide (K1.out.below hb2 K1.out.lt)
    clear hb2 k0 k1 k2
    by_cases h2 : lamE fr.length 0 t = 0
    · have HL2 := hide h2
      have HE : Hid (txE fr t = 0) := by unfold Hid txE; rw [if_pos H1.out, h2]
      have HE2 : Hid (txB fr t = ltx fr 0 t) := by unfold Hid txB; rw [if_pos HE.out]
      rw [h2]
      clear h2
      have k0 : w2.cell? ⟨w.heap.size, 0, none⟩ = some (.int .i64 t.kind) := K2.out.cell 0
      have k1 : w2.cell? ⟨w.heap.size, 1, none⟩ = some (.int .i64 t.idx) := K2.out.cell 1
      have k2 : w2.cell? ⟨w.heap.size, 2, none⟩ = some (.slice a t.subs.length c) := K2.out.cell 2
      have hlt := K2.out.lt
      go_wp2_with fail
      refine (bText_any fr t _ fa fc _ X Y (by exact HV.out.later HB2.out) (by exact HN.out.later HB2.out) (HT.out.raise HB2.out HB2.out.size) H1.out HL2.out).mono ?_
      rintro e w5 ⟨rfl, hb5⟩
      have HB5 := hide (HB2.out.trans (hb5.mono HB2.out.size))
      clear hb5 k0 k1 k2 hlt
      go_wp2_with fail
      go_ret2
      exact ⟨by rw [← HR.out, HE2.out, HE.out]; rfl, HB5.out⟩
    · have hne : (lamE fr.length 0 t == 0) = false := by simpa using h2
      have hne2 : (lamE fr.length 0 t != 0) = true := by simpa using h2
      have HE : Hid (.tuple #[.string ⟨#[]⟩, .int .i64 (lamE fr.length 0 t)] = R) := by
        unfold Hid; rw [← HR.out]; unfold txB txE; rw [if_pos H1.out, if_neg h2]
      clear h2
      go_wp2_with fail
      go_ret2
      exact ⟨by rw [← HE.out]; rfl, HB2.out⟩
  · have hne : (freE fr == 0) = false := by simpa using h1
    have hne2 : (freE fr != 0) = true := by simpa using h1
    have HE : Hid (.tuple #[.string ⟨#[]⟩, .int .i64 (freE fr)] = R) := by
      unfold Hid; rw [← HR.out]; unfold txB txE; rw [if_neg h1, if_neg h1]
    clear h1
    go_wp2_with fail
    go_ret2
    exact ⟨by rw [← HE.out]; rfl, HB1.out⟩
end Go.Proofs.YtfkjejpfhflanaaGreatDoor

/- Walks: reading a text as a lambda term, and what is thrown is caught. -/
namespace Go.Proofs.YtfkjejpfhflanaaGreatDoor
open Go.RowKit
set_option linter.unusedSimpArgs false
set_option linter.unusedVariables false
set_option maxRecDepth 8000

theorem lread_all (N B : Nat) (s : ByteArray) (hs : s.size ≤ 4000) : ∀ F, (∀ F', F' ≤ F → LTerm N B s F' ∧ LPiece N B s F') := by
  intro F
  induction F with
  | zero =>
    intro F' hF'
    have : F' = 0 := by omega
    subst this
    exact ⟨fun nm nv i k w h h1 h2 h3 h4 => by omega, fun nm nv i k w h h1 h2 h3 h4 => by omega⟩
  | succ F ih =>
    intro F' hF'
    by_cases h : F' = F + 1
    · subst h
      exact ⟨lterm_of N B s hs F (ih F (Nat.le_refl _)).1 (fun F' h => (ih F' h).2), lpiece_of N B s hs F (ih F (Nat.le_refl _)).1⟩
    · exact ih F' (by omega)

theorem assertErrnoL (v : Value) (xT : TypeId) (w : World) : (Instr.typeAssert (.iface 31 v) xT 31 false).run Tryz.prog w = .ok v w := by
  simp [Instr.typeAssert, run_underlying Tryz.underlying31, go_sem, Result.andThen]

theorem catchL_panicking (Pt Pe : Nat) (z z0 : Int) (x0 x1 : Int) (x2 : Value) (w : World) (ht : Blk w Pt #[.int .i64 x0, .int .i64 x1, x2] 25) (he : Blk w Pe #[.int .i64 z0] 31) :
    CallsD Tryz.prog 37 #[.pointer (some ⟨Pt, 0, none⟩), .pointer (some ⟨Pe, 0, none⟩)] (.panicking [{ v := .iface 31 (.int .i64 z), recovered := false }]) w fun e u' w' =>
      e = .returned (.tuple #[]) ∧ u' = .panicking [{ v := .iface 31 (.int .i64 z), recovered := true }] ∧ w' = ((((w.setCell ⟨Pt, 0, none⟩ (.int .i64 0)).setCell ⟨Pt, 1, none⟩ (.int .i64 0)).setCell ⟨Pt, 2, none⟩ (.slice none 0 0)).setCell ⟨Pe, 0, none⟩ (.int .i64 z)).drew := by
  refine callsD_of_wpS Tryz.func37 rfl fun c₀ cs hu => ?_
  apply wpS_seq
  apply wpS_region
  simp [wpOpsS, go_sem, recoverD, hu, Tryz.ntmps37, Exit.thenS]
  apply wpS_seq
  apply wpS_region
  simp [wpOpsS, go_sem, Exit.thenS, Array.replicate]
  refine wpS_cond (t := true) (by simp [Act.eval, Array.replicate]) ?_
  simp only [if_true]
  refine wpS_of_wp ?_
  have t0 : w.cell? ⟨Pt, 0, none⟩ = some (.int .i64 x0) := ht.cell 0
  have t1 : w.cell? ⟨Pt, 1, none⟩ = some (.int .i64 x1) := ht.cell 1
  have t2 : w.cell? ⟨Pt, 2, none⟩ = some x2 := ht.cell 2
  have tf := ht.frozen
  have e0 : w.cell? ⟨Pe, 0, none⟩ = some (.int .i64 z0) := he.cell 0
  have ef := he.frozen
  have hne : ¬ Pt = Pe := fun h => by
    subst h
    unfold Blk at ht he
    rw [ht] at he
    simp at he
  have hne2 : ¬ Pe = Pt := fun h => hne h.symm
  have hta := assertErrnoL (.int .i64 z)
  go_region
  exact ⟨rfl, _, rfl, .tuple #[], by simp [results, Tryz.results37, go_sem], rfl, rfl, rfl⟩

theorem catchL_idle (Pt Pe : Nat) (w : World) :
    CallsD Tryz.prog 37 #[.pointer (some ⟨Pt, 0, none⟩), .pointer (some ⟨Pe, 0, none⟩)] .returning w fun e u' w' => e = .returned (.tuple #[]) ∧ u' = .returning ∧ w' = w := by
  refine callsD_of_wpS Tryz.func37 rfl fun c₀ cs hu => ?_
  apply wpS_seq
  apply wpS_region
  simp [wpOpsS, go_sem, recoverD, hu, Tryz.ntmps37, Exit.thenS]
  apply wpS_seq
  apply wpS_region
  simp [wpOpsS, go_sem, Exit.thenS, Array.replicate]
  refine wpS_cond (t := false) (by simp [Act.eval, Array.replicate]) ?_
  simp only [Bool.false_eq_true, if_false]
  refine wpS_of_wp (wp_skip ?_)
  cases c₀
  simp_all [bodyPostS, results, Tryz.results37]

/-- What making a reader does. -/
def NewPostL (w : World) (s : ByteArray) (e : Ending) (w' : World) : Prop :=
  if 4000 < s.size then e = thrownL 3 ∧ Below w.heap.size w w' else e = .returned (.agg #[.string s, .int .i64 0, .int .i64 0]) ∧ Below w.heap.size w w'
theorem new_anyL (s : ByteArray) (w : World) : Calls Tryz.prog 39 #[.string s] w fun e w' => NewPostL w s e w' := by
  by_cases hs : 4000 < s.size
  · have HP : Hid (∀ w', Below w.heap.size w w' → NewPostL w s (thrownL 3) w') := fun w' h => by unfold NewPostL; rw [if_pos hs]; exact ⟨rfl, h⟩
    go_enter Tryz.func39, Tryz.ntmps39
    go_wp2_with fail
    exact ⟨rfl, HP.out _ (by first | exact Below.refl _ _ | exact (Below.refl _ _).alloc (Nat.le_refl _) _)⟩
  · have HP : Hid (∀ w', Below w.heap.size w w' → NewPostL w s (.returned (.agg #[.string s, .int .i64 0, .int .i64 0])) w') := fun w' h => by unfold NewPostL; rw [if_neg hs]; exact ⟨rfl, h⟩
    go_enter Tryz.func39, Tryz.ntmps39
    go_wp2_with fail
    refine bodyPost_ret (v := .agg #[.string s, .int .i64 0, .int .i64 0]) (by simp [results, Tryz.results39, go_sem, World.cell?_setCell_same, World.cell?_setCell_other]) rfl ?_
    exact HP.out _ (by first | exact Below.refl _ _ | exact (Below.refl _ _).alloc (Nat.le_refl _) _)
def EndPostL (w : World) (e : Ending) (w' : World) : Prop := (∃ v, e = .returned v) ∧ ∃ m, w' = w.drewN m
theorem end_yesL {nv : Value} (B i k : Nat) (s : ByteArray) (he : i = s.size) (w : World) (h : Bl nv w B s i k) :
    Calls Tryz.prog 42 #[.pointer (some ⟨B, 0, none⟩)] w fun e w' => EndPostL w e w' := by
  have HA := hide (atEnd_yesL (nv := nv) B i k s he w h)
  clear he h
  go_enter Tryz.func42, Tryz.ntmps42
  go_wp2_with fail
  refine HA.out.mono ?_
  rintro e w' ⟨rfl, m, rfl⟩
  go_wp2_with fail
  refine bodyPost_ret (v := .tuple #[]) (by simp [results, Tryz.results42, go_sem]) rfl ?_
  exact ⟨⟨_, rfl⟩, m, rfl⟩
theorem end_noL {nv : Value} (B i k : Nat) (s : ByteArray) (he : ¬ i = s.size) (w : World) (h : Bl nv w B s i k) :
    Calls Tryz.prog 42 #[.pointer (some ⟨B, 0, none⟩)] w fun e w' => e = thrownL 12 ∧ ∃ m, w' = w.drewN m := by
  have HA := hide (atEnd_noL (nv := nv) B i k s he w h)
  clear he h
  go_enter Tryz.func42, Tryz.ntmps42
  go_wp2_with fail
  refine HA.out.mono ?_
  rintro e w' ⟨rfl, m, rfl⟩
  go_wp2_with fail
  exact ⟨rfl, rfl, m, rfl⟩

/-- What reading a whole text gives. -/
def lrdAll (s : ByteArray) (fr : List ByteArray) : Lrd :=
  if freE fr ≠ 0 then noLr (freE fr)
  else if 4000 < s.size then noLr 3
  else if (lrd s (3 * s.size + 3) .term fr 0 0).err ≠ 0 then noLr (lrd s (3 * s.size + 3) .term fr 0 0).err
  else if (lrd s (3 * s.size + 3) .term fr 0 0).pos = s.size then lrd s (3 * s.size + 3) .term fr 0 0
  else noLr 12
def ParsePostL (w : World) (r : Lrd) (e : Ending) (w' : World) : Prop :=
  ∃ v, e = .returned (.tuple #[v, .int .i64 r.err]) ∧ (r.err = 0 → MV w' (fun b => w.heap.size ≤ b) v r.t) ∧ (r.err ≠ 0 → v = .agg #[.int .i64 0, .int .i64 0, .slice none 0 0]) ∧ Below w.heap.size w w'
theorem parseL_no {w w' : World} {r : Lrd} {z : Int} (h : r = noLr z) (hz : z ≠ 0) (hb : Below w.heap.size w w') : ParsePostL w r (.returned (.tuple #[.agg #[.int .i64 0, .int .i64 0, .slice none 0 0], .int .i64 z])) w' := by
  subst h
  exact ⟨_, rfl, fun h => absurd h hz, fun _ => rfl, hb⟩

/-- A copy of names. -/
theorem cloneN_any (fr : List ByteArray) (fa : Option Addr) (fc : Nat) (w : World) (Y : Nat → Prop) (hl : fr.length ≤ 1000) (h : LV Value.string w Y (.slice fa fr.length fc) fr) :
    Calls Tryz.prog 40 #[.slice fa fr.length fc] w fun e w' => ∃ v', e = .returned v' ∧ w'.ownsRow w.heap.size 9 1 v' fr.length (fr.map Value.string) ∧ Below w.heap.size w w' := by
  obtain ⟨a2, c2, e2, ⟨_, hc2⟩, h3⟩ := h
  simp at e2
  obtain ⟨rfl, rfl⟩ := e2
  cases fa with
  | none =>
    rcases h3 with rfl | ⟨b, o, e, _⟩
    · refine (Tryz.slices_Clone_string_nil _ _ w).mono ?_
      rintro e w' ⟨rfl, rfl⟩
      exact ⟨_, rfl, World.ownsRow_nil _ _ _ _, Below.refl _ _⟩
    · cases e
  | some ad =>
    by_cases h0 : fr = []
    · subst h0
      refine (Tryz.slices_Clone_string_zero ad fc w).mono ?_
      rintro e w' ⟨v', rfl, ho, _, hb⟩
      exact ⟨v', rfl, ho, hb⟩
    · obtain ⟨b, o, e, _, hcl⟩ := h3.resolve_left h0
      cases e
      refine (Tryz.slices_Clone_string b o fr.length fc fr w (Nat.le_refl _) (by omega) (fun j hj => by
        have := hcl j hj
        rw [this]
        simp [List.getD, hj])).mono ?_
      rintro e w' ⟨v', rfl, ho, _, hb⟩
      exact ⟨v', rfl, by simpa using ho, hb⟩

set_option maxHeartbeats 4000000 in
theorem parseL_any (s : ByteArray) (fr : List ByteArray) (fa : Option Addr) (fc : Nat) (w : World) (Y : Nat → Prop) (hf : LV Value.string w Y (.slice fa fr.length fc) fr) (hT : Tb w.heap.size w) (hS : Tse w.heap.size w) :
    Calls Tryz.prog 17 #[.string s, .slice fa fr.length fc] w fun e w' => ParsePostL w (lrdAll s fr) e w' := by
  have hmf : ∀ (fn : Fn) (first cap : Array Value) (w : World), (Instr.makeFunc fn first cap).run Tryz.prog w = .ok (.func fn first cap) w := fun _ _ _ _ => rfl
  have HN := hide hf
  have HT := hide hT
  have HS := hide hS
  obtain ⟨r, hr⟩ : ∃ r, r = lrdAll s fr := ⟨_, rfl⟩
  have HR0 : Hid (r = if freE fr ≠ 0 then noLr (freE fr) else if 4000 < s.size then noLr 3 else if (lrd s (3 * s.size + 3) .term fr 0 0).err ≠ 0 then noLr (lrd s (3 * s.size + 3) .term fr 0 0).err else if (lrd s (3 * s.size + 3) .term fr 0 0).pos = s.size then lrd s (3 * s.size + 3) .term fr 0 0 else noLr 12) := by unfold Hid; rw [hr]; rfl
  rw [← hr]
  clear hr hf hT hS
  go_enter_defers Tryz.func17, Tryz.ntmps17
  go_wp2_with fail
  have PT2 := hide (show Blk ((w.alloc (.cells #[.int .i64 0, .int .i64 0, .slice none 0 0] 25)).alloc (.cells #[.int .i64 0] 31)) w.heap.size #[.int .i64 0, .int .i64 0, .slice none 0 0] 25 from (Blk.new w _ _).alloc _)
  have PE2 : Hid (Blk ((w.alloc (.cells #[.int .i64 0, .int .i64 0, .slice none 0 0] 25)).alloc (.cells #[.int .i64 0] 31)) (w.heap.size + 1) #[.int .i64 0] 31) := by
    have h := Blk.new (w.alloc (.cells #[.int .i64 0, .int .i64 0, .slice none 0 0] 25)) #[.int .i64 0] 31
    have hz : (w.alloc (.cells #[.int .i64 0, .int .i64 0, .slice none 0 0] 25)).heap.size = w.heap.size + 1 := by simp
    rw [hz] at h
    exact h
  have PB2 := hide (show Below w.heap.size w ((w.alloc (.cells #[.int .i64 0, .int .i64 0, .slice none 0 0] 25)).alloc (.cells #[.int .i64 0] 31)) from ((Below.refl _ _).alloc (Nat.le_refl _) _).alloc (by simp) _)
  have hz2 : ((w.alloc (.cells #[.int .i64 0, .int .i64 0, .slice none 0 0] 25)).alloc (.cells #[.int .i64 0] 31)).heap.size = w.heap.size + 2 := by simp
  generalize ((w.alloc (.cells #[.int .i64 0, .int .i64 0, .slice none 0 0] 25)).alloc (.cells #[.int .i64 0] 31)) = w2 at *
  refine (lNames_any fr _ _ Y (by exact HN.out.later PB2.out)).mono ?_
  rintro e w3 ⟨rfl, hb3⟩
  have PT3 := hide (PT2.out.below hb3 PT2.out.lt)
  have PE3 := hide (PE2.out.below hb3 PE2.out.lt)
  have PB3 := hide (PB2.out.trans (hb3.mono PB2.out.size))
  have hz3 := hb3.size
  clear hb3 PT2 PE2 PB2
  by_cases h1 : freE fr = 0
  case neg =>
    have HRF : Hid (r = noLr (freE fr)) := by unfold Hid; rw [HR0.out, if_pos h1]
    have hne : (freE fr == 0) = false := by simpa using h1
    have hne2 : (freE fr != 0) = true := by simpa using h1
    go_wp2_with fail
    refine leaves_cons (f := 37) (args := #[.pointer (some ⟨w.heap.size, 0, none⟩), .pointer (some ⟨w.heap.size + 1, 0, none⟩)]) (by simp) (by simp [go_sem]) ?_
    refine (catchL_panicking w.heap.size (w.heap.size + 1) (freE fr) 0 _ _ _ w3 PT3.out PE3.out).mono ?_
    rintro e u' w'' ⟨rfl, rfl, rfl⟩
    have Q := (lt_set3 PT3.out (.int .i64 0) (.int .i64 0) (.slice none 0 0)).setOther (b' := w.heap.size + 1) 0 (.int .i64 (freE fr)) (by omega)
    have q0 := Q.cell 0
    have q1 := Q.cell 1
    have q2 := Q.cell 2
    have q3 := ((lt_set3o (B := w.heap.size) PE3.out (by omega) (.int .i64 0) (.int .i64 0) (.slice none 0 0)).set 0 (.int .i64 (freE fr))).cell 0
    simp at q0 q1 q2 q3
    simp [Leaves, settle, results, Tryz.results17, go_sem, q0, q1, q2, q3]
    exact parseL_no HRF.out h1 (((((PB3.out).setCell (by simp) _).setCell (by simp) _).setCell (by simp) _).setCell (by simp) _).drew
  have HR1 := hide (show r = _ from (HR0.out).trans (if_neg (by rw [h1]; simp)))
  have h40 := (freE_at h1).1
  rw [h1]
  clear HR0 h1
  go_wp2_with fail
  refine (new_anyL s w3).mono ?_
  intro e w4 hp
  unfold NewPostL at hp
  by_cases hs : 4000 < s.size
  case pos =>
    rw [if_pos hs] at hp
    obtain ⟨he, hb4⟩ := hp
    unfold thrownL at he
    subst he
    have HRF : Hid (r = noLr 3) := by unfold Hid; rw [HR1.out, if_pos hs]
    have PT4 := PT3.out.below hb4 PT3.out.lt
    have PE4 := PE3.out.below hb4 PE3.out.lt
    have PB4 := PB3.out.trans (hb4.mono PB3.out.size)
    refine leaves_cons (f := 37) (args := #[.pointer (some ⟨w.heap.size, 0, none⟩), .pointer (some ⟨w.heap.size + 1, 0, none⟩)]) (by simp) (by simp [go_sem]) ?_
    refine (catchL_panicking w.heap.size (w.heap.size + 1) (3) 0 _ _ _ w4 PT4 PE4).mono ?_
    rintro e u' w'' ⟨rfl, rfl, rfl⟩
    have Q := (lt_set3 PT4 (.int .i64 0) (.int .i64 0) (.slice none 0 0)).setOther (b' := w.heap.size + 1) 0 (.int .i64 (3)) (by omega)
    have q0 := Q.cell 0
    have q1 := Q.cell 1
    have q2 := Q.cell 2
    have q3 := ((lt_set3o (B := w.heap.size) PE4 (by omega) (.int .i64 0) (.int .i64 0) (.slice none 0 0)).set 0 (.int .i64 (3))).cell 0
    simp at q0 q1 q2 q3
    simp [Leaves, settle, results, Tryz.results17, go_sem, q0, q1, q2, q3]
    exact parseL_no HRF.out (by decide) (((((PB4).setCell (by simp) _).setCell (by simp) _).setCell (by simp) _).setCell (by simp) _).drew
  rw [if_neg hs] at hp
  obtain ⟨rfl, hb4⟩ := hp
  have HR2 := hide (show r = _ from (HR1.out).trans (if_neg hs))
  have PT4 := hide (PT3.out.below hb4 PT3.out.lt)
  have PE4 := hide (PE3.out.below hb4 PE3.out.lt)
  have PB4 := hide (PB3.out.trans (hb4.mono PB3.out.size))
  have hz4 := hb4.size
  clear hb4 PT3 PE3 PB3 HR1
  go_wp2_with fail
  refine (cloneN_any fr fa fc w4 Y (by omega) (by exact HN.out.later PB4.out)).mono ?_
  rintro e w5 ⟨nv, rfl, ho5, hb5⟩
  have PT5 := hide ((PT4.out.below hb5 PT4.out.lt).alloc (.cells #[.string s, .int .i64 0, .int .i64 0, nv] 72))
  have PE5 := hide ((PE4.out.below hb5 PE4.out.lt).alloc (.cells #[.string s, .int .i64 0, .int .i64 0, nv] 72))
  have hz5 := hb5.size
  have PB5 := hide ((PB4.out.trans (hb5.mono PB4.out.size)).alloc (by omega) (.cells #[.string s, .int .i64 0, .int .i64 0, nv] 72))
  have ZX : Hid (Rst w4.heap.size w5.heap.size s fr 0 0 nv (w5.alloc (.cells #[.string s, .int .i64 0, .int .i64 0, nv] 72))) := by
    have hbb : Below w.heap.size w (w5.alloc (.cells #[.string s, .int .i64 0, .int .i64 0, nv] 72)) := PB5.out
    exact ⟨Blk.new w5 _ _, ho5.alloc _, hz5, by simp; omega, HT.out.raise hbb (by omega), HS.out.raise hbb (by omega)⟩
  have hnv : ∃ a k c, nv = .slice a k c := by
    rcases ho5.2 with ⟨h, _⟩ | ⟨g, cap, cur, h, _⟩
    · exact ⟨_, _, _, h⟩
    · exact ⟨_, _, _, h⟩
  obtain ⟨na, nl, nc, rfl⟩ := hnv
  have hlast := hide (lread_all w4.heap.size w5.heap.size s (by omega) (3 * s.size + 3) (3 * s.size + 3) (Nat.le_refl _)).1
  clear ho5 hb5 PT4 PE4 PB4
  go_wp2_with fail
  have hz6 : (w5.alloc (.cells #[.string s, .int .i64 0, .int .i64 0, .slice na nl nc] 72)).heap.size = w5.heap.size + 1 := by simp
  generalize (w5.alloc (.cells #[.string s, .int .i64 0, .int .i64 0, .slice na nl nc] 72)) = w6 at *
  refine (hlast.out fr _ 0 0 w6 ZX.out (by omega) (by omega) (by omega) (by omega)).mono ?_
  intro e w7 hp
  generalize lrd s (3 * s.size + 3) .term fr 0 0 = q at *
  have hPT := PT5.out.lt
  have hPE := PE5.out.lt
  have hn0 : Hid (∀ b, b < w4.heap.size → some b ≠ (Value.slice na nl nc).ownBlock) := fun b hb e => by have := (ZX.out.own.lt _ e.symm).1; omega
  rcases hp with ⟨hr0, nv7, a, c, rfl, hs7, hst7, hf7⟩ | ⟨hr0, rfl, nv7, hf7⟩
  case inr =>
    have HRF : Hid (r = noLr q.err) := by unfold Hid; rw [HR2.out, if_pos hr0]
    have PT7 := blk_bfr PT5.out hf7 (by omega) (hn0.out _ (by omega))
    have PE7 := blk_bfr PE5.out hf7 (by omega) (hn0.out _ (by omega))
    have PB7 := PB5.out.trans ((ZX.out.fr hf7).mono (by omega))
    refine leaves_cons (f := 37) (args := #[.pointer (some ⟨w.heap.size, 0, none⟩), .pointer (some ⟨w.heap.size + 1, 0, none⟩)]) (by simp) (by simp [go_sem]) ?_
    refine (catchL_panicking w.heap.size (w.heap.size + 1) (q.err) 0 _ _ _ w7 PT7 PE7).mono ?_
    rintro e u' w'' ⟨rfl, rfl, rfl⟩
    have Q := (lt_set3 PT7 (.int .i64 0) (.int .i64 0) (.slice none 0 0)).setOther (b' := w.heap.size + 1) 0 (.int .i64 (q.err)) (by omega)
    have q0 := Q.cell 0
    have q1 := Q.cell 1
    have q2 := Q.cell 2
    have q3 := ((lt_set3o (B := w.heap.size) PE7 (by omega) (.int .i64 0) (.int .i64 0) (.slice none 0 0)).set 0 (.int .i64 (q.err))).cell 0
    simp at q0 q1 q2 q3
    simp [Leaves, settle, results, Tryz.results17, go_sem, q0, q1, q2, q3]
    exact parseL_no HRF.out hr0 (((((PB7).setCell (by simp) _).setCell (by simp) _).setCell (by simp) _).setCell (by simp) _).drew
  have HR3 := hide (show r = _ from (HR2.out).trans (if_neg (by rw [hr0]; simp)))
  have PT7 := hide (blk_bfr PT5.out hf7 (by omega) (hn0.out _ (by omega)))
  have PE7 := hide (blk_bfr PE5.out hf7 (by omega) (hn0.out _ (by omega)))
  have PB7 := hide (PB5.out.trans ((ZX.out.fr hf7).mono (by omega)))
  have X7 := hide hst7.bx
  have HQ0 := hide hr0
  have S7 := hide (hs7.mono (Y := fun b => w.heap.size + 2 ≤ b) fun b hb _ => by omega)
  clear hs7 hst7 hf7 hr0 PT5 PE5 PB5 ZX HR2 hlast
  have t0 : w7.cell? ⟨w.heap.size, 0, none⟩ = some (.int .i64 0) := PT7.out.cell 0
  have t1 : w7.cell? ⟨w.heap.size, 1, none⟩ = some (.int .i64 0) := PT7.out.cell 1
  have t2 : w7.cell? ⟨w.heap.size, 2, none⟩ = some (.slice none 0 0) := PT7.out.cell 2
  have tf := PT7.out.frozen
  go_wp2_with fail
  have PT8 := hide (lt_set3 PT7.out (.int .i64 q.t.kind) (.int .i64 q.t.idx) (.slice a q.t.subs.length c))
  have PE8 := hide (lt_set3o (B := w.heap.size) PE7.out (by omega) (.int .i64 q.t.kind) (.int .i64 q.t.idx) (.slice a q.t.subs.length c))
  have X8 : Hid (Bl nv7 (((w7.setCell ⟨w.heap.size, 0, none⟩ (.int .i64 q.t.kind)).setCell ⟨w.heap.size, 1, none⟩ (.int .i64 q.t.idx)).setCell ⟨w.heap.size, 2, none⟩ (.slice a q.t.subs.length c)) w5.heap.size s q.pos q.k) := lt_set3o X7.out (by omega) _ _ _
  have PB8 := hide (((PB7.out.setCell (p := ⟨w.heap.size, 0, none⟩) (by simp) (.int .i64 q.t.kind)).setCell (p := ⟨w.heap.size, 1, none⟩) (by simp) (.int .i64 q.t.idx)).setCell (p := ⟨w.heap.size, 2, none⟩) (by simp) (.slice a q.t.subs.length c))
  have S8 : Hid (SlM (((w7.setCell ⟨w.heap.size, 0, none⟩ (.int .i64 q.t.kind)).setCell ⟨w.heap.size, 1, none⟩ (.int .i64 q.t.idx)).setCell ⟨w.heap.size, 2, none⟩ (.slice a q.t.subs.length c)) (fun b => w.heap.size + 2 ≤ b) a q.t.subs) := S7.out.kept fun b hb => by rw [Below.heap_setCell _ _ _ _ (by simp; omega), Below.heap_setCell _ _ _ _ (by simp; omega), Below.heap_setCell _ _ _ _ (by simp; omega)]
  clear t0 t1 t2 tf
  generalize (((w7.setCell ⟨w.heap.size, 0, none⟩ (.int .i64 q.t.kind)).setCell ⟨w.heap.size, 1, none⟩ (.int .i64 q.t.idx)).setCell ⟨w.heap.size, 2, none⟩ (.slice a q.t.subs.length c)) = w8 at *
  clear PT7 PE7 X7 PB7 S7
  by_cases hps : q.pos = s.size
  case neg =>
    refine (end_noL w5.heap.size q.pos q.k s hps _ X8.out).mono ?_
    rintro e w9 ⟨he, n9, rfl⟩
    unfold thrownL at he
    subst he
    have HRF : Hid (r = noLr 12) := by unfold Hid; rw [HR3.out, if_neg hps]
    have PT9 := PT8.out.drewN n9
    have PE9 := PE8.out.drewN n9
    have PB9 := below_drewN PB8.out n9
    generalize w8.drewN n9 = w9 at *
    refine leaves_cons (f := 37) (args := #[.pointer (some ⟨w.heap.size, 0, none⟩), .pointer (some ⟨w.heap.size + 1, 0, none⟩)]) (by simp) (by simp [go_sem]) ?_
    refine (catchL_panicking w.heap.size (w.heap.size + 1) (12) 0 _ _ _ w9 PT9 PE9).mono ?_
    rintro e u' w'' ⟨rfl, rfl, rfl⟩
    have Q := (lt_set3 PT9 (.int .i64 0) (.int .i64 0) (.slice none 0 0)).setOther (b' := w.heap.size + 1) 0 (.int .i64 (12)) (by omega)
    have q0 := Q.cell 0
    have q1 := Q.cell 1
    have q2 := Q.cell 2
    have q3 := ((lt_set3o (B := w.heap.size) PE9 (by omega) (.int .i64 0) (.int .i64 0) (.slice none 0 0)).set 0 (.int .i64 (12))).cell 0
    simp at q0 q1 q2 q3
    simp [Leaves, settle, results, Tryz.results17, go_sem, q0, q1, q2, q3]
    exact parseL_no HRF.out (by decide) (((((PB9).setCell (by simp) _).setCell (by simp) _).setCell (by simp) _).setCell (by simp) _).drew
  refine (end_yesL w5.heap.size q.pos q.k s hps _ X8.out).mono ?_
  rintro e w9 ⟨⟨v9, rfl⟩, n9, rfl⟩
  have PT9 := hide (PT8.out.drewN n9)
  have PE9 := hide (PE8.out.drewN n9)
  have PB9 := hide (below_drewN PB8.out n9)
  have S9 : Hid (SlM (w8.drewN n9) (fun b => w.heap.size + 2 ≤ b) a q.t.subs) := S8.out.kept fun b hb => rfl
  generalize w8.drewN n9 = w9 at *
  clear PT8 PE8 PB8 S8 X8
  have t0 : w9.cell? ⟨w.heap.size, 0, none⟩ = some (.int .i64 q.t.kind) := PT9.out.cell 0
  have t1 : w9.cell? ⟨w.heap.size, 1, none⟩ = some (.int .i64 q.t.idx) := PT9.out.cell 1
  have t2 : w9.cell? ⟨w.heap.size, 2, none⟩ = some (.slice a q.t.subs.length c) := PT9.out.cell 2
  have tf := PT9.out.frozen
  have e0 : w9.cell? ⟨w.heap.size + 1, 0, none⟩ = some (.int .i64 0) := PE9.out.cell 0
  have ef := PE9.out.frozen
  have HRF : Hid (r = q) := by unfold Hid; rw [HR3.out, if_pos hps]
  go_wp2_with fail
  refine leaves_cons (f := 37) (args := #[.pointer (some ⟨w.heap.size, 0, none⟩), .pointer (some ⟨w.heap.size + 1, 0, none⟩)]) (by simp) (by simp [go_sem]) ?_
  refine (catchL_idle w.heap.size (w.heap.size + 1) _).mono ?_
  rintro e u' w'' ⟨rfl, rfl, rfl⟩
  have Q := (lt_set3 PT9.out (.int .i64 q.t.kind) (.int .i64 q.t.idx) (.slice a q.t.subs.length c)).setOther (b' := w.heap.size + 1) 0 (.int .i64 0) (by omega)
  have q0 := Q.cell 0
  have q1 := Q.cell 1
  have q2 := Q.cell 2
  have q3 := ((lt_set3o (B := w.heap.size) PE9.out (by omega) (.int .i64 q.t.kind) (.int .i64 q.t.idx) (.slice a q.t.subs.length c)).set 0 (.int .i64 0)).cell 0
  simp at q0 q1 q2 q3
  simp [Leaves, settle, results, Tryz.results17, go_sem, q0, q1, q2, q3]
  refine ⟨.agg #[.int .i64 q.t.kind, .int .i64 q.t.idx, .slice a q.t.subs.length c], by rw [HRF.out, HQ0.out], fun _ => ?_, fun h => absurd (by rw [HRF.out]; exact HQ0.out) h, (((PB9.out.setCell (by simp) _).setCell (by simp) _).setCell (by simp) _).setCell (by simp) _⟩
  rw [HRF.out]
  exact ⟨a, c, rfl, (S9.out.kept fun b hb => by rw [Below.heap_setCell _ _ _ _ (by simp; omega), Below.heap_setCell _ _ _ _ (by simp; omega), Below.heap_setCell _ _ _ _ (by simp; omega), Below.heap_setCell _ _ _ _ (by simp; omega)]).mono fun b hb _ => by omega⟩
end Go.Proofs.YtfkjejpfhflanaaGreatDoor
