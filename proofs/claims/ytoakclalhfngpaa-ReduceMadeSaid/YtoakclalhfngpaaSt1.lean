/- Walks: the document's LamSteps. -/
import Derived.Test.YtoakclalhfngpaaHs4
import Derived.Test.YtoakclalhfngpaaDv4
namespace Go.Proofs.Ytoakclalhfngpaa
open Go.RowKit Go.Shelf
set_option linter.unusedSimpArgs false
set_option linter.unusedVariables false
set_option maxRecDepth 8000

theorem RowM.pushG {w w1 w2 w3 : World} {N T : Nat} {Y : Nat → Prop} {v : Value} {l : List Lm} {xs : List Value} (h : RowM w N T Y v l xs) (hN : N ≤ w.heap.size) (hY : ∀ b, Y b → b < N) (hb : Below w.heap.size w w1) {s s2 : Int} {a : Option Addr} {n c : Nat} {t : Lm}
    (ht : MV w1 (fun b => Y b ∨ (N ≤ b ∧ some b ≠ v.ownBlock)) (.agg #[.int .i64 s, .int .i64 s2, .slice a n c]) t) (o : Obj) (hw2 : w2 = w1.alloc o) {g cap : Nat}
    (hown : w3.ownsRow N T 3 (.slice (some ⟨g, 0, none⟩) (l.length + 1) cap) (l.length + 1) (xs ++ [.int .i64 s, .int .i64 s2, .slice a n c])) (hg : w2.grownBy w3 v.ownBlock) (hg1 : v.ownBlock = some g ∨ g = w2.heap.size) :
    RowM w3 N T Y (.slice (some ⟨g, 0, none⟩) (l.length + 1) cap) (l ++ [t]) (xs ++ [.int .i64 s, .int .i64 s2, .slice a n c]) := by
  subst hw2
  have hlt := h.own.lt
  refine ⟨by simpa using hown, ?_⟩
  have hsz : w1.heap.size ≤ (w1.alloc o).heap.size := by simp
  have hbs := hb.size
  have hgN : N ≤ g := by
    rcases hg1 with e | e
    · exact (hlt g e).1
    · simp at e; omega
  refine RowTM.append (h.row.imp fun a' k' hs => ?_) ?_
  · have h1 : SlM w (fun b => (Y b ∨ (N ≤ b ∧ some b ≠ v.ownBlock)) ∧ b < w.heap.size) a' k' := hs.mono fun b h1 h2 => ⟨h1, h2⟩
    have h2 : SlM w3 (fun b => (Y b ∨ (N ≤ b ∧ some b ≠ v.ownBlock)) ∧ b < w.heap.size) a' k' := h1.kept fun b hx => by
      have hne : some b ≠ v.ownBlock := by
        rcases hx.1 with hy | hy
        · exact h.ne (hY b hy)
        · exact hy.2
      rw [hg.block b (by simp; omega) hne, Below.heap_alloc _ _ _ (by omega), hb.block b hx.2]
    refine h2.mono fun b hx _ => ?_
    rcases hx.1 with hy | hy
    · exact Or.inl hy
    · refine Or.inr ⟨hy.1, fun e => ?_⟩
      simp [Value.ownBlock] at e
      rcases hg1 with e' | e'
      · exact hy.2 (by rw [e', e])
      · simp at e'; omega
  · obtain ⟨a2, c2, e, hs⟩ := ht
    simp at e
    obtain ⟨rfl, rfl, rfl, rfl, rfl⟩ := e
    refine ⟨a, c, [], rfl, ?_, rfl⟩
    have h1 : SlM w1 (fun b => (Y b ∨ (N ≤ b ∧ some b ≠ v.ownBlock)) ∧ b < w1.heap.size) a t.subs := hs.mono fun b h1 h2 => ⟨h1, h2⟩
    have h2 : SlM w3 (fun b => (Y b ∨ (N ≤ b ∧ some b ≠ v.ownBlock)) ∧ b < w1.heap.size) a t.subs := h1.kept fun b hx => by
      have hne : some b ≠ v.ownBlock := by
        rcases hx.1 with hy | hy
        · exact h.ne (hY b hy)
        · exact hy.2
      rw [hg.block b (by simp; omega) hne, Below.heap_alloc _ _ _ hx.2]
    refine h2.mono fun b hx _ => ?_
    rcases hx.1 with hy | hy
    · exact Or.inl hy
    · refine Or.inr ⟨hy.1, fun e => ?_⟩
      simp [Value.ownBlock] at e
      rcases hg1 with e' | e'
      · exact hy.2 (by rw [e', e])
      · simp at e'; omega

theorem rowM_appendG {wr w1 : World} {N : Nat} {Y : Nat → Prop} {u : Value} {L : List Lm} {xs : List Value} {a1 : Option Addr} {c1 : Nat} {t : Lm} (hrow : RowM wr N 27 Y u L xs) (hN : N ≤ wr.heap.size) (hY : ∀ b, Y b → b < N) (hn : L.length ≤ 1000000) (hb : Below wr.heap.size wr w1) (hs : SlM w1 (fun b => Y b ∨ (N ≤ b ∧ some b ≠ u.ownBlock)) a1 t.subs) (P : Nat) (hP : w1.heap.size = P) :
    ∃ g cap w3 ys, (Builtin.append_ #[25, 25] 25 #[u, .slice (some ⟨P, 0, none⟩) 1 1]).run Try.prog (w1.alloc (.cells #[.int .i64 t.kind, .int .i64 t.idx, .slice a1 t.subs.length c1] 27)) = .ok (.slice (some ⟨g, 0, none⟩) (L.length + 1) cap) w3 ∧
      RowM w3 N 27 Y (.slice (some ⟨g, 0, none⟩) (L.length + 1) cap) (L ++ [t]) ys ∧ Below N wr w3 ∧ (∀ b, b < w1.heap.size → some b ≠ u.ownBlock → w3.heap[b]? = w1.heap[b]?) ∧ (u.ownBlock = some g ∨ w1.heap.size < g) ∧ w1.heap.size ≤ w3.heap.size := by
  subst hP
  obtain ⟨i0, hi, hz0, hz1, hz2⟩ := info_parts Try.infoLam
  have hlt := hrow.own.lt
  have hbs := hb.size
  obtain ⟨g, cap, w3, hr, ho, hg, hat, hgl⟩ := run_append_lies (P := Try.prog) (w := w1.alloc (.cells #[.int .i64 t.kind, .int .i64 t.idx, .slice a1 t.subs.length c1] 27)) 25 25 N 27 i0 _ 3 40 Try.underlying25 hi hz0 hz1 hz2 rfl (by decide) u L.length xs ((hrow.below hb).own.alloc _)
    ⟨w1.heap.size, 0, none⟩ 1 1 [.int .i64 t.kind, .int .i64 t.idx, .slice a1 t.subs.length c1] rfl (cell_lam_new _ _ _ _ _) (fun y hy => by simp at hy; rcases hy with rfl | rfl | rfl <;> rfl) (by decide) (by unfold maxLen; omega) (by omega) (by simp; omega) _ rfl
  have hp := hrow.pushG (w1 := w1) (w3 := w3) (t := t) hN hY hb ⟨a1, c1, rfl, hs⟩ _ rfl ho hg hat
  have hs3 := hg.size
  simp at hs3
  refine ⟨g, cap, w3, _, hr, hp, ((hb.mono hN).alloc (by omega) _).grown hg (by simp; omega) (fun k hk => (hlt k hk).1), fun b hb' hne => ?_, hat.imp id fun e => by simp at e; omega, by omega⟩
  rw [hg.block b (by simp; omega) hne, Below.heap_alloc _ _ _ hb']
theorem below_all {wr w1 w3 : World} {N : Nat} {u : Value} (h : Below N wr w3) (hk : ∀ b, b < w1.heap.size → some b ≠ u.ownBlock → w3.heap[b]? = w1.heap[b]?) (hb : Below wr.heap.size wr w1) (hu : ∀ b, b < wr.heap.size → some b ≠ u.ownBlock) : Below wr.heap.size wr w3 :=
  ⟨h.os, h.tape, h.output, h.size, fun b hb' => (hk b (by have := hb.size; omega) (hu b hb')).trans (hb.block b hb')⟩
theorem cloneR {wr W : World} {b o c G0 n : Nat} {xr : List Value} (hb : Below wr.heap.size wr W) (hbl : b < wr.heap.size) (hxl : xr.length = n * 3) (hn0 : 0 < n) (hn : n ≤ 1000000) (h1 : ∀ u ∈ xr, u.oneCell' = true) (hxc : ∀ j u, xr[j]? = some u → wr.cell? ⟨b, o + j, none⟩ = some u) (hG : wr.heap.size ≤ G0) (hB : Blk W G0 #[] 27) :
    ∃ g cap w3, (Builtin.append_ #[25, 25] 25 #[.slice (some ⟨G0, 0, none⟩) 0 0, .slice (some ⟨b, o, none⟩) n c]).run Try.prog W = .ok (.slice (some ⟨g, 0, none⟩) n cap) w3 ∧ w3.ownsRow wr.heap.size 27 3 (.slice (some ⟨g, 0, none⟩) n cap) n xr ∧ Below wr.heap.size wr w3 ∧ (∀ q, q < W.heap.size → q ≠ G0 → w3.heap[q]? = W.heap[q]?) ∧ (g = G0 ∨ g = W.heap.size) ∧ g < w3.heap.size ∧ W.heap.size ≤ w3.heap.size := by
  obtain ⟨i0, hi, hz0, hz1, hz2⟩ := info_parts Try.infoLam
  have hbs := hb.size
  have hown : W.ownsRow wr.heap.size 27 3 (.slice (some ⟨G0, 0, none⟩) 0 0) 0 [] := ⟨by simp, Or.inr ⟨G0, 0, #[], rfl, hG, hB, by omega, by unfold maxLen; omega, by simp, by simp⟩⟩
  obtain ⟨g, cap, w3, hr, ho, hg, hat, hgl⟩ := run_append_lies (P := Try.prog) (w := W) 25 25 wr.heap.size 27 i0 _ 3 40 Try.underlying25 hi hz0 hz1 hz2 rfl (by decide) (.slice (some ⟨G0, 0, none⟩) 0 0) 0 [] hown
    ⟨b, o, none⟩ n c xr hxl (fun j u hj => by
      have e : (⟨b, o, none⟩ : Addr).add j = ⟨b, o + j, none⟩ := by
        by_cases h0 : j = 0
        · subst h0; simp [Addr.add]
        · simp [Addr.add, h0]
      rw [e]
      exact (hb.cell (p := ⟨b, o + j, none⟩) hbl).trans (hxc j u hj)) h1 hn0 (by unfold maxLen; omega) (by omega) hbs _ rfl
  rw [Nat.zero_add, List.nil_append] at ho
  rw [Nat.zero_add] at hr
  refine ⟨g, cap, w3, hr, ho, hb.grown hg hbs (fun k hk => by simp [Value.ownBlock] at hk; omega), fun q hq hne => hg.block q hq (by simp [Value.ownBlock]; exact fun e => hne e), hat.imp (fun e => by simpa [Value.ownBlock] using e.symm) id, hgl, hg.size⟩
theorem setG_keep {w : World} {b i G i0 i1 i2 : Nat} {v u u' u'' : Value} (h : w.cell? ⟨b, i, none⟩ = some v) (hn : b ≠ G) : (((w.setCell ⟨G, i0, none⟩ u).setCell ⟨G, i1, none⟩ u').setCell ⟨G, i2, none⟩ u'').cell? ⟨b, i, none⟩ = some v := by
  refine cell_sameM ?_ h
  rw [Below.heap_setCell _ _ _ _ (by simpa using hn), Below.heap_setCell _ _ _ _ (by simpa using hn), Below.heap_setCell _ _ _ _ (by simpa using hn)]
theorem bl_set3N {N : Nat} {w W : World} (h : Below N w W) (j : Nat) (hj : N ≤ j) (u u' u'' : Value) : Below N w (((W.setCell ⟨j, 0, none⟩ u).setCell ⟨j, 1, none⟩ u').setCell ⟨j, 2, none⟩ u'') :=
  ((h.setCell (p := ⟨j, 0, none⟩) (by simpa using hj) _).setCell (p := ⟨j, 1, none⟩) (by simpa using hj) _).setCell (p := ⟨j, 2, none⟩) (by simpa using hj) _
theorem kpL_firstN {W w1 : World} {N n G cap O : Nat} {k x : Int} {xs : List Value} (hO : N ≤ O) (hB : Blk w1 O #[.int .i64 0, .int .i64 0, .slice none 0 0] 27) (hGO : G ≠ O) (hown : w1.ownsRow N 27 3 (.slice (some ⟨G, 0, none⟩) n cap) n xs) (hb : Below N W w1) :
    KpL W N k x n xs (.pointer (some ⟨O, 0, none⟩)) (((w1.setCell ⟨O, 0, none⟩ (.int .i64 k)).setCell ⟨O, 1, none⟩ (.int .i64 x)).setCell ⟨O, 2, none⟩ (.slice (some ⟨G, 0, none⟩) n cap)) := by
  have hl := hown.lt G rfl
  refine ⟨G, O, cap, rfl, hl.1, hO, hGO, ?_, ownsRow_put3 hown (fun e => hGO e.symm), ((hb.setCell (by simpa using hO) _).setCell (by simpa using hO) _).setCell (by simpa using hO) _⟩
  have := ((hB.set 0 (.int .i64 k)).set 1 (.int .i64 x)).set 2 (.slice (some ⟨G, 0, none⟩) n cap)
  simpa using this
/-- What LamSteps answers. -/
def LsPost (n : Nat) (t : Lm) (X : Nat → Prop) (w : World) (e : Ending) (w' : World) : Prop :=
  ∃ a c, e = .returned (.slice a (stsT n t).length c) ∧ SlM w' (fun b => (X b ∧ b < w.heap.size) ∨ w.heap.size ≤ b) a (stsT n t) ∧ Below w.heap.size w w'
def LsAt (n : Nat) (t : Lm) : Prop := ∀ (v : Value) (w : World) (X : Nat → Prop), MV w X v t → Calls Try.prog 16 #[v] w fun e w' => LsPost n t X w e w'
def zs (l : List Hnd) : List Lm := l.map fun p => p.2.2
theorem zs_append (a b : List Hnd) : zs (a ++ b) = zs a ++ zs b := by simp [zs]
theorem zs_wrap (k x : Int) (l : List Lm) (q : Nat) (h : List Hnd) : zs (h.map (wrpT k x l q)) = (zs h).map fun y => ⟨k, x, l.set q y⟩ := by simp [zs, wrpT]
theorem zs_len (l : List Hnd) : (zs l).length = l.length := by simp [zs]
theorem gd_beta {u : Int} {t : Lm} (h : GdM u t) : sizeM [t] ≤ 100000 ∧ BndM [t] := by
  obtain ⟨h1, h2, h3, h4⟩ := h
  exact ⟨by omega, bnd_of_err _ _ _ h1 (by omega) (by omega) h3⟩

set_option maxHeartbeats 8000000 in
theorem lamSteps_at (n : Nat) : ∀ (t : Lm) (u : Int), sizeM [t] ≤ n → GdM u t → LsAt n t := by
  induction n with
  | zero => intro t u h; have := sizeM_posL t; omega
  | succ n ih =>
    intro t u hn hg v w X hv
    obtain ⟨kd, ix, l⟩ := t
    obtain ⟨a, c, rfl, hs⟩ := hv
    dsimp only at hs ⊢
    have hsz : sizeM [⟨kd, ix, l⟩] = 1 + sizeM l := sizeM_one kd ix l
    have hlen := sizeM_len l
    have hg4 := hg.2.2.2
    have HG := hide hg
    have HIH : Hid (∀ s ∈ l, LsAt n s) := fun s hsl => by
      obtain ⟨i, hi', rfl⟩ := List.mem_iff_getElem.1 hsl
      have := sizeM_get l i hi'
      exact ih _ (deepK u kd) (by omega) (hg.subs hsl)
    have B1 : Hid (Below w.heap.size w (w.alloc (.cells #[.int .i64 kd, .int .i64 ix, .slice a l.length c] 27))) := (Below.refl _ _).alloc (Nat.le_refl _) _
    have T1 : Hid (Blk (w.alloc (.cells #[.int .i64 kd, .int .i64 ix, .slice a l.length c] 27)) w.heap.size #[.int .i64 kd, .int .i64 ix, .slice a l.length c] 27) := Blk.new _ _ _
    have hz1 : (w.alloc (.cells #[.int .i64 kd, .int .i64 ix, .slice a l.length c] 27)).heap.size = w.heap.size + 1 := by simp
    have HS : Hid (SlM w (fun b => X b ∧ b < w.heap.size) a l) := hs.mono fun b h1 h2 => ⟨h1, h2⟩
    have HVT : Hid (MV (w.alloc (.cells #[.int .i64 kd, .int .i64 ix, .slice a l.length c] 27)) (fun b => X b ∧ b < w.heap.size) (.agg #[.int .i64 kd, .int .i64 ix, .slice a l.length c]) ⟨kd, ix, l⟩) := ⟨a, c, rfl, HS.out.later B1.out⟩
    have HK3 : Hid (kd = 3 → l ≠ []) := fun h3 e => by
      have hkn := (knE_zero.1 (err_one0.1 hg.2.2.1).1).2.1
      rw [h3, e] at hkn
      simp [subsK] at hkn
    have c0 := T1.out.cell 0
    have c1 := T1.out.cell 1
    have c2 := T1.out.cell 2
    simp only [List.getElem?_toArray, List.getElem?_cons_succ, List.getElem?_cons_zero] at c0 c1 c2
    clear hs hg ih
    go_enter Try.func16, Try.ntmps16
    go_wp2_with fail
    refine (isRedex_any ⟨kd, ix, l⟩ _ _ _ HVT.out HK3.out).mono ?_
    clear c0 c1 c2
    generalize (w.alloc (.cells #[.int .i64 kd, .int .i64 ix, .slice a l.length c] 27)) = w1 at *
    rintro e wq ⟨rfl, hbq⟩
    have hzq : w.heap.size + 1 ≤ wq.heap.size := by have := hbq.size; omega
    have BQ := hide (B1.out.trans (hbq.mono (by omega)))
    have TQ := hide (T1.out.below hbq (by omega))
    clear hbq HVT
    go_upto_if 9 with fail
    go_cut [3] (fun s3 wc => ∃ xs, RowM wc (w.heap.size + 1) 27 (fun b => X b ∧ b < w.heap.size) s3 (zs (hndH ⟨kd, ix, l⟩)) xs ∧ Below (w.heap.size + 1) wq wc)
    case first =>
      cases hrd : rdxT ⟨kd, ix, l⟩ with
      | false =>
        have HH0 : Hid (zs (hndH ⟨kd, ix, l⟩) = []) := by unfold Hid hndH; rw [hrd]; rfl
        clear hrd
        go_wp2_with fail
        go_meet
        exact ⟨[], by rw [HH0.out]; exact RowM.start _ _ _ _, Below.refl _ _⟩
      | true =>
        obtain ⟨x', fi, b, z, e, h1, h2⟩ := subs_two HG.out.2.2.1 hrd
        cases e
        have HH1 : Hid (zs (hndH ⟨3, ix, [⟨2, fi, [b]⟩, z]⟩) = [] ++ [insT z 0 b]) := by
          unfold Hid hndH
          rw [hrd, if_pos rfl]
          unfold zs hndC
          have ec : conT ([⟨2, fi, [b]⟩, z] : List Lm) = insT z 0 b := rfl
          simp only [List.map_cons, List.map_nil, List.nil_append]
          split <;> rfl
        have HGB : Hid (GdM (u + 1) b) := by
          have h3 := HG.out.subs (y := ⟨2, fi, [b]⟩) (by simp)
          have h4 : GdM u ⟨2, fi, [b]⟩ := by simpa [deepK] using h3
          exact gd_body h4
        have HGZ : Hid (GdM u z) := by
          have h3 := HG.out.subs (y := z) (by simp)
          unfold Hid
          simpa [deepK] using h3
        obtain ⟨B, o, a1, c1, a2, c2, rfl, hXB, d0, d1, d2, d3, d4, d5, hs1, hs2⟩ := slM_cells (HS.out.later BQ.out)
        obtain ⟨B1', o1, a3, c3, rfl, hXB1, g0, g1, g2, hs3⟩ := slM_one hs1
        dsimp only [List.length_cons, List.length_nil] at *
        obtain ⟨B1, hB1⟩ : ∃ B1, B1 = B1' := ⟨_, rfl⟩
        subst hB1
        have t2 : wq.cell? ⟨w.heap.size, 2, none⟩ = some (.slice (some ⟨B, o, none⟩) 2 c) := TQ.out.cell 2
        have hBl : B < wq.heap.size := by omega
        have hB1l : B1 < wq.heap.size := by omega
        have HS0 : Hid (wq.cell? ⟨w.heap.size, 2, none⟩ = some (.slice (some ⟨B, o, none⟩) 2 c) ∧ wq.cell? ⟨B, o + 2, none⟩ = some (.slice (some ⟨B1, o1, none⟩) 1 c1) ∧ wq.cell? ⟨B1, o1, none⟩ = some (.int .i64 b.kind) ∧ wq.cell? ⟨B1, o1 + 1, none⟩ = some (.int .i64 b.idx) ∧ wq.cell? ⟨B1, o1 + 2, none⟩ = some (.slice a3 b.subs.length c3) ∧ wq.cell? ⟨B, o + 3, none⟩ = some (.int .i64 z.kind) ∧ wq.cell? ⟨B, o + 4, none⟩ = some (.int .i64 z.idx) ∧ wq.cell? ⟨B, o + 5, none⟩ = some (.slice a2 z.subs.length c2)) := ⟨t2, d2, g0, g1, g2, d3, d4, d5⟩
        have KP : Hid (∀ w', Below wq.heap.size wq w' → w'.cell? ⟨w.heap.size, 2, none⟩ = some (.slice (some ⟨B, o, none⟩) 2 c) ∧ w'.cell? ⟨B, o + 2, none⟩ = some (.slice (some ⟨B1, o1, none⟩) 1 c1) ∧ w'.cell? ⟨B1, o1, none⟩ = some (.int .i64 b.kind) ∧ w'.cell? ⟨B1, o1 + 1, none⟩ = some (.int .i64 b.idx) ∧ w'.cell? ⟨B1, o1 + 2, none⟩ = some (.slice a3 b.subs.length c3) ∧ w'.cell? ⟨B, o + 3, none⟩ = some (.int .i64 z.kind) ∧ w'.cell? ⟨B, o + 4, none⟩ = some (.int .i64 z.idx) ∧ w'.cell? ⟨B, o + 5, none⟩ = some (.slice a2 z.subs.length c2)) := fun w' hb => by
          have hh := HS0.out
          exact ⟨(hb.cell (p := ⟨w.heap.size, 2, none⟩) (by simp; omega)).trans hh.1, (hb.cell (p := ⟨B, o + 2, none⟩) hBl).trans hh.2.1, (hb.cell (p := ⟨B1, o1, none⟩) hB1l).trans hh.2.2.1, (hb.cell (p := ⟨B1, o1 + 1, none⟩) hB1l).trans hh.2.2.2.1, (hb.cell (p := ⟨B1, o1 + 2, none⟩) hB1l).trans hh.2.2.2.2.1, (hb.cell (p := ⟨B, o + 3, none⟩) hBl).trans hh.2.2.2.2.2.1, (hb.cell (p := ⟨B, o + 4, none⟩) hBl).trans hh.2.2.2.2.2.2.1, (hb.cell (p := ⟨B, o + 5, none⟩) hBl).trans hh.2.2.2.2.2.2.2⟩
        have HD : Hid (Below wq.heap.size wq wq.drew) := (Below.refl _ _).drew
        have BETA : Hid (∀ w', Below wq.heap.size wq w' → Calls Try.prog 32 #[.agg #[.int .i64 b.kind, .int .i64 b.idx, .slice a3 b.subs.length c3], .agg #[.int .i64 z.kind, .int .i64 z.idx, .slice a2 z.subs.length c2]] w' fun e w'' => ∃ a c, e = .returned (.agg #[.int .i64 (insT z 0 b).kind, .int .i64 (insT z 0 b).idx, .slice a (insT z 0 b).subs.length c]) ∧ SlM w'' (fun b => (X b ∧ b < w.heap.size) ∨ wq.heap.size ≤ b) a (insT z 0 b).subs ∧ Below wq.heap.size wq w'') := fun w' hb => by
          refine (beta_any b z _ _ w' _ ⟨a3, c3, rfl, hs3.later hb⟩ ⟨a2, c2, rfl, hs2.later hb⟩ (gd_beta HGB.out).1 (gd_beta HGB.out).2 (gd_beta HGZ.out).1 (gd_beta HGZ.out).2).mono ?_
          rintro e w'' ⟨p, q, rfl, h1, h2⟩
          have hzz := hb.size
          exact ⟨p, q, rfl, h1.mono fun b h _ => h.imp (fun h => h.1) fun h => by omega, hb.trans (h2.mono hzz)⟩
        clear hrd h1 h2 d0 d1 d2 d3 d4 d5 g0 g1 g2 hs1 hs2 hs3 t2
        go_upto_region 3 with fail
        refine wp_region_held_drew (S := (fun w' => w'.cell? ⟨w.heap.size, 2, none⟩ = some (.slice (some ⟨B, o, none⟩) 2 c) ∧ w'.cell? ⟨B, o + 2, none⟩ = some (.slice (some ⟨B1, o1, none⟩) 1 c1) ∧ w'.cell? ⟨B1, o1, none⟩ = some (.int .i64 b.kind) ∧ w'.cell? ⟨B1, o1 + 1, none⟩ = some (.int .i64 b.idx) ∧ w'.cell? ⟨B1, o1 + 2, none⟩ = some (.slice a3 b.subs.length c3) ∧ w'.cell? ⟨B, o + 3, none⟩ = some (.int .i64 z.kind) ∧ w'.cell? ⟨B, o + 4, none⟩ = some (.int .i64 z.idx) ∧ w'.cell? ⟨B, o + 5, none⟩ = some (.slice a2 z.subs.length c2))) (by kernel_rfl) HS0.out (fun hHeld => ?_)
        refine wpAnyH_take (i := 0) (v := ?_) rfl (by kernel_rfl) (by kernel_rfl) (by kernel_rfl) (fun _ _ _ h => h) (Or.inl ⟨by rfl, ?_⟩) (by assumption) ?_
        rotate_left
        · intro w' hSw
          have e0 := hSw.1
          have e1 := hSw.2.1
          have e2 := hSw.2.2.1
          have e3 := hSw.2.2.2.1
          have e4 := hSw.2.2.2.2.1
          have e5 := hSw.2.2.2.2.2.1
          have e6 := hSw.2.2.2.2.2.2.1
          have e7 := hSw.2.2.2.2.2.2.2
          go_simp <;> with_reducible rfl
        try simp only [Act.put, List.setIfInBounds_toArray, List.set_cons_zero, List.set_cons_succ, List.getElem_toArray, List.getElem_cons_succ, List.getElem_cons_zero]
        refine wpAnyH_take (i := 1) (v := ?_) rfl (by kernel_rfl) (by kernel_rfl) (by kernel_rfl) (fun _ _ _ h => h) (Or.inl ⟨by rfl, ?_⟩) (by assumption) ?_
        rotate_left
        · intro w' hSw
          have e0 := hSw.1
          have e1 := hSw.2.1
          have e2 := hSw.2.2.1
          have e3 := hSw.2.2.2.1
          have e4 := hSw.2.2.2.2.1
          have e5 := hSw.2.2.2.2.2.1
          have e6 := hSw.2.2.2.2.2.2.1
          have e7 := hSw.2.2.2.2.2.2.2
          go_simp <;> with_reducible rfl
        try simp only [Act.put, List.setIfInBounds_toArray, List.set_cons_zero, List.set_cons_succ, List.getElem_toArray, List.getElem_cons_succ, List.getElem_cons_zero]
        refine wpAnyH_take (i := 2) (v := ?_) rfl (by kernel_rfl) (by kernel_rfl) (by kernel_rfl) (fun _ _ _ h => h) (Or.inl ⟨by rfl, ?_⟩) (by assumption) ?_
        rotate_left
        · intro w' hSw
          have e0 := hSw.1
          have e1 := hSw.2.1
          have e2 := hSw.2.2.1
          have e3 := hSw.2.2.2.1
          have e4 := hSw.2.2.2.2.1
          have e5 := hSw.2.2.2.2.2.1
          have e6 := hSw.2.2.2.2.2.2.1
          have e7 := hSw.2.2.2.2.2.2.2
          go_simp <;> with_reducible rfl
        try simp only [Act.put, List.setIfInBounds_toArray, List.set_cons_zero, List.set_cons_succ, List.getElem_toArray, List.getElem_cons_succ, List.getElem_cons_zero]
        refine wpAnyH_take (i := 3) (v := ?_) rfl (by kernel_rfl) (by kernel_rfl) (by kernel_rfl) (fun _ _ _ h => h) (Or.inl ⟨by rfl, ?_⟩) (by assumption) ?_
        rotate_left
        · intro w' hSw
          have e0 := hSw.1
          have e1 := hSw.2.1
          have e2 := hSw.2.2.1
          have e3 := hSw.2.2.2.1
          have e4 := hSw.2.2.2.2.1
          have e5 := hSw.2.2.2.2.2.1
          have e6 := hSw.2.2.2.2.2.2.1
          have e7 := hSw.2.2.2.2.2.2.2
          go_simp <;> with_reducible rfl
        try simp only [Act.put, List.setIfInBounds_toArray, List.set_cons_zero, List.set_cons_succ, List.getElem_toArray, List.getElem_cons_succ, List.getElem_cons_zero]
        refine wpAnyH_take (i := 4) (v := ?_) rfl (by kernel_rfl) (by kernel_rfl) (by kernel_rfl) (fun _ _ _ h => h) (Or.inl ⟨by rfl, ?_⟩) (by assumption) ?_
        rotate_left
        · intro w' hSw
          have e0 := hSw.1
          have e1 := hSw.2.1
          have e2 := hSw.2.2.1
          have e3 := hSw.2.2.2.1
          have e4 := hSw.2.2.2.2.1
          have e5 := hSw.2.2.2.2.2.1
          have e6 := hSw.2.2.2.2.2.2.1
          have e7 := hSw.2.2.2.2.2.2.2
          go_simp <;> with_reducible rfl
        try simp only [Act.put, List.setIfInBounds_toArray, List.set_cons_zero, List.set_cons_succ, List.getElem_toArray, List.getElem_cons_succ, List.getElem_cons_zero]
        refine wpAnyH_take (i := 5) (v := ?_) rfl (by kernel_rfl) (by kernel_rfl) (by kernel_rfl) (fun _ _ _ h => h) (Or.inl ⟨by rfl, ?_⟩) (by assumption) ?_
        rotate_left
        · intro w' hSw
          have e0 := hSw.1
          have e1 := hSw.2.1
          have e2 := hSw.2.2.1
          have e3 := hSw.2.2.2.1
          have e4 := hSw.2.2.2.2.1
          have e5 := hSw.2.2.2.2.2.1
          have e6 := hSw.2.2.2.2.2.2.1
          have e7 := hSw.2.2.2.2.2.2.2
          go_simp <;> with_reducible rfl
        try simp only [Act.put, List.setIfInBounds_toArray, List.set_cons_zero, List.set_cons_succ, List.getElem_toArray, List.getElem_cons_succ, List.getElem_cons_zero]
        refine wpAnyH_take (i := 6) (v := ?_) rfl (by kernel_rfl) (by kernel_rfl) (by kernel_rfl) (fun _ _ _ h => h) (Or.inl ⟨by rfl, ?_⟩) (by assumption) ?_
        rotate_left
        · intro w' hSw
          have e0 := hSw.1
          have e1 := hSw.2.1
          have e2 := hSw.2.2.1
          have e3 := hSw.2.2.2.1
          have e4 := hSw.2.2.2.2.1
          have e5 := hSw.2.2.2.2.2.1
          have e6 := hSw.2.2.2.2.2.2.1
          have e7 := hSw.2.2.2.2.2.2.2
          go_simp <;> with_reducible rfl
        try simp only [Act.put, List.setIfInBounds_toArray, List.set_cons_zero, List.set_cons_succ, List.getElem_toArray, List.getElem_cons_succ, List.getElem_cons_zero]
        refine wpAnyH_take (i := 7) (v := ?_) rfl (by kernel_rfl) (by kernel_rfl) (by kernel_rfl) (fun _ _ _ h => h) (Or.inl ⟨by rfl, ?_⟩) (by assumption) ?_
        rotate_left
        · intro w' hSw
          have e0 := hSw.1
          have e1 := hSw.2.1
          have e2 := hSw.2.2.1
          have e3 := hSw.2.2.2.1
          have e4 := hSw.2.2.2.2.1
          have e5 := hSw.2.2.2.2.2.1
          have e6 := hSw.2.2.2.2.2.2.1
          have e7 := hSw.2.2.2.2.2.2.2
          go_simp <;> with_reducible rfl
        try simp only [Act.put, List.setIfInBounds_toArray, List.set_cons_zero, List.set_cons_succ, List.getElem_toArray, List.getElem_cons_succ, List.getElem_cons_zero]
        refine wpAnyH_take (i := 8) (v := ?_) rfl (by kernel_rfl) (by kernel_rfl) (by kernel_rfl) (fun _ _ _ h => h) (Or.inl ⟨by rfl, ?_⟩) (by assumption) ?_
        rotate_left
        · intro w' hSw
          have e0 := hSw.1
          have e1 := hSw.2.1
          have e2 := hSw.2.2.1
          have e3 := hSw.2.2.2.1
          have e4 := hSw.2.2.2.2.1
          have e5 := hSw.2.2.2.2.2.1
          have e6 := hSw.2.2.2.2.2.2.1
          have e7 := hSw.2.2.2.2.2.2.2
          go_simp <;> with_reducible rfl
        try simp only [Act.put, List.setIfInBounds_toArray, List.set_cons_zero, List.set_cons_succ, List.getElem_toArray, List.getElem_cons_succ, List.getElem_cons_zero]
        refine wpAnyH_take (i := 9) (v := ?_) rfl (by kernel_rfl) (by kernel_rfl) (by kernel_rfl) (fun _ _ _ h => h) (Or.inl ⟨by rfl, ?_⟩) (by assumption) ?_
        rotate_left
        · intro w' hSw
          have e0 := hSw.1
          have e1 := hSw.2.1
          have e2 := hSw.2.2.1
          have e3 := hSw.2.2.2.1
          have e4 := hSw.2.2.2.2.1
          have e5 := hSw.2.2.2.2.2.1
          have e6 := hSw.2.2.2.2.2.2.1
          have e7 := hSw.2.2.2.2.2.2.2
          go_simp <;> with_reducible rfl
        try simp only [Act.put, List.setIfInBounds_toArray, List.set_cons_zero, List.set_cons_succ, List.getElem_toArray, List.getElem_cons_succ, List.getElem_cons_zero]
        refine wpAnyH_take (i := 10) (v := ?_) rfl (by kernel_rfl) (by kernel_rfl) (by kernel_rfl) (fun _ _ _ h => h) (Or.inl ⟨by rfl, ?_⟩) (by assumption) ?_
        rotate_left
        · intro w' hSw
          have e0 := hSw.1
          have e1 := hSw.2.1
          have e2 := hSw.2.2.1
          have e3 := hSw.2.2.2.1
          have e4 := hSw.2.2.2.2.1
          have e5 := hSw.2.2.2.2.2.1
          have e6 := hSw.2.2.2.2.2.2.1
          have e7 := hSw.2.2.2.2.2.2.2
          go_simp <;> with_reducible rfl
        try simp only [Act.put, List.setIfInBounds_toArray, List.set_cons_zero, List.set_cons_succ, List.getElem_toArray, List.getElem_cons_succ, List.getElem_cons_zero]
        refine wpAnyH_take (i := 11) (v := ?_) rfl (by kernel_rfl) (by kernel_rfl) (by kernel_rfl) (fun _ _ _ h => h) (Or.inl ⟨by rfl, ?_⟩) (by assumption) ?_
        rotate_left
        · intro w' hSw
          have e0 := hSw.1
          have e1 := hSw.2.1
          have e2 := hSw.2.2.1
          have e3 := hSw.2.2.2.1
          have e4 := hSw.2.2.2.2.1
          have e5 := hSw.2.2.2.2.2.1
          have e6 := hSw.2.2.2.2.2.2.1
          have e7 := hSw.2.2.2.2.2.2.2
          go_simp <;> with_reducible rfl
        try simp only [Act.put, List.setIfInBounds_toArray, List.set_cons_zero, List.set_cons_succ, List.getElem_toArray, List.getElem_cons_succ, List.getElem_cons_zero]
        refine wpAnyH_ready (rs := [12]) (by kernel_rfl) (by simp) ?_
        refine AllReadyH.cons rfl (fun K hK => ?_) AllReadyH.nil
        go_simp
        go_at_call 32
        refine (BETA.out _ HD.out).mono ?_
        rintro e w5 ⟨a9, c9, rfl, hs9, hB5⟩
        have z5 := KP.out _ hB5
        have z6 := KP.out _ (hB5.alloc hB5.size (.cells #[.int .i64 (insT z 0 b).kind, .int .i64 (insT z 0 b).idx, .slice a9 (insT z 0 b).subs.length c9] 27))
        obtain ⟨g, cap, w9, ys, hrun, hrow9, hb9, hk9, hg9, _⟩ := rowM_appendG (c1 := c9) (t := insT z 0 b) (RowM.start wq (w.heap.size + 1) 27 (fun b => X b ∧ b < w.heap.size)) (by omega) (fun b h => by omega) (by simp) hB5 (hs9.mono fun b h _ => h.imp id fun h => ⟨by omega, by simp [Value.ownBlock]⟩) w5.heap.size rfl
        have HRUN := hide hrun
        have HROW := hide hrow9
        have HB9 := hide hb9
        have z9 := KP.out w9 (by exact below_all hb9 hk9 hB5 (fun _ _ => by simp [Value.ownBlock]))
        clear hrun hrow9 hb9 hk9
        go_simp
        refine hK.out _ _ (by exact z5) (fun hHeld => ?_)
        clear hK K
        try simp only [Act.put, List.setIfInBounds_toArray, List.set_cons_zero, List.set_cons_succ, List.getElem_toArray, List.getElem_cons_succ, List.getElem_cons_zero]
        refine wpAnyH_ready (rs := [13]) (by kernel_rfl) (by simp) ?_
        refine AllReadyH.cons rfl (fun K hK => ?_) AllReadyH.nil
        go_simp
        refine hK.out _ _ (by exact z6) (fun hHeld => ?_)
        clear hK K
        try simp only [Act.put, List.setIfInBounds_toArray, List.set_cons_zero, List.set_cons_succ, List.getElem_toArray, List.getElem_cons_succ, List.getElem_cons_zero]
        refine wpAnyH_ready (rs := [14]) (by kernel_rfl) (by simp) ?_
        refine AllReadyH.cons rfl (fun K hK => ?_) AllReadyH.nil
        refine step_append_eqM rfl _ _ _ _ rfl rfl rfl HRUN.out ?_
        refine hK.out _ _ (by exact z9) (fun hHeld => ?_)
        clear hK K
        try simp only [Act.put, List.setIfInBounds_toArray, List.set_cons_zero, List.set_cons_succ, List.getElem_toArray, List.getElem_cons_succ, List.getElem_cons_zero]
        refine wpAnyH_take (i := 15) (v := ?_) rfl (by kernel_rfl) (by kernel_rfl) (by kernel_rfl) (fun _ _ _ h => h) (Or.inl ⟨by rfl, ?_⟩) (by assumption) ?_
        rotate_left
        · intro w' hSw
          go_simp <;> with_reducible rfl
        try simp only [Act.put, List.setIfInBounds_toArray, List.set_cons_zero, List.set_cons_succ, List.getElem_toArray, List.getElem_cons_succ, List.getElem_cons_zero]
        refine wpAnyH_done (by kernel_rfl) ?_ _
        go_wp2_with fail
        go_meet
        exact ⟨_, by rw [HH1.out]; exact HROW.out, HB9.out⟩
    case rest =>
      obtain ⟨xs0, hrow0, hb0⟩ := hcut
      have HROW0 := hide hrow0
      have HB0 := hide hb0
      clear hrow0 hb0
      go_wp2_with fail
      go_loopw [3, 4] (fun s3 i wr => ∃ (q : Nat) (xs : List Value), q ≤ l.length ∧ i = .int .i64 (q : Int) ∧ RowM wr (w.heap.size + 1) 27 (fun b => X b ∧ b < w.heap.size) s3 (zs (hndH ⟨kd, ix, l⟩ ++ hndR (hndT n) kd ix l q)) xs ∧ Below (w.heap.size + 1) wq wr) (fun s3 i wr => l.length - (intOf i).toNat)
      case atStart => exact ⟨0, xs0, Nat.zero_le _, rfl, by rw [hndR, List.append_nil]; exact HROW0.out, HB0.out⟩
      case round =>
        obtain ⟨q, xs, hq, rfl, hrow, hbr⟩ := hrel
        obtain ⟨wa, hwa⟩ : ∃ wa, wa = wr := ⟨_, rfl⟩
        subst hwa
        obtain ⟨s3, hs3⟩ : ∃ s3, s3 = u3 := ⟨_, rfl⟩
        subst hs3
        have XW := hide hrow
        have XB := hide hbr
        have XT := hide (TQ.out.below hbr (by omega))
        have XE := hide (BQ.out.trans (hbr.mono (by omega)))
        have hzr : w.heap.size + 1 ≤ wa.heap.size := by have := hbr.size; omega
        have c2 : wa.cell? ⟨w.heap.size, 2, none⟩ = some (.slice a l.length c) := XT.out.cell 2
        clear hrow hbr
        by_cases hlt : q < l.length
        · obtain ⟨b, o, a', c', hae, d0, d0', d1, hx⟩ := HS.out.get XE.out (fun b h _ => h.2) q hlt
          have hlt2 : (q : Int) < (l.length : Int) := by omega
          have HX := hide hx
          have hIH := hide (HIH.out l[q] (List.getElem_mem hlt))
          obtain ⟨xr, hrt, hxc⟩ : ∃ xr, RowTM w (fun b => X b ∧ b < w.heap.size) l xr ∧ ∀ j u, xr[j]? = some u → w.cell? ⟨b, o + j, none⟩ = some u := by
            obtain ⟨_, h1⟩ := HS.out
            rcases h1 with h1 | ⟨b', o', e', h1⟩
            · rw [h1] at hlt; simp at hlt
            · rw [hae] at e'
              cases e'
              exact rowTM_of_lies l _ _ h1
          have hbw : b < w.heap.size := by
            obtain ⟨_, h1⟩ := HS.out
            rcases h1 with h1 | ⟨b', o', e', h1⟩
            · rw [h1] at hlt; simp at hlt
            · rw [hae] at e'; cases e'; exact (liesM_get _ _ _ h1 q hlt).1.2
          subst hae
          have HRT := hide hrt
          have HXC := hide hxc
          have HSUC : Hid (hndR (hndT n) kd ix l (q + 1) = hndR (hndT n) kd ix l q ++ (hndT n l[q]).map (wrpT kd ix l q)) := hndR_succ _ _ _ _ _ hlt
          have HLEN : Hid ((zs (hndH ⟨kd, ix, l⟩ ++ hndR (hndT n) kd ix l q)).length ≤ 4000 ∧ (stsT n l[q]).length ≤ 4000) := by
            have h1 := hnd_len (n + 1) ⟨kd, ix, l⟩
            rw [hndT] at h1
            obtain ⟨rest, hre⟩ := hndR_pre (hndT n) kd ix l q l.length hq
            rw [hre] at h1
            have h2 := hnd_len n l[q]
            have h3 := sizeM_get l q hlt
            have h4 : (stsT n l[q]).length = (hndT n l[q]).length := by simp [stsT]
            refine ⟨?_, by omega⟩
            rw [zs_len]
            simp only [List.length_append] at h1 ⊢
            omega
          clear hx hrt hxc
          go_wp2_with fail
          refine (hIH.out _ _ _ HX.out).mono ?_
          rintro e w5 ⟨a5, c5, rfl, hs5, hb5⟩
          have hz5 := hb5.size
          have HB5 := hide (XB.out.trans (hb5.mono (by omega)))
          have S5 : Hid (SlM w5 (fun b => (X b ∧ b < w.heap.size) ∨ (wa.heap.size ≤ b ∧ b < w5.heap.size)) a5 (stsT n l[q])) := hs5.mono fun b h h' => h.imp (fun h => h.1) fun h => ⟨h, h'⟩
          have W5 := hide (XW.out.below hb5)
          have O5 : Hid (∀ g, s3.ownBlock = some g → g < wa.heap.size ∨ w5.heap.size ≤ g) := fun g hg => Or.inl (XW.out.own.lt g hg).2
          clear hb5 hs5 d0 d0' d1 c2
          go_wp2_with fail
          go_loopw [3, 6] (fun t3 i wr2 => ∃ (j : Nat) (ys : List Value), j ≤ (stsT n l[q]).length ∧ i = .int .i64 (j : Int) ∧ RowM wr2 (w.heap.size + 1) 27 (fun b => X b ∧ b < w.heap.size) t3 (zs (hndH ⟨kd, ix, l⟩ ++ hndR (hndT n) kd ix l q) ++ ((stsT n l[q]).take j).map fun y => ⟨kd, ix, l.set q y⟩) ys ∧ Below (w.heap.size + 1) wq wr2 ∧ SlM wr2 (fun b => (X b ∧ b < w.heap.size) ∨ (wa.heap.size ≤ b ∧ b < w5.heap.size)) a5 (stsT n l[q]) ∧ (∀ g, t3.ownBlock = some g → g < wa.heap.size ∨ w5.heap.size ≤ g) ∧ w5.heap.size ≤ wr2.heap.size) (fun t3 i wr2 => (stsT n l[q]).length - (intOf i).toNat)
          case atStart => exact ⟨0, xs, Nat.zero_le _, rfl, by simpa using W5.out, HB5.out, S5.out, O5.out, Nat.le_refl _⟩
          case round =>
            obtain ⟨j, ys, hj, rfl, hrow2, hbr2, hsl2, hown2, hz2⟩ := hrel
            have XW2 := hide hrow2
            have XB2 := hide hbr2
            have XS2 := hide hsl2
            have XO2 := hide hown2
            have XT2 := hide (TQ.out.below hbr2 (by omega))
            have XE2 := hide (BQ.out.trans (hbr2.mono (by omega)))
            clear hrow2 hbr2 hsl2 hown2
            by_cases hlt3 : j < (stsT n l[q]).length
            · have hlt4 : (j : Int) < ((stsT n l[q]).length : Int) := by omega
              obtain ⟨b5, o5, a6, c6, hae5, e0, e1, e2, hx6⟩ := XS2.out.get (Below.refl wr.heap.size wr) (fun b h _ => by rcases h with h | h <;> omega) j hlt3
              subst hae5
              have c0 : wr.cell? ⟨w.heap.size, 0, none⟩ = some (.int .i64 kd) := XT2.out.cell 0
              have c1 : wr.cell? ⟨w.heap.size, 1, none⟩ = some (.int .i64 ix) := XT2.out.cell 1
              have c2 : wr.cell? ⟨w.heap.size, 2, none⟩ = some (.slice (some ⟨b, o, none⟩) l.length c) := XT2.out.cell 2
              go_upto_region 11 with fail
              have hbr : b < wr.heap.size := by have := XB2.out.size; omega
              have HXL : Hid (xr.length = l.length * 3) := HRT.out.len
              have HX1 : Hid (∀ u ∈ xr, u.oneCell' = true) := HRT.out.one
              have HXC2 : Hid (∀ j u, xr[j]? = some u → wr.cell? ⟨b, o + j, none⟩ = some u) := fun j u hj => (XE2.out.cell (p := ⟨b, o + j, none⟩) hbw).trans (HXC.out j u hj)
              have hl0 : 0 < l.length := by omega
              have hl1 : l.length ≤ 1000000 := by omega
              have HC := hide (And.intro c0 (And.intro c1 c2))
              have KP : Hid (∀ w', Below wr.heap.size wr w' → w'.cell? ⟨w.heap.size, 0, none⟩ = some (.int .i64 kd) ∧ w'.cell? ⟨w.heap.size, 1, none⟩ = some (.int .i64 ix) ∧ w'.cell? ⟨w.heap.size, 2, none⟩ = some (.slice (some ⟨b, o, none⟩) l.length c)) := fun w' hb => ⟨(hb.cell (p := ⟨w.heap.size, 0, none⟩) (by simp; omega)).trans HC.out.1, (hb.cell (p := ⟨w.heap.size, 1, none⟩) (by simp; omega)).trans HC.out.2.1, (hb.cell (p := ⟨w.heap.size, 2, none⟩) (by simp; omega)).trans HC.out.2.2⟩
              have HX6 := hide hx6
              have HE6 := hide (And.intro e0 (And.intro e1 e2))
              clear hx6 e0 e1 e2 c0 c1 c2
              go_cut [7] (fun o7 wc => KpL wr wr.heap.size kd ix l.length xr o7 wc)
              case first =>
                refine wp_region_held_drew (S := (fun w' => w'.cell? ⟨w.heap.size, 0, none⟩ = some (.int .i64 kd) ∧ w'.cell? ⟨w.heap.size, 1, none⟩ = some (.int .i64 ix) ∧ w'.cell? ⟨w.heap.size, 2, none⟩ = some (.slice (some ⟨b, o, none⟩) l.length c))) (by kernel_rfl) HC.out (fun hHeld => ?_)
                refine wpAnyH_take (i := 0) (v := ?_) rfl (by kernel_rfl) (by kernel_rfl) (by kernel_rfl) (fun _ _ _ h => h) (Or.inl ⟨by rfl, ?_⟩) (by assumption) ?_
                rotate_left
                · intro w' hSw
                  have e0 := hSw.1
                  have e1 := hSw.2.1
                  have e2 := hSw.2.2
                  go_simp <;> with_reducible rfl
                try simp only [Act.put, List.setIfInBounds_toArray, List.set_cons_zero, List.set_cons_succ, List.getElem_toArray, List.getElem_cons_succ, List.getElem_cons_zero]
                refine wpAnyH_take (i := 1) (v := ?_) rfl (by kernel_rfl) (by kernel_rfl) (by kernel_rfl) (fun _ _ _ h => h) (Or.inl ⟨by rfl, ?_⟩) (by assumption) ?_
                rotate_left
                · intro w' hSw
                  have e0 := hSw.1
                  have e1 := hSw.2.1
                  have e2 := hSw.2.2
                  go_simp <;> with_reducible rfl
                try simp only [Act.put, List.setIfInBounds_toArray, List.set_cons_zero, List.set_cons_succ, List.getElem_toArray, List.getElem_cons_succ, List.getElem_cons_zero]
                refine wpAnyH_take (i := 2) (v := ?_) rfl (by kernel_rfl) (by kernel_rfl) (by kernel_rfl) (fun _ _ _ h => h) (Or.inl ⟨by rfl, ?_⟩) (by assumption) ?_
                rotate_left
                · intro w' hSw
                  have e0 := hSw.1
                  have e1 := hSw.2.1
                  have e2 := hSw.2.2
                  go_simp <;> with_reducible rfl
                try simp only [Act.put, List.setIfInBounds_toArray, List.set_cons_zero, List.set_cons_succ, List.getElem_toArray, List.getElem_cons_succ, List.getElem_cons_zero]
                refine wpAnyH_take (i := 3) (v := ?_) rfl (by kernel_rfl) (by kernel_rfl) (by kernel_rfl) (fun _ _ _ h => h) (Or.inl ⟨by rfl, ?_⟩) (by assumption) ?_
                rotate_left
                · intro w' hSw
                  have e0 := hSw.1
                  have e1 := hSw.2.1
                  have e2 := hSw.2.2
                  go_simp <;> with_reducible rfl
                try simp only [Act.put, List.setIfInBounds_toArray, List.set_cons_zero, List.set_cons_succ, List.getElem_toArray, List.getElem_cons_succ, List.getElem_cons_zero]
                refine wpAnyH_take (i := 5) (v := ?_) rfl (by kernel_rfl) (by kernel_rfl) (by kernel_rfl) (fun _ _ _ h => h) (Or.inl ⟨by rfl, ?_⟩) (by assumption) ?_
                rotate_left
                · intro w' hSw
                  have e0 := hSw.1
                  have e1 := hSw.2.1
                  have e2 := hSw.2.2
                  go_simp <;> with_reducible rfl
                try simp only [Act.put, List.setIfInBounds_toArray, List.set_cons_zero, List.set_cons_succ, List.getElem_toArray, List.getElem_cons_succ, List.getElem_cons_zero]
                refine wpAnyH_take (i := 6) (v := ?_) rfl (by kernel_rfl) (by kernel_rfl) (by kernel_rfl) (fun _ _ _ h => h) (Or.inl ⟨by rfl, ?_⟩) (by assumption) ?_
                rotate_left
                · intro w' hSw
                  have e0 := hSw.1
                  have e1 := hSw.2.1
                  have e2 := hSw.2.2
                  go_simp <;> with_reducible rfl
                try simp only [Act.put, List.setIfInBounds_toArray, List.set_cons_zero, List.set_cons_succ, List.getElem_toArray, List.getElem_cons_succ, List.getElem_cons_zero]
                refine wpAnyH_ready (rs := [4, 9]) (by kernel_rfl) (by simp) ?_
                refine AllReadyH.cons rfl (fun K hK => ?_) (AllReadyH.cons rfl (fun K hK => ?_) AllReadyH.nil)
                · have k4 : Hid (Below wr.heap.size wr (wr.alloc (.cells #[] 27)).drew) := ((Below.refl _ _).alloc (Nat.le_refl _) _).drew
                  have b4 : Hid (Blk (wr.alloc (.cells #[] 27)).drew wr.heap.size #[] 27) := (Blk.new wr #[] 27).drewN 1
                  have s4 : (wr.alloc (.cells #[] 27)).drew.heap.size = wr.heap.size + 1 := by simp
                  have z4 := KP.out _ k4.out
                  go_simp
                  refine hK.out _ _ (by exact z4) (fun hHeld => ?_)
                  clear hK K
                  try simp only [Act.put, List.setIfInBounds_toArray, List.set_cons_zero, List.set_cons_succ, List.getElem_toArray, List.getElem_cons_succ, List.getElem_cons_zero]
                  refine wpAnyH_ready (rs := [7, 9]) (by kernel_rfl) (by simp) ?_
                  refine AllReadyH.cons rfl (fun K hK => ?_) (AllReadyH.cons rfl (fun K hK => ?_) AllReadyH.nil)
                  · obtain ⟨g, cap, w3, hrun, ho, hb3, hk3, hg3, hgl, hz3⟩ := cloneR (c := c) k4.out hbr HXL.out hl0 hl1 HX1.out HXC2.out (Nat.le_refl _) b4.out
                    have HRUN := hide hrun
                    have HO := hide ho
                    have k3 := hide hb3
                    have HK3' := hide hk3
                    have z3 := KP.out _ hb3
                    clear hrun ho hb3 hk3
                    refine step_append_eqM rfl _ _ _ _ rfl rfl rfl HRUN.out ?_
                    refine hK.out _ _ (by exact z3) (fun hHeld => ?_)
                    clear hK K
                    try simp only [Act.put, List.setIfInBounds_toArray, List.set_cons_zero, List.set_cons_succ, List.getElem_toArray, List.getElem_cons_succ, List.getElem_cons_zero]
                    refine wpAnyH_take (i := 8) (v := ?_) rfl (by kernel_rfl) (by kernel_rfl) (by kernel_rfl) (fun _ _ _ h => h) (Or.inl ⟨by rfl, ?_⟩) (by assumption) ?_
                    rotate_left
                    · intro w' hSw
                      go_simp <;> with_reducible rfl
                    try simp only [Act.put, List.setIfInBounds_toArray, List.set_cons_zero, List.set_cons_succ, List.getElem_toArray, List.getElem_cons_succ, List.getElem_cons_zero]
                    have k5 := hide (k3.out.alloc k3.out.size (.cells #[.int .i64 0, .int .i64 0, .slice none 0 0] 27))
                    have z5 := KP.out _ k5.out
                    have O5 : Hid (Blk (w3.alloc (.cells #[.int .i64 0, .int .i64 0, .slice none 0 0] 27)) w3.heap.size #[.int .i64 0, .int .i64 0, .slice none 0 0] 27) := Blk.new _ _ _
                    have o0 := O5.out.cell 0
                    have o1 := O5.out.cell 1
                    have o2 := O5.out.cell 2
                    have of := O5.out.frozen
                    simp only [List.getElem?_toArray, List.getElem?_cons_succ, List.getElem?_cons_zero] at o0 o1 o2
                    refine wpAnyH_ready (rs := [9]) (by kernel_rfl) (by simp) ?_
                    refine AllReadyH.cons rfl (fun K hK => ?_) AllReadyH.nil
                    go_simp
                    refine hK.out _ _ (by exact z5) (fun hHeld => ?_)
                    clear hK K
                    try simp only [Act.put, List.setIfInBounds_toArray, List.set_cons_zero, List.set_cons_succ, List.getElem_toArray, List.getElem_cons_succ, List.getElem_cons_zero]
                    refine wpAnyH_ready (rs := [10]) (by kernel_rfl) (by simp) ?_
                    refine AllReadyH.cons rfl (fun K hK => ?_) AllReadyH.nil
                    have z6 := KP.out _ (bl_set3N k5.out w3.heap.size (by omega) (.int .i64 kd) (.int .i64 ix) (.slice (some ⟨g, 0, none⟩) l.length cap))
                    go_simp
                    refine hK.out _ _ (by exact (by first | exact z6 | exact KP.out _ (k3.out.alloc k3.out.size _))) (fun hHeld => ?_)
                    clear hK K
                    try simp only [Act.put, List.setIfInBounds_toArray, List.set_cons_zero, List.set_cons_succ, List.getElem_toArray, List.getElem_cons_succ, List.getElem_cons_zero]
                    refine wpAnyH_done (by kernel_rfl) ?_ _
                    go_wp2_with fail
                    go_meet
                    first | exact kpL_firstN (by have := k3.out.size; omega) O5.out (by omega) (HO.out.alloc _) k5.out | exact kpL_last rfl HO.out k3.out
                  · have k5 := hide (k4.out.alloc k4.out.size (.cells #[.int .i64 0, .int .i64 0, .slice none 0 0] 27))
                    have b5 := hide (b4.out.alloc (.cells #[.int .i64 0, .int .i64 0, .slice none 0 0] 27))
                    have O5 : Hid (Blk ((wr.alloc (.cells #[] 27)).drew.alloc (.cells #[.int .i64 0, .int .i64 0, .slice none 0 0] 27)) (wr.heap.size + 1) #[.int .i64 0, .int .i64 0, .slice none 0 0] 27) := by have h := Blk.new (wr.alloc (.cells #[] 27)).drew #[.int .i64 0, .int .i64 0, .slice none 0 0] 27; rw [s4] at h; exact h
                    have s5 : ((wr.alloc (.cells #[] 27)).drew.alloc (.cells #[.int .i64 0, .int .i64 0, .slice none 0 0] 27)).heap.size = wr.heap.size + 2 := by simp
                    have z5 := KP.out _ k5.out
                    go_simp
                    refine hK.out _ _ (by exact z5) (fun hHeld => ?_)
                    clear hK K
                    try simp only [Act.put, List.setIfInBounds_toArray, List.set_cons_zero, List.set_cons_succ, List.getElem_toArray, List.getElem_cons_succ, List.getElem_cons_zero]
                    refine wpAnyH_ready (rs := [7]) (by kernel_rfl) (by simp) ?_
                    refine AllReadyH.cons rfl (fun K hK => ?_) AllReadyH.nil
                    obtain ⟨g, cap, w3, hrun, ho, hb3, hk3, hg3, hgl, hz3⟩ := cloneR (c := c) k5.out hbr HXL.out hl0 hl1 HX1.out HXC2.out (Nat.le_refl _) b5.out
                    have HRUN := hide hrun
                    have HO := hide ho
                    have k3 := hide hb3
                    have HK3' := hide hk3
                    have z3 := KP.out _ hb3
                    clear hrun ho hb3 hk3
                    refine step_append_eqM rfl _ _ _ _ rfl rfl rfl HRUN.out ?_
                    refine hK.out _ _ (by exact z3) (fun hHeld => ?_)
                    clear hK K
                    try simp only [Act.put, List.setIfInBounds_toArray, List.set_cons_zero, List.set_cons_succ, List.getElem_toArray, List.getElem_cons_succ, List.getElem_cons_zero]
                    refine wpAnyH_take (i := 8) (v := ?_) rfl (by kernel_rfl) (by kernel_rfl) (by kernel_rfl) (fun _ _ _ h => h) (Or.inl ⟨by rfl, ?_⟩) (by assumption) ?_
                    rotate_left
                    · intro w' hSw
                      go_simp <;> with_reducible rfl
                    try simp only [Act.put, List.setIfInBounds_toArray, List.set_cons_zero, List.set_cons_succ, List.getElem_toArray, List.getElem_cons_succ, List.getElem_cons_zero]
                    have OO := hide ((HK3'.out (wr.heap.size + 1) (by rw [s5]; omega) (by omega)).trans O5.out)
                    have o0 := Blk.cell OO.out 0
                    have o1 := Blk.cell OO.out 1
                    have o2 := Blk.cell OO.out 2
                    have of := Blk.frozen OO.out
                    simp only [List.getElem?_toArray, List.getElem?_cons_succ, List.getElem?_cons_zero] at o0 o1 o2
                    refine wpAnyH_ready (rs := [10]) (by kernel_rfl) (by simp) ?_
                    refine AllReadyH.cons rfl (fun K hK => ?_) AllReadyH.nil
                    have z6 := KP.out _ (bl_set3N k3.out (wr.heap.size + 1) (by omega) (.int .i64 kd) (.int .i64 ix) (.slice (some ⟨g, 0, none⟩) l.length cap))
                    go_simp
                    refine hK.out _ _ (by exact z6) (fun hHeld => ?_)
                    clear hK K
                    try simp only [Act.put, List.setIfInBounds_toArray, List.set_cons_zero, List.set_cons_succ, List.getElem_toArray, List.getElem_cons_succ, List.getElem_cons_zero]
                    refine wpAnyH_done (by kernel_rfl) ?_ _
                    go_wp2_with fail
                    go_meet
                    exact kpL_firstN (by omega) OO.out (by rw [s5] at hg3; omega) HO.out k3.out
                · have k4 : Hid (Below wr.heap.size wr (wr.alloc (.cells #[.int .i64 0, .int .i64 0, .slice none 0 0] 27)).drew) := ((Below.refl _ _).alloc (Nat.le_refl _) _).drew
                  have o4 : Hid (Blk (wr.alloc (.cells #[.int .i64 0, .int .i64 0, .slice none 0 0] 27)).drew wr.heap.size #[.int .i64 0, .int .i64 0, .slice none 0 0] 27) := (Blk.new wr _ 27).drewN 1
                  have s4 : (wr.alloc (.cells #[.int .i64 0, .int .i64 0, .slice none 0 0] 27)).drew.heap.size = wr.heap.size + 1 := by simp
                  have z4 := KP.out _ k4.out
                  go_simp
                  refine hK.out _ _ (by exact z4) (fun hHeld => ?_)
                  clear hK K
                  try simp only [Act.put, List.setIfInBounds_toArray, List.set_cons_zero, List.set_cons_succ, List.getElem_toArray, List.getElem_cons_succ, List.getElem_cons_zero]
                  have k5 := hide (k4.out.alloc k4.out.size (.cells #[] 27))
                  have O5 := hide (o4.out.alloc (.cells #[] 27))
                  have b5 : Hid (Blk ((wr.alloc (.cells #[.int .i64 0, .int .i64 0, .slice none 0 0] 27)).drew.alloc (.cells #[] 27)) (wr.heap.size + 1) #[] 27) := by have h := Blk.new (wr.alloc (.cells #[.int .i64 0, .int .i64 0, .slice none 0 0] 27)).drew #[] 27; rw [s4] at h; exact h
                  have s5 : ((wr.alloc (.cells #[.int .i64 0, .int .i64 0, .slice none 0 0] 27)).drew.alloc (.cells #[] 27)).heap.size = wr.heap.size + 2 := by simp
                  have z5 := KP.out _ k5.out
                  refine wpAnyH_ready (rs := [4]) (by kernel_rfl) (by simp) ?_
                  refine AllReadyH.cons rfl (fun K hK => ?_) AllReadyH.nil
                  go_simp
                  refine hK.out _ _ (by exact z5) (fun hHeld => ?_)
                  clear hK K
                  try simp only [Act.put, List.setIfInBounds_toArray, List.set_cons_zero, List.set_cons_succ, List.getElem_toArray, List.getElem_cons_succ, List.getElem_cons_zero]
                  refine wpAnyH_ready (rs := [7]) (by kernel_rfl) (by simp) ?_
                  refine AllReadyH.cons rfl (fun K hK => ?_) AllReadyH.nil
                  obtain ⟨g, cap, w3, hrun, ho, hb3, hk3, hg3, hgl, hz3⟩ := cloneR (c := c) k5.out hbr HXL.out hl0 hl1 HX1.out HXC2.out (Nat.le_succ _) b5.out
                  have HRUN := hide hrun
                  have HO := hide ho
                  have k3 := hide hb3
                  have HK3' := hide hk3
                  have z3 := KP.out _ hb3
                  clear hrun ho hb3 hk3
                  refine step_append_eqM rfl _ _ _ _ rfl rfl rfl HRUN.out ?_
                  refine hK.out _ _ (by exact z3) (fun hHeld => ?_)
                  clear hK K
                  try simp only [Act.put, List.setIfInBounds_toArray, List.set_cons_zero, List.set_cons_succ, List.getElem_toArray, List.getElem_cons_succ, List.getElem_cons_zero]
                  refine wpAnyH_take (i := 8) (v := ?_) rfl (by kernel_rfl) (by kernel_rfl) (by kernel_rfl) (fun _ _ _ h => h) (Or.inl ⟨by rfl, ?_⟩) (by assumption) ?_
                  rotate_left
                  · intro w' hSw
                    go_simp <;> with_reducible rfl
                  try simp only [Act.put, List.setIfInBounds_toArray, List.set_cons_zero, List.set_cons_succ, List.getElem_toArray, List.getElem_cons_succ, List.getElem_cons_zero]
                  have OO := hide ((HK3'.out (wr.heap.size) (by rw [s5]; omega) (by omega)).trans O5.out)
                  have o0 := Blk.cell OO.out 0
                  have o1 := Blk.cell OO.out 1
                  have o2 := Blk.cell OO.out 2
                  have of := Blk.frozen OO.out
                  simp only [List.getElem?_toArray, List.getElem?_cons_succ, List.getElem?_cons_zero] at o0 o1 o2
                  refine wpAnyH_ready (rs := [10]) (by kernel_rfl) (by simp) ?_
                  refine AllReadyH.cons rfl (fun K hK => ?_) AllReadyH.nil
                  have z6 := KP.out _ (bl_set3N k3.out (wr.heap.size) (by omega) (.int .i64 kd) (.int .i64 ix) (.slice (some ⟨g, 0, none⟩) l.length cap))
                  go_simp
                  refine hK.out _ _ (by exact z6) (fun hHeld => ?_)
                  clear hK K
                  try simp only [Act.put, List.setIfInBounds_toArray, List.set_cons_zero, List.set_cons_succ, List.getElem_toArray, List.getElem_cons_succ, List.getElem_cons_zero]
                  refine wpAnyH_done (by kernel_rfl) ?_ _
                  go_wp2_with fail
                  go_meet
                  exact kpL_firstN (by omega) OO.out (by rw [s5] at hg3; omega) HO.out k3.out
              case rest =>
                obtain ⟨G, O, cap, rfl, hG3, hO3, hGO, hBO, hown, hbw⟩ := hcut
                obtain ⟨cur, hGb, hcur, hcx, hcap⟩ : ∃ cur : Array Value, Blk wc G cur 27 ∧ cur.size = cap * 3 ∧ cur.toList.take (l.length * 3) = xr ∧ l.length ≤ cap := by
                  rcases hown.2 with ⟨h1, _⟩ | ⟨g, cap', cur, hv, _, hh, hnc, _, hz, ht⟩
                  · cases h1
                  · simp at hv
                    obtain ⟨rfl, rfl⟩ := hv
                    exact ⟨cur, hh, hz, ht, hnc⟩
                obtain ⟨y0, hy0⟩ : ∃ y, cur[q * 3]? = some y := ⟨_, Array.getElem?_eq_getElem (by omega)⟩
                obtain ⟨y1, hy1⟩ : ∃ y, cur[q * 3 + 1]? = some y := ⟨_, Array.getElem?_eq_getElem (by omega)⟩
                obtain ⟨y2, hy2⟩ : ∃ y, cur[q * 3 + 2]? = some y := ⟨_, Array.getElem?_eq_getElem (by omega)⟩
                have g0 : wc.cell? ⟨G, q * 3, none⟩ = some y0 := (hGb.cell (q * 3)).trans hy0
                have g1 : wc.cell? ⟨G, q * 3 + 1, none⟩ = some y1 := (hGb.cell (q * 3 + 1)).trans hy1
                have g2 : wc.cell? ⟨G, q * 3 + 2, none⟩ = some y2 := (hGb.cell (q * 3 + 2)).trans hy2
                have gf := hGb.frozen
                have hzc := hbw.size
                have hb5l : b5 < wr.heap.size := cell_ltM HE6.out.1
                have o2 : wc.cell? ⟨O, 2, none⟩ = some (.slice (some ⟨G, 0, none⟩) l.length cap) := hBO.cell 2
                have i0 : wc.cell? ⟨b5, o5 + j * 3, none⟩ = some (.int .i64 (stsT n l[q])[j].kind) := (hbw.cell (p := ⟨b5, o5 + j * 3, none⟩) hb5l).trans HE6.out.1
                have i1 : wc.cell? ⟨b5, o5 + j * 3 + 1, none⟩ = some (.int .i64 (stsT n l[q])[j].idx) := (hbw.cell (p := ⟨b5, o5 + j * 3 + 1, none⟩) hb5l).trans HE6.out.2.1
                have i2 : wc.cell? ⟨b5, o5 + j * 3 + 2, none⟩ = some (.slice a6 (stsT n l[q])[j].subs.length c6) := (hbw.cell (p := ⟨b5, o5 + j * 3 + 2, none⟩) hb5l).trans HE6.out.2.2
                have nO : O ≠ G := fun e => hGO e.symm
                have nb : b5 ≠ G := by omega
                have hSS : SlM wc (fun b => ((X b ∧ b < w.heap.size) ∨ (wa.heap.size ≤ b ∧ b < w5.heap.size)) ∧ b < wr.heap.size) a6 (stsT n l[q])[j].subs := by
                  obtain ⟨p1, p2, e', h'⟩ := HX6.out
                  simp at e'
                  obtain ⟨rfl, rfl⟩ := e'
                  exact (h'.mono (Y := fun b => ((X b ∧ b < w.heap.size) ∨ (wa.heap.size ≤ b ∧ b < w5.heap.size)) ∧ b < wr.heap.size) fun b h1 h2 => ⟨h1, h2⟩).later hbw
                have FIN := kputM_fin (X := fun b => ((X b ∧ b < w.heap.size) ∨ (wa.heap.size ≤ b ∧ b < w5.heap.size)) ∧ b < wr.heap.size) (c9 := c6) (k := q) (l := l) (y := (stsT n l[q])[j]) (fun b hb => by omega) hlt (by omega) (HRT.out.imp fun a kk hs => ((hs.later XE2.out).later hbw).mono fun b h _ => ⟨Or.inl h, by have := h.2; omega⟩) hcx hGb hSS
                have OB := ((hBO.setOther (q * 3) (.int .i64 (stsT n l[q])[j].kind) nO).setOther (q * 3 + 1) (.int .i64 (stsT n l[q])[j].idx) nO).setOther (q * 3 + 2) (.slice a6 (stsT n l[q])[j].subs.length c6) nO
                have hb9 : Below wr.heap.size wr (((wc.setCell ⟨G, q * 3, none⟩ (.int .i64 (stsT n l[q])[j].kind)).setCell ⟨G, q * 3 + 1, none⟩ (.int .i64 (stsT n l[q])[j].idx)).setCell ⟨G, q * 3 + 2, none⟩ (.slice a6 (stsT n l[q])[j].subs.length c6)) := ((hbw.setCell (p := ⟨G, q * 3, none⟩) (by simp; omega) _).setCell (p := ⟨G, q * 3 + 1, none⟩) (by simp; omega) _).setCell (p := ⟨G, q * 3 + 2, none⟩) (by simp; omega) _
                have HTN : Hid ((stsT n l[q]).take (j + 1) = (stsT n l[q]).take j ++ [(stsT n l[q])[j]]) := List.take_succ_eq_append_getElem hlt3
                obtain ⟨Yj, hYj⟩ : ∃ Yj, Yj = (stsT n l[q])[j] := ⟨_, rfl⟩
                rw [← hYj] at i0 i1 i2 hSS FIN OB hb9 HTN
                have HFIN := hide FIN
                have HOB := hide OB
                have HB9 := hide hb9
                have HSF := hide (And.intro o2 (And.intro i0 (And.intro i1 i2)))
                clear hYj hy0 hy1 hy2 hcur hcx hGb hown hBO FIN OB hb9 hSS HE6 HX6
                go_upto_region 12 with fail
                have z12 := And.intro (setG_keep (G := G) (i0 := q * 3) (i1 := q * 3 + 1) (i2 := q * 3 + 2) (u := .int .i64 Yj.kind) (u' := .int .i64 Yj.idx) (u'' := .slice a6 Yj.subs.length c6) HSF.out.1 nO) (And.intro (setG_keep (G := G) (i0 := q * 3) (i1 := q * 3 + 1) (i2 := q * 3 + 2) (u := .int .i64 Yj.kind) (u' := .int .i64 Yj.idx) (u'' := .slice a6 Yj.subs.length c6) HSF.out.2.1 nb) (And.intro (setG_keep (G := G) (i0 := q * 3) (i1 := q * 3 + 1) (i2 := q * 3 + 2) (u := .int .i64 Yj.kind) (u' := .int .i64 Yj.idx) (u'' := .slice a6 Yj.subs.length c6) HSF.out.2.2.1 nb) (setG_keep (G := G) (i0 := q * 3) (i1 := q * 3 + 1) (i2 := q * 3 + 2) (u := .int .i64 Yj.kind) (u' := .int .i64 Yj.idx) (u'' := .slice a6 Yj.subs.length c6) HSF.out.2.2.2 nb)))
                refine wp_region_held_drew (S := (fun w' => w'.cell? ⟨O, 2, none⟩ = some (.slice (some ⟨G, 0, none⟩) l.length cap) ∧ w'.cell? ⟨b5, o5 + j * 3, none⟩ = some (.int .i64 Yj.kind) ∧ w'.cell? ⟨b5, o5 + j * 3 + 1, none⟩ = some (.int .i64 Yj.idx) ∧ w'.cell? ⟨b5, o5 + j * 3 + 2, none⟩ = some (.slice a6 Yj.subs.length c6))) (by kernel_rfl) HSF.out (fun hHeld => ?_)
                refine wpAnyH_take (i := 0) (v := ?_) rfl (by kernel_rfl) (by kernel_rfl) (by kernel_rfl) (fun _ _ _ h => h) (Or.inl ⟨by rfl, ?_⟩) (by assumption) ?_
                rotate_left
                · intro w' hSw
                  have e0 := hSw.1
                  have e1 := hSw.2.1
                  have e2 := hSw.2.2.1
                  have e3 := hSw.2.2.2
                  go_simp <;> with_reducible rfl
                try simp only [Act.put, List.setIfInBounds_toArray, List.set_cons_zero, List.set_cons_succ, List.getElem_toArray, List.getElem_cons_succ, List.getElem_cons_zero]
                refine wpAnyH_take (i := 1) (v := ?_) rfl (by kernel_rfl) (by kernel_rfl) (by kernel_rfl) (fun _ _ _ h => h) (Or.inl ⟨by rfl, ?_⟩) (by assumption) ?_
                rotate_left
                · intro w' hSw
                  have e0 := hSw.1
                  have e1 := hSw.2.1
                  have e2 := hSw.2.2.1
                  have e3 := hSw.2.2.2
                  go_simp <;> with_reducible rfl
                try simp only [Act.put, List.setIfInBounds_toArray, List.set_cons_zero, List.set_cons_succ, List.getElem_toArray, List.getElem_cons_succ, List.getElem_cons_zero]
                refine wpAnyH_take (i := 2) (v := ?_) rfl (by kernel_rfl) (by kernel_rfl) (by kernel_rfl) (fun _ _ _ h => h) (Or.inl ⟨by rfl, ?_⟩) (by assumption) ?_
                rotate_left
                · intro w' hSw
                  have e0 := hSw.1
                  have e1 := hSw.2.1
                  have e2 := hSw.2.2.1
                  have e3 := hSw.2.2.2
                  go_simp <;> with_reducible rfl
                try simp only [Act.put, List.setIfInBounds_toArray, List.set_cons_zero, List.set_cons_succ, List.getElem_toArray, List.getElem_cons_succ, List.getElem_cons_zero]
                refine wpAnyH_take (i := 3) (v := ?_) rfl (by kernel_rfl) (by kernel_rfl) (by kernel_rfl) (fun _ _ _ h => h) (Or.inl ⟨by rfl, ?_⟩) (by assumption) ?_
                rotate_left
                · intro w' hSw
                  have e0 := hSw.1
                  have e1 := hSw.2.1
                  have e2 := hSw.2.2.1
                  have e3 := hSw.2.2.2
                  go_simp <;> with_reducible rfl
                try simp only [Act.put, List.setIfInBounds_toArray, List.set_cons_zero, List.set_cons_succ, List.getElem_toArray, List.getElem_cons_succ, List.getElem_cons_zero]
                refine wpAnyH_take (i := 4) (v := ?_) rfl (by kernel_rfl) (by kernel_rfl) (by kernel_rfl) (fun _ _ _ h => h) (Or.inl ⟨by rfl, ?_⟩) (by assumption) ?_
                rotate_left
                · intro w' hSw
                  have e0 := hSw.1
                  have e1 := hSw.2.1
                  have e2 := hSw.2.2.1
                  have e3 := hSw.2.2.2
                  go_simp <;> with_reducible rfl
                try simp only [Act.put, List.setIfInBounds_toArray, List.set_cons_zero, List.set_cons_succ, List.getElem_toArray, List.getElem_cons_succ, List.getElem_cons_zero]
                refine wpAnyH_take (i := 5) (v := ?_) rfl (by kernel_rfl) (by kernel_rfl) (by kernel_rfl) (fun _ _ _ h => h) (Or.inl ⟨by rfl, ?_⟩) (by assumption) ?_
                rotate_left
                · intro w' hSw
                  have e0 := hSw.1
                  have e1 := hSw.2.1
                  have e2 := hSw.2.2.1
                  have e3 := hSw.2.2.2
                  go_simp <;> with_reducible rfl
                try simp only [Act.put, List.setIfInBounds_toArray, List.set_cons_zero, List.set_cons_succ, List.getElem_toArray, List.getElem_cons_succ, List.getElem_cons_zero]
                refine wpAnyH_take (i := 6) (v := ?_) rfl (by kernel_rfl) (by kernel_rfl) (by kernel_rfl) (fun _ _ _ h => h) (Or.inl ⟨by rfl, ?_⟩) (by assumption) ?_
                rotate_left
                · intro w' hSw
                  have e0 := hSw.1
                  have e1 := hSw.2.1
                  have e2 := hSw.2.2.1
                  have e3 := hSw.2.2.2
                  go_simp <;> with_reducible rfl
                try simp only [Act.put, List.setIfInBounds_toArray, List.set_cons_zero, List.set_cons_succ, List.getElem_toArray, List.getElem_cons_succ, List.getElem_cons_zero]
                refine wpAnyH_take (i := 7) (v := ?_) rfl (by kernel_rfl) (by kernel_rfl) (by kernel_rfl) (fun _ _ _ h => h) (Or.inl ⟨by rfl, ?_⟩) (by assumption) ?_
                rotate_left
                · intro w' hSw
                  have e0 := hSw.1
                  have e1 := hSw.2.1
                  have e2 := hSw.2.2.1
                  have e3 := hSw.2.2.2
                  go_simp <;> with_reducible rfl
                try simp only [Act.put, List.setIfInBounds_toArray, List.set_cons_zero, List.set_cons_succ, List.getElem_toArray, List.getElem_cons_succ, List.getElem_cons_zero]
                refine wpAnyH_ready (rs := [8]) (by kernel_rfl) (by simp) ?_
                refine AllReadyH.cons rfl (fun K hK => ?_) AllReadyH.nil
                go_simp
                refine hK.out _ _ (by exact z12) (fun hHeld => ?_)
                clear hK K
                try simp only [Act.put, List.setIfInBounds_toArray, List.set_cons_zero, List.set_cons_succ, List.getElem_toArray, List.getElem_cons_succ, List.getElem_cons_zero]
                refine wpAnyH_done (by kernel_rfl) ?_ _
                clear z12
                have HXX : Hid (SlM (((wc.setCell ⟨G, q * 3, none⟩ (.int .i64 Yj.kind)).setCell ⟨G, q * 3 + 1, none⟩ (.int .i64 Yj.idx)).setCell ⟨G, q * 3 + 2, none⟩ (.slice a6 Yj.subs.length c6)).drew (fun b => (X b ∧ b < w.heap.size) ∨ (w.heap.size + 1 ≤ b ∧ some b ≠ u3.ownBlock)) (some ⟨G, 0, none⟩) (l.set q Yj)) := (HFIN.out.later ((Below.refl _ _).drew)).mono fun b hb _ => by
                  rcases hb with hb | rfl
                  · rcases hb.1 with h | h
                    · exact Or.inl h
                    · refine Or.inr ⟨by omega, fun e => ?_⟩
                      have := XO2.out b e.symm
                      omega
                  · refine Or.inr ⟨by omega, fun e => ?_⟩
                    have := (XW2.out.own.lt b e.symm).2
                    omega
                have HOB9 := hide (HOB.out.drewN 1)
                have HB99 := hide HB9.out.drew
                have x0 : (((wc.setCell ⟨G, q * 3, none⟩ (.int .i64 Yj.kind)).setCell ⟨G, q * 3 + 1, none⟩ (.int .i64 Yj.idx)).setCell ⟨G, q * 3 + 2, none⟩ (.slice a6 Yj.subs.length c6)).drew.cell? ⟨O, 0, none⟩ = some (.int .i64 kd) := HOB9.out.cell 0
                have x1 : (((wc.setCell ⟨G, q * 3, none⟩ (.int .i64 Yj.kind)).setCell ⟨G, q * 3 + 1, none⟩ (.int .i64 Yj.idx)).setCell ⟨G, q * 3 + 2, none⟩ (.slice a6 Yj.subs.length c6)).drew.cell? ⟨O, 1, none⟩ = some (.int .i64 ix) := HOB9.out.cell 1
                have x2 : (((wc.setCell ⟨G, q * 3, none⟩ (.int .i64 Yj.kind)).setCell ⟨G, q * 3 + 1, none⟩ (.int .i64 Yj.idx)).setCell ⟨G, q * 3 + 2, none⟩ (.slice a6 Yj.subs.length c6)).drew.cell? ⟨O, 2, none⟩ = some (.slice (some ⟨G, 0, none⟩) l.length cap) := HOB9.out.cell 2
                clear HFIN HOB HB9
                generalize (((wc.setCell ⟨G, q * 3, none⟩ (.int .i64 Yj.kind)).setCell ⟨G, q * 3 + 1, none⟩ (.int .i64 Yj.idx)).setCell ⟨G, q * 3 + 2, none⟩ (.slice a6 Yj.subs.length c6)).drew = w9 at *
                obtain ⟨g, cap9, w10, zs10, hrun, hrow10, hb10, hk10, hg10, hz10⟩ := rowM_appendG (c1 := cap) (t := ⟨kd, ix, l.set q Yj⟩) XW2.out (by omega) (fun b h => by omega) (by have := HLEN.out; simp only [List.length_append, List.length_map, List.length_take]; omega) HB99.out HXX.out w9.heap.size rfl
                simp only [List.length_set] at hrun
                obtain ⟨nl, hnl⟩ : ∃ nl, nl = (zs (hndH ⟨kd, ix, l⟩ ++ hndR (hndT n) kd ix l q) ++ ((stsT n l[q]).take j).map fun y => (⟨kd, ix, l.set q y⟩ : Lm)).length := ⟨_, rfl⟩
                rw [← hnl] at hrun hrow10
                clear hnl
                have HRUN := hide hrun
                have HRW : Hid (RowM w10 (w.heap.size + 1) 27 (fun b => X b ∧ b < w.heap.size) (.slice (some ⟨g, 0, none⟩) (nl + 1) cap9) (zs (hndH ⟨kd, ix, l⟩ ++ hndR (hndT n) kd ix l q) ++ ((stsT n l[q]).take (j + 1)).map fun y => (⟨kd, ix, l.set q y⟩ : Lm)) zs10) := by
                  unfold Hid
                  rw [HTN.out, List.map_append, ← List.append_assoc]
                  exact hrow10
                have HB10 := hide (XB2.out.trans hb10)
                have HS10 : Hid (SlM w10 (fun b => (X b ∧ b < w.heap.size) ∨ (wa.heap.size ≤ b ∧ b < w5.heap.size)) (some ⟨b5, o5, none⟩) (stsT n l[q])) := ((XS2.out.mono (Y := fun b => ((X b ∧ b < w.heap.size) ∨ (wa.heap.size ≤ b ∧ b < w5.heap.size)) ∧ b < wr.heap.size) fun b h1 h2 => ⟨h1, h2⟩).kept fun b hb => by
                  refine (hk10 b (by have := HB99.out.size; omega) fun e => ?_).trans (HB99.out.block b hb.2)
                  have h1 := XO2.out b e.symm
                  have h2 := (XW2.out.own.lt b e.symm).1
                  rcases hb.1 with h | h <;> omega).mono fun b h _ => h.1
                have HO10 : Hid (∀ g', (Value.slice (some ⟨g, 0, none⟩) (nl + 1) cap9).ownBlock = some g' → g' < wa.heap.size ∨ w5.heap.size ≤ g') := fun g' hg' => by
                  simp [Value.ownBlock] at hg'
                  subst hg'
                  rcases hg10 with h | h
                  · exact XO2.out g h
                  · right; have := HB99.out.size; omega
                clear hrun hrow10 hb10 hk10 hg10 g0 g1 g2 gf o2 i0 i1 i2
                have hjb : j ≤ 4000 := by have := HLEN.out.2; omega
                go_wp2_with (at_builtin; refine wpList_append_eq rfl _ _ _ _ rfl rfl rfl HRUN.out ?_)
                go_roundw
                case rel => exact ⟨j + 1, zs10, by omega, by go_num, HRW.out, HB10.out, HS10.out, HO10.out, by have := HB99.out.size; omega⟩
                case measure => simp [intOf]; omega
            · have htk : (stsT n l[q]).take j = stsT n l[q] := List.take_of_length_le (by omega)
              have HRW : Hid (RowM wr (w.heap.size + 1) 27 (fun b => X b ∧ b < w.heap.size) u3 (zs (hndH ⟨kd, ix, l⟩ ++ hndR (hndT n) kd ix l (q + 1))) ys) := by
                unfold Hid
                rw [HSUC.out, ← List.append_assoc, zs_append, zs_wrap]
                have h := XW2.out
                rw [htk] at h
                exact h
              have hge : ¬ ((j : Int) < ((stsT n l[q]).length : Int)) := by omega
              have hqb : q ≤ 4000 := by omega
              clear htk
              go_wp2_with fail
              go_roundw
              case rel => exact ⟨q + 1, ys, by omega, by go_num, HRW.out, XB2.out⟩
              case measure => simp [intOf]; omega
        · have htk : q = l.length := by omega
          have hge : ¬ ((q : Int) < (l.length : Int)) := by omega
          obtain ⟨ae, ce, hse0, hse⟩ := XW.out.sl
          have HST : Hid (zs (hndH ⟨kd, ix, l⟩ ++ hndR (hndT n) kd ix l q) = stsT (n + 1) ⟨kd, ix, l⟩) := by
            unfold Hid stsT
            rw [htk, hndT]
            rfl
          have HSE : Hid (SlM wa (fun b => (X b ∧ b < w.heap.size) ∨ w.heap.size ≤ b) ae (stsT (n + 1) ⟨kd, ix, l⟩)) := by
            unfold Hid
            rw [← HST.out]
            exact hse.mono fun b h _ => h.imp id fun h => by omega
          rw [HST.out] at hse0
          have HV0 := hide hse0
          clear htk hse hse0
          go_wp2_with fail
          go_ret
          exact ⟨ae, ce, congrArg Ending.returned HV0.out, HSE.out, XE.out⟩
#print axioms lamSteps_at
end Go.Proofs.Ytoakclalhfngpaa
