/- Walks: the document's outermost step. -/
import Derived.Test.YtaifameeoipjjaaLn4
import Derived.Test.YtaifameeoipjjaaL13
namespace Go.Proofs.Ytaifameeoipjjaa
open Go.RowKit
set_option linter.unusedSimpArgs false
set_option linter.unusedVariables false
set_option maxRecDepth 8000

theorem repF_append (f : Lm → Lm) : ∀ a b : List Lm, repF f (a ++ b) = if stepM a = true then repF f a ++ b else a ++ repF f b
  | [], b => by simp [stepM]
  | y :: r, b => by
    have e : stepM (y :: r) = (stepM [y] || stepM r) := stepM_append [y] r
    rw [List.cons_append]
    cases h : stepM [y] with
    | true => rw [e, h]; simp [repF, h]
    | false =>
      rw [e, h, Bool.false_or]
      rw [repF, h, if_neg (by simp), repF_append f r b]
      by_cases h2 : stepM r = true
      · rw [if_pos h2, if_pos h2, repF, h, if_neg (by simp)]; rfl
      · rw [if_neg h2, if_neg h2]; rfl
theorem repF_take (f : Lm → Lm) (l : List Lm) (k : Nat) (h : k < l.length) : repF f (l.take (k + 1)) = repF f (l.take k) ++ [if stepM (l.take k) = false ∧ stepM [l[k]] = true then f l[k] else l[k]] := by
  rw [List.take_succ_eq_append_getElem h, repF_append]
  cases h1 : stepM (l.take k) with
  | true => simp
  | false =>
    rw [if_neg (by simp), repF_none f _ h1]
    cases h2 : stepM [l[k]] with
    | true => simp [repF, h2]
    | false => simp [repF, h2]
theorem LmSet.later {w wr w' : World} {Y : Nat → Prop} {O n c : Nat} {kd ix : Int} {a : Option Addr} {u : Value} {L : List Lm} (h : LmSet w Y O kd ix a n c u L wr) (hb : Below wr.heap.size wr w') : LmSet w Y O kd ix a n c u L w' := by
  obtain ⟨xs, h1, h2, h3, h4, h5, h6⟩ := h
  exact ⟨xs, h1.below hb, h2.trans (hb.mono h2.size), h3.below hb h3.lt, h4.below hb h4.lt, h5.below hb h5.lt, by have := hb.size; omega⟩
theorem LmSet.row {w wr : World} {Y : Nat → Prop} {O n c : Nat} {kd ix : Int} {a : Option Addr} {u : Value} {L : List Lm} (h : LmSet w Y O kd ix a n c u L wr) : Blk wr O #[.int .i64 kd, .int .i64 ix, u] 24 := by
  obtain ⟨xs, h1, h2, h3, h4, h5, h6⟩ := h
  exact h5
theorem LmSet.top {w wr : World} {Y : Nat → Prop} {O n c : Nat} {kd ix : Int} {a : Option Addr} {u : Value} {L : List Lm} (h : LmSet w Y O kd ix a n c u L wr) : Blk wr w.heap.size #[.int .i64 kd, .int .i64 ix, .slice a n c] 24 := by
  obtain ⟨xs, h1, h2, h3, h4, h5, h6⟩ := h
  exact h3

set_option maxHeartbeats 8000000 in
theorem lamStep_any (n : Nat) : ∀ (t : Lm) (u : Int) (v : Value) (w : World) (X : Nat → Prop), sizeM [t] ≤ n → GdM u t → stepM [t] = true → MV w X v t →
    Calls Try.prog 14 #[v, .bool false] w fun e w' => LmPost w X (stpT false n t) e w' := by
  induction n with
  | zero => intro t u v w X h; have := sizeM_posL t; omega
  | succ n ih =>
    intro t u v w X hn hg hstp hv
    have IH := hide ih
    clear ih
    obtain ⟨kd, ix, l⟩ := t
    obtain ⟨a, c, rfl, hs⟩ := hv
    dsimp only at hs ⊢
    have hsz : sizeM [(⟨kd, ix, l⟩ : Lm)] = 1 + sizeM l := sizeM_one kd ix l
    have hsh : ShM [(⟨kd, ix, l⟩ : Lm)] := sh_of_err _ _ _ hg.2.2.1.choose_spec.1
    have hl9 := hs.1
    have HR : Hid (hereT false ⟨kd, ix, l⟩ = rdxT ⟨kd, ix, l⟩) := by unfold Hid hereT; simp
    have B2 : Hid (Below w.heap.size w ((w.alloc (.cells #[.int .i64 kd, .int .i64 ix, .slice a l.length c] 24)).alloc (.cells #[.int .i64 0, .int .i64 0, .slice none 0 0] 24))) := below2M _ _
    have T2 : Hid (Blk ((w.alloc (.cells #[.int .i64 kd, .int .i64 ix, .slice a l.length c] 24)).alloc (.cells #[.int .i64 0, .int .i64 0, .slice none 0 0] 24)) w.heap.size #[.int .i64 kd, .int .i64 ix, .slice a l.length c] 24) := (Blk.new w _ _).alloc _
    have R2 : Hid (Blk ((w.alloc (.cells #[.int .i64 kd, .int .i64 ix, .slice a l.length c] 24)).alloc (.cells #[.int .i64 0, .int .i64 0, .slice none 0 0] 24)) (w.heap.size + 1) #[.int .i64 0, .int .i64 0, .slice none 0 0] 24) := by
      have h := Blk.new (w.alloc (.cells #[.int .i64 kd, .int .i64 ix, .slice a l.length c] 24)) #[.int .i64 0, .int .i64 0, .slice none 0 0] 24
      rw [World.size_alloc] at h
      exact h
    have h3k : kd = 3 → l ≠ [] := fun h3 e => by
      have := ((ShM_cons kd ix l []).1 hsh).1
      rw [h3, e] at this
      simp [subsK] at this
    have HRED := hide (isRedex_any ⟨kd, ix, l⟩ (.agg #[.int .i64 kd, .int .i64 ix, .slice a l.length c]) ((w.alloc (.cells #[.int .i64 kd, .int .i64 ix, .slice a l.length c] 24)).alloc (.cells #[.int .i64 0, .int .i64 0, .slice none 0 0] 24)) X ⟨a, c, rfl, hs.later B2.out⟩ h3k)
    have HS := hide hs
    clear hs
    cases hrd : rdxT ⟨kd, ix, l⟩ with
    | true =>
      rw [hrd] at HRED
      obtain ⟨x', fi, q, z, e, hq, hzz⟩ := subs_two hg.2.2.1.choose_spec.1 hrd
      have HH : Hid (hereT false ⟨kd, ix, l⟩ = true) := by unfold Hid; rw [HR.out, hrd]
      simp only [Lm.mk.injEq] at e
      obtain ⟨rfl, rfl, rfl⟩ := e
      have HT : Hid (stpT false (n + 1) ⟨3, ix, [⟨2, fi, [q]⟩, z]⟩ = insT z 0 q) := by unfold Hid; rw [stpT, if_pos HH.out]; rfl
      rw [HT.out]
      obtain ⟨B, o, a1, c1, a2, c2, rfl, hXB, d0, d1, d2, d3, d4, d5, hs1, hs2⟩ := slM_cells HS.out
      obtain ⟨B1, o1, a3, c3, rfl, hXB1, g0, g1, g2, hs3⟩ := slM_one hs1
      have hgf : GdM u ⟨2, fi, [q]⟩ := by have := hg.subs (y := ⟨2, fi, [q]⟩) (by simp); simpa [deepK] using this
      have hgz : GdM u z := by have := hg.subs (y := z) (by simp); simpa [deepK] using this
      have hgb : GdM (u + 1) q := by have := hgf.subs (y := q) (by simp); simpa [deepK] using this
      have hBw : B < w.heap.size := cell_ltM d0
      have hB1w : B1 < w.heap.size := cell_ltM g0
      have CS : Hid (∀ w', Below w.heap.size w w' → w'.cell? ⟨w.heap.size, 2, none⟩ = some (.slice (some ⟨B, o, none⟩) 2 c) → w'.cell? ⟨w.heap.size, 2, none⟩ = some (.slice (some ⟨B, o, none⟩) 2 c) ∧ w'.cell? ⟨B, o + 2, none⟩ = some (.slice (some ⟨B1, o1, none⟩) 1 c1) ∧ w'.cell? ⟨B, o + 3, none⟩ = some (.int .i64 z.kind) ∧ w'.cell? ⟨B, o + 4, none⟩ = some (.int .i64 z.idx) ∧ w'.cell? ⟨B, o + 5, none⟩ = some (.slice a2 z.subs.length c2) ∧ w'.cell? ⟨B1, o1, none⟩ = some (.int .i64 q.kind) ∧ w'.cell? ⟨B1, o1 + 1, none⟩ = some (.int .i64 q.idx) ∧ w'.cell? ⟨B1, o1 + 2, none⟩ = some (.slice a3 q.subs.length c3)) := fun w' hb h => ⟨h, (hb.cell (p := ⟨B, o + 2, none⟩) hBw).trans d2, (hb.cell (p := ⟨B, o + 3, none⟩) hBw).trans d3, (hb.cell (p := ⟨B, o + 4, none⟩) hBw).trans d4, (hb.cell (p := ⟨B, o + 5, none⟩) hBw).trans d5, (hb.cell (p := ⟨B1, o1, none⟩) hB1w).trans g0, (hb.cell (p := ⟨B1, o1 + 1, none⟩) hB1w).trans g1, (hb.cell (p := ⟨B1, o1 + 2, none⟩) hB1w).trans g2⟩
      have BE : Hid (∀ w', Below w.heap.size w w' → Calls Try.prog 26 #[.agg #[.int .i64 q.kind, .int .i64 q.idx, .slice a3 q.subs.length c3], .agg #[.int .i64 z.kind, .int .i64 z.idx, .slice a2 z.subs.length c2]] w' fun e w'' => ∃ a5 c5, e = .returned (.agg #[.int .i64 (insT z 0 q).kind, .int .i64 (insT z 0 q).idx, .slice a5 (insT z 0 q).subs.length c5]) ∧ SlM w'' (fun b => (X b ∧ b < w.heap.size) ∨ w'.heap.size ≤ b) a5 (insT z 0 q).subs ∧ Below w'.heap.size w' w'') := fun w' hb => by
        refine (beta_any q z _ _ w' (fun b => X b ∧ b < w.heap.size) ⟨a3, c3, rfl, (hs3.mono (Y := fun b => X b ∧ b < w.heap.size) fun b h1 h2 => ⟨h1, h2⟩).later hb⟩ ⟨a2, c2, rfl, (hs2.mono (Y := fun b => X b ∧ b < w.heap.size) fun b h1 h2 => ⟨h1, h2⟩).later hb⟩ (by have := hgb.2.2.2; omega) (bnd_of_err _ _ _ hgb.1 (by have := hgb.2.1; omega) (by have := hgb.2.2.1.choose_spec.2; omega) hgb.2.2.1.choose_spec.1) (by have := hgz.2.2.2; omega) (bnd_of_err _ _ _ hgz.1 (by have := hgz.2.1; omega) (by have := hgz.2.2.1.choose_spec.2; omega) hgz.2.2.1.choose_spec.1)).mono ?_
        rintro e w'' ⟨a5, c5, rfl, h5, h6⟩
        exact ⟨a5, c5, rfl, h5.mono fun b h _ => h.imp And.left id, h6⟩
      clear d0 d1 d2 d3 d4 d5 g0 g1 g2 hs1 hs2 hs3 hgf hgz hgb hXB hXB1 hq hzz hstp hsh h3k hg hrd
      simp only [List.length_cons, List.length_nil, Nat.zero_add, Nat.reduceAdd] at *
      go_enter Try.func14, Try.ntmps14
      go_wp2_with fail
      refine HRED.out.mono ?_
      rintro e w1 ⟨rfl, hb1⟩
      have hz2 : (((w.alloc (.cells #[.int .i64 3, .int .i64 ix, .slice (some ⟨B, o, none⟩) 2 c] 24)).alloc (.cells #[.int .i64 0, .int .i64 0, .slice none 0 0] 24))).heap.size = w.heap.size + 2 := by simp
      have B1' := hide (B2.out.trans (hb1.mono (by omega)))
      have T1 := hide (T2.out.below hb1 (by omega))
      have R1 := hide (R2.out.below hb1 (by omega))
      have hw1 : w.heap.size + 2 ≤ w1.heap.size := by have := hb1.size; omega
      clear hb1 hz2 HRED
      go_wp2_with fail
      have KP : Hid (∀ w', Below w1.heap.size w1 w' → w'.cell? ⟨w.heap.size, 2, none⟩ = some (.slice (some ⟨B, o, none⟩) 2 c) ∧ w'.cell? ⟨B, o + 2, none⟩ = some (.slice (some ⟨B1, o1, none⟩) 1 c1) ∧ w'.cell? ⟨B, o + 3, none⟩ = some (.int .i64 z.kind) ∧ w'.cell? ⟨B, o + 4, none⟩ = some (.int .i64 z.idx) ∧ w'.cell? ⟨B, o + 5, none⟩ = some (.slice a2 z.subs.length c2) ∧ w'.cell? ⟨B1, o1, none⟩ = some (.int .i64 q.kind) ∧ w'.cell? ⟨B1, o1 + 1, none⟩ = some (.int .i64 q.idx) ∧ w'.cell? ⟨B1, o1 + 2, none⟩ = some (.slice a3 q.subs.length c3)) := fun w' hb => CS.out w' (B1'.out.trans (hb.mono (by omega))) ((T1.out.below hb (by omega)).cell 2)
      have HSS := hide (KP.out _ (Below.refl _ _))
      have HSX : Hid (∀ w9 x0 x1 x2, Below w1.heap.size w1 w9 → (fun w' => w'.cell? ⟨w.heap.size, 2, none⟩ = some (.slice (some ⟨B, o, none⟩) 2 c) ∧ w'.cell? ⟨B, o + 2, none⟩ = some (.slice (some ⟨B1, o1, none⟩) 1 c1) ∧ w'.cell? ⟨B, o + 3, none⟩ = some (.int .i64 z.kind) ∧ w'.cell? ⟨B, o + 4, none⟩ = some (.int .i64 z.idx) ∧ w'.cell? ⟨B, o + 5, none⟩ = some (.slice a2 z.subs.length c2) ∧ w'.cell? ⟨B1, o1, none⟩ = some (.int .i64 q.kind) ∧ w'.cell? ⟨B1, o1 + 1, none⟩ = some (.int .i64 q.idx) ∧ w'.cell? ⟨B1, o1 + 2, none⟩ = some (.slice a3 q.subs.length c3)) (((w9.setCell ⟨w.heap.size + 1, 0, none⟩ x0).setCell ⟨w.heap.size + 1, 1, none⟩ x1).setCell ⟨w.heap.size + 1, 2, none⟩ x2)) := fun w9 x0 x1 x2 hb => by
        have k := KP.out w9 hb
        have nB : B ≠ w.heap.size + 1 := by omega
        have nB1 : B1 ≠ w.heap.size + 1 := by omega
        have nT : w.heap.size ≠ w.heap.size + 1 := by omega
        have kp : ∀ (b i : Nat) (v : Value), b ≠ w.heap.size + 1 → w9.cell? ⟨b, i, none⟩ = some v → (((w9.setCell ⟨w.heap.size + 1, 0, none⟩ x0).setCell ⟨w.heap.size + 1, 1, none⟩ x1).setCell ⟨w.heap.size + 1, 2, none⟩ x2).cell? ⟨b, i, none⟩ = some v := fun b i v hne h => by
          refine cell_sameM ?_ h
          rw [Below.heap_setCell _ _ _ _ (by simpa using hne), Below.heap_setCell _ _ _ _ (by simpa using hne), Below.heap_setCell _ _ _ _ (by simpa using hne)]
        exact ⟨kp _ _ _ nT k.1, kp _ _ _ nB k.2.1, kp _ _ _ nB k.2.2.1, kp _ _ _ nB k.2.2.2.1, kp _ _ _ nB k.2.2.2.2.1, kp _ _ _ nB1 k.2.2.2.2.2.1, kp _ _ _ nB1 k.2.2.2.2.2.2.1, kp _ _ _ nB1 k.2.2.2.2.2.2.2⟩
      go_region_held3 (fun w' => w'.cell? ⟨w.heap.size, 2, none⟩ = some (.slice (some ⟨B, o, none⟩) 2 c) ∧ w'.cell? ⟨B, o + 2, none⟩ = some (.slice (some ⟨B1, o1, none⟩) 1 c1) ∧ w'.cell? ⟨B, o + 3, none⟩ = some (.int .i64 z.kind) ∧ w'.cell? ⟨B, o + 4, none⟩ = some (.int .i64 z.idx) ∧ w'.cell? ⟨B, o + 5, none⟩ = some (.slice a2 z.subs.length c2) ∧ w'.cell? ⟨B1, o1, none⟩ = some (.int .i64 q.kind) ∧ w'.cell? ⟨B1, o1 + 1, none⟩ = some (.int .i64 q.idx) ∧ w'.cell? ⟨B1, o1 + 2, none⟩ = some (.slice a3 q.subs.length c3)) (first | exact HSS.out | exact HSX.out _ _ _ _ k5 | exact z5 | go_keep)
        (first
          | (go_at_call 26; refine (BE.out _ (by exact B1'.out.trans (((Below.refl w1.heap.size w1).drew).mono (by omega)))).mono ?_; rintro e w5 ⟨a5, c5, rfl, hs5, hb5⟩; have k5 : Below w1.heap.size w1 w5 := ((Below.refl w1.heap.size w1).drew).trans hb5; have z5 := KP.out _ k5; have R5 := hide (R1.out.below k5 (by omega)); have S5 := hide hs5; have K5 := hide k5; have r0 : w5.cell? ⟨w.heap.size + 1, 0, none⟩ = some (.int .i64 0) := R5.out.cell 0; have r1 : w5.cell? ⟨w.heap.size + 1, 1, none⟩ = some (.int .i64 0) := R5.out.cell 1; have r2 : w5.cell? ⟨w.heap.size + 1, 2, none⟩ = some (.slice none 0 0) := R5.out.cell 2; have rf := R5.out.frozen; clear hs5 hb5))
      go_wp2_with fail
      refine bodyPost_ret (v := .agg #[.int .i64 (insT z 0 q).kind, .int .i64 (insT z 0 q).idx, .slice a5 (insT z 0 q).subs.length c5]) (by simp [results, Try.results14, go_sem, World.cell?_setCell_same, World.cell?_setCell_other, r0, r1, r2]) rfl ?_
      have B5 := B1'.out.trans (K5.out.mono (by omega))
      refine ⟨a5, c5, rfl, (S5.out.kept fun b hb => ?_).mono fun b hb _ => ?_, ((B5.setCell (by simp) _).setCell (by simp) _).setCell (by simp) _⟩
      · have hbn : b ≠ w.heap.size + 1 := by
          rcases hb with h | h
          · have := h.2; omega
          · have h' : w1.heap.size ≤ b := h; omega
        rw [Below.heap_setCell _ _ _ _ (by simpa using hbn), Below.heap_setCell _ _ _ _ (by simpa using hbn), Below.heap_setCell _ _ _ _ (by simpa using hbn)]
      · rcases hb with h | h
        · exact Or.inl h
        · right
          have h' : w1.heap.size ≤ b := h
          omega
    | false =>
      rw [hrd] at HRED
      have HH : Hid (hereT false ⟨kd, ix, l⟩ = false) := by unfold Hid; rw [HR.out, hrd]
      have HT : Hid (stpT false (n + 1) ⟨kd, ix, l⟩ = ⟨kd, ix, repF (stpT false n) l⟩) := by unfold Hid; rw [stpT, if_neg (by rw [HH.out]; simp)]
      have HGS : Hid (∀ k (h : k < l.length), GdM (deepK u kd) l[k] ∧ sizeM [l[k]] ≤ n ∧ ShM [l[k]]) := fun k h => by
        have h1 := hg.subs (List.getElem_mem h)
        have := sizeM_get l k h
        exact ⟨h1, by omega, sh_of_err _ _ _ h1.2.2.1.choose_spec.1⟩
      have hlen : l.length ≤ 10000 := by have := sizeM_len l; have := hg.2.2.2; omega
      clear hstp hsh h3k hg hrd hsz hn
      go_enter Try.func14, Try.ntmps14
      go_wp2_with fail
      refine HRED.out.mono ?_
      rintro e w1 ⟨rfl, hb1⟩
      have hz2 : ((w.alloc (.cells #[.int .i64 kd, .int .i64 ix, .slice a l.length c] 24)).alloc (.cells #[.int .i64 0, .int .i64 0, .slice none 0 0] 24)).heap.size = w.heap.size + 2 := by simp
      have B1' := hide (B2.out.trans (hb1.mono (by omega)))
      have T1 := hide (T2.out.below hb1 (by omega))
      have R1 := hide (R2.out.below hb1 (by omega))
      have hw1 : w.heap.size + 2 ≤ w1.heap.size := by have := hb1.size; omega
      have c0 : w1.cell? ⟨w.heap.size, 0, none⟩ = some (.int .i64 kd) := T1.out.cell 0
      have c1 : w1.cell? ⟨w.heap.size, 1, none⟩ = some (.int .i64 ix) := T1.out.cell 1
      clear hb1 hz2 HRED B2 T2 R2
      go_wp2_with fail
      clear c0 c1
      have T3 := hide (T1.out.alloc (.cells #[.int .i64 kd, .int .i64 ix, .slice none 0 0] 24))
      have R3 := hide (R1.out.alloc (.cells #[.int .i64 kd, .int .i64 ix, .slice none 0 0] 24))
      have O3 := hide (Blk.new w1 #[.int .i64 kd, .int .i64 ix, .slice none 0 0] 24)
      have B3 := hide (B1'.out.alloc B1'.out.size (.cells #[.int .i64 kd, .int .i64 ix, .slice none 0 0] 24))
      clear B1' T1 R1
      generalize w1.alloc (.cells #[.int .i64 kd, .int .i64 ix, .slice none 0 0] 24) = w3 at *
      obtain ⟨O, eO⟩ : ∃ O, O = w1.heap.size := ⟨_, rfl⟩
      rw [← eO] at O3
      simp only [← eO]
      have hO : w.heap.size + 2 ≤ O := by omega
      clear eO hw1
      go_loopw [6, 7] (fun dn i wr => ∃ (k : Nat) (u : Value), k ≤ l.length ∧ i = .int .i64 (k : Int) ∧ dn = .bool (stepM (l.take k)) ∧ LmSet w (fun b => X b ∧ b < w.heap.size) O kd ix a l.length c u (repF (stpT false n) (l.take k)) wr) (fun dn i wr => l.length - (intOf i).toNat)
      case atStart => exact ⟨0, .slice none 0 0, Nat.zero_le _, rfl, by simp [stepM], [], by have h := RowM.start w3 (O + 1) 24 (fun b => X b ∧ b < w.heap.size); simpa [repF] using h, B3.out, T3.out, R3.out, O3.out, O3.out.lt⟩
      case round =>
        obtain ⟨k, u9, hk, rfl, rfl, hset⟩ := hrel
        have SET0 := hide hset
        have XT0 := hset.top
        have c2 : wr.cell? ⟨w.heap.size, 2, none⟩ = some (.slice a l.length c) := XT0.cell 2
        by_cases hlt : k < l.length
        · have hlt2 : (k : Int) < (l.length : Int) := by omega
          obtain ⟨xs, hrow, hbb, _⟩ := hset
          have XE := hide hbb
          clear hrow hbb
          obtain ⟨b, o, a', c', rfl, d0, d0', d1, hx⟩ := (HS.out.mono (Y := (fun b => X b ∧ b < w.heap.size)) fun b h1 h2 => ⟨h1, h2⟩).get XE.out (fun b h _ => h.2) k hlt
          have HX := hide hx
          have hXb : b < w.heap.size := by
            obtain ⟨_, h1⟩ := HS.out
            rcases h1 with h1 | ⟨b', o', e', h1⟩
            · rw [h1] at hlt; simp at hlt
            · cases e'; exact cell_ltM (liesM_get _ _ _ h1 k hlt).2.1
          have HLN : Hid ((repF (stpT false n) (l.take k)).length ≤ 1000000) := by unfold Hid; rw [repF_len]; simp; omega
          have HRT := hide (repF_take (stpT false n) l k hlt)
          have HST := hide (stepM_take l k hlt)
          have HS80 : Hid (LmS w.heap.size b (o + k * 3) kd ix (some ⟨b, o, none⟩) l.length c l[k].kind l[k].idx (.slice a' l[k].subs.length c') wr) := ⟨XT0, d0, d0', d1⟩
          clear hx XT0
          cases hdn : stepM (l.take k) with
          | true =>
            have HN : Hid (stepM (l.take (k + 1)) = true) := by unfold Hid; rw [HST.out, hdn]; rfl
            have HTK : Hid (repF (stpT false n) (l.take (k + 1)) = repF (stpT false n) (l.take k) ++ [l[k]]) := by unfold Hid; rw [HRT.out, hdn]; simp
            have SET := SET0
            have HS8 := HS80
            have XO := hide SET.out.row
            have HXD : Hid (SlM wr.drew (fun b => (X b ∧ b < w.heap.size) ∨ wr.heap.size ≤ b) a' l[k].subs) := by
              obtain ⟨a9, c9, e9, h9⟩ := HX.out.later ((Below.refl wr.heap.size wr).drew)
              simp at e9
              rw [← e9.1] at h9
              exact h9.mono fun b h _ => Or.inl h
            clear d0 d0' d1 hdn
            go_wp2_with fail
            clear c2
            have HSd : Hid (LmS w.heap.size b (o + k * 3) kd ix (some ⟨b, o, none⟩) l.length c l[k].kind l[k].idx (.slice a' l[k].subs.length c') wr.drew) := HS8.out
            obtain ⟨g, cap, w3', hrun, S1, S2, S3, o3, of, S4, hset⟩ := lm_round (c1 := c') (w1 := wr.drew) (t := l[k]) hO (fun b h => h.2) hXb SET.out HS8.out HLN.out ((Below.refl _ _).drew) HXD.out
            have HRUN := hide hrun
            have HSET := hide hset
            have S1h := hide S1
            have S2h := hide S2
            have S3h := hide S3
            have S4h := hide S4
            clear hrun hset S1 S2 S3 S4
            refine wp_region_held_drew (S := LmS w.heap.size b (o + k * 3) kd ix (some ⟨b, o, none⟩) l.length c l[k].kind l[k].idx (.slice a' l[k].subs.length c')) (by kernel_rfl) HSd.out (fun hHeld => ?_)
            refine wpAnyH_take (i := 0) (v := ?_) rfl (by kernel_rfl) (by kernel_rfl) (by kernel_rfl) (fun _ _ _ h => h) (Or.inl ⟨by rfl, ?_⟩) (by assumption) ?_
            rotate_left
            · intro w' hSw
              go_simp <;> with_reducible rfl
            try simp only [Act.put, List.setIfInBounds_toArray, List.set_cons_zero, List.set_cons_succ, List.getElem_toArray, List.getElem_cons_succ, List.getElem_cons_zero]
            refine wpAnyH_take (i := 2) (v := ?_) rfl (by kernel_rfl) (by kernel_rfl) (by kernel_rfl) (fun _ _ _ h => h) (Or.inl ⟨by rfl, ?_⟩) (by assumption) ?_
            rotate_left
            · intro w' hSw
              go_simp <;> with_reducible rfl
            try simp only [Act.put, List.setIfInBounds_toArray, List.set_cons_zero, List.set_cons_succ, List.getElem_toArray, List.getElem_cons_succ, List.getElem_cons_zero]
            refine wpAnyH_take (i := 3) (v := ?_) rfl (by kernel_rfl) (by kernel_rfl) (by kernel_rfl) (fun _ _ _ h => h) (Or.inl ⟨by rfl, ?_⟩) (by assumption) ?_
            rotate_left
            · intro w' hSw
              have c2 : w'.cell? ⟨w.heap.size, 2, none⟩ = some (.slice (some ⟨b, o, none⟩) l.length c) := hSw.1.cell 2
              go_simp <;> with_reducible rfl
            try simp only [Act.put, List.setIfInBounds_toArray, List.set_cons_zero, List.set_cons_succ, List.getElem_toArray, List.getElem_cons_succ, List.getElem_cons_zero]
            refine wpAnyH_take (i := 4) (v := ?_) rfl (by kernel_rfl) (by kernel_rfl) (by kernel_rfl) (fun _ _ _ h => h) (Or.inl ⟨by rfl, ?_⟩) (by assumption) ?_
            rotate_left
            · intro w' hSw
              go_simp <;> with_reducible rfl
            try simp only [Act.put, List.setIfInBounds_toArray, List.set_cons_zero, List.set_cons_succ, List.getElem_toArray, List.getElem_cons_succ, List.getElem_cons_zero]
            refine wpAnyH_take (i := 5) (v := ?_) rfl (by kernel_rfl) (by kernel_rfl) (by kernel_rfl) (fun _ _ _ h => h) (Or.inl ⟨by rfl, ?_⟩) (by assumption) ?_
            rotate_left
            · intro w' hSw
              go_simp <;> with_reducible rfl
            try simp only [Act.put, List.setIfInBounds_toArray, List.set_cons_zero, List.set_cons_succ, List.getElem_toArray, List.getElem_cons_succ, List.getElem_cons_zero]
            refine wpAnyH_take (i := 6) (v := ?_) rfl (by kernel_rfl) (by kernel_rfl) (by kernel_rfl) (fun _ _ _ h => h) (Or.inl ⟨by rfl, ?_⟩) (by assumption) ?_
            rotate_left
            · intro w' hSw
              have e0 := hSw.2.1
              have e1 := hSw.2.2.1
              have e2 := hSw.2.2.2
              go_simp <;> with_reducible rfl
            try simp only [Act.put, List.setIfInBounds_toArray, List.set_cons_zero, List.set_cons_succ, List.getElem_toArray, List.getElem_cons_succ, List.getElem_cons_zero]
            have ob4 : wr.drew.cell? ⟨O, 2, none⟩ = some u9 := XO.out.cell 2
            refine wpAnyH_ready (rs := [1, 7]) (by kernel_rfl) (by simp) ?_
            refine AllReadyH.cons rfl (fun K hK => ?_) (AllReadyH.cons rfl (fun K hK => ?_) AllReadyH.nil)
            · go_simp
              refine hK.out _ _ (by exact HSd.out) (fun hHeld => ?_)
              clear hK K
              try simp only [Act.put, List.setIfInBounds_toArray, List.set_cons_zero, List.set_cons_succ, List.getElem_toArray, List.getElem_cons_succ, List.getElem_cons_zero]
              refine wpAnyH_ready (rs := [7]) (by kernel_rfl) (by simp) ?_
              refine AllReadyH.cons rfl (fun K hK => ?_) AllReadyH.nil
              go_simp
              refine hK.out _ _ (by exact S2h.out) (fun hHeld => ?_)
              clear hK K
              try simp only [Act.put, List.setIfInBounds_toArray, List.set_cons_zero, List.set_cons_succ, List.getElem_toArray, List.getElem_cons_succ, List.getElem_cons_zero]
              refine wpAnyH_ready (rs := [8]) (by kernel_rfl) (by simp) ?_
              refine AllReadyH.cons rfl (fun K hK => ?_) AllReadyH.nil
              refine step_append_eqM rfl _ _ _ _ rfl rfl rfl HRUN.out ?_
              refine hK.out _ _ (by exact S3h.out) (fun hHeld => ?_)
              clear hK K
              try simp only [Act.put, List.setIfInBounds_toArray, List.set_cons_zero, List.set_cons_succ, List.getElem_toArray, List.getElem_cons_succ, List.getElem_cons_zero]
              refine wpAnyH_take (i := 9) (v := ?_) rfl (by kernel_rfl) (by kernel_rfl) (by kernel_rfl) (fun _ _ _ h => h) (Or.inl ⟨by rfl, ?_⟩) (by assumption) ?_
              rotate_left
              · intro w' hSw
                go_simp <;> with_reducible rfl
              try simp only [Act.put, List.setIfInBounds_toArray, List.set_cons_zero, List.set_cons_succ, List.getElem_toArray, List.getElem_cons_succ, List.getElem_cons_zero]
              refine wpAnyH_ready (rs := [10]) (by kernel_rfl) (by simp) ?_
              refine AllReadyH.cons rfl (fun K hK => ?_) AllReadyH.nil
              go_simp
              refine hK.out _ _ (by exact S4h.out) (fun hHeld => ?_)
              clear hK K
              try simp only [Act.put, List.setIfInBounds_toArray, List.set_cons_zero, List.set_cons_succ, List.getElem_toArray, List.getElem_cons_succ, List.getElem_cons_zero]
              refine wpAnyH_done (by kernel_rfl) ?_ _
              go_wp2_with fail
              go_roundw
              case rel => exact ⟨k + 1, _, by omega, by go_num, by rw [HN.out], by rw [HTK.out]; exact HSET.out⟩
              case measure => simp [intOf]; omega
            · go_simp
              refine hK.out _ _ (by exact S2h.out) (fun hHeld => ?_)
              clear hK K
              try simp only [Act.put, List.setIfInBounds_toArray, List.set_cons_zero, List.set_cons_succ, List.getElem_toArray, List.getElem_cons_succ, List.getElem_cons_zero]
              refine wpAnyH_ready (rs := [1]) (by kernel_rfl) (by simp) ?_
              refine AllReadyH.cons rfl (fun K hK => ?_) AllReadyH.nil
              have ob6 := ((hide XO.out).out.alloc (.cells #[.int .i64 l[k].kind, .int .i64 l[k].idx, .slice a' l[k].subs.length c'] 24)).cell 2
              have ob7 : (wr.drew.alloc (.cells #[.int .i64 l[k].kind, .int .i64 l[k].idx, .slice a' l[k].subs.length c'] 24)).cell? ⟨O, 2, none⟩ = some u9 := ((hide XO.out).out.below (((Below.refl wr.heap.size wr).drew).alloc (Nat.le_refl _) _) XO.out.lt).cell 2
              go_simp
              refine hK.out _ _ (by exact S2h.out) (fun hHeld => ?_)
              clear hK K
              try simp only [Act.put, List.setIfInBounds_toArray, List.set_cons_zero, List.set_cons_succ, List.getElem_toArray, List.getElem_cons_succ, List.getElem_cons_zero]
              refine wpAnyH_ready (rs := [8]) (by kernel_rfl) (by simp) ?_
              refine AllReadyH.cons rfl (fun K hK => ?_) AllReadyH.nil
              refine step_append_eqM rfl _ _ _ _ rfl rfl rfl HRUN.out ?_
              refine hK.out _ _ (by exact S3h.out) (fun hHeld => ?_)
              clear hK K
              try simp only [Act.put, List.setIfInBounds_toArray, List.set_cons_zero, List.set_cons_succ, List.getElem_toArray, List.getElem_cons_succ, List.getElem_cons_zero]
              refine wpAnyH_take (i := 9) (v := ?_) rfl (by kernel_rfl) (by kernel_rfl) (by kernel_rfl) (fun _ _ _ h => h) (Or.inl ⟨by rfl, ?_⟩) (by assumption) ?_
              rotate_left
              · intro w' hSw
                go_simp <;> with_reducible rfl
              try simp only [Act.put, List.setIfInBounds_toArray, List.set_cons_zero, List.set_cons_succ, List.getElem_toArray, List.getElem_cons_succ, List.getElem_cons_zero]
              refine wpAnyH_ready (rs := [10]) (by kernel_rfl) (by simp) ?_
              refine AllReadyH.cons rfl (fun K hK => ?_) AllReadyH.nil
              go_simp
              refine hK.out _ _ (by exact S4h.out) (fun hHeld => ?_)
              clear hK K
              try simp only [Act.put, List.setIfInBounds_toArray, List.set_cons_zero, List.set_cons_succ, List.getElem_toArray, List.getElem_cons_succ, List.getElem_cons_zero]
              refine wpAnyH_done (by kernel_rfl) ?_ _
              go_wp2_with fail
              go_roundw
              case rel => exact ⟨k + 1, _, by omega, by go_num, by rw [HN.out], by rw [HTK.out]; exact HSET.out⟩
              case measure => simp [intOf]; omega

          | false =>
            have HCS := hide (hasStep_any l[k] (.agg #[.int .i64 l[k].kind, .int .i64 l[k].idx, .slice a' l[k].subs.length c']) wr _ HX.out (HGS.out k hlt).2.2)
            go_wp2_with fail
            refine HCS.out.mono ?_
            rintro e w4 ⟨rfl, hb4⟩
            have SET := hide (SET0.out.later hb4)
            have HS8 := hide (HS80.out.below hb4)
            have XO := hide SET.out.row
            have HB4 := hide hb4
            have hw4 : wr.heap.size ≤ w4.heap.size := hb4.size
            clear hb4 c2 d0 d0' d1 HCS
            cases hs4 : stepM [l[k]] with
            | true =>
              have HN : Hid (stepM (l.take (k + 1)) = true) := by unfold Hid; rw [HST.out, hs4]; simp
              have HTK : Hid (repF (stpT false n) (l.take (k + 1)) = repF (stpT false n) (l.take k) ++ [stpT false n l[k]]) := by unfold Hid; rw [HRT.out, hdn, hs4]; simp
              have IHQ : Hid (Calls Try.prog 14 #[.agg #[.int .i64 l[k].kind, .int .i64 l[k].idx, .slice a' l[k].subs.length c'], .bool false] w4.drew fun e w'' => ∃ a1 c1, e = .returned (.agg #[.int .i64 (stpT false n l[k]).kind, .int .i64 (stpT false n l[k]).idx, .slice a1 (stpT false n l[k]).subs.length c1]) ∧ SlM w'' (fun b => (X b ∧ b < w.heap.size) ∨ w4.heap.size ≤ b) a1 (stpT false n l[k]).subs ∧ Below w4.heap.size w4 w'') := by
                refine (IH.out l[k] (deepK u kd) _ w4.drew (fun b => X b ∧ b < w.heap.size) (HGS.out k hlt).2.1 (HGS.out k hlt).1 hs4 ((HX.out.later HB4.out).later ((Below.refl w4.heap.size w4).drew))).mono ?_
                rintro e w'' ⟨a1, c1, h1, h2, h3⟩
                exact ⟨a1, c1, h1, h2.mono (fun b hb _ => hb.imp (fun h => h.1) id), ((Below.refl w4.heap.size w4).drew).trans h3⟩
              clear hdn hs4
              go_wp2_with fail
              have HSd : Hid (LmS w.heap.size b (o + k * 3) kd ix (some ⟨b, o, none⟩) l.length c l[k].kind l[k].idx (.slice a' l[k].subs.length c') w4.drew) := HS8.out
              refine wp_region_held_drew (S := LmS w.heap.size b (o + k * 3) kd ix (some ⟨b, o, none⟩) l.length c l[k].kind l[k].idx (.slice a' l[k].subs.length c')) (by kernel_rfl) HSd.out (fun hHeld => ?_)
              refine wpAnyH_take (i := 0) (v := ?_) rfl (by kernel_rfl) (by kernel_rfl) (by kernel_rfl) (fun _ _ _ h => h) (Or.inl ⟨by rfl, ?_⟩) (by assumption) ?_
              rotate_left
              · intro w' hSw
                go_simp <;> with_reducible rfl
              try simp only [Act.put, List.setIfInBounds_toArray, List.set_cons_zero, List.set_cons_succ, List.getElem_toArray, List.getElem_cons_succ, List.getElem_cons_zero]
              refine wpAnyH_take (i := 2) (v := ?_) rfl (by kernel_rfl) (by kernel_rfl) (by kernel_rfl) (fun _ _ _ h => h) (Or.inl ⟨by rfl, ?_⟩) (by assumption) ?_
              rotate_left
              · intro w' hSw
                go_simp <;> with_reducible rfl
              try simp only [Act.put, List.setIfInBounds_toArray, List.set_cons_zero, List.set_cons_succ, List.getElem_toArray, List.getElem_cons_succ, List.getElem_cons_zero]
              refine wpAnyH_take (i := 3) (v := ?_) rfl (by kernel_rfl) (by kernel_rfl) (by kernel_rfl) (fun _ _ _ h => h) (Or.inl ⟨by rfl, ?_⟩) (by assumption) ?_
              rotate_left
              · intro w' hSw
                have c2 : w'.cell? ⟨w.heap.size, 2, none⟩ = some (.slice (some ⟨b, o, none⟩) l.length c) := hSw.1.cell 2
                go_simp <;> with_reducible rfl
              try simp only [Act.put, List.setIfInBounds_toArray, List.set_cons_zero, List.set_cons_succ, List.getElem_toArray, List.getElem_cons_succ, List.getElem_cons_zero]
              refine wpAnyH_take (i := 4) (v := ?_) rfl (by kernel_rfl) (by kernel_rfl) (by kernel_rfl) (fun _ _ _ h => h) (Or.inl ⟨by rfl, ?_⟩) (by assumption) ?_
              rotate_left
              · intro w' hSw
                go_simp <;> with_reducible rfl
              try simp only [Act.put, List.setIfInBounds_toArray, List.set_cons_zero, List.set_cons_succ, List.getElem_toArray, List.getElem_cons_succ, List.getElem_cons_zero]
              refine wpAnyH_take (i := 5) (v := ?_) rfl (by kernel_rfl) (by kernel_rfl) (by kernel_rfl) (fun _ _ _ h => h) (Or.inl ⟨by rfl, ?_⟩) (by assumption) ?_
              rotate_left
              · intro w' hSw
                go_simp <;> with_reducible rfl
              try simp only [Act.put, List.setIfInBounds_toArray, List.set_cons_zero, List.set_cons_succ, List.getElem_toArray, List.getElem_cons_succ, List.getElem_cons_zero]
              refine wpAnyH_take (i := 6) (v := ?_) rfl (by kernel_rfl) (by kernel_rfl) (by kernel_rfl) (fun _ _ _ h => h) (Or.inl ⟨by rfl, ?_⟩) (by assumption) ?_
              rotate_left
              · intro w' hSw
                have e0 := hSw.2.1
                have e1 := hSw.2.2.1
                have e2 := hSw.2.2.2
                go_simp <;> with_reducible rfl
              try simp only [Act.put, List.setIfInBounds_toArray, List.set_cons_zero, List.set_cons_succ, List.getElem_toArray, List.getElem_cons_succ, List.getElem_cons_zero]
              refine wpAnyH_take (i := 7) (v := ?_) rfl (by kernel_rfl) (by kernel_rfl) (by kernel_rfl) (fun _ _ _ h => h) (Or.inl ⟨by rfl, ?_⟩) (by assumption) ?_
              rotate_left
              · intro w' hSw
                go_simp <;> with_reducible rfl
              try simp only [Act.put, List.setIfInBounds_toArray, List.set_cons_zero, List.set_cons_succ, List.getElem_toArray, List.getElem_cons_succ, List.getElem_cons_zero]
              have ob4 : w4.drew.cell? ⟨O, 2, none⟩ = some u9 := XO.out.cell 2
              refine wpAnyH_ready (rs := [1, 8]) (by kernel_rfl) (by simp) ?_
              refine AllReadyH.cons rfl (fun K hK => ?_) (AllReadyH.cons rfl (fun K hK => ?_) AllReadyH.nil)
              · go_simp
                refine hK.out _ _ (by exact HSd.out) (fun hHeld => ?_)
                clear hK K
                try simp only [Act.put, List.setIfInBounds_toArray, List.set_cons_zero, List.set_cons_succ, List.getElem_toArray, List.getElem_cons_succ, List.getElem_cons_zero]
                refine wpAnyH_ready (rs := [8]) (by kernel_rfl) (by simp) ?_
                refine AllReadyH.cons rfl (fun K hK => ?_) AllReadyH.nil
                go_simp
                go_at_call 14
                refine IHQ.out.mono ?_
                rintro e w5 ⟨a5, c5, rfl, hs5, hb5⟩
                obtain ⟨g, cap, w3', hrun, S1, S2, S3, o3, of, S4, hset⟩ := lm_round (c1 := c5) hO (fun b h => h.2) hXb SET.out HS8.out HLN.out hb5 hs5
                have HRUN := hide hrun
                have HSET := hide hset
                have S1h := hide S1
                have S2h := hide S2
                have S3h := hide S3
                have S4h := hide S4
                have ob5 : w5.cell? ⟨O, 2, none⟩ = some u9 := (hb5.cell (p := ⟨O, 2, none⟩) XO.out.lt).trans (XO.out.cell 2)
                have HB5 := hide hb5
                clear hrun hset S1 S2 S3 S4 hs5 hb5
                go_simp
                refine hK.out _ _ (by exact S1h.out) (fun hHeld => ?_)
                clear hK K
                try simp only [Act.put, List.setIfInBounds_toArray, List.set_cons_zero, List.set_cons_succ, List.getElem_toArray, List.getElem_cons_succ, List.getElem_cons_zero]
                refine wpAnyH_ready (rs := [9]) (by kernel_rfl) (by simp) ?_
                refine AllReadyH.cons rfl (fun K hK => ?_) AllReadyH.nil
                go_simp
                refine hK.out _ _ (by exact S2h.out) (fun hHeld => ?_)
                clear hK K
                try simp only [Act.put, List.setIfInBounds_toArray, List.set_cons_zero, List.set_cons_succ, List.getElem_toArray, List.getElem_cons_succ, List.getElem_cons_zero]
                refine wpAnyH_ready (rs := [10]) (by kernel_rfl) (by simp) ?_
                refine AllReadyH.cons rfl (fun K hK => ?_) AllReadyH.nil
                refine step_append_eqM rfl _ _ _ _ rfl rfl rfl HRUN.out ?_
                refine hK.out _ _ (by exact S3h.out) (fun hHeld => ?_)
                clear hK K
                try simp only [Act.put, List.setIfInBounds_toArray, List.set_cons_zero, List.set_cons_succ, List.getElem_toArray, List.getElem_cons_succ, List.getElem_cons_zero]
                refine wpAnyH_take (i := 11) (v := ?_) rfl (by kernel_rfl) (by kernel_rfl) (by kernel_rfl) (fun _ _ _ h => h) (Or.inl ⟨by rfl, ?_⟩) (by assumption) ?_
                rotate_left
                · intro w' hSw
                  go_simp <;> with_reducible rfl
                try simp only [Act.put, List.setIfInBounds_toArray, List.set_cons_zero, List.set_cons_succ, List.getElem_toArray, List.getElem_cons_succ, List.getElem_cons_zero]
                refine wpAnyH_ready (rs := [12]) (by kernel_rfl) (by simp) ?_
                refine AllReadyH.cons rfl (fun K hK => ?_) AllReadyH.nil
                go_simp
                refine hK.out _ _ (by exact S4h.out) (fun hHeld => ?_)
                clear hK K
                try simp only [Act.put, List.setIfInBounds_toArray, List.set_cons_zero, List.set_cons_succ, List.getElem_toArray, List.getElem_cons_succ, List.getElem_cons_zero]
                refine wpAnyH_done (by kernel_rfl) ?_ _
                go_wp2_with fail
                go_roundw
                case rel => exact ⟨k + 1, _, by omega, by go_num, by rw [HN.out], by rw [HTK.out]; exact HSET.out⟩
                case measure => simp [intOf]; omega
              · go_simp
                go_at_call 14
                refine IHQ.out.mono ?_
                rintro e w5 ⟨a5, c5, rfl, hs5, hb5⟩
                obtain ⟨g, cap, w3', hrun, S1, S2, S3, o3, of, S4, hset⟩ := lm_round (c1 := c5) hO (fun b h => h.2) hXb SET.out HS8.out HLN.out hb5 hs5
                have HRUN := hide hrun
                have HSET := hide hset
                have S1h := hide S1
                have S2h := hide S2
                have S3h := hide S3
                have S4h := hide S4
                have ob5 : w5.cell? ⟨O, 2, none⟩ = some u9 := (hb5.cell (p := ⟨O, 2, none⟩) XO.out.lt).trans (XO.out.cell 2)
                have HB5 := hide hb5
                clear hrun hset S1 S2 S3 S4 hs5 hb5
                go_simp
                refine hK.out _ _ (by exact S1h.out) (fun hHeld => ?_)
                clear hK K
                try simp only [Act.put, List.setIfInBounds_toArray, List.set_cons_zero, List.set_cons_succ, List.getElem_toArray, List.getElem_cons_succ, List.getElem_cons_zero]
                refine wpAnyH_ready (rs := [1, 9]) (by kernel_rfl) (by simp) ?_
                refine AllReadyH.cons rfl (fun K hK => ?_) (AllReadyH.cons rfl (fun K hK => ?_) AllReadyH.nil)
                · go_simp
                  refine hK.out _ _ (by exact S1h.out) (fun hHeld => ?_)
                  clear hK K
                  try simp only [Act.put, List.setIfInBounds_toArray, List.set_cons_zero, List.set_cons_succ, List.getElem_toArray, List.getElem_cons_succ, List.getElem_cons_zero]
                  refine wpAnyH_ready (rs := [9]) (by kernel_rfl) (by simp) ?_
                  refine AllReadyH.cons rfl (fun K hK => ?_) AllReadyH.nil
                  go_simp
                  refine hK.out _ _ (by exact S2h.out) (fun hHeld => ?_)
                  clear hK K
                  try simp only [Act.put, List.setIfInBounds_toArray, List.set_cons_zero, List.set_cons_succ, List.getElem_toArray, List.getElem_cons_succ, List.getElem_cons_zero]
                  refine wpAnyH_ready (rs := [10]) (by kernel_rfl) (by simp) ?_
                  refine AllReadyH.cons rfl (fun K hK => ?_) AllReadyH.nil
                  refine step_append_eqM rfl _ _ _ _ rfl rfl rfl HRUN.out ?_
                  refine hK.out _ _ (by exact S3h.out) (fun hHeld => ?_)
                  clear hK K
                  try simp only [Act.put, List.setIfInBounds_toArray, List.set_cons_zero, List.set_cons_succ, List.getElem_toArray, List.getElem_cons_succ, List.getElem_cons_zero]
                  refine wpAnyH_take (i := 11) (v := ?_) rfl (by kernel_rfl) (by kernel_rfl) (by kernel_rfl) (fun _ _ _ h => h) (Or.inl ⟨by rfl, ?_⟩) (by assumption) ?_
                  rotate_left
                  · intro w' hSw
                    go_simp <;> with_reducible rfl
                  try simp only [Act.put, List.setIfInBounds_toArray, List.set_cons_zero, List.set_cons_succ, List.getElem_toArray, List.getElem_cons_succ, List.getElem_cons_zero]
                  refine wpAnyH_ready (rs := [12]) (by kernel_rfl) (by simp) ?_
                  refine AllReadyH.cons rfl (fun K hK => ?_) AllReadyH.nil
                  go_simp
                  refine hK.out _ _ (by exact S4h.out) (fun hHeld => ?_)
                  clear hK K
                  try simp only [Act.put, List.setIfInBounds_toArray, List.set_cons_zero, List.set_cons_succ, List.getElem_toArray, List.getElem_cons_succ, List.getElem_cons_zero]
                  refine wpAnyH_done (by kernel_rfl) ?_ _
                  go_wp2_with fail
                  go_roundw
                  case rel => exact ⟨k + 1, _, by omega, by go_num, by rw [HN.out], by rw [HTK.out]; exact HSET.out⟩
                  case measure => simp [intOf]; omega
                · go_simp
                  refine hK.out _ _ (by exact S2h.out) (fun hHeld => ?_)
                  clear hK K
                  try simp only [Act.put, List.setIfInBounds_toArray, List.set_cons_zero, List.set_cons_succ, List.getElem_toArray, List.getElem_cons_succ, List.getElem_cons_zero]
                  refine wpAnyH_ready (rs := [1]) (by kernel_rfl) (by simp) ?_
                  refine AllReadyH.cons rfl (fun K hK => ?_) AllReadyH.nil
                  have ob6 := ((hide (XO.out.below HB5.out XO.out.lt)).out.alloc (.cells #[.int .i64 (stpT false n l[k]).kind, .int .i64 (stpT false n l[k]).idx, .slice a5 (stpT false n l[k]).subs.length c5] 24)).cell 2
                  go_simp
                  refine hK.out _ _ (by exact S2h.out) (fun hHeld => ?_)
                  clear hK K
                  try simp only [Act.put, List.setIfInBounds_toArray, List.set_cons_zero, List.set_cons_succ, List.getElem_toArray, List.getElem_cons_succ, List.getElem_cons_zero]
                  refine wpAnyH_ready (rs := [10]) (by kernel_rfl) (by simp) ?_
                  refine AllReadyH.cons rfl (fun K hK => ?_) AllReadyH.nil
                  refine step_append_eqM rfl _ _ _ _ rfl rfl rfl HRUN.out ?_
                  refine hK.out _ _ (by exact S3h.out) (fun hHeld => ?_)
                  clear hK K
                  try simp only [Act.put, List.setIfInBounds_toArray, List.set_cons_zero, List.set_cons_succ, List.getElem_toArray, List.getElem_cons_succ, List.getElem_cons_zero]
                  refine wpAnyH_take (i := 11) (v := ?_) rfl (by kernel_rfl) (by kernel_rfl) (by kernel_rfl) (fun _ _ _ h => h) (Or.inl ⟨by rfl, ?_⟩) (by assumption) ?_
                  rotate_left
                  · intro w' hSw
                    go_simp <;> with_reducible rfl
                  try simp only [Act.put, List.setIfInBounds_toArray, List.set_cons_zero, List.set_cons_succ, List.getElem_toArray, List.getElem_cons_succ, List.getElem_cons_zero]
                  refine wpAnyH_ready (rs := [12]) (by kernel_rfl) (by simp) ?_
                  refine AllReadyH.cons rfl (fun K hK => ?_) AllReadyH.nil
                  go_simp
                  refine hK.out _ _ (by exact S4h.out) (fun hHeld => ?_)
                  clear hK K
                  try simp only [Act.put, List.setIfInBounds_toArray, List.set_cons_zero, List.set_cons_succ, List.getElem_toArray, List.getElem_cons_succ, List.getElem_cons_zero]
                  refine wpAnyH_done (by kernel_rfl) ?_ _
                  go_wp2_with fail
                  go_roundw
                  case rel => exact ⟨k + 1, _, by omega, by go_num, by rw [HN.out], by rw [HTK.out]; exact HSET.out⟩
                  case measure => simp [intOf]; omega

            | false =>
              have HN : Hid (stepM (l.take (k + 1)) = false) := by unfold Hid; rw [HST.out, hdn, hs4]; rfl
              have HTK : Hid (repF (stpT false n) (l.take (k + 1)) = repF (stpT false n) (l.take k) ++ [l[k]]) := by unfold Hid; rw [HRT.out, hdn, hs4]; simp
              have HXD : Hid (SlM w4.drew (fun b => (X b ∧ b < w.heap.size) ∨ w4.heap.size ≤ b) a' l[k].subs) := by
                obtain ⟨a9, c9, e9, h9⟩ := (HX.out.later HB4.out).later ((Below.refl w4.heap.size w4).drew)
                simp at e9
                rw [← e9.1] at h9
                exact h9.mono fun b h _ => Or.inl h
              have c2 : w4.cell? ⟨w.heap.size, 2, none⟩ = some (.slice (some ⟨b, o, none⟩) l.length c) := SET.out.top.cell 2
              clear hdn hs4
              go_wp2_with fail
              clear c2
              have HSd : Hid (LmS w.heap.size b (o + k * 3) kd ix (some ⟨b, o, none⟩) l.length c l[k].kind l[k].idx (.slice a' l[k].subs.length c') w4.drew) := HS8.out
              obtain ⟨g, cap, w3', hrun, S1, S2, S3, o3, of, S4, hset⟩ := lm_round (c1 := c') (w1 := w4.drew) (t := l[k]) hO (fun b h => h.2) hXb SET.out HS8.out HLN.out ((Below.refl _ _).drew) HXD.out
              have HRUN := hide hrun
              have HSET := hide hset
              have S1h := hide S1
              have S2h := hide S2
              have S3h := hide S3
              have S4h := hide S4
              clear hrun hset S1 S2 S3 S4
              refine wp_region_held_drew (S := LmS w.heap.size b (o + k * 3) kd ix (some ⟨b, o, none⟩) l.length c l[k].kind l[k].idx (.slice a' l[k].subs.length c')) (by kernel_rfl) HSd.out (fun hHeld => ?_)
              refine wpAnyH_take (i := 0) (v := ?_) rfl (by kernel_rfl) (by kernel_rfl) (by kernel_rfl) (fun _ _ _ h => h) (Or.inl ⟨by rfl, ?_⟩) (by assumption) ?_
              rotate_left
              · intro w' hSw
                go_simp <;> with_reducible rfl
              try simp only [Act.put, List.setIfInBounds_toArray, List.set_cons_zero, List.set_cons_succ, List.getElem_toArray, List.getElem_cons_succ, List.getElem_cons_zero]
              refine wpAnyH_take (i := 2) (v := ?_) rfl (by kernel_rfl) (by kernel_rfl) (by kernel_rfl) (fun _ _ _ h => h) (Or.inl ⟨by rfl, ?_⟩) (by assumption) ?_
              rotate_left
              · intro w' hSw
                go_simp <;> with_reducible rfl
              try simp only [Act.put, List.setIfInBounds_toArray, List.set_cons_zero, List.set_cons_succ, List.getElem_toArray, List.getElem_cons_succ, List.getElem_cons_zero]
              refine wpAnyH_take (i := 3) (v := ?_) rfl (by kernel_rfl) (by kernel_rfl) (by kernel_rfl) (fun _ _ _ h => h) (Or.inl ⟨by rfl, ?_⟩) (by assumption) ?_
              rotate_left
              · intro w' hSw
                have c2 : w'.cell? ⟨w.heap.size, 2, none⟩ = some (.slice (some ⟨b, o, none⟩) l.length c) := hSw.1.cell 2
                go_simp <;> with_reducible rfl
              try simp only [Act.put, List.setIfInBounds_toArray, List.set_cons_zero, List.set_cons_succ, List.getElem_toArray, List.getElem_cons_succ, List.getElem_cons_zero]
              refine wpAnyH_take (i := 4) (v := ?_) rfl (by kernel_rfl) (by kernel_rfl) (by kernel_rfl) (fun _ _ _ h => h) (Or.inl ⟨by rfl, ?_⟩) (by assumption) ?_
              rotate_left
              · intro w' hSw
                go_simp <;> with_reducible rfl
              try simp only [Act.put, List.setIfInBounds_toArray, List.set_cons_zero, List.set_cons_succ, List.getElem_toArray, List.getElem_cons_succ, List.getElem_cons_zero]
              refine wpAnyH_take (i := 5) (v := ?_) rfl (by kernel_rfl) (by kernel_rfl) (by kernel_rfl) (fun _ _ _ h => h) (Or.inl ⟨by rfl, ?_⟩) (by assumption) ?_
              rotate_left
              · intro w' hSw
                go_simp <;> with_reducible rfl
              try simp only [Act.put, List.setIfInBounds_toArray, List.set_cons_zero, List.set_cons_succ, List.getElem_toArray, List.getElem_cons_succ, List.getElem_cons_zero]
              refine wpAnyH_take (i := 6) (v := ?_) rfl (by kernel_rfl) (by kernel_rfl) (by kernel_rfl) (fun _ _ _ h => h) (Or.inl ⟨by rfl, ?_⟩) (by assumption) ?_
              rotate_left
              · intro w' hSw
                have e0 := hSw.2.1
                have e1 := hSw.2.2.1
                have e2 := hSw.2.2.2
                go_simp <;> with_reducible rfl
              try simp only [Act.put, List.setIfInBounds_toArray, List.set_cons_zero, List.set_cons_succ, List.getElem_toArray, List.getElem_cons_succ, List.getElem_cons_zero]
              have ob4 : w4.drew.cell? ⟨O, 2, none⟩ = some u9 := XO.out.cell 2
              refine wpAnyH_ready (rs := [1, 7]) (by kernel_rfl) (by simp) ?_
              refine AllReadyH.cons rfl (fun K hK => ?_) (AllReadyH.cons rfl (fun K hK => ?_) AllReadyH.nil)
              · go_simp
                refine hK.out _ _ (by exact HSd.out) (fun hHeld => ?_)
                clear hK K
                try simp only [Act.put, List.setIfInBounds_toArray, List.set_cons_zero, List.set_cons_succ, List.getElem_toArray, List.getElem_cons_succ, List.getElem_cons_zero]
                refine wpAnyH_ready (rs := [7]) (by kernel_rfl) (by simp) ?_
                refine AllReadyH.cons rfl (fun K hK => ?_) AllReadyH.nil
                go_simp
                refine hK.out _ _ (by exact S2h.out) (fun hHeld => ?_)
                clear hK K
                try simp only [Act.put, List.setIfInBounds_toArray, List.set_cons_zero, List.set_cons_succ, List.getElem_toArray, List.getElem_cons_succ, List.getElem_cons_zero]
                refine wpAnyH_ready (rs := [8]) (by kernel_rfl) (by simp) ?_
                refine AllReadyH.cons rfl (fun K hK => ?_) AllReadyH.nil
                refine step_append_eqM rfl _ _ _ _ rfl rfl rfl HRUN.out ?_
                refine hK.out _ _ (by exact S3h.out) (fun hHeld => ?_)
                clear hK K
                try simp only [Act.put, List.setIfInBounds_toArray, List.set_cons_zero, List.set_cons_succ, List.getElem_toArray, List.getElem_cons_succ, List.getElem_cons_zero]
                refine wpAnyH_take (i := 9) (v := ?_) rfl (by kernel_rfl) (by kernel_rfl) (by kernel_rfl) (fun _ _ _ h => h) (Or.inl ⟨by rfl, ?_⟩) (by assumption) ?_
                rotate_left
                · intro w' hSw
                  go_simp <;> with_reducible rfl
                try simp only [Act.put, List.setIfInBounds_toArray, List.set_cons_zero, List.set_cons_succ, List.getElem_toArray, List.getElem_cons_succ, List.getElem_cons_zero]
                refine wpAnyH_ready (rs := [10]) (by kernel_rfl) (by simp) ?_
                refine AllReadyH.cons rfl (fun K hK => ?_) AllReadyH.nil
                go_simp
                refine hK.out _ _ (by exact S4h.out) (fun hHeld => ?_)
                clear hK K
                try simp only [Act.put, List.setIfInBounds_toArray, List.set_cons_zero, List.set_cons_succ, List.getElem_toArray, List.getElem_cons_succ, List.getElem_cons_zero]
                refine wpAnyH_done (by kernel_rfl) ?_ _
                go_wp2_with fail
                go_roundw
                case rel => exact ⟨k + 1, _, by omega, by go_num, by rw [HN.out], by rw [HTK.out]; exact HSET.out⟩
                case measure => simp [intOf]; omega
              · go_simp
                refine hK.out _ _ (by exact S2h.out) (fun hHeld => ?_)
                clear hK K
                try simp only [Act.put, List.setIfInBounds_toArray, List.set_cons_zero, List.set_cons_succ, List.getElem_toArray, List.getElem_cons_succ, List.getElem_cons_zero]
                refine wpAnyH_ready (rs := [1]) (by kernel_rfl) (by simp) ?_
                refine AllReadyH.cons rfl (fun K hK => ?_) AllReadyH.nil
                have ob6 := ((hide XO.out).out.alloc (.cells #[.int .i64 l[k].kind, .int .i64 l[k].idx, .slice a' l[k].subs.length c'] 24)).cell 2
                have ob7 : (w4.drew.alloc (.cells #[.int .i64 l[k].kind, .int .i64 l[k].idx, .slice a' l[k].subs.length c'] 24)).cell? ⟨O, 2, none⟩ = some u9 := ((hide XO.out).out.below (((Below.refl w4.heap.size w4).drew).alloc (Nat.le_refl _) _) XO.out.lt).cell 2
                go_simp
                refine hK.out _ _ (by exact S2h.out) (fun hHeld => ?_)
                clear hK K
                try simp only [Act.put, List.setIfInBounds_toArray, List.set_cons_zero, List.set_cons_succ, List.getElem_toArray, List.getElem_cons_succ, List.getElem_cons_zero]
                refine wpAnyH_ready (rs := [8]) (by kernel_rfl) (by simp) ?_
                refine AllReadyH.cons rfl (fun K hK => ?_) AllReadyH.nil
                refine step_append_eqM rfl _ _ _ _ rfl rfl rfl HRUN.out ?_
                refine hK.out _ _ (by exact S3h.out) (fun hHeld => ?_)
                clear hK K
                try simp only [Act.put, List.setIfInBounds_toArray, List.set_cons_zero, List.set_cons_succ, List.getElem_toArray, List.getElem_cons_succ, List.getElem_cons_zero]
                refine wpAnyH_take (i := 9) (v := ?_) rfl (by kernel_rfl) (by kernel_rfl) (by kernel_rfl) (fun _ _ _ h => h) (Or.inl ⟨by rfl, ?_⟩) (by assumption) ?_
                rotate_left
                · intro w' hSw
                  go_simp <;> with_reducible rfl
                try simp only [Act.put, List.setIfInBounds_toArray, List.set_cons_zero, List.set_cons_succ, List.getElem_toArray, List.getElem_cons_succ, List.getElem_cons_zero]
                refine wpAnyH_ready (rs := [10]) (by kernel_rfl) (by simp) ?_
                refine AllReadyH.cons rfl (fun K hK => ?_) AllReadyH.nil
                go_simp
                refine hK.out _ _ (by exact S4h.out) (fun hHeld => ?_)
                clear hK K
                try simp only [Act.put, List.setIfInBounds_toArray, List.set_cons_zero, List.set_cons_succ, List.getElem_toArray, List.getElem_cons_succ, List.getElem_cons_zero]
                refine wpAnyH_done (by kernel_rfl) ?_ _
                go_wp2_with fail
                go_roundw
                case rel => exact ⟨k + 1, _, by omega, by go_num, by rw [HN.out], by rw [HTK.out]; exact HSET.out⟩
                case measure => simp [intOf]; omega

        · have hge : ¬ ((k : Int) < (l.length : Int)) := by omega
          have htk : l.take k = l := List.take_of_length_le (by omega)
          obtain ⟨xs, XW, XE, hT, XR, hOb, hOl⟩ := hset
          rw [htk] at XW
          obtain ⟨ae, ce, rfl, hse⟩ := XW.sl
          have HSE := hide hse
          have HXE := hide XE
          have o0 : wr.cell? ⟨O, 0, none⟩ = some (.int .i64 kd) := hOb.cell 0
          have o1 : wr.cell? ⟨O, 1, none⟩ = some (.int .i64 ix) := hOb.cell 1
          have o2 : wr.cell? ⟨O, 2, none⟩ = some (.slice ae (repF (stpT false n) l).length ce) := hOb.cell 2
          have r0 : wr.cell? ⟨w.heap.size + 1, 0, none⟩ = some (.int .i64 0) := XR.cell 0
          have r1 : wr.cell? ⟨w.heap.size + 1, 1, none⟩ = some (.int .i64 0) := XR.cell 1
          have r2 : wr.cell? ⟨w.heap.size + 1, 2, none⟩ = some (.slice none 0 0) := XR.cell 2
          have rf := XR.frozen
          have hRl : w.heap.size + 1 < wr.heap.size := XR.lt
          clear hse XW XE hT XR hOb
          go_wp2_with fail
          refine bodyPost_ret (v := .agg #[.int .i64 kd, .int .i64 ix, .slice ae (repF (stpT false n) l).length ce]) (by simp [results, Try.results14, go_sem, World.cell?_setCell_same, World.cell?_setCell_other, r0, r1, r2, hRl]) rfl ?_
          rw [HT.out]
          refine ⟨ae, ce, rfl, (HSE.out.kept fun b hb => ?_).mono fun b hb _ => ?_, ((HXE.out.setCell (by simp) _).setCell (by simp) _).setCell (by simp) _⟩
          · have hbn : b ≠ w.heap.size + 1 := by
              rcases hb with h | h
              · have := h.2; omega
              · omega
            rw [Below.heap_setCell _ _ _ _ (by simpa using hbn), Below.heap_setCell _ _ _ _ (by simpa using hbn), Below.heap_setCell _ _ _ _ (by simpa using hbn)]
          · rcases hb with h | h
            · exact Or.inl h
            · right; omega
end Go.Proofs.Ytaifameeoipjjaa
