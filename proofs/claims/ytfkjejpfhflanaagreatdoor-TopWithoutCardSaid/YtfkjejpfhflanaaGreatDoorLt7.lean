/- Walks: the text of a lambda term, as the program writes it. -/
import Derived.Test.YtfkjejpfhflanaaGreatDoorZPTopWithoutOwn
namespace Go.Proofs.YtfkjejpfhflanaaGreatDoor
open Go.RowKit
set_option linter.unusedSimpArgs false
set_option linter.unusedVariables false
set_option maxRecDepth 8000

theorem wrap_is {n : Int} (h0 : -1000000 ≤ n) (h1 : n ≤ 1000000) : IntKind.i64.wrap n = n := by rw [IntKind.wrap_i64]; omega
theorem bsz (l : List UInt8) : (⟨l.toArray⟩ : ByteArray).size = l.length := by simp [ByteArray.size]

theorem lt_set3 {W : World} {A T : Nat} {x0 x1 x2 : Value} (h : Blk W A #[x0, x1, x2] T) (u u' u'' : Value) : Blk (((W.setCell ⟨A, 0, none⟩ u).setCell ⟨A, 1, none⟩ u').setCell ⟨A, 2, none⟩ u'') A #[u, u', u''] T := ((h.set 0 u).set 1 u').set 2 u''
theorem lt_set3o {W : World} {A B T : Nat} {cs : Array Value} (h : Blk W A cs T) (hn : A ≠ B) (u u' u'' : Value) : Blk (((W.setCell ⟨B, 0, none⟩ u).setCell ⟨B, 1, none⟩ u').setCell ⟨B, 2, none⟩ u'') A cs T := ((h.setOther 0 u hn).setOther 1 u' hn).setOther 2 u'' hn

/-- What is known all along while a knot is written: w0 is the world behind its box, o its box. -/
structure WrS (fr : List ByteArray) (B b o : Nat) (fv : Value) (q0 : Value) (cs : Array Value) (w0 : World) (pre : List UInt8) (q : Value) (w' : World) : Prop where
  wr : Wrt w' B b fv (Lib.byteCells pre) q
  fr : BFr w0 w' b q0 q
  bel : Below B w0 w'
  bx : Blk w' o cs 25
  ob : o ≠ b
  oq : some o ≠ q.ownBlock
  le : B ≤ w'.heap.size
theorem WrS.later {fr : List ByteArray} {B b o : Nat} {fv q0 : Value} {cs : Array Value} {w0 : World} {pre : List UInt8} {q : Value} {w1 w2 : World} (h : WrS fr B b o fv q0 cs w0 pre q w1) (hb : Below w1.heap.size w1 w2) : WrS fr B b o fv q0 cs w0 pre q w2 :=
  ⟨h.wr.later hb, h.fr.trans (BFr.of_below hb b q), h.bel.trans (hb.mono h.le), h.bx.below hb h.bx.lt, h.ob, h.oq, Nat.le_trans h.le hb.size⟩
theorem WrS.step {fr : List ByteArray} {B b o : Nat} {fv q0 : Value} {cs : Array Value} {w0 : World} {pre pre' : List UInt8} {q q' : Value} {w1 w2 : World} (h : WrS fr B b o fv q0 cs w0 pre q w1) (hw : Wrt w2 B b fv (Lib.byteCells pre') q') (hf : BFr w1 w2 b q q') : WrS fr B b o fv q0 cs w0 pre' q' w2 :=
  ⟨hw, h.fr.trans hf, h.bel.trans (h.wr.fr hf h.le), blk_bfr h.bx hf h.ob h.oq, h.ob, own_bfr hf h.bx.lt h.oq, Nat.le_trans h.le hf.2.2.2.1⟩

set_option maxHeartbeats 4000000 in
theorem wterm_any (fr : List ByteArray) (hfl : fr.length ≤ 40) (hfn : ∀ s ∈ fr, s.size ≤ 8) (t : Lm) : WT fr t := by
  induction t using Lm.ind with
  | h k x l ih =>
    intro d v q0 pre B b fa fc w X Y he hd hv hX hn hY hw hB hT hlen
    have IH := hide ih
    clear ih
    obtain ⟨a, c, rfl, hs⟩ := hv
    have hbox := hw.box
    have HB0 : Hid (Below w.heap.size w (w.alloc (.cells #[.int .i64 k, .int .i64 x, .slice a l.length c] 25))) := (Below.refl _ _).alloc (Nat.le_refl _) _
    have Z0 : Hid (WrS fr B b w.heap.size (.slice fa fr.length fc) q0 #[.int .i64 k, .int .i64 x, .slice a l.length c] (w.alloc (.cells #[.int .i64 k, .int .i64 x, .slice a l.length c] 25)) pre q0 (w.alloc (.cells #[.int .i64 k, .int .i64 x, .slice a l.length c] 25))) :=
      ⟨hw.alloc _, BFr.refl _ _ _, Below.refl _ _, Blk.new w _ _, hbox.1, hbox.2, by simp; omega⟩
    have HN := hide (hn.later HB0.out)
    have HT := hide (hT.on (HB0.out.mono hB))
    have HS := hide (hs.later HB0.out)
    have HF0 := hide (BFr.of_below HB0.out b q0)
    have k0 : (w.alloc (.cells #[.int .i64 k, .int .i64 x, .slice a l.length c] 25)).cell? ⟨w.heap.size, 0, none⟩ = some (.int .i64 k) := (Blk.new w #[.int .i64 k, .int .i64 x, .slice a l.length c] 25).cell 0
    clear hn hT hw hs HB0 hbox
    have hdI : (d : Int) ≤ 500 := by omega
    rcases may_look he with ⟨y, e, h0, h1⟩ | ⟨bd, e, hb⟩ | ⟨f, z, e, hf, hz⟩ | ⟨y, e, h0, h1⟩
    · cases e
      simp only [List.length_nil, List.length_cons, Nat.zero_add, Nat.reduceAdd] at Z0 HN HT HS HF0 k0
      have W1 : Hid (IntKind.i64.wrap ((d : Int) - 1) = (d : Int) - 1) := wrap_is (by omega) (by omega)
      have W2 : Hid (IntKind.i64.wrap ((d : Int) - 1 - x) = (d : Int) - 1 - x) := wrap_is (by omega) (by omega)
      have HE := hide (ltx_bound fr d x [])
      have hlen2 : pre.length + (nmAt fr (d - 1 - x)).length ≤ 900000000 := by rw [← HE.out]; exact hlen
      generalize ltx fr d ⟨1, x, []⟩ = R at HE hlen ⊢
      have hxI : x < 540 := by omega
      go_enter Tryz.func66, Tryz.ntmps66
      go_wp2_with fail
      generalize (w.alloc (.cells #[.int .i64 1, .int .i64 x, .slice a 0 c] 25)) = w0 at *
      have Zd := hide (Z0.out.later (Below.drew (Below.refl _ _)))
      clear Z0
      refine wp_region_held_drew (S := fun w' => Blk w' w.heap.size #[.int .i64 1, .int .i64 x, .slice a 0 c] 25) (by kernel_rfl) (by exact Zd.out.bx) (fun hHeld => ?_)
      generalize World.drew w0 = Wd at *
      refine wpAnyH_take (i := 0) (v := ?_) rfl (by kernel_rfl) (by kernel_rfl) (by kernel_rfl) (fun _ _ _ h => h) (Or.inl ⟨by rfl, ?_⟩) (by assumption) ?_
      rotate_left
      · intro w' hSw
        go_simp <;> with_reducible rfl
      try simp only [Act.put, List.setIfInBounds_toArray, List.set_cons_zero, List.set_cons_succ, List.getElem_toArray, List.getElem_cons_succ, List.getElem_cons_zero]
      refine wpAnyH_take (i := 1) (v := ?_) rfl (by kernel_rfl) (by kernel_rfl) (by kernel_rfl) (fun _ _ _ h => h) (Or.inl ⟨by rfl, ?_⟩) (by assumption) ?_
      rotate_left
      · intro w' hSw
        go_simp <;> with_reducible rfl
      try simp only [Act.put, List.setIfInBounds_toArray, List.set_cons_zero, List.set_cons_succ, List.getElem_toArray, List.getElem_cons_succ, List.getElem_cons_zero]
      refine wpAnyH_take (i := 2) (v := ?_) rfl (by kernel_rfl) (by kernel_rfl) (by kernel_rfl) (fun _ _ _ h => h) (Or.inl ⟨by rfl, ?_⟩) (by assumption) ?_
      rotate_left
      · intro w' hSw
        go_simp <;> with_reducible rfl
      try simp only [Act.put, List.setIfInBounds_toArray, List.set_cons_zero, List.set_cons_succ, List.getElem_toArray, List.getElem_cons_succ, List.getElem_cons_zero]
      refine wpAnyH_take (i := 3) (v := ?_) rfl (by kernel_rfl) (by kernel_rfl) (by kernel_rfl) (fun _ _ _ h => h) (Or.inl ⟨by rfl, ?_⟩) (by assumption) ?_
      rotate_left
      · intro w' hSw
        go_simp <;> with_reducible rfl
      try simp only [Act.put, List.setIfInBounds_toArray, List.set_cons_zero, List.set_cons_succ, List.getElem_toArray, List.getElem_cons_succ, List.getElem_cons_zero]
      refine wpAnyH_take (i := 4) (v := ?_) rfl (by kernel_rfl) (by kernel_rfl) (by kernel_rfl) (fun _ _ _ h => h) (Or.inl ⟨by rfl, ?_⟩) (by assumption) ?_
      rotate_left
      · intro w' hSw
        go_simp <;> with_reducible rfl
      try simp only [Act.put, List.setIfInBounds_toArray, List.set_cons_zero, List.set_cons_succ, List.getElem_toArray, List.getElem_cons_succ, List.getElem_cons_zero]
      refine wpAnyH_take (i := 5) (v := ?_) rfl (by kernel_rfl) (by kernel_rfl) (by kernel_rfl) (fun _ _ _ h => h) (Or.inl ⟨by rfl, ?_⟩) (by assumption) ?_
      rotate_left
      · intro w' hSw
        go_simp <;> with_reducible rfl
      try simp only [Act.put, List.setIfInBounds_toArray, List.set_cons_zero, List.set_cons_succ, List.getElem_toArray, List.getElem_cons_succ, List.getElem_cons_zero]
      refine wpAnyH_take (i := 6) (v := ?_) rfl (by kernel_rfl) (by kernel_rfl) (by kernel_rfl) (fun _ _ _ h => h) (Or.inl ⟨by rfl, ?_⟩) (by assumption) ?_
      rotate_left
      · intro w' hSw
        go_simp <;> with_reducible rfl
      try simp only [Act.put, List.setIfInBounds_toArray, List.set_cons_zero, List.set_cons_succ, List.getElem_toArray, List.getElem_cons_succ, List.getElem_cons_zero]
      refine wpAnyH_take (i := 7) (v := ?_) rfl (by kernel_rfl) (by kernel_rfl) (by kernel_rfl) (fun _ _ _ h => h) (Or.inl ⟨by rfl, ?_⟩) (by assumption) ?_
      rotate_left
      · intro w' hSw
        have k1 := hSw.cell 1
        simp only [List.getElem?_toArray, List.getElem?_cons_zero, List.getElem?_cons_succ] at k1
        go_simp <;> with_reducible rfl
      try simp only [Act.put, List.setIfInBounds_toArray, List.set_cons_zero, List.set_cons_succ, List.getElem_toArray, List.getElem_cons_succ, List.getElem_cons_zero]
      refine wpAnyH_take (i := 8) (v := ?_) rfl (by kernel_rfl) (by kernel_rfl) (by kernel_rfl) (fun _ _ _ h => h) (Or.inl ⟨by rfl, ?_⟩) (by assumption) ?_
      rotate_left
      · intro w' hSw
        go_simp <;> with_reducible rfl
      try simp only [Act.put, List.setIfInBounds_toArray, List.set_cons_zero, List.set_cons_succ, List.getElem_toArray, List.getElem_cons_succ, List.getElem_cons_zero]
      rw [W1.out, W2.out]
      refine wpAnyH_ready (rs := [9]) (by kernel_rfl) (by simp) ?_
      refine AllReadyH.cons rfl (fun K hK => ?_) AllReadyH.nil
      go_simp
      go_at_call 88
      refine (wname_any fr B b fa fc _ q0 (d - 1 - x) _ Y (by exact Zd.out.wr) (by exact HN.out.bfr Zd.out.bel hY) (HT.out.on Zd.out.bel) (by omega) (by omega) (by omega)).mono ?_
      rintro e wn ⟨rfl, hbn⟩
      have Zn := hide (Zd.out.later hbn)
      clear hbn Zd
      go_simp
      refine hK.out _ _ (by exact Zn.out.bx) (fun hHeld => ?_)
      clear hK K
      try simp only [Act.put, List.setIfInBounds_toArray, List.set_cons_zero, List.set_cons_succ, List.getElem_toArray, List.getElem_cons_succ, List.getElem_cons_zero]
      refine wpAnyH_ready (rs := [10]) (by kernel_rfl) (by simp) ?_
      refine AllReadyH.cons rfl (fun K hK => ?_) AllReadyH.nil
      go_simp
      go_at_call 87
      refine (writeStringW_any B b _ _ q0 _ _ (by exact Zn.out.wr) (by rw [Lib.byteCells_length, bsz]; (try simp only [List.length_append, List.length_cons, List.length_nil]); omega) Zn.out.le).mono ?_
      rintro e w1 ⟨rfl, q1, hws, hfs⟩
      rw [bc_str] at hws
      have Z1 := hide (Zn.out.step hws hfs)
      clear hws hfs Zn
      go_simp
      refine hK.out _ _ (by exact Z1.out.bx) (fun hHeld => ?_)
      clear hK K
      try simp only [Act.put, List.setIfInBounds_toArray, List.set_cons_zero, List.set_cons_succ, List.getElem_toArray, List.getElem_cons_succ, List.getElem_cons_zero]
      refine wpAnyH_done (by kernel_rfl) ?_ _
      go_wp2_with fail
      first | go_end0 | refine bodyPost_ret (v := .tuple #[]) (by simp [results, Tryz.results66, go_sem]) rfl ?_
      exact ⟨rfl, q1, by rw [HE.out]; exact Z1.out.wr, HF0.out.trans Z1.out.fr⟩
    · cases e
      simp only [List.length_nil, List.length_cons, Nat.zero_add, Nat.reduceAdd] at Z0 HN HT HS HF0 k0
      obtain ⟨bs, os, ab, cb, rfl, f0, f1, f2, hbv⟩ := HS.out.get (Below.refl _ _) (fun _ _ h => h) 0 (by simp)
      simp only [Nat.zero_mul, Nat.add_zero, List.getElem_cons_zero] at f0 f1 f2 hbv
      have hsz : sizeM [(⟨2, 0, [bd]⟩ : Lm)] = 1 + sizeM [bd] := by simp [sizeM]
      have HE := hide (ltx_fun fr d 0 bd)
      have hlen2 : pre.length + ((Lib.decDigits d).length + (ltx fr (d + 1) bd).length + 3) ≤ 900000000 := by rw [HE.out] at hlen; simp at hlen; omega
      have HB9 : Hid (errM ((fr.length : Int) + ((d + 1 : Nat) : Int)) 0 [bd] = 0) := by
        have e9 : ((fr.length : Int) + ((d + 1 : Nat) : Int)) = fr.length + d + 1 := by omega
        unfold Hid; rw [e9]; exact hb
      have HV := hide hbv
      have HC := hide (And.intro f0 (And.intro f1 f2))
      generalize ltx fr d ⟨2, 0, [bd]⟩ = R at HE hlen ⊢
      have HNM : Hid (nmAt fr (d : Int) = 120 :: Lib.decDigits d) := by unfold Hid nmAt; rw [if_neg (by omega)]; simp
      clear hbv f0 f1 f2
      go_enter Tryz.func66, Tryz.ntmps66
      go_wp2_with fail
      generalize (w.alloc (.cells #[.int .i64 2, .int .i64 0, .slice (some ⟨bs, os, none⟩) 1 c] 25)) = w0 at *
      refine (writeByteW_any B b _ _ q0 92 _ (by exact Z0.out.wr) (by rw [Lib.byteCells_length]; (try simp only [List.length_append, List.length_cons, List.length_nil]); omega) Z0.out.le).mono ?_
      rintro e w1 ⟨rfl, q1, hws, hfs⟩
      have hws' : Wrt w1 B b (.slice fa fr.length fc) (Lib.byteCells (pre ++ [92])) q1 := by rw [← bc_one]; exact hws
      have Z1 := hide (Z0.out.step hws' hfs)
      clear hws hws' hfs Z0
      go_wp2_with fail
      have Zd := hide (Z1.out.later (Below.drew (Below.refl _ _)))
      clear Z1
      refine wp_region_held_drew (S := fun w' => Blk w' w.heap.size #[.int .i64 2, .int .i64 0, .slice (some ⟨bs, os, none⟩) 1 c] 25) (by kernel_rfl) (by exact Zd.out.bx) (fun hHeld => ?_)
      generalize World.drew w1 = Wd at *
      refine wpAnyH_take (i := 0) (v := ?_) rfl (by kernel_rfl) (by kernel_rfl) (by kernel_rfl) (fun _ _ _ h => h) (Or.inl ⟨by rfl, ?_⟩) (by assumption) ?_
      rotate_left
      · intro w' hSw
        go_simp <;> with_reducible rfl
      try simp only [Act.put, List.setIfInBounds_toArray, List.set_cons_zero, List.set_cons_succ, List.getElem_toArray, List.getElem_cons_succ, List.getElem_cons_zero]
      refine wpAnyH_take (i := 1) (v := ?_) rfl (by kernel_rfl) (by kernel_rfl) (by kernel_rfl) (fun _ _ _ h => h) (Or.inl ⟨by rfl, ?_⟩) (by assumption) ?_
      rotate_left
      · intro w' hSw
        go_simp <;> with_reducible rfl
      try simp only [Act.put, List.setIfInBounds_toArray, List.set_cons_zero, List.set_cons_succ, List.getElem_toArray, List.getElem_cons_succ, List.getElem_cons_zero]
      refine wpAnyH_take (i := 2) (v := ?_) rfl (by kernel_rfl) (by kernel_rfl) (by kernel_rfl) (fun _ _ _ h => h) (Or.inl ⟨by rfl, ?_⟩) (by assumption) ?_
      rotate_left
      · intro w' hSw
        go_simp <;> with_reducible rfl
      try simp only [Act.put, List.setIfInBounds_toArray, List.set_cons_zero, List.set_cons_succ, List.getElem_toArray, List.getElem_cons_succ, List.getElem_cons_zero]
      refine wpAnyH_take (i := 3) (v := ?_) rfl (by kernel_rfl) (by kernel_rfl) (by kernel_rfl) (fun _ _ _ h => h) (Or.inl ⟨by rfl, ?_⟩) (by assumption) ?_
      rotate_left
      · intro w' hSw
        go_simp <;> with_reducible rfl
      try simp only [Act.put, List.setIfInBounds_toArray, List.set_cons_zero, List.set_cons_succ, List.getElem_toArray, List.getElem_cons_succ, List.getElem_cons_zero]
      refine wpAnyH_take (i := 4) (v := ?_) rfl (by kernel_rfl) (by kernel_rfl) (by kernel_rfl) (fun _ _ _ h => h) (Or.inl ⟨by rfl, ?_⟩) (by assumption) ?_
      rotate_left
      · intro w' hSw
        go_simp <;> with_reducible rfl
      try simp only [Act.put, List.setIfInBounds_toArray, List.set_cons_zero, List.set_cons_succ, List.getElem_toArray, List.getElem_cons_succ, List.getElem_cons_zero]
      refine wpAnyH_ready (rs := [5]) (by kernel_rfl) (by simp) ?_
      refine AllReadyH.cons rfl (fun K hK => ?_) AllReadyH.nil
      go_simp
      go_at_call 88
      refine (wname_any fr B b fa fc _ q1 (d : Int) _ Y (by exact Zd.out.wr) (by exact HN.out.bfr Zd.out.bel hY) (HT.out.on Zd.out.bel) (by omega) (by omega) (by omega)).mono ?_
      rintro e wn ⟨rfl, hbn⟩
      have Zn := hide (Zd.out.later hbn)
      clear hbn Zd
      go_simp
      refine hK.out _ _ (by exact Zn.out.bx) (fun hHeld => ?_)
      clear hK K
      try simp only [Act.put, List.setIfInBounds_toArray, List.set_cons_zero, List.set_cons_succ, List.getElem_toArray, List.getElem_cons_succ, List.getElem_cons_zero]
      rw [HNM.out]
      refine wpAnyH_ready (rs := [6]) (by kernel_rfl) (by simp) ?_
      refine AllReadyH.cons rfl (fun K hK => ?_) AllReadyH.nil
      go_simp
      go_at_call 87
      refine (writeStringW_any B b _ _ q1 _ _ (by exact Zn.out.wr) (by rw [Lib.byteCells_length, bsz]; (try simp only [List.length_append, List.length_cons, List.length_nil]); omega) Zn.out.le).mono ?_
      rintro e w2 ⟨rfl, q2, hws, hfs⟩
      rw [bc_str] at hws
      have Z2 := hide (Zn.out.step hws hfs)
      clear hws hfs Zn
      go_simp
      refine hK.out _ _ (by exact Z2.out.bx) (fun hHeld => ?_)
      clear hK K
      try simp only [Act.put, List.setIfInBounds_toArray, List.set_cons_zero, List.set_cons_succ, List.getElem_toArray, List.getElem_cons_succ, List.getElem_cons_zero]
      refine wpAnyH_done (by kernel_rfl) ?_ _
      go_wp2_with fail
      refine (writeByteW_any B b _ _ q2 46 _ (by exact Z2.out.wr) (by rw [Lib.byteCells_length]; (try simp only [List.length_append, List.length_cons, List.length_nil]); omega) Z2.out.le).mono ?_
      rintro e w3 ⟨rfl, q3, hws, hfs⟩
      have hws' : Wrt w3 B b (.slice fa fr.length fc) (Lib.byteCells (pre ++ [92] ++ (120 :: Lib.decDigits d) ++ [46])) q3 := by rw [← bc_one]; exact hws
      have Z3 := hide (Z2.out.step hws' hfs)
      clear hws hws' hfs Z2
      have k2 := Z3.out.bx.cell 2
      simp only [List.getElem?_toArray, List.getElem?_cons_zero, List.getElem?_cons_succ] at k2
      obtain ⟨bs', os', ab', cb', e', f0, f1, f2, hbv⟩ := HS.out.get Z3.out.bel (fun x hx _ => hX x hx) 0 (by simp)
      cases e'
      simp only [Nat.zero_mul, Nat.add_zero, List.getElem_cons_zero] at f0 f1 f2 hbv
      have HV3 := hide hbv
      clear hbv
      go_wp2_with fail
      have e5 : (d : Int) + 1 = ((d + 1 : Nat) : Int) := by omega
      rw [e5]
      clear e5
      refine (IH.out bd (by simp) (d + 1) _ q3 _ B b fa fc _ X Y HB9.out (by omega) (by exact HV3.out) hX (by exact HN.out.bfr Z3.out.bel hY) hY (by exact Z3.out.wr) Z3.out.le (HT.out.on Z3.out.bel) (by simp only [List.length_append, List.length_cons, List.length_nil]; omega)).mono ?_
      rintro e w4 ⟨rfl, q4, hws, hfs⟩
      have Z4 := hide (Z3.out.step hws hfs)
      clear hws hfs
      go_wp2_with fail
      first | go_end0 | refine bodyPost_ret (v := .tuple #[]) (by simp [results, Tryz.results66, go_sem]) rfl ?_
      exact ⟨rfl, q4, by rw [HE.out]; simpa using Z4.out.wr, HF0.out.trans Z4.out.fr⟩
    · cases e
      simp only [List.length_nil, List.length_cons, Nat.zero_add, Nat.reduceAdd] at Z0 HN HT HS HF0 k0
      obtain ⟨bs, os, af, cf, rfl, f0, f1, f2, hfv⟩ := HS.out.get (Below.refl _ _) (fun _ _ h => h) 0 (by simp)
      obtain ⟨bs', os', az, cz, e', z0, z1, z2, hzv⟩ := HS.out.get (Below.refl _ _) (fun _ _ h => h) 1 (by simp)
      cases e'
      simp only [Nat.zero_mul, Nat.add_zero, Nat.one_mul, List.getElem_cons_zero, List.getElem_cons_succ] at f0 f1 f2 z0 z1 z2 hfv hzv
      have hsz : sizeM [(⟨3, 0, [f, z]⟩ : Lm)] = 1 + (sizeM [f] + sizeM [z]) := by
        obtain ⟨k1, y1, m1⟩ := f; obtain ⟨k2, y2, m2⟩ := z
        simp only [sizeM]; omega
      have HE := hide (ltx_app fr d 0 f z)
      have hlen2 : pre.length + ((brk (f.kind == 2) (ltx fr d f)).length + (brk (z.kind == 2 || z.kind == 3) (ltx fr d z)).length + 1) ≤ 900000000 := by rw [HE.out] at hlen; simp at hlen; omega
      generalize ltx fr d ⟨3, 0, [f, z]⟩ = R at HE hlen ⊢
      have HF := hide hfv
      have HZ := hide hzv
      have HC := hide (And.intro f0 (And.intro f1 (And.intro f2 (And.intro z0 (And.intro z1 z2)))))
      clear hfv hzv f0 f1 f2 z0 z1 z2
      go_enter Tryz.func66, Tryz.ntmps66
      go_wp2_with fail
      generalize (w.alloc (.cells #[.int .i64 3, .int .i64 0, .slice (some ⟨bs, os, none⟩) 2 c] 25)) = w0 at *
      have Zd := hide (Z0.out.later (Below.drew (Below.refl _ _)))
      clear Z0
      have HCd : Hid (Below w0.heap.size w0 w0.drew) := Below.drew (Below.refl _ _)
      refine wp_region_held_drew (S := fun w' => Blk w' w.heap.size #[.int .i64 3, .int .i64 0, .slice (some ⟨bs, os, none⟩) 2 c] 25 ∧ Below w0.heap.size w0 w') (by kernel_rfl) (by exact ⟨Zd.out.bx, HCd.out⟩) (fun hHeld => ?_)
      generalize World.drew w0 = Wd at *
      refine wpAnyH_take (i := 0) (v := ?_) rfl (by kernel_rfl) (by kernel_rfl) (by kernel_rfl) (fun _ _ _ h => h) (Or.inl ⟨by rfl, ?_⟩) (by assumption) ?_
      rotate_left
      · intro w' hSw
        go_simp <;> with_reducible rfl
      try simp only [Act.put, List.setIfInBounds_toArray, List.set_cons_zero, List.set_cons_succ, List.getElem_toArray, List.getElem_cons_succ, List.getElem_cons_zero]
      refine wpAnyH_take (i := 1) (v := ?_) rfl (by kernel_rfl) (by kernel_rfl) (by kernel_rfl) (fun _ _ _ h => h) (Or.inl ⟨by rfl, ?_⟩) (by assumption) ?_
      rotate_left
      · intro w' hSw
        have k2 := hSw.1.cell 2
        simp only [List.getElem?_toArray, List.getElem?_cons_zero, List.getElem?_cons_succ] at k2
        go_simp <;> with_reducible rfl
      try simp only [Act.put, List.setIfInBounds_toArray, List.set_cons_zero, List.set_cons_succ, List.getElem_toArray, List.getElem_cons_succ, List.getElem_cons_zero]
      refine wpAnyH_take (i := 2) (v := ?_) rfl (by kernel_rfl) (by kernel_rfl) (by kernel_rfl) (fun _ _ _ h => h) (Or.inl ⟨by rfl, ?_⟩) (by assumption) ?_
      rotate_left
      · intro w' hSw
        go_simp <;> with_reducible rfl
      try simp only [Act.put, List.setIfInBounds_toArray, List.set_cons_zero, List.set_cons_succ, List.getElem_toArray, List.getElem_cons_succ, List.getElem_cons_zero]
      refine wpAnyH_take (i := 3) (v := ?_) rfl (by kernel_rfl) (by kernel_rfl) (by kernel_rfl) (fun _ _ _ h => h) (Or.inl ⟨by rfl, ?_⟩) (by assumption) ?_
      rotate_left
      · intro w' hSw
        have f0 := cell_is HC.out.1 hSw.2
        have f1 := cell_is HC.out.2.1 hSw.2
        have f2 := cell_is HC.out.2.2.1 hSw.2
        have z0 := cell_is HC.out.2.2.2.1 hSw.2
        have z1 := cell_is HC.out.2.2.2.2.1 hSw.2
        have z2 := cell_is HC.out.2.2.2.2.2 hSw.2
        go_simp <;> with_reducible rfl
      try simp only [Act.put, List.setIfInBounds_toArray, List.set_cons_zero, List.set_cons_succ, List.getElem_toArray, List.getElem_cons_succ, List.getElem_cons_zero]
      refine wpAnyH_take (i := 4) (v := ?_) rfl (by kernel_rfl) (by kernel_rfl) (by kernel_rfl) (fun _ _ _ h => h) (Or.inl ⟨by rfl, ?_⟩) (by assumption) ?_
      rotate_left
      · intro w' hSw
        go_simp <;> with_reducible rfl
      try simp only [Act.put, List.setIfInBounds_toArray, List.set_cons_zero, List.set_cons_succ, List.getElem_toArray, List.getElem_cons_succ, List.getElem_cons_zero]
      refine wpAnyH_take (i := 5) (v := ?_) rfl (by kernel_rfl) (by kernel_rfl) (by kernel_rfl) (fun _ _ _ h => h) (Or.inl ⟨by rfl, ?_⟩) (by assumption) ?_
      rotate_left
      · intro w' hSw
        have k2 := hSw.1.cell 2
        simp only [List.getElem?_toArray, List.getElem?_cons_zero, List.getElem?_cons_succ] at k2
        go_simp <;> with_reducible rfl
      try simp only [Act.put, List.setIfInBounds_toArray, List.set_cons_zero, List.set_cons_succ, List.getElem_toArray, List.getElem_cons_succ, List.getElem_cons_zero]
      refine wpAnyH_take (i := 6) (v := ?_) rfl (by kernel_rfl) (by kernel_rfl) (by kernel_rfl) (fun _ _ _ h => h) (Or.inl ⟨by rfl, ?_⟩) (by assumption) ?_
      rotate_left
      · intro w' hSw
        go_simp <;> with_reducible rfl
      try simp only [Act.put, List.setIfInBounds_toArray, List.set_cons_zero, List.set_cons_succ, List.getElem_toArray, List.getElem_cons_succ, List.getElem_cons_zero]
      refine wpAnyH_take (i := 7) (v := ?_) rfl (by kernel_rfl) (by kernel_rfl) (by kernel_rfl) (fun _ _ _ h => h) (Or.inl ⟨by rfl, ?_⟩) (by assumption) ?_
      rotate_left
      · intro w' hSw
        have f0 := cell_is HC.out.1 hSw.2
        have f1 := cell_is HC.out.2.1 hSw.2
        have f2 := cell_is HC.out.2.2.1 hSw.2
        have z0 := cell_is HC.out.2.2.2.1 hSw.2
        have z1 := cell_is HC.out.2.2.2.2.1 hSw.2
        have z2 := cell_is HC.out.2.2.2.2.2 hSw.2
        go_simp <;> with_reducible rfl
      try simp only [Act.put, List.setIfInBounds_toArray, List.set_cons_zero, List.set_cons_succ, List.getElem_toArray, List.getElem_cons_succ, List.getElem_cons_zero]
      refine wpAnyH_ready (rs := [8, 9]) (by kernel_rfl) (by simp) ?_
      refine AllReadyH.cons rfl (fun K hK => ?_) (AllReadyH.cons rfl (fun K hK => ?_) AllReadyH.nil)
      · go_simp
        refine hK.out _ _ (by exact ⟨(Zd.out.later ((Below.refl _ _).alloc (Nat.le_refl _) _)).bx, HCd.out.alloc HCd.out.size _⟩) (fun hHeld => ?_)
        clear hK K
        try simp only [Act.put, List.setIfInBounds_toArray, List.set_cons_zero, List.set_cons_succ, List.getElem_toArray, List.getElem_cons_succ, List.getElem_cons_zero]
        have A1 := hide (Blk.new Wd #[.int .i64 0, .int .i64 0, .slice none 0 0] 25)
        have hz1 : (Wd.alloc (.cells #[.int .i64 0, .int .i64 0, .slice none 0 0] 25)).heap.size = Wd.heap.size + 1 := by simp
        have B1 : Hid (Below Wd.heap.size Wd (Wd.alloc (.cells #[.int .i64 0, .int .i64 0, .slice none 0 0] 25))) := (Below.refl _ _).alloc (Nat.le_refl _) _
        generalize (Wd.alloc (.cells #[.int .i64 0, .int .i64 0, .slice none 0 0] 25)) = W1 at *
        refine wpAnyH_ready (rs := [9]) (by kernel_rfl) (by simp) ?_
        refine AllReadyH.cons rfl (fun K hK => ?_) AllReadyH.nil
        go_simp
        refine hK.out _ _ (by exact ⟨(Zd.out.later (B1.out.alloc B1.out.size _)).bx, (HCd.out.trans (B1.out.mono HCd.out.size)).alloc (by have := HCd.out.size; have := B1.out.size; omega) _⟩) (fun hHeld => ?_)
        clear hK K
        try simp only [Act.put, List.setIfInBounds_toArray, List.set_cons_zero, List.set_cons_succ, List.getElem_toArray, List.getElem_cons_succ, List.getElem_cons_zero]
        have A2 : Hid (Blk (W1.alloc (.cells #[.int .i64 0, .int .i64 0, .slice none 0 0] 25)) (Wd.heap.size + 1) #[.int .i64 0, .int .i64 0, .slice none 0 0] 25) := by unfold Hid; rw [← hz1]; exact Blk.new W1 _ _
        have A1' := hide (A1.out.alloc (.cells #[.int .i64 0, .int .i64 0, .slice none 0 0] 25))
        have B2 : Hid (Below Wd.heap.size Wd (W1.alloc (.cells #[.int .i64 0, .int .i64 0, .slice none 0 0] 25))) := B1.out.alloc B1.out.size _
        clear A1 B1
        generalize (W1.alloc (.cells #[.int .i64 0, .int .i64 0, .slice none 0 0] 25)) = W2 at *
        have G6 : Hid (Blk W2 Wd.heap.size #[.int .i64 0, .int .i64 0, .slice none 0 0] 25) := A1'.out
        have G7 : Hid (Blk W2 (Wd.heap.size + 1) #[.int .i64 0, .int .i64 0, .slice none 0 0] 25) := A2.out
        clear A1' A2
        have g0 := G6.out.cell 0
        have g1 := G6.out.cell 1
        have g2 := G6.out.cell 2
        have g3 := G6.out.frozen
        simp only [List.getElem?_toArray, List.getElem?_cons_zero, List.getElem?_cons_succ] at g0 g1 g2
        have B3 : Hid (Below Wd.heap.size Wd (((W2.setCell ⟨Wd.heap.size, 0, none⟩ (.int .i64 f.kind)).setCell ⟨Wd.heap.size, 1, none⟩ (.int .i64 f.idx)).setCell ⟨Wd.heap.size, 2, none⟩ (.slice af f.subs.length cf))) := ((B2.out.setCell (by simp) _).setCell (by simp) _).setCell (by simp) _
        refine wpAnyH_ready (rs := [10]) (by kernel_rfl) (by simp) ?_
        refine AllReadyH.cons rfl (fun K hK => ?_) AllReadyH.nil
        go_simp
        refine hK.out _ _ (by exact ⟨(Zd.out.later B3.out).bx, HCd.out.trans (B3.out.mono HCd.out.size)⟩) (fun hHeld => ?_)
        clear hK K
        try simp only [Act.put, List.setIfInBounds_toArray, List.set_cons_zero, List.set_cons_succ, List.getElem_toArray, List.getElem_cons_succ, List.getElem_cons_zero]
        have J6 : Hid (Blk (((W2.setCell ⟨Wd.heap.size, 0, none⟩ (.int .i64 f.kind)).setCell ⟨Wd.heap.size, 1, none⟩ (.int .i64 f.idx)).setCell ⟨Wd.heap.size, 2, none⟩ (.slice af f.subs.length cf)) Wd.heap.size #[.int .i64 f.kind, .int .i64 f.idx, .slice af f.subs.length cf] 25) := lt_set3 G6.out _ _ _
        have J7 : Hid (Blk (((W2.setCell ⟨Wd.heap.size, 0, none⟩ (.int .i64 f.kind)).setCell ⟨Wd.heap.size, 1, none⟩ (.int .i64 f.idx)).setCell ⟨Wd.heap.size, 2, none⟩ (.slice af f.subs.length cf)) (Wd.heap.size + 1) #[.int .i64 0, .int .i64 0, .slice none 0 0] 25) := lt_set3o G7.out (by omega) _ _ _
        clear g0 g1 g2 g3 G6 G7 B2
        generalize (((W2.setCell ⟨Wd.heap.size, 0, none⟩ (.int .i64 f.kind)).setCell ⟨Wd.heap.size, 1, none⟩ (.int .i64 f.idx)).setCell ⟨Wd.heap.size, 2, none⟩ (.slice af f.subs.length cf)) = W3 at *
        have g0 := J7.out.cell 0
        have g1 := J7.out.cell 1
        have g2 := J7.out.cell 2
        have g3 := J7.out.frozen
        simp only [List.getElem?_toArray, List.getElem?_cons_zero, List.getElem?_cons_succ] at g0 g1 g2
        have B4 : Hid (Below Wd.heap.size Wd (((W3.setCell ⟨(Wd.heap.size + 1), 0, none⟩ (.int .i64 z.kind)).setCell ⟨(Wd.heap.size + 1), 1, none⟩ (.int .i64 z.idx)).setCell ⟨(Wd.heap.size + 1), 2, none⟩ (.slice az z.subs.length cz))) := ((B3.out.setCell (by simp) _).setCell (by simp) _).setCell (by simp) _
        refine wpAnyH_ready (rs := [11]) (by kernel_rfl) (by simp) ?_
        refine AllReadyH.cons rfl (fun K hK => ?_) AllReadyH.nil
        go_simp
        refine hK.out _ _ (by exact ⟨(Zd.out.later B4.out).bx, HCd.out.trans (B4.out.mono HCd.out.size)⟩) (fun hHeld => ?_)
        clear hK K
        try simp only [Act.put, List.setIfInBounds_toArray, List.set_cons_zero, List.set_cons_succ, List.getElem_toArray, List.getElem_cons_succ, List.getElem_cons_zero]
        have M6 : Hid (Blk (((W3.setCell ⟨(Wd.heap.size + 1), 0, none⟩ (.int .i64 z.kind)).setCell ⟨(Wd.heap.size + 1), 1, none⟩ (.int .i64 z.idx)).setCell ⟨(Wd.heap.size + 1), 2, none⟩ (.slice az z.subs.length cz)) Wd.heap.size #[.int .i64 f.kind, .int .i64 f.idx, .slice af f.subs.length cf] 25) := lt_set3o J6.out (by omega) _ _ _
        have M7 : Hid (Blk (((W3.setCell ⟨(Wd.heap.size + 1), 0, none⟩ (.int .i64 z.kind)).setCell ⟨(Wd.heap.size + 1), 1, none⟩ (.int .i64 z.idx)).setCell ⟨(Wd.heap.size + 1), 2, none⟩ (.slice az z.subs.length cz)) (Wd.heap.size + 1) #[.int .i64 z.kind, .int .i64 z.idx, .slice az z.subs.length cz] 25) := lt_set3 J7.out _ _ _
        clear g0 g1 g2 g3 J6 J7 B3
        generalize (((W3.setCell ⟨(Wd.heap.size + 1), 0, none⟩ (.int .i64 z.kind)).setCell ⟨(Wd.heap.size + 1), 1, none⟩ (.int .i64 z.idx)).setCell ⟨(Wd.heap.size + 1), 2, none⟩ (.slice az z.subs.length cz)) = W4 at *
        have ZW := hide (Zd.out.later B4.out)
        have hP6 : Hid (Wd.heap.size ≠ b ∧ some Wd.heap.size ≠ q0.ownBlock) := by
          have h1 := Zd.out.wr.lt
          exact ⟨by omega, fun e => by have := (Zd.out.wr.2.2.lt _ e.symm).2; omega⟩
        have hP7 : Hid ((Wd.heap.size + 1) ≠ b ∧ some (Wd.heap.size + 1) ≠ q0.ownBlock) := by
          have h1 := Zd.out.wr.lt
          exact ⟨by omega, fun e => by have := (Zd.out.wr.2.2.lt _ e.symm).2; omega⟩
        generalize hp7 : Wd.heap.size + 1 = P7 at M7 hP7 ⊢
        generalize hp6 : Wd.heap.size = P6 at M6 hP6 ⊢
        clear hp6 hp7 Zd B4 HCd hz1
        refine wpAnyH_done (by kernel_rfl) ?_ _
        have m0 := M6.out.cell 0
        have m1 := M6.out.cell 1
        have m2 := M6.out.cell 2
        simp only [List.getElem?_toArray, List.getElem?_cons_zero, List.getElem?_cons_succ] at m0 m1 m2
        go_wp2_with fail
        refine (wpiece_any fr f (IH.out f (by simp)) (f.kind == 2) d _ q0 pre B b fa fc _ X Y hf (by omega) (by exact HF.out.bfr ZW.out.bel hX) hX (by exact HN.out.bfr ZW.out.bel hY) hY (by exact ZW.out.wr) ZW.out.le (HT.out.on ZW.out.bel) (by omega)).mono ?_
        rintro e w1 ⟨rfl, q1, hws, hfs⟩
        have Z1 := hide (ZW.out.step hws hfs)
        have M7a := hide (blk_bfr M7.out hfs hP7.out.1 hP7.out.2)
        have h71 := hide (own_bfr hfs M7.out.lt hP7.out.2)
        clear hws hfs m0 m1 m2 M6 hP6 ZW M7
        go_wp2_with fail
        refine (writeByteW_any B b _ _ q1 32 _ (by exact Z1.out.wr) (by rw [Lib.byteCells_length]; (try simp only [List.length_append, List.length_cons, List.length_nil]); omega) Z1.out.le).mono ?_
        rintro e w2 ⟨rfl, q2, hws, hfs⟩
        have hws' : Wrt w2 B b (.slice fa fr.length fc) (Lib.byteCells (pre ++ brk (f.kind == 2) (ltx fr d f) ++ [32])) q2 := by rw [← bc_one]; exact hws
        have M7b := hide (blk_bfr M7a.out hfs hP7.out.1 h71.out)
        have Z2 := hide (Z1.out.step hws' hfs)
        clear hws hws' hfs Z1
        have m0 := M7b.out.cell 0
        have m1 := M7b.out.cell 1
        have m2 := M7b.out.cell 2
        simp only [List.getElem?_toArray, List.getElem?_cons_zero, List.getElem?_cons_succ] at m0 m1 m2
        cases hb2 : (z.kind == 2) with
        | true =>
          have hbr : Hid ((z.kind == 2 || z.kind == 3) = true) := by unfold Hid; simp [hb2]
          rw [hbr.out] at hlen2 HE
          go_wp2_with fail
          refine (wpiece_any fr z (IH.out z (by simp)) true d _ q2 _ B b fa fc _ X Y hz (by omega) (by exact HZ.out.bfr Z2.out.bel hX) hX (by exact HN.out.bfr Z2.out.bel hY) hY (by exact Z2.out.wr) Z2.out.le (HT.out.on Z2.out.bel) (by simp only [List.length_append, List.length_cons, List.length_nil]; omega)).mono ?_
          rintro e w3 ⟨rfl, q3, hws, hfs⟩
          have Z3 := hide (Z2.out.step hws hfs)
          clear hws hfs
          go_wp2_with fail
          first | go_end0 | refine bodyPost_ret (v := .tuple #[]) (by simp [results, Tryz.results66, go_sem]) rfl ?_
          exact ⟨rfl, q3, by rw [HE.out]; simpa using Z3.out.wr, HF0.out.trans Z3.out.fr⟩
        | false =>
          cases hb3 : (z.kind == 3) with
          | true =>
            have hbr : Hid ((z.kind == 2 || z.kind == 3) = true) := by unfold Hid; simp [hb2, hb3]
            rw [hbr.out] at hlen2 HE
            go_wp2_with fail
            refine (wpiece_any fr z (IH.out z (by simp)) true d _ q2 _ B b fa fc _ X Y hz (by omega) (by exact HZ.out.bfr Z2.out.bel hX) hX (by exact HN.out.bfr Z2.out.bel hY) hY (by exact Z2.out.wr) Z2.out.le (HT.out.on Z2.out.bel) (by simp only [List.length_append, List.length_cons, List.length_nil]; omega)).mono ?_
            rintro e w3 ⟨rfl, q3, hws, hfs⟩
            have Z3 := hide (Z2.out.step hws hfs)
            clear hws hfs
            go_wp2_with fail
            first | go_end0 | refine bodyPost_ret (v := .tuple #[]) (by simp [results, Tryz.results66, go_sem]) rfl ?_
            exact ⟨rfl, q3, by rw [HE.out]; simpa using Z3.out.wr, HF0.out.trans Z3.out.fr⟩
          | false =>
            have hbr : Hid ((z.kind == 2 || z.kind == 3) = false) := by unfold Hid; simp [hb2, hb3]
            rw [hbr.out] at hlen2 HE
            go_wp2_with fail
            refine (wpiece_any fr z (IH.out z (by simp)) false d _ q2 _ B b fa fc _ X Y hz (by omega) (by exact HZ.out.bfr Z2.out.bel hX) hX (by exact HN.out.bfr Z2.out.bel hY) hY (by exact Z2.out.wr) Z2.out.le (HT.out.on Z2.out.bel) (by simp only [List.length_append, List.length_cons, List.length_nil]; omega)).mono ?_
            rintro e w3 ⟨rfl, q3, hws, hfs⟩
            have Z3 := hide (Z2.out.step hws hfs)
            clear hws hfs
            go_wp2_with fail
            first | go_end0 | refine bodyPost_ret (v := .tuple #[]) (by simp [results, Tryz.results66, go_sem]) rfl ?_
            exact ⟨rfl, q3, by rw [HE.out]; simpa using Z3.out.wr, HF0.out.trans Z3.out.fr⟩
      · go_simp
        refine hK.out _ _ (by exact ⟨(Zd.out.later ((Below.refl _ _).alloc (Nat.le_refl _) _)).bx, HCd.out.alloc HCd.out.size _⟩) (fun hHeld => ?_)
        clear hK K
        try simp only [Act.put, List.setIfInBounds_toArray, List.set_cons_zero, List.set_cons_succ, List.getElem_toArray, List.getElem_cons_succ, List.getElem_cons_zero]
        have A1 := hide (Blk.new Wd #[.int .i64 0, .int .i64 0, .slice none 0 0] 25)
        have hz1 : (Wd.alloc (.cells #[.int .i64 0, .int .i64 0, .slice none 0 0] 25)).heap.size = Wd.heap.size + 1 := by simp
        have B1 : Hid (Below Wd.heap.size Wd (Wd.alloc (.cells #[.int .i64 0, .int .i64 0, .slice none 0 0] 25))) := (Below.refl _ _).alloc (Nat.le_refl _) _
        generalize (Wd.alloc (.cells #[.int .i64 0, .int .i64 0, .slice none 0 0] 25)) = W1 at *
        refine wpAnyH_ready (rs := [8]) (by kernel_rfl) (by simp) ?_
        refine AllReadyH.cons rfl (fun K hK => ?_) AllReadyH.nil
        go_simp
        refine hK.out _ _ (by exact ⟨(Zd.out.later (B1.out.alloc B1.out.size _)).bx, (HCd.out.trans (B1.out.mono HCd.out.size)).alloc (by have := HCd.out.size; have := B1.out.size; omega) _⟩) (fun hHeld => ?_)
        clear hK K
        try simp only [Act.put, List.setIfInBounds_toArray, List.set_cons_zero, List.set_cons_succ, List.getElem_toArray, List.getElem_cons_succ, List.getElem_cons_zero]
        have A2 : Hid (Blk (W1.alloc (.cells #[.int .i64 0, .int .i64 0, .slice none 0 0] 25)) (Wd.heap.size + 1) #[.int .i64 0, .int .i64 0, .slice none 0 0] 25) := by unfold Hid; rw [← hz1]; exact Blk.new W1 _ _
        have A1' := hide (A1.out.alloc (.cells #[.int .i64 0, .int .i64 0, .slice none 0 0] 25))
        have B2 : Hid (Below Wd.heap.size Wd (W1.alloc (.cells #[.int .i64 0, .int .i64 0, .slice none 0 0] 25))) := B1.out.alloc B1.out.size _
        clear A1 B1
        generalize (W1.alloc (.cells #[.int .i64 0, .int .i64 0, .slice none 0 0] 25)) = W2 at *
        have G6 : Hid (Blk W2 (Wd.heap.size + 1) #[.int .i64 0, .int .i64 0, .slice none 0 0] 25) := A2.out
        have G7 : Hid (Blk W2 Wd.heap.size #[.int .i64 0, .int .i64 0, .slice none 0 0] 25) := A1'.out
        clear A1' A2
        have g0 := G6.out.cell 0
        have g1 := G6.out.cell 1
        have g2 := G6.out.cell 2
        have g3 := G6.out.frozen
        simp only [List.getElem?_toArray, List.getElem?_cons_zero, List.getElem?_cons_succ] at g0 g1 g2
        have B3 : Hid (Below Wd.heap.size Wd (((W2.setCell ⟨(Wd.heap.size + 1), 0, none⟩ (.int .i64 f.kind)).setCell ⟨(Wd.heap.size + 1), 1, none⟩ (.int .i64 f.idx)).setCell ⟨(Wd.heap.size + 1), 2, none⟩ (.slice af f.subs.length cf))) := ((B2.out.setCell (by simp) _).setCell (by simp) _).setCell (by simp) _
        refine wpAnyH_ready (rs := [10]) (by kernel_rfl) (by simp) ?_
        refine AllReadyH.cons rfl (fun K hK => ?_) AllReadyH.nil
        go_simp
        refine hK.out _ _ (by exact ⟨(Zd.out.later B3.out).bx, HCd.out.trans (B3.out.mono HCd.out.size)⟩) (fun hHeld => ?_)
        clear hK K
        try simp only [Act.put, List.setIfInBounds_toArray, List.set_cons_zero, List.set_cons_succ, List.getElem_toArray, List.getElem_cons_succ, List.getElem_cons_zero]
        have J6 : Hid (Blk (((W2.setCell ⟨(Wd.heap.size + 1), 0, none⟩ (.int .i64 f.kind)).setCell ⟨(Wd.heap.size + 1), 1, none⟩ (.int .i64 f.idx)).setCell ⟨(Wd.heap.size + 1), 2, none⟩ (.slice af f.subs.length cf)) (Wd.heap.size + 1) #[.int .i64 f.kind, .int .i64 f.idx, .slice af f.subs.length cf] 25) := lt_set3 G6.out _ _ _
        have J7 : Hid (Blk (((W2.setCell ⟨(Wd.heap.size + 1), 0, none⟩ (.int .i64 f.kind)).setCell ⟨(Wd.heap.size + 1), 1, none⟩ (.int .i64 f.idx)).setCell ⟨(Wd.heap.size + 1), 2, none⟩ (.slice af f.subs.length cf)) Wd.heap.size #[.int .i64 0, .int .i64 0, .slice none 0 0] 25) := lt_set3o G7.out (by omega) _ _ _
        clear g0 g1 g2 g3 G6 G7 B2
        generalize (((W2.setCell ⟨(Wd.heap.size + 1), 0, none⟩ (.int .i64 f.kind)).setCell ⟨(Wd.heap.size + 1), 1, none⟩ (.int .i64 f.idx)).setCell ⟨(Wd.heap.size + 1), 2, none⟩ (.slice af f.subs.length cf)) = W3 at *
        have g0 := J7.out.cell 0
        have g1 := J7.out.cell 1
        have g2 := J7.out.cell 2
        have g3 := J7.out.frozen
        simp only [List.getElem?_toArray, List.getElem?_cons_zero, List.getElem?_cons_succ] at g0 g1 g2
        have B4 : Hid (Below Wd.heap.size Wd (((W3.setCell ⟨Wd.heap.size, 0, none⟩ (.int .i64 z.kind)).setCell ⟨Wd.heap.size, 1, none⟩ (.int .i64 z.idx)).setCell ⟨Wd.heap.size, 2, none⟩ (.slice az z.subs.length cz))) := ((B3.out.setCell (by simp) _).setCell (by simp) _).setCell (by simp) _
        refine wpAnyH_ready (rs := [11]) (by kernel_rfl) (by simp) ?_
        refine AllReadyH.cons rfl (fun K hK => ?_) AllReadyH.nil
        go_simp
        refine hK.out _ _ (by exact ⟨(Zd.out.later B4.out).bx, HCd.out.trans (B4.out.mono HCd.out.size)⟩) (fun hHeld => ?_)
        clear hK K
        try simp only [Act.put, List.setIfInBounds_toArray, List.set_cons_zero, List.set_cons_succ, List.getElem_toArray, List.getElem_cons_succ, List.getElem_cons_zero]
        have M6 : Hid (Blk (((W3.setCell ⟨Wd.heap.size, 0, none⟩ (.int .i64 z.kind)).setCell ⟨Wd.heap.size, 1, none⟩ (.int .i64 z.idx)).setCell ⟨Wd.heap.size, 2, none⟩ (.slice az z.subs.length cz)) (Wd.heap.size + 1) #[.int .i64 f.kind, .int .i64 f.idx, .slice af f.subs.length cf] 25) := lt_set3o J6.out (by omega) _ _ _
        have M7 : Hid (Blk (((W3.setCell ⟨Wd.heap.size, 0, none⟩ (.int .i64 z.kind)).setCell ⟨Wd.heap.size, 1, none⟩ (.int .i64 z.idx)).setCell ⟨Wd.heap.size, 2, none⟩ (.slice az z.subs.length cz)) Wd.heap.size #[.int .i64 z.kind, .int .i64 z.idx, .slice az z.subs.length cz] 25) := lt_set3 J7.out _ _ _
        clear g0 g1 g2 g3 J6 J7 B3
        generalize (((W3.setCell ⟨Wd.heap.size, 0, none⟩ (.int .i64 z.kind)).setCell ⟨Wd.heap.size, 1, none⟩ (.int .i64 z.idx)).setCell ⟨Wd.heap.size, 2, none⟩ (.slice az z.subs.length cz)) = W4 at *
        have ZW := hide (Zd.out.later B4.out)
        have hP6 : Hid ((Wd.heap.size + 1) ≠ b ∧ some (Wd.heap.size + 1) ≠ q0.ownBlock) := by
          have h1 := Zd.out.wr.lt
          exact ⟨by omega, fun e => by have := (Zd.out.wr.2.2.lt _ e.symm).2; omega⟩
        have hP7 : Hid (Wd.heap.size ≠ b ∧ some Wd.heap.size ≠ q0.ownBlock) := by
          have h1 := Zd.out.wr.lt
          exact ⟨by omega, fun e => by have := (Zd.out.wr.2.2.lt _ e.symm).2; omega⟩
        generalize hp6 : Wd.heap.size + 1 = P6 at M6 hP6 ⊢
        generalize hp7 : Wd.heap.size = P7 at M7 hP7 ⊢
        clear hp6 hp7 Zd B4 HCd hz1
        refine wpAnyH_done (by kernel_rfl) ?_ _
        have m0 := M6.out.cell 0
        have m1 := M6.out.cell 1
        have m2 := M6.out.cell 2
        simp only [List.getElem?_toArray, List.getElem?_cons_zero, List.getElem?_cons_succ] at m0 m1 m2
        go_wp2_with fail
        refine (wpiece_any fr f (IH.out f (by simp)) (f.kind == 2) d _ q0 pre B b fa fc _ X Y hf (by omega) (by exact HF.out.bfr ZW.out.bel hX) hX (by exact HN.out.bfr ZW.out.bel hY) hY (by exact ZW.out.wr) ZW.out.le (HT.out.on ZW.out.bel) (by omega)).mono ?_
        rintro e w1 ⟨rfl, q1, hws, hfs⟩
        have Z1 := hide (ZW.out.step hws hfs)
        have M7a := hide (blk_bfr M7.out hfs hP7.out.1 hP7.out.2)
        have h71 := hide (own_bfr hfs M7.out.lt hP7.out.2)
        clear hws hfs m0 m1 m2 M6 hP6 ZW M7
        go_wp2_with fail
        refine (writeByteW_any B b _ _ q1 32 _ (by exact Z1.out.wr) (by rw [Lib.byteCells_length]; (try simp only [List.length_append, List.length_cons, List.length_nil]); omega) Z1.out.le).mono ?_
        rintro e w2 ⟨rfl, q2, hws, hfs⟩
        have hws' : Wrt w2 B b (.slice fa fr.length fc) (Lib.byteCells (pre ++ brk (f.kind == 2) (ltx fr d f) ++ [32])) q2 := by rw [← bc_one]; exact hws
        have M7b := hide (blk_bfr M7a.out hfs hP7.out.1 h71.out)
        have Z2 := hide (Z1.out.step hws' hfs)
        clear hws hws' hfs Z1
        have m0 := M7b.out.cell 0
        have m1 := M7b.out.cell 1
        have m2 := M7b.out.cell 2
        simp only [List.getElem?_toArray, List.getElem?_cons_zero, List.getElem?_cons_succ] at m0 m1 m2
        cases hb2 : (z.kind == 2) with
        | true =>
          have hbr : Hid ((z.kind == 2 || z.kind == 3) = true) := by unfold Hid; simp [hb2]
          rw [hbr.out] at hlen2 HE
          go_wp2_with fail
          refine (wpiece_any fr z (IH.out z (by simp)) true d _ q2 _ B b fa fc _ X Y hz (by omega) (by exact HZ.out.bfr Z2.out.bel hX) hX (by exact HN.out.bfr Z2.out.bel hY) hY (by exact Z2.out.wr) Z2.out.le (HT.out.on Z2.out.bel) (by simp only [List.length_append, List.length_cons, List.length_nil]; omega)).mono ?_
          rintro e w3 ⟨rfl, q3, hws, hfs⟩
          have Z3 := hide (Z2.out.step hws hfs)
          clear hws hfs
          go_wp2_with fail
          first | go_end0 | refine bodyPost_ret (v := .tuple #[]) (by simp [results, Tryz.results66, go_sem]) rfl ?_
          exact ⟨rfl, q3, by rw [HE.out]; simpa using Z3.out.wr, HF0.out.trans Z3.out.fr⟩
        | false =>
          cases hb3 : (z.kind == 3) with
          | true =>
            have hbr : Hid ((z.kind == 2 || z.kind == 3) = true) := by unfold Hid; simp [hb2, hb3]
            rw [hbr.out] at hlen2 HE
            go_wp2_with fail
            refine (wpiece_any fr z (IH.out z (by simp)) true d _ q2 _ B b fa fc _ X Y hz (by omega) (by exact HZ.out.bfr Z2.out.bel hX) hX (by exact HN.out.bfr Z2.out.bel hY) hY (by exact Z2.out.wr) Z2.out.le (HT.out.on Z2.out.bel) (by simp only [List.length_append, List.length_cons, List.length_nil]; omega)).mono ?_
            rintro e w3 ⟨rfl, q3, hws, hfs⟩
            have Z3 := hide (Z2.out.step hws hfs)
            clear hws hfs
            go_wp2_with fail
            first | go_end0 | refine bodyPost_ret (v := .tuple #[]) (by simp [results, Tryz.results66, go_sem]) rfl ?_
            exact ⟨rfl, q3, by rw [HE.out]; simpa using Z3.out.wr, HF0.out.trans Z3.out.fr⟩
          | false =>
            have hbr : Hid ((z.kind == 2 || z.kind == 3) = false) := by unfold Hid; simp [hb2, hb3]
            rw [hbr.out] at hlen2 HE
            go_wp2_with fail
            refine (wpiece_any fr z (IH.out z (by simp)) false d _ q2 _ B b fa fc _ X Y hz (by omega) (by exact HZ.out.bfr Z2.out.bel hX) hX (by exact HN.out.bfr Z2.out.bel hY) hY (by exact Z2.out.wr) Z2.out.le (HT.out.on Z2.out.bel) (by simp only [List.length_append, List.length_cons, List.length_nil]; omega)).mono ?_
            rintro e w3 ⟨rfl, q3, hws, hfs⟩
            have Z3 := hide (Z2.out.step hws hfs)
            clear hws hfs
            go_wp2_with fail
            first | go_end0 | refine bodyPost_ret (v := .tuple #[]) (by simp [results, Tryz.results66, go_sem]) rfl ?_
            exact ⟨rfl, q3, by rw [HE.out]; simpa using Z3.out.wr, HF0.out.trans Z3.out.fr⟩
    · cases e
      simp only [List.length_nil, List.length_cons, Nat.zero_add, Nat.reduceAdd] at Z0 HN HT HS HF0 k0
      obtain ⟨m, rfl⟩ : ∃ m : Nat, x = (m : Int) := ⟨x.toNat, by omega⟩
      have HE : Hid (ltx fr d ⟨4, m, []⟩ = 99 :: Lib.decDigits m) := by unfold Hid; rw [ltx_con]; simp
      have hlen2 : pre.length + (1 + (Lib.decDigits m).length) ≤ 900000000 := by rw [HE.out] at hlen; simp at hlen; omega
      generalize ltx fr d ⟨4, m, []⟩ = R at HE hlen ⊢
      go_enter Tryz.func66, Tryz.ntmps66
      go_wp2_with fail
      generalize (w.alloc (.cells #[.int .i64 4, .int .i64 m, .slice a 0 c] 25)) = w0 at *
      refine (writeByteW_any B b _ _ q0 99 _ (by exact Z0.out.wr) (by rw [Lib.byteCells_length]; (try simp only [List.length_append, List.length_cons, List.length_nil]); omega) Z0.out.le).mono ?_
      rintro e w1 ⟨rfl, q1, hws, hfs⟩
      have hws' : Wrt w1 B b (.slice fa fr.length fc) (Lib.byteCells (pre ++ [99])) q1 := by rw [← bc_one]; exact hws
      have Z1 := hide (Z0.out.step hws' hfs)
      clear hws hws' hfs Z0
      go_wp2_with fail
      have Zd := hide (Z1.out.later (Below.drew (Below.refl _ _)))
      clear Z1
      refine wp_region_held_drew (S := fun w' => Blk w' w.heap.size #[.int .i64 4, .int .i64 m, .slice a 0 c] 25) (by kernel_rfl) (by exact Zd.out.bx) (fun hHeld => ?_)
      generalize World.drew w1 = Wd at *
      refine wpAnyH_take (i := 0) (v := ?_) rfl (by kernel_rfl) (by kernel_rfl) (by kernel_rfl) (fun _ _ _ h => h) (Or.inl ⟨by rfl, ?_⟩) (by assumption) ?_
      rotate_left
      · intro w' hSw
        go_simp <;> with_reducible rfl
      try simp only [Act.put, List.setIfInBounds_toArray, List.set_cons_zero, List.set_cons_succ, List.getElem_toArray, List.getElem_cons_succ, List.getElem_cons_zero]
      refine wpAnyH_take (i := 1) (v := ?_) rfl (by kernel_rfl) (by kernel_rfl) (by kernel_rfl) (fun _ _ _ h => h) (Or.inl ⟨by rfl, ?_⟩) (by assumption) ?_
      rotate_left
      · intro w' hSw
        go_simp <;> with_reducible rfl
      try simp only [Act.put, List.setIfInBounds_toArray, List.set_cons_zero, List.set_cons_succ, List.getElem_toArray, List.getElem_cons_succ, List.getElem_cons_zero]
      refine wpAnyH_take (i := 2) (v := ?_) rfl (by kernel_rfl) (by kernel_rfl) (by kernel_rfl) (fun _ _ _ h => h) (Or.inl ⟨by rfl, ?_⟩) (by assumption) ?_
      rotate_left
      · intro w' hSw
        go_simp <;> with_reducible rfl
      try simp only [Act.put, List.setIfInBounds_toArray, List.set_cons_zero, List.set_cons_succ, List.getElem_toArray, List.getElem_cons_succ, List.getElem_cons_zero]
      refine wpAnyH_take (i := 3) (v := ?_) rfl (by kernel_rfl) (by kernel_rfl) (by kernel_rfl) (fun _ _ _ h => h) (Or.inl ⟨by rfl, ?_⟩) (by assumption) ?_
      rotate_left
      · intro w' hSw
        go_simp <;> with_reducible rfl
      try simp only [Act.put, List.setIfInBounds_toArray, List.set_cons_zero, List.set_cons_succ, List.getElem_toArray, List.getElem_cons_succ, List.getElem_cons_zero]
      refine wpAnyH_take (i := 4) (v := ?_) rfl (by kernel_rfl) (by kernel_rfl) (by kernel_rfl) (fun _ _ _ h => h) (Or.inl ⟨by rfl, ?_⟩) (by assumption) ?_
      rotate_left
      · intro w' hSw
        have k1 := hSw.cell 1
        simp only [List.getElem?_toArray, List.getElem?_cons_zero, List.getElem?_cons_succ] at k1
        go_simp <;> with_reducible rfl
      try simp only [Act.put, List.setIfInBounds_toArray, List.set_cons_zero, List.set_cons_succ, List.getElem_toArray, List.getElem_cons_succ, List.getElem_cons_zero]
      refine wpAnyH_ready (rs := [5]) (by kernel_rfl) (by simp) ?_
      refine AllReadyH.cons rfl (fun K hK => ?_) AllReadyH.nil
      go_simp
      go_at_call 33
      refine (itoa_any m B (by omega) _ (HT.out.on Zd.out.bel)).mono ?_
      rintro e wn ⟨rfl, hbn⟩
      have Zn := hide (Zd.out.later hbn)
      clear hbn Zd
      go_simp
      refine hK.out _ _ (by exact Zn.out.bx) (fun hHeld => ?_)
      clear hK K
      try simp only [Act.put, List.setIfInBounds_toArray, List.set_cons_zero, List.set_cons_succ, List.getElem_toArray, List.getElem_cons_succ, List.getElem_cons_zero]
      refine wpAnyH_ready (rs := [6]) (by kernel_rfl) (by simp) ?_
      refine AllReadyH.cons rfl (fun K hK => ?_) AllReadyH.nil
      go_simp
      go_at_call 87
      refine (writeStringW_any B b _ _ q1 _ _ (by exact Zn.out.wr) (by rw [Lib.byteCells_length, bsz]; (try simp only [List.length_append, List.length_cons, List.length_nil]); omega) Zn.out.le).mono ?_
      rintro e w2 ⟨rfl, q2, hws, hfs⟩
      rw [bc_str] at hws
      have Z2 := hide (Zn.out.step hws hfs)
      clear hws hfs Zn
      go_simp
      refine hK.out _ _ (by exact Z2.out.bx) (fun hHeld => ?_)
      clear hK K
      try simp only [Act.put, List.setIfInBounds_toArray, List.set_cons_zero, List.set_cons_succ, List.getElem_toArray, List.getElem_cons_succ, List.getElem_cons_zero]
      refine wpAnyH_done (by kernel_rfl) ?_ _
      go_wp2_with fail
      first | go_end0 | refine bodyPost_ret (v := .tuple #[]) (by simp [results, Tryz.results66, go_sem]) rfl ?_
      exact ⟨rfl, q2, by rw [HE.out]; simpa using Z2.out.wr, HF0.out.trans Z2.out.fr⟩
end Go.Proofs.YtfkjejpfhflanaaGreatDoor
