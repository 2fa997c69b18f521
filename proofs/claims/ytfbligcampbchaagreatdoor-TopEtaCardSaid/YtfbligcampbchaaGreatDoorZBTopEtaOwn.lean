/- Several texts in one. -/
import Derived.Test.YtfbligcampbchaaGreatDoorZTopEtaOwn
/- Walks: the reader's names. -/
namespace Go.Proofs.YtfbligcampbchaaGreatDoor
open Go.RowKit
set_option linter.unusedSimpArgs false
set_option linter.unusedVariables false
variable {nv : Value}
set_option maxRecDepth 8000

/-- How far the reader is. -/
def rdAtL (w : World) (B : Nat) : Nat := match w.cell? ⟨B, 1, none⟩ with
  | some (.int _ n) => n.toNat
  | _ => 0
theorem Bl.at {w : World} {B i k : Nat} {s : ByteArray} (h : Bl nv w B s i k) : rdAtL w B = i := by unfold rdAtL; rw [h.c1]; simp

/-- What reading a name does: the name, or what is thrownL. -/
def NamePostL (nv : Value) (w : World) (B i k : Nat) (s : ByteArray) (e : Ending) (w' : World) : Prop :=
  if stopAt s i = i then e = .panicked [{ v := .iface 28 (.int .i64 (if i = s.size then 13 else 12)), recovered := false }] ∧ Ex B w w'
  else if nameB (s.extract i (stopAt s i)) = false then e = .panicked [{ v := .iface 28 (.int .i64 1), recovered := false }] ∧ Ex B w w'
  else e = .returned (.string (s.extract i (stopAt s i))) ∧ Bl nv w' B s (stopAt s i) k ∧ Ex B w w' ∧ w'.heap.size = w.heap.size

theorem ext_sizeL (s : ByteArray) {i j : Nat} (hj : j ≤ s.size) : (s.extract i j).size = j - i := by
  rw [ByteArray.size_extract]; omega
theorem ext_emptyL {s : ByteArray} {i j : Nat} (hj : j ≤ s.size) (h : j ≤ i) : (s.extract i j).toList.isEmpty = true := isEmpty_zero (by rw [ext_sizeL s hj]; omega)
theorem ext_someL {s : ByteArray} {i j : Nat} (hj : j ≤ s.size) (h : i < j) : (s.extract i j).toList.isEmpty = false := isEmpty_pos (by rw [ext_sizeL s hj]; omega)

theorem name_okL {w wr : World} {B i j k n : Nat} {s : ByteArray} (hst : stopAt s i = j) (hji : ¬ j = i) (hn : nameB (s.extract i j) = true) (hx : Bl nv wr B s j k) (he : Ex B w wr) (hz : wr.heap.size = w.heap.size) : NamePostL nv w B i k s (.returned (.string (s.extract i j))) (wr.drewN n) := by
  unfold NamePostL
  rw [hst, if_neg hji, if_neg (by rw [hn]; simp)]
  exact ⟨rfl, hx, he.drewN n, hz⟩

theorem name_badL {w wr : World} {B i j k n : Nat} {s : ByteArray} (hst : stopAt s i = j) (hji : ¬ j = i) (hn : nameB (s.extract i j) = false) (he : Ex B w wr) : NamePostL nv w B i k s (.panicked [{ v := .iface 28 (.int .i64 1), recovered := false }]) (wr.drewN n) := by
  unfold NamePostL
  rw [hst, if_neg hji, if_pos hn]
  exact ⟨rfl, he.drewN n⟩
theorem name_noneL {w wr : World} {B i j k n : Nat} {s : ByteArray} {r : Int} (hst : stopAt s i = j) (hji : j = i) (hr : (if j = s.size then (13 : Int) else 12) = r) (he : Ex B w wr) : NamePostL nv w B i k s (.panicked [{ v := .iface 28 (.int .i64 r), recovered := false }]) (wr.drewN n) := by
  unfold NamePostL
  rw [hst, if_pos hji, ← hji, hr]
  exact ⟨rfl, he.drewN n⟩

def NmInvL (nv : Value) (w : World) (B i k : Nat) (s : ByteArray) (wr : World) : Prop := ∃ j, i ≤ j ∧ j ≤ s.size ∧ stopAt s i = stopAt s j ∧ Bl nv wr B s j k ∧ Ex B w wr ∧ wr.heap.size = w.heap.size

set_option maxHeartbeats 1000000 in
theorem name_anyL (B i k : Nat) (s : ByteArray) (hi : i ≤ s.size) (hs : s.size ≤ 4000) (w : World) (h : Bl nv w B s i k) :
    Calls Tryz.prog 66 #[.pointer (some ⟨B, 0, none⟩)] w fun e w' => NamePostL nv w B i k s e w' := by
  have H := hide h
  have c0 := h.c0
  have c1 := h.c1
  clear h
  go_enter Tryz.func66, Tryz.ntmps66
  go_wp2_with fail
  go_loopw [] (fun wr => NmInvL nv w B i k s wr) (fun wr => (s.size - rdAtL wr B))
  case atStart => exact ⟨i, Nat.le_refl _, hi, rfl, H.out, Ex.refl _ _, rfl⟩
  case round =>
    obtain ⟨j, hij, hj, hst, hbx, hex, hsz⟩ := hrel
    have HX := hide hbx
    have HE := hide hex
    have HS := hide hst
    have HZ := hide hsz
    have c0 := hbx.c0
    have c1 := hbx.c1
    have cf := Blk.frozen hbx
    clear hbx hex hst hsz
    by_cases he : j = s.size
    · have HEQ := hide he
      have HST : Hid (stopAt s i = j) := HS.out.trans (stopAt_end (fun h => by omega))
      clear he
      go_wp2_with fail
      go_quiet (first | (go_at_call 52; refine Calls.quiet_of (atEnd_yesL (nv := nv) B j k s HEQ.out _ ?_); exact HX.out.drewN _))
      go_wp2_with fail
      have hij2 : (i : Int) ≤ (j : Int) := by omega
      have hj2 : (j : Int) ≤ (s.size : Int) := by omega
      go_quiet (fail)
      by_cases hji : j = i
      · have hem := ext_emptyL (s := s) hj (Nat.le_of_eq hji)
        have HJI := hide hji
        clear hji
        go_wp2_with fail
        refine (rdRefuse_anyL (nv := nv) B j k s _ (by exact HX.out)).mono ?_
        rintro e w' ⟨he, rfl⟩
        unfold thrownL at he
        subst he
        generalize hr : (if j = s.size then (13 : Int) else 12) = r
        have HR := hide hr
        clear hr
        go_wp2_with fail
        exact ⟨rfl, name_noneL HST.out HJI.out HR.out HE.out⟩
      · have hem := ext_someL (s := s) hj (show i < j by omega)
        have HJI := hide hji
        clear hji
        cases hn : nameB (s.extract i j) with
        | true =>
          have HN := hide hn
          clear hn
          go_wp2_with fail
          refine (isName_any _ _).mono ?_
          rintro e w' ⟨rfl, rfl⟩
          rw [HN.out]
          go_wp2_with fail
          go_ret
          exact name_okL HST.out HJI.out HN.out HX.out HE.out HZ.out
        | false =>
          have HN := hide hn
          clear hn
          go_wp2_with fail
          refine (isName_any _ _).mono ?_
          rintro e w' ⟨rfl, rfl⟩
          rw [HN.out]
          go_wp2_with fail
          exact ⟨rfl, name_badL HST.out HJI.out HN.out HE.out⟩
    · have hlt : j < s.size := by omega
      have HEQ := hide he
      clear he
      have hb := hide (byteAt_of hlt)
      cases ha : alnB (byteAt s j) with
      | true =>
        have HA := hide ha
        have HAW : Hid (∀ w, Calls Tryz.prog 77 #[.int .u8 (s[j].toNat : Int)] w fun e w' => e = .returned (.bool true) ∧ w' = w) := fun w => by
          have := isSign_anyL (s[j].toNat : Int) w
          rw [hb.out, HA.out] at this
          rw [hb.out]
          exact this
        clear ha
        go_wp2_with fail
        go_quiet (first | (go_at_call 52; refine Calls.quiet_of (atEnd_noL (nv := nv) B j k s HEQ.out _ ?_); exact HX.out.drewN _) | (go_at_call 77; refine Calls.quiet_of_same (HAW.out _)))
        go_wp2_with fail
        go_roundw
        case rel => exact ⟨j + 1, by omega, by omega, by rw [HS.out, stopAt_go hlt HA.out], (HX.out.drewN _).next, (HE.out.drewN _).set _ _, by have := HZ.out; simpa [World.setCell] using this⟩
        case measure =>
          have e1 := HX.out.at
          have e2 := ((HX.out.drewN nq).next).at
          rw [e1, e2]; omega
      | false =>
        have HA := hide ha
        have HAW : Hid (∀ w, Calls Tryz.prog 77 #[.int .u8 (s[j].toNat : Int)] w fun e w' => e = .returned (.bool false) ∧ w' = w) := fun w => by
          have := isSign_anyL (s[j].toNat : Int) w
          rw [hb.out, HA.out] at this
          rw [hb.out]
          exact this
        have HST : Hid (stopAt s i = j) := HS.out.trans (stopAt_end (fun h => by have h1 := h.2; rw [HA.out] at h1; cases h1))
        clear ha
        go_wp2_with fail
        go_quiet (first | (go_at_call 52; refine Calls.quiet_of (atEnd_noL (nv := nv) B j k s HEQ.out _ ?_); exact HX.out.drewN _) | (go_at_call 77; refine Calls.quiet_of_same (HAW.out _)))
        go_wp2_with fail
        have hij2 : (i : Int) ≤ (j : Int) := by omega
        have hj2 : (j : Int) ≤ (s.size : Int) := by omega
        go_quiet (fail)
        by_cases hji : j = i
        · have hem := ext_emptyL (s := s) hj (Nat.le_of_eq hji)
          have HJI := hide hji
          clear hji
          go_wp2_with fail
          refine (rdRefuse_anyL (nv := nv) B j k s _ (by exact HX.out)).mono ?_
          rintro e w' ⟨he, rfl⟩
          unfold thrownL at he
          subst he
          generalize hr : (if j = s.size then (13 : Int) else 12) = r
          have HR := hide hr
          clear hr
          go_wp2_with fail
          exact ⟨rfl, name_noneL HST.out HJI.out HR.out HE.out⟩
        · have hem := ext_someL (s := s) hj (show i < j by omega)
          have HJI := hide hji
          clear hji
          cases hn : nameB (s.extract i j) with
          | true =>
            have HN := hide hn
            clear hn
            go_wp2_with fail
            refine (isName_any _ _).mono ?_
            rintro e w' ⟨rfl, rfl⟩
            rw [HN.out]
            go_wp2_with fail
            go_ret
            exact name_okL HST.out HJI.out HN.out HX.out HE.out HZ.out
          | false =>
            have HN := hide hn
            clear hn
            go_wp2_with fail
            refine (isName_any _ _).mono ?_
            rintro e w' ⟨rfl, rfl⟩
            rw [HN.out]
            go_wp2_with fail
            exact ⟨rfl, name_badL HST.out HJI.out HN.out HE.out⟩
end Go.Proofs.YtfbligcampbchaaGreatDoor

/- Walks: the text of a lambda term, as the program writes it. -/
namespace Go.Proofs.YtfbligcampbchaaGreatDoor
open Go.RowKit
set_option linter.unusedSimpArgs false
set_option linter.unusedVariables false
set_option maxRecDepth 8000

theorem wrap_is {n : Int} (h0 : -1000000 ≤ n) (h1 : n ≤ 1000000) : IntKind.i64.wrap n = n := by rw [IntKind.wrap_i64]; omega
theorem bsz (l : List UInt8) : (⟨l.toArray⟩ : ByteArray).size = l.length := by simp [ByteArray.size]

theorem lt_set3 {W : World} {A T : Nat} {x0 x1 x2 : Value} (h : Blk W A #[x0, x1, x2] T) (u u' u'' : Value) : Blk (((W.setCell ⟨A, 0, none⟩ u).setCell ⟨A, 1, none⟩ u').setCell ⟨A, 2, none⟩ u'') A #[u, u', u''] T := ((h.set 0 u).set 1 u').set 2 u''
theorem lt_set3o {W : World} {A B T : Nat} {cs : Array Value} (h : Blk W A cs T) (hn : A ≠ B) (u u' u'' : Value) : Blk (((W.setCell ⟨B, 0, none⟩ u).setCell ⟨B, 1, none⟩ u').setCell ⟨B, 2, none⟩ u'') A cs T := ((h.setOther 0 u hn).setOther 1 u' hn).setOther 2 u'' hn

/-- What is known all along while a knot is written: w0 is the world behind its box, o its box. -/
structure WrS (fr : List ByteArray) (B b o : Nat) (fv : Value) (q0 : Value) (cs : Array Value) (w0 : World) (pre : List UInt8) (q : Value) (w' : World) : Prop where
  wr : Wrt w' B b fv (Lib.byteCells pre) q
  fr : BFr w0 w' b q0 q
  bel : Below B w0 w'
  bx : Blk w' o cs 26
  ob : o ≠ b
  oq : some o ≠ q.ownBlock
  le : B ≤ w'.heap.size
theorem WrS.later {fr : List ByteArray} {B b o : Nat} {fv q0 : Value} {cs : Array Value} {w0 : World} {pre : List UInt8} {q : Value} {w1 w2 : World} (h : WrS fr B b o fv q0 cs w0 pre q w1) (hb : Below w1.heap.size w1 w2) : WrS fr B b o fv q0 cs w0 pre q w2 :=
  ⟨h.wr.later hb, h.fr.trans (BFr.of_below hb b q), h.bel.trans (hb.mono h.le), h.bx.below hb h.bx.lt, h.ob, h.oq, Nat.le_trans h.le hb.size⟩
theorem WrS.step {fr : List ByteArray} {B b o : Nat} {fv q0 : Value} {cs : Array Value} {w0 : World} {pre pre' : List UInt8} {q q' : Value} {w1 w2 : World} (h : WrS fr B b o fv q0 cs w0 pre q w1) (hw : Wrt w2 B b fv (Lib.byteCells pre') q') (hf : BFr w1 w2 b q q') : WrS fr B b o fv q0 cs w0 pre' q' w2 :=
  ⟨hw, h.fr.trans hf, h.bel.trans (h.wr.fr hf h.le), blk_bfr h.bx hf h.ob h.oq, h.ob, own_bfr hf h.bx.lt h.oq, Nat.le_trans h.le hf.2.2.2.1⟩

set_option maxHeartbeats 4000000 in
theorem wterm_any (fr : List ByteArray) (hfl : fr.length ≤ 40) (hfn : ∀ s ∈ fr, s.size ≤ 8) (t : Lm) : WT fr t := by
  induction t using Lm.ind with
  | h k x l ih =>
    intro d v q0 pre B b fa fc w X Y he hd hv hX hn hY hw hB hT hlen
    have IH := hide ih
    clear ih
    obtain ⟨a, c, rfl, hs⟩ := hv
    have hbox := hw.box
    have HB0 : Hid (Below w.heap.size w (w.alloc (.cells #[.int .i64 k, .int .i64 x, .slice a l.length c] 26))) := (Below.refl _ _).alloc (Nat.le_refl _) _
    have Z0 : Hid (WrS fr B b w.heap.size (.slice fa fr.length fc) q0 #[.int .i64 k, .int .i64 x, .slice a l.length c] (w.alloc (.cells #[.int .i64 k, .int .i64 x, .slice a l.length c] 26)) pre q0 (w.alloc (.cells #[.int .i64 k, .int .i64 x, .slice a l.length c] 26))) :=
      ⟨hw.alloc _, BFr.refl _ _ _, Below.refl _ _, Blk.new w _ _, hbox.1, hbox.2, by simp; omega⟩
    have HN := hide (hn.later HB0.out)
    have HT := hide (hT.on (HB0.out.mono hB))
    have HS := hide (hs.later HB0.out)
    have HF0 := hide (BFr.of_below HB0.out b q0)
    have k0 : (w.alloc (.cells #[.int .i64 k, .int .i64 x, .slice a l.length c] 26)).cell? ⟨w.heap.size, 0, none⟩ = some (.int .i64 k) := (Blk.new w #[.int .i64 k, .int .i64 x, .slice a l.length c] 26).cell 0
    clear hn hT hw hs HB0 hbox
    have hdI : (d : Int) ≤ 500 := by omega
    rcases may_look he with ⟨y, e, h0, h1⟩ | ⟨bd, e, hb⟩ | ⟨f, z, e, hf, hz⟩ | ⟨y, e, h0, h1⟩
    · cases e
      simp only [List.length_nil, List.length_cons, Nat.zero_add, Nat.reduceAdd] at Z0 HN HT HS HF0 k0
      have W1 : Hid (IntKind.i64.wrap ((d : Int) - 1) = (d : Int) - 1) := wrap_is (by omega) (by omega)
      have W2 : Hid (IntKind.i64.wrap ((d : Int) - 1 - x) = (d : Int) - 1 - x) := wrap_is (by omega) (by omega)
      have HE := hide (ltx_bound fr d x [])
      have hlen2 : pre.length + (nmAt fr (d - 1 - x)).length ≤ 900000000 := by rw [← HE.out]; exact hlen
      generalize ltx fr d ⟨1, x, []⟩ = R at HE hlen ⊢
      have hxI : x < 540 := by omega
      go_enter Tryz.func54, Tryz.ntmps54
      go_wp2_with fail
      generalize (w.alloc (.cells #[.int .i64 1, .int .i64 x, .slice a 0 c] 26)) = w0 at *
      have Zd := hide (Z0.out.later (Below.drew (Below.refl _ _)))
      clear Z0
      refine wp_region_held_drew (S := fun w' => Blk w' w.heap.size #[.int .i64 1, .int .i64 x, .slice a 0 c] 26) (by kernel_rfl) (by exact Zd.out.bx) (fun hHeld => ?_)
      generalize World.drew w0 = Wd at *
      refine wpAnyH_take (i := 0) (v := ?_) rfl (by kernel_rfl) (by kernel_rfl) (by kernel_rfl) (fun _ _ _ h => h) (Or.inl ⟨by rfl, ?_⟩) (by assumption) ?_
      rotate_left
      · intro w' hSw
        go_simp <;> with_reducible rfl
      try simp only [Act.put, List.setIfInBounds_toArray, List.set_cons_zero, List.set_cons_succ, List.getElem_toArray, List.getElem_cons_succ, List.getElem_cons_zero]
      refine wpAnyH_take (i := 1) (v := ?_) rfl (by kernel_rfl) (by kernel_rfl) (by kernel_rfl) (fun _ _ _ h => h) (Or.inl ⟨by rfl, ?_⟩) (by assumption) ?_
      rotate_left
      · intro w' hSw
        go_simp <;> with_reducible rfl
      try simp only [Act.put, List.setIfInBounds_toArray, List.set_cons_zero, List.set_cons_succ, List.getElem_toArray, List.getElem_cons_succ, List.getElem_cons_zero]
      refine wpAnyH_take (i := 2) (v := ?_) rfl (by kernel_rfl) (by kernel_rfl) (by kernel_rfl) (fun _ _ _ h => h) (Or.inl ⟨by rfl, ?_⟩) (by assumption) ?_
      rotate_left
      · intro w' hSw
        go_simp <;> with_reducible rfl
      try simp only [Act.put, List.setIfInBounds_toArray, List.set_cons_zero, List.set_cons_succ, List.getElem_toArray, List.getElem_cons_succ, List.getElem_cons_zero]
      refine wpAnyH_take (i := 3) (v := ?_) rfl (by kernel_rfl) (by kernel_rfl) (by kernel_rfl) (fun _ _ _ h => h) (Or.inl ⟨by rfl, ?_⟩) (by assumption) ?_
      rotate_left
      · intro w' hSw
        go_simp <;> with_reducible rfl
      try simp only [Act.put, List.setIfInBounds_toArray, List.set_cons_zero, List.set_cons_succ, List.getElem_toArray, List.getElem_cons_succ, List.getElem_cons_zero]
      refine wpAnyH_take (i := 4) (v := ?_) rfl (by kernel_rfl) (by kernel_rfl) (by kernel_rfl) (fun _ _ _ h => h) (Or.inl ⟨by rfl, ?_⟩) (by assumption) ?_
      rotate_left
      · intro w' hSw
        go_simp <;> with_reducible rfl
      try simp only [Act.put, List.setIfInBounds_toArray, List.set_cons_zero, List.set_cons_succ, List.getElem_toArray, List.getElem_cons_succ, List.getElem_cons_zero]
      refine wpAnyH_take (i := 5) (v := ?_) rfl (by kernel_rfl) (by kernel_rfl) (by kernel_rfl) (fun _ _ _ h => h) (Or.inl ⟨by rfl, ?_⟩) (by assumption) ?_
      rotate_left
      · intro w' hSw
        go_simp <;> with_reducible rfl
      try simp only [Act.put, List.setIfInBounds_toArray, List.set_cons_zero, List.set_cons_succ, List.getElem_toArray, List.getElem_cons_succ, List.getElem_cons_zero]
      refine wpAnyH_take (i := 6) (v := ?_) rfl (by kernel_rfl) (by kernel_rfl) (by kernel_rfl) (fun _ _ _ h => h) (Or.inl ⟨by rfl, ?_⟩) (by assumption) ?_
      rotate_left
      · intro w' hSw
        go_simp <;> with_reducible rfl
      try simp only [Act.put, List.setIfInBounds_toArray, List.set_cons_zero, List.set_cons_succ, List.getElem_toArray, List.getElem_cons_succ, List.getElem_cons_zero]
      refine wpAnyH_take (i := 7) (v := ?_) rfl (by kernel_rfl) (by kernel_rfl) (by kernel_rfl) (fun _ _ _ h => h) (Or.inl ⟨by rfl, ?_⟩) (by assumption) ?_
      rotate_left
      · intro w' hSw
        have k1 := hSw.cell 1
        simp only [List.getElem?_toArray, List.getElem?_cons_zero, List.getElem?_cons_succ] at k1
        go_simp <;> with_reducible rfl
      try simp only [Act.put, List.setIfInBounds_toArray, List.set_cons_zero, List.set_cons_succ, List.getElem_toArray, List.getElem_cons_succ, List.getElem_cons_zero]
      refine wpAnyH_take (i := 8) (v := ?_) rfl (by kernel_rfl) (by kernel_rfl) (by kernel_rfl) (fun _ _ _ h => h) (Or.inl ⟨by rfl, ?_⟩) (by assumption) ?_
      rotate_left
      · intro w' hSw
        go_simp <;> with_reducible rfl
      try simp only [Act.put, List.setIfInBounds_toArray, List.set_cons_zero, List.set_cons_succ, List.getElem_toArray, List.getElem_cons_succ, List.getElem_cons_zero]
      rw [W1.out, W2.out]
      refine wpAnyH_ready (rs := [9]) (by kernel_rfl) (by simp) ?_
      refine AllReadyH.cons rfl (fun K hK => ?_) AllReadyH.nil
      go_simp
      go_at_call 71
      refine (wname_any fr B b fa fc _ q0 (d - 1 - x) _ Y (by exact Zd.out.wr) (by exact HN.out.bfr Zd.out.bel hY) (HT.out.on Zd.out.bel) (by omega) (by omega) (by omega)).mono ?_
      rintro e wn ⟨rfl, hbn⟩
      have Zn := hide (Zd.out.later hbn)
      clear hbn Zd
      go_simp
      refine hK.out _ _ (by exact Zn.out.bx) (fun hHeld => ?_)
      clear hK K
      try simp only [Act.put, List.setIfInBounds_toArray, List.set_cons_zero, List.set_cons_succ, List.getElem_toArray, List.getElem_cons_succ, List.getElem_cons_zero]
      refine wpAnyH_ready (rs := [10]) (by kernel_rfl) (by simp) ?_
      refine AllReadyH.cons rfl (fun K hK => ?_) AllReadyH.nil
      go_simp
      go_at_call 70
      refine (writeStringW_any B b _ _ q0 _ _ (by exact Zn.out.wr) (by rw [Lib.byteCells_length, bsz]; (try simp only [List.length_append, List.length_cons, List.length_nil]); omega) Zn.out.le).mono ?_
      rintro e w1 ⟨rfl, q1, hws, hfs⟩
      rw [bc_str] at hws
      have Z1 := hide (Zn.out.step hws hfs)
      clear hws hfs Zn
      go_simp
      refine hK.out _ _ (by exact Z1.out.bx) (fun hHeld => ?_)
      clear hK K
      try simp only [Act.put, List.setIfInBounds_toArray, List.set_cons_zero, List.set_cons_succ, List.getElem_toArray, List.getElem_cons_succ, List.getElem_cons_zero]
      refine wpAnyH_done (by kernel_rfl) ?_ _
      go_wp2_with fail
      first | go_end0 | refine bodyPost_ret (v := .tuple #[]) (by simp [results, Tryz.results54, go_sem]) rfl ?_
      exact ⟨rfl, q1, by rw [HE.out]; exact Z1.out.wr, HF0.out.trans Z1.out.fr⟩
    · cases e
      simp only [List.length_nil, List.length_cons, Nat.zero_add, Nat.reduceAdd] at Z0 HN HT HS HF0 k0
      obtain ⟨bs, os, ab, cb, rfl, f0, f1, f2, hbv⟩ := HS.out.get (Below.refl _ _) (fun _ _ h => h) 0 (by simp)
      simp only [Nat.zero_mul, Nat.add_zero, List.getElem_cons_zero] at f0 f1 f2 hbv
      have hsz : sizeM [(⟨2, 0, [bd]⟩ : Lm)] = 1 + sizeM [bd] := by simp [sizeM]
      have HE := hide (ltx_fun fr d 0 bd)
      have hlen2 : pre.length + ((Lib.decDigits d).length + (ltx fr (d + 1) bd).length + 3) ≤ 900000000 := by rw [HE.out] at hlen; simp at hlen; omega
      have HB9 : Hid (errM ((fr.length : Int) + ((d + 1 : Nat) : Int)) 0 [bd] = 0) := by
        have e9 : ((fr.length : Int) + ((d + 1 : Nat) : Int)) = fr.length + d + 1 := by omega
        unfold Hid; rw [e9]; exact hb
      have HV := hide hbv
      have HC := hide (And.intro f0 (And.intro f1 f2))
      generalize ltx fr d ⟨2, 0, [bd]⟩ = R at HE hlen ⊢
      have HNM : Hid (nmAt fr (d : Int) = 120 :: Lib.decDigits d) := by unfold Hid nmAt; rw [if_neg (by omega)]; simp
      clear hbv f0 f1 f2
      go_enter Tryz.func54, Tryz.ntmps54
      go_wp2_with fail
      generalize (w.alloc (.cells #[.int .i64 2, .int .i64 0, .slice (some ⟨bs, os, none⟩) 1 c] 26)) = w0 at *
      refine (writeByteW_any B b _ _ q0 92 _ (by exact Z0.out.wr) (by rw [Lib.byteCells_length]; (try simp only [List.length_append, List.length_cons, List.length_nil]); omega) Z0.out.le).mono ?_
      rintro e w1 ⟨rfl, q1, hws, hfs⟩
      have hws' : Wrt w1 B b (.slice fa fr.length fc) (Lib.byteCells (pre ++ [92])) q1 := by rw [← bc_one]; exact hws
      have Z1 := hide (Z0.out.step hws' hfs)
      clear hws hws' hfs Z0
      go_wp2_with fail
      have Zd := hide (Z1.out.later (Below.drew (Below.refl _ _)))
      clear Z1
      refine wp_region_held_drew (S := fun w' => Blk w' w.heap.size #[.int .i64 2, .int .i64 0, .slice (some ⟨bs, os, none⟩) 1 c] 26) (by kernel_rfl) (by exact Zd.out.bx) (fun hHeld => ?_)
      generalize World.drew w1 = Wd at *
      refine wpAnyH_take (i := 0) (v := ?_) rfl (by kernel_rfl) (by kernel_rfl) (by kernel_rfl) (fun _ _ _ h => h) (Or.inl ⟨by rfl, ?_⟩) (by assumption) ?_
      rotate_left
      · intro w' hSw
        go_simp <;> with_reducible rfl
      try simp only [Act.put, List.setIfInBounds_toArray, List.set_cons_zero, List.set_cons_succ, List.getElem_toArray, List.getElem_cons_succ, List.getElem_cons_zero]
      refine wpAnyH_take (i := 1) (v := ?_) rfl (by kernel_rfl) (by kernel_rfl) (by kernel_rfl) (fun _ _ _ h => h) (Or.inl ⟨by rfl, ?_⟩) (by assumption) ?_
      rotate_left
      · intro w' hSw
        go_simp <;> with_reducible rfl
      try simp only [Act.put, List.setIfInBounds_toArray, List.set_cons_zero, List.set_cons_succ, List.getElem_toArray, List.getElem_cons_succ, List.getElem_cons_zero]
      refine wpAnyH_take (i := 2) (v := ?_) rfl (by kernel_rfl) (by kernel_rfl) (by kernel_rfl) (fun _ _ _ h => h) (Or.inl ⟨by rfl, ?_⟩) (by assumption) ?_
      rotate_left
      · intro w' hSw
        go_simp <;> with_reducible rfl
      try simp only [Act.put, List.setIfInBounds_toArray, List.set_cons_zero, List.set_cons_succ, List.getElem_toArray, List.getElem_cons_succ, List.getElem_cons_zero]
      refine wpAnyH_take (i := 3) (v := ?_) rfl (by kernel_rfl) (by kernel_rfl) (by kernel_rfl) (fun _ _ _ h => h) (Or.inl ⟨by rfl, ?_⟩) (by assumption) ?_
      rotate_left
      · intro w' hSw
        go_simp <;> with_reducible rfl
      try simp only [Act.put, List.setIfInBounds_toArray, List.set_cons_zero, List.set_cons_succ, List.getElem_toArray, List.getElem_cons_succ, List.getElem_cons_zero]
      refine wpAnyH_take (i := 4) (v := ?_) rfl (by kernel_rfl) (by kernel_rfl) (by kernel_rfl) (fun _ _ _ h => h) (Or.inl ⟨by rfl, ?_⟩) (by assumption) ?_
      rotate_left
      · intro w' hSw
        go_simp <;> with_reducible rfl
      try simp only [Act.put, List.setIfInBounds_toArray, List.set_cons_zero, List.set_cons_succ, List.getElem_toArray, List.getElem_cons_succ, List.getElem_cons_zero]
      refine wpAnyH_ready (rs := [5]) (by kernel_rfl) (by simp) ?_
      refine AllReadyH.cons rfl (fun K hK => ?_) AllReadyH.nil
      go_simp
      go_at_call 71
      refine (wname_any fr B b fa fc _ q1 (d : Int) _ Y (by exact Zd.out.wr) (by exact HN.out.bfr Zd.out.bel hY) (HT.out.on Zd.out.bel) (by omega) (by omega) (by omega)).mono ?_
      rintro e wn ⟨rfl, hbn⟩
      have Zn := hide (Zd.out.later hbn)
      clear hbn Zd
      go_simp
      refine hK.out _ _ (by exact Zn.out.bx) (fun hHeld => ?_)
      clear hK K
      try simp only [Act.put, List.setIfInBounds_toArray, List.set_cons_zero, List.set_cons_succ, List.getElem_toArray, List.getElem_cons_succ, List.getElem_cons_zero]
      rw [HNM.out]
      refine wpAnyH_ready (rs := [6]) (by kernel_rfl) (by simp) ?_
      refine AllReadyH.cons rfl (fun K hK => ?_) AllReadyH.nil
      go_simp
      go_at_call 70
      refine (writeStringW_any B b _ _ q1 _ _ (by exact Zn.out.wr) (by rw [Lib.byteCells_length, bsz]; (try simp only [List.length_append, List.length_cons, List.length_nil]); omega) Zn.out.le).mono ?_
      rintro e w2 ⟨rfl, q2, hws, hfs⟩
      rw [bc_str] at hws
      have Z2 := hide (Zn.out.step hws hfs)
      clear hws hfs Zn
      go_simp
      refine hK.out _ _ (by exact Z2.out.bx) (fun hHeld => ?_)
      clear hK K
      try simp only [Act.put, List.setIfInBounds_toArray, List.set_cons_zero, List.set_cons_succ, List.getElem_toArray, List.getElem_cons_succ, List.getElem_cons_zero]
      refine wpAnyH_done (by kernel_rfl) ?_ _
      go_wp2_with fail
      refine (writeByteW_any B b _ _ q2 46 _ (by exact Z2.out.wr) (by rw [Lib.byteCells_length]; (try simp only [List.length_append, List.length_cons, List.length_nil]); omega) Z2.out.le).mono ?_
      rintro e w3 ⟨rfl, q3, hws, hfs⟩
      have hws' : Wrt w3 B b (.slice fa fr.length fc) (Lib.byteCells (pre ++ [92] ++ (120 :: Lib.decDigits d) ++ [46])) q3 := by rw [← bc_one]; exact hws
      have Z3 := hide (Z2.out.step hws' hfs)
      clear hws hws' hfs Z2
      have k2 := Z3.out.bx.cell 2
      simp only [List.getElem?_toArray, List.getElem?_cons_zero, List.getElem?_cons_succ] at k2
      obtain ⟨bs', os', ab', cb', e', f0, f1, f2, hbv⟩ := HS.out.get Z3.out.bel (fun x hx _ => hX x hx) 0 (by simp)
      cases e'
      simp only [Nat.zero_mul, Nat.add_zero, List.getElem_cons_zero] at f0 f1 f2 hbv
      have HV3 := hide hbv
      clear hbv
      go_wp2_with fail
      have e5 : (d : Int) + 1 = ((d + 1 : Nat) : Int) := by omega
      rw [e5]
      clear e5
      refine (IH.out bd (by simp) (d + 1) _ q3 _ B b fa fc _ X Y HB9.out (by omega) (by exact HV3.out) hX (by exact HN.out.bfr Z3.out.bel hY) hY (by exact Z3.out.wr) Z3.out.le (HT.out.on Z3.out.bel) (by simp only [List.length_append, List.length_cons, List.length_nil]; omega)).mono ?_
      rintro e w4 ⟨rfl, q4, hws, hfs⟩
      have Z4 := hide (Z3.out.step hws hfs)
      clear hws hfs
      go_wp2_with fail
      first | go_end0 | refine bodyPost_ret (v := .tuple #[]) (by simp [results, Tryz.results54, go_sem]) rfl ?_
      exact ⟨rfl, q4, by rw [HE.out]; simpa using Z4.out.wr, HF0.out.trans Z4.out.fr⟩
    · cases e
      simp only [List.length_nil, List.length_cons, Nat.zero_add, Nat.reduceAdd] at Z0 HN HT HS HF0 k0
      obtain ⟨bs, os, af, cf, rfl, f0, f1, f2, hfv⟩ := HS.out.get (Below.refl _ _) (fun _ _ h => h) 0 (by simp)
      obtain ⟨bs', os', az, cz, e', z0, z1, z2, hzv⟩ := HS.out.get (Below.refl _ _) (fun _ _ h => h) 1 (by simp)
      cases e'
      simp only [Nat.zero_mul, Nat.add_zero, Nat.one_mul, List.getElem_cons_zero, List.getElem_cons_succ] at f0 f1 f2 z0 z1 z2 hfv hzv
      have hsz : sizeM [(⟨3, 0, [f, z]⟩ : Lm)] = 1 + (sizeM [f] + sizeM [z]) := by
        obtain ⟨k1, y1, m1⟩ := f; obtain ⟨k2, y2, m2⟩ := z
        simp only [sizeM]; omega
      have HE := hide (ltx_app fr d 0 f z)
      have hlen2 : pre.length + ((brk (f.kind == 2) (ltx fr d f)).length + (brk (z.kind == 2 || z.kind == 3) (ltx fr d z)).length + 1) ≤ 900000000 := by rw [HE.out] at hlen; simp at hlen; omega
      generalize ltx fr d ⟨3, 0, [f, z]⟩ = R at HE hlen ⊢
      have HF := hide hfv
      have HZ := hide hzv
      have HC := hide (And.intro f0 (And.intro f1 (And.intro f2 (And.intro z0 (And.intro z1 z2)))))
      clear hfv hzv f0 f1 f2 z0 z1 z2
      go_enter Tryz.func54, Tryz.ntmps54
      go_wp2_with fail
      generalize (w.alloc (.cells #[.int .i64 3, .int .i64 0, .slice (some ⟨bs, os, none⟩) 2 c] 26)) = w0 at *
      have Zd := hide (Z0.out.later (Below.drew (Below.refl _ _)))
      clear Z0
      have HCd : Hid (Below w0.heap.size w0 w0.drew) := Below.drew (Below.refl _ _)
      refine wp_region_held_drew (S := fun w' => Blk w' w.heap.size #[.int .i64 3, .int .i64 0, .slice (some ⟨bs, os, none⟩) 2 c] 26 ∧ Below w0.heap.size w0 w') (by kernel_rfl) (by exact ⟨Zd.out.bx, HCd.out⟩) (fun hHeld => ?_)
      generalize World.drew w0 = Wd at *
      refine wpAnyH_take (i := 0) (v := ?_) rfl (by kernel_rfl) (by kernel_rfl) (by kernel_rfl) (fun _ _ _ h => h) (Or.inl ⟨by rfl, ?_⟩) (by assumption) ?_
      rotate_left
      · intro w' hSw
        go_simp <;> with_reducible rfl
      try simp only [Act.put, List.setIfInBounds_toArray, List.set_cons_zero, List.set_cons_succ, List.getElem_toArray, List.getElem_cons_succ, List.getElem_cons_zero]
      refine wpAnyH_take (i := 1) (v := ?_) rfl (by kernel_rfl) (by kernel_rfl) (by kernel_rfl) (fun _ _ _ h => h) (Or.inl ⟨by rfl, ?_⟩) (by assumption) ?_
      rotate_left
      · intro w' hSw
        have k2 := hSw.1.cell 2
        simp only [List.getElem?_toArray, List.getElem?_cons_zero, List.getElem?_cons_succ] at k2
        go_simp <;> with_reducible rfl
      try simp only [Act.put, List.setIfInBounds_toArray, List.set_cons_zero, List.set_cons_succ, List.getElem_toArray, List.getElem_cons_succ, List.getElem_cons_zero]
      refine wpAnyH_take (i := 2) (v := ?_) rfl (by kernel_rfl) (by kernel_rfl) (by kernel_rfl) (fun _ _ _ h => h) (Or.inl ⟨by rfl, ?_⟩) (by assumption) ?_
      rotate_left
      · intro w' hSw
        go_simp <;> with_reducible rfl
      try simp only [Act.put, List.setIfInBounds_toArray, List.set_cons_zero, List.set_cons_succ, List.getElem_toArray, List.getElem_cons_succ, List.getElem_cons_zero]
      refine wpAnyH_take (i := 3) (v := ?_) rfl (by kernel_rfl) (by kernel_rfl) (by kernel_rfl) (fun _ _ _ h => h) (Or.inl ⟨by rfl, ?_⟩) (by assumption) ?_
      rotate_left
      · intro w' hSw
        have f0 := cell_is HC.out.1 hSw.2
        have f1 := cell_is HC.out.2.1 hSw.2
        have f2 := cell_is HC.out.2.2.1 hSw.2
        have z0 := cell_is HC.out.2.2.2.1 hSw.2
        have z1 := cell_is HC.out.2.2.2.2.1 hSw.2
        have z2 := cell_is HC.out.2.2.2.2.2 hSw.2
        go_simp <;> with_reducible rfl
      try simp only [Act.put, List.setIfInBounds_toArray, List.set_cons_zero, List.set_cons_succ, List.getElem_toArray, List.getElem_cons_succ, List.getElem_cons_zero]
      refine wpAnyH_take (i := 4) (v := ?_) rfl (by kernel_rfl) (by kernel_rfl) (by kernel_rfl) (fun _ _ _ h => h) (Or.inl ⟨by rfl, ?_⟩) (by assumption) ?_
      rotate_left
      · intro w' hSw
        go_simp <;> with_reducible rfl
      try simp only [Act.put, List.setIfInBounds_toArray, List.set_cons_zero, List.set_cons_succ, List.getElem_toArray, List.getElem_cons_succ, List.getElem_cons_zero]
      refine wpAnyH_take (i := 5) (v := ?_) rfl (by kernel_rfl) (by kernel_rfl) (by kernel_rfl) (fun _ _ _ h => h) (Or.inl ⟨by rfl, ?_⟩) (by assumption) ?_
      rotate_left
      · intro w' hSw
        have k2 := hSw.1.cell 2
        simp only [List.getElem?_toArray, List.getElem?_cons_zero, List.getElem?_cons_succ] at k2
        go_simp <;> with_reducible rfl
      try simp only [Act.put, List.setIfInBounds_toArray, List.set_cons_zero, List.set_cons_succ, List.getElem_toArray, List.getElem_cons_succ, List.getElem_cons_zero]
      refine wpAnyH_take (i := 6) (v := ?_) rfl (by kernel_rfl) (by kernel_rfl) (by kernel_rfl) (fun _ _ _ h => h) (Or.inl ⟨by rfl, ?_⟩) (by assumption) ?_
      rotate_left
      · intro w' hSw
        go_simp <;> with_reducible rfl
      try simp only [Act.put, List.setIfInBounds_toArray, List.set_cons_zero, List.set_cons_succ, List.getElem_toArray, List.getElem_cons_succ, List.getElem_cons_zero]
      refine wpAnyH_take (i := 7) (v := ?_) rfl (by kernel_rfl) (by kernel_rfl) (by kernel_rfl) (fun _ _ _ h => h) (Or.inl ⟨by rfl, ?_⟩) (by assumption) ?_
      rotate_left
      · intro w' hSw
        have f0 := cell_is HC.out.1 hSw.2
        have f1 := cell_is HC.out.2.1 hSw.2
        have f2 := cell_is HC.out.2.2.1 hSw.2
        have z0 := cell_is HC.out.2.2.2.1 hSw.2
        have z1 := cell_is HC.out.2.2.2.2.1 hSw.2
        have z2 := cell_is HC.out.2.2.2.2.2 hSw.2
        go_simp <;> with_reducible rfl
      try simp only [Act.put, List.setIfInBounds_toArray, List.set_cons_zero, List.set_cons_succ, List.getElem_toArray, List.getElem_cons_succ, List.getElem_cons_zero]
      refine wpAnyH_ready (rs := [8, 9]) (by kernel_rfl) (by simp) ?_
      refine AllReadyH.cons rfl (fun K hK => ?_) (AllReadyH.cons rfl (fun K hK => ?_) AllReadyH.nil)
      · go_simp
        refine hK.out _ _ (by exact ⟨(Zd.out.later ((Below.refl _ _).alloc (Nat.le_refl _) _)).bx, HCd.out.alloc HCd.out.size _⟩) (fun hHeld => ?_)
        clear hK K
        try simp only [Act.put, List.setIfInBounds_toArray, List.set_cons_zero, List.set_cons_succ, List.getElem_toArray, List.getElem_cons_succ, List.getElem_cons_zero]
        have A1 := hide (Blk.new Wd #[.int .i64 0, .int .i64 0, .slice none 0 0] 26)
        have hz1 : (Wd.alloc (.cells #[.int .i64 0, .int .i64 0, .slice none 0 0] 26)).heap.size = Wd.heap.size + 1 := by simp
        have B1 : Hid (Below Wd.heap.size Wd (Wd.alloc (.cells #[.int .i64 0, .int .i64 0, .slice none 0 0] 26))) := (Below.refl _ _).alloc (Nat.le_refl _) _
        generalize (Wd.alloc (.cells #[.int .i64 0, .int .i64 0, .slice none 0 0] 26)) = W1 at *
        refine wpAnyH_ready (rs := [9]) (by kernel_rfl) (by simp) ?_
        refine AllReadyH.cons rfl (fun K hK => ?_) AllReadyH.nil
        go_simp
        refine hK.out _ _ (by exact ⟨(Zd.out.later (B1.out.alloc B1.out.size _)).bx, (HCd.out.trans (B1.out.mono HCd.out.size)).alloc (by have := HCd.out.size; have := B1.out.size; omega) _⟩) (fun hHeld => ?_)
        clear hK K
        try simp only [Act.put, List.setIfInBounds_toArray, List.set_cons_zero, List.set_cons_succ, List.getElem_toArray, List.getElem_cons_succ, List.getElem_cons_zero]
        have A2 : Hid (Blk (W1.alloc (.cells #[.int .i64 0, .int .i64 0, .slice none 0 0] 26)) (Wd.heap.size + 1) #[.int .i64 0, .int .i64 0, .slice none 0 0] 26) := by unfold Hid; rw [← hz1]; exact Blk.new W1 _ _
        have A1' := hide (A1.out.alloc (.cells #[.int .i64 0, .int .i64 0, .slice none 0 0] 26))
        have B2 : Hid (Below Wd.heap.size Wd (W1.alloc (.cells #[.int .i64 0, .int .i64 0, .slice none 0 0] 26))) := B1.out.alloc B1.out.size _
        clear A1 B1
        generalize (W1.alloc (.cells #[.int .i64 0, .int .i64 0, .slice none 0 0] 26)) = W2 at *
        have G6 : Hid (Blk W2 Wd.heap.size #[.int .i64 0, .int .i64 0, .slice none 0 0] 26) := A1'.out
        have G7 : Hid (Blk W2 (Wd.heap.size + 1) #[.int .i64 0, .int .i64 0, .slice none 0 0] 26) := A2.out
        clear A1' A2
        have g0 := G6.out.cell 0
        have g1 := G6.out.cell 1
        have g2 := G6.out.cell 2
        have g3 := G6.out.frozen
        simp only [List.getElem?_toArray, List.getElem?_cons_zero, List.getElem?_cons_succ] at g0 g1 g2
        have B3 : Hid (Below Wd.heap.size Wd (((W2.setCell ⟨Wd.heap.size, 0, none⟩ (.int .i64 f.kind)).setCell ⟨Wd.heap.size, 1, none⟩ (.int .i64 f.idx)).setCell ⟨Wd.heap.size, 2, none⟩ (.slice af f.subs.length cf))) := ((B2.out.setCell (by simp) _).setCell (by simp) _).setCell (by simp) _
        refine wpAnyH_ready (rs := [10]) (by kernel_rfl) (by simp) ?_
        refine AllReadyH.cons rfl (fun K hK => ?_) AllReadyH.nil
        go_simp
        refine hK.out _ _ (by exact ⟨(Zd.out.later B3.out).bx, HCd.out.trans (B3.out.mono HCd.out.size)⟩) (fun hHeld => ?_)
        clear hK K
        try simp only [Act.put, List.setIfInBounds_toArray, List.set_cons_zero, List.set_cons_succ, List.getElem_toArray, List.getElem_cons_succ, List.getElem_cons_zero]
        have J6 : Hid (Blk (((W2.setCell ⟨Wd.heap.size, 0, none⟩ (.int .i64 f.kind)).setCell ⟨Wd.heap.size, 1, none⟩ (.int .i64 f.idx)).setCell ⟨Wd.heap.size, 2, none⟩ (.slice af f.subs.length cf)) Wd.heap.size #[.int .i64 f.kind, .int .i64 f.idx, .slice af f.subs.length cf] 26) := lt_set3 G6.out _ _ _
        have J7 : Hid (Blk (((W2.setCell ⟨Wd.heap.size, 0, none⟩ (.int .i64 f.kind)).setCell ⟨Wd.heap.size, 1, none⟩ (.int .i64 f.idx)).setCell ⟨Wd.heap.size, 2, none⟩ (.slice af f.subs.length cf)) (Wd.heap.size + 1) #[.int .i64 0, .int .i64 0, .slice none 0 0] 26) := lt_set3o G7.out (by omega) _ _ _
        clear g0 g1 g2 g3 G6 G7 B2
        generalize (((W2.setCell ⟨Wd.heap.size, 0, none⟩ (.int .i64 f.kind)).setCell ⟨Wd.heap.size, 1, none⟩ (.int .i64 f.idx)).setCell ⟨Wd.heap.size, 2, none⟩ (.slice af f.subs.length cf)) = W3 at *
        have g0 := J7.out.cell 0
        have g1 := J7.out.cell 1
        have g2 := J7.out.cell 2
        have g3 := J7.out.frozen
        simp only [List.getElem?_toArray, List.getElem?_cons_zero, List.getElem?_cons_succ] at g0 g1 g2
        have B4 : Hid (Below Wd.heap.size Wd (((W3.setCell ⟨(Wd.heap.size + 1), 0, none⟩ (.int .i64 z.kind)).setCell ⟨(Wd.heap.size + 1), 1, none⟩ (.int .i64 z.idx)).setCell ⟨(Wd.heap.size + 1), 2, none⟩ (.slice az z.subs.length cz))) := ((B3.out.setCell (by simp) _).setCell (by simp) _).setCell (by simp) _
        refine wpAnyH_ready (rs := [11]) (by kernel_rfl) (by simp) ?_
        refine AllReadyH.cons rfl (fun K hK => ?_) AllReadyH.nil
        go_simp
        refine hK.out _ _ (by exact ⟨(Zd.out.later B4.out).bx, HCd.out.trans (B4.out.mono HCd.out.size)⟩) (fun hHeld => ?_)
        clear hK K
        try simp only [Act.put, List.setIfInBounds_toArray, List.set_cons_zero, List.set_cons_succ, List.getElem_toArray, List.getElem_cons_succ, List.getElem_cons_zero]
        have M6 : Hid (Blk (((W3.setCell ⟨(Wd.heap.size + 1), 0, none⟩ (.int .i64 z.kind)).setCell ⟨(Wd.heap.size + 1), 1, none⟩ (.int .i64 z.idx)).setCell ⟨(Wd.heap.size + 1), 2, none⟩ (.slice az z.subs.length cz)) Wd.heap.size #[.int .i64 f.kind, .int .i64 f.idx, .slice af f.subs.length cf] 26) := lt_set3o J6.out (by omega) _ _ _
        have M7 : Hid (Blk (((W3.setCell ⟨(Wd.heap.size + 1), 0, none⟩ (.int .i64 z.kind)).setCell ⟨(Wd.heap.size + 1), 1, none⟩ (.int .i64 z.idx)).setCell ⟨(Wd.heap.size + 1), 2, none⟩ (.slice az z.subs.length cz)) (Wd.heap.size + 1) #[.int .i64 z.kind, .int .i64 z.idx, .slice az z.subs.length cz] 26) := lt_set3 J7.out _ _ _
        clear g0 g1 g2 g3 J6 J7 B3
        generalize (((W3.setCell ⟨(Wd.heap.size + 1), 0, none⟩ (.int .i64 z.kind)).setCell ⟨(Wd.heap.size + 1), 1, none⟩ (.int .i64 z.idx)).setCell ⟨(Wd.heap.size + 1), 2, none⟩ (.slice az z.subs.length cz)) = W4 at *
        have ZW := hide (Zd.out.later B4.out)
        have hP6 : Hid (Wd.heap.size ≠ b ∧ some Wd.heap.size ≠ q0.ownBlock) := by
          have h1 := Zd.out.wr.lt
          exact ⟨by omega, fun e => by have := (Zd.out.wr.2.2.lt _ e.symm).2; omega⟩
        have hP7 : Hid ((Wd.heap.size + 1) ≠ b ∧ some (Wd.heap.size + 1) ≠ q0.ownBlock) := by
          have h1 := Zd.out.wr.lt
          exact ⟨by omega, fun e => by have := (Zd.out.wr.2.2.lt _ e.symm).2; omega⟩
        generalize hp7 : Wd.heap.size + 1 = P7 at M7 hP7 ⊢
        generalize hp6 : Wd.heap.size = P6 at M6 hP6 ⊢
        clear hp6 hp7 Zd B4 HCd hz1
        refine wpAnyH_done (by kernel_rfl) ?_ _
        have m0 := M6.out.cell 0
        have m1 := M6.out.cell 1
        have m2 := M6.out.cell 2
        simp only [List.getElem?_toArray, List.getElem?_cons_zero, List.getElem?_cons_succ] at m0 m1 m2
        go_wp2_with fail
        refine (wpiece_any fr f (IH.out f (by simp)) (f.kind == 2) d _ q0 pre B b fa fc _ X Y hf (by omega) (by exact HF.out.bfr ZW.out.bel hX) hX (by exact HN.out.bfr ZW.out.bel hY) hY (by exact ZW.out.wr) ZW.out.le (HT.out.on ZW.out.bel) (by omega)).mono ?_
        rintro e w1 ⟨rfl, q1, hws, hfs⟩
        have Z1 := hide (ZW.out.step hws hfs)
        have M7a := hide (blk_bfr M7.out hfs hP7.out.1 hP7.out.2)
        have h71 := hide (own_bfr hfs M7.out.lt hP7.out.2)
        clear hws hfs m0 m1 m2 M6 hP6 ZW M7
        go_wp2_with fail
        refine (writeByteW_any B b _ _ q1 32 _ (by exact Z1.out.wr) (by rw [Lib.byteCells_length]; (try simp only [List.length_append, List.length_cons, List.length_nil]); omega) Z1.out.le).mono ?_
        rintro e w2 ⟨rfl, q2, hws, hfs⟩
        have hws' : Wrt w2 B b (.slice fa fr.length fc) (Lib.byteCells (pre ++ brk (f.kind == 2) (ltx fr d f) ++ [32])) q2 := by rw [← bc_one]; exact hws
        have M7b := hide (blk_bfr M7a.out hfs hP7.out.1 h71.out)
        have Z2 := hide (Z1.out.step hws' hfs)
        clear hws hws' hfs Z1
        have m0 := M7b.out.cell 0
        have m1 := M7b.out.cell 1
        have m2 := M7b.out.cell 2
        simp only [List.getElem?_toArray, List.getElem?_cons_zero, List.getElem?_cons_succ] at m0 m1 m2
        cases hb2 : (z.kind == 2) with
        | true =>
          have hbr : Hid ((z.kind == 2 || z.kind == 3) = true) := by unfold Hid; simp [hb2]
          rw [hbr.out] at hlen2 HE
          go_wp2_with fail
          refine (wpiece_any fr z (IH.out z (by simp)) true d _ q2 _ B b fa fc _ X Y hz (by omega) (by exact HZ.out.bfr Z2.out.bel hX) hX (by exact HN.out.bfr Z2.out.bel hY) hY (by exact Z2.out.wr) Z2.out.le (HT.out.on Z2.out.bel) (by simp only [List.length_append, List.length_cons, List.length_nil]; omega)).mono ?_
          rintro e w3 ⟨rfl, q3, hws, hfs⟩
          have Z3 := hide (Z2.out.step hws hfs)
          clear hws hfs
          go_wp2_with fail
          first | go_end0 | refine bodyPost_ret (v := .tuple #[]) (by simp [results, Tryz.results54, go_sem]) rfl ?_
          exact ⟨rfl, q3, by rw [HE.out]; simpa using Z3.out.wr, HF0.out.trans Z3.out.fr⟩
        | false =>
          cases hb3 : (z.kind == 3) with
          | true =>
            have hbr : Hid ((z.kind == 2 || z.kind == 3) = true) := by unfold Hid; simp [hb2, hb3]
            rw [hbr.out] at hlen2 HE
            go_wp2_with fail
            refine (wpiece_any fr z (IH.out z (by simp)) true d _ q2 _ B b fa fc _ X Y hz (by omega) (by exact HZ.out.bfr Z2.out.bel hX) hX (by exact HN.out.bfr Z2.out.bel hY) hY (by exact Z2.out.wr) Z2.out.le (HT.out.on Z2.out.bel) (by simp only [List.length_append, List.length_cons, List.length_nil]; omega)).mono ?_
            rintro e w3 ⟨rfl, q3, hws, hfs⟩
            have Z3 := hide (Z2.out.step hws hfs)
            clear hws hfs
            go_wp2_with fail
            first | go_end0 | refine bodyPost_ret (v := .tuple #[]) (by simp [results, Tryz.results54, go_sem]) rfl ?_
            exact ⟨rfl, q3, by rw [HE.out]; simpa using Z3.out.wr, HF0.out.trans Z3.out.fr⟩
          | false =>
            have hbr : Hid ((z.kind == 2 || z.kind == 3) = false) := by unfold Hid; simp [hb2, hb3]
            rw [hbr.out] at hlen2 HE
            go_wp2_with fail
            refine (wpiece_any fr z (IH.out z (by simp)) false d _ q2 _ B b fa fc _ X Y hz (by omega) (by exact HZ.out.bfr Z2.out.bel hX) hX (by exact HN.out.bfr Z2.out.bel hY) hY (by exact Z2.out.wr) Z2.out.le (HT.out.on Z2.out.bel) (by simp only [List.length_append, List.length_cons, List.length_nil]; omega)).mono ?_
            rintro e w3 ⟨rfl, q3, hws, hfs⟩
            have Z3 := hide (Z2.out.step hws hfs)
            clear hws hfs
            go_wp2_with fail
            first | go_end0 | refine bodyPost_ret (v := .tuple #[]) (by simp [results, Tryz.results54, go_sem]) rfl ?_
            exact ⟨rfl, q3, by rw [HE.out]; simpa using Z3.out.wr, HF0.out.trans Z3.out.fr⟩
      · go_simp
        refine hK.out _ _ (by exact ⟨(Zd.out.later ((Below.refl _ _).alloc (Nat.le_refl _) _)).bx, HCd.out.alloc HCd.out.size _⟩) (fun hHeld => ?_)
        clear hK K
        try simp only [Act.put, List.setIfInBounds_toArray, List.set_cons_zero, List.set_cons_succ, List.getElem_toArray, List.getElem_cons_succ, List.getElem_cons_zero]
        have A1 := hide (Blk.new Wd #[.int .i64 0, .int .i64 0, .slice none 0 0] 26)
        have hz1 : (Wd.alloc (.cells #[.int .i64 0, .int .i64 0, .slice none 0 0] 26)).heap.size = Wd.heap.size + 1 := by simp
        have B1 : Hid (Below Wd.heap.size Wd (Wd.alloc (.cells #[.int .i64 0, .int .i64 0, .slice none 0 0] 26))) := (Below.refl _ _).alloc (Nat.le_refl _) _
        generalize (Wd.alloc (.cells #[.int .i64 0, .int .i64 0, .slice none 0 0] 26)) = W1 at *
        refine wpAnyH_ready (rs := [8]) (by kernel_rfl) (by simp) ?_
        refine AllReadyH.cons rfl (fun K hK => ?_) AllReadyH.nil
        go_simp
        refine hK.out _ _ (by exact ⟨(Zd.out.later (B1.out.alloc B1.out.size _)).bx, (HCd.out.trans (B1.out.mono HCd.out.size)).alloc (by have := HCd.out.size; have := B1.out.size; omega) _⟩) (fun hHeld => ?_)
        clear hK K
        try simp only [Act.put, List.setIfInBounds_toArray, List.set_cons_zero, List.set_cons_succ, List.getElem_toArray, List.getElem_cons_succ, List.getElem_cons_zero]
        have A2 : Hid (Blk (W1.alloc (.cells #[.int .i64 0, .int .i64 0, .slice none 0 0] 26)) (Wd.heap.size + 1) #[.int .i64 0, .int .i64 0, .slice none 0 0] 26) := by unfold Hid; rw [← hz1]; exact Blk.new W1 _ _
        have A1' := hide (A1.out.alloc (.cells #[.int .i64 0, .int .i64 0, .slice none 0 0] 26))
        have B2 : Hid (Below Wd.heap.size Wd (W1.alloc (.cells #[.int .i64 0, .int .i64 0, .slice none 0 0] 26))) := B1.out.alloc B1.out.size _
        clear A1 B1
        generalize (W1.alloc (.cells #[.int .i64 0, .int .i64 0, .slice none 0 0] 26)) = W2 at *
        have G6 : Hid (Blk W2 (Wd.heap.size + 1) #[.int .i64 0, .int .i64 0, .slice none 0 0] 26) := A2.out
        have G7 : Hid (Blk W2 Wd.heap.size #[.int .i64 0, .int .i64 0, .slice none 0 0] 26) := A1'.out
        clear A1' A2
        have g0 := G6.out.cell 0
        have g1 := G6.out.cell 1
        have g2 := G6.out.cell 2
        have g3 := G6.out.frozen
        simp only [List.getElem?_toArray, List.getElem?_cons_zero, List.getElem?_cons_succ] at g0 g1 g2
        have B3 : Hid (Below Wd.heap.size Wd (((W2.setCell ⟨(Wd.heap.size + 1), 0, none⟩ (.int .i64 f.kind)).setCell ⟨(Wd.heap.size + 1), 1, none⟩ (.int .i64 f.idx)).setCell ⟨(Wd.heap.size + 1), 2, none⟩ (.slice af f.subs.length cf))) := ((B2.out.setCell (by simp) _).setCell (by simp) _).setCell (by simp) _
        refine wpAnyH_ready (rs := [10]) (by kernel_rfl) (by simp) ?_
        refine AllReadyH.cons rfl (fun K hK => ?_) AllReadyH.nil
        go_simp
        refine hK.out _ _ (by exact ⟨(Zd.out.later B3.out).bx, HCd.out.trans (B3.out.mono HCd.out.size)⟩) (fun hHeld => ?_)
        clear hK K
        try simp only [Act.put, List.setIfInBounds_toArray, List.set_cons_zero, List.set_cons_succ, List.getElem_toArray, List.getElem_cons_succ, List.getElem_cons_zero]
        have J6 : Hid (Blk (((W2.setCell ⟨(Wd.heap.size + 1), 0, none⟩ (.int .i64 f.kind)).setCell ⟨(Wd.heap.size + 1), 1, none⟩ (.int .i64 f.idx)).setCell ⟨(Wd.heap.size + 1), 2, none⟩ (.slice af f.subs.length cf)) (Wd.heap.size + 1) #[.int .i64 f.kind, .int .i64 f.idx, .slice af f.subs.length cf] 26) := lt_set3 G6.out _ _ _
        have J7 : Hid (Blk (((W2.setCell ⟨(Wd.heap.size + 1), 0, none⟩ (.int .i64 f.kind)).setCell ⟨(Wd.heap.size + 1), 1, none⟩ (.int .i64 f.idx)).setCell ⟨(Wd.heap.size + 1), 2, none⟩ (.slice af f.subs.length cf)) Wd.heap.size #[.int .i64 0, .int .i64 0, .slice none 0 0] 26) := lt_set3o G7.out (by omega) _ _ _
        clear g0 g1 g2 g3 G6 G7 B2
        generalize (((W2.setCell ⟨(Wd.heap.size + 1), 0, none⟩ (.int .i64 f.kind)).setCell ⟨(Wd.heap.size + 1), 1, none⟩ (.int .i64 f.idx)).setCell ⟨(Wd.heap.size + 1), 2, none⟩ (.slice af f.subs.length cf)) = W3 at *
        have g0 := J7.out.cell 0
        have g1 := J7.out.cell 1
        have g2 := J7.out.cell 2
        have g3 := J7.out.frozen
        simp only [List.getElem?_toArray, List.getElem?_cons_zero, List.getElem?_cons_succ] at g0 g1 g2
        have B4 : Hid (Below Wd.heap.size Wd (((W3.setCell ⟨Wd.heap.size, 0, none⟩ (.int .i64 z.kind)).setCell ⟨Wd.heap.size, 1, none⟩ (.int .i64 z.idx)).setCell ⟨Wd.heap.size, 2, none⟩ (.slice az z.subs.length cz))) := ((B3.out.setCell (by simp) _).setCell (by simp) _).setCell (by simp) _
        refine wpAnyH_ready (rs := [11]) (by kernel_rfl) (by simp) ?_
        refine AllReadyH.cons rfl (fun K hK => ?_) AllReadyH.nil
        go_simp
        refine hK.out _ _ (by exact ⟨(Zd.out.later B4.out).bx, HCd.out.trans (B4.out.mono HCd.out.size)⟩) (fun hHeld => ?_)
        clear hK K
        try simp only [Act.put, List.setIfInBounds_toArray, List.set_cons_zero, List.set_cons_succ, List.getElem_toArray, List.getElem_cons_succ, List.getElem_cons_zero]
        have M6 : Hid (Blk (((W3.setCell ⟨Wd.heap.size, 0, none⟩ (.int .i64 z.kind)).setCell ⟨Wd.heap.size, 1, none⟩ (.int .i64 z.idx)).setCell ⟨Wd.heap.size, 2, none⟩ (.slice az z.subs.length cz)) (Wd.heap.size + 1) #[.int .i64 f.kind, .int .i64 f.idx, .slice af f.subs.length cf] 26) := lt_set3o J6.out (by omega) _ _ _
        have M7 : Hid (Blk (((W3.setCell ⟨Wd.heap.size, 0, none⟩ (.int .i64 z.kind)).setCell ⟨Wd.heap.size, 1, none⟩ (.int .i64 z.idx)).setCell ⟨Wd.heap.size, 2, none⟩ (.slice az z.subs.length cz)) Wd.heap.size #[.int .i64 z.kind, .int .i64 z.idx, .slice az z.subs.length cz] 26) := lt_set3 J7.out _ _ _
        clear g0 g1 g2 g3 J6 J7 B3
        generalize (((W3.setCell ⟨Wd.heap.size, 0, none⟩ (.int .i64 z.kind)).setCell ⟨Wd.heap.size, 1, none⟩ (.int .i64 z.idx)).setCell ⟨Wd.heap.size, 2, none⟩ (.slice az z.subs.length cz)) = W4 at *
        have ZW := hide (Zd.out.later B4.out)
        have hP6 : Hid ((Wd.heap.size + 1) ≠ b ∧ some (Wd.heap.size + 1) ≠ q0.ownBlock) := by
          have h1 := Zd.out.wr.lt
          exact ⟨by omega, fun e => by have := (Zd.out.wr.2.2.lt _ e.symm).2; omega⟩
        have hP7 : Hid (Wd.heap.size ≠ b ∧ some Wd.heap.size ≠ q0.ownBlock) := by
          have h1 := Zd.out.wr.lt
          exact ⟨by omega, fun e => by have := (Zd.out.wr.2.2.lt _ e.symm).2; omega⟩
        generalize hp6 : Wd.heap.size + 1 = P6 at M6 hP6 ⊢
        generalize hp7 : Wd.heap.size = P7 at M7 hP7 ⊢
        clear hp6 hp7 Zd B4 HCd hz1
        refine wpAnyH_done (by kernel_rfl) ?_ _
        have m0 := M6.out.cell 0
        have m1 := M6.out.cell 1
        have m2 := M6.out.cell 2
        simp only [List.getElem?_toArray, List.getElem?_cons_zero, List.getElem?_cons_succ] at m0 m1 m2
        go_wp2_with fail
        refine (wpiece_any fr f (IH.out f (by simp)) (f.kind == 2) d _ q0 pre B b fa fc _ X Y hf (by omega) (by exact HF.out.bfr ZW.out.bel hX) hX (by exact HN.out.bfr ZW.out.bel hY) hY (by exact ZW.out.wr) ZW.out.le (HT.out.on ZW.out.bel) (by omega)).mono ?_
        rintro e w1 ⟨rfl, q1, hws, hfs⟩
        have Z1 := hide (ZW.out.step hws hfs)
        have M7a := hide (blk_bfr M7.out hfs hP7.out.1 hP7.out.2)
        have h71 := hide (own_bfr hfs M7.out.lt hP7.out.2)
        clear hws hfs m0 m1 m2 M6 hP6 ZW M7
        go_wp2_with fail
        refine (writeByteW_any B b _ _ q1 32 _ (by exact Z1.out.wr) (by rw [Lib.byteCells_length]; (try simp only [List.length_append, List.length_cons, List.length_nil]); omega) Z1.out.le).mono ?_
        rintro e w2 ⟨rfl, q2, hws, hfs⟩
        have hws' : Wrt w2 B b (.slice fa fr.length fc) (Lib.byteCells (pre ++ brk (f.kind == 2) (ltx fr d f) ++ [32])) q2 := by rw [← bc_one]; exact hws
        have M7b := hide (blk_bfr M7a.out hfs hP7.out.1 h71.out)
        have Z2 := hide (Z1.out.step hws' hfs)
        clear hws hws' hfs Z1
        have m0 := M7b.out.cell 0
        have m1 := M7b.out.cell 1
        have m2 := M7b.out.cell 2
        simp only [List.getElem?_toArray, List.getElem?_cons_zero, List.getElem?_cons_succ] at m0 m1 m2
        cases hb2 : (z.kind == 2) with
        | true =>
          have hbr : Hid ((z.kind == 2 || z.kind == 3) = true) := by unfold Hid; simp [hb2]
          rw [hbr.out] at hlen2 HE
          go_wp2_with fail
          refine (wpiece_any fr z (IH.out z (by simp)) true d _ q2 _ B b fa fc _ X Y hz (by omega) (by exact HZ.out.bfr Z2.out.bel hX) hX (by exact HN.out.bfr Z2.out.bel hY) hY (by exact Z2.out.wr) Z2.out.le (HT.out.on Z2.out.bel) (by simp only [List.length_append, List.length_cons, List.length_nil]; omega)).mono ?_
          rintro e w3 ⟨rfl, q3, hws, hfs⟩
          have Z3 := hide (Z2.out.step hws hfs)
          clear hws hfs
          go_wp2_with fail
          first | go_end0 | refine bodyPost_ret (v := .tuple #[]) (by simp [results, Tryz.results54, go_sem]) rfl ?_
          exact ⟨rfl, q3, by rw [HE.out]; simpa using Z3.out.wr, HF0.out.trans Z3.out.fr⟩
        | false =>
          cases hb3 : (z.kind == 3) with
          | true =>
            have hbr : Hid ((z.kind == 2 || z.kind == 3) = true) := by unfold Hid; simp [hb2, hb3]
            rw [hbr.out] at hlen2 HE
            go_wp2_with fail
            refine (wpiece_any fr z (IH.out z (by simp)) true d _ q2 _ B b fa fc _ X Y hz (by omega) (by exact HZ.out.bfr Z2.out.bel hX) hX (by exact HN.out.bfr Z2.out.bel hY) hY (by exact Z2.out.wr) Z2.out.le (HT.out.on Z2.out.bel) (by simp only [List.length_append, List.length_cons, List.length_nil]; omega)).mono ?_
            rintro e w3 ⟨rfl, q3, hws, hfs⟩
            have Z3 := hide (Z2.out.step hws hfs)
            clear hws hfs
            go_wp2_with fail
            first | go_end0 | refine bodyPost_ret (v := .tuple #[]) (by simp [results, Tryz.results54, go_sem]) rfl ?_
            exact ⟨rfl, q3, by rw [HE.out]; simpa using Z3.out.wr, HF0.out.trans Z3.out.fr⟩
          | false =>
            have hbr : Hid ((z.kind == 2 || z.kind == 3) = false) := by unfold Hid; simp [hb2, hb3]
            rw [hbr.out] at hlen2 HE
            go_wp2_with fail
            refine (wpiece_any fr z (IH.out z (by simp)) false d _ q2 _ B b fa fc _ X Y hz (by omega) (by exact HZ.out.bfr Z2.out.bel hX) hX (by exact HN.out.bfr Z2.out.bel hY) hY (by exact Z2.out.wr) Z2.out.le (HT.out.on Z2.out.bel) (by simp only [List.length_append, List.length_cons, List.length_nil]; omega)).mono ?_
            rintro e w3 ⟨rfl, q3, hws, hfs⟩
            have Z3 := hide (Z2.out.step hws hfs)
            clear hws hfs
            go_wp2_with fail
            first | go_end0 | refine bodyPost_ret (v := .tuple #[]) (by simp [results, Tryz.results54, go_sem]) rfl ?_
            exact ⟨rfl, q3, by rw [HE.out]; simpa using Z3.out.wr, HF0.out.trans Z3.out.fr⟩
    · cases e
      simp only [List.length_nil, List.length_cons, Nat.zero_add, Nat.reduceAdd] at Z0 HN HT HS HF0 k0
      obtain ⟨m, rfl⟩ : ∃ m : Nat, x = (m : Int) := ⟨x.toNat, by omega⟩
      have HE : Hid (ltx fr d ⟨4, m, []⟩ = 99 :: Lib.decDigits m) := by unfold Hid; rw [ltx_con]; simp
      have hlen2 : pre.length + (1 + (Lib.decDigits m).length) ≤ 900000000 := by rw [HE.out] at hlen; simp at hlen; omega
      generalize ltx fr d ⟨4, m, []⟩ = R at HE hlen ⊢
      go_enter Tryz.func54, Tryz.ntmps54
      go_wp2_with fail
      generalize (w.alloc (.cells #[.int .i64 4, .int .i64 m, .slice a 0 c] 26)) = w0 at *
      refine (writeByteW_any B b _ _ q0 99 _ (by exact Z0.out.wr) (by rw [Lib.byteCells_length]; (try simp only [List.length_append, List.length_cons, List.length_nil]); omega) Z0.out.le).mono ?_
      rintro e w1 ⟨rfl, q1, hws, hfs⟩
      have hws' : Wrt w1 B b (.slice fa fr.length fc) (Lib.byteCells (pre ++ [99])) q1 := by rw [← bc_one]; exact hws
      have Z1 := hide (Z0.out.step hws' hfs)
      clear hws hws' hfs Z0
      go_wp2_with fail
      have Zd := hide (Z1.out.later (Below.drew (Below.refl _ _)))
      clear Z1
      refine wp_region_held_drew (S := fun w' => Blk w' w.heap.size #[.int .i64 4, .int .i64 m, .slice a 0 c] 26) (by kernel_rfl) (by exact Zd.out.bx) (fun hHeld => ?_)
      generalize World.drew w1 = Wd at *
      refine wpAnyH_take (i := 0) (v := ?_) rfl (by kernel_rfl) (by kernel_rfl) (by kernel_rfl) (fun _ _ _ h => h) (Or.inl ⟨by rfl, ?_⟩) (by assumption) ?_
      rotate_left
      · intro w' hSw
        go_simp <;> with_reducible rfl
      try simp only [Act.put, List.setIfInBounds_toArray, List.set_cons_zero, List.set_cons_succ, List.getElem_toArray, List.getElem_cons_succ, List.getElem_cons_zero]
      refine wpAnyH_take (i := 1) (v := ?_) rfl (by kernel_rfl) (by kernel_rfl) (by kernel_rfl) (fun _ _ _ h => h) (Or.inl ⟨by rfl, ?_⟩) (by assumption) ?_
      rotate_left
      · intro w' hSw
        go_simp <;> with_reducible rfl
      try simp only [Act.put, List.setIfInBounds_toArray, List.set_cons_zero, List.set_cons_succ, List.getElem_toArray, List.getElem_cons_succ, List.getElem_cons_zero]
      refine wpAnyH_take (i := 2) (v := ?_) rfl (by kernel_rfl) (by kernel_rfl) (by kernel_rfl) (fun _ _ _ h => h) (Or.inl ⟨by rfl, ?_⟩) (by assumption) ?_
      rotate_left
      · intro w' hSw
        go_simp <;> with_reducible rfl
      try simp only [Act.put, List.setIfInBounds_toArray, List.set_cons_zero, List.set_cons_succ, List.getElem_toArray, List.getElem_cons_succ, List.getElem_cons_zero]
      refine wpAnyH_take (i := 3) (v := ?_) rfl (by kernel_rfl) (by kernel_rfl) (by kernel_rfl) (fun _ _ _ h => h) (Or.inl ⟨by rfl, ?_⟩) (by assumption) ?_
      rotate_left
      · intro w' hSw
        go_simp <;> with_reducible rfl
      try simp only [Act.put, List.setIfInBounds_toArray, List.set_cons_zero, List.set_cons_succ, List.getElem_toArray, List.getElem_cons_succ, List.getElem_cons_zero]
      refine wpAnyH_take (i := 4) (v := ?_) rfl (by kernel_rfl) (by kernel_rfl) (by kernel_rfl) (fun _ _ _ h => h) (Or.inl ⟨by rfl, ?_⟩) (by assumption) ?_
      rotate_left
      · intro w' hSw
        have k1 := hSw.cell 1
        simp only [List.getElem?_toArray, List.getElem?_cons_zero, List.getElem?_cons_succ] at k1
        go_simp <;> with_reducible rfl
      try simp only [Act.put, List.setIfInBounds_toArray, List.set_cons_zero, List.set_cons_succ, List.getElem_toArray, List.getElem_cons_succ, List.getElem_cons_zero]
      refine wpAnyH_ready (rs := [5]) (by kernel_rfl) (by simp) ?_
      refine AllReadyH.cons rfl (fun K hK => ?_) AllReadyH.nil
      go_simp
      go_at_call 74
      refine (itoa_any m B (by omega) _ (HT.out.on Zd.out.bel)).mono ?_
      rintro e wn ⟨rfl, hbn⟩
      have Zn := hide (Zd.out.later hbn)
      clear hbn Zd
      go_simp
      refine hK.out _ _ (by exact Zn.out.bx) (fun hHeld => ?_)
      clear hK K
      try simp only [Act.put, List.setIfInBounds_toArray, List.set_cons_zero, List.set_cons_succ, List.getElem_toArray, List.getElem_cons_succ, List.getElem_cons_zero]
      refine wpAnyH_ready (rs := [6]) (by kernel_rfl) (by simp) ?_
      refine AllReadyH.cons rfl (fun K hK => ?_) AllReadyH.nil
      go_simp
      go_at_call 70
      refine (writeStringW_any B b _ _ q1 _ _ (by exact Zn.out.wr) (by rw [Lib.byteCells_length, bsz]; (try simp only [List.length_append, List.length_cons, List.length_nil]); omega) Zn.out.le).mono ?_
      rintro e w2 ⟨rfl, q2, hws, hfs⟩
      rw [bc_str] at hws
      have Z2 := hide (Zn.out.step hws hfs)
      clear hws hfs Zn
      go_simp
      refine hK.out _ _ (by exact Z2.out.bx) (fun hHeld => ?_)
      clear hK K
      try simp only [Act.put, List.setIfInBounds_toArray, List.set_cons_zero, List.set_cons_succ, List.getElem_toArray, List.getElem_cons_succ, List.getElem_cons_zero]
      refine wpAnyH_done (by kernel_rfl) ?_ _
      go_wp2_with fail
      first | go_end0 | refine bodyPost_ret (v := .tuple #[]) (by simp [results, Tryz.results54, go_sem]) rfl ?_
      exact ⟨rfl, q2, by rw [HE.out]; simpa using Z2.out.wr, HF0.out.trans Z2.out.fr⟩
end Go.Proofs.YtfbligcampbchaaGreatDoor

/- Walks: what a name stands for. -/
namespace Go.Proofs.YtfbligcampbchaaGreatDoor
open Go.RowKit Go.Shelf
attribute [local go_sem] Oper.semAt_some
set_option linter.unusedSimpArgs false
set_option linter.unusedVariables false
set_option maxRecDepth 8000

theorem lastN_is {n : ByteArray} : ∀ {l : List ByteArray} {j : Nat} (hj : j < l.length), l[j] = n → (∀ i (h : i < l.length), j < i → l[i] ≠ n) → lastN n l = some j
  | x :: r, 0, hj, h0, h1 => by
    have hr : lastN n r = none := by
      cases hc : lastN n r with
      | none => rfl
      | some i => exact absurd (lastN_get hc) (by have := h1 (i + 1) (by have := lastN_lt hc; simp; omega) (by omega); simpa using this)
    unfold lastN
    rw [hr]
    simp at h0
    simp [h0]
  | x :: r, j + 1, hj, h0, h1 => by
    have hr := lastN_is (n := n) (l := r) (j := j) (by simp at hj; omega) (by simpa using h0) (fun i hi hji => by have := h1 (i + 1) (by simp; omega) (by omega); simpa using this)
    unfold lastN
    rw [hr]
 where
  lastN_get {n : ByteArray} : ∀ {l : List ByteArray} {i : Nat} (h : lastN n l = some i), l[i]'(lastN_lt h) = n
    | x :: r, i, h => by
      have h' := h
      unfold lastN at h'
      cases hc : lastN n r with
      | some j =>
        rw [hc] at h'
        simp at h'
        subst h'
        simpa using lastN_get hc
      | none =>
        rw [hc] at h'
        simp at h'
        obtain ⟨h1, h2⟩ := h'
        subst h2
        simpa using h1
theorem lastN_none {n : ByteArray} : ∀ {l : List ByteArray}, (∀ i (h : i < l.length), l[i] ≠ n) → lastN n l = none
  | [], _ => rfl
  | x :: r, h => by
    have hr : lastN n r = none := lastN_none fun i hi => by have := h (i + 1) (by simp; omega); simpa using this
    unfold lastN
    rw [hr]
    have := h 0 (by simp)
    simp at this
    simp [this]

/-- What a name stands for: its lambda term, or why it is thrown. -/
def NdPost (nm : List ByteArray) (n : ByteArray) (w : World) (e : Ending) (w' : World) : Prop :=
  Below w.heap.size w w' ∧ ((∃ j, lastN n nm = some j ∧ e = .returned (.agg #[.int .i64 1, .int .i64 ((nm.length : Int) - 1 - j), .slice none 0 0])) ∨
    (lastN n nm = none ∧ ∃ c, conN n = some c ∧ e = .returned (.agg #[.int .i64 4, .int .i64 c, .slice none 0 0])) ∨
    (lastN n nm = none ∧ conN n = none ∧ e = thrownL 15))

/-- Nothing has changed, and the names from k on are others. -/
def NdJ (nm : List ByteArray) (n : ByteArray) (W6 : World) (k : Nat) (W : World) : Prop := (∀ b : Nat, W.heap[b]? = W6.heap[b]?) ∧ W.heap.size = W6.heap.size ∧ W.os = W6.os ∧ W.tape = W6.tape ∧ W.output = W6.output ∧ ∀ j (h1 : k ≤ j) (h : j < nm.length), nm[j] ≠ n
/-- It is found, and told. -/
def NdX (nm : List ByteArray) (n : ByteArray) (W6 : World) (L R : Nat) (rd : Loop) (W : World) : Prop := (∀ b : Nat, b ≠ L → b ≠ R → W.heap[b]? = W6.heap[b]?) ∧ W.heap.size = W6.heap.size ∧ W.os = W6.os ∧ W.tape = W6.tape ∧ W.output = W6.output ∧ W.heap[L]? = some (.loop rd) ∧ ∃ j, lastN n nm = some j ∧ Blk W R #[.int .i64 1, .int .i64 ((nm.length : Int) - 1 - j), .slice none 0 0] 26

set_option maxHeartbeats 4000000 in
theorem named_any (nm : List ByteArray) (n s : ByteArray) (hn : nameB n = true) (B i k c Bs : Nat) (a : Option Addr) (Y : Nat → Prop) (w : World) (hX : Blk w B #[.string s, .int .i64 (i : Int), .int .i64 (k : Int), .slice a nm.length c] 67) (hnm : LV Value.string w Y (.slice a nm.length c) nm) (hl : nm.length ≤ 1000) (hT : Tb Bs w) (hS : Tse Bs w) (hBs : Bs ≤ w.heap.size) :
    Calls Tryz.prog 68 #[.pointer (some ⟨B, 0, none⟩), .string n] w fun e w' => NdPost nm n w e w' := by
  have HX := hide hX
  have HN := hide hnm
  have HT := hide hT
  have HS := hide hS
  have hBlt := hX.lt
  obtain ⟨a2, c2, e2, ⟨_, hc2⟩, h3⟩ := hnm
  simp at e2
  obtain ⟨rfl, rfl⟩ := e2
  obtain ⟨bn, on, hab, hcells⟩ : ∃ bn on, (nm = [] ∨ a = some ⟨bn, on, none⟩) ∧ ∀ i (h : i < nm.length), w.cell? ⟨bn, on + i, none⟩ = some (.string nm[i]) := by
    rcases h3 with rfl | ⟨b, o, rfl, _, h3⟩
    · exact ⟨0, 0, Or.inl rfl, fun i h => by simp at h⟩
    · exact ⟨b, o, Or.inr rfl, h3⟩
  have HC := hide hcells
  clear hT hS h3 hcells
  have W3f : Hid (∃ W3, W3 = (((w.alloc (.cells #[.pointer (some ⟨B, 0, none⟩)] 78)).alloc (.cells #[.string n] 9)).alloc (.cells #[.int .i64 0, .int .i64 0, .slice none 0 0] 26))) := ⟨_, rfl⟩
  have x3 : (((w.alloc (.cells #[.pointer (some ⟨B, 0, none⟩)] 78)).alloc (.cells #[.string n] 9)).alloc (.cells #[.int .i64 0, .int .i64 0, .slice none 0 0] 26)).cell? ⟨B, 3, none⟩ = some (.slice a nm.length c) := (((HX.out.alloc _).alloc _).alloc _).cell 3
  refine (callsIn_wide (n := 6)).1 ?_
  refine callsIn_of_wp_marks Tryz.func68 rfl trivial ?_ rfl
  simp only [Tryz.ntmps68, List.size_toArray, List.length_cons, List.length_nil, Nat.reduceAdd, Nat.reduceSub, Array.replicate_succ, Array.replicate_zero, List.push_toArray, List.append_toArray, List.nil_append, List.cons_append]
  gi_wp2
  refine ⟨trivial, ((callsIn_wide (n := 5)).2 (backN_any _ _ ⟨_, _, _, rfl⟩)).mono ?_⟩
  rintro e w' ⟨rfl, rfl⟩
  have hz4 : ((((w.alloc (.cells #[.pointer (some ⟨B, 0, none⟩)] 78)).alloc (.cells #[.string n] 9)).alloc (.cells #[.int .i64 0, .int .i64 0, .slice none 0 0] 26)).alloc (.cells #[.slice a nm.length c] 60)).heap.size = w.heap.size + 4 := by simp
  have hz3 : (((w.alloc (.cells #[.pointer (some ⟨B, 0, none⟩)] 78)).alloc (.cells #[.string n] 9)).alloc (.cells #[.int .i64 0, .int .i64 0, .slice none 0 0] 26)).heap.size = w.heap.size + 3 := by simp
  have HB4 : Hid (Below w.heap.size w ((((w.alloc (.cells #[.pointer (some ⟨B, 0, none⟩)] 78)).alloc (.cells #[.string n] 9)).alloc (.cells #[.int .i64 0, .int .i64 0, .slice none 0 0] 26)).alloc (.cells #[.slice a nm.length c] 60))) := (((((Below.refl _ _).alloc (Nat.le_refl _) _).alloc (by simp) _).alloc (by simp; omega) _).alloc (by simp; omega) _)
  have A0 : Hid (Blk ((((w.alloc (.cells #[.pointer (some ⟨B, 0, none⟩)] 78)).alloc (.cells #[.string n] 9)).alloc (.cells #[.int .i64 0, .int .i64 0, .slice none 0 0] 26)).alloc (.cells #[.slice a nm.length c] 60)) w.heap.size #[.pointer (some ⟨B, 0, none⟩)] 78) := (((Blk.new w _ _).alloc _).alloc _).alloc _
  have A1 : Hid (Blk ((((w.alloc (.cells #[.pointer (some ⟨B, 0, none⟩)] 78)).alloc (.cells #[.string n] 9)).alloc (.cells #[.int .i64 0, .int .i64 0, .slice none 0 0] 26)).alloc (.cells #[.slice a nm.length c] 60)) (w.heap.size + 1) #[.string n] 9) := by
    have h := ((Blk.new (w.alloc (.cells #[.pointer (some ⟨B, 0, none⟩)] 78)) #[.string n] 9).alloc (.cells #[.int .i64 0, .int .i64 0, .slice none 0 0] 26)).alloc (.cells #[.slice a nm.length c] 60)
    have hz : (w.alloc (.cells #[.pointer (some ⟨B, 0, none⟩)] 78)).heap.size = w.heap.size + 1 := by simp
    rw [hz] at h
    exact h
  have A2 : Hid (Blk ((((w.alloc (.cells #[.pointer (some ⟨B, 0, none⟩)] 78)).alloc (.cells #[.string n] 9)).alloc (.cells #[.int .i64 0, .int .i64 0, .slice none 0 0] 26)).alloc (.cells #[.slice a nm.length c] 60)) (w.heap.size + 2) #[.int .i64 0, .int .i64 0, .slice none 0 0] 26) := by
    have h := (Blk.new ((w.alloc (.cells #[.pointer (some ⟨B, 0, none⟩)] 78)).alloc (.cells #[.string n] 9)) #[.int .i64 0, .int .i64 0, .slice none 0 0] 26).alloc (.cells #[.slice a nm.length c] 60)
    have hz : ((w.alloc (.cells #[.pointer (some ⟨B, 0, none⟩)] 78)).alloc (.cells #[.string n] 9)).heap.size = w.heap.size + 2 := by simp
    rw [hz] at h
    exact h
  have A3 : Hid (Blk ((((w.alloc (.cells #[.pointer (some ⟨B, 0, none⟩)] 78)).alloc (.cells #[.string n] 9)).alloc (.cells #[.int .i64 0, .int .i64 0, .slice none 0 0] 26)).alloc (.cells #[.slice a nm.length c] 60)) (w.heap.size + 3) #[.slice a nm.length c] 60) := by
    have h := Blk.new (((w.alloc (.cells #[.pointer (some ⟨B, 0, none⟩)] 78)).alloc (.cells #[.string n] 9)).alloc (.cells #[.int .i64 0, .int .i64 0, .slice none 0 0] 26)) #[.slice a nm.length c] 60
    rw [hz3] at h
    exact h
  gi_wp2
  generalize ((((w.alloc (.cells #[.pointer (some ⟨B, 0, none⟩)] 78)).alloc (.cells #[.string n] 9)).alloc (.cells #[.int .i64 0, .int .i64 0, .slice none 0 0] 26)).alloc (.cells #[.slice a nm.length c] 60)) = W4 at *
  clear x3 W3f hz3
  refine wp_range2 (gf := 83) (lb := #[.pointer (some ⟨w.heap.size + 3, 0, none⟩)]) rfl (enters_of Tryz.func83 (by kernel_rfl) rfl) ?_
  intro r hr1 hr2 hr3 hr4 hr5 hr6
  rw [hz4]
  have e45 : w.heap.size + 4 + 1 = w.heap.size + 5 := rfl
  rw [e45]
  clear e45
  have hz6 : ((W4.alloc (.deferred (some []))).alloc (.loop r)).heap.size = w.heap.size + 6 := by simp [hz4]
  have HB6 : Hid (Below w.heap.size w ((W4.alloc (.deferred (some []))).alloc (.loop r))) := (HB4.out.alloc (by omega) _).alloc (by simp; omega) _
  have D0 : Hid (Blk ((W4.alloc (.deferred (some []))).alloc (.loop r)) w.heap.size #[.pointer (some ⟨B, 0, none⟩)] 78) := (A0.out.alloc _).alloc _
  have D1 : Hid (Blk ((W4.alloc (.deferred (some []))).alloc (.loop r)) (w.heap.size + 1) #[.string n] 9) := (A1.out.alloc _).alloc _
  have D2 : Hid (Blk ((W4.alloc (.deferred (some []))).alloc (.loop r)) (w.heap.size + 2) #[.int .i64 0, .int .i64 0, .slice none 0 0] 26) := (A2.out.alloc _).alloc _
  have D3 : Hid (Blk ((W4.alloc (.deferred (some []))).alloc (.loop r)) (w.heap.size + 3) #[.slice a nm.length c] 60) := (A3.out.alloc _).alloc _
  have D4 : Hid (((W4.alloc (.deferred (some []))).alloc (.loop r)).heap[w.heap.size + 4]? = some (.deferred (some []))) := by
    unfold Hid
    rw [Below.heap_alloc _ _ _ (by simp; omega), ← hz4]
    exact heap_alloc_new _ _
  have D5 : Hid (((W4.alloc (.deferred (some []))).alloc (.loop r)).heap[w.heap.size + 5]? = some (.loop r)) := by
    have h := heap_alloc_new (W4.alloc (.deferred (some []))) (.loop r)
    have hz : (W4.alloc (.deferred (some []))).heap.size = w.heap.size + 5 := by simp [hz4]
    rw [hz] at h
    exact h
  generalize ((W4.alloc (.deferred (some []))).alloc (.loop r)) = W6 at *
  clear A0 A1 A2 A3 HB4 hz4
  have DX := hide (HX.out.below HB6.out HX.out.lt)
  have DC : Hid (∀ i (h : i < nm.length), W6.cell? ⟨bn, on + i, none⟩ = some (.string nm[i])) := fun i h => cell_is (HC.out i h) HB6.out
  obtain ⟨rd, hrd⟩ : ∃ rd : Loop, rd = { r with state := .done, pending := some .ret } := ⟨_, rfl⟩
  obtain ⟨rb, hrb⟩ : ∃ rb : Loop, rb = { r with state := .busy } := ⟨_, rfl⟩
  have hJc : ∀ k W, NdJ nm n W6 k W → W.cell? ⟨w.heap.size + 3, 0, none⟩ = some (.slice a nm.length c) ∧ ∀ i (h : i < nm.length), W.cell? ⟨bn, on + i, none⟩ = some (.string nm[i]) := fun k W h => by
    refine ⟨?_, fun i hi => ?_⟩
    · rw [World.cell?_of_block (h.1 _)]; exact D3.out.cell 0
    · rw [World.cell?_of_block (h.1 _)]; exact DC.out i hi
  refine (back1N_any nm (w.heap.size + 5) (w.heap.size + 3) bn on c a hab (by omega) (NdJ nm n W6) (NdX nm n W6 (w.heap.size + 5) (w.heap.size + 2) rd) hJc ?_ W6 ⟨fun b => rfl, rfl, rfl, rfl, rfl, fun j h1 h2 => by omega⟩).mono ?_
  · intro n' j hj W hJ
    obtain ⟨q1, q2, q3, q4, q5, q6⟩ := hJ
    have hL : W.heap[w.heap.size + 5]? = some (.loop r) := (q1 _).trans D5.out
    have hzV : (W.putObj (w.heap.size + 5) (.loop rb)).heap.size = w.heap.size + 6 := by simp; omega
    have kV : ∀ b : Nat, b ≠ w.heap.size + 5 → (W.putObj (w.heap.size + 5) (.loop rb)).heap[b]? = W6.heap[b]? := fun b hne => (World.putObj_heap_other hne).trans (q1 b)
    have E0 : Hid (Blk (W.putObj (w.heap.size + 5) (.loop rb)) w.heap.size #[.pointer (some ⟨B, 0, none⟩)] 78) := (kV _ (by omega)).trans D0.out
    have E1 : Hid (Blk (W.putObj (w.heap.size + 5) (.loop rb)) (w.heap.size + 1) #[.string n] 9) := (kV _ (by omega)).trans D1.out
    have E2 : Hid (Blk (W.putObj (w.heap.size + 5) (.loop rb)) (w.heap.size + 2) #[.int .i64 0, .int .i64 0, .slice none 0 0] 26) := (kV _ (by omega)).trans D2.out
    have EX : Hid (Blk (W.putObj (w.heap.size + 5) (.loop rb)) B #[.string s, .int .i64 (i : Int), .int .i64 (k : Int), .slice a nm.length c] 67) := (kV _ (by omega)).trans DX.out
    have HLV : Hid ((W.putObj (w.heap.size + 5) (.loop rb)).heap[w.heap.size + 5]? = some (.loop rb)) := World.putObj_heap_same (by omega)
    have HKV := hide kV
    have HOS : Hid ((W.putObj (w.heap.size + 5) (.loop rb)).os = W6.os ∧ (W.putObj (w.heap.size + 5) (.loop rb)).tape = W6.tape ∧ (W.putObj (w.heap.size + 5) (.loop rb)).output = W6.output) := ⟨q3, q4, q5⟩
    have HQ6 := hide q6
    have HQ1 := hide q1
    have hL2 := hL
    have HRR := hide (And.intro hrb hrd)
    clear kV q1 q3 q4 q5 q6
    refine yield_two HRR.out.1 HRR.out.2 hr5 hr6 hr4 hr3 hL hr1 hr2 rfl ?_
    clear hL hr1 hr2 hr3 hr4 hr5 hr6
    generalize hx : nm[j] = x
    have HXJ := hide hx
    clear hx
    gi_wp2
    refine ⟨hL2, ?_⟩
    clear hL2
    generalize hV : (W.putObj (w.heap.size + 5) (.loop rb)) = V at *
    have HV := hide hV
    clear hV hrb hrd
    have e0 : V.cell? ⟨w.heap.size, 0, none⟩ = some (.pointer (some ⟨B, 0, none⟩)) := E0.out.cell 0
    have e1 : V.cell? ⟨w.heap.size + 1, 0, none⟩ = some (.string n) := E1.out.cell 0
    have e2 : V.cell? ⟨w.heap.size + 1 + 1, 0, none⟩ = some (.int .i64 0) := E2.out.cell 0
    have e3 : V.cell? ⟨w.heap.size + 1 + 1, 1, none⟩ = some (.int .i64 0) := E2.out.cell 1
    have e4 : V.cell? ⟨w.heap.size + 1 + 1, 2, none⟩ = some (.slice none 0 0) := E2.out.cell 2
    have ef : ∀ q, V.frozen? ⟨w.heap.size + 1 + 1, q, none⟩ = false := fun q => E2.out.frozen q
    have ex : V.cell? ⟨B, 3, none⟩ = some (.slice a nm.length c) := EX.out.cell 3
    have hjl : (j : Int) < (nm.length : Int) := by omega
    have hll : (nm.length : Int) ≤ 1000 := by omega
    by_cases hxn : x = n
    · subst hxn
      gi_wp2
      have k3 : ∀ b : Nat, b ≠ w.heap.size + 2 → (((V.setCell ⟨w.heap.size + 1 + 1, 0, none⟩ (.int .i64 1)).setCell ⟨w.heap.size + 1 + 1, 1, none⟩ (.int .i64 ((nm.length : Int) - 1 - j))).setCell ⟨w.heap.size + 1 + 1, 2, none⟩ (.slice none 0 0)).heap[b]? = V.heap[b]? := fun b hb => by
        rw [Below.heap_setCell _ _ _ _ (by simpa using hb)]
        rw [Below.heap_setCell _ _ _ _ (by simpa using hb)]
        rw [Below.heap_setCell _ _ _ _ (by simpa using hb)]
      have hB3 : Blk (((V.setCell ⟨w.heap.size + 1 + 1, 0, none⟩ (.int .i64 1)).setCell ⟨w.heap.size + 1 + 1, 1, none⟩ (.int .i64 ((nm.length : Int) - 1 - j))).setCell ⟨w.heap.size + 1 + 1, 2, none⟩ (.slice none 0 0)) (w.heap.size + 2) #[.int .i64 1, .int .i64 ((nm.length : Int) - 1 - j), .slice none 0 0] 26 := lt_set3 E2.out _ _ _
      have hz3 : (((V.setCell ⟨w.heap.size + 1 + 1, 0, none⟩ (.int .i64 1)).setCell ⟨w.heap.size + 1 + 1, 1, none⟩ (.int .i64 ((nm.length : Int) - 1 - j))).setCell ⟨w.heap.size + 1 + 1, 2, none⟩ (.slice none 0 0)).heap.size = V.heap.size := by simp [World.setCell]
      have ho3 : (((V.setCell ⟨w.heap.size + 1 + 1, 0, none⟩ (.int .i64 1)).setCell ⟨w.heap.size + 1 + 1, 1, none⟩ (.int .i64 ((nm.length : Int) - 1 - j))).setCell ⟨w.heap.size + 1 + 1, 2, none⟩ (.slice none 0 0)).os = V.os ∧ (((V.setCell ⟨w.heap.size + 1 + 1, 0, none⟩ (.int .i64 1)).setCell ⟨w.heap.size + 1 + 1, 1, none⟩ (.int .i64 ((nm.length : Int) - 1 - j))).setCell ⟨w.heap.size + 1 + 1, 2, none⟩ (.slice none 0 0)).tape = V.tape ∧ (((V.setCell ⟨w.heap.size + 1 + 1, 0, none⟩ (.int .i64 1)).setCell ⟨w.heap.size + 1 + 1, 1, none⟩ (.int .i64 ((nm.length : Int) - 1 - j))).setCell ⟨w.heap.size + 1 + 1, 2, none⟩ (.slice none 0 0)).output = V.output := ⟨rfl, rfl, rfl⟩
      generalize (((V.setCell ⟨w.heap.size + 1 + 1, 0, none⟩ (.int .i64 1)).setCell ⟨w.heap.size + 1 + 1, 1, none⟩ (.int .i64 ((nm.length : Int) - 1 - j))).setCell ⟨w.heap.size + 1 + 1, 2, none⟩ (.slice none 0 0)) = W3 at *
      have hLN : lastN x nm = some j := lastN_is hj HXJ.out (fun i hi hji => HQ6.out i (by omega) hi)
      refine ⟨(k3 _ (by omega)).trans HLV.out, Or.inr ⟨rfl, fun b h1 h2 => (World.putObj_heap_other h1).trans ((k3 b h2).trans (HKV.out b h1)), by simp; omega, ho3.1.trans HOS.out.1, ho3.2.1.trans HOS.out.2.1, ho3.2.2.trans HOS.out.2.2, World.putObj_heap_same (by omega), j, hLN, (World.putObj_heap_other (by omega)).trans hB3⟩⟩
    · have g1 : (x.toList == n.toList) = false := by
        cases hq : (x.toList == n.toList) with
        | false => rfl
        | true =>
          exfalso
          apply hxn
          have h1 : x.toList = n.toList := by simpa using hq
          rw [ByteArray.toList_eq, ByteArray.toList_eq] at h1
          exact ByteArray.ext (Array.toList_inj.1 h1)
      have g2 : ¬ x = n := hxn
      clear hxn
      gi_wp2
      refine ⟨HLV.out, Or.inl ⟨rfl, fun b => ?_, by simp; omega, HOS.out.1, HOS.out.2.1, HOS.out.2.2, fun j' h1 h2 => ?_⟩⟩
      · by_cases hbL : b = w.heap.size + 5
        · subst hbL; exact (World.putObj_heap_same (by omega)).trans D5.out.symm
        · exact (World.putObj_heap_other hbL).trans (HKV.out b hbL)
      · by_cases hjj : j' = j
        · subst hjj; rw [HXJ.out]; exact g2
        · exact HQ6.out j' (by omega) h2
  · rintro e Wf ⟨hret, hJf | hXf⟩
    · refine ⟨hret, Or.inl ⟨(hJf.1 _).trans D5.out, ?_⟩⟩
      have HLN : Hid (lastN n nm = none) := lastN_none fun i hi => hJf.2.2.2.2.2 i (Nat.zero_le _) hi
      have kg : ∀ b : Nat, b ≠ w.heap.size + 5 → (Wf.putObj (w.heap.size + 5) (.loop { r with state := .exhausted })).heap[b]? = W6.heap[b]? := fun b h => (World.putObj_heap_other h).trans (hJf.1 b)
      have hzg : (Wf.putObj (w.heap.size + 5) (.loop { r with state := .exhausted })).heap.size = w.heap.size + 6 := by have := hJf.2.1; simp; omega
      have HBg : Hid (Below w.heap.size w (Wf.putObj (w.heap.size + 5) (.loop { r with state := .exhausted }))) := ⟨hJf.2.2.1.trans HB6.out.os, hJf.2.2.2.1.trans HB6.out.tape, hJf.2.2.2.2.1.trans HB6.out.output, by omega, fun b hb => (kg b (by omega)).trans (HB6.out.block b hb)⟩
      have G1 : Hid (Blk (Wf.putObj (w.heap.size + 5) (.loop { r with state := .exhausted })) (w.heap.size + 1) #[.string n] 9) := (kg _ (by omega)).trans D1.out
      have G2 : Hid (Blk (Wf.putObj (w.heap.size + 5) (.loop { r with state := .exhausted })) (w.heap.size + 2) #[.int .i64 0, .int .i64 0, .slice none 0 0] 26) := (kg _ (by omega)).trans D2.out
      have G4 : Hid ((Wf.putObj (w.heap.size + 5) (.loop { r with state := .exhausted })).heap[w.heap.size + 4]? = some (.deferred (some []))) := (kg _ (by omega)).trans D4.out
      generalize (Wf.putObj (w.heap.size + 5) (.loop { r with state := .exhausted })) = Wg at *
      clear kg hJf hret hr1 hr2 hr3 hr4 hr5 hr6 hrd hrb hJc
      have g1 : Wg.cell? ⟨w.heap.size + 1, 0, none⟩ = some (.string n) := G1.out.cell 0
      gi_wp2
      refine ⟨trivial, ((callsIn_wide (n := 5)).2 (constant_any n hn Bs Wg (HT.out.on (HBg.out.mono hBs)) (HS.out.on (HBg.out.mono hBs)) (by omega))).mono ?_⟩
      rintro e W8 ⟨⟨z, rfl, hz⟩, hb8⟩
      have HB8 := hide (HBg.out.trans (hb8.mono HBg.out.size))
      have I2 := hide (G2.out.below hb8 G2.out.lt)
      have I4 : Hid (W8.heap[w.heap.size + 4]? = some (.deferred (some []))) := (hb8.block _ (by omega)).trans G4.out
      have hz8 := hb8.size
      have HZ := hide hz
      clear hb8 hz g1
      have i0 : W8.cell? ⟨w.heap.size + 1 + 1, 0, none⟩ = some (.int .i64 0) := I2.out.cell 0
      have i1 : W8.cell? ⟨w.heap.size + 1 + 1, 1, none⟩ = some (.int .i64 0) := I2.out.cell 1
      have i2 : W8.cell? ⟨w.heap.size + 1 + 1, 2, none⟩ = some (.slice none 0 0) := I2.out.cell 2
      have ifz : ∀ q, W8.frozen? ⟨w.heap.size + 1 + 1, q, none⟩ = false := fun q => I2.out.frozen q
      cases hcn : conN n with
      | some c0 =>
        have hzc := HZ.out c0 hcn
        subst hzc
        gi_wp2
        have Q2 : Blk (((W8.setCell ⟨w.heap.size + 1 + 1, 0, none⟩ (.int .i64 4)).setCell ⟨w.heap.size + 1 + 1, 1, none⟩ (.int .i64 (c0 : Int))).setCell ⟨w.heap.size + 1 + 1, 2, none⟩ (.slice none 0 0)) (w.heap.size + 2) #[.int .i64 4, .int .i64 (c0 : Int), .slice none 0 0] 26 := lt_set3 I2.out _ _ _
        have Q4 : (((W8.setCell ⟨w.heap.size + 1 + 1, 0, none⟩ (.int .i64 4)).setCell ⟨w.heap.size + 1 + 1, 1, none⟩ (.int .i64 (c0 : Int))).setCell ⟨w.heap.size + 1 + 1, 2, none⟩ (.slice none 0 0)).heap[w.heap.size + 4]? = some (.deferred (some [])) := by
          rw [Below.heap_setCell _ _ _ _ (by simp)]
          rw [Below.heap_setCell _ _ _ _ (by simp)]
          rw [Below.heap_setCell _ _ _ _ (by simp)]
          exact I4.out
        have QB : Below w.heap.size w (((W8.setCell ⟨w.heap.size + 1 + 1, 0, none⟩ (.int .i64 4)).setCell ⟨w.heap.size + 1 + 1, 1, none⟩ (.int .i64 (c0 : Int))).setCell ⟨w.heap.size + 1 + 1, 2, none⟩ (.slice none 0 0)) := ((HB8.out.setCell (by simp; omega) _).setCell (by simp; omega) _).setCell (by simp; omega) _
        generalize (((W8.setCell ⟨w.heap.size + 1 + 1, 0, none⟩ (.int .i64 4)).setCell ⟨w.heap.size + 1 + 1, 1, none⟩ (.int .i64 (c0 : Int))).setCell ⟨w.heap.size + 1 + 1, 2, none⟩ (.slice none 0 0)) = W9 at *
        have R2 : Blk (W9.putObj (w.heap.size + 4) (.deferred none)) (w.heap.size + 2) #[.int .i64 4, .int .i64 (c0 : Int), .slice none 0 0] 26 := (World.putObj_heap_other (by omega)).trans Q2
        have RB : Below w.heap.size w (W9.putObj (w.heap.size + 4) (.deferred none)) := ⟨QB.os, QB.tape, QB.output, by simp; exact QB.size, fun b hb => (World.putObj_heap_other (by omega)).trans (QB.block b hb)⟩
        refine ⟨by simp, .inl ⟨_, _, rfl, run_takeDeferred Q4, ?_⟩⟩
        refine ⟨.agg #[.int .i64 4, .int .i64 (c0 : Int), .slice none 0 0], ?_, RB, Or.inr (Or.inl ⟨HLN.out, c0, hcn, rfl⟩)⟩
        have e0 : (W9.putObj (w.heap.size + 4) (.deferred none)).cell? ⟨w.heap.size + 1 + 1, 0, none⟩ = some (.int .i64 4) := R2.cell 0
        have e1 : (W9.putObj (w.heap.size + 4) (.deferred none)).cell? ⟨w.heap.size + 1 + 1, 1, none⟩ = some (.int .i64 (c0 : Int)) := R2.cell 1
        have e2 : (W9.putObj (w.heap.size + 4) (.deferred none)).cell? ⟨w.heap.size + 1 + 1, 2, none⟩ = some (.slice none 0 0) := R2.cell 2
        simp [results, Tryz.results68, go_sem, e0, e1, e2]
      | none =>
        have hcs : (conN n).isSome = false := by rw [hcn]; rfl
        simp only [Option.isSome_none]
        gi_wp2
        refine ⟨by simp, .inl ⟨_, _, rfl, run_takeDeferred I4.out, ?_⟩⟩
        exact ⟨⟨HB8.out.os, HB8.out.tape, HB8.out.output, by simp; exact HB8.out.size, fun b hb => (World.putObj_heap_other (by omega)).trans (HB8.out.block b hb)⟩, Or.inr (Or.inr ⟨HLN.out, hcn, rfl⟩)⟩
    · obtain ⟨x1, x2, x3, x4, x5, x6, j, hj, hR⟩ := hXf
      refine ⟨hret, Or.inr ⟨by rw [← hrd]; exact x6, ?_⟩⟩
      have kg : ∀ b : Nat, b ≠ w.heap.size + 5 → (Wf.putObj (w.heap.size + 5) (.loop { r with state := .exhausted, pending := some .ret })).heap[b]? = Wf.heap[b]? := fun b h => World.putObj_heap_other h
      have hzg : (Wf.putObj (w.heap.size + 5) (.loop { r with state := .exhausted, pending := some .ret })).heap.size = w.heap.size + 6 := by simp; omega
      have HBg : Hid (Below w.heap.size w (Wf.putObj (w.heap.size + 5) (.loop { r with state := .exhausted, pending := some .ret }))) := ⟨x3.trans HB6.out.os, x4.trans HB6.out.tape, x5.trans HB6.out.output, by omega, fun b hb => (kg b (by omega)).trans ((x1 b (by omega) (by omega)).trans (HB6.out.block b hb))⟩
      have G2 : Hid (Blk (Wf.putObj (w.heap.size + 5) (.loop { r with state := .exhausted, pending := some .ret })) (w.heap.size + 2) #[.int .i64 1, .int .i64 ((nm.length : Int) - 1 - j), .slice none 0 0] 26) := (kg _ (by omega)).trans hR
      have G4 : Hid ((Wf.putObj (w.heap.size + 5) (.loop { r with state := .exhausted, pending := some .ret })).heap[w.heap.size + 4]? = some (.deferred (some []))) := (kg _ (by omega)).trans ((x1 _ (by omega) (by omega)).trans D4.out)
      generalize (Wf.putObj (w.heap.size + 5) (.loop { r with state := .exhausted, pending := some .ret })) = Wg at *
      clear kg hret hr1 hr2 hr3 hr4 hr5 hr6 hrd hrb hJc x1 x2 x3 x4 x5 x6 hR
      have R2 : Hid (Blk (Wg.putObj (w.heap.size + 4) (.deferred none)) (w.heap.size + 2) #[.int .i64 1, .int .i64 ((nm.length : Int) - 1 - j), .slice none 0 0] 26) := (World.putObj_heap_other (by omega)).trans G2.out
      have RB : Hid (Below w.heap.size w (Wg.putObj (w.heap.size + 4) (.deferred none))) := ⟨HBg.out.os, HBg.out.tape, HBg.out.output, by simp; exact HBg.out.size, fun b hb => (World.putObj_heap_other (by omega)).trans (HBg.out.block b hb)⟩
      gi_wp2
      refine ⟨by simp, .inl ⟨_, _, rfl, run_takeDeferred G4.out, ?_⟩⟩
      refine ⟨.agg #[.int .i64 1, .int .i64 ((nm.length : Int) - 1 - j), .slice none 0 0], ?_, RB.out, Or.inl ⟨j, hj, rfl⟩⟩
      have e0 : (Wg.putObj (w.heap.size + 4) (.deferred none)).cell? ⟨w.heap.size + 1 + 1, 0, none⟩ = some (.int .i64 1) := R2.out.cell 0
      have e1 : (Wg.putObj (w.heap.size + 4) (.deferred none)).cell? ⟨w.heap.size + 1 + 1, 1, none⟩ = some (.int .i64 ((nm.length : Int) - 1 - j)) := R2.out.cell 1
      have e2 : (Wg.putObj (w.heap.size + 4) (.deferred none)).cell? ⟨w.heap.size + 1 + 1, 2, none⟩ = some (.slice none 0 0) := R2.out.cell 2
      simp [results, Tryz.results68, go_sem, e0, e1, e2]
end Go.Proofs.YtfbligcampbchaaGreatDoor

/- Lambda terms that were written are read again, also with other names for what is bound. -/
namespace Go.Proofs.YtfbligcampbchaaGreatDoor
open Go.RowKit
set_option linter.unusedSimpArgs false
set_option linter.unusedVariables false

/-- Names from outside that no binder and no constant has. -/
structure FrOk (fr : List ByteArray) : Prop where
  nm : ∀ n ∈ fr, nameB n = true
  nox : ∀ n ∈ fr, ∀ b ∈ n.data.toList, b ≠ 120 ∧ b ≠ 113 ∧ b ≠ 99
  apart : ∀ i j (hi : i < fr.length) (hj : j < fr.length), fr[i] = fr[j] → i = j
end Go.Proofs.YtfbligcampbchaaGreatDoor

/- Lambda terms that were written are read again: the reading. -/
namespace Go.Proofs.YtfbligcampbchaaGreatDoor
open Go.RowKit
set_option linter.unusedSimpArgs false
set_option linter.unusedVariables false

/-- What may stand behind a piece; behind a term. -/
def EndsN (post : List UInt8) : Prop := post = [] ∨ ∃ c r, post = c :: r ∧ (c = 41 ∨ c = 32)
def EndsT (post : List UInt8) : Prop := post = [] ∨ ∃ r, post = 41 :: r
theorem EndsT.n {post : List UInt8} (h : EndsT post) : EndsN post := by
  rcases h with h | ⟨r, h⟩
  · exact Or.inl h
  · exact Or.inr ⟨41, r, h, Or.inl rfl⟩
theorem EndsN.al {post : List UInt8} (h : EndsN post) : post = [] ∨ ∃ c r, post = c :: r ∧ alnB (c.toNat : Int) = false := by
  rcases h with h | ⟨c, r, h, hc⟩
  · exact Or.inl h
  · exact Or.inr ⟨c, r, h, by rcases hc with rfl | rfl <;> decide⟩

end Go.Proofs.YtfbligcampbchaaGreatDoor

/- Walks: reading a lambda term: what is known all along; a piece. -/
namespace Go.Proofs.YtfbligcampbchaaGreatDoor
open Go.RowKit
set_option linter.unusedSimpArgs false
set_option linter.unusedVariables false
set_option maxRecDepth 8000

/-- A reader, and its names in a row of its own. -/
structure Rst (N B : Nat) (s : ByteArray) (nm : List ByteArray) (i k : Nat) (nv : Value) (w : World) : Prop where
  bx : Bl nv w B s i k
  own : w.ownsRow N 9 1 nv nm.length (nm.map Value.string)
  nb : N ≤ B
  le : N ≤ w.heap.size
  tb : Tb N w
  ts : Tse N w
theorem Rst.ne {N B : Nat} {s : ByteArray} {nm : List ByteArray} {i k : Nat} {nv : Value} {w : World} (h : Rst N B s nm i k nv w) : nv.ownBlock ≠ some B := Lib.ownBlock_ne h.own h.bx (by decide)
theorem Rst.fr {N B : Nat} {s : ByteArray} {nm : List ByteArray} {i k : Nat} {nv nv' : Value} {w w' : World} (h : Rst N B s nm i k nv w) (hf : BFr w w' B nv nv') : Below N w w' := by
  obtain ⟨f1, f2, f3, f4, f5, f6⟩ := hf
  refine ⟨f1, f2, f3, f4, fun q hq => f5 q (by have := h.le; omega) (by have := h.nb; omega) (fun e => ?_)⟩
  have := (h.own.lt _ e.symm).1
  omega
theorem Rst.step {N B : Nat} {s : ByteArray} {nm nm' : List ByteArray} {i k i' k' : Nat} {nv nv' : Value} {w w' : World} (h : Rst N B s nm i k nv w) (hf : BFr w w' B nv nv') (hb : Bl nv' w' B s i' k') (ho : w'.ownsRow N 9 1 nv' nm'.length (nm'.map Value.string)) : Rst N B s nm' i' k' nv' w' :=
  ⟨hb, ho, h.nb, Nat.le_trans h.le hf.2.2.2.1, h.tb.on (h.fr hf), h.ts.on (h.fr hf)⟩
theorem Ex.bfrL {B : Nat} {w w' : World} (h : Ex B w w') (nv : Value) : BFr w w' B nv nv := ⟨h.os, h.tape, h.output, h.size, fun q hq hb _ => h.block q hq hb, fun _ h => Or.inl h⟩
theorem Rst.ex {N B : Nat} {s : ByteArray} {nm : List ByteArray} {i k i' k' : Nat} {nv : Value} {w w' : World} (h : Rst N B s nm i k nv w) (he : Ex B w w') (hb : Bl nv w' B s i' k') : Rst N B s nm i' k' nv w' :=
  h.step (he.bfrL nv) hb (h.own.kept (row := some B) ⟨he.os, he.tape, he.output, he.size, fun q hq hb => he.block q hq (fun e => hb (by rw [e]))⟩ (Or.inr h.ne))
theorem Rst.later {N B : Nat} {s : ByteArray} {nm : List ByteArray} {i k : Nat} {nv : Value} {w w' : World} (h : Rst N B s nm i k nv w) (hb : Below w.heap.size w w') : Rst N B s nm i k nv w' :=
  h.step (BFr.of_below hb B nv) (Blk.below h.bx hb (Blk.lt h.bx)) (h.own.kept (row := some w.heap.size) ⟨hb.os, hb.tape, hb.output, hb.size, fun q hq _ => hb.block q hq⟩ (Or.inr fun e => by have := (h.own.lt _ e).2; omega))
theorem Rst.alloc {N B : Nat} {s : ByteArray} {nm : List ByteArray} {i k : Nat} {nv : Value} {w : World} (h : Rst N B s nm i k nv w) (o : Obj) : Rst N B s nm i k nv (w.alloc o) := h.later ((Below.refl _ _).alloc (Nat.le_refl _) o)
theorem Rst.drewN {N B : Nat} {s : ByteArray} {nm : List ByteArray} {i k : Nat} {nv : Value} {w : World} (h : Rst N B s nm i k nv w) (n : Nat) : Rst N B s nm i k nv (w.drewN n) := h.later (below_drewN (Below.refl _ _) n)
theorem Rst.lt {N B : Nat} {s : ByteArray} {nm : List ByteArray} {i k : Nat} {nv : Value} {w : World} (h : Rst N B s nm i k nv w) : B < w.heap.size := Blk.lt h.bx
theorem Rst.box {N B : Nat} {s : ByteArray} {nm : List ByteArray} {i k : Nat} {nv : Value} {w : World} (h : Rst N B s nm i k nv w) : w.heap.size ≠ B ∧ some w.heap.size ≠ nv.ownBlock := by
  refine ⟨by have := h.lt; omega, fun e => ?_⟩
  have := (h.own.lt _ e.symm).2; omega
theorem Rst.lv {N B : Nat} {s : ByteArray} {nm : List ByteArray} {i k : Nat} {nv : Value} {w : World} (h : Rst N B s nm i k nv w) : ∃ a c, nv = .slice a nm.length c ∧ LV Value.string w (fun b => N ≤ b) (.slice a nm.length c) nm := by
  have h1 := LV.of_own h.own
  obtain ⟨a, c, e, h2⟩ := h1
  exact ⟨a, c, e, a, c, rfl, h2⟩

/-- What reading does. -/
def LrP (N B : Nat) (s : ByteArray) (nm : List ByteArray) (nv : Value) (w : World) (r : Lrd) (e : Ending) (w' : World) : Prop :=
  (r.err = 0 ∧ ∃ nv' a c, e = .returned (.agg #[.int .i64 r.t.kind, .int .i64 r.t.idx, .slice a r.t.subs.length c]) ∧ SlM w' (fun b => w.heap.size ≤ b ∧ some b ≠ nv'.ownBlock) a r.t.subs ∧ Rst N B s nm r.pos r.k nv' w' ∧ BFr w w' B nv nv') ∨
  (r.err ≠ 0 ∧ e = .panicked [{ v := .iface 28 (.int .i64 r.err), recovered := false }] ∧ ∃ nv', BFr w w' B nv nv')
theorem lrP_no {N B : Nat} {s : ByteArray} {nm : List ByteArray} {nv nv' : Value} {w w' : World} {r : Lrd} {z : Int} (h : r = noLr z) (hz : z ≠ 0) (hf : BFr w w' B nv nv') : LrP N B s nm nv w r (.panicked [{ v := .iface 28 (.int .i64 z), recovered := false }]) w' := by
  subst h
  exact Or.inr ⟨hz, rfl, nv', hf⟩
theorem lr_fin {N B : Nat} {s : ByteArray} {nm : List ByteArray} {nv nv' : Value} {w w4 : World} {r : Lrd} {a : Option Addr} {c p kk : Nat} {t : Lm} (hr : r = ⟨0, t, p, kk⟩) (hst : Rst N B s nm p kk nv' w4) (hf : BFr w w4 B nv nv') (hB : B < w.heap.size) (hq : some w.heap.size ≠ nv'.ownBlock) (hs : SlM w4 (fun b => w.heap.size < b ∧ some b ≠ nv'.ownBlock) a t.subs) (v0 v1 v2 : Value) :
    LrP N B s nm nv w r (.returned (.agg #[.int .i64 t.kind, .int .i64 t.idx, .slice a t.subs.length c])) (((w4.setCell ⟨w.heap.size, 0, none⟩ v0).setCell ⟨w.heap.size, 1, none⟩ v1).setCell ⟨w.heap.size, 2, none⟩ v2) := by
  subst hr
  have kk : ∀ q : Nat, q ≠ w.heap.size → (((w4.setCell ⟨w.heap.size, 0, none⟩ v0).setCell ⟨w.heap.size, 1, none⟩ v1).setCell ⟨w.heap.size, 2, none⟩ v2).heap[q]? = w4.heap[q]? := fun q hq => by
    rw [Below.heap_setCell _ _ _ _ (by simpa using hq), Below.heap_setCell _ _ _ _ (by simpa using hq), Below.heap_setCell _ _ _ _ (by simpa using hq)]
  have hz : (((w4.setCell ⟨w.heap.size, 0, none⟩ v0).setCell ⟨w.heap.size, 1, none⟩ v1).setCell ⟨w.heap.size, 2, none⟩ v2).heap.size = w4.heap.size := by simp [World.setCell]
  have hos : (((w4.setCell ⟨w.heap.size, 0, none⟩ v0).setCell ⟨w.heap.size, 1, none⟩ v1).setCell ⟨w.heap.size, 2, none⟩ v2).os = w4.os ∧ (((w4.setCell ⟨w.heap.size, 0, none⟩ v0).setCell ⟨w.heap.size, 1, none⟩ v1).setCell ⟨w.heap.size, 2, none⟩ v2).tape = w4.tape ∧ (((w4.setCell ⟨w.heap.size, 0, none⟩ v0).setCell ⟨w.heap.size, 1, none⟩ v1).setCell ⟨w.heap.size, 2, none⟩ v2).output = w4.output := ⟨rfl, rfl, rfl⟩
  generalize (((w4.setCell ⟨w.heap.size, 0, none⟩ v0).setCell ⟨w.heap.size, 1, none⟩ v1).setCell ⟨w.heap.size, 2, none⟩ v2) = w5 at *
  have hg : w4.grownBy w5 (some w.heap.size) := ⟨hos.1, hos.2.1, hos.2.2, by omega, fun q hq hn => kk q (fun e => hn (by rw [e]))⟩
  have hf5 : BFr w w5 B nv nv' := ⟨hos.1.trans hf.1, hos.2.1.trans hf.2.1, hos.2.2.trans hf.2.2.1, by have := hf.2.2.2.1; omega, fun q hq h1 h2 => (kk q (by omega)).trans (hf.2.2.2.2.1 q hq h1 h2), hf.2.2.2.2.2⟩
  have hbb : Below N w4 w5 := ⟨hos.1, hos.2.1, hos.2.2, by omega, fun q hq => kk q (by have := hst.nb; omega)⟩
  refine Or.inl ⟨rfl, nv', a, c, rfl, (hs.kept fun q hq => kk q (by omega)).mono fun q hq _ => ⟨Nat.le_of_lt hq.1, hq.2⟩, ⟨?_, hst.own.kept hg (Or.inr fun e => hq e.symm), hst.nb, by have := hst.le; omega, hst.tb.on hbb, hst.ts.on hbb⟩, hf5⟩
  have hbx := hst.bx
  unfold Bl Blk at hbx ⊢
  rw [kk B (by omega)]
  exact hbx

def LTerm (N B : Nat) (s : ByteArray) (F : Nat) : Prop := ∀ (nm : List ByteArray) (nv : Value) (i k : Nat) (w : World), Rst N B s nm i k nv w → nm.length ≤ 100 + k → i ≤ s.size → k ≤ 200 → 3 * (s.size - i) + 3 ≤ F →
  Calls Tryz.prog 36 #[.pointer (some ⟨B, 0, none⟩)] w fun e w' => LrP N B s nm nv w (lrd s F .term nm i k) e w'
def LPiece (N B : Nat) (s : ByteArray) (F : Nat) : Prop := ∀ (nm : List ByteArray) (nv : Value) (i k : Nat) (w : World), Rst N B s nm i k nv w → nm.length ≤ 100 + k → i ≤ s.size → k ≤ 200 → 3 * (s.size - i) + 2 ≤ F →
  Calls Tryz.prog 50 #[.pointer (some ⟨B, 0, none⟩)] w fun e w' => LrP N B s nm nv w (lrd s F .piece nm i k) e w'

set_option maxHeartbeats 2000000 in
theorem lpiece_of (N B : Nat) (s : ByteArray) (hs : s.size ≤ 4000) (F : Nat) (hT : LTerm N B s F) : LPiece N B s (F + 1) := by
  intro nm nv i k w hst hnk hi hk hF
  have HT := hide hT
  have HST := hide hst
  have hbox := hst.box
  have hBlt := hst.lt
  have HRD : Hid (lrd s (F + 1) .piece nm i k = if i < s.size ∧ byteAt s i = 40 then
      (if (lrd s F .term nm (i + 1) k).err ≠ 0 then noLr (lrd s F .term nm (i + 1) k).err else if askE s (lrd s F .term nm (i + 1) k).pos 41 ≠ 0 then noLr (askE s (lrd s F .term nm (i + 1) k).pos 41) else ⟨0, (lrd s F .term nm (i + 1) k).t, (lrd s F .term nm (i + 1) k).pos + 1, (lrd s F .term nm (i + 1) k).k⟩)
    else if nameE s i ≠ 0 then noLr (nameE s i)
    else if 200 < k + 1 then noLr 3
    else namedL nm (s.extract i (stopAt s i)) (stopAt s i) (k + 1)) := by unfold Hid; rw [lrd]
  generalize lrd s (F + 1) .piece nm i k = r at *
  have Z0 := hide (hst.alloc (.cells #[.int .i64 0, .int .i64 0, .slice none 0 0] 26))
  have R0 := hide (Blk.new w #[.int .i64 0, .int .i64 0, .slice none 0 0] 26)
  have F0 : Hid (BFr w (w.alloc (.cells #[.int .i64 0, .int .i64 0, .slice none 0 0] 26)) B nv nv) := BFr.of_below ((Below.refl _ _).alloc (Nat.le_refl _) _) B nv
  clear hT hst
  go_enter Tryz.func50, Tryz.ntmps50
  go_wp2_with fail
  refine (take_anyL (nv := nv) B i k s 40 hi hs _ (by exact Z0.out.bx)).mono ?_
  intro e w1 hp
  unfold TookPostL at hp
  by_cases h4 : i < s.size ∧ byteAt s i = 40
  · rw [if_pos h4] at hp
    obtain ⟨rfl, hx1, he1, hz1⟩ := hp
    have Z1 := hide (Z0.out.ex he1 hx1)
    have F1 := hide (F0.out.trans (he1.bfrL nv))
    have R1 := hide (blk_bfr R0.out (he1.bfrL nv) hbox.1 hbox.2)
    have hzz : w1.heap.size = w.heap.size + 1 := by rw [hz1]; simp
    have HR : Hid (r = (if (lrd s F .term nm (i + 1) k).err ≠ 0 then noLr (lrd s F .term nm (i + 1) k).err else if askE s (lrd s F .term nm (i + 1) k).pos 41 ≠ 0 then noLr (askE s (lrd s F .term nm (i + 1) k).pos 41) else ⟨0, (lrd s F .term nm (i + 1) k).t, (lrd s F .term nm (i + 1) k).pos + 1, (lrd s F .term nm (i + 1) k).k⟩)) := by unfold Hid; rw [HRD.out, if_pos h4]
    clear he1 hx1 hz1 HRD Z0 F0 R0
    go_wp2_with fail
    refine (HT.out nm nv (i + 1) k w1 Z1.out hnk (by omega) hk (by omega)).mono ?_
    intro e w2 hp
    rcases hp with ⟨hr0, nv2, a2, c2, rfl, hs2, hst2, hf2⟩ | ⟨hr0, rfl, nv2, hf2⟩
    · have hpos := lrd_pos s F .term nm (i + 1) k hr0 (by omega) hk
      generalize lrd s F .term nm (i + 1) k = r2 at *
      have R2 := hide (blk_bfr R1.out hf2 hbox.1 hbox.2)
      have ho2 := own_bfr hf2 R1.out.lt hbox.2
      have F2 := hide (F1.out.trans hf2)
      have hz2 : w1.heap.size ≤ w2.heap.size := hf2.2.2.2.1
      have Z3 := hide (hst2.alloc (.cells #[.int .i64 r2.t.kind, .int .i64 r2.t.idx, .slice a2 r2.t.subs.length c2] 26))
      have T3 := hide (Blk.new w2 #[.int .i64 r2.t.kind, .int .i64 r2.t.idx, .slice a2 r2.t.subs.length c2] 26)
      have R3 := hide (R2.out.alloc (.cells #[.int .i64 r2.t.kind, .int .i64 r2.t.idx, .slice a2 r2.t.subs.length c2] 26))
      have S3 := hide (hs2.later ((Below.refl _ _).alloc (Nat.le_refl _) (.cells #[.int .i64 r2.t.kind, .int .i64 r2.t.idx, .slice a2 r2.t.subs.length c2] 26)))
      have F3 := hide (F2.out.trans (BFr.of_below ((Below.refl w2.heap.size w2).alloc (Nat.le_refl _) (.cells #[.int .i64 r2.t.kind, .int .i64 r2.t.idx, .slice a2 r2.t.subs.length c2] 26)) B nv2))
      have hbx2 := hst2.box
      have HR0 := hide hr0
      clear hf2 hs2 hst2 R2 F2 hr0
      go_wp2_with fail
      generalize (w2.alloc (.cells #[.int .i64 r2.t.kind, .int .i64 r2.t.idx, .slice a2 r2.t.subs.length c2] 26)) = w3 at *
      refine (rdAsk_anyL (nv := nv2) B r2.pos r2.k s 41 hpos.2.1 hs _ (by exact Z3.out.bx)).mono ?_
      intro e w4 hp
      unfold RdAskPostL at hp
      by_cases h6 : r2.pos < s.size ∧ byteAt s r2.pos = 41
      · rw [if_pos h6] at hp
        obtain ⟨⟨v4, rfl⟩, hx4, he4, hz4⟩ := hp
        have HAE : Hid (askE s r2.pos 41 = 0) := by unfold Hid askE; rw [if_pos h6]
        have HF : Hid (r = ⟨0, r2.t, r2.pos + 1, r2.k⟩) := by unfold Hid; rw [HR.out, if_neg (by rw [HR0.out]; simp), if_neg (by rw [HAE.out]; simp)]
        have Z4 := hide (Z3.out.ex he4 hx4)
        have F4 := hide (F3.out.trans (he4.bfrL nv2))
        have T4 := hide (blk_bfr T3.out (he4.bfrL nv2) hbx2.1 hbx2.2)
        have R4 := hide (blk_bfr R3.out (he4.bfrL nv2) hbox.1 ho2)
        have S4 : Hid (SlM w4 (fun b => w.heap.size < b ∧ some b ≠ nv2.ownBlock) a2 r2.t.subs) := (S3.out.mono (Y := fun b => (w1.heap.size ≤ b ∧ some b ≠ nv2.ownBlock) ∧ b < w3.heap.size) fun b h1 h2 => ⟨h1, h2⟩).kept (fun b hb => he4.block b hb.2 (by omega)) |>.mono fun b hb _ => ⟨by omega, hb.1.2⟩
        have q0 := T4.out.cell 0
        have q1 := T4.out.cell 1
        have q2 := T4.out.cell 2
        have r0 := R4.out.cell 0
        have r1 := R4.out.cell 1
        have r2' := R4.out.cell 2
        have rf := R4.out.frozen
        simp only [List.getElem?_toArray, List.getElem?_cons_succ, List.getElem?_cons_zero] at q0 q1 q2 r0 r1 r2'
        clear he4 hx4 hz4
        go_wp2_with fail
        refine bodyPost_ret (v := .agg #[.int .i64 r2.t.kind, .int .i64 r2.t.idx, .slice a2 r2.t.subs.length c2]) (by simp [results, Tryz.results50, go_sem, World.cell?_setCell_same, World.cell?_setCell_other, r0, r1, r2']) rfl ?_
        exact lr_fin HF.out Z4.out F4.out hBlt ho2 S4.out _ _ _
      · rw [if_neg h6] at hp
        obtain ⟨he, n4, rfl⟩ := hp
        have HAE : Hid (askE s r2.pos 41 = if r2.pos = s.size then 13 else 12) := by unfold Hid askE; rw [if_neg h6]
        have HNZ : Hid ((if r2.pos = s.size then (13 : Int) else 12) ≠ 0) := by unfold Hid; split <;> omega
        unfold thrownL at he
        subst he
        exact ⟨rfl, lrP_no (by rw [HR.out, if_neg (by rw [HR0.out]; simp), if_pos (by rw [HAE.out]; exact HNZ.out), HAE.out]) HNZ.out (F3.out.trans (BFr.of_below (below_drewN (Below.refl _ _) n4) B nv2))⟩
    · exact ⟨rfl, lrP_no (by rw [HR.out, if_pos hr0]) hr0 (F1.out.trans hf2)⟩
  · rw [if_neg h4] at hp
    obtain ⟨rfl, n1, rfl⟩ := hp
    have Z1 := hide (Z0.out.drewN n1)
    have F1 := hide (F0.out.trans (BFr.of_below (below_drewN (Below.refl _ _) n1) B nv))
    have R1 := hide (R0.out.drewN n1)
    have HR : Hid (r = (if nameE s i ≠ 0 then noLr (nameE s i) else if 200 < k + 1 then noLr 3 else namedL nm (s.extract i (stopAt s i)) (stopAt s i) (k + 1))) := by unfold Hid; rw [HRD.out, if_neg h4]
    have hz1 : ((w.alloc (.cells #[.int .i64 0, .int .i64 0, .slice none 0 0] 26)).drewN n1).heap.size = w.heap.size + 1 := by
      have : ((w.alloc (.cells #[.int .i64 0, .int .i64 0, .slice none 0 0] 26)).drewN n1).heap = (w.alloc (.cells #[.int .i64 0, .int .i64 0, .slice none 0 0] 26)).heap := rfl
      rw [this]; simp
    generalize ((w.alloc (.cells #[.int .i64 0, .int .i64 0, .slice none 0 0] 26)).drewN n1) = w1 at *
    clear HRD Z0 F0 R0
    go_wp2_with fail
    refine (name_anyL (nv := nv) B i k s hi hs _ (by exact Z1.out.bx)).mono ?_
    intro e w2 hp
    unfold NamePostL at hp
    by_cases h1 : stopAt s i = i
    · rw [if_pos h1] at hp
      obtain ⟨rfl, he⟩ := hp
      have HNE : Hid (nameE s i = if i = s.size then 13 else 12) := by unfold Hid nameE; rw [if_pos h1]
      have HNZ : Hid ((if i = s.size then (13 : Int) else 12) ≠ 0) := by unfold Hid; split <;> omega
      exact ⟨rfl, lrP_no (by rw [HR.out, if_pos (by rw [HNE.out]; exact HNZ.out), HNE.out]) HNZ.out (F1.out.trans (he.bfrL nv))⟩
    rw [if_neg h1] at hp
    by_cases h2 : nameB (s.extract i (stopAt s i)) = false
    · rw [if_pos h2] at hp
      obtain ⟨rfl, he⟩ := hp
      have HNE : Hid (nameE s i = 1) := by unfold Hid nameE; rw [if_neg h1, if_pos h2]
      exact ⟨rfl, lrP_no (by rw [HR.out, if_pos (by rw [HNE.out]; simp), HNE.out]) (by simp) (F1.out.trans (he.bfrL nv))⟩
    rw [if_neg h2] at hp
    obtain ⟨rfl, hx2, he2, hz2⟩ := hp
    have HNE : Hid (nameE s i = 0) := by unfold Hid nameE; rw [if_neg h1, if_neg h2]
    have hnb : nameB (s.extract i (stopAt s i)) = true := by cases hq : nameB (s.extract i (stopAt s i)) with | true => rfl | false => exact absurd hq h2
    have hjs := stopAt_le s hi
    have Z2 := hide (Z1.out.ex he2 hx2)
    have F2 := hide (F1.out.trans (he2.bfrL nv))
    have R2 := hide (blk_bfr R1.out (he2.bfrL nv) hbox.1 hbox.2)
    have HR2 : Hid (r = (if 200 < k + 1 then noLr 3 else namedL nm (s.extract i (stopAt s i)) (stopAt s i) (k + 1))) := by unfold Hid; rw [HR.out, if_neg (by rw [HNE.out]; simp)]
    clear hx2 he2 h1 h2 Z1 F1 R1 HR HNE
    generalize s.extract i (stopAt s i) = n at *
    generalize stopAt s i = j at *
    go_wp2_with fail
    refine (rdKnot_anyL (nv := nv) B j k s (by omega) _ (by exact Z2.out.bx)).mono ?_
    intro e w3 hp
    unfold RdKnotPostL at hp
    by_cases h3 : 200 < k + 1
    · rw [if_pos h3] at hp
      obtain ⟨he, he3⟩ := hp
      unfold thrownL at he
      subst he
      exact ⟨rfl, lrP_no (by rw [HR2.out, if_pos h3]) (by simp) (F2.out.trans (he3.bfrL nv))⟩
    rw [if_neg h3] at hp
    obtain ⟨⟨v3, rfl⟩, hx3, he3, hz3⟩ := hp
    have Z3 := hide (Z2.out.ex he3 hx3)
    have F3 := hide (F2.out.trans (he3.bfrL nv))
    have R3 := hide (blk_bfr R2.out (he3.bfrL nv) hbox.1 hbox.2)
    have HR3 : Hid (r = namedL nm n j (k + 1)) := by unfold Hid; rw [HR2.out, if_neg h3]
    clear hx3 he3 Z2 F2 R2 HR2
    go_wp2_with fail
    obtain ⟨an, cn, rfl, hlv⟩ := Z3.out.lv
    have hbx3 := Z3.out.bx
    unfold Bl at hbx3
    refine (named_any nm n s hnb B j (k + 1) cn N an _ w3 hbx3 hlv (by omega) Z3.out.tb Z3.out.ts Z3.out.le).mono ?_
    clear hlv hbx3
    rintro e w4 ⟨hb4, hp⟩
    have Z4 := hide (Z3.out.later hb4)
    have F4 := hide (F3.out.trans (BFr.of_below hb4 B (.slice an nm.length cn)))
    have R4 := hide (R3.out.below hb4 R3.out.lt)
    clear hb4 Z3 F3 R3
    have r0 := R4.out.cell 0
    have r1 := R4.out.cell 1
    have r2 := R4.out.cell 2
    have rf := R4.out.frozen
    simp only [List.getElem?_toArray, List.getElem?_cons_succ, List.getElem?_cons_zero] at r0 r1 r2
    rcases hp with ⟨q, hq, rfl⟩ | ⟨hq, c0, hc, rfl⟩ | ⟨hq, hc, he⟩
    · have HF : Hid (r = ⟨0, ⟨1, (nm.length : Int) - 1 - q, []⟩, j, k + 1⟩) := by unfold Hid; rw [HR3.out]; unfold namedL; rw [hq]
      clear hq
      go_wp2_with fail
      refine bodyPost_ret (v := .agg #[.int .i64 1, .int .i64 ((nm.length : Int) - 1 - q), .slice none 0 0]) (by simp [results, Tryz.results50, go_sem, World.cell?_setCell_same, World.cell?_setCell_other, r0, r1, r2]) rfl ?_
      exact lr_fin (t := ⟨1, (nm.length : Int) - 1 - q, []⟩) HF.out Z4.out F4.out hBlt hbox.2 ⟨by simp, Or.inl rfl⟩ _ _ _
    · have HF : Hid (r = ⟨0, ⟨4, (c0 : Int), []⟩, j, k + 1⟩) := by unfold Hid; rw [HR3.out]; unfold namedL; rw [hq]; simp only [hc]
      clear hq hc
      go_wp2_with fail
      refine bodyPost_ret (v := .agg #[.int .i64 4, .int .i64 (c0 : Int), .slice none 0 0]) (by simp [results, Tryz.results50, go_sem, World.cell?_setCell_same, World.cell?_setCell_other, r0, r1, r2]) rfl ?_
      exact lr_fin (t := ⟨4, (c0 : Int), []⟩) HF.out Z4.out F4.out hBlt hbox.2 ⟨by simp, Or.inl rfl⟩ _ _ _
    · have HF : Hid (r = noLr 15) := by unfold Hid; rw [HR3.out]; unfold namedL; rw [hq]; simp only [hc]
      unfold thrownL at he
      subst he
      exact ⟨rfl, lrP_no HF.out (by simp) F4.out⟩
end Go.Proofs.YtfbligcampbchaaGreatDoor

/- Walks: reading a lambda term: a binder. -/
namespace Go.Proofs.YtfbligcampbchaaGreatDoor
open Go.RowKit
set_option linter.unusedSimpArgs false
set_option linter.unusedVariables false
set_option maxRecDepth 8000

/-- Behind the sign of a binder. -/
def bndL (s : ByteArray) (F : Nat) (nm : List ByteArray) (i k : Nat) : Lrd :=
  if 200 < k + 1 then noLr 3
  else if nameE s i ≠ 0 then noLr (nameE s i)
  else if askE s (stopAt s i) 46 ≠ 0 then noLr (askE s (stopAt s i) 46)
  else if (lrd s F .term (nm ++ [s.extract i (stopAt s i)]) (stopAt s i + 1) (k + 1)).err ≠ 0 then noLr (lrd s F .term (nm ++ [s.extract i (stopAt s i)]) (stopAt s i + 1) (k + 1)).err
  else ⟨0, ⟨2, 0, [(lrd s F .term (nm ++ [s.extract i (stopAt s i)]) (stopAt s i + 1) (k + 1)).t]⟩, (lrd s F .term (nm ++ [s.extract i (stopAt s i)]) (stopAt s i + 1) (k + 1)).pos, (lrd s F .term (nm ++ [s.extract i (stopAt s i)]) (stopAt s i + 1) (k + 1)).k⟩

/-- One name more. -/
theorem app_oneL {W : World} {N P : Nat} {v : Value} {x : ByteArray} {l : List ByteArray} (hown : W.ownsRow N 9 1 v l.length (l.map Value.string)) (hN : N ≤ W.heap.size) (hl : l.length ≤ 100000) (hP : W.cell? ⟨P, 0, none⟩ = some (.string x)) :
    ∃ g cap W1, (Builtin.append_ #[60, 60] 60 #[v, .slice (some ⟨P, 0, none⟩) 1 1]).run Tryz.prog W = .ok (.slice (some ⟨g, 0, none⟩) (l.length + 1) cap) W1 ∧ W1.ownsRow N 9 1 (.slice (some ⟨g, 0, none⟩) (l.length + 1) cap) (l ++ [x]).length ((l ++ [x]).map Value.string) ∧ W.grownBy W1 v.ownBlock ∧ (v.ownBlock = some g ∨ g = W.heap.size) := by
  obtain ⟨i0, hi, hz0, hz1, hz2⟩ := info_parts Tryz.infoStr
  obtain ⟨g, cap, W1, hr, ho, hg, hat, _⟩ := run_append_lies (P := Tryz.prog) (w := W) 60 60 N 9 i0 _ 1 16 Tryz.underlying60 hi hz0 hz1 hz2 rfl (by decide) v l.length _ hown ⟨P, 0, none⟩ 1 1 [.string x] rfl (fun j u hj => by
    cases j with
    | zero => simp at hj; subst hj; exact hP
    | succ j => simp at hj) (fun u hu => by simp at hu; subst hu; rfl) (by decide) (by unfold maxLen; omega) (by omega) hN _ rfl
  exact ⟨g, cap, W1, hr, by simpa using ho, hg, hat⟩
/-- One name less. -/
theorem pop_own {W : World} {N g cap n : Nat} {x : ByteArray} {l : List ByteArray} (h : W.ownsRow N 9 1 (.slice (some ⟨g, 0, none⟩) (n + 1) cap) (l ++ [x]).length ((l ++ [x]).map Value.string)) (hn : n = l.length) : W.ownsRow N 9 1 (.slice (some ⟨g, 0, none⟩) n cap) l.length (l.map Value.string) := by
  subst hn
  obtain ⟨h1, h2⟩ := h
  rcases h2 with ⟨h2, _⟩ | ⟨g', cap', cur, e, hb, hh, hnc, hcm, hcs, htk⟩
  · cases h2
  · simp at e
    obtain ⟨rfl, rfl⟩ := e
    refine ⟨by simp, Or.inr ⟨g, cap, cur, rfl, hb, hh, by simp at hnc; omega, hcm, hcs, ?_⟩⟩
    have h3 := congrArg (List.take l.length) htk
    simp at h3
    simpa [List.take_take] using h3

/-- One lambda term in a row of its own. -/
theorem lies_one {W : World} {X : Nat → Prop} {S c : Nat} {a : Option Addr} {t : Lm} (hX : X S) (h0 : W.cell? ⟨S, 0, none⟩ = some (.int .i64 t.kind)) (h1 : W.cell? ⟨S, 1, none⟩ = some (.int .i64 t.idx)) (h2 : W.cell? ⟨S, 2, none⟩ = some (.slice a t.subs.length c)) (hs : SlM W X a t.subs) : SlM W X (some ⟨S, 0, none⟩) [t] := by
  obtain ⟨k, x, l⟩ := t
  refine ⟨by simp, Or.inr ⟨S, 0, rfl, ?_⟩⟩
  simp only [LiesM]
  exact ⟨hX, h0, h1, ⟨a, c, h2, hs.1, hs.2⟩, trivial⟩

set_option maxHeartbeats 4000000 in
theorem lbinder_of (N B : Nat) (s : ByteArray) (hs : s.size ≤ 4000) (F : Nat) (hT : LTerm N B s F) (nm : List ByteArray) (nv : Value) (i k : Nat) (w : World) (hst : Rst N B s nm i k nv w) (hnk : nm.length ≤ 100 + k) (hi : i ≤ s.size) (hk : k ≤ 200) (hF : 3 * (s.size - i) + 3 ≤ F) :
    Calls Tryz.prog 49 #[.pointer (some ⟨B, 0, none⟩)] w fun e w' => LrP N B s nm nv w (bndL s F nm i k) e w' := by
  have HT := hide hT
  have hbox := hst.box
  have hBlt := hst.lt
  have HRD : Hid (bndL s F nm i k = bndL s F nm i k) := rfl
  have Z0 := hide (hst.alloc (.cells #[.int .i64 0, .int .i64 0, .slice none 0 0] 26))
  have R0 := hide (Blk.new w #[.int .i64 0, .int .i64 0, .slice none 0 0] 26)
  have F0 : Hid (BFr w (w.alloc (.cells #[.int .i64 0, .int .i64 0, .slice none 0 0] 26)) B nv nv) := BFr.of_below ((Below.refl _ _).alloc (Nat.le_refl _) _) B nv
  have HR : Hid (∀ r, r = bndL s F nm i k → r = if 200 < k + 1 then noLr 3
      else if nameE s i ≠ 0 then noLr (nameE s i)
      else if askE s (stopAt s i) 46 ≠ 0 then noLr (askE s (stopAt s i) 46)
      else if (lrd s F .term (nm ++ [s.extract i (stopAt s i)]) (stopAt s i + 1) (k + 1)).err ≠ 0 then noLr (lrd s F .term (nm ++ [s.extract i (stopAt s i)]) (stopAt s i + 1) (k + 1)).err
      else ⟨0, ⟨2, 0, [(lrd s F .term (nm ++ [s.extract i (stopAt s i)]) (stopAt s i + 1) (k + 1)).t]⟩, (lrd s F .term (nm ++ [s.extract i (stopAt s i)]) (stopAt s i + 1) (k + 1)).pos, (lrd s F .term (nm ++ [s.extract i (stopAt s i)]) (stopAt s i + 1) (k + 1)).k⟩) := fun r h => h
  obtain ⟨r, hr⟩ : ∃ r, r = bndL s F nm i k := ⟨_, rfl⟩
  rw [← hr]
  have HR1 := hide (HR.out r hr)
  clear hT hst HR HRD hr
  go_enter Tryz.func49, Tryz.ntmps49
  go_wp2_with fail
  generalize hw0 : (w.alloc (.cells #[.int .i64 0, .int .i64 0, .slice none 0 0] 26)) = w0 at *
  have hz0 : w0.heap.size = w.heap.size + 1 := by rw [← hw0]; simp
  clear hw0
  refine (rdKnot_anyL (nv := nv) B i k s (by omega) _ (by exact Z0.out.bx)).mono ?_
  intro e w1 hp
  unfold RdKnotPostL at hp
  by_cases h3 : 200 < k + 1
  · rw [if_pos h3] at hp
    obtain ⟨he, he3⟩ := hp
    unfold thrownL at he
    subst he
    exact ⟨rfl, lrP_no (by rw [HR1.out, if_pos h3]) (by simp) (F0.out.trans (he3.bfrL nv))⟩
  rw [if_neg h3] at hp
  obtain ⟨⟨v1, rfl⟩, hx1, he1, hz1⟩ := hp
  have Z1 := hide (Z0.out.ex he1 hx1)
  have F1 := hide (F0.out.trans (he1.bfrL nv))
  have R1 := hide (blk_bfr R0.out (he1.bfrL nv) hbox.1 hbox.2)
  have HR2 := hide (show r = _ from (HR1.out).trans (if_neg h3))
  clear hx1 he1 Z0 F0 R0 HR1
  go_wp2_with fail
  have Zd := hide (Z1.out.later (Below.drew (Below.refl w1.heap.size w1)))
  have Fd := hide (F1.out.trans (BFr.of_below (Below.drew (Below.refl w1.heap.size w1)) B nv))
  have Rd : Hid (Blk w1.drew w.heap.size #[.int .i64 0, .int .i64 0, .slice none 0 0] 26) := R1.out
  have hzd : w1.drew.heap.size = w.heap.size + 1 := by
    have : w1.drew.heap = w1.heap := rfl
    rw [this]; omega
  refine wp_region_held_drew (S := fun w' => N ≤ w'.heap.size) (by kernel_rfl) (by exact Zd.out.le) (fun hHeld => ?_)
  generalize w1.drew = wd at *
  clear Z1 F1 R1 hz1
  refine wpAnyH_take (i := 0) (v := ?_) rfl (by kernel_rfl) (by kernel_rfl) (by kernel_rfl) (fun _ _ _ h => h) (Or.inl ⟨by rfl, ?_⟩) (by assumption) ?_
  rotate_left
  · intro w' hSw
    go_simp <;> with_reducible rfl
  try simp only [Act.put, List.setIfInBounds_toArray, List.set_cons_zero, List.set_cons_succ, List.getElem_toArray, List.getElem_cons_succ, List.getElem_cons_zero]
  refine wpAnyH_take (i := 1) (v := ?_) rfl (by kernel_rfl) (by kernel_rfl) (by kernel_rfl) (fun _ _ _ h => h) (Or.inl ⟨by rfl, ?_⟩) (by assumption) ?_
  rotate_left
  · intro w' hSw
    go_simp <;> with_reducible rfl
  try simp only [Act.put, List.setIfInBounds_toArray, List.set_cons_zero, List.set_cons_succ, List.getElem_toArray, List.getElem_cons_succ, List.getElem_cons_zero]
  refine wpAnyH_take (i := 2) (v := ?_) rfl (by kernel_rfl) (by kernel_rfl) (by kernel_rfl) (fun _ _ _ h => h) (Or.inl ⟨by rfl, ?_⟩) (by assumption) ?_
  rotate_left
  · intro w' hSw
    go_simp <;> with_reducible rfl
  try simp only [Act.put, List.setIfInBounds_toArray, List.set_cons_zero, List.set_cons_succ, List.getElem_toArray, List.getElem_cons_succ, List.getElem_cons_zero]
  refine wpAnyH_take (i := 3) (v := ?_) rfl (by kernel_rfl) (by kernel_rfl) (by kernel_rfl) (fun _ _ _ h => h) (Or.inl ⟨by rfl, ?_⟩) (by assumption) ?_
  rotate_left
  · intro w' hSw
    go_simp <;> with_reducible rfl
  try simp only [Act.put, List.setIfInBounds_toArray, List.set_cons_zero, List.set_cons_succ, List.getElem_toArray, List.getElem_cons_succ, List.getElem_cons_zero]
  refine wpAnyH_take (i := 5) (v := ?_) rfl (by kernel_rfl) (by kernel_rfl) (by kernel_rfl) (fun _ _ _ h => h) (Or.inl ⟨by rfl, ?_⟩) (by assumption) ?_
  rotate_left
  · intro w' hSw
    go_simp <;> with_reducible rfl
  try simp only [Act.put, List.setIfInBounds_toArray, List.set_cons_zero, List.set_cons_succ, List.getElem_toArray, List.getElem_cons_succ, List.getElem_cons_zero]
  refine wpAnyH_take (i := 6) (v := ?_) rfl (by kernel_rfl) (by kernel_rfl) (by kernel_rfl) (fun _ _ _ h => h) (Or.inl ⟨by rfl, ?_⟩) (by assumption) ?_
  rotate_left
  · intro w' hSw
    go_simp <;> with_reducible rfl
  try simp only [Act.put, List.setIfInBounds_toArray, List.set_cons_zero, List.set_cons_succ, List.getElem_toArray, List.getElem_cons_succ, List.getElem_cons_zero]
  refine wpAnyH_take (i := 7) (v := ?_) rfl (by kernel_rfl) (by kernel_rfl) (by kernel_rfl) (fun _ _ _ h => h) (Or.inl ⟨by rfl, ?_⟩) (by assumption) ?_
  rotate_left
  · intro w' hSw
    go_simp <;> with_reducible rfl
  try simp only [Act.put, List.setIfInBounds_toArray, List.set_cons_zero, List.set_cons_succ, List.getElem_toArray, List.getElem_cons_succ, List.getElem_cons_zero]
  refine wpAnyH_ready (rs := [4, 8]) (by kernel_rfl) (by simp) ?_
  refine AllReadyH.cons rfl (fun K hK => ?_) (AllReadyH.cons rfl (fun K hK => ?_) AllReadyH.nil)
  · have b3 : wd.cell? ⟨B, 3, none⟩ = some nv := Zd.out.bx.cell 3
    go_simp
    refine hK.out _ _ (by exact Zd.out.le) (fun hHeld => ?_)
    clear hK K
    try simp only [Act.put, List.setIfInBounds_toArray, List.set_cons_zero, List.set_cons_succ, List.getElem_toArray, List.getElem_cons_succ, List.getElem_cons_zero]
    clear b3
    refine wpAnyH_ready (rs := [8]) (by kernel_rfl) (by simp) ?_
    refine AllReadyH.cons rfl (fun K hK => ?_) AllReadyH.nil
    go_simp
    go_at_call 66
    refine (name_anyL (nv := nv) B i (k + 1) s hi hs _ (by exact Zd.out.bx)).mono ?_
    intro e w2 hp
    unfold NamePostL at hp
    by_cases h1 : stopAt s i = i
    · rw [if_pos h1] at hp
      obtain ⟨rfl, he⟩ := hp
      have HNE : Hid (nameE s i = if i = s.size then 13 else 12) := by unfold Hid nameE; rw [if_pos h1]
      have HNZ : Hid ((if i = s.size then (13 : Int) else 12) ≠ 0) := by unfold Hid; split <;> omega
      exact ⟨rfl, lrP_no (by rw [HR2.out, if_pos (by rw [HNE.out]; exact HNZ.out), HNE.out]) HNZ.out (Fd.out.trans (he.bfrL nv))⟩
    rw [if_neg h1] at hp
    by_cases h2 : nameB (s.extract i (stopAt s i)) = false
    · rw [if_pos h2] at hp
      obtain ⟨rfl, he⟩ := hp
      have HNE : Hid (nameE s i = 1) := by unfold Hid nameE; rw [if_neg h1, if_pos h2]
      exact ⟨rfl, lrP_no (by rw [HR2.out, if_pos (by rw [HNE.out]; simp), HNE.out]) (by simp) (Fd.out.trans (he.bfrL nv))⟩
    rw [if_neg h2] at hp
    obtain ⟨rfl, hx2, he2, hz2⟩ := hp
    have HNE : Hid (nameE s i = 0) := by unfold Hid nameE; rw [if_neg h1, if_neg h2]
    have HR3 := hide (show r = _ from (HR2.out).trans (if_neg (by rw [HNE.out]; simp)))
    have hjs := stopAt_le s hi
    have hji := stopAt_ge s i
    have hjl : i < stopAt s i := by omega
    have Z2 := hide (Zd.out.ex he2 hx2)
    have F2 := hide (Fd.out.trans (he2.bfrL nv))
    have R2 := hide (blk_bfr Rd.out (he2.bfrL nv) hbox.1 hbox.2)
    clear hx2 he2 h1 h2 Zd Fd Rd HR2 HNE
    generalize s.extract i (stopAt s i) = x at *
    generalize stopAt s i = j at *
    go_simp
    refine hK.out _ _ (by exact Z2.out.le) (fun hHeld => ?_)
    clear hK K
    try simp only [Act.put, List.setIfInBounds_toArray, List.set_cons_zero, List.set_cons_succ, List.getElem_toArray, List.getElem_cons_succ, List.getElem_cons_zero]
    have Z3 := hide (Z2.out.alloc (.cells #[.string x] 9))
    have R3 := hide (R2.out.alloc (.cells #[.string x] 9))
    have F3 := hide (F2.out.trans (BFr.of_below ((Below.refl w2.heap.size w2).alloc (Nat.le_refl _) (.cells #[.string x] 9)) B nv))
    have P3 := hide (Blk.new w2 #[.string x] 9)
    have hz3 : (w2.alloc (.cells #[.string x] 9)).heap.size = w.heap.size + 2 := by simp; omega
    refine wpAnyH_ready (rs := [9]) (by kernel_rfl) (by simp) ?_
    refine AllReadyH.cons rfl (fun K hK => ?_) AllReadyH.nil
    go_simp
    refine hK.out _ _ (by exact Z3.out.le) (fun hHeld => ?_)
    clear hK K
    try simp only [Act.put, List.setIfInBounds_toArray, List.set_cons_zero, List.set_cons_succ, List.getElem_toArray, List.getElem_cons_succ, List.getElem_cons_zero]
    generalize (w2.alloc (.cells #[.string x] 9)) = w3 at *
    have hw2 : w2.heap.size = w.heap.size + 1 := by omega
    rw [hw2] at P3
    try rw [hw2]
    obtain ⟨g, cap, w4, hr4, ho4, hg4, hat4⟩ := app_oneL (P := w.heap.size + 1) (x := x) Z3.out.own Z3.out.le (by omega) (by have := P3.out.cell 0; simpa using this)
    have HR4 := hide hr4
    have HO4 := hide ho4
    have hB4 : Hid (Bl nv w4 B s j (k + 1)) := by
      unfold Hid Bl Blk
      rw [hg4.block B Z3.out.lt (fun e => Z3.out.ne e.symm)]
      exact Z3.out.bx
    have hf4 : BFr w3 w4 B nv (.slice (some ⟨g, 0, none⟩) (nm.length + 1) cap) := ⟨hg4.os, hg4.tape, hg4.output, hg4.size, fun q hq h1 h2 => hg4.block q hq h2, fun q hq => by
      simp [Value.ownBlock] at hq
      subst hq
      rcases hat4 with e | e
      · exact Or.inl e
      · right; omega⟩
    have R4 := hide (blk_bfr R3.out hf4 hbox.1 hbox.2)
    have ho4' := own_bfr hf4 R3.out.lt hbox.2
    have F4 := hide (F3.out.trans hf4)
    have HB4 := hide (Z3.out.fr hf4)
    have hz4 := hg4.size
    have hsz4 : Hid (g ≠ B) := by
      unfold Hid
      intro e
      rcases hat4 with e2 | e2
      · exact Z3.out.ne (by rw [e2, e])
      · have := Z3.out.lt; omega
    clear hr4 ho4 hg4 hat4 hf4
    have hle4 : N ≤ w4.heap.size := by have := Z3.out.le; omega
    refine wpAnyH_ready (rs := [10]) (by kernel_rfl) (by simp) ?_
    refine AllReadyH.cons rfl (fun K hK => ?_) AllReadyH.nil
    refine step_append_eqM rfl _ _ _ _ rfl rfl rfl HR4.out ?_
    refine hK.out _ _ (by exact hle4) (fun hHeld => ?_)
    clear hK K
    try simp only [Act.put, List.setIfInBounds_toArray, List.set_cons_zero, List.set_cons_succ, List.getElem_toArray, List.getElem_cons_succ, List.getElem_cons_zero]
    refine wpAnyH_take (i := 11) (v := ?_) rfl (by kernel_rfl) (by kernel_rfl) (by kernel_rfl) (fun _ _ _ h => h) (Or.inl ⟨by rfl, ?_⟩) (by assumption) ?_
    rotate_left
    · intro w' hSw
      go_simp <;> with_reducible rfl
    try simp only [Act.put, List.setIfInBounds_toArray, List.set_cons_zero, List.set_cons_succ, List.getElem_toArray, List.getElem_cons_succ, List.getElem_cons_zero]
    refine wpAnyH_take (i := 12) (v := ?_) rfl (by kernel_rfl) (by kernel_rfl) (by kernel_rfl) (fun _ _ _ h => h) (Or.inl ⟨by rfl, ?_⟩) (by assumption) ?_
    rotate_left
    · intro w' hSw
      go_simp <;> with_reducible rfl
    try simp only [Act.put, List.setIfInBounds_toArray, List.set_cons_zero, List.set_cons_succ, List.getElem_toArray, List.getElem_cons_succ, List.getElem_cons_zero]
    have b3 : w4.cell? ⟨B, 3, none⟩ = some nv := hB4.out.cell 3
    have bf : w4.frozen? ⟨B, 3, none⟩ = false := Blk.frozen hB4.out 3
    have hB5 : Hid (Bl (.slice (some ⟨g, 0, none⟩) (nm.length + 1) cap) (w4.setCell ⟨B, 3, none⟩ (.slice (some ⟨g, 0, none⟩) (nm.length + 1) cap)) B s j (k + 1)) := Blk.set hB4.out 3 _
    have hO5 : Hid ((w4.setCell ⟨B, 3, none⟩ (.slice (some ⟨g, 0, none⟩) (nm.length + 1) cap)).ownsRow N 9 1 (.slice (some ⟨g, 0, none⟩) (nm.length + 1) cap) (nm ++ [x]).length ((nm ++ [x]).map Value.string)) := HO4.out.kept (row := some B) ⟨rfl, rfl, rfl, by simp [World.setCell], fun q hq hb => Below.heap_setCell _ _ _ _ (by simp at hb; simpa using hb)⟩ (Or.inr (by simp [Value.ownBlock]; exact hsz4.out))
    have hf5 : Hid (BFr w4 (w4.setCell ⟨B, 3, none⟩ (.slice (some ⟨g, 0, none⟩) (nm.length + 1) cap)) B (.slice (some ⟨g, 0, none⟩) (nm.length + 1) cap) (.slice (some ⟨g, 0, none⟩) (nm.length + 1) cap)) := ⟨rfl, rfl, rfl, by simp [World.setCell], fun q hq h1 _ => Below.heap_setCell _ _ _ _ (by simpa using h1), fun _ h => Or.inl h⟩
    have R5 := hide (blk_bfr R4.out hf5.out hbox.1 ho4')
    have F5 := hide (F4.out.trans hf5.out)
    have Z5 : Hid (Rst N B s (nm ++ [x]) j (k + 1) (.slice (some ⟨g, 0, none⟩) (nm.length + 1) cap) (w4.setCell ⟨B, 3, none⟩ (.slice (some ⟨g, 0, none⟩) (nm.length + 1) cap))) := by
      have hb5 : Below N w4 (w4.setCell ⟨B, 3, none⟩ (.slice (some ⟨g, 0, none⟩) (nm.length + 1) cap)) := (Below.refl _ _).setCell (by have := Z3.out.nb; simpa using this) _
      exact ⟨hB5.out, hO5.out, Z3.out.nb, by simp [World.setCell]; omega, (Z3.out.tb.on HB4.out).on hb5, (Z3.out.ts.on HB4.out).on hb5⟩
    have hz5 : w4.heap.size ≤ (w4.setCell ⟨B, 3, none⟩ (.slice (some ⟨g, 0, none⟩) (nm.length + 1) cap)).heap.size := by simp [World.setCell]
    refine wpAnyH_ready (rs := [13]) (by kernel_rfl) (by simp) ?_
    refine AllReadyH.cons rfl (fun K hK => ?_) AllReadyH.nil
    go_simp
    refine hK.out _ _ (by exact Z5.out.le) (fun hHeld => ?_)
    clear hK K
    try simp only [Act.put, List.setIfInBounds_toArray, List.set_cons_zero, List.set_cons_succ, List.getElem_toArray, List.getElem_cons_succ, List.getElem_cons_zero]
    generalize (w4.setCell ⟨B, 3, none⟩ (.slice (some ⟨g, 0, none⟩) (nm.length + 1) cap)) = w5 at *
    clear b3 bf hB5 hO5 hf5 R4 F4 Z3 F3 R3 P3 HO4 HR4 hB4 HB4
    refine wpAnyH_done (by kernel_rfl) ?_ _
    go_wp2_with fail
    refine (rdAsk_anyL (nv := (.slice (some ⟨g, 0, none⟩) (nm.length + 1) cap)) B j (k + 1) s 46 hjs hs _ (by exact Z5.out.bx)).mono ?_
    intro e w6 hp
    unfold RdAskPostL at hp
    by_cases h6 : j < s.size ∧ byteAt s j = 46
    case neg =>
      rw [if_neg h6] at hp
      obtain ⟨he, n6, rfl⟩ := hp
      have HAE : Hid (askE s j 46 = if j = s.size then 13 else 12) := by unfold Hid askE; rw [if_neg h6]
      have HNZ : Hid ((if j = s.size then (13 : Int) else 12) ≠ 0) := by unfold Hid; split <;> omega
      unfold thrownL at he
      subst he
      exact ⟨rfl, lrP_no (by rw [HR3.out, if_pos (by rw [HAE.out]; exact HNZ.out), HAE.out]) HNZ.out (F5.out.trans (BFr.of_below (below_drewN (Below.refl _ _) n6) B (.slice (some ⟨g, 0, none⟩) (nm.length + 1) cap)))⟩
    rw [if_pos h6] at hp
    obtain ⟨⟨v6, rfl⟩, hx6, he6, hz6⟩ := hp
    have HAE : Hid (askE s j 46 = 0) := by unfold Hid askE; rw [if_pos h6]
    have HR6 := hide (show r = _ from (HR3.out).trans (if_neg (by rw [HAE.out]; simp)))
    have Z6 := hide (Z5.out.ex he6 hx6)
    have F6 := hide (F5.out.trans (he6.bfrL (.slice (some ⟨g, 0, none⟩) (nm.length + 1) cap)))
    have R6 := hide (blk_bfr R5.out (he6.bfrL (.slice (some ⟨g, 0, none⟩) (nm.length + 1) cap)) hbox.1 ho4')
    have hwz6 : w.heap.size + 2 ≤ w6.heap.size := by omega
    clear hx6 he6 hz6 HR3 Z5 F5 R5 HAE
    go_wp2_with fail
    refine (HT.out (nm ++ [x]) (.slice (some ⟨g, 0, none⟩) (nm.length + 1) cap) (j + 1) (k + 1) w6 Z6.out (by simp; omega) (by omega) (by omega) (by omega)).mono ?_
    intro e w7 hp
    generalize lrd s F .term (nm ++ [x]) (j + 1) (k + 1) = r7 at *
    rcases hp with ⟨hr0, nv7, a7, c7, rfl, hs7, hst7, hf7⟩ | ⟨hr0, rfl, nv7, hf7⟩
    case inr => exact ⟨rfl, lrP_no (by rw [HR6.out, if_pos hr0]) hr0 (F6.out.trans hf7)⟩
    obtain ⟨g7, cap7, rfl, hgc7⟩ : ∃ g7 cap7, nv7 = (.slice (some ⟨g7, 0, none⟩) (nm.length + 1) cap7) ∧ nm.length + 1 ≤ cap7 := by
      have h := hst7.own.2
      simp only [List.length_append, List.length_cons, List.length_nil, Nat.zero_add] at h
      rcases h with ⟨_, h⟩ | ⟨g7, cap7, cur, h, _, _, hnc, _⟩
      · omega
      · exact ⟨g7, cap7, h, hnc⟩
    have HR7 : Hid (r = ⟨0, ⟨2, 0, [r7.t]⟩, r7.pos, r7.k⟩) := by unfold Hid; rw [HR6.out, if_neg (by rw [hr0]; simp)]
    have F7 := hide (F6.out.trans hf7)
    have R7 := hide (blk_bfr R6.out hf7 hbox.1 ho4')
    have ho7 := own_bfr hf7 R6.out.lt ho4'
    have hz7 : w6.heap.size ≤ w7.heap.size := hf7.2.2.2.1
    have Z7 := hide hst7
    have gOLD : Hid (g7 ≠ w7.heap.size) := fun e => by have := (hst7.own.lt g7 rfl).2; omega
    have S7 := hide hs7
    clear hs7 hst7 hf7 hr0 HR6 Z6 F6 R6
    have B8 : Hid (Below w7.heap.size w7 ((w7.alloc (.cells #[.int .i64 r7.t.kind, .int .i64 r7.t.idx, .slice a7 r7.t.subs.length c7] 26)).alloc (.cells #[.int .i64 2, .int .i64 0, .slice (some ⟨w7.heap.size, 0, none⟩) 1 1] 26))) := ((Below.refl _ _).alloc (Nat.le_refl _) _).alloc (by simp) _
    have T8 := hide ((Blk.new w7 #[.int .i64 r7.t.kind, .int .i64 r7.t.idx, .slice a7 r7.t.subs.length c7] 26).alloc (.cells #[.int .i64 2, .int .i64 0, .slice (some ⟨w7.heap.size, 0, none⟩) 1 1] 26))
    have M8 : Hid (Blk ((w7.alloc (.cells #[.int .i64 r7.t.kind, .int .i64 r7.t.idx, .slice a7 r7.t.subs.length c7] 26)).alloc (.cells #[.int .i64 2, .int .i64 0, .slice (some ⟨w7.heap.size, 0, none⟩) 1 1] 26)) (w7.heap.size + 1) #[.int .i64 2, .int .i64 0, .slice (some ⟨w7.heap.size, 0, none⟩) 1 1] 26) := by
      have h := Blk.new (w7.alloc (.cells #[.int .i64 r7.t.kind, .int .i64 r7.t.idx, .slice a7 r7.t.subs.length c7] 26)) #[.int .i64 2, .int .i64 0, .slice (some ⟨w7.heap.size, 0, none⟩) 1 1] 26
      have hz : (w7.alloc (.cells #[.int .i64 r7.t.kind, .int .i64 r7.t.idx, .slice a7 r7.t.subs.length c7] 26)).heap.size = w7.heap.size + 1 := by simp
      rw [hz] at h
      exact h
    have hz8 : ((w7.alloc (.cells #[.int .i64 r7.t.kind, .int .i64 r7.t.idx, .slice a7 r7.t.subs.length c7] 26)).alloc (.cells #[.int .i64 2, .int .i64 0, .slice (some ⟨w7.heap.size, 0, none⟩) 1 1] 26)).heap.size = w7.heap.size + 2 := by simp
    have Z8 := hide (Z7.out.later B8.out)
    have F8 := hide (F7.out.trans (BFr.of_below B8.out B (.slice (some ⟨g7, 0, none⟩) (nm.length + 1) cap7)))
    have R8 := hide (R7.out.below B8.out R7.out.lt)
    have S8 := hide (S7.out.later B8.out)
    clear Z7 F7 R7 S7 B8
    go_wp2_with fail
    generalize ((w7.alloc (.cells #[.int .i64 r7.t.kind, .int .i64 r7.t.idx, .slice a7 r7.t.subs.length c7] 26)).alloc (.cells #[.int .i64 2, .int .i64 0, .slice (some ⟨w7.heap.size, 0, none⟩) 1 1] 26)) = w8 at *
    have Zd8 := hide (Z8.out.later (Below.drew (Below.refl w8.heap.size w8)))
    have Fd8 := hide (F8.out.trans (BFr.of_below (Below.drew (Below.refl w8.heap.size w8)) B (.slice (some ⟨g7, 0, none⟩) (nm.length + 1) cap7)))
    have Rd8 : Hid (Blk w8.drew w.heap.size #[.int .i64 0, .int .i64 0, .slice none 0 0] 26) := R8.out
    have Td8 : Hid (Blk w8.drew w7.heap.size #[.int .i64 r7.t.kind, .int .i64 r7.t.idx, .slice a7 r7.t.subs.length c7] 26) := T8.out
    have Md8 : Hid (Blk w8.drew (w7.heap.size + 1) #[.int .i64 2, .int .i64 0, .slice (some ⟨w7.heap.size, 0, none⟩) 1 1] 26) := M8.out
    have Sd8 : Hid (SlM w8.drew (fun b => w6.heap.size ≤ b ∧ some b ≠ ((.slice (some ⟨g7, 0, none⟩) (nm.length + 1) cap7) : Value).ownBlock) a7 r7.t.subs) := S8.out.later (Below.drew (Below.refl w8.heap.size w8))
    have hzd8 : w8.drew.heap.size = w7.heap.size + 2 := by
      have : w8.drew.heap = w8.heap := rfl
      rw [this]; exact hz8
    refine wp_region_held_drew (S := fun w' => N ≤ w'.heap.size) (by kernel_rfl) (by exact Zd8.out.le) (fun hHeld => ?_)
    generalize w8.drew = x8 at *
    clear Z8 F8 R8 T8 M8 S8 hz8
    have W1 : Hid (IntKind.i64.wrap (((nm.length + 1 : Nat) : Int) - 1) = (nm.length : Int)) := by
      unfold Hid; rw [show (((nm.length + 1 : Nat) : Int) - 1) = (nm.length : Int) by omega]; exact wrap_is (by omega) (by omega)
    have W2 : Hid (IntKind.i64.wrap ((nm.length : Int) + 1 - 1) = (nm.length : Int)) := by
      unfold Hid; rw [show ((nm.length : Int) + 1 - 1) = (nm.length : Int) by omega]; exact wrap_is (by omega) (by omega)
    have W3 : Hid (IntKind.i64.wrap (nm.length : Int) = (nm.length : Int)) := wrap_is (by omega) (by omega)
    refine wpAnyH_take (i := 0) (v := ?_) rfl (by kernel_rfl) (by kernel_rfl) (by kernel_rfl) (fun _ _ _ h => h) (Or.inl ⟨by rfl, ?_⟩) (by assumption) ?_
    rotate_left
    · intro w' hSw
      go_simp <;> with_reducible rfl
    try simp only [Act.put, List.setIfInBounds_toArray, List.set_cons_zero, List.set_cons_succ, List.getElem_toArray, List.getElem_cons_succ, List.getElem_cons_zero]
    refine wpAnyH_take (i := 1) (v := ?_) rfl (by kernel_rfl) (by kernel_rfl) (by kernel_rfl) (fun _ _ _ h => h) (Or.inl ⟨by rfl, ?_⟩) (by assumption) ?_
    rotate_left
    · intro w' hSw
      go_simp <;> with_reducible rfl
    try simp only [Act.put, List.setIfInBounds_toArray, List.set_cons_zero, List.set_cons_succ, List.getElem_toArray, List.getElem_cons_succ, List.getElem_cons_zero]
    refine wpAnyH_take (i := 2) (v := ?_) rfl (by kernel_rfl) (by kernel_rfl) (by kernel_rfl) (fun _ _ _ h => h) (Or.inl ⟨by rfl, ?_⟩) (by assumption) ?_
    rotate_left
    · intro w' hSw
      go_simp <;> with_reducible rfl
    try simp only [Act.put, List.setIfInBounds_toArray, List.set_cons_zero, List.set_cons_succ, List.getElem_toArray, List.getElem_cons_succ, List.getElem_cons_zero]
    refine wpAnyH_take (i := 3) (v := ?_) rfl (by kernel_rfl) (by kernel_rfl) (by kernel_rfl) (fun _ _ _ h => h) (Or.inl ⟨by rfl, ?_⟩) (by assumption) ?_
    rotate_left
    · intro w' hSw
      go_simp <;> with_reducible rfl
    try simp only [Act.put, List.setIfInBounds_toArray, List.set_cons_zero, List.set_cons_succ, List.getElem_toArray, List.getElem_cons_succ, List.getElem_cons_zero]
    refine wpAnyH_take (i := 5) (v := ?_) rfl (by kernel_rfl) (by kernel_rfl) (by kernel_rfl) (fun _ _ _ h => h) (Or.inl ⟨by rfl, ?_⟩) (by assumption) ?_
    rotate_left
    · intro w' hSw
      go_simp <;> with_reducible rfl
    try simp only [Act.put, List.setIfInBounds_toArray, List.set_cons_zero, List.set_cons_succ, List.getElem_toArray, List.getElem_cons_succ, List.getElem_cons_zero]
    refine wpAnyH_take (i := 6) (v := ?_) rfl (by kernel_rfl) (by kernel_rfl) (by kernel_rfl) (fun _ _ _ h => h) (Or.inl ⟨by rfl, ?_⟩) (by assumption) ?_
    rotate_left
    · intro w' hSw
      go_simp <;> with_reducible rfl
    try simp only [Act.put, List.setIfInBounds_toArray, List.set_cons_zero, List.set_cons_succ, List.getElem_toArray, List.getElem_cons_succ, List.getElem_cons_zero]
    refine wpAnyH_take (i := 7) (v := ?_) rfl (by kernel_rfl) (by kernel_rfl) (by kernel_rfl) (fun _ _ _ h => h) (Or.inl ⟨by rfl, ?_⟩) (by assumption) ?_
    rotate_left
    · intro w' hSw
      go_simp <;> with_reducible rfl
    try simp only [Act.put, List.setIfInBounds_toArray, List.set_cons_zero, List.set_cons_succ, List.getElem_toArray, List.getElem_cons_succ, List.getElem_cons_zero]
    refine wpAnyH_ready (rs := [4, 8]) (by kernel_rfl) (by simp) ?_
    refine AllReadyH.cons rfl (fun K hK => ?_) (AllReadyH.cons rfl (fun K hK => ?_) AllReadyH.nil)
    · have b3 : x8.cell? ⟨B, 3, none⟩ = some (.slice (some ⟨g7, 0, none⟩) (nm.length + 1) cap7) := Zd8.out.bx.cell 3
      go_simp
      refine hK.out _ _ (by exact Zd8.out.le) (fun hHeld => ?_)
      clear hK K
      try simp only [Act.put, List.setIfInBounds_toArray, List.set_cons_zero, List.set_cons_succ, List.getElem_toArray, List.getElem_cons_succ, List.getElem_cons_zero]
      clear b3
      refine wpAnyH_ready (rs := [8]) (by kernel_rfl) (by simp) ?_
      refine AllReadyH.cons rfl (fun K hK => ?_) AllReadyH.nil
      have b3 : x8.cell? ⟨B, 3, none⟩ = some (.slice (some ⟨g7, 0, none⟩) (nm.length + 1) cap7) := Zd8.out.bx.cell 3
      go_simp
      refine hK.out _ _ (by exact Zd8.out.le) (fun hHeld => ?_)
      clear hK K
      try simp only [Act.put, List.setIfInBounds_toArray, List.set_cons_zero, List.set_cons_succ, List.getElem_toArray, List.getElem_cons_succ, List.getElem_cons_zero]
      clear b3
      refine wpAnyH_take (i := 9) (v := ?_) rfl (by kernel_rfl) (by kernel_rfl) (by kernel_rfl) (fun _ _ _ h => h) (Or.inl ⟨by rfl, ?_⟩) (by assumption) ?_
      rotate_left
      · intro w' hSw
        go_simp <;> with_reducible rfl
      try simp only [Act.put, List.setIfInBounds_toArray, List.set_cons_zero, List.set_cons_succ, List.getElem_toArray, List.getElem_cons_succ, List.getElem_cons_zero]
      refine wpAnyH_take (i := 10) (v := ?_) rfl (by kernel_rfl) (by kernel_rfl) (by kernel_rfl) (fun _ _ _ h => h) (Or.inl ⟨by rfl, ?_⟩) (by assumption) ?_
      rotate_left
      · intro w' hSw
        go_simp <;> with_reducible rfl
      try simp only [Act.put, List.setIfInBounds_toArray, List.set_cons_zero, List.set_cons_succ, List.getElem_toArray, List.getElem_cons_succ, List.getElem_cons_zero]
      first | rw [W1.out] | rw [W2.out] | rw [W3.out]
      refine wpAnyH_take (i := 11) (v := ?_) rfl (by kernel_rfl) (by kernel_rfl) (by kernel_rfl) (fun _ _ _ h => h) (Or.inl ⟨by rfl, ?_⟩) (by assumption) ?_
      rotate_left
      · intro w' hSw
        have hkc : (nm.length : Int) ≤ (cap7 : Int) := by omega
        go_simp <;> with_reducible rfl
      try simp only [Act.put, List.setIfInBounds_toArray, List.set_cons_zero, List.set_cons_succ, List.getElem_toArray, List.getElem_cons_succ, List.getElem_cons_zero]
      refine wpAnyH_take (i := 12) (v := ?_) rfl (by kernel_rfl) (by kernel_rfl) (by kernel_rfl) (fun _ _ _ h => h) (Or.inl ⟨by rfl, ?_⟩) (by assumption) ?_
      rotate_left
      · intro w' hSw
        go_simp <;> with_reducible rfl
      try simp only [Act.put, List.setIfInBounds_toArray, List.set_cons_zero, List.set_cons_succ, List.getElem_toArray, List.getElem_cons_succ, List.getElem_cons_zero]
      refine wpAnyH_take (i := 13) (v := ?_) rfl (by kernel_rfl) (by kernel_rfl) (by kernel_rfl) (fun _ _ _ h => h) (Or.inl ⟨by rfl, ?_⟩) (by assumption) ?_
      rotate_left
      · intro w' hSw
        go_simp <;> with_reducible rfl
      try simp only [Act.put, List.setIfInBounds_toArray, List.set_cons_zero, List.set_cons_succ, List.getElem_toArray, List.getElem_cons_succ, List.getElem_cons_zero]
      have hg7B : Hid (g7 ≠ B) := fun e => Zd8.out.ne (by rw [e]; rfl)
      have b3 : x8.cell? ⟨B, 3, none⟩ = some (.slice (some ⟨g7, 0, none⟩) (nm.length + 1) cap7) := Zd8.out.bx.cell 3
      have bf : x8.frozen? ⟨B, 3, none⟩ = false := Blk.frozen Zd8.out.bx 3
      have hB9 : Hid (Bl (.slice (some ⟨g7, 0, none⟩) nm.length cap7) (x8.setCell ⟨B, 3, none⟩ (.slice (some ⟨g7, 0, none⟩) nm.length cap7)) B s r7.pos r7.k) := Blk.set Zd8.out.bx 3 _
      have hf9 : Hid (BFr x8 (x8.setCell ⟨B, 3, none⟩ (.slice (some ⟨g7, 0, none⟩) nm.length cap7)) B (.slice (some ⟨g7, 0, none⟩) (nm.length + 1) cap7) (.slice (some ⟨g7, 0, none⟩) nm.length cap7)) := ⟨rfl, rfl, rfl, by simp [World.setCell], fun q hq h1 _ => Below.heap_setCell _ _ _ _ (by simpa using h1), fun _ h => Or.inl h⟩
      have hO9 : Hid ((x8.setCell ⟨B, 3, none⟩ (.slice (some ⟨g7, 0, none⟩) nm.length cap7)).ownsRow N 9 1 (.slice (some ⟨g7, 0, none⟩) nm.length cap7) nm.length (nm.map Value.string)) := (pop_own (n := nm.length) Zd8.out.own rfl).kept (row := some B) ⟨rfl, rfl, rfl, by simp [World.setCell], fun q hq hb => Below.heap_setCell _ _ _ _ (by simp at hb; simpa using hb)⟩ (Or.inr (by simp [Value.ownBlock]; exact hg7B.out))
      have Z9 := hide (Zd8.out.step hf9.out hB9.out hO9.out)
      have F9 := hide (Fd8.out.trans hf9.out)
      have R9 := hide (blk_bfr Rd8.out hf9.out hbox.1 ho7)
      have kx : ∀ q : Nat, q ≠ B → (x8.setCell ⟨B, 3, none⟩ (.slice (some ⟨g7, 0, none⟩) nm.length cap7)).heap[q]? = x8.heap[q]? := fun q hq => Below.heap_setCell _ _ _ _ (by simpa using hq)
      have T9 : Hid (Blk (x8.setCell ⟨B, 3, none⟩ (.slice (some ⟨g7, 0, none⟩) nm.length cap7)) w7.heap.size #[.int .i64 r7.t.kind, .int .i64 r7.t.idx, .slice a7 r7.t.subs.length c7] 26) := (kx _ (by omega)).trans Td8.out
      have M9 : Hid (Blk (x8.setCell ⟨B, 3, none⟩ (.slice (some ⟨g7, 0, none⟩) nm.length cap7)) (w7.heap.size + 1) #[.int .i64 2, .int .i64 0, .slice (some ⟨w7.heap.size, 0, none⟩) 1 1] 26) := (kx _ (by omega)).trans Md8.out
      have S9 : Hid (SlM (x8.setCell ⟨B, 3, none⟩ (.slice (some ⟨g7, 0, none⟩) nm.length cap7)) (fun b => w.heap.size < b ∧ some b ≠ ((.slice (some ⟨g7, 0, none⟩) nm.length cap7) : Value).ownBlock) a7 r7.t.subs) := (Sd8.out.kept fun q hq => kx q (by omega)).mono fun q hq _ => ⟨by omega, hq.2⟩
      refine wpAnyH_ready (rs := [14]) (by kernel_rfl) (by simp) ?_
      refine AllReadyH.cons rfl (fun K hK => ?_) AllReadyH.nil
      go_simp
      refine hK.out _ _ (by exact Z9.out.le) (fun hHeld => ?_)
      clear hK K
      try simp only [Act.put, List.setIfInBounds_toArray, List.set_cons_zero, List.set_cons_succ, List.getElem_toArray, List.getElem_cons_succ, List.getElem_cons_zero]
      generalize (x8.setCell ⟨B, 3, none⟩ (.slice (some ⟨g7, 0, none⟩) nm.length cap7)) = w9 at *
      clear b3 bf hB9 hO9 hf9 Zd8 Fd8 Rd8 Td8 Md8 Sd8 kx
      refine wpAnyH_done (by kernel_rfl) ?_ _
      have q0 := M9.out.cell 0
      have q1 := M9.out.cell 1
      have q2 := M9.out.cell 2
      have t0 := T9.out.cell 0
      have t1 := T9.out.cell 1
      have t2 := T9.out.cell 2
      have r0 := R9.out.cell 0
      have r1 := R9.out.cell 1
      have r2 := R9.out.cell 2
      have rf := R9.out.frozen
      simp only [List.getElem?_toArray, List.getElem?_cons_succ, List.getElem?_cons_zero] at q0 q1 q2 r0 r1 r2 t0 t1 t2
      have hg7 : ((.slice (some ⟨g7, 0, none⟩) nm.length cap7) : Value).ownBlock = some g7 := rfl
      have hlt7 := (Z9.out.own.lt _ hg7).2
      have HNG : Hid (some w7.heap.size ≠ ((.slice (some ⟨g7, 0, none⟩) nm.length cap7) : Value).ownBlock) := by
        unfold Hid
        intro e
        have e2 : g7 = w7.heap.size := by simpa [Value.ownBlock] using e.symm
        exact gOLD.out e2
      have SF : Hid (SlM w9 (fun b => w.heap.size < b ∧ some b ≠ ((.slice (some ⟨g7, 0, none⟩) nm.length cap7) : Value).ownBlock) (some ⟨w7.heap.size, 0, none⟩) [r7.t]) := lies_one ⟨by omega, HNG.out⟩ (by simpa using t0) (by simpa using t1) (by simpa using t2) S9.out
      clear hg7 hlt7
      go_wp2_with fail
      refine bodyPost_ret (v := .agg #[.int .i64 2, .int .i64 0, .slice (some ⟨w7.heap.size, 0, none⟩) 1 1]) (by simp [results, Tryz.results49, go_sem, World.cell?_setCell_same, World.cell?_setCell_other, r0, r1, r2]) rfl ?_
      exact lr_fin (t := ⟨2, 0, [r7.t]⟩) HR7.out Z9.out F9.out hBlt ho7 SF.out _ _ _
    · have b3 : x8.cell? ⟨B, 3, none⟩ = some (.slice (some ⟨g7, 0, none⟩) (nm.length + 1) cap7) := Zd8.out.bx.cell 3
      go_simp
      refine hK.out _ _ (by exact Zd8.out.le) (fun hHeld => ?_)
      clear hK K
      try simp only [Act.put, List.setIfInBounds_toArray, List.set_cons_zero, List.set_cons_succ, List.getElem_toArray, List.getElem_cons_succ, List.getElem_cons_zero]
      clear b3
      refine wpAnyH_take (i := 9) (v := ?_) rfl (by kernel_rfl) (by kernel_rfl) (by kernel_rfl) (fun _ _ _ h => h) (Or.inl ⟨by rfl, ?_⟩) (by assumption) ?_
      rotate_left
      · intro w' hSw
        go_simp <;> with_reducible rfl
      try simp only [Act.put, List.setIfInBounds_toArray, List.set_cons_zero, List.set_cons_succ, List.getElem_toArray, List.getElem_cons_succ, List.getElem_cons_zero]
      refine wpAnyH_take (i := 10) (v := ?_) rfl (by kernel_rfl) (by kernel_rfl) (by kernel_rfl) (fun _ _ _ h => h) (Or.inl ⟨by rfl, ?_⟩) (by assumption) ?_
      rotate_left
      · intro w' hSw
        go_simp <;> with_reducible rfl
      try simp only [Act.put, List.setIfInBounds_toArray, List.set_cons_zero, List.set_cons_succ, List.getElem_toArray, List.getElem_cons_succ, List.getElem_cons_zero]
      first | rw [W1.out] | rw [W2.out] | rw [W3.out]
      refine wpAnyH_ready (rs := [4]) (by kernel_rfl) (by simp) ?_
      refine AllReadyH.cons rfl (fun K hK => ?_) AllReadyH.nil
      have b3 : x8.cell? ⟨B, 3, none⟩ = some (.slice (some ⟨g7, 0, none⟩) (nm.length + 1) cap7) := Zd8.out.bx.cell 3
      go_simp
      refine hK.out _ _ (by exact Zd8.out.le) (fun hHeld => ?_)
      clear hK K
      try simp only [Act.put, List.setIfInBounds_toArray, List.set_cons_zero, List.set_cons_succ, List.getElem_toArray, List.getElem_cons_succ, List.getElem_cons_zero]
      clear b3
      refine wpAnyH_take (i := 11) (v := ?_) rfl (by kernel_rfl) (by kernel_rfl) (by kernel_rfl) (fun _ _ _ h => h) (Or.inl ⟨by rfl, ?_⟩) (by assumption) ?_
      rotate_left
      · intro w' hSw
        have hkc : (nm.length : Int) ≤ (cap7 : Int) := by omega
        go_simp <;> with_reducible rfl
      try simp only [Act.put, List.setIfInBounds_toArray, List.set_cons_zero, List.set_cons_succ, List.getElem_toArray, List.getElem_cons_succ, List.getElem_cons_zero]
      refine wpAnyH_take (i := 12) (v := ?_) rfl (by kernel_rfl) (by kernel_rfl) (by kernel_rfl) (fun _ _ _ h => h) (Or.inl ⟨by rfl, ?_⟩) (by assumption) ?_
      rotate_left
      · intro w' hSw
        go_simp <;> with_reducible rfl
      try simp only [Act.put, List.setIfInBounds_toArray, List.set_cons_zero, List.set_cons_succ, List.getElem_toArray, List.getElem_cons_succ, List.getElem_cons_zero]
      refine wpAnyH_take (i := 13) (v := ?_) rfl (by kernel_rfl) (by kernel_rfl) (by kernel_rfl) (fun _ _ _ h => h) (Or.inl ⟨by rfl, ?_⟩) (by assumption) ?_
      rotate_left
      · intro w' hSw
        go_simp <;> with_reducible rfl
      try simp only [Act.put, List.setIfInBounds_toArray, List.set_cons_zero, List.set_cons_succ, List.getElem_toArray, List.getElem_cons_succ, List.getElem_cons_zero]
      have hg7B : Hid (g7 ≠ B) := fun e => Zd8.out.ne (by rw [e]; rfl)
      have b3 : x8.cell? ⟨B, 3, none⟩ = some (.slice (some ⟨g7, 0, none⟩) (nm.length + 1) cap7) := Zd8.out.bx.cell 3
      have bf : x8.frozen? ⟨B, 3, none⟩ = false := Blk.frozen Zd8.out.bx 3
      have hB9 : Hid (Bl (.slice (some ⟨g7, 0, none⟩) nm.length cap7) (x8.setCell ⟨B, 3, none⟩ (.slice (some ⟨g7, 0, none⟩) nm.length cap7)) B s r7.pos r7.k) := Blk.set Zd8.out.bx 3 _
      have hf9 : Hid (BFr x8 (x8.setCell ⟨B, 3, none⟩ (.slice (some ⟨g7, 0, none⟩) nm.length cap7)) B (.slice (some ⟨g7, 0, none⟩) (nm.length + 1) cap7) (.slice (some ⟨g7, 0, none⟩) nm.length cap7)) := ⟨rfl, rfl, rfl, by simp [World.setCell], fun q hq h1 _ => Below.heap_setCell _ _ _ _ (by simpa using h1), fun _ h => Or.inl h⟩
      have hO9 : Hid ((x8.setCell ⟨B, 3, none⟩ (.slice (some ⟨g7, 0, none⟩) nm.length cap7)).ownsRow N 9 1 (.slice (some ⟨g7, 0, none⟩) nm.length cap7) nm.length (nm.map Value.string)) := (pop_own (n := nm.length) Zd8.out.own rfl).kept (row := some B) ⟨rfl, rfl, rfl, by simp [World.setCell], fun q hq hb => Below.heap_setCell _ _ _ _ (by simp at hb; simpa using hb)⟩ (Or.inr (by simp [Value.ownBlock]; exact hg7B.out))
      have Z9 := hide (Zd8.out.step hf9.out hB9.out hO9.out)
      have F9 := hide (Fd8.out.trans hf9.out)
      have R9 := hide (blk_bfr Rd8.out hf9.out hbox.1 ho7)
      have kx : ∀ q : Nat, q ≠ B → (x8.setCell ⟨B, 3, none⟩ (.slice (some ⟨g7, 0, none⟩) nm.length cap7)).heap[q]? = x8.heap[q]? := fun q hq => Below.heap_setCell _ _ _ _ (by simpa using hq)
      have T9 : Hid (Blk (x8.setCell ⟨B, 3, none⟩ (.slice (some ⟨g7, 0, none⟩) nm.length cap7)) w7.heap.size #[.int .i64 r7.t.kind, .int .i64 r7.t.idx, .slice a7 r7.t.subs.length c7] 26) := (kx _ (by omega)).trans Td8.out
      have M9 : Hid (Blk (x8.setCell ⟨B, 3, none⟩ (.slice (some ⟨g7, 0, none⟩) nm.length cap7)) (w7.heap.size + 1) #[.int .i64 2, .int .i64 0, .slice (some ⟨w7.heap.size, 0, none⟩) 1 1] 26) := (kx _ (by omega)).trans Md8.out
      have S9 : Hid (SlM (x8.setCell ⟨B, 3, none⟩ (.slice (some ⟨g7, 0, none⟩) nm.length cap7)) (fun b => w.heap.size < b ∧ some b ≠ ((.slice (some ⟨g7, 0, none⟩) nm.length cap7) : Value).ownBlock) a7 r7.t.subs) := (Sd8.out.kept fun q hq => kx q (by omega)).mono fun q hq _ => ⟨by omega, hq.2⟩
      refine wpAnyH_ready (rs := [14]) (by kernel_rfl) (by simp) ?_
      refine AllReadyH.cons rfl (fun K hK => ?_) AllReadyH.nil
      go_simp
      refine hK.out _ _ (by exact Z9.out.le) (fun hHeld => ?_)
      clear hK K
      try simp only [Act.put, List.setIfInBounds_toArray, List.set_cons_zero, List.set_cons_succ, List.getElem_toArray, List.getElem_cons_succ, List.getElem_cons_zero]
      generalize (x8.setCell ⟨B, 3, none⟩ (.slice (some ⟨g7, 0, none⟩) nm.length cap7)) = w9 at *
      clear b3 bf hB9 hO9 hf9 Zd8 Fd8 Rd8 Td8 Md8 Sd8 kx
      refine wpAnyH_done (by kernel_rfl) ?_ _
      have q0 := M9.out.cell 0
      have q1 := M9.out.cell 1
      have q2 := M9.out.cell 2
      have t0 := T9.out.cell 0
      have t1 := T9.out.cell 1
      have t2 := T9.out.cell 2
      have r0 := R9.out.cell 0
      have r1 := R9.out.cell 1
      have r2 := R9.out.cell 2
      have rf := R9.out.frozen
      simp only [List.getElem?_toArray, List.getElem?_cons_succ, List.getElem?_cons_zero] at q0 q1 q2 r0 r1 r2 t0 t1 t2
      have hg7 : ((.slice (some ⟨g7, 0, none⟩) nm.length cap7) : Value).ownBlock = some g7 := rfl
      have hlt7 := (Z9.out.own.lt _ hg7).2
      have HNG : Hid (some w7.heap.size ≠ ((.slice (some ⟨g7, 0, none⟩) nm.length cap7) : Value).ownBlock) := by
        unfold Hid
        intro e
        have e2 : g7 = w7.heap.size := by simpa [Value.ownBlock] using e.symm
        exact gOLD.out e2
      have SF : Hid (SlM w9 (fun b => w.heap.size < b ∧ some b ≠ ((.slice (some ⟨g7, 0, none⟩) nm.length cap7) : Value).ownBlock) (some ⟨w7.heap.size, 0, none⟩) [r7.t]) := lies_one ⟨by omega, HNG.out⟩ (by simpa using t0) (by simpa using t1) (by simpa using t2) S9.out
      clear hg7 hlt7
      go_wp2_with fail
      refine bodyPost_ret (v := .agg #[.int .i64 2, .int .i64 0, .slice (some ⟨w7.heap.size, 0, none⟩) 1 1]) (by simp [results, Tryz.results49, go_sem, World.cell?_setCell_same, World.cell?_setCell_other, r0, r1, r2]) rfl ?_
      exact lr_fin (t := ⟨2, 0, [r7.t]⟩) HR7.out Z9.out F9.out hBlt ho7 SF.out _ _ _
  · go_simp
    go_at_call 66
    refine (name_anyL (nv := nv) B i (k + 1) s hi hs _ (by exact Zd.out.bx)).mono ?_
    intro e w2 hp
    unfold NamePostL at hp
    by_cases h1 : stopAt s i = i
    · rw [if_pos h1] at hp
      obtain ⟨rfl, he⟩ := hp
      have HNE : Hid (nameE s i = if i = s.size then 13 else 12) := by unfold Hid nameE; rw [if_pos h1]
      have HNZ : Hid ((if i = s.size then (13 : Int) else 12) ≠ 0) := by unfold Hid; split <;> omega
      exact ⟨rfl, lrP_no (by rw [HR2.out, if_pos (by rw [HNE.out]; exact HNZ.out), HNE.out]) HNZ.out (Fd.out.trans (he.bfrL nv))⟩
    rw [if_neg h1] at hp
    by_cases h2 : nameB (s.extract i (stopAt s i)) = false
    · rw [if_pos h2] at hp
      obtain ⟨rfl, he⟩ := hp
      have HNE : Hid (nameE s i = 1) := by unfold Hid nameE; rw [if_neg h1, if_pos h2]
      exact ⟨rfl, lrP_no (by rw [HR2.out, if_pos (by rw [HNE.out]; simp), HNE.out]) (by simp) (Fd.out.trans (he.bfrL nv))⟩
    rw [if_neg h2] at hp
    obtain ⟨rfl, hx2, he2, hz2⟩ := hp
    have HNE : Hid (nameE s i = 0) := by unfold Hid nameE; rw [if_neg h1, if_neg h2]
    have HR3 := hide (show r = _ from (HR2.out).trans (if_neg (by rw [HNE.out]; simp)))
    have hjs := stopAt_le s hi
    have hji := stopAt_ge s i
    have hjl : i < stopAt s i := by omega
    have Z2 := hide (Zd.out.ex he2 hx2)
    have F2 := hide (Fd.out.trans (he2.bfrL nv))
    have R2 := hide (blk_bfr Rd.out (he2.bfrL nv) hbox.1 hbox.2)
    clear hx2 he2 h1 h2 Zd Fd Rd HR2 HNE
    generalize s.extract i (stopAt s i) = x at *
    generalize stopAt s i = j at *
    go_simp
    refine hK.out _ _ (by exact Z2.out.le) (fun hHeld => ?_)
    clear hK K
    try simp only [Act.put, List.setIfInBounds_toArray, List.set_cons_zero, List.set_cons_succ, List.getElem_toArray, List.getElem_cons_succ, List.getElem_cons_zero]
    have Z3 := hide (Z2.out.alloc (.cells #[.string x] 9))
    have R3 := hide (R2.out.alloc (.cells #[.string x] 9))
    have F3 := hide (F2.out.trans (BFr.of_below ((Below.refl w2.heap.size w2).alloc (Nat.le_refl _) (.cells #[.string x] 9)) B nv))
    have P3 := hide (Blk.new w2 #[.string x] 9)
    have hz3 : (w2.alloc (.cells #[.string x] 9)).heap.size = w.heap.size + 2 := by simp; omega
    refine wpAnyH_ready (rs := [4, 9]) (by kernel_rfl) (by simp) ?_
    refine AllReadyH.cons rfl (fun K hK => ?_) (AllReadyH.cons rfl (fun K hK => ?_) AllReadyH.nil)
    · have b3 : w2.cell? ⟨B, 3, none⟩ = some nv := Z2.out.bx.cell 3
      go_simp
      refine hK.out _ _ (by exact Z2.out.le) (fun hHeld => ?_)
      clear hK K
      try simp only [Act.put, List.setIfInBounds_toArray, List.set_cons_zero, List.set_cons_succ, List.getElem_toArray, List.getElem_cons_succ, List.getElem_cons_zero]
      clear b3
      refine wpAnyH_ready (rs := [9]) (by kernel_rfl) (by simp) ?_
      refine AllReadyH.cons rfl (fun K hK => ?_) AllReadyH.nil
      go_simp
      refine hK.out _ _ (by exact Z3.out.le) (fun hHeld => ?_)
      clear hK K
      try simp only [Act.put, List.setIfInBounds_toArray, List.set_cons_zero, List.set_cons_succ, List.getElem_toArray, List.getElem_cons_succ, List.getElem_cons_zero]
      generalize (w2.alloc (.cells #[.string x] 9)) = w3 at *
      have hw2 : w2.heap.size = w.heap.size + 1 := by omega
      rw [hw2] at P3
      try rw [hw2]
      obtain ⟨g, cap, w4, hr4, ho4, hg4, hat4⟩ := app_oneL (P := w.heap.size + 1) (x := x) Z3.out.own Z3.out.le (by omega) (by have := P3.out.cell 0; simpa using this)
      have HR4 := hide hr4
      have HO4 := hide ho4
      have hB4 : Hid (Bl nv w4 B s j (k + 1)) := by
        unfold Hid Bl Blk
        rw [hg4.block B Z3.out.lt (fun e => Z3.out.ne e.symm)]
        exact Z3.out.bx
      have hf4 : BFr w3 w4 B nv (.slice (some ⟨g, 0, none⟩) (nm.length + 1) cap) := ⟨hg4.os, hg4.tape, hg4.output, hg4.size, fun q hq h1 h2 => hg4.block q hq h2, fun q hq => by
        simp [Value.ownBlock] at hq
        subst hq
        rcases hat4 with e | e
        · exact Or.inl e
        · right; omega⟩
      have R4 := hide (blk_bfr R3.out hf4 hbox.1 hbox.2)
      have ho4' := own_bfr hf4 R3.out.lt hbox.2
      have F4 := hide (F3.out.trans hf4)
      have HB4 := hide (Z3.out.fr hf4)
      have hz4 := hg4.size
      have hsz4 : Hid (g ≠ B) := by
        unfold Hid
        intro e
        rcases hat4 with e2 | e2
        · exact Z3.out.ne (by rw [e2, e])
        · have := Z3.out.lt; omega
      clear hr4 ho4 hg4 hat4 hf4
      have hle4 : N ≤ w4.heap.size := by have := Z3.out.le; omega
      refine wpAnyH_ready (rs := [10]) (by kernel_rfl) (by simp) ?_
      refine AllReadyH.cons rfl (fun K hK => ?_) AllReadyH.nil
      refine step_append_eqM rfl _ _ _ _ rfl rfl rfl HR4.out ?_
      refine hK.out _ _ (by exact hle4) (fun hHeld => ?_)
      clear hK K
      try simp only [Act.put, List.setIfInBounds_toArray, List.set_cons_zero, List.set_cons_succ, List.getElem_toArray, List.getElem_cons_succ, List.getElem_cons_zero]
      refine wpAnyH_take (i := 11) (v := ?_) rfl (by kernel_rfl) (by kernel_rfl) (by kernel_rfl) (fun _ _ _ h => h) (Or.inl ⟨by rfl, ?_⟩) (by assumption) ?_
      rotate_left
      · intro w' hSw
        go_simp <;> with_reducible rfl
      try simp only [Act.put, List.setIfInBounds_toArray, List.set_cons_zero, List.set_cons_succ, List.getElem_toArray, List.getElem_cons_succ, List.getElem_cons_zero]
      refine wpAnyH_take (i := 12) (v := ?_) rfl (by kernel_rfl) (by kernel_rfl) (by kernel_rfl) (fun _ _ _ h => h) (Or.inl ⟨by rfl, ?_⟩) (by assumption) ?_
      rotate_left
      · intro w' hSw
        go_simp <;> with_reducible rfl
      try simp only [Act.put, List.setIfInBounds_toArray, List.set_cons_zero, List.set_cons_succ, List.getElem_toArray, List.getElem_cons_succ, List.getElem_cons_zero]
      have b3 : w4.cell? ⟨B, 3, none⟩ = some nv := hB4.out.cell 3
      have bf : w4.frozen? ⟨B, 3, none⟩ = false := Blk.frozen hB4.out 3
      have hB5 : Hid (Bl (.slice (some ⟨g, 0, none⟩) (nm.length + 1) cap) (w4.setCell ⟨B, 3, none⟩ (.slice (some ⟨g, 0, none⟩) (nm.length + 1) cap)) B s j (k + 1)) := Blk.set hB4.out 3 _
      have hO5 : Hid ((w4.setCell ⟨B, 3, none⟩ (.slice (some ⟨g, 0, none⟩) (nm.length + 1) cap)).ownsRow N 9 1 (.slice (some ⟨g, 0, none⟩) (nm.length + 1) cap) (nm ++ [x]).length ((nm ++ [x]).map Value.string)) := HO4.out.kept (row := some B) ⟨rfl, rfl, rfl, by simp [World.setCell], fun q hq hb => Below.heap_setCell _ _ _ _ (by simp at hb; simpa using hb)⟩ (Or.inr (by simp [Value.ownBlock]; exact hsz4.out))
      have hf5 : Hid (BFr w4 (w4.setCell ⟨B, 3, none⟩ (.slice (some ⟨g, 0, none⟩) (nm.length + 1) cap)) B (.slice (some ⟨g, 0, none⟩) (nm.length + 1) cap) (.slice (some ⟨g, 0, none⟩) (nm.length + 1) cap)) := ⟨rfl, rfl, rfl, by simp [World.setCell], fun q hq h1 _ => Below.heap_setCell _ _ _ _ (by simpa using h1), fun _ h => Or.inl h⟩
      have R5 := hide (blk_bfr R4.out hf5.out hbox.1 ho4')
      have F5 := hide (F4.out.trans hf5.out)
      have Z5 : Hid (Rst N B s (nm ++ [x]) j (k + 1) (.slice (some ⟨g, 0, none⟩) (nm.length + 1) cap) (w4.setCell ⟨B, 3, none⟩ (.slice (some ⟨g, 0, none⟩) (nm.length + 1) cap))) := by
        have hb5 : Below N w4 (w4.setCell ⟨B, 3, none⟩ (.slice (some ⟨g, 0, none⟩) (nm.length + 1) cap)) := (Below.refl _ _).setCell (by have := Z3.out.nb; simpa using this) _
        exact ⟨hB5.out, hO5.out, Z3.out.nb, by simp [World.setCell]; omega, (Z3.out.tb.on HB4.out).on hb5, (Z3.out.ts.on HB4.out).on hb5⟩
      have hz5 : w4.heap.size ≤ (w4.setCell ⟨B, 3, none⟩ (.slice (some ⟨g, 0, none⟩) (nm.length + 1) cap)).heap.size := by simp [World.setCell]
      refine wpAnyH_ready (rs := [13]) (by kernel_rfl) (by simp) ?_
      refine AllReadyH.cons rfl (fun K hK => ?_) AllReadyH.nil
      go_simp
      refine hK.out _ _ (by exact Z5.out.le) (fun hHeld => ?_)
      clear hK K
      try simp only [Act.put, List.setIfInBounds_toArray, List.set_cons_zero, List.set_cons_succ, List.getElem_toArray, List.getElem_cons_succ, List.getElem_cons_zero]
      generalize (w4.setCell ⟨B, 3, none⟩ (.slice (some ⟨g, 0, none⟩) (nm.length + 1) cap)) = w5 at *
      clear b3 bf hB5 hO5 hf5 R4 F4 Z3 F3 R3 P3 HO4 HR4 hB4 HB4
      refine wpAnyH_done (by kernel_rfl) ?_ _
      go_wp2_with fail
      refine (rdAsk_anyL (nv := (.slice (some ⟨g, 0, none⟩) (nm.length + 1) cap)) B j (k + 1) s 46 hjs hs _ (by exact Z5.out.bx)).mono ?_
      intro e w6 hp
      unfold RdAskPostL at hp
      by_cases h6 : j < s.size ∧ byteAt s j = 46
      case neg =>
        rw [if_neg h6] at hp
        obtain ⟨he, n6, rfl⟩ := hp
        have HAE : Hid (askE s j 46 = if j = s.size then 13 else 12) := by unfold Hid askE; rw [if_neg h6]
        have HNZ : Hid ((if j = s.size then (13 : Int) else 12) ≠ 0) := by unfold Hid; split <;> omega
        unfold thrownL at he
        subst he
        exact ⟨rfl, lrP_no (by rw [HR3.out, if_pos (by rw [HAE.out]; exact HNZ.out), HAE.out]) HNZ.out (F5.out.trans (BFr.of_below (below_drewN (Below.refl _ _) n6) B (.slice (some ⟨g, 0, none⟩) (nm.length + 1) cap)))⟩
      rw [if_pos h6] at hp
      obtain ⟨⟨v6, rfl⟩, hx6, he6, hz6⟩ := hp
      have HAE : Hid (askE s j 46 = 0) := by unfold Hid askE; rw [if_pos h6]
      have HR6 := hide (show r = _ from (HR3.out).trans (if_neg (by rw [HAE.out]; simp)))
      have Z6 := hide (Z5.out.ex he6 hx6)
      have F6 := hide (F5.out.trans (he6.bfrL (.slice (some ⟨g, 0, none⟩) (nm.length + 1) cap)))
      have R6 := hide (blk_bfr R5.out (he6.bfrL (.slice (some ⟨g, 0, none⟩) (nm.length + 1) cap)) hbox.1 ho4')
      have hwz6 : w.heap.size + 2 ≤ w6.heap.size := by omega
      clear hx6 he6 hz6 HR3 Z5 F5 R5 HAE
      go_wp2_with fail
      refine (HT.out (nm ++ [x]) (.slice (some ⟨g, 0, none⟩) (nm.length + 1) cap) (j + 1) (k + 1) w6 Z6.out (by simp; omega) (by omega) (by omega) (by omega)).mono ?_
      intro e w7 hp
      generalize lrd s F .term (nm ++ [x]) (j + 1) (k + 1) = r7 at *
      rcases hp with ⟨hr0, nv7, a7, c7, rfl, hs7, hst7, hf7⟩ | ⟨hr0, rfl, nv7, hf7⟩
      case inr => exact ⟨rfl, lrP_no (by rw [HR6.out, if_pos hr0]) hr0 (F6.out.trans hf7)⟩
      obtain ⟨g7, cap7, rfl, hgc7⟩ : ∃ g7 cap7, nv7 = (.slice (some ⟨g7, 0, none⟩) (nm.length + 1) cap7) ∧ nm.length + 1 ≤ cap7 := by
        have h := hst7.own.2
        simp only [List.length_append, List.length_cons, List.length_nil, Nat.zero_add] at h
        rcases h with ⟨_, h⟩ | ⟨g7, cap7, cur, h, _, _, hnc, _⟩
        · omega
        · exact ⟨g7, cap7, h, hnc⟩
      have HR7 : Hid (r = ⟨0, ⟨2, 0, [r7.t]⟩, r7.pos, r7.k⟩) := by unfold Hid; rw [HR6.out, if_neg (by rw [hr0]; simp)]
      have F7 := hide (F6.out.trans hf7)
      have R7 := hide (blk_bfr R6.out hf7 hbox.1 ho4')
      have ho7 := own_bfr hf7 R6.out.lt ho4'
      have hz7 : w6.heap.size ≤ w7.heap.size := hf7.2.2.2.1
      have Z7 := hide hst7
      have gOLD : Hid (g7 ≠ w7.heap.size) := fun e => by have := (hst7.own.lt g7 rfl).2; omega
      have S7 := hide hs7
      clear hs7 hst7 hf7 hr0 HR6 Z6 F6 R6
      have B8 : Hid (Below w7.heap.size w7 ((w7.alloc (.cells #[.int .i64 r7.t.kind, .int .i64 r7.t.idx, .slice a7 r7.t.subs.length c7] 26)).alloc (.cells #[.int .i64 2, .int .i64 0, .slice (some ⟨w7.heap.size, 0, none⟩) 1 1] 26))) := ((Below.refl _ _).alloc (Nat.le_refl _) _).alloc (by simp) _
      have T8 := hide ((Blk.new w7 #[.int .i64 r7.t.kind, .int .i64 r7.t.idx, .slice a7 r7.t.subs.length c7] 26).alloc (.cells #[.int .i64 2, .int .i64 0, .slice (some ⟨w7.heap.size, 0, none⟩) 1 1] 26))
      have M8 : Hid (Blk ((w7.alloc (.cells #[.int .i64 r7.t.kind, .int .i64 r7.t.idx, .slice a7 r7.t.subs.length c7] 26)).alloc (.cells #[.int .i64 2, .int .i64 0, .slice (some ⟨w7.heap.size, 0, none⟩) 1 1] 26)) (w7.heap.size + 1) #[.int .i64 2, .int .i64 0, .slice (some ⟨w7.heap.size, 0, none⟩) 1 1] 26) := by
        have h := Blk.new (w7.alloc (.cells #[.int .i64 r7.t.kind, .int .i64 r7.t.idx, .slice a7 r7.t.subs.length c7] 26)) #[.int .i64 2, .int .i64 0, .slice (some ⟨w7.heap.size, 0, none⟩) 1 1] 26
        have hz : (w7.alloc (.cells #[.int .i64 r7.t.kind, .int .i64 r7.t.idx, .slice a7 r7.t.subs.length c7] 26)).heap.size = w7.heap.size + 1 := by simp
        rw [hz] at h
        exact h
      have hz8 : ((w7.alloc (.cells #[.int .i64 r7.t.kind, .int .i64 r7.t.idx, .slice a7 r7.t.subs.length c7] 26)).alloc (.cells #[.int .i64 2, .int .i64 0, .slice (some ⟨w7.heap.size, 0, none⟩) 1 1] 26)).heap.size = w7.heap.size + 2 := by simp
      have Z8 := hide (Z7.out.later B8.out)
      have F8 := hide (F7.out.trans (BFr.of_below B8.out B (.slice (some ⟨g7, 0, none⟩) (nm.length + 1) cap7)))
      have R8 := hide (R7.out.below B8.out R7.out.lt)
      have S8 := hide (S7.out.later B8.out)
      clear Z7 F7 R7 S7 B8
      go_wp2_with fail
      generalize ((w7.alloc (.cells #[.int .i64 r7.t.kind, .int .i64 r7.t.idx, .slice a7 r7.t.subs.length c7] 26)).alloc (.cells #[.int .i64 2, .int .i64 0, .slice (some ⟨w7.heap.size, 0, none⟩) 1 1] 26)) = w8 at *
      have Zd8 := hide (Z8.out.later (Below.drew (Below.refl w8.heap.size w8)))
      have Fd8 := hide (F8.out.trans (BFr.of_below (Below.drew (Below.refl w8.heap.size w8)) B (.slice (some ⟨g7, 0, none⟩) (nm.length + 1) cap7)))
      have Rd8 : Hid (Blk w8.drew w.heap.size #[.int .i64 0, .int .i64 0, .slice none 0 0] 26) := R8.out
      have Td8 : Hid (Blk w8.drew w7.heap.size #[.int .i64 r7.t.kind, .int .i64 r7.t.idx, .slice a7 r7.t.subs.length c7] 26) := T8.out
      have Md8 : Hid (Blk w8.drew (w7.heap.size + 1) #[.int .i64 2, .int .i64 0, .slice (some ⟨w7.heap.size, 0, none⟩) 1 1] 26) := M8.out
      have Sd8 : Hid (SlM w8.drew (fun b => w6.heap.size ≤ b ∧ some b ≠ ((.slice (some ⟨g7, 0, none⟩) (nm.length + 1) cap7) : Value).ownBlock) a7 r7.t.subs) := S8.out.later (Below.drew (Below.refl w8.heap.size w8))
      have hzd8 : w8.drew.heap.size = w7.heap.size + 2 := by
        have : w8.drew.heap = w8.heap := rfl
        rw [this]; exact hz8
      refine wp_region_held_drew (S := fun w' => N ≤ w'.heap.size) (by kernel_rfl) (by exact Zd8.out.le) (fun hHeld => ?_)
      generalize w8.drew = x8 at *
      clear Z8 F8 R8 T8 M8 S8 hz8
      have W1 : Hid (IntKind.i64.wrap (((nm.length + 1 : Nat) : Int) - 1) = (nm.length : Int)) := by
        unfold Hid; rw [show (((nm.length + 1 : Nat) : Int) - 1) = (nm.length : Int) by omega]; exact wrap_is (by omega) (by omega)
      have W2 : Hid (IntKind.i64.wrap ((nm.length : Int) + 1 - 1) = (nm.length : Int)) := by
        unfold Hid; rw [show ((nm.length : Int) + 1 - 1) = (nm.length : Int) by omega]; exact wrap_is (by omega) (by omega)
      have W3 : Hid (IntKind.i64.wrap (nm.length : Int) = (nm.length : Int)) := wrap_is (by omega) (by omega)
      refine wpAnyH_take (i := 0) (v := ?_) rfl (by kernel_rfl) (by kernel_rfl) (by kernel_rfl) (fun _ _ _ h => h) (Or.inl ⟨by rfl, ?_⟩) (by assumption) ?_
      rotate_left
      · intro w' hSw
        go_simp <;> with_reducible rfl
      try simp only [Act.put, List.setIfInBounds_toArray, List.set_cons_zero, List.set_cons_succ, List.getElem_toArray, List.getElem_cons_succ, List.getElem_cons_zero]
      refine wpAnyH_take (i := 1) (v := ?_) rfl (by kernel_rfl) (by kernel_rfl) (by kernel_rfl) (fun _ _ _ h => h) (Or.inl ⟨by rfl, ?_⟩) (by assumption) ?_
      rotate_left
      · intro w' hSw
        go_simp <;> with_reducible rfl
      try simp only [Act.put, List.setIfInBounds_toArray, List.set_cons_zero, List.set_cons_succ, List.getElem_toArray, List.getElem_cons_succ, List.getElem_cons_zero]
      refine wpAnyH_take (i := 2) (v := ?_) rfl (by kernel_rfl) (by kernel_rfl) (by kernel_rfl) (fun _ _ _ h => h) (Or.inl ⟨by rfl, ?_⟩) (by assumption) ?_
      rotate_left
      · intro w' hSw
        go_simp <;> with_reducible rfl
      try simp only [Act.put, List.setIfInBounds_toArray, List.set_cons_zero, List.set_cons_succ, List.getElem_toArray, List.getElem_cons_succ, List.getElem_cons_zero]
      refine wpAnyH_take (i := 3) (v := ?_) rfl (by kernel_rfl) (by kernel_rfl) (by kernel_rfl) (fun _ _ _ h => h) (Or.inl ⟨by rfl, ?_⟩) (by assumption) ?_
      rotate_left
      · intro w' hSw
        go_simp <;> with_reducible rfl
      try simp only [Act.put, List.setIfInBounds_toArray, List.set_cons_zero, List.set_cons_succ, List.getElem_toArray, List.getElem_cons_succ, List.getElem_cons_zero]
      refine wpAnyH_take (i := 5) (v := ?_) rfl (by kernel_rfl) (by kernel_rfl) (by kernel_rfl) (fun _ _ _ h => h) (Or.inl ⟨by rfl, ?_⟩) (by assumption) ?_
      rotate_left
      · intro w' hSw
        go_simp <;> with_reducible rfl
      try simp only [Act.put, List.setIfInBounds_toArray, List.set_cons_zero, List.set_cons_succ, List.getElem_toArray, List.getElem_cons_succ, List.getElem_cons_zero]
      refine wpAnyH_take (i := 6) (v := ?_) rfl (by kernel_rfl) (by kernel_rfl) (by kernel_rfl) (fun _ _ _ h => h) (Or.inl ⟨by rfl, ?_⟩) (by assumption) ?_
      rotate_left
      · intro w' hSw
        go_simp <;> with_reducible rfl
      try simp only [Act.put, List.setIfInBounds_toArray, List.set_cons_zero, List.set_cons_succ, List.getElem_toArray, List.getElem_cons_succ, List.getElem_cons_zero]
      refine wpAnyH_take (i := 7) (v := ?_) rfl (by kernel_rfl) (by kernel_rfl) (by kernel_rfl) (fun _ _ _ h => h) (Or.inl ⟨by rfl, ?_⟩) (by assumption) ?_
      rotate_left
      · intro w' hSw
        go_simp <;> with_reducible rfl
      try simp only [Act.put, List.setIfInBounds_toArray, List.set_cons_zero, List.set_cons_succ, List.getElem_toArray, List.getElem_cons_succ, List.getElem_cons_zero]
      refine wpAnyH_ready (rs := [4, 8]) (by kernel_rfl) (by simp) ?_
      refine AllReadyH.cons rfl (fun K hK => ?_) (AllReadyH.cons rfl (fun K hK => ?_) AllReadyH.nil)
      · have b3 : x8.cell? ⟨B, 3, none⟩ = some (.slice (some ⟨g7, 0, none⟩) (nm.length + 1) cap7) := Zd8.out.bx.cell 3
        go_simp
        refine hK.out _ _ (by exact Zd8.out.le) (fun hHeld => ?_)
        clear hK K
        try simp only [Act.put, List.setIfInBounds_toArray, List.set_cons_zero, List.set_cons_succ, List.getElem_toArray, List.getElem_cons_succ, List.getElem_cons_zero]
        clear b3
        refine wpAnyH_ready (rs := [8]) (by kernel_rfl) (by simp) ?_
        refine AllReadyH.cons rfl (fun K hK => ?_) AllReadyH.nil
        have b3 : x8.cell? ⟨B, 3, none⟩ = some (.slice (some ⟨g7, 0, none⟩) (nm.length + 1) cap7) := Zd8.out.bx.cell 3
        go_simp
        refine hK.out _ _ (by exact Zd8.out.le) (fun hHeld => ?_)
        clear hK K
        try simp only [Act.put, List.setIfInBounds_toArray, List.set_cons_zero, List.set_cons_succ, List.getElem_toArray, List.getElem_cons_succ, List.getElem_cons_zero]
        clear b3
        refine wpAnyH_take (i := 9) (v := ?_) rfl (by kernel_rfl) (by kernel_rfl) (by kernel_rfl) (fun _ _ _ h => h) (Or.inl ⟨by rfl, ?_⟩) (by assumption) ?_
        rotate_left
        · intro w' hSw
          go_simp <;> with_reducible rfl
        try simp only [Act.put, List.setIfInBounds_toArray, List.set_cons_zero, List.set_cons_succ, List.getElem_toArray, List.getElem_cons_succ, List.getElem_cons_zero]
        refine wpAnyH_take (i := 10) (v := ?_) rfl (by kernel_rfl) (by kernel_rfl) (by kernel_rfl) (fun _ _ _ h => h) (Or.inl ⟨by rfl, ?_⟩) (by assumption) ?_
        rotate_left
        · intro w' hSw
          go_simp <;> with_reducible rfl
        try simp only [Act.put, List.setIfInBounds_toArray, List.set_cons_zero, List.set_cons_succ, List.getElem_toArray, List.getElem_cons_succ, List.getElem_cons_zero]
        first | rw [W1.out] | rw [W2.out] | rw [W3.out]
        refine wpAnyH_take (i := 11) (v := ?_) rfl (by kernel_rfl) (by kernel_rfl) (by kernel_rfl) (fun _ _ _ h => h) (Or.inl ⟨by rfl, ?_⟩) (by assumption) ?_
        rotate_left
        · intro w' hSw
          have hkc : (nm.length : Int) ≤ (cap7 : Int) := by omega
          go_simp <;> with_reducible rfl
        try simp only [Act.put, List.setIfInBounds_toArray, List.set_cons_zero, List.set_cons_succ, List.getElem_toArray, List.getElem_cons_succ, List.getElem_cons_zero]
        refine wpAnyH_take (i := 12) (v := ?_) rfl (by kernel_rfl) (by kernel_rfl) (by kernel_rfl) (fun _ _ _ h => h) (Or.inl ⟨by rfl, ?_⟩) (by assumption) ?_
        rotate_left
        · intro w' hSw
          go_simp <;> with_reducible rfl
        try simp only [Act.put, List.setIfInBounds_toArray, List.set_cons_zero, List.set_cons_succ, List.getElem_toArray, List.getElem_cons_succ, List.getElem_cons_zero]
        refine wpAnyH_take (i := 13) (v := ?_) rfl (by kernel_rfl) (by kernel_rfl) (by kernel_rfl) (fun _ _ _ h => h) (Or.inl ⟨by rfl, ?_⟩) (by assumption) ?_
        rotate_left
        · intro w' hSw
          go_simp <;> with_reducible rfl
        try simp only [Act.put, List.setIfInBounds_toArray, List.set_cons_zero, List.set_cons_succ, List.getElem_toArray, List.getElem_cons_succ, List.getElem_cons_zero]
        have hg7B : Hid (g7 ≠ B) := fun e => Zd8.out.ne (by rw [e]; rfl)
        have b3 : x8.cell? ⟨B, 3, none⟩ = some (.slice (some ⟨g7, 0, none⟩) (nm.length + 1) cap7) := Zd8.out.bx.cell 3
        have bf : x8.frozen? ⟨B, 3, none⟩ = false := Blk.frozen Zd8.out.bx 3
        have hB9 : Hid (Bl (.slice (some ⟨g7, 0, none⟩) nm.length cap7) (x8.setCell ⟨B, 3, none⟩ (.slice (some ⟨g7, 0, none⟩) nm.length cap7)) B s r7.pos r7.k) := Blk.set Zd8.out.bx 3 _
        have hf9 : Hid (BFr x8 (x8.setCell ⟨B, 3, none⟩ (.slice (some ⟨g7, 0, none⟩) nm.length cap7)) B (.slice (some ⟨g7, 0, none⟩) (nm.length + 1) cap7) (.slice (some ⟨g7, 0, none⟩) nm.length cap7)) := ⟨rfl, rfl, rfl, by simp [World.setCell], fun q hq h1 _ => Below.heap_setCell _ _ _ _ (by simpa using h1), fun _ h => Or.inl h⟩
        have hO9 : Hid ((x8.setCell ⟨B, 3, none⟩ (.slice (some ⟨g7, 0, none⟩) nm.length cap7)).ownsRow N 9 1 (.slice (some ⟨g7, 0, none⟩) nm.length cap7) nm.length (nm.map Value.string)) := (pop_own (n := nm.length) Zd8.out.own rfl).kept (row := some B) ⟨rfl, rfl, rfl, by simp [World.setCell], fun q hq hb => Below.heap_setCell _ _ _ _ (by simp at hb; simpa using hb)⟩ (Or.inr (by simp [Value.ownBlock]; exact hg7B.out))
        have Z9 := hide (Zd8.out.step hf9.out hB9.out hO9.out)
        have F9 := hide (Fd8.out.trans hf9.out)
        have R9 := hide (blk_bfr Rd8.out hf9.out hbox.1 ho7)
        have kx : ∀ q : Nat, q ≠ B → (x8.setCell ⟨B, 3, none⟩ (.slice (some ⟨g7, 0, none⟩) nm.length cap7)).heap[q]? = x8.heap[q]? := fun q hq => Below.heap_setCell _ _ _ _ (by simpa using hq)
        have T9 : Hid (Blk (x8.setCell ⟨B, 3, none⟩ (.slice (some ⟨g7, 0, none⟩) nm.length cap7)) w7.heap.size #[.int .i64 r7.t.kind, .int .i64 r7.t.idx, .slice a7 r7.t.subs.length c7] 26) := (kx _ (by omega)).trans Td8.out
        have M9 : Hid (Blk (x8.setCell ⟨B, 3, none⟩ (.slice (some ⟨g7, 0, none⟩) nm.length cap7)) (w7.heap.size + 1) #[.int .i64 2, .int .i64 0, .slice (some ⟨w7.heap.size, 0, none⟩) 1 1] 26) := (kx _ (by omega)).trans Md8.out
        have S9 : Hid (SlM (x8.setCell ⟨B, 3, none⟩ (.slice (some ⟨g7, 0, none⟩) nm.length cap7)) (fun b => w.heap.size < b ∧ some b ≠ ((.slice (some ⟨g7, 0, none⟩) nm.length cap7) : Value).ownBlock) a7 r7.t.subs) := (Sd8.out.kept fun q hq => kx q (by omega)).mono fun q hq _ => ⟨by omega, hq.2⟩
        refine wpAnyH_ready (rs := [14]) (by kernel_rfl) (by simp) ?_
        refine AllReadyH.cons rfl (fun K hK => ?_) AllReadyH.nil
        go_simp
        refine hK.out _ _ (by exact Z9.out.le) (fun hHeld => ?_)
        clear hK K
        try simp only [Act.put, List.setIfInBounds_toArray, List.set_cons_zero, List.set_cons_succ, List.getElem_toArray, List.getElem_cons_succ, List.getElem_cons_zero]
        generalize (x8.setCell ⟨B, 3, none⟩ (.slice (some ⟨g7, 0, none⟩) nm.length cap7)) = w9 at *
        clear b3 bf hB9 hO9 hf9 Zd8 Fd8 Rd8 Td8 Md8 Sd8 kx
        refine wpAnyH_done (by kernel_rfl) ?_ _
        have q0 := M9.out.cell 0
        have q1 := M9.out.cell 1
        have q2 := M9.out.cell 2
        have t0 := T9.out.cell 0
        have t1 := T9.out.cell 1
        have t2 := T9.out.cell 2
        have r0 := R9.out.cell 0
        have r1 := R9.out.cell 1
        have r2 := R9.out.cell 2
        have rf := R9.out.frozen
        simp only [List.getElem?_toArray, List.getElem?_cons_succ, List.getElem?_cons_zero] at q0 q1 q2 r0 r1 r2 t0 t1 t2
        have hg7 : ((.slice (some ⟨g7, 0, none⟩) nm.length cap7) : Value).ownBlock = some g7 := rfl
        have hlt7 := (Z9.out.own.lt _ hg7).2
        have HNG : Hid (some w7.heap.size ≠ ((.slice (some ⟨g7, 0, none⟩) nm.length cap7) : Value).ownBlock) := by
          unfold Hid
          intro e
          have e2 : g7 = w7.heap.size := by simpa [Value.ownBlock] using e.symm
          exact gOLD.out e2
        have SF : Hid (SlM w9 (fun b => w.heap.size < b ∧ some b ≠ ((.slice (some ⟨g7, 0, none⟩) nm.length cap7) : Value).ownBlock) (some ⟨w7.heap.size, 0, none⟩) [r7.t]) := lies_one ⟨by omega, HNG.out⟩ (by simpa using t0) (by simpa using t1) (by simpa using t2) S9.out
        clear hg7 hlt7
        go_wp2_with fail
        refine bodyPost_ret (v := .agg #[.int .i64 2, .int .i64 0, .slice (some ⟨w7.heap.size, 0, none⟩) 1 1]) (by simp [results, Tryz.results49, go_sem, World.cell?_setCell_same, World.cell?_setCell_other, r0, r1, r2]) rfl ?_
        exact lr_fin (t := ⟨2, 0, [r7.t]⟩) HR7.out Z9.out F9.out hBlt ho7 SF.out _ _ _
      · have b3 : x8.cell? ⟨B, 3, none⟩ = some (.slice (some ⟨g7, 0, none⟩) (nm.length + 1) cap7) := Zd8.out.bx.cell 3
        go_simp
        refine hK.out _ _ (by exact Zd8.out.le) (fun hHeld => ?_)
        clear hK K
        try simp only [Act.put, List.setIfInBounds_toArray, List.set_cons_zero, List.set_cons_succ, List.getElem_toArray, List.getElem_cons_succ, List.getElem_cons_zero]
        clear b3
        refine wpAnyH_take (i := 9) (v := ?_) rfl (by kernel_rfl) (by kernel_rfl) (by kernel_rfl) (fun _ _ _ h => h) (Or.inl ⟨by rfl, ?_⟩) (by assumption) ?_
        rotate_left
        · intro w' hSw
          go_simp <;> with_reducible rfl
        try simp only [Act.put, List.setIfInBounds_toArray, List.set_cons_zero, List.set_cons_succ, List.getElem_toArray, List.getElem_cons_succ, List.getElem_cons_zero]
        refine wpAnyH_take (i := 10) (v := ?_) rfl (by kernel_rfl) (by kernel_rfl) (by kernel_rfl) (fun _ _ _ h => h) (Or.inl ⟨by rfl, ?_⟩) (by assumption) ?_
        rotate_left
        · intro w' hSw
          go_simp <;> with_reducible rfl
        try simp only [Act.put, List.setIfInBounds_toArray, List.set_cons_zero, List.set_cons_succ, List.getElem_toArray, List.getElem_cons_succ, List.getElem_cons_zero]
        first | rw [W1.out] | rw [W2.out] | rw [W3.out]
        refine wpAnyH_ready (rs := [4]) (by kernel_rfl) (by simp) ?_
        refine AllReadyH.cons rfl (fun K hK => ?_) AllReadyH.nil
        have b3 : x8.cell? ⟨B, 3, none⟩ = some (.slice (some ⟨g7, 0, none⟩) (nm.length + 1) cap7) := Zd8.out.bx.cell 3
        go_simp
        refine hK.out _ _ (by exact Zd8.out.le) (fun hHeld => ?_)
        clear hK K
        try simp only [Act.put, List.setIfInBounds_toArray, List.set_cons_zero, List.set_cons_succ, List.getElem_toArray, List.getElem_cons_succ, List.getElem_cons_zero]
        clear b3
        refine wpAnyH_take (i := 11) (v := ?_) rfl (by kernel_rfl) (by kernel_rfl) (by kernel_rfl) (fun _ _ _ h => h) (Or.inl ⟨by rfl, ?_⟩) (by assumption) ?_
        rotate_left
        · intro w' hSw
          have hkc : (nm.length : Int) ≤ (cap7 : Int) := by omega
          go_simp <;> with_reducible rfl
        try simp only [Act.put, List.setIfInBounds_toArray, List.set_cons_zero, List.set_cons_succ, List.getElem_toArray, List.getElem_cons_succ, List.getElem_cons_zero]
        refine wpAnyH_take (i := 12) (v := ?_) rfl (by kernel_rfl) (by kernel_rfl) (by kernel_rfl) (fun _ _ _ h => h) (Or.inl ⟨by rfl, ?_⟩) (by assumption) ?_
        rotate_left
        · intro w' hSw
          go_simp <;> with_reducible rfl
        try simp only [Act.put, List.setIfInBounds_toArray, List.set_cons_zero, List.set_cons_succ, List.getElem_toArray, List.getElem_cons_succ, List.getElem_cons_zero]
        refine wpAnyH_take (i := 13) (v := ?_) rfl (by kernel_rfl) (by kernel_rfl) (by kernel_rfl) (fun _ _ _ h => h) (Or.inl ⟨by rfl, ?_⟩) (by assumption) ?_
        rotate_left
        · intro w' hSw
          go_simp <;> with_reducible rfl
        try simp only [Act.put, List.setIfInBounds_toArray, List.set_cons_zero, List.set_cons_succ, List.getElem_toArray, List.getElem_cons_succ, List.getElem_cons_zero]
        have hg7B : Hid (g7 ≠ B) := fun e => Zd8.out.ne (by rw [e]; rfl)
        have b3 : x8.cell? ⟨B, 3, none⟩ = some (.slice (some ⟨g7, 0, none⟩) (nm.length + 1) cap7) := Zd8.out.bx.cell 3
        have bf : x8.frozen? ⟨B, 3, none⟩ = false := Blk.frozen Zd8.out.bx 3
        have hB9 : Hid (Bl (.slice (some ⟨g7, 0, none⟩) nm.length cap7) (x8.setCell ⟨B, 3, none⟩ (.slice (some ⟨g7, 0, none⟩) nm.length cap7)) B s r7.pos r7.k) := Blk.set Zd8.out.bx 3 _
        have hf9 : Hid (BFr x8 (x8.setCell ⟨B, 3, none⟩ (.slice (some ⟨g7, 0, none⟩) nm.length cap7)) B (.slice (some ⟨g7, 0, none⟩) (nm.length + 1) cap7) (.slice (some ⟨g7, 0, none⟩) nm.length cap7)) := ⟨rfl, rfl, rfl, by simp [World.setCell], fun q hq h1 _ => Below.heap_setCell _ _ _ _ (by simpa using h1), fun _ h => Or.inl h⟩
        have hO9 : Hid ((x8.setCell ⟨B, 3, none⟩ (.slice (some ⟨g7, 0, none⟩) nm.length cap7)).ownsRow N 9 1 (.slice (some ⟨g7, 0, none⟩) nm.length cap7) nm.length (nm.map Value.string)) := (pop_own (n := nm.length) Zd8.out.own rfl).kept (row := some B) ⟨rfl, rfl, rfl, by simp [World.setCell], fun q hq hb => Below.heap_setCell _ _ _ _ (by simp at hb; simpa using hb)⟩ (Or.inr (by simp [Value.ownBlock]; exact hg7B.out))
        have Z9 := hide (Zd8.out.step hf9.out hB9.out hO9.out)
        have F9 := hide (Fd8.out.trans hf9.out)
        have R9 := hide (blk_bfr Rd8.out hf9.out hbox.1 ho7)
        have kx : ∀ q : Nat, q ≠ B → (x8.setCell ⟨B, 3, none⟩ (.slice (some ⟨g7, 0, none⟩) nm.length cap7)).heap[q]? = x8.heap[q]? := fun q hq => Below.heap_setCell _ _ _ _ (by simpa using hq)
        have T9 : Hid (Blk (x8.setCell ⟨B, 3, none⟩ (.slice (some ⟨g7, 0, none⟩) nm.length cap7)) w7.heap.size #[.int .i64 r7.t.kind, .int .i64 r7.t.idx, .slice a7 r7.t.subs.length c7] 26) := (kx _ (by omega)).trans Td8.out
        have M9 : Hid (Blk (x8.setCell ⟨B, 3, none⟩ (.slice (some ⟨g7, 0, none⟩) nm.length cap7)) (w7.heap.size + 1) #[.int .i64 2, .int .i64 0, .slice (some ⟨w7.heap.size, 0, none⟩) 1 1] 26) := (kx _ (by omega)).trans Md8.out
        have S9 : Hid (SlM (x8.setCell ⟨B, 3, none⟩ (.slice (some ⟨g7, 0, none⟩) nm.length cap7)) (fun b => w.heap.size < b ∧ some b ≠ ((.slice (some ⟨g7, 0, none⟩) nm.length cap7) : Value).ownBlock) a7 r7.t.subs) := (Sd8.out.kept fun q hq => kx q (by omega)).mono fun q hq _ => ⟨by omega, hq.2⟩
        refine wpAnyH_ready (rs := [14]) (by kernel_rfl) (by simp) ?_
        refine AllReadyH.cons rfl (fun K hK => ?_) AllReadyH.nil
        go_simp
        refine hK.out _ _ (by exact Z9.out.le) (fun hHeld => ?_)
        clear hK K
        try simp only [Act.put, List.setIfInBounds_toArray, List.set_cons_zero, List.set_cons_succ, List.getElem_toArray, List.getElem_cons_succ, List.getElem_cons_zero]
        generalize (x8.setCell ⟨B, 3, none⟩ (.slice (some ⟨g7, 0, none⟩) nm.length cap7)) = w9 at *
        clear b3 bf hB9 hO9 hf9 Zd8 Fd8 Rd8 Td8 Md8 Sd8 kx
        refine wpAnyH_done (by kernel_rfl) ?_ _
        have q0 := M9.out.cell 0
        have q1 := M9.out.cell 1
        have q2 := M9.out.cell 2
        have t0 := T9.out.cell 0
        have t1 := T9.out.cell 1
        have t2 := T9.out.cell 2
        have r0 := R9.out.cell 0
        have r1 := R9.out.cell 1
        have r2 := R9.out.cell 2
        have rf := R9.out.frozen
        simp only [List.getElem?_toArray, List.getElem?_cons_succ, List.getElem?_cons_zero] at q0 q1 q2 r0 r1 r2 t0 t1 t2
        have hg7 : ((.slice (some ⟨g7, 0, none⟩) nm.length cap7) : Value).ownBlock = some g7 := rfl
        have hlt7 := (Z9.out.own.lt _ hg7).2
        have HNG : Hid (some w7.heap.size ≠ ((.slice (some ⟨g7, 0, none⟩) nm.length cap7) : Value).ownBlock) := by
          unfold Hid
          intro e
          have e2 : g7 = w7.heap.size := by simpa [Value.ownBlock] using e.symm
          exact gOLD.out e2
        have SF : Hid (SlM w9 (fun b => w.heap.size < b ∧ some b ≠ ((.slice (some ⟨g7, 0, none⟩) nm.length cap7) : Value).ownBlock) (some ⟨w7.heap.size, 0, none⟩) [r7.t]) := lies_one ⟨by omega, HNG.out⟩ (by simpa using t0) (by simpa using t1) (by simpa using t2) S9.out
        clear hg7 hlt7
        go_wp2_with fail
        refine bodyPost_ret (v := .agg #[.int .i64 2, .int .i64 0, .slice (some ⟨w7.heap.size, 0, none⟩) 1 1]) (by simp [results, Tryz.results49, go_sem, World.cell?_setCell_same, World.cell?_setCell_other, r0, r1, r2]) rfl ?_
        exact lr_fin (t := ⟨2, 0, [r7.t]⟩) HR7.out Z9.out F9.out hBlt ho7 SF.out _ _ _
    · go_simp
      refine hK.out _ _ (by exact Z3.out.le) (fun hHeld => ?_)
      clear hK K
      try simp only [Act.put, List.setIfInBounds_toArray, List.set_cons_zero, List.set_cons_succ, List.getElem_toArray, List.getElem_cons_succ, List.getElem_cons_zero]
      generalize (w2.alloc (.cells #[.string x] 9)) = w3 at *
      have hw2 : w2.heap.size = w.heap.size + 1 := by omega
      rw [hw2] at P3
      try rw [hw2]
      refine wpAnyH_ready (rs := [4]) (by kernel_rfl) (by simp) ?_
      refine AllReadyH.cons rfl (fun K hK => ?_) AllReadyH.nil
      have b3 : w3.cell? ⟨B, 3, none⟩ = some nv := Z3.out.bx.cell 3
      go_simp
      refine hK.out _ _ (by exact Z3.out.le) (fun hHeld => ?_)
      clear hK K
      try simp only [Act.put, List.setIfInBounds_toArray, List.set_cons_zero, List.set_cons_succ, List.getElem_toArray, List.getElem_cons_succ, List.getElem_cons_zero]
      clear b3
      obtain ⟨g, cap, w4, hr4, ho4, hg4, hat4⟩ := app_oneL (P := w.heap.size + 1) (x := x) Z3.out.own Z3.out.le (by omega) (by have := P3.out.cell 0; simpa using this)
      have HR4 := hide hr4
      have HO4 := hide ho4
      have hB4 : Hid (Bl nv w4 B s j (k + 1)) := by
        unfold Hid Bl Blk
        rw [hg4.block B Z3.out.lt (fun e => Z3.out.ne e.symm)]
        exact Z3.out.bx
      have hf4 : BFr w3 w4 B nv (.slice (some ⟨g, 0, none⟩) (nm.length + 1) cap) := ⟨hg4.os, hg4.tape, hg4.output, hg4.size, fun q hq h1 h2 => hg4.block q hq h2, fun q hq => by
        simp [Value.ownBlock] at hq
        subst hq
        rcases hat4 with e | e
        · exact Or.inl e
        · right; omega⟩
      have R4 := hide (blk_bfr R3.out hf4 hbox.1 hbox.2)
      have ho4' := own_bfr hf4 R3.out.lt hbox.2
      have F4 := hide (F3.out.trans hf4)
      have HB4 := hide (Z3.out.fr hf4)
      have hz4 := hg4.size
      have hsz4 : Hid (g ≠ B) := by
        unfold Hid
        intro e
        rcases hat4 with e2 | e2
        · exact Z3.out.ne (by rw [e2, e])
        · have := Z3.out.lt; omega
      clear hr4 ho4 hg4 hat4 hf4
      have hle4 : N ≤ w4.heap.size := by have := Z3.out.le; omega
      refine wpAnyH_ready (rs := [10]) (by kernel_rfl) (by simp) ?_
      refine AllReadyH.cons rfl (fun K hK => ?_) AllReadyH.nil
      refine step_append_eqM rfl _ _ _ _ rfl rfl rfl HR4.out ?_
      refine hK.out _ _ (by exact hle4) (fun hHeld => ?_)
      clear hK K
      try simp only [Act.put, List.setIfInBounds_toArray, List.set_cons_zero, List.set_cons_succ, List.getElem_toArray, List.getElem_cons_succ, List.getElem_cons_zero]
      refine wpAnyH_take (i := 11) (v := ?_) rfl (by kernel_rfl) (by kernel_rfl) (by kernel_rfl) (fun _ _ _ h => h) (Or.inl ⟨by rfl, ?_⟩) (by assumption) ?_
      rotate_left
      · intro w' hSw
        go_simp <;> with_reducible rfl
      try simp only [Act.put, List.setIfInBounds_toArray, List.set_cons_zero, List.set_cons_succ, List.getElem_toArray, List.getElem_cons_succ, List.getElem_cons_zero]
      refine wpAnyH_take (i := 12) (v := ?_) rfl (by kernel_rfl) (by kernel_rfl) (by kernel_rfl) (fun _ _ _ h => h) (Or.inl ⟨by rfl, ?_⟩) (by assumption) ?_
      rotate_left
      · intro w' hSw
        go_simp <;> with_reducible rfl
      try simp only [Act.put, List.setIfInBounds_toArray, List.set_cons_zero, List.set_cons_succ, List.getElem_toArray, List.getElem_cons_succ, List.getElem_cons_zero]
      have b3 : w4.cell? ⟨B, 3, none⟩ = some nv := hB4.out.cell 3
      have bf : w4.frozen? ⟨B, 3, none⟩ = false := Blk.frozen hB4.out 3
      have hB5 : Hid (Bl (.slice (some ⟨g, 0, none⟩) (nm.length + 1) cap) (w4.setCell ⟨B, 3, none⟩ (.slice (some ⟨g, 0, none⟩) (nm.length + 1) cap)) B s j (k + 1)) := Blk.set hB4.out 3 _
      have hO5 : Hid ((w4.setCell ⟨B, 3, none⟩ (.slice (some ⟨g, 0, none⟩) (nm.length + 1) cap)).ownsRow N 9 1 (.slice (some ⟨g, 0, none⟩) (nm.length + 1) cap) (nm ++ [x]).length ((nm ++ [x]).map Value.string)) := HO4.out.kept (row := some B) ⟨rfl, rfl, rfl, by simp [World.setCell], fun q hq hb => Below.heap_setCell _ _ _ _ (by simp at hb; simpa using hb)⟩ (Or.inr (by simp [Value.ownBlock]; exact hsz4.out))
      have hf5 : Hid (BFr w4 (w4.setCell ⟨B, 3, none⟩ (.slice (some ⟨g, 0, none⟩) (nm.length + 1) cap)) B (.slice (some ⟨g, 0, none⟩) (nm.length + 1) cap) (.slice (some ⟨g, 0, none⟩) (nm.length + 1) cap)) := ⟨rfl, rfl, rfl, by simp [World.setCell], fun q hq h1 _ => Below.heap_setCell _ _ _ _ (by simpa using h1), fun _ h => Or.inl h⟩
      have R5 := hide (blk_bfr R4.out hf5.out hbox.1 ho4')
      have F5 := hide (F4.out.trans hf5.out)
      have Z5 : Hid (Rst N B s (nm ++ [x]) j (k + 1) (.slice (some ⟨g, 0, none⟩) (nm.length + 1) cap) (w4.setCell ⟨B, 3, none⟩ (.slice (some ⟨g, 0, none⟩) (nm.length + 1) cap))) := by
        have hb5 : Below N w4 (w4.setCell ⟨B, 3, none⟩ (.slice (some ⟨g, 0, none⟩) (nm.length + 1) cap)) := (Below.refl _ _).setCell (by have := Z3.out.nb; simpa using this) _
        exact ⟨hB5.out, hO5.out, Z3.out.nb, by simp [World.setCell]; omega, (Z3.out.tb.on HB4.out).on hb5, (Z3.out.ts.on HB4.out).on hb5⟩
      have hz5 : w4.heap.size ≤ (w4.setCell ⟨B, 3, none⟩ (.slice (some ⟨g, 0, none⟩) (nm.length + 1) cap)).heap.size := by simp [World.setCell]
      refine wpAnyH_ready (rs := [13]) (by kernel_rfl) (by simp) ?_
      refine AllReadyH.cons rfl (fun K hK => ?_) AllReadyH.nil
      go_simp
      refine hK.out _ _ (by exact Z5.out.le) (fun hHeld => ?_)
      clear hK K
      try simp only [Act.put, List.setIfInBounds_toArray, List.set_cons_zero, List.set_cons_succ, List.getElem_toArray, List.getElem_cons_succ, List.getElem_cons_zero]
      generalize (w4.setCell ⟨B, 3, none⟩ (.slice (some ⟨g, 0, none⟩) (nm.length + 1) cap)) = w5 at *
      clear b3 bf hB5 hO5 hf5 R4 F4 Z3 F3 R3 P3 HO4 HR4 hB4 HB4
      refine wpAnyH_done (by kernel_rfl) ?_ _
      go_wp2_with fail
      refine (rdAsk_anyL (nv := (.slice (some ⟨g, 0, none⟩) (nm.length + 1) cap)) B j (k + 1) s 46 hjs hs _ (by exact Z5.out.bx)).mono ?_
      intro e w6 hp
      unfold RdAskPostL at hp
      by_cases h6 : j < s.size ∧ byteAt s j = 46
      case neg =>
        rw [if_neg h6] at hp
        obtain ⟨he, n6, rfl⟩ := hp
        have HAE : Hid (askE s j 46 = if j = s.size then 13 else 12) := by unfold Hid askE; rw [if_neg h6]
        have HNZ : Hid ((if j = s.size then (13 : Int) else 12) ≠ 0) := by unfold Hid; split <;> omega
        unfold thrownL at he
        subst he
        exact ⟨rfl, lrP_no (by rw [HR3.out, if_pos (by rw [HAE.out]; exact HNZ.out), HAE.out]) HNZ.out (F5.out.trans (BFr.of_below (below_drewN (Below.refl _ _) n6) B (.slice (some ⟨g, 0, none⟩) (nm.length + 1) cap)))⟩
      rw [if_pos h6] at hp
      obtain ⟨⟨v6, rfl⟩, hx6, he6, hz6⟩ := hp
      have HAE : Hid (askE s j 46 = 0) := by unfold Hid askE; rw [if_pos h6]
      have HR6 := hide (show r = _ from (HR3.out).trans (if_neg (by rw [HAE.out]; simp)))
      have Z6 := hide (Z5.out.ex he6 hx6)
      have F6 := hide (F5.out.trans (he6.bfrL (.slice (some ⟨g, 0, none⟩) (nm.length + 1) cap)))
      have R6 := hide (blk_bfr R5.out (he6.bfrL (.slice (some ⟨g, 0, none⟩) (nm.length + 1) cap)) hbox.1 ho4')
      have hwz6 : w.heap.size + 2 ≤ w6.heap.size := by omega
      clear hx6 he6 hz6 HR3 Z5 F5 R5 HAE
      go_wp2_with fail
      refine (HT.out (nm ++ [x]) (.slice (some ⟨g, 0, none⟩) (nm.length + 1) cap) (j + 1) (k + 1) w6 Z6.out (by simp; omega) (by omega) (by omega) (by omega)).mono ?_
      intro e w7 hp
      generalize lrd s F .term (nm ++ [x]) (j + 1) (k + 1) = r7 at *
      rcases hp with ⟨hr0, nv7, a7, c7, rfl, hs7, hst7, hf7⟩ | ⟨hr0, rfl, nv7, hf7⟩
      case inr => exact ⟨rfl, lrP_no (by rw [HR6.out, if_pos hr0]) hr0 (F6.out.trans hf7)⟩
      obtain ⟨g7, cap7, rfl, hgc7⟩ : ∃ g7 cap7, nv7 = (.slice (some ⟨g7, 0, none⟩) (nm.length + 1) cap7) ∧ nm.length + 1 ≤ cap7 := by
        have h := hst7.own.2
        simp only [List.length_append, List.length_cons, List.length_nil, Nat.zero_add] at h
        rcases h with ⟨_, h⟩ | ⟨g7, cap7, cur, h, _, _, hnc, _⟩
        · omega
        · exact ⟨g7, cap7, h, hnc⟩
      have HR7 : Hid (r = ⟨0, ⟨2, 0, [r7.t]⟩, r7.pos, r7.k⟩) := by unfold Hid; rw [HR6.out, if_neg (by rw [hr0]; simp)]
      have F7 := hide (F6.out.trans hf7)
      have R7 := hide (blk_bfr R6.out hf7 hbox.1 ho4')
      have ho7 := own_bfr hf7 R6.out.lt ho4'
      have hz7 : w6.heap.size ≤ w7.heap.size := hf7.2.2.2.1
      have Z7 := hide hst7
      have gOLD : Hid (g7 ≠ w7.heap.size) := fun e => by have := (hst7.own.lt g7 rfl).2; omega
      have S7 := hide hs7
      clear hs7 hst7 hf7 hr0 HR6 Z6 F6 R6
      have B8 : Hid (Below w7.heap.size w7 ((w7.alloc (.cells #[.int .i64 r7.t.kind, .int .i64 r7.t.idx, .slice a7 r7.t.subs.length c7] 26)).alloc (.cells #[.int .i64 2, .int .i64 0, .slice (some ⟨w7.heap.size, 0, none⟩) 1 1] 26))) := ((Below.refl _ _).alloc (Nat.le_refl _) _).alloc (by simp) _
      have T8 := hide ((Blk.new w7 #[.int .i64 r7.t.kind, .int .i64 r7.t.idx, .slice a7 r7.t.subs.length c7] 26).alloc (.cells #[.int .i64 2, .int .i64 0, .slice (some ⟨w7.heap.size, 0, none⟩) 1 1] 26))
      have M8 : Hid (Blk ((w7.alloc (.cells #[.int .i64 r7.t.kind, .int .i64 r7.t.idx, .slice a7 r7.t.subs.length c7] 26)).alloc (.cells #[.int .i64 2, .int .i64 0, .slice (some ⟨w7.heap.size, 0, none⟩) 1 1] 26)) (w7.heap.size + 1) #[.int .i64 2, .int .i64 0, .slice (some ⟨w7.heap.size, 0, none⟩) 1 1] 26) := by
        have h := Blk.new (w7.alloc (.cells #[.int .i64 r7.t.kind, .int .i64 r7.t.idx, .slice a7 r7.t.subs.length c7] 26)) #[.int .i64 2, .int .i64 0, .slice (some ⟨w7.heap.size, 0, none⟩) 1 1] 26
        have hz : (w7.alloc (.cells #[.int .i64 r7.t.kind, .int .i64 r7.t.idx, .slice a7 r7.t.subs.length c7] 26)).heap.size = w7.heap.size + 1 := by simp
        rw [hz] at h
        exact h
      have hz8 : ((w7.alloc (.cells #[.int .i64 r7.t.kind, .int .i64 r7.t.idx, .slice a7 r7.t.subs.length c7] 26)).alloc (.cells #[.int .i64 2, .int .i64 0, .slice (some ⟨w7.heap.size, 0, none⟩) 1 1] 26)).heap.size = w7.heap.size + 2 := by simp
      have Z8 := hide (Z7.out.later B8.out)
      have F8 := hide (F7.out.trans (BFr.of_below B8.out B (.slice (some ⟨g7, 0, none⟩) (nm.length + 1) cap7)))
      have R8 := hide (R7.out.below B8.out R7.out.lt)
      have S8 := hide (S7.out.later B8.out)
      clear Z7 F7 R7 S7 B8
      go_wp2_with fail
      generalize ((w7.alloc (.cells #[.int .i64 r7.t.kind, .int .i64 r7.t.idx, .slice a7 r7.t.subs.length c7] 26)).alloc (.cells #[.int .i64 2, .int .i64 0, .slice (some ⟨w7.heap.size, 0, none⟩) 1 1] 26)) = w8 at *
      have Zd8 := hide (Z8.out.later (Below.drew (Below.refl w8.heap.size w8)))
      have Fd8 := hide (F8.out.trans (BFr.of_below (Below.drew (Below.refl w8.heap.size w8)) B (.slice (some ⟨g7, 0, none⟩) (nm.length + 1) cap7)))
      have Rd8 : Hid (Blk w8.drew w.heap.size #[.int .i64 0, .int .i64 0, .slice none 0 0] 26) := R8.out
      have Td8 : Hid (Blk w8.drew w7.heap.size #[.int .i64 r7.t.kind, .int .i64 r7.t.idx, .slice a7 r7.t.subs.length c7] 26) := T8.out
      have Md8 : Hid (Blk w8.drew (w7.heap.size + 1) #[.int .i64 2, .int .i64 0, .slice (some ⟨w7.heap.size, 0, none⟩) 1 1] 26) := M8.out
      have Sd8 : Hid (SlM w8.drew (fun b => w6.heap.size ≤ b ∧ some b ≠ ((.slice (some ⟨g7, 0, none⟩) (nm.length + 1) cap7) : Value).ownBlock) a7 r7.t.subs) := S8.out.later (Below.drew (Below.refl w8.heap.size w8))
      have hzd8 : w8.drew.heap.size = w7.heap.size + 2 := by
        have : w8.drew.heap = w8.heap := rfl
        rw [this]; exact hz8
      refine wp_region_held_drew (S := fun w' => N ≤ w'.heap.size) (by kernel_rfl) (by exact Zd8.out.le) (fun hHeld => ?_)
      generalize w8.drew = x8 at *
      clear Z8 F8 R8 T8 M8 S8 hz8
      have W1 : Hid (IntKind.i64.wrap (((nm.length + 1 : Nat) : Int) - 1) = (nm.length : Int)) := by
        unfold Hid; rw [show (((nm.length + 1 : Nat) : Int) - 1) = (nm.length : Int) by omega]; exact wrap_is (by omega) (by omega)
      have W2 : Hid (IntKind.i64.wrap ((nm.length : Int) + 1 - 1) = (nm.length : Int)) := by
        unfold Hid; rw [show ((nm.length : Int) + 1 - 1) = (nm.length : Int) by omega]; exact wrap_is (by omega) (by omega)
      have W3 : Hid (IntKind.i64.wrap (nm.length : Int) = (nm.length : Int)) := wrap_is (by omega) (by omega)
      refine wpAnyH_take (i := 0) (v := ?_) rfl (by kernel_rfl) (by kernel_rfl) (by kernel_rfl) (fun _ _ _ h => h) (Or.inl ⟨by rfl, ?_⟩) (by assumption) ?_
      rotate_left
      · intro w' hSw
        go_simp <;> with_reducible rfl
      try simp only [Act.put, List.setIfInBounds_toArray, List.set_cons_zero, List.set_cons_succ, List.getElem_toArray, List.getElem_cons_succ, List.getElem_cons_zero]
      refine wpAnyH_take (i := 1) (v := ?_) rfl (by kernel_rfl) (by kernel_rfl) (by kernel_rfl) (fun _ _ _ h => h) (Or.inl ⟨by rfl, ?_⟩) (by assumption) ?_
      rotate_left
      · intro w' hSw
        go_simp <;> with_reducible rfl
      try simp only [Act.put, List.setIfInBounds_toArray, List.set_cons_zero, List.set_cons_succ, List.getElem_toArray, List.getElem_cons_succ, List.getElem_cons_zero]
      refine wpAnyH_take (i := 2) (v := ?_) rfl (by kernel_rfl) (by kernel_rfl) (by kernel_rfl) (fun _ _ _ h => h) (Or.inl ⟨by rfl, ?_⟩) (by assumption) ?_
      rotate_left
      · intro w' hSw
        go_simp <;> with_reducible rfl
      try simp only [Act.put, List.setIfInBounds_toArray, List.set_cons_zero, List.set_cons_succ, List.getElem_toArray, List.getElem_cons_succ, List.getElem_cons_zero]
      refine wpAnyH_take (i := 3) (v := ?_) rfl (by kernel_rfl) (by kernel_rfl) (by kernel_rfl) (fun _ _ _ h => h) (Or.inl ⟨by rfl, ?_⟩) (by assumption) ?_
      rotate_left
      · intro w' hSw
        go_simp <;> with_reducible rfl
      try simp only [Act.put, List.setIfInBounds_toArray, List.set_cons_zero, List.set_cons_succ, List.getElem_toArray, List.getElem_cons_succ, List.getElem_cons_zero]
      refine wpAnyH_take (i := 5) (v := ?_) rfl (by kernel_rfl) (by kernel_rfl) (by kernel_rfl) (fun _ _ _ h => h) (Or.inl ⟨by rfl, ?_⟩) (by assumption) ?_
      rotate_left
      · intro w' hSw
        go_simp <;> with_reducible rfl
      try simp only [Act.put, List.setIfInBounds_toArray, List.set_cons_zero, List.set_cons_succ, List.getElem_toArray, List.getElem_cons_succ, List.getElem_cons_zero]
      refine wpAnyH_take (i := 6) (v := ?_) rfl (by kernel_rfl) (by kernel_rfl) (by kernel_rfl) (fun _ _ _ h => h) (Or.inl ⟨by rfl, ?_⟩) (by assumption) ?_
      rotate_left
      · intro w' hSw
        go_simp <;> with_reducible rfl
      try simp only [Act.put, List.setIfInBounds_toArray, List.set_cons_zero, List.set_cons_succ, List.getElem_toArray, List.getElem_cons_succ, List.getElem_cons_zero]
      refine wpAnyH_take (i := 7) (v := ?_) rfl (by kernel_rfl) (by kernel_rfl) (by kernel_rfl) (fun _ _ _ h => h) (Or.inl ⟨by rfl, ?_⟩) (by assumption) ?_
      rotate_left
      · intro w' hSw
        go_simp <;> with_reducible rfl
      try simp only [Act.put, List.setIfInBounds_toArray, List.set_cons_zero, List.set_cons_succ, List.getElem_toArray, List.getElem_cons_succ, List.getElem_cons_zero]
      refine wpAnyH_ready (rs := [4, 8]) (by kernel_rfl) (by simp) ?_
      refine AllReadyH.cons rfl (fun K hK => ?_) (AllReadyH.cons rfl (fun K hK => ?_) AllReadyH.nil)
      · have b3 : x8.cell? ⟨B, 3, none⟩ = some (.slice (some ⟨g7, 0, none⟩) (nm.length + 1) cap7) := Zd8.out.bx.cell 3
        go_simp
        refine hK.out _ _ (by exact Zd8.out.le) (fun hHeld => ?_)
        clear hK K
        try simp only [Act.put, List.setIfInBounds_toArray, List.set_cons_zero, List.set_cons_succ, List.getElem_toArray, List.getElem_cons_succ, List.getElem_cons_zero]
        clear b3
        refine wpAnyH_ready (rs := [8]) (by kernel_rfl) (by simp) ?_
        refine AllReadyH.cons rfl (fun K hK => ?_) AllReadyH.nil
        have b3 : x8.cell? ⟨B, 3, none⟩ = some (.slice (some ⟨g7, 0, none⟩) (nm.length + 1) cap7) := Zd8.out.bx.cell 3
        go_simp
        refine hK.out _ _ (by exact Zd8.out.le) (fun hHeld => ?_)
        clear hK K
        try simp only [Act.put, List.setIfInBounds_toArray, List.set_cons_zero, List.set_cons_succ, List.getElem_toArray, List.getElem_cons_succ, List.getElem_cons_zero]
        clear b3
        refine wpAnyH_take (i := 9) (v := ?_) rfl (by kernel_rfl) (by kernel_rfl) (by kernel_rfl) (fun _ _ _ h => h) (Or.inl ⟨by rfl, ?_⟩) (by assumption) ?_
        rotate_left
        · intro w' hSw
          go_simp <;> with_reducible rfl
        try simp only [Act.put, List.setIfInBounds_toArray, List.set_cons_zero, List.set_cons_succ, List.getElem_toArray, List.getElem_cons_succ, List.getElem_cons_zero]
        refine wpAnyH_take (i := 10) (v := ?_) rfl (by kernel_rfl) (by kernel_rfl) (by kernel_rfl) (fun _ _ _ h => h) (Or.inl ⟨by rfl, ?_⟩) (by assumption) ?_
        rotate_left
        · intro w' hSw
          go_simp <;> with_reducible rfl
        try simp only [Act.put, List.setIfInBounds_toArray, List.set_cons_zero, List.set_cons_succ, List.getElem_toArray, List.getElem_cons_succ, List.getElem_cons_zero]
        first | rw [W1.out] | rw [W2.out] | rw [W3.out]
        refine wpAnyH_take (i := 11) (v := ?_) rfl (by kernel_rfl) (by kernel_rfl) (by kernel_rfl) (fun _ _ _ h => h) (Or.inl ⟨by rfl, ?_⟩) (by assumption) ?_
        rotate_left
        · intro w' hSw
          have hkc : (nm.length : Int) ≤ (cap7 : Int) := by omega
          go_simp <;> with_reducible rfl
        try simp only [Act.put, List.setIfInBounds_toArray, List.set_cons_zero, List.set_cons_succ, List.getElem_toArray, List.getElem_cons_succ, List.getElem_cons_zero]
        refine wpAnyH_take (i := 12) (v := ?_) rfl (by kernel_rfl) (by kernel_rfl) (by kernel_rfl) (fun _ _ _ h => h) (Or.inl ⟨by rfl, ?_⟩) (by assumption) ?_
        rotate_left
        · intro w' hSw
          go_simp <;> with_reducible rfl
        try simp only [Act.put, List.setIfInBounds_toArray, List.set_cons_zero, List.set_cons_succ, List.getElem_toArray, List.getElem_cons_succ, List.getElem_cons_zero]
        refine wpAnyH_take (i := 13) (v := ?_) rfl (by kernel_rfl) (by kernel_rfl) (by kernel_rfl) (fun _ _ _ h => h) (Or.inl ⟨by rfl, ?_⟩) (by assumption) ?_
        rotate_left
        · intro w' hSw
          go_simp <;> with_reducible rfl
        try simp only [Act.put, List.setIfInBounds_toArray, List.set_cons_zero, List.set_cons_succ, List.getElem_toArray, List.getElem_cons_succ, List.getElem_cons_zero]
        have hg7B : Hid (g7 ≠ B) := fun e => Zd8.out.ne (by rw [e]; rfl)
        have b3 : x8.cell? ⟨B, 3, none⟩ = some (.slice (some ⟨g7, 0, none⟩) (nm.length + 1) cap7) := Zd8.out.bx.cell 3
        have bf : x8.frozen? ⟨B, 3, none⟩ = false := Blk.frozen Zd8.out.bx 3
        have hB9 : Hid (Bl (.slice (some ⟨g7, 0, none⟩) nm.length cap7) (x8.setCell ⟨B, 3, none⟩ (.slice (some ⟨g7, 0, none⟩) nm.length cap7)) B s r7.pos r7.k) := Blk.set Zd8.out.bx 3 _
        have hf9 : Hid (BFr x8 (x8.setCell ⟨B, 3, none⟩ (.slice (some ⟨g7, 0, none⟩) nm.length cap7)) B (.slice (some ⟨g7, 0, none⟩) (nm.length + 1) cap7) (.slice (some ⟨g7, 0, none⟩) nm.length cap7)) := ⟨rfl, rfl, rfl, by simp [World.setCell], fun q hq h1 _ => Below.heap_setCell _ _ _ _ (by simpa using h1), fun _ h => Or.inl h⟩
        have hO9 : Hid ((x8.setCell ⟨B, 3, none⟩ (.slice (some ⟨g7, 0, none⟩) nm.length cap7)).ownsRow N 9 1 (.slice (some ⟨g7, 0, none⟩) nm.length cap7) nm.length (nm.map Value.string)) := (pop_own (n := nm.length) Zd8.out.own rfl).kept (row := some B) ⟨rfl, rfl, rfl, by simp [World.setCell], fun q hq hb => Below.heap_setCell _ _ _ _ (by simp at hb; simpa using hb)⟩ (Or.inr (by simp [Value.ownBlock]; exact hg7B.out))
        have Z9 := hide (Zd8.out.step hf9.out hB9.out hO9.out)
        have F9 := hide (Fd8.out.trans hf9.out)
        have R9 := hide (blk_bfr Rd8.out hf9.out hbox.1 ho7)
        have kx : ∀ q : Nat, q ≠ B → (x8.setCell ⟨B, 3, none⟩ (.slice (some ⟨g7, 0, none⟩) nm.length cap7)).heap[q]? = x8.heap[q]? := fun q hq => Below.heap_setCell _ _ _ _ (by simpa using hq)
        have T9 : Hid (Blk (x8.setCell ⟨B, 3, none⟩ (.slice (some ⟨g7, 0, none⟩) nm.length cap7)) w7.heap.size #[.int .i64 r7.t.kind, .int .i64 r7.t.idx, .slice a7 r7.t.subs.length c7] 26) := (kx _ (by omega)).trans Td8.out
        have M9 : Hid (Blk (x8.setCell ⟨B, 3, none⟩ (.slice (some ⟨g7, 0, none⟩) nm.length cap7)) (w7.heap.size + 1) #[.int .i64 2, .int .i64 0, .slice (some ⟨w7.heap.size, 0, none⟩) 1 1] 26) := (kx _ (by omega)).trans Md8.out
        have S9 : Hid (SlM (x8.setCell ⟨B, 3, none⟩ (.slice (some ⟨g7, 0, none⟩) nm.length cap7)) (fun b => w.heap.size < b ∧ some b ≠ ((.slice (some ⟨g7, 0, none⟩) nm.length cap7) : Value).ownBlock) a7 r7.t.subs) := (Sd8.out.kept fun q hq => kx q (by omega)).mono fun q hq _ => ⟨by omega, hq.2⟩
        refine wpAnyH_ready (rs := [14]) (by kernel_rfl) (by simp) ?_
        refine AllReadyH.cons rfl (fun K hK => ?_) AllReadyH.nil
        go_simp
        refine hK.out _ _ (by exact Z9.out.le) (fun hHeld => ?_)
        clear hK K
        try simp only [Act.put, List.setIfInBounds_toArray, List.set_cons_zero, List.set_cons_succ, List.getElem_toArray, List.getElem_cons_succ, List.getElem_cons_zero]
        generalize (x8.setCell ⟨B, 3, none⟩ (.slice (some ⟨g7, 0, none⟩) nm.length cap7)) = w9 at *
        clear b3 bf hB9 hO9 hf9 Zd8 Fd8 Rd8 Td8 Md8 Sd8 kx
        refine wpAnyH_done (by kernel_rfl) ?_ _
        have q0 := M9.out.cell 0
        have q1 := M9.out.cell 1
        have q2 := M9.out.cell 2
        have t0 := T9.out.cell 0
        have t1 := T9.out.cell 1
        have t2 := T9.out.cell 2
        have r0 := R9.out.cell 0
        have r1 := R9.out.cell 1
        have r2 := R9.out.cell 2
        have rf := R9.out.frozen
        simp only [List.getElem?_toArray, List.getElem?_cons_succ, List.getElem?_cons_zero] at q0 q1 q2 r0 r1 r2 t0 t1 t2
        have hg7 : ((.slice (some ⟨g7, 0, none⟩) nm.length cap7) : Value).ownBlock = some g7 := rfl
        have hlt7 := (Z9.out.own.lt _ hg7).2
        have HNG : Hid (some w7.heap.size ≠ ((.slice (some ⟨g7, 0, none⟩) nm.length cap7) : Value).ownBlock) := by
          unfold Hid
          intro e
          have e2 : g7 = w7.heap.size := by simpa [Value.ownBlock] using e.symm
          exact gOLD.out e2
        have SF : Hid (SlM w9 (fun b => w.heap.size < b ∧ some b ≠ ((.slice (some ⟨g7, 0, none⟩) nm.length cap7) : Value).ownBlock) (some ⟨w7.heap.size, 0, none⟩) [r7.t]) := lies_one ⟨by omega, HNG.out⟩ (by simpa using t0) (by simpa using t1) (by simpa using t2) S9.out
        clear hg7 hlt7
        go_wp2_with fail
        refine bodyPost_ret (v := .agg #[.int .i64 2, .int .i64 0, .slice (some ⟨w7.heap.size, 0, none⟩) 1 1]) (by simp [results, Tryz.results49, go_sem, World.cell?_setCell_same, World.cell?_setCell_other, r0, r1, r2]) rfl ?_
        exact lr_fin (t := ⟨2, 0, [r7.t]⟩) HR7.out Z9.out F9.out hBlt ho7 SF.out _ _ _
      · have b3 : x8.cell? ⟨B, 3, none⟩ = some (.slice (some ⟨g7, 0, none⟩) (nm.length + 1) cap7) := Zd8.out.bx.cell 3
        go_simp
        refine hK.out _ _ (by exact Zd8.out.le) (fun hHeld => ?_)
        clear hK K
        try simp only [Act.put, List.setIfInBounds_toArray, List.set_cons_zero, List.set_cons_succ, List.getElem_toArray, List.getElem_cons_succ, List.getElem_cons_zero]
        clear b3
        refine wpAnyH_take (i := 9) (v := ?_) rfl (by kernel_rfl) (by kernel_rfl) (by kernel_rfl) (fun _ _ _ h => h) (Or.inl ⟨by rfl, ?_⟩) (by assumption) ?_
        rotate_left
        · intro w' hSw
          go_simp <;> with_reducible rfl
        try simp only [Act.put, List.setIfInBounds_toArray, List.set_cons_zero, List.set_cons_succ, List.getElem_toArray, List.getElem_cons_succ, List.getElem_cons_zero]
        refine wpAnyH_take (i := 10) (v := ?_) rfl (by kernel_rfl) (by kernel_rfl) (by kernel_rfl) (fun _ _ _ h => h) (Or.inl ⟨by rfl, ?_⟩) (by assumption) ?_
        rotate_left
        · intro w' hSw
          go_simp <;> with_reducible rfl
        try simp only [Act.put, List.setIfInBounds_toArray, List.set_cons_zero, List.set_cons_succ, List.getElem_toArray, List.getElem_cons_succ, List.getElem_cons_zero]
        first | rw [W1.out] | rw [W2.out] | rw [W3.out]
        refine wpAnyH_ready (rs := [4]) (by kernel_rfl) (by simp) ?_
        refine AllReadyH.cons rfl (fun K hK => ?_) AllReadyH.nil
        have b3 : x8.cell? ⟨B, 3, none⟩ = some (.slice (some ⟨g7, 0, none⟩) (nm.length + 1) cap7) := Zd8.out.bx.cell 3
        go_simp
        refine hK.out _ _ (by exact Zd8.out.le) (fun hHeld => ?_)
        clear hK K
        try simp only [Act.put, List.setIfInBounds_toArray, List.set_cons_zero, List.set_cons_succ, List.getElem_toArray, List.getElem_cons_succ, List.getElem_cons_zero]
        clear b3
        refine wpAnyH_take (i := 11) (v := ?_) rfl (by kernel_rfl) (by kernel_rfl) (by kernel_rfl) (fun _ _ _ h => h) (Or.inl ⟨by rfl, ?_⟩) (by assumption) ?_
        rotate_left
        · intro w' hSw
          have hkc : (nm.length : Int) ≤ (cap7 : Int) := by omega
          go_simp <;> with_reducible rfl
        try simp only [Act.put, List.setIfInBounds_toArray, List.set_cons_zero, List.set_cons_succ, List.getElem_toArray, List.getElem_cons_succ, List.getElem_cons_zero]
        refine wpAnyH_take (i := 12) (v := ?_) rfl (by kernel_rfl) (by kernel_rfl) (by kernel_rfl) (fun _ _ _ h => h) (Or.inl ⟨by rfl, ?_⟩) (by assumption) ?_
        rotate_left
        · intro w' hSw
          go_simp <;> with_reducible rfl
        try simp only [Act.put, List.setIfInBounds_toArray, List.set_cons_zero, List.set_cons_succ, List.getElem_toArray, List.getElem_cons_succ, List.getElem_cons_zero]
        refine wpAnyH_take (i := 13) (v := ?_) rfl (by kernel_rfl) (by kernel_rfl) (by kernel_rfl) (fun _ _ _ h => h) (Or.inl ⟨by rfl, ?_⟩) (by assumption) ?_
        rotate_left
        · intro w' hSw
          go_simp <;> with_reducible rfl
        try simp only [Act.put, List.setIfInBounds_toArray, List.set_cons_zero, List.set_cons_succ, List.getElem_toArray, List.getElem_cons_succ, List.getElem_cons_zero]
        have hg7B : Hid (g7 ≠ B) := fun e => Zd8.out.ne (by rw [e]; rfl)
        have b3 : x8.cell? ⟨B, 3, none⟩ = some (.slice (some ⟨g7, 0, none⟩) (nm.length + 1) cap7) := Zd8.out.bx.cell 3
        have bf : x8.frozen? ⟨B, 3, none⟩ = false := Blk.frozen Zd8.out.bx 3
        have hB9 : Hid (Bl (.slice (some ⟨g7, 0, none⟩) nm.length cap7) (x8.setCell ⟨B, 3, none⟩ (.slice (some ⟨g7, 0, none⟩) nm.length cap7)) B s r7.pos r7.k) := Blk.set Zd8.out.bx 3 _
        have hf9 : Hid (BFr x8 (x8.setCell ⟨B, 3, none⟩ (.slice (some ⟨g7, 0, none⟩) nm.length cap7)) B (.slice (some ⟨g7, 0, none⟩) (nm.length + 1) cap7) (.slice (some ⟨g7, 0, none⟩) nm.length cap7)) := ⟨rfl, rfl, rfl, by simp [World.setCell], fun q hq h1 _ => Below.heap_setCell _ _ _ _ (by simpa using h1), fun _ h => Or.inl h⟩
        have hO9 : Hid ((x8.setCell ⟨B, 3, none⟩ (.slice (some ⟨g7, 0, none⟩) nm.length cap7)).ownsRow N 9 1 (.slice (some ⟨g7, 0, none⟩) nm.length cap7) nm.length (nm.map Value.string)) := (pop_own (n := nm.length) Zd8.out.own rfl).kept (row := some B) ⟨rfl, rfl, rfl, by simp [World.setCell], fun q hq hb => Below.heap_setCell _ _ _ _ (by simp at hb; simpa using hb)⟩ (Or.inr (by simp [Value.ownBlock]; exact hg7B.out))
        have Z9 := hide (Zd8.out.step hf9.out hB9.out hO9.out)
        have F9 := hide (Fd8.out.trans hf9.out)
        have R9 := hide (blk_bfr Rd8.out hf9.out hbox.1 ho7)
        have kx : ∀ q : Nat, q ≠ B → (x8.setCell ⟨B, 3, none⟩ (.slice (some ⟨g7, 0, none⟩) nm.length cap7)).heap[q]? = x8.heap[q]? := fun q hq => Below.heap_setCell _ _ _ _ (by simpa using hq)
        have T9 : Hid (Blk (x8.setCell ⟨B, 3, none⟩ (.slice (some ⟨g7, 0, none⟩) nm.length cap7)) w7.heap.size #[.int .i64 r7.t.kind, .int .i64 r7.t.idx, .slice a7 r7.t.subs.length c7] 26) := (kx _ (by omega)).trans Td8.out
        have M9 : Hid (Blk (x8.setCell ⟨B, 3, none⟩ (.slice (some ⟨g7, 0, none⟩) nm.length cap7)) (w7.heap.size + 1) #[.int .i64 2, .int .i64 0, .slice (some ⟨w7.heap.size, 0, none⟩) 1 1] 26) := (kx _ (by omega)).trans Md8.out
        have S9 : Hid (SlM (x8.setCell ⟨B, 3, none⟩ (.slice (some ⟨g7, 0, none⟩) nm.length cap7)) (fun b => w.heap.size < b ∧ some b ≠ ((.slice (some ⟨g7, 0, none⟩) nm.length cap7) : Value).ownBlock) a7 r7.t.subs) := (Sd8.out.kept fun q hq => kx q (by omega)).mono fun q hq _ => ⟨by omega, hq.2⟩
        refine wpAnyH_ready (rs := [14]) (by kernel_rfl) (by simp) ?_
        refine AllReadyH.cons rfl (fun K hK => ?_) AllReadyH.nil
        go_simp
        refine hK.out _ _ (by exact Z9.out.le) (fun hHeld => ?_)
        clear hK K
        try simp only [Act.put, List.setIfInBounds_toArray, List.set_cons_zero, List.set_cons_succ, List.getElem_toArray, List.getElem_cons_succ, List.getElem_cons_zero]
        generalize (x8.setCell ⟨B, 3, none⟩ (.slice (some ⟨g7, 0, none⟩) nm.length cap7)) = w9 at *
        clear b3 bf hB9 hO9 hf9 Zd8 Fd8 Rd8 Td8 Md8 Sd8 kx
        refine wpAnyH_done (by kernel_rfl) ?_ _
        have q0 := M9.out.cell 0
        have q1 := M9.out.cell 1
        have q2 := M9.out.cell 2
        have t0 := T9.out.cell 0
        have t1 := T9.out.cell 1
        have t2 := T9.out.cell 2
        have r0 := R9.out.cell 0
        have r1 := R9.out.cell 1
        have r2 := R9.out.cell 2
        have rf := R9.out.frozen
        simp only [List.getElem?_toArray, List.getElem?_cons_succ, List.getElem?_cons_zero] at q0 q1 q2 r0 r1 r2 t0 t1 t2
        have hg7 : ((.slice (some ⟨g7, 0, none⟩) nm.length cap7) : Value).ownBlock = some g7 := rfl
        have hlt7 := (Z9.out.own.lt _ hg7).2
        have HNG : Hid (some w7.heap.size ≠ ((.slice (some ⟨g7, 0, none⟩) nm.length cap7) : Value).ownBlock) := by
          unfold Hid
          intro e
          have e2 : g7 = w7.heap.size := by simpa [Value.ownBlock] using e.symm
          exact gOLD.out e2
        have SF : Hid (SlM w9 (fun b => w.heap.size < b ∧ some b ≠ ((.slice (some ⟨g7, 0, none⟩) nm.length cap7) : Value).ownBlock) (some ⟨w7.heap.size, 0, none⟩) [r7.t]) := lies_one ⟨by omega, HNG.out⟩ (by simpa using t0) (by simpa using t1) (by simpa using t2) S9.out
        clear hg7 hlt7
        go_wp2_with fail
        refine bodyPost_ret (v := .agg #[.int .i64 2, .int .i64 0, .slice (some ⟨w7.heap.size, 0, none⟩) 1 1]) (by simp [results, Tryz.results49, go_sem, World.cell?_setCell_same, World.cell?_setCell_other, r0, r1, r2]) rfl ?_
        exact lr_fin (t := ⟨2, 0, [r7.t]⟩) HR7.out Z9.out F9.out hBlt ho7 SF.out _ _ _
end Go.Proofs.YtfbligcampbchaaGreatDoor

/- Walks: reading a lambda term. -/
namespace Go.Proofs.YtfbligcampbchaaGreatDoor
open Go.RowKit
set_option linter.unusedSimpArgs false
set_option linter.unusedVariables false
set_option maxRecDepth 8000

theorem lrd_term (s : ByteArray) (f : Nat) (nm : List ByteArray) (i k : Nat) : lrd s (f + 1) .term nm i k = if i < s.size ∧ byteAt s i = 92 then bndL s f nm (i + 1) k else if (lrd s f .piece nm i k).err ≠ 0 then noLr (lrd s f .piece nm i k).err else lrd s f (.behind (lrd s f .piece nm i k).t) nm (lrd s f .piece nm i k).pos (lrd s f .piece nm i k).k := by
  first | (rw [lrd]; done) | (rw [lrd]; rfl)
theorem lrd_behind (s : ByteArray) (f : Nat) (t : Lm) (nm : List ByteArray) (i k : Nat) : lrd s (f + 1) (.behind t) nm i k = if i < s.size ∧ byteAt s i = 32 then (if 200 < k + 1 then noLr 3 else if (lrd s f .piece nm (i + 1) (k + 1)).err ≠ 0 then noLr (lrd s f .piece nm (i + 1) (k + 1)).err else lrd s f (.behind ⟨3, 0, [t, (lrd s f .piece nm (i + 1) (k + 1)).t]⟩) nm (lrd s f .piece nm (i + 1) (k + 1)).pos (lrd s f .piece nm (i + 1) (k + 1)).k) else ⟨0, t, i, k⟩ := by
  first | (rw [lrd]; done) | (rw [lrd]; rfl)

theorem lrd_piece (s : ByteArray) (f : Nat) (nm : List ByteArray) (i k : Nat) : lrd s (f + 1) .piece nm i k = if i < s.size ∧ byteAt s i = 40 then
      (if (lrd s f .term nm (i + 1) k).err ≠ 0 then noLr (lrd s f .term nm (i + 1) k).err else if askE s (lrd s f .term nm (i + 1) k).pos 41 ≠ 0 then noLr (askE s (lrd s f .term nm (i + 1) k).pos 41) else ⟨0, (lrd s f .term nm (i + 1) k).t, (lrd s f .term nm (i + 1) k).pos + 1, (lrd s f .term nm (i + 1) k).k⟩)
    else if nameE s i ≠ 0 then noLr (nameE s i)
    else if 200 < k + 1 then noLr 3
    else namedL nm (s.extract i (stopAt s i)) (stopAt s i) (k + 1) := by
  first | (rw [lrd]; done) | (rw [lrd]; rfl)
/-- Knots are never fewer. -/
theorem lrd_kge (s : ByteArray) : ∀ f m nm i k, (lrd s f m nm i k).err = 0 → k ≤ (lrd s f m nm i k).k := by
  intro f
  induction f with
  | zero => intro m nm i k h; simp [lrd, noLr] at h
  | succ f ih =>
    intro m nm i k h
    cases m with
    | term =>
      rw [lrd_term] at h ⊢
      by_cases h1 : i < s.size ∧ byteAt s i = 92
      · rw [if_pos h1] at h ⊢
        unfold bndL at h ⊢
        by_cases h2 : 200 < k + 1
        · rw [if_pos h2] at h; simp [noLr] at h
        rw [if_neg h2] at h ⊢
        by_cases h3 : nameE s (i + 1) ≠ 0
        · rw [if_pos h3] at h; exact absurd h h3
        rw [if_neg h3] at h ⊢
        by_cases h4 : askE s (stopAt s (i + 1)) 46 ≠ 0
        · rw [if_pos h4] at h; exact absurd h h4
        rw [if_neg h4] at h ⊢
        by_cases h5 : (lrd s f .term (nm ++ [s.extract (i + 1) (stopAt s (i + 1))]) (stopAt s (i + 1) + 1) (k + 1)).err ≠ 0
        · rw [if_pos h5] at h; exact absurd h h5
        rw [if_neg h5]
        have := ih .term _ _ _ (by simpa using h5)
        simp only; omega
      · rw [if_neg h1] at h ⊢
        by_cases h5 : (lrd s f .piece nm i k).err ≠ 0
        · rw [if_pos h5] at h; exact absurd h h5
        rw [if_neg h5] at h ⊢
        have g1 := ih .piece nm i k (by simpa using h5)
        have g2 := ih (.behind (lrd s f .piece nm i k).t) nm _ _ h
        omega
    | behind t =>
      rw [lrd_behind] at h ⊢
      by_cases h1 : i < s.size ∧ byteAt s i = 32
      · rw [if_pos h1] at h ⊢
        by_cases h2 : 200 < k + 1
        · rw [if_pos h2] at h; simp [noLr] at h
        rw [if_neg h2] at h ⊢
        by_cases h5 : (lrd s f .piece nm (i + 1) (k + 1)).err ≠ 0
        · rw [if_pos h5] at h; exact absurd h h5
        rw [if_neg h5] at h ⊢
        have g1 := ih .piece nm (i + 1) (k + 1) (by simpa using h5)
        have g2 := ih (.behind ⟨3, 0, [t, (lrd s f .piece nm (i + 1) (k + 1)).t]⟩) nm _ _ h
        omega
      · rw [if_neg h1]
        exact Nat.le_refl _
    | piece =>
      rw [lrd_piece] at h ⊢
      by_cases h1 : i < s.size ∧ byteAt s i = 40
      · rw [if_pos h1] at h ⊢
        by_cases h5 : (lrd s f .term nm (i + 1) k).err ≠ 0
        · rw [if_pos h5] at h; exact absurd h h5
        rw [if_neg h5] at h ⊢
        by_cases h6 : askE s (lrd s f .term nm (i + 1) k).pos 41 ≠ 0
        · rw [if_pos h6] at h; exact absurd h h6
        rw [if_neg h6]
        exact ih .term nm (i + 1) k (by simpa using h5)
      · rw [if_neg h1] at h ⊢
        by_cases h3 : nameE s i ≠ 0
        · rw [if_pos h3] at h; exact absurd h h3
        rw [if_neg h3] at h ⊢
        by_cases h2 : 200 < k + 1
        · rw [if_pos h2] at h; simp [noLr] at h
        rw [if_neg h2] at h ⊢
        rw [(named_ok h).2]
        omega

/-- Two lambda terms in a row of their own. -/
theorem lies_two {W : World} {X : Nat → Prop} {S c c' : Nat} {a a' : Option Addr} {t t' : Lm} (hX : X S) (h0 : W.cell? ⟨S, 0, none⟩ = some (.int .i64 t.kind)) (h1 : W.cell? ⟨S, 1, none⟩ = some (.int .i64 t.idx)) (h2 : W.cell? ⟨S, 2, none⟩ = some (.slice a t.subs.length c)) (h3 : W.cell? ⟨S, 3, none⟩ = some (.int .i64 t'.kind)) (h4 : W.cell? ⟨S, 4, none⟩ = some (.int .i64 t'.idx)) (h5 : W.cell? ⟨S, 5, none⟩ = some (.slice a' t'.subs.length c')) (hs : SlM W X a t.subs) (hs' : SlM W X a' t'.subs) : SlM W X (some ⟨S, 0, none⟩) [t, t'] := by
  obtain ⟨k, x, l⟩ := t
  obtain ⟨k', x', l'⟩ := t'
  refine ⟨by simp, Or.inr ⟨S, 0, rfl, ?_⟩⟩
  simp only [LiesM]
  exact ⟨hX, h0, h1, ⟨a, c, h2, hs.1, hs.2⟩, hX, h3, h4, ⟨a', c', h5, hs'.1, hs'.2⟩, trivial⟩

theorem slm_bfr {w w' : World} {X : Nat → Prop} {a : Option Addr} {l : List Lm} {B : Nat} {nv nv' : Value} (hs : SlM w X a l) (hf : BFr w w' B nv nv') (hX : ∀ b, X b → b ≠ B ∧ some b ≠ nv.ownBlock) : SlM w' (fun b => X b ∧ b < w.heap.size) a l :=
  (hs.mono (Y := fun b => X b ∧ b < w.heap.size) fun b h1 h2 => ⟨h1, h2⟩).kept fun b hb => hf.2.2.2.2.1 b hb.2 (hX b hb.1).1 (hX b hb.1).2
/-- What is known at each round's head. -/
def TmInv (N B T F : Nat) (s : ByteArray) (nm : List ByteArray) (nv : Value) (w : World) (r : Lrd) (wr : World) : Prop :=
  ∃ (f' : Nat) (t : Lm) (p k' : Nat) (nv' : Value) (a : Option Addr) (c : Nat), f' ≤ F ∧ 3 * (s.size - p) + 1 ≤ f' ∧ p ≤ s.size ∧ k' ≤ 200 ∧ nm.length ≤ 100 + k' ∧ r = lrd s f' (.behind t) nm p k' ∧ Rst N B s nm p k' nv' wr ∧ BFr w wr B nv nv' ∧ Blk wr w.heap.size #[.int .i64 0, .int .i64 0, .slice none 0 0] 26 ∧ some w.heap.size ≠ nv'.ownBlock ∧
    Blk wr T #[.int .i64 t.kind, .int .i64 t.idx, .slice a t.subs.length c] 26 ∧ some T ≠ nv'.ownBlock ∧ SlM wr (fun b => w.heap.size < b ∧ b ≠ T ∧ some b ≠ nv'.ownBlock) a t.subs

set_option maxHeartbeats 4000000 in
theorem lterm_of (N B : Nat) (s : ByteArray) (hs : s.size ≤ 4000) (F : Nat) (hT : LTerm N B s F) (hP : ∀ F', F' ≤ F → LPiece N B s F') : LTerm N B s (F + 1) := by
  intro nm nv i k w hst hnk hi hk hF
  have HT := hide hT
  have HP := hide hP
  have hbox := hst.box
  have hBlt := hst.lt
  have HRD := hide (lrd_term s F nm i k)
  generalize lrd s (F + 1) .term nm i k = r at *
  have Z0 := hide (hst.alloc (.cells #[.int .i64 0, .int .i64 0, .slice none 0 0] 26))
  have R0 := hide (Blk.new w #[.int .i64 0, .int .i64 0, .slice none 0 0] 26)
  have F0 : Hid (BFr w (w.alloc (.cells #[.int .i64 0, .int .i64 0, .slice none 0 0] 26)) B nv nv) := BFr.of_below ((Below.refl _ _).alloc (Nat.le_refl _) _) B nv
  have hz0 : (w.alloc (.cells #[.int .i64 0, .int .i64 0, .slice none 0 0] 26)).heap.size = w.heap.size + 1 := by simp
  clear hT hP hst
  go_enter Tryz.func36, Tryz.ntmps36
  go_wp2_with fail
  generalize (w.alloc (.cells #[.int .i64 0, .int .i64 0, .slice none 0 0] 26)) = w0 at *
  refine (take_anyL (nv := nv) B i k s 92 hi hs _ (by exact Z0.out.bx)).mono ?_
  intro e w1 hp
  unfold TookPostL at hp
  by_cases h4 : i < s.size ∧ byteAt s i = 92
  · rw [if_pos h4] at hp
    obtain ⟨rfl, hx1, he1, hz1⟩ := hp
    have Z1 := hide (Z0.out.ex he1 hx1)
    have F1 := hide (F0.out.trans (he1.bfrL nv))
    have R1 := hide (blk_bfr R0.out (he1.bfrL nv) hbox.1 hbox.2)
    have HR : Hid (r = bndL s F nm (i + 1) k) := by unfold Hid; rw [HRD.out, if_pos h4]
    clear he1 hx1 HRD Z0 F0 R0
    go_wp2_with fail
    refine (lbinder_of N B s hs F HT.out nm nv (i + 1) k w1 Z1.out hnk (by omega) hk (by omega)).mono ?_
    intro e w2 hp
    generalize bndL s F nm (i + 1) k = r2 at *
    rcases hp with ⟨hr0, nv2, a2, c2, rfl, hs2, hst2, hf2⟩ | ⟨hr0, rfl, nv2, hf2⟩
    · have R2 := hide (blk_bfr R1.out hf2 hbox.1 hbox.2)
      have ho2 := own_bfr hf2 R1.out.lt hbox.2
      have F2 := hide (F1.out.trans hf2)
      have Z2 := hide hst2
      have S2 : Hid (SlM w2 (fun b => w.heap.size < b ∧ some b ≠ nv2.ownBlock) a2 r2.t.subs) := hs2.mono fun b hb _ => ⟨by omega, hb.2⟩
      have HF : Hid (r = ⟨0, r2.t, r2.pos, r2.k⟩) := by
        unfold Hid; rw [HR.out]; obtain ⟨e0, e1, e2, e3⟩ := r2; simp only at hr0; rw [hr0]
      have r0 := R2.out.cell 0
      have r1 := R2.out.cell 1
      have r2' := R2.out.cell 2
      have rf := R2.out.frozen
      simp only [List.getElem?_toArray, List.getElem?_cons_succ, List.getElem?_cons_zero] at r0 r1 r2'
      clear hf2 hs2 hst2 hr0
      go_wp2_with fail
      refine bodyPost_ret (v := .agg #[.int .i64 r2.t.kind, .int .i64 r2.t.idx, .slice a2 r2.t.subs.length c2]) (by simp [results, Tryz.results36, go_sem, World.cell?_setCell_same, World.cell?_setCell_other, r0, r1, r2']) rfl ?_
      exact lr_fin HF.out Z2.out F2.out hBlt ho2 S2.out _ _ _
    · exact ⟨rfl, Or.inr ⟨by rw [HR.out]; exact hr0, by rw [HR.out], nv2, F1.out.trans hf2⟩⟩
  · rw [if_neg h4] at hp
    obtain ⟨rfl, n1, rfl⟩ := hp
    have Z1 := hide (Z0.out.drewN n1)
    have F1 := hide (F0.out.trans (BFr.of_below (below_drewN (Below.refl _ _) n1) B nv))
    have R1 := hide (R0.out.drewN n1)
    have HR : Hid (r = if (lrd s F .piece nm i k).err ≠ 0 then noLr (lrd s F .piece nm i k).err else lrd s F (.behind (lrd s F .piece nm i k).t) nm (lrd s F .piece nm i k).pos (lrd s F .piece nm i k).k) := by unfold Hid; rw [HRD.out, if_neg h4]
    have hz1 : (w0.drewN n1).heap.size = w.heap.size + 1 := by
      have : (w0.drewN n1).heap = w0.heap := rfl
      rw [this]; exact hz0
    generalize w0.drewN n1 = w1 at *
    clear HRD Z0 F0 R0
    go_wp2_with fail
    refine (HP.out F (Nat.le_refl _) nm nv i k w1 Z1.out hnk hi hk (by omega)).mono ?_
    intro e w2 hp
    have HPO := hide (lrd_pos s F .piece nm i k)
    have HKM := hide (lrd_kge s F .piece nm i k)
    generalize lrd s F .piece nm i k = r2 at *
    rcases hp with ⟨hr0, nv2, a2, c2, rfl, hs2, hst2, hf2⟩ | ⟨hr0, rfl, nv2, hf2⟩
    case inr => exact ⟨rfl, lrP_no (by rw [HR.out, if_pos hr0]) hr0 (F1.out.trans hf2)⟩
    have hpos := HPO.out hr0 hi hk
    have hp2 := hpos.2.2.2 (fun t e => by cases e)
    have HR2 : Hid (r = lrd s F (.behind r2.t) nm r2.pos r2.k) := by unfold Hid; rw [HR.out, if_neg (by rw [hr0]; simp)]
    have R2 := hide (blk_bfr R1.out hf2 hbox.1 hbox.2)
    have ho2 := own_bfr hf2 R1.out.lt hbox.2
    have F2 := hide (F1.out.trans hf2)
    have hz2 : w1.heap.size ≤ w2.heap.size := hf2.2.2.2.1
    have hbx2 := hst2.box
    have Z3 := hide (hst2.alloc (.cells #[.int .i64 r2.t.kind, .int .i64 r2.t.idx, .slice a2 r2.t.subs.length c2] 26))
    have T3 := hide (Blk.new w2 #[.int .i64 r2.t.kind, .int .i64 r2.t.idx, .slice a2 r2.t.subs.length c2] 26)
    have R3 := hide (R2.out.alloc (.cells #[.int .i64 r2.t.kind, .int .i64 r2.t.idx, .slice a2 r2.t.subs.length c2] 26))
    have S3 : Hid (SlM (w2.alloc (.cells #[.int .i64 r2.t.kind, .int .i64 r2.t.idx, .slice a2 r2.t.subs.length c2] 26)) (fun b => w.heap.size < b ∧ b ≠ w2.heap.size ∧ some b ≠ nv2.ownBlock) a2 r2.t.subs) := (hs2.mono (Y := fun b => w.heap.size < b ∧ b ≠ w2.heap.size ∧ some b ≠ nv2.ownBlock) fun b hb hl => ⟨by omega, by omega, hb.2⟩).later ((Below.refl _ _).alloc (Nat.le_refl _) _)
    have F3 := hide (F2.out.trans (BFr.of_below ((Below.refl w2.heap.size w2).alloc (Nat.le_refl _) (.cells #[.int .i64 r2.t.kind, .int .i64 r2.t.idx, .slice a2 r2.t.subs.length c2] 26)) B nv2))
    have hkk : nm.length ≤ 100 + r2.k := by have := HKM.out hr0; omega
    clear hf2 hs2 hst2 R2 F2 hr0 HR HPO
    go_wp2_with fail
    generalize (w2.alloc (.cells #[.int .i64 r2.t.kind, .int .i64 r2.t.idx, .slice a2 r2.t.subs.length c2] 26)) = w3 at *
    have hTgt : w.heap.size < w2.heap.size := by omega
    generalize w2.heap.size = T at *
    go_loopw [] (fun wr => TmInv N B T F s nm nv w r wr) (fun wr => s.size - rdAtL wr B)
    case atStart => exact ⟨F, r2.t, r2.pos, r2.k, nv2, a2, c2, Nat.le_refl _, by omega, hpos.2.1, hpos.2.2.1, hkk, HR2.out, Z3.out, F3.out, R3.out, ho2, T3.out, hbx2.2, S3.out⟩
    case round =>
      obtain ⟨f', t, p, k', nv', a, c, hf1, hf2, hp1, hk1, hnk1, hr, hst, hfr, hR, hRo, hTb, hTo, hsl⟩ := hrel
      obtain ⟨f0, rfl⟩ : ∃ f0, f' = f0 + 1 := ⟨f' - 1, by omega⟩
      have HLB := hide (lrd_behind s f0 t nm p k')
      have HR4 : Hid (r = if p < s.size ∧ byteAt s p = 32 then (if 200 < k' + 1 then noLr 3 else if (lrd s f0 .piece nm (p + 1) (k' + 1)).err ≠ 0 then noLr (lrd s f0 .piece nm (p + 1) (k' + 1)).err else lrd s f0 (.behind ⟨3, 0, [t, (lrd s f0 .piece nm (p + 1) (k' + 1)).t]⟩) nm (lrd s f0 .piece nm (p + 1) (k' + 1)).pos (lrd s f0 .piece nm (p + 1) (k' + 1)).k) else ⟨0, t, p, k'⟩) := by unfold Hid; rw [hr, HLB.out]
      have Z4 := hide hst
      have F4 := hide hfr
      have R4 := hide hR
      have T4 := hide hTb
      have S4 := hide hsl
      have hBr := hst.lt
      have hTr := hTb.lt
      have hTB : T ≠ B := by
        intro e
        have h1 := hst.bx
        have h2 := hTb
        unfold Bl Blk at h1
        unfold Blk at h2
        rw [e, h1] at h2
        simp at h2
      have hAt := hst.bx.at
      clear hr hst hfr hR hTb hsl HLB Z3 F3 R3 T3 S3 HR2
      go_wp2_with fail
      refine (take_anyL (nv := nv') B p k' s 32 hp1 hs _ (by exact Z4.out.bx)).mono ?_
      intro e w5 hp
      unfold TookPostL at hp
      by_cases h5 : p < s.size ∧ byteAt s p = 32
      case neg =>
        rw [if_neg h5] at hp
        obtain ⟨rfl, n5, rfl⟩ := hp
        have HF : Hid (r = ⟨0, t, p, k'⟩) := by unfold Hid; rw [HR4.out, if_neg h5]
        have Z5 := hide (Z4.out.drewN n5)
        have F5 := hide (F4.out.trans (BFr.of_below (below_drewN (Below.refl _ _) n5) B nv'))
        have R5 := hide (R4.out.drewN n5)
        have T5 := hide (T4.out.drewN n5)
        have S5 : Hid (SlM (wr.drewN n5) (fun b => w.heap.size < b ∧ some b ≠ nv'.ownBlock) a t.subs) := (S4.out.later (below_drewN (Below.refl _ _) n5)).mono fun b hb _ => ⟨hb.1, hb.2.2⟩
        generalize wr.drewN n5 = w5 at *
        have q0 := T5.out.cell 0
        have q1 := T5.out.cell 1
        have q2 := T5.out.cell 2
        have r0 := R5.out.cell 0
        have r1 := R5.out.cell 1
        have r2' := R5.out.cell 2
        have rf := R5.out.frozen
        simp only [List.getElem?_toArray, List.getElem?_cons_succ, List.getElem?_cons_zero] at q0 q1 q2 r0 r1 r2'
        go_wp2_with fail
        refine bodyPost_ret (v := .agg #[.int .i64 t.kind, .int .i64 t.idx, .slice a t.subs.length c]) (by simp [results, Tryz.results36, go_sem, World.cell?_setCell_same, World.cell?_setCell_other, r0, r1, r2']) rfl ?_
        exact lr_fin HF.out Z5.out F5.out hBlt hRo S5.out _ _ _
      rw [if_pos h5] at hp
      obtain ⟨rfl, hx5, he5, hz5⟩ := hp
      have HR5 := hide (show r = _ from (HR4.out).trans (if_pos h5))
      have Z5 := hide (Z4.out.ex he5 hx5)
      have F5 := hide (F4.out.trans (he5.bfrL nv'))
      have R5 := hide (blk_bfr R4.out (he5.bfrL nv') hbox.1 hRo)
      have T5 := hide (blk_bfr T4.out (he5.bfrL nv') hTB hTo)
      have S5 : Hid (SlM w5 (fun b => w.heap.size < b ∧ b ≠ T ∧ some b ≠ nv'.ownBlock) a t.subs) := (slm_bfr S4.out (he5.bfrL nv') (fun b hb => ⟨by omega, hb.2.2⟩)).mono fun b hb _ => hb.1
      clear hx5 he5 HR4 Z4 F4 R4 T4 S4
      go_wp2_with fail
      refine (rdKnot_anyL (nv := nv') B (p + 1) k' s (by omega) _ (by exact Z5.out.bx)).mono ?_
      intro e w6 hp
      unfold RdKnotPostL at hp
      by_cases h3 : 200 < k' + 1
      · rw [if_pos h3] at hp
        obtain ⟨he, he3⟩ := hp
        unfold thrownL at he
        subst he
        exact ⟨rfl, lrP_no (by rw [HR5.out, if_pos h3]) (by simp) (F5.out.trans (he3.bfrL nv'))⟩
      rw [if_neg h3] at hp
      obtain ⟨⟨v6, rfl⟩, hx6, he6, hz6⟩ := hp
      have HR6 := hide (show r = _ from (HR5.out).trans (if_neg h3))
      have Z6 := hide (Z5.out.ex he6 hx6)
      have F6 := hide (F5.out.trans (he6.bfrL nv'))
      have R6 := hide (blk_bfr R5.out (he6.bfrL nv') hbox.1 hRo)
      have T6 := hide (blk_bfr T5.out (he6.bfrL nv') hTB hTo)
      have S6 : Hid (SlM w6 (fun b => w.heap.size < b ∧ b ≠ T ∧ some b ≠ nv'.ownBlock) a t.subs) := (slm_bfr S5.out (he6.bfrL nv') (fun b hb => ⟨by omega, hb.2.2⟩)).mono fun b hb _ => hb.1
      clear hx6 he6 HR5 Z5 F5 R5 T5 S5
      go_wp2_with fail
      have Zd := hide (Z6.out.later (Below.drew (Below.refl w6.heap.size w6)))
      have Fd := hide (F6.out.trans (BFr.of_below (Below.drew (Below.refl w6.heap.size w6)) B nv'))
      have Rd : Hid (Blk w6.drew w.heap.size #[.int .i64 0, .int .i64 0, .slice none 0 0] 26) := R6.out
      have Td : Hid (Blk w6.drew T #[.int .i64 t.kind, .int .i64 t.idx, .slice a t.subs.length c] 26) := T6.out
      have Sd := hide (S6.out.later (Below.drew (Below.refl w6.heap.size w6)))
      refine wp_region_held_drew (S := fun w' => N ≤ w'.heap.size) (by kernel_rfl) (by exact Zd.out.le) (fun hHeld => ?_)
      generalize w6.drew = wd at *
      clear Z6 F6 R6 T6 S6
      have HPO7 := hide (lrd_pos s f0 .piece nm (p + 1) (k' + 1))
      have HKM7 := hide (lrd_kge s f0 .piece nm (p + 1) (k' + 1))
      refine wpAnyH_take (i := 1) (v := ?_) rfl (by kernel_rfl) (by kernel_rfl) (by kernel_rfl) (fun _ _ _ h => h) (Or.inl ⟨by rfl, ?_⟩) (by assumption) ?_
      rotate_left
      · intro w' hSw
        go_simp <;> with_reducible rfl
      try simp only [Act.put, List.setIfInBounds_toArray, List.set_cons_zero, List.set_cons_succ, List.getElem_toArray, List.getElem_cons_succ, List.getElem_cons_zero]
      refine wpAnyH_ready (rs := [0, 2]) (by kernel_rfl) (by simp) ?_
      refine AllReadyH.cons rfl (fun K hK => ?_) (AllReadyH.cons rfl (fun K hK => ?_) AllReadyH.nil)
      · have m0 := Td.out.cell 0
        have m1 := Td.out.cell 1
        have m2 := Td.out.cell 2
        simp only [List.getElem?_toArray, List.getElem?_cons_succ, List.getElem?_cons_zero] at m0 m1 m2
        go_simp
        refine hK.out _ _ (by exact Zd.out.le) (fun hHeld => ?_)
        clear hK K
        try simp only [Act.put, List.setIfInBounds_toArray, List.set_cons_zero, List.set_cons_succ, List.getElem_toArray, List.getElem_cons_succ, List.getElem_cons_zero]
        clear m0 m1 m2
        refine wpAnyH_ready (rs := [2]) (by kernel_rfl) (by simp) ?_
        refine AllReadyH.cons rfl (fun K hK => ?_) AllReadyH.nil
        go_simp
        go_at_call 50
        refine (HP.out f0 (by omega) nm nv' (p + 1) (k' + 1) wd Zd.out (by omega) (by omega) (by omega) (by omega)).mono ?_
        intro e w7 hp
        generalize lrd s f0 .piece nm (p + 1) (k' + 1) = r7 at *
        rcases hp with ⟨hr0, nv7, a7, c7, rfl, hs7, hst7, hf7⟩ | ⟨hr0, rfl, nv7, hf7⟩
        case inr => exact ⟨rfl, lrP_no (by rw [HR6.out, if_pos hr0]) hr0 (Fd.out.trans hf7)⟩
        have hpos7 := HPO7.out hr0 (by omega) (by omega)
        have hp7 := hpos7.2.2.2 (fun t e => by cases e)
        have hkm7 := HKM7.out hr0
        have HR7 : Hid (r = lrd s f0 (.behind ⟨3, 0, [t, r7.t]⟩) nm r7.pos r7.k) := by unfold Hid; rw [HR6.out, if_neg (by rw [hr0]; simp)]
        have Z7 := hide hst7
        have F7 := hide (Fd.out.trans hf7)
        have R7 := hide (blk_bfr Rd.out hf7 hbox.1 hRo)
        have hRo7 := own_bfr hf7 Rd.out.lt hRo
        have T7 := hide (blk_bfr Td.out hf7 hTB hTo)
        have hTo7 := own_bfr hf7 Td.out.lt hTo
        have S7 : Hid (SlM w7 (fun b => w.heap.size < b ∧ b ≠ T ∧ some b ≠ nv7.ownBlock) a t.subs) := (slm_bfr Sd.out hf7 (fun b hb => ⟨by omega, hb.2.2⟩)).mono fun b hb _ => ⟨hb.1.1, hb.1.2.1, own_bfr hf7 hb.2 hb.1.2.2⟩
        have hTd := Td.out.lt
        have hRd := Rd.out.lt
        have U7 : Hid (SlM w7 (fun b => w.heap.size < b ∧ b ≠ T ∧ some b ≠ nv7.ownBlock) a7 r7.t.subs) := hs7.mono fun b hb _ => ⟨by omega, by omega, hb.2⟩
        have hz7 : wd.heap.size ≤ w7.heap.size := hf7.2.2.2.1
        clear hs7 hst7 hf7 hr0 HPO7 HKM7
        go_simp
        refine hK.out _ _ (by exact Z7.out.le) (fun hHeld => ?_)
        clear hK K
        try simp only [Act.put, List.setIfInBounds_toArray, List.set_cons_zero, List.set_cons_succ, List.getElem_toArray, List.getElem_cons_succ, List.getElem_cons_zero]
        have Z8 := hide (Z7.out.alloc (.cells #[.int .i64 t.kind, .int .i64 t.idx, .slice a t.subs.length c, .int .i64 r7.t.kind, .int .i64 r7.t.idx, .slice a7 r7.t.subs.length c7] 26))
        have F8 := hide (F7.out.trans (BFr.of_below ((Below.refl w7.heap.size w7).alloc (Nat.le_refl _) (.cells #[.int .i64 t.kind, .int .i64 t.idx, .slice a t.subs.length c, .int .i64 r7.t.kind, .int .i64 r7.t.idx, .slice a7 r7.t.subs.length c7] 26)) B nv7))
        have R8 := hide (R7.out.alloc (.cells #[.int .i64 t.kind, .int .i64 t.idx, .slice a t.subs.length c, .int .i64 r7.t.kind, .int .i64 r7.t.idx, .slice a7 r7.t.subs.length c7] 26))
        have T8 := hide (T7.out.alloc (.cells #[.int .i64 t.kind, .int .i64 t.idx, .slice a t.subs.length c, .int .i64 r7.t.kind, .int .i64 r7.t.idx, .slice a7 r7.t.subs.length c7] 26))
        have S8 := hide (S7.out.later ((Below.refl w7.heap.size w7).alloc (Nat.le_refl _) (.cells #[.int .i64 t.kind, .int .i64 t.idx, .slice a t.subs.length c, .int .i64 r7.t.kind, .int .i64 r7.t.idx, .slice a7 r7.t.subs.length c7] 26)))
        have U8 := hide (U7.out.later ((Below.refl w7.heap.size w7).alloc (Nat.le_refl _) (.cells #[.int .i64 t.kind, .int .i64 t.idx, .slice a t.subs.length c, .int .i64 r7.t.kind, .int .i64 r7.t.idx, .slice a7 r7.t.subs.length c7] 26)))
        have P8 := hide (Blk.new w7 #[.int .i64 t.kind, .int .i64 t.idx, .slice a t.subs.length c, .int .i64 r7.t.kind, .int .i64 r7.t.idx, .slice a7 r7.t.subs.length c7] 26)
        have hbx7 := Z7.out.box
        refine wpAnyH_ready (rs := [3]) (by kernel_rfl) (by simp) ?_
        refine AllReadyH.cons rfl (fun K hK => ?_) AllReadyH.nil
        go_simp
        refine hK.out _ _ (by exact Z8.out.le) (fun hHeld => ?_)
        clear hK K
        try simp only [Act.put, List.setIfInBounds_toArray, List.set_cons_zero, List.set_cons_succ, List.getElem_toArray, List.getElem_cons_succ, List.getElem_cons_zero]
        generalize (w7.alloc (.cells #[.int .i64 t.kind, .int .i64 t.idx, .slice a t.subs.length c, .int .i64 r7.t.kind, .int .i64 r7.t.idx, .slice a7 r7.t.subs.length c7] 26)) = w8 at *
        have hTw7 : T < w7.heap.size := by omega
        have hRw7 : w.heap.size < w7.heap.size := by omega
        have hXS : Hid (w.heap.size < w7.heap.size ∧ w7.heap.size ≠ T ∧ some w7.heap.size ≠ nv7.ownBlock) := ⟨by omega, by omega, hbx7.2⟩
        refine wpAnyH_take (i := 4) (v := ?_) rfl (by kernel_rfl) (by kernel_rfl) (by kernel_rfl) (fun _ _ _ h => h) (Or.inl ⟨by rfl, ?_⟩) (by assumption) ?_
        rotate_left
        · intro w' hSw
          go_simp <;> with_reducible rfl
        try simp only [Act.put, List.setIfInBounds_toArray, List.set_cons_zero, List.set_cons_succ, List.getElem_toArray, List.getElem_cons_succ, List.getElem_cons_zero]
        have m0 := T8.out.cell 0
        have m1 := T8.out.cell 1
        have m2 := T8.out.cell 2
        have mf := T8.out.frozen
        simp only [List.getElem?_toArray, List.getElem?_cons_succ, List.getElem?_cons_zero] at m0 m1 m2
        have kx : ∀ q : Nat, q ≠ T → (((w8.setCell ⟨T, 0, none⟩ (.int .i64 3)).setCell ⟨T, 1, none⟩ (.int .i64 0)).setCell ⟨T, 2, none⟩ (.slice (some ⟨w7.heap.size, 0, none⟩) 2 2)).heap[q]? = w8.heap[q]? := fun q hq => by
          rw [Below.heap_setCell _ _ _ _ (by simpa using hq), Below.heap_setCell _ _ _ _ (by simpa using hq), Below.heap_setCell _ _ _ _ (by simpa using hq)]
        have hf9 : Hid (BFr w8 (((w8.setCell ⟨T, 0, none⟩ (.int .i64 3)).setCell ⟨T, 1, none⟩ (.int .i64 0)).setCell ⟨T, 2, none⟩ (.slice (some ⟨w7.heap.size, 0, none⟩) 2 2)) B nv7 nv7 ∨ True) := Or.inr trivial
        have hz9 : (((w8.setCell ⟨T, 0, none⟩ (.int .i64 3)).setCell ⟨T, 1, none⟩ (.int .i64 0)).setCell ⟨T, 2, none⟩ (.slice (some ⟨w7.heap.size, 0, none⟩) 2 2)).heap.size = w8.heap.size := by simp [World.setCell]
        have hos9 : (((w8.setCell ⟨T, 0, none⟩ (.int .i64 3)).setCell ⟨T, 1, none⟩ (.int .i64 0)).setCell ⟨T, 2, none⟩ (.slice (some ⟨w7.heap.size, 0, none⟩) 2 2)).os = w8.os ∧ (((w8.setCell ⟨T, 0, none⟩ (.int .i64 3)).setCell ⟨T, 1, none⟩ (.int .i64 0)).setCell ⟨T, 2, none⟩ (.slice (some ⟨w7.heap.size, 0, none⟩) 2 2)).tape = w8.tape ∧ (((w8.setCell ⟨T, 0, none⟩ (.int .i64 3)).setCell ⟨T, 1, none⟩ (.int .i64 0)).setCell ⟨T, 2, none⟩ (.slice (some ⟨w7.heap.size, 0, none⟩) 2 2)).output = w8.output := ⟨rfl, rfl, rfl⟩
        have T9 : Hid (Blk (((w8.setCell ⟨T, 0, none⟩ (.int .i64 3)).setCell ⟨T, 1, none⟩ (.int .i64 0)).setCell ⟨T, 2, none⟩ (.slice (some ⟨w7.heap.size, 0, none⟩) 2 2)) T #[.int .i64 3, .int .i64 0, .slice (some ⟨w7.heap.size, 0, none⟩) 2 2] 26) := lt_set3 T8.out _ _ _
        have hN9 : N ≤ (((w8.setCell ⟨T, 0, none⟩ (.int .i64 3)).setCell ⟨T, 1, none⟩ (.int .i64 0)).setCell ⟨T, 2, none⟩ (.slice (some ⟨w7.heap.size, 0, none⟩) 2 2)).heap.size := by rw [hz9]; exact Z8.out.le
        refine wpAnyH_ready (rs := [5]) (by kernel_rfl) (by simp) ?_
        refine AllReadyH.cons rfl (fun K hK => ?_) AllReadyH.nil
        go_simp
        refine hK.out _ _ (by exact hN9) (fun hHeld => ?_)
        clear hK K
        try simp only [Act.put, List.setIfInBounds_toArray, List.set_cons_zero, List.set_cons_succ, List.getElem_toArray, List.getElem_cons_succ, List.getElem_cons_zero]
        generalize (((w8.setCell ⟨T, 0, none⟩ (.int .i64 3)).setCell ⟨T, 1, none⟩ (.int .i64 0)).setCell ⟨T, 2, none⟩ (.slice (some ⟨w7.heap.size, 0, none⟩) 2 2)) = w9 at *
        clear m0 m1 m2 mf hf9
        refine wpAnyH_done (by kernel_rfl) ?_ _
        have R9 : Hid (Blk w9 w.heap.size #[.int .i64 0, .int .i64 0, .slice none 0 0] 26) := (kx _ (by omega)).trans R8.out
        have F9 : Hid (BFr w w9 B nv nv7) := ⟨hos9.1.trans F8.out.1, hos9.2.1.trans F8.out.2.1, hos9.2.2.trans F8.out.2.2.1, by have := F8.out.2.2.2.1; omega, fun q hq h1 h2 => (kx q (by omega)).trans (F8.out.2.2.2.2.1 q hq h1 h2), F8.out.2.2.2.2.2⟩
        have Z9 : Hid (Rst N B s nm r7.pos r7.k nv7 w9) := by
          have hb9 : Below N w8 w9 := ⟨hos9.1, hos9.2.1, hos9.2.2, by omega, fun q hq => kx q (by have := Z8.out.nb; omega)⟩
          refine ⟨?_, Z8.out.own.kept (row := some T) ⟨hos9.1, hos9.2.1, hos9.2.2, by omega, fun q hq hn => kx q (fun e => hn (by rw [e]))⟩ (Or.inr fun e => hTo7 e.symm), Z8.out.nb, hN9, Z8.out.tb.on hb9, Z8.out.ts.on hb9⟩
          have hbx := Z8.out.bx
          unfold Bl Blk at hbx ⊢
          rw [kx B (fun e => hTB e.symm)]
          exact hbx
        have P9 : Hid (Blk w9 w7.heap.size #[.int .i64 t.kind, .int .i64 t.idx, .slice a t.subs.length c, .int .i64 r7.t.kind, .int .i64 r7.t.idx, .slice a7 r7.t.subs.length c7] 26) := (kx _ (by omega)).trans P8.out
        have S9 : Hid (SlM w9 (fun b => w.heap.size < b ∧ b ≠ T ∧ some b ≠ nv7.ownBlock) (some ⟨w7.heap.size, 0, none⟩) [t, r7.t]) := lies_two hXS.out (P9.out.cell 0) (P9.out.cell 1) (P9.out.cell 2) (P9.out.cell 3) (P9.out.cell 4) (P9.out.cell 5) (S8.out.kept fun q hq => kx q hq.2.1) (U8.out.kept fun q hq => kx q hq.2.1)
        have hAt9 := Z9.out.bx.at
        clear kx hos9 hz9 Z8 F8 R8 T8 S8 U8 P8 P9 Z7 F7 R7 T7 S7 U7
        go_wp2_with fail
        go_roundw
        case rel => exact ⟨f0, ⟨3, 0, [t, r7.t]⟩, r7.pos, r7.k, nv7, some ⟨w7.heap.size, 0, none⟩, 2, by omega, by omega, hpos7.2.1, hpos7.2.2.1, by omega, HR7.out, Z9.out, F9.out, R9.out, hRo7, T9.out, hTo7, S9.out⟩
        case measure => rw [hAt9, hAt]; omega
      · go_simp
        go_at_call 50
        refine (HP.out f0 (by omega) nm nv' (p + 1) (k' + 1) wd Zd.out (by omega) (by omega) (by omega) (by omega)).mono ?_
        intro e w7 hp
        generalize lrd s f0 .piece nm (p + 1) (k' + 1) = r7 at *
        rcases hp with ⟨hr0, nv7, a7, c7, rfl, hs7, hst7, hf7⟩ | ⟨hr0, rfl, nv7, hf7⟩
        case inr => exact ⟨rfl, lrP_no (by rw [HR6.out, if_pos hr0]) hr0 (Fd.out.trans hf7)⟩
        have hpos7 := HPO7.out hr0 (by omega) (by omega)
        have hp7 := hpos7.2.2.2 (fun t e => by cases e)
        have hkm7 := HKM7.out hr0
        have HR7 : Hid (r = lrd s f0 (.behind ⟨3, 0, [t, r7.t]⟩) nm r7.pos r7.k) := by unfold Hid; rw [HR6.out, if_neg (by rw [hr0]; simp)]
        have Z7 := hide hst7
        have F7 := hide (Fd.out.trans hf7)
        have R7 := hide (blk_bfr Rd.out hf7 hbox.1 hRo)
        have hRo7 := own_bfr hf7 Rd.out.lt hRo
        have T7 := hide (blk_bfr Td.out hf7 hTB hTo)
        have hTo7 := own_bfr hf7 Td.out.lt hTo
        have S7 : Hid (SlM w7 (fun b => w.heap.size < b ∧ b ≠ T ∧ some b ≠ nv7.ownBlock) a t.subs) := (slm_bfr Sd.out hf7 (fun b hb => ⟨by omega, hb.2.2⟩)).mono fun b hb _ => ⟨hb.1.1, hb.1.2.1, own_bfr hf7 hb.2 hb.1.2.2⟩
        have hTd := Td.out.lt
        have hRd := Rd.out.lt
        have U7 : Hid (SlM w7 (fun b => w.heap.size < b ∧ b ≠ T ∧ some b ≠ nv7.ownBlock) a7 r7.t.subs) := hs7.mono fun b hb _ => ⟨by omega, by omega, hb.2⟩
        have hz7 : wd.heap.size ≤ w7.heap.size := hf7.2.2.2.1
        clear hs7 hst7 hf7 hr0 HPO7 HKM7
        go_simp
        refine hK.out _ _ (by exact Z7.out.le) (fun hHeld => ?_)
        clear hK K
        try simp only [Act.put, List.setIfInBounds_toArray, List.set_cons_zero, List.set_cons_succ, List.getElem_toArray, List.getElem_cons_succ, List.getElem_cons_zero]
        refine wpAnyH_ready (rs := [0]) (by kernel_rfl) (by simp) ?_
        refine AllReadyH.cons rfl (fun K hK => ?_) AllReadyH.nil
        have m0 := T7.out.cell 0
        have m1 := T7.out.cell 1
        have m2 := T7.out.cell 2
        simp only [List.getElem?_toArray, List.getElem?_cons_succ, List.getElem?_cons_zero] at m0 m1 m2
        go_simp
        refine hK.out _ _ (by exact Z7.out.le) (fun hHeld => ?_)
        clear hK K
        try simp only [Act.put, List.setIfInBounds_toArray, List.set_cons_zero, List.set_cons_succ, List.getElem_toArray, List.getElem_cons_succ, List.getElem_cons_zero]
        clear m0 m1 m2
        have Z8 := hide (Z7.out.alloc (.cells #[.int .i64 t.kind, .int .i64 t.idx, .slice a t.subs.length c, .int .i64 r7.t.kind, .int .i64 r7.t.idx, .slice a7 r7.t.subs.length c7] 26))
        have F8 := hide (F7.out.trans (BFr.of_below ((Below.refl w7.heap.size w7).alloc (Nat.le_refl _) (.cells #[.int .i64 t.kind, .int .i64 t.idx, .slice a t.subs.length c, .int .i64 r7.t.kind, .int .i64 r7.t.idx, .slice a7 r7.t.subs.length c7] 26)) B nv7))
        have R8 := hide (R7.out.alloc (.cells #[.int .i64 t.kind, .int .i64 t.idx, .slice a t.subs.length c, .int .i64 r7.t.kind, .int .i64 r7.t.idx, .slice a7 r7.t.subs.length c7] 26))
        have T8 := hide (T7.out.alloc (.cells #[.int .i64 t.kind, .int .i64 t.idx, .slice a t.subs.length c, .int .i64 r7.t.kind, .int .i64 r7.t.idx, .slice a7 r7.t.subs.length c7] 26))
        have S8 := hide (S7.out.later ((Below.refl w7.heap.size w7).alloc (Nat.le_refl _) (.cells #[.int .i64 t.kind, .int .i64 t.idx, .slice a t.subs.length c, .int .i64 r7.t.kind, .int .i64 r7.t.idx, .slice a7 r7.t.subs.length c7] 26)))
        have U8 := hide (U7.out.later ((Below.refl w7.heap.size w7).alloc (Nat.le_refl _) (.cells #[.int .i64 t.kind, .int .i64 t.idx, .slice a t.subs.length c, .int .i64 r7.t.kind, .int .i64 r7.t.idx, .slice a7 r7.t.subs.length c7] 26)))
        have P8 := hide (Blk.new w7 #[.int .i64 t.kind, .int .i64 t.idx, .slice a t.subs.length c, .int .i64 r7.t.kind, .int .i64 r7.t.idx, .slice a7 r7.t.subs.length c7] 26)
        have hbx7 := Z7.out.box
        refine wpAnyH_ready (rs := [3]) (by kernel_rfl) (by simp) ?_
        refine AllReadyH.cons rfl (fun K hK => ?_) AllReadyH.nil
        go_simp
        refine hK.out _ _ (by exact Z8.out.le) (fun hHeld => ?_)
        clear hK K
        try simp only [Act.put, List.setIfInBounds_toArray, List.set_cons_zero, List.set_cons_succ, List.getElem_toArray, List.getElem_cons_succ, List.getElem_cons_zero]
        generalize (w7.alloc (.cells #[.int .i64 t.kind, .int .i64 t.idx, .slice a t.subs.length c, .int .i64 r7.t.kind, .int .i64 r7.t.idx, .slice a7 r7.t.subs.length c7] 26)) = w8 at *
        have hTw7 : T < w7.heap.size := by omega
        have hRw7 : w.heap.size < w7.heap.size := by omega
        have hXS : Hid (w.heap.size < w7.heap.size ∧ w7.heap.size ≠ T ∧ some w7.heap.size ≠ nv7.ownBlock) := ⟨by omega, by omega, hbx7.2⟩
        refine wpAnyH_take (i := 4) (v := ?_) rfl (by kernel_rfl) (by kernel_rfl) (by kernel_rfl) (fun _ _ _ h => h) (Or.inl ⟨by rfl, ?_⟩) (by assumption) ?_
        rotate_left
        · intro w' hSw
          go_simp <;> with_reducible rfl
        try simp only [Act.put, List.setIfInBounds_toArray, List.set_cons_zero, List.set_cons_succ, List.getElem_toArray, List.getElem_cons_succ, List.getElem_cons_zero]
        have m0 := T8.out.cell 0
        have m1 := T8.out.cell 1
        have m2 := T8.out.cell 2
        have mf := T8.out.frozen
        simp only [List.getElem?_toArray, List.getElem?_cons_succ, List.getElem?_cons_zero] at m0 m1 m2
        have kx : ∀ q : Nat, q ≠ T → (((w8.setCell ⟨T, 0, none⟩ (.int .i64 3)).setCell ⟨T, 1, none⟩ (.int .i64 0)).setCell ⟨T, 2, none⟩ (.slice (some ⟨w7.heap.size, 0, none⟩) 2 2)).heap[q]? = w8.heap[q]? := fun q hq => by
          rw [Below.heap_setCell _ _ _ _ (by simpa using hq), Below.heap_setCell _ _ _ _ (by simpa using hq), Below.heap_setCell _ _ _ _ (by simpa using hq)]
        have hf9 : Hid (BFr w8 (((w8.setCell ⟨T, 0, none⟩ (.int .i64 3)).setCell ⟨T, 1, none⟩ (.int .i64 0)).setCell ⟨T, 2, none⟩ (.slice (some ⟨w7.heap.size, 0, none⟩) 2 2)) B nv7 nv7 ∨ True) := Or.inr trivial
        have hz9 : (((w8.setCell ⟨T, 0, none⟩ (.int .i64 3)).setCell ⟨T, 1, none⟩ (.int .i64 0)).setCell ⟨T, 2, none⟩ (.slice (some ⟨w7.heap.size, 0, none⟩) 2 2)).heap.size = w8.heap.size := by simp [World.setCell]
        have hos9 : (((w8.setCell ⟨T, 0, none⟩ (.int .i64 3)).setCell ⟨T, 1, none⟩ (.int .i64 0)).setCell ⟨T, 2, none⟩ (.slice (some ⟨w7.heap.size, 0, none⟩) 2 2)).os = w8.os ∧ (((w8.setCell ⟨T, 0, none⟩ (.int .i64 3)).setCell ⟨T, 1, none⟩ (.int .i64 0)).setCell ⟨T, 2, none⟩ (.slice (some ⟨w7.heap.size, 0, none⟩) 2 2)).tape = w8.tape ∧ (((w8.setCell ⟨T, 0, none⟩ (.int .i64 3)).setCell ⟨T, 1, none⟩ (.int .i64 0)).setCell ⟨T, 2, none⟩ (.slice (some ⟨w7.heap.size, 0, none⟩) 2 2)).output = w8.output := ⟨rfl, rfl, rfl⟩
        have T9 : Hid (Blk (((w8.setCell ⟨T, 0, none⟩ (.int .i64 3)).setCell ⟨T, 1, none⟩ (.int .i64 0)).setCell ⟨T, 2, none⟩ (.slice (some ⟨w7.heap.size, 0, none⟩) 2 2)) T #[.int .i64 3, .int .i64 0, .slice (some ⟨w7.heap.size, 0, none⟩) 2 2] 26) := lt_set3 T8.out _ _ _
        have hN9 : N ≤ (((w8.setCell ⟨T, 0, none⟩ (.int .i64 3)).setCell ⟨T, 1, none⟩ (.int .i64 0)).setCell ⟨T, 2, none⟩ (.slice (some ⟨w7.heap.size, 0, none⟩) 2 2)).heap.size := by rw [hz9]; exact Z8.out.le
        refine wpAnyH_ready (rs := [5]) (by kernel_rfl) (by simp) ?_
        refine AllReadyH.cons rfl (fun K hK => ?_) AllReadyH.nil
        go_simp
        refine hK.out _ _ (by exact hN9) (fun hHeld => ?_)
        clear hK K
        try simp only [Act.put, List.setIfInBounds_toArray, List.set_cons_zero, List.set_cons_succ, List.getElem_toArray, List.getElem_cons_succ, List.getElem_cons_zero]
        generalize (((w8.setCell ⟨T, 0, none⟩ (.int .i64 3)).setCell ⟨T, 1, none⟩ (.int .i64 0)).setCell ⟨T, 2, none⟩ (.slice (some ⟨w7.heap.size, 0, none⟩) 2 2)) = w9 at *
        clear m0 m1 m2 mf hf9
        refine wpAnyH_done (by kernel_rfl) ?_ _
        have R9 : Hid (Blk w9 w.heap.size #[.int .i64 0, .int .i64 0, .slice none 0 0] 26) := (kx _ (by omega)).trans R8.out
        have F9 : Hid (BFr w w9 B nv nv7) := ⟨hos9.1.trans F8.out.1, hos9.2.1.trans F8.out.2.1, hos9.2.2.trans F8.out.2.2.1, by have := F8.out.2.2.2.1; omega, fun q hq h1 h2 => (kx q (by omega)).trans (F8.out.2.2.2.2.1 q hq h1 h2), F8.out.2.2.2.2.2⟩
        have Z9 : Hid (Rst N B s nm r7.pos r7.k nv7 w9) := by
          have hb9 : Below N w8 w9 := ⟨hos9.1, hos9.2.1, hos9.2.2, by omega, fun q hq => kx q (by have := Z8.out.nb; omega)⟩
          refine ⟨?_, Z8.out.own.kept (row := some T) ⟨hos9.1, hos9.2.1, hos9.2.2, by omega, fun q hq hn => kx q (fun e => hn (by rw [e]))⟩ (Or.inr fun e => hTo7 e.symm), Z8.out.nb, hN9, Z8.out.tb.on hb9, Z8.out.ts.on hb9⟩
          have hbx := Z8.out.bx
          unfold Bl Blk at hbx ⊢
          rw [kx B (fun e => hTB e.symm)]
          exact hbx
        have P9 : Hid (Blk w9 w7.heap.size #[.int .i64 t.kind, .int .i64 t.idx, .slice a t.subs.length c, .int .i64 r7.t.kind, .int .i64 r7.t.idx, .slice a7 r7.t.subs.length c7] 26) := (kx _ (by omega)).trans P8.out
        have S9 : Hid (SlM w9 (fun b => w.heap.size < b ∧ b ≠ T ∧ some b ≠ nv7.ownBlock) (some ⟨w7.heap.size, 0, none⟩) [t, r7.t]) := lies_two hXS.out (P9.out.cell 0) (P9.out.cell 1) (P9.out.cell 2) (P9.out.cell 3) (P9.out.cell 4) (P9.out.cell 5) (S8.out.kept fun q hq => kx q hq.2.1) (U8.out.kept fun q hq => kx q hq.2.1)
        have hAt9 := Z9.out.bx.at
        clear kx hos9 hz9 Z8 F8 R8 T8 S8 U8 P8 P9 Z7 F7 R7 T7 S7 U7
        go_wp2_with fail
        go_roundw
        case rel => exact ⟨f0, ⟨3, 0, [t, r7.t]⟩, r7.pos, r7.k, nv7, some ⟨w7.heap.size, 0, none⟩, 2, by omega, by omega, hpos7.2.1, hpos7.2.2.1, by omega, HR7.out, Z9.out, F9.out, R9.out, hRo7, T9.out, hTo7, S9.out⟩
        case measure => rw [hAt9, hAt]; omega
end Go.Proofs.YtfbligcampbchaaGreatDoor
