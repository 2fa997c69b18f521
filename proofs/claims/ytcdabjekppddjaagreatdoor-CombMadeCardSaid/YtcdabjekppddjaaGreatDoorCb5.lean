/- Walks: one step, as the document says. -/
import Derived.Test.YtcdabjekppddjaaGreatDoorCb4
namespace Go.Proofs.YtcdabjekppddjaaGreatDoor
open Go.RowKit
set_option linter.unusedSimpArgs false
set_option linter.unusedVariables false
set_option maxRecDepth 8000

/-- What one step comes to. -/
def StPost (w : World) (X : Nat → Prop) (r : Option Tm) (e : Ending) (w' : World) : Prop :=
  Below w.heap.size w w' ∧ ((∃ x v, r = some x ∧ e = .returned (.tuple #[v, .bool true]) ∧ TV w' (fun b => (X b ∧ b < w.heap.size) ∨ w.heap.size ≤ b) v x) ∨ (r = none ∧ ∃ s a n c, e = .returned (.tuple #[.agg #[.string s, .slice a n c], .bool false])))

/-- Memory that what is made may lie in. -/
def StY (w : World) (X : Nat → Prop) (O : Nat) (b : Nat) : Prop := (X b ∧ b < w.heap.size) ∨ (w.heap.size + 2 ≤ b ∧ b ≠ O)
/-- What is laid while a step is made: the front's box, the box of what is made, the result's. -/
def StI (w w1 : World) (X : Nat → Prop) (h : Tm) (ah : Option Addr) (ch : Nat) (x : Tm) (wr : World) : Prop :=
  Below w.heap.size w wr ∧ Below w1.heap.size w1 wr ∧ Blk wr w1.heap.size #[.string h.name, .slice ah 0 ch] 24 ∧ Blk wr (w.heap.size + 1) #[.string ⟨#[]⟩, .slice none 0 0] 24 ∧ w1.heap.size + 1 < wr.heap.size ∧
  ∃ ax cx, Blk wr (w1.heap.size + 1) #[.string x.name, .slice ax x.args.length cx] 24 ∧ Sl wr (StY w X (w1.heap.size + 1)) ax x.args

theorem StI.below {w w1 wr w2 : World} {X : Nat → Prop} {h x : Tm} {ah : Option Addr} {ch : Nat} (hi : StI w w1 X h ah ch x wr) (hb : Below wr.heap.size wr w2) (hw : w.heap.size + 2 ≤ w1.heap.size) : StI w w1 X h ah ch x w2 := by
  obtain ⟨h1, h2, h3, h4, h5, ax, cx, h6, h7⟩ := hi
  have := h1.size
  have := hb.size
  exact ⟨h1.trans (hb.mono (by omega)), h2.trans (hb.mono (by omega)), h3.below hb (by omega), h4.below hb (by omega), by omega, ax, cx, h6.below hb (by omega), h7.later hb⟩
/-- Another one is stored. -/
theorem StI.put {w w1 wr : World} {X : Nat → Prop} {h x y : Tm} {ah ay : Option Addr} {ch cy : Nat} (hi : StI w w1 X h ah ch x wr) (hw : w.heap.size + 2 ≤ w1.heap.size) (hy : Sl wr (StY w X (w1.heap.size + 1)) ay y.args) :
    StI w w1 X h ah ch y ((wr.setCell ⟨w1.heap.size + 1, 0, none⟩ (.string y.name)).setCell ⟨w1.heap.size + 1, 1, none⟩ (.slice ay y.args.length cy)) := by
  obtain ⟨h1, h2, h3, h4, h5, ax, cx, h6, h7⟩ := hi
  refine ⟨(h1.setCell (p := ⟨w1.heap.size + 1, 0, none⟩) (by simp; omega) _).setCell (p := ⟨w1.heap.size + 1, 1, none⟩) (by simp; omega) _, (h2.setCell (p := ⟨w1.heap.size + 1, 0, none⟩) (by simp) _).setCell (p := ⟨w1.heap.size + 1, 1, none⟩) (by simp) _, (h3.setOther _ _ (by omega)).setOther _ _ (by omega), (h4.setOther _ _ (by omega)).setOther _ _ (by omega), by simp [World.setCell]; omega, ay, cy, (h6.set 0 _).set 1 _, ?_⟩
  refine hy.kept fun b hb => ?_
  have hne : b ≠ w1.heap.size + 1 := by rcases hb with hb | hb <;> omega
  rw [Below.heap_setCell _ _ _ _ (by simpa using hne), Below.heap_setCell _ _ _ _ (by simpa using hne)]
/-- What a call made may lie there. -/
theorem sty_new {w w1 wr w2 : World} {X : Nat → Prop} {a : Option Addr} {l : List Tm} (hs : Sl w2 (fun b => StY w X (w1.heap.size + 1) b ∨ wr.heap.size ≤ b) a l) (h5 : w1.heap.size + 1 < wr.heap.size) (hw : w.heap.size + 2 ≤ w1.heap.size) : Sl w2 (StY w X (w1.heap.size + 1)) a l :=
  hs.mono fun b hb _ => hb.elim id fun h => Or.inr ⟨by omega, by omega⟩
theorem sl_put {w w1 wr : World} {X : Nat → Prop} {a : Option Addr} {l : List Tm} (hs : Sl wr (StY w X (w1.heap.size + 1)) a l) (u u' : Value) : Sl ((wr.setCell ⟨w1.heap.size + 1, 0, none⟩ u).setCell ⟨w1.heap.size + 1, 1, none⟩ u') (StY w X (w1.heap.size + 1)) a l ∨ w.heap.size + 2 > w1.heap.size := by
  by_cases hw : w.heap.size + 2 ≤ w1.heap.size
  · refine Or.inl (hs.kept fun b hb => ?_)
    have hne : b ≠ w1.heap.size + 1 := by rcases hb with hb | hb <;> omega
    rw [Below.heap_setCell _ _ _ _ (by simpa using hne), Below.heap_setCell _ _ _ _ (by simpa using hne)]
  · exact Or.inr (by omega)
theorem StI.fin {w w1 wr : World} {X : Nat → Prop} {h x : Tm} {ah : Option Addr} {ch : Nat} {r : Option Tm} (hi : StI w w1 X h ah ch x wr) (hw : w.heap.size + 2 ≤ w1.heap.size) {ax : Option Addr} {cx : Nat} (hs : Sl wr (StY w X (w1.heap.size + 1)) ax x.args) (hr : r = some x) (u u' : Value) :
    StPost w X r (.returned (.tuple #[.agg #[.string x.name, .slice ax x.args.length cx], .bool true])) ((wr.setCell ⟨w.heap.size + 1, 0, none⟩ u).setCell ⟨w.heap.size + 1, 1, none⟩ u') := by
  obtain ⟨h1, h2, h3, h4, h5, _⟩ := hi
  refine ⟨(h1.setCell (p := ⟨w.heap.size + 1, 0, none⟩) (by simp) _).setCell (p := ⟨w.heap.size + 1, 1, none⟩) (by simp) _, Or.inl ⟨x, _, hr, rfl, ax, cx, rfl, ?_⟩⟩
  refine (hs.kept fun b hb => ?_).mono fun b hb _ => hb.imp id fun h => by omega
  have hne : b ≠ w.heap.size + 1 := by rcases hb with hb | hb <;> omega
  rw [Below.heap_setCell _ _ _ _ (by simpa using hne), Below.heap_setCell _ _ _ _ (by simpa using hne)]
/-- What the row that a term is says of its step. -/
structure RwF (n : Nat) (t H : Tm) (L : List Tm) : Prop where
  args : H.args = []
  len : L.length < sizeL [t]
  isC : ∀ j (hj : j < L.length), isC L[j] = true ∧ sizeL [L[j]] < sizeL [t]
  work : ∀ x, workC H.name L = some x → stepN (n + 1) t = some x
  non : workC H.name L = none → (∀ j (hj : j < L.length), stepN n L[j] = none) → stepN (n + 1) t = none
  som : ∀ (y : Tm) (i : Nat) (hi : i < L.length), workC H.name L = none → (∀ j (hj : j < i), stepN n (L[j]'(by omega)) = none) → stepN n L[i] = some y → stepN (n + 1) t = some (apAll H (L.set i y))
theorem rwF {n : Nat} {t : Tm} (hc : isC t = true) : ∃ H L, rowH t = H ∧ rowL t = L ∧ RwF n t H L := by
  obtain ⟨h1, h2, h3, h4⟩ := row_facts _ t (Nat.le_refl _) hc
  exact ⟨_, _, rfl, rfl, h1, h4, fun j hj => h3 _ (List.getElem_mem hj), fun x h => stepN_work h, fun h => stepN_none h, fun y i hi h => stepN_some h hi⟩
theorem drew_below {w w2 : World} (h : Below w.heap.size w.drew w2) : Below w.heap.size w w2 := (below_drewN (Below.refl _ _) 1).trans h
theorem four_keep {w w2 : World} {b1 i1 i2 b2 i3 i4 : Nat} {v1 v2 v3 v4 : Value} (hb : Below w.heap.size w.drew w2) (h : w.cell? ⟨b1, i1, none⟩ = some v1 ∧ w.cell? ⟨b1, i2, none⟩ = some v2 ∧ w.cell? ⟨b2, i3, none⟩ = some v3 ∧ w.cell? ⟨b2, i4, none⟩ = some v4) (h1 : b1 < w.heap.size) (h2 : b2 < w.heap.size) :
    w2.cell? ⟨b1, i1, none⟩ = some v1 ∧ w2.cell? ⟨b1, i2, none⟩ = some v2 ∧ w2.cell? ⟨b2, i3, none⟩ = some v3 ∧ w2.cell? ⟨b2, i4, none⟩ = some v4 :=
  ⟨(hb.cell (p := ⟨b1, i1, none⟩) h1).trans h.1, (hb.cell (p := ⟨b1, i2, none⟩) h1).trans h.2.1, (hb.cell (p := ⟨b2, i3, none⟩) h2).trans h.2.2.1, (hb.cell (p := ⟨b2, i4, none⟩) h2).trans h.2.2.2⟩
theorem apAll_from (x : Tm) (l : List Tm) (u k : Nat) (hu : u ≤ k) (hk : k < l.length) : apAll x ((l.drop u).take (k + 1 - u)) = apT (apAll x ((l.drop u).take (k - u))) l[k] := by
  rw [show k + 1 - u = (k - u) + 1 by omega, apAll_take _ _ _ (by simp; omega)]
  simp [show u + (k - u) = k by omega]

set_option maxHeartbeats 4000000 in
theorem docStep_any (n : Nat) : ∀ (t : Tm) (v : Value) (w : World) (X : Nat → Prop), sizeL [t] ≤ n → n ≤ 100000 → isC t = true → TV w X v t →
    Calls Tryz.prog 66 #[v] w fun e w' => StPost w X (stepN n t) e w' := by
  induction n with
  | zero => intro t v w X h; have := size_posC t; omega
  | succ n ih =>
    intro t v w X hn hm hc hv
    obtain ⟨a, c, rfl, hs⟩ := hv
    have IH := hide ih
    have HV : Hid (TV w (fun b => X b ∧ b < w.heap.size) (.agg #[.string t.name, .slice a t.args.length c]) t) := ⟨a, c, rfl, hs.mono fun b h1 h2 => ⟨h1, h2⟩⟩
    obtain ⟨H, L, eH, eL, HF⟩ := rwF (n := n) hc
    have HF := hide HF
    have hl := HF.out.len
    have hha := hide HF.out.args
    clear ih hs
    go_enter Tryz.func66, Tryz.ntmps66
    go_wp2_with fail
    refine (row_any (n + 1) t _ _ (fun b => X b ∧ b < w.heap.size) hn hm hc ((HV.out.alloc _).alloc _)).mono ?_
    rintro e w1 ⟨ah, ch, lv, xs, rfl, hrow, hb1⟩
    rw [eL] at hrow
    rw [eH]
    clear eL eH
    obtain ⟨al, cl, rfl, hsl⟩ := hrow.sl
    have hw : w.heap.size + 2 ≤ w1.heap.size := by have := hb1.size; simp at this; omega
    have HSL : Hid (Sl w1 (StY w X (w1.heap.size + 1)) al L) := hsl.mono fun b hb h => hb.elim (fun hb => Or.inl hb.1) fun hb => Or.inr ⟨by simp at hb; omega, by omega⟩
    have B1 : Hid (Below w.heap.size w w1) := (below2 _ _).trans (hb1.mono (by simp; omega))
    have T1 := hide (((Blk.new w #[.string t.name, .slice a t.args.length c] 24).alloc (.cells #[.string ⟨#[]⟩, .slice none 0 0] 24)).below hb1 (by simp; omega))
    have R1 : Hid (Blk w1 (w.heap.size + 1) #[.string ⟨#[]⟩, .slice none 0 0] 24) := by
      have h := (Blk.new (w.alloc (.cells #[.string t.name, .slice a t.args.length c] 24)) #[.string ⟨#[]⟩, .slice none 0 0] 24).below hb1 (by simp)
      unfold Hid
      simpa using h
    have I0 : Hid (∀ (y : Tm) (ay : Option Addr) (cy : Nat), Sl w1 (StY w X (w1.heap.size + 1)) ay y.args → StI w w1 X H ah ch y ((w1.alloc (.cells #[.string H.name, .slice ah 0 ch] 24)).alloc (.cells #[.string y.name, .slice ay y.args.length cy] 24))) := by
      intro y ay cy hy
      refine ⟨B1.out.trans ((below2 _ _).mono (by omega)), below2 _ _, (Blk.new w1 _ _).alloc _, (R1.out.alloc _).alloc _, by simp, ay, cy, ?_, hy.later (below2 _ _)⟩
      have h := Blk.new (w1.alloc (.cells #[.string H.name, .slice ah 0 ch] 24)) #[.string y.name, .slice ay y.args.length cy] 24
      simpa using h
    clear hrow hsl hb1 hc HV
    by_cases hi : H.name = iB ∧ 1 ≤ L.length
    · have hL0 : 0 < L.length := hi.2
      obtain ⟨hnm, hlen⟩ := hi
      have n1 : (H.name.toList == [105]) = true := nm_yes hnm
      have n2 : (H.name.toList == [107]) = false := nm_no (by rw [hnm]; decide)
      have n3 : (H.name.toList == [115]) = false := nm_no (by rw [hnm]; decide)
      have HWK : Hid (workC H.name L = some (apAll L[0] (L.drop 1))) := by
        unfold Hid
        rw [hnm]
        match L, hL0 with
        | x :: L, _ => exact workC_i x L
      clear hnm
      have g1 : decide ((L.length : Int) ≥ 1) = true := by simp; omega

      obtain ⟨b0, o0, a0, c0, e0, d0, d1, hx0⟩ := HSL.out.get (Below.refl _ _) (fun _ _ h => h) 0 hL0
      subst e0
      simp only [Nat.zero_mul, Nat.add_zero] at d0 d1
      have d0 : ∀ o1 o2, ((w1.alloc o1).alloc o2).cell? ⟨b0, o0, none⟩ = some (.string L[0].name) := fun o1 o2 => ((below2 o1 o2).cell (p := ⟨b0, o0, none⟩) (cbCell_lt d0)).trans d0
      have d1 : ∀ o1 o2, ((w1.alloc o1).alloc o2).cell? ⟨b0, o0 + 1, none⟩ = some (.slice a0 L[0].args.length c0) := fun o1 o2 => ((below2 o1 o2).cell (p := ⟨b0, o0 + 1, none⟩) (cbCell_lt d1)).trans d1
      have I1 := hide (I0.out L[0] a0 c0 (by obtain ⟨_, _, he, hh⟩ := hx0; cases he; exact hh))
      clear hx0
      go_wp2_with fail
      go_loopw [8] (fun i wr => ∃ k : Nat, 1 ≤ k ∧ k ≤ L.length ∧ i = .int .i64 (k : Int) ∧ StI w w1 X H ah ch (apAll L[0] ((L.drop 1).take (k - 1))) wr) (fun i wr => L.length - (intOf i).toNat)
      case atStart => exact ⟨1, Nat.le_refl _, hlen, rfl, by simpa [apAll] using I1.out⟩
      case round =>
        obtain ⟨k, hk0, hk, rfl, hI⟩ := hrel
        have HI := hide hI
        obtain ⟨p1, p2, p3, p4, p5, ax, cx, p6, p7⟩ := hI
        have o0' := p6.cell 0
        have o1 := p6.cell 1
        have of := p6.frozen
        have P6 := hide p6
        simp only [List.getElem?_toArray, List.getElem?_cons_succ, List.getElem?_cons_zero] at o0' o1
        have P2 := hide p2
        have P7 := hide p7
        by_cases hlt : k < L.length
        · clear d0 d1
          obtain ⟨_, _, a', c', eb, d0, d1, hx⟩ := HSL.out.get P2.out (fun _ _ h => h) k hlt
          cases eb
          have HX := hide hx
          have hbb : b0 < wr.heap.size := cbCell_lt d0
          have HST := hide (apAll_from L[0] L 1 k hk0 hlt)
          have HS0 := hide (And.intro o0' (And.intro o1 (And.intro d0 d1)))
          generalize apAll L[0] ((L.drop 1).take (k - 1)) = y at *
          clear p1 p2 p3 p4 p6 p7 hx
          go_wp2_with fail
          go_region_law (go_simp; go_at_call 23; refine (put2_any y L[k] _ _ _ (StY w X (w1.heap.size + 1)) (by exact ⟨ax, cx, rfl, P7.out.later (below_drewN (Below.refl _ _) 1)⟩) (by exact HX.out.later (below_drewN (Below.refl _ _) 1))).mono ?_; rintro e w2 ⟨v2, rfl, ⟨a2, c2, rfl, hs2⟩, hb2⟩; have hS1 := four_keep hb2 HS0.out (by omega) hbb; have x0 := hS1.1; have x1 := hS1.2.1; have HB2 := hide hb2; have HS2 := hide hs2; have of2 := (Blk.below (B := wr.heap.size) (Blk.drewN P6.out 1) (by exact hb2) (by omega)).frozen; clear hb2 hs2 hS1)
          all_goals
            go_wp2_with fail
            go_roundw
            case rel => exact ⟨k + 1, by omega, by omega, by go_num, by rw [HST.out]; exact (HI.out.below (drew_below HB2.out) hw).put hw (sty_new HS2.out p5 hw)⟩
            case measure => simp [intOf]; omega
        · have htk : (L.drop 1).take (k - 1) = L.drop 1 := List.take_of_length_le (by simp; omega)
          rw [htk] at o0' o1
          have HI2 : Hid (StI w w1 X H ah ch (apAll L[0] (L.drop 1)) wr) := by have h := HI.out; rw [htk] at h; exact h
          have P72 : Hid (Sl wr (StY w X (w1.heap.size + 1)) ax (apAll L[0] (L.drop 1)).args) := by have h := P7.out; rw [htk] at h; exact h
          have r0 := p4.cell 0
          have r1 := p4.cell 1
          have rf := p4.frozen
          simp only [List.getElem?_toArray, List.getElem?_cons_succ, List.getElem?_cons_zero] at r0 r1
          clear p1 p2 p3 p4 p6 p7
          go_wp2_with fail
          refine bodyPost_ret (v := .tuple #[.agg #[.string (apAll L[0] (L.drop 1)).name, .slice ax (apAll L[0] (L.drop 1)).args.length cx], .bool true]) (by simp [results, Tryz.results66, go_sem, World.cell?_setCell_same, World.cell?_setCell_other, r0, r1]) rfl ?_
          exact HI2.out.fin hw P72.out (HF.out.work _ HWK.out) _ _

    · by_cases hk : H.name = kB ∧ 2 ≤ L.length
      · have hL0 : 1 < L.length := hk.2
        obtain ⟨hnm, hlen⟩ := hk
        have n1 : (H.name.toList == [107]) = true := nm_yes hnm
        have n2 : (H.name.toList == [105]) = false := nm_no (by rw [hnm]; decide)
        have n3 : (H.name.toList == [115]) = false := nm_no (by rw [hnm]; decide)
        have HWK : Hid (workC H.name L = some (apAll L[0] (L.drop 2))) := by
          unfold Hid
          rw [hnm]
          match L, hL0 with
          | x :: y :: L, _ => exact workC_k x y L
        clear hnm
        have g1 : decide ((L.length : Int) ≥ 2) = true := by simp; omega

        obtain ⟨b0, o0, a0, c0, e0, d0, d1, hx0⟩ := HSL.out.get (Below.refl _ _) (fun _ _ h => h) 0 (by omega)
        subst e0
        simp only [Nat.zero_mul, Nat.add_zero] at d0 d1
        have d0 : ∀ o1 o2, ((w1.alloc o1).alloc o2).cell? ⟨b0, o0, none⟩ = some (.string L[0].name) := fun o1 o2 => ((below2 o1 o2).cell (p := ⟨b0, o0, none⟩) (cbCell_lt d0)).trans d0
        have d1 : ∀ o1 o2, ((w1.alloc o1).alloc o2).cell? ⟨b0, o0 + 1, none⟩ = some (.slice a0 L[0].args.length c0) := fun o1 o2 => ((below2 o1 o2).cell (p := ⟨b0, o0 + 1, none⟩) (cbCell_lt d1)).trans d1
        have I1 := hide (I0.out L[0] a0 c0 (by obtain ⟨_, _, he, hh⟩ := hx0; cases he; exact hh))
        clear hx0 hi
        go_wp2_with fail
        go_loopw [8] (fun i wr => ∃ k : Nat, 2 ≤ k ∧ k ≤ L.length ∧ i = .int .i64 (k : Int) ∧ StI w w1 X H ah ch (apAll L[0] ((L.drop 2).take (k - 2))) wr) (fun i wr => L.length - (intOf i).toNat)
        case atStart => exact ⟨2, Nat.le_refl _, hlen, rfl, by simpa [apAll] using I1.out⟩
        case round =>
          obtain ⟨k, hk0, hk, rfl, hI⟩ := hrel
          have HI := hide hI
          obtain ⟨p1, p2, p3, p4, p5, ax, cx, p6, p7⟩ := hI
          have o0' := p6.cell 0
          have o1 := p6.cell 1
          have of := p6.frozen
          have P6 := hide p6
          simp only [List.getElem?_toArray, List.getElem?_cons_succ, List.getElem?_cons_zero] at o0' o1
          have P2 := hide p2
          have P7 := hide p7
          by_cases hlt : k < L.length
          · clear d0 d1
            obtain ⟨_, _, a', c', eb, d0, d1, hx⟩ := HSL.out.get P2.out (fun _ _ h => h) k hlt
            cases eb
            have HX := hide hx
            have hbb : b0 < wr.heap.size := cbCell_lt d0
            have HST := hide (apAll_from L[0] L 2 k hk0 hlt)
            have HS0 := hide (And.intro o0' (And.intro o1 (And.intro d0 d1)))
            generalize apAll L[0] ((L.drop 2).take (k - 2)) = y at *
            clear p1 p2 p3 p4 p6 p7 hx
            go_wp2_with fail
            go_region_law (go_simp; go_at_call 23; refine (put2_any y L[k] _ _ _ (StY w X (w1.heap.size + 1)) (by exact ⟨ax, cx, rfl, P7.out.later (below_drewN (Below.refl _ _) 1)⟩) (by exact HX.out.later (below_drewN (Below.refl _ _) 1))).mono ?_; rintro e w2 ⟨v2, rfl, ⟨a2, c2, rfl, hs2⟩, hb2⟩; have hS1 := four_keep hb2 HS0.out (by omega) hbb; have x0 := hS1.1; have x1 := hS1.2.1; have HB2 := hide hb2; have HS2 := hide hs2; have of2 := (Blk.below (B := wr.heap.size) (Blk.drewN P6.out 1) (by exact hb2) (by omega)).frozen; clear hb2 hs2 hS1)
            all_goals
              go_wp2_with fail
              go_roundw
              case rel => exact ⟨k + 1, by omega, by omega, by go_num, by rw [HST.out]; exact (HI.out.below (drew_below HB2.out) hw).put hw (sty_new HS2.out p5 hw)⟩
              case measure => simp [intOf]; omega
          · have htk : (L.drop 2).take (k - 2) = L.drop 2 := List.take_of_length_le (by simp; omega)
            rw [htk] at o0' o1
            have HI2 : Hid (StI w w1 X H ah ch (apAll L[0] (L.drop 2)) wr) := by have h := HI.out; rw [htk] at h; exact h
            have P72 : Hid (Sl wr (StY w X (w1.heap.size + 1)) ax (apAll L[0] (L.drop 2)).args) := by have h := P7.out; rw [htk] at h; exact h
            have r0 := p4.cell 0
            have r1 := p4.cell 1
            have rf := p4.frozen
            simp only [List.getElem?_toArray, List.getElem?_cons_succ, List.getElem?_cons_zero] at r0 r1
            clear p1 p2 p3 p4 p6 p7
            go_wp2_with fail
            refine bodyPost_ret (v := .tuple #[.agg #[.string (apAll L[0] (L.drop 2)).name, .slice ax (apAll L[0] (L.drop 2)).args.length cx], .bool true]) (by simp [results, Tryz.results66, go_sem, World.cell?_setCell_same, World.cell?_setCell_other, r0, r1]) rfl ?_
            exact HI2.out.fin hw P72.out (HF.out.work _ HWK.out) _ _

      · by_cases hss : H.name = sB ∧ 3 ≤ L.length
        · have hL0 : 2 < L.length := hss.2
          obtain ⟨hnm, hlen⟩ := hss
          have n1 : (H.name.toList == [115]) = true := nm_yes hnm
          have n2 : (H.name.toList == [105]) = false := nm_no (by rw [hnm]; decide)
          have n3 : (H.name.toList == [107]) = false := nm_no (by rw [hnm]; decide)
          have HWK : Hid (workC H.name L = some (apAll (apT (apT L[0] L[2]) (apT L[1] L[2])) (L.drop 3))) := by
            unfold Hid
            rw [hnm]
            match L, hL0 with
            | x :: y :: z :: L, _ => exact workC_s x y z L
          clear hnm
          have g1 : decide ((L.length : Int) ≥ 3) = true := by simp; omega

          have HI0 := hide (I0.out ⟨⟨#[]⟩, []⟩ none 0 ⟨by simp, Or.inl rfl⟩)
          obtain ⟨b0, o0, a0, c0, e0, d0, d1, hx0⟩ := HSL.out.get (Below.refl _ _) (fun _ _ h => h) 0 (by omega)
          obtain ⟨_, _, a1, c1, e1, d2, d3, hx1⟩ := HSL.out.get (Below.refl _ _) (fun _ _ h => h) 1 (by omega)
          obtain ⟨_, _, a2, c2, e2, d4, d5, hx2⟩ := HSL.out.get (Below.refl _ _) (fun _ _ h => h) 2 (by omega)
          rw [e0] at e1 e2
          cases e1
          cases e2
          subst e0
          simp only [Nat.zero_mul, Nat.add_zero, Nat.one_mul] at d0 d1 d2 d3 d4 d5
          have HX0 := hide hx0
          have HX1 := hide hx1
          have HX2 := hide hx2
          have HC6 : Hid (∀ w', Below w1.heap.size w1 w' → w'.cell? ⟨b0, o0, none⟩ = some (.string L[0].name) ∧ w'.cell? ⟨b0, o0 + 1, none⟩ = some (.slice a0 L[0].args.length c0) ∧ w'.cell? ⟨b0, o0 + 2, none⟩ = some (.string L[1].name) ∧ w'.cell? ⟨b0, o0 + 3, none⟩ = some (.slice a1 L[1].args.length c1) ∧ w'.cell? ⟨b0, o0 + 4, none⟩ = some (.string L[2].name) ∧ w'.cell? ⟨b0, o0 + 5, none⟩ = some (.slice a2 L[2].args.length c2)) := fun w' hb =>
            have hlt := cbCell_lt d0
            ⟨(hb.cell (p := ⟨b0, o0, none⟩) hlt).trans d0, (hb.cell (p := ⟨b0, o0 + 1, none⟩) hlt).trans d1, (hb.cell (p := ⟨b0, o0 + 2, none⟩) hlt).trans d2, (hb.cell (p := ⟨b0, o0 + 3, none⟩) hlt).trans d3, (hb.cell (p := ⟨b0, o0 + 4, none⟩) hlt).trans d4, (hb.cell (p := ⟨b0, o0 + 5, none⟩) hlt).trans d5⟩
          clear d0 d1 d2 d3 d4 d5 hx0 hx1 hx2 hi hk
          go_wp2_with fail
          have HB0 : Hid (Below w1.heap.size w1 ((w1.alloc (.cells #[.string H.name, .slice ah 0 ch] 24)).alloc (.cells #[.string ⟨#[]⟩, .slice none 0 0] 24))) := below2 _ _
          dsimp only [List.length_nil] at HI0
          generalize ((w1.alloc (.cells #[.string H.name, .slice ah 0 ch] 24)).alloc (.cells #[.string ⟨#[]⟩, .slice none 0 0] 24)) = w0 at *
          have hs0 := HB0.out.size
          have HSS := hide (HC6.out _ HB0.out)
          have j0 : (0 : Int) < (L.length : Int) := by omega
          have j1 : (1 : Int) < (L.length : Int) := by omega
          have j2 : (2 : Int) < (L.length : Int) := by omega
          have j3 : 0 < L.length := by omega
          have j4 : 1 < L.length := by omega
          go_region_held3 (fun w' => w'.cell? ⟨b0, o0, none⟩ = some (.string L[0].name) ∧ w'.cell? ⟨b0, o0 + 1, none⟩ = some (.slice a0 L[0].args.length c0) ∧ w'.cell? ⟨b0, o0 + 2, none⟩ = some (.string L[1].name) ∧ w'.cell? ⟨b0, o0 + 3, none⟩ = some (.slice a1 L[1].args.length c1) ∧ w'.cell? ⟨b0, o0 + 4, none⟩ = some (.string L[2].name) ∧ w'.cell? ⟨b0, o0 + 5, none⟩ = some (.slice a2 L[2].args.length c2)) (first | exact HSS.out | exact HC6.out _ ((k4.setCell (by simp) _).setCell (by simp) _) | exact HC6.out _ k4 | exact HC6.out _ k3 | exact HC6.out _ k2 | go_keep)
            (first
              | (go_at_call 23; refine (put2_any L[0] L[2] _ _ _ (StY w X (w1.heap.size + 1)) (by exact (HX0.out.later HB0.out).later (below_drewN (Below.refl _ _) 1)) (by exact (HX2.out.later HB0.out).later (below_drewN (Below.refl _ _) 1))).mono ?_; rintro e w2 ⟨v2, rfl, ⟨y2, z2, rfl, hs2⟩, hb2⟩; have h2 := drew_below (w := w0) hb2; have k2 := HB0.out.trans (h2.mono hs0); have H2 := hide h2; have HS2 := hide hs2; clear hb2 hs2 h2)
              | (go_at_call 23; refine (put2_any L[1] L[2] _ _ _ (StY w X (w1.heap.size + 1)) (by exact HX1.out.later k2) (by exact HX2.out.later k2)).mono ?_; rintro e w3 ⟨v3, rfl, ⟨y3, z3, rfl, hs3⟩, hb3⟩; have h3 := H2.out.trans (hb3.mono H2.out.size); have k3 := HB0.out.trans (h3.mono hs0); have H3 := hide h3; have HS3 := hide hs3; have HS2' := hide (HS2.out.later hb3); clear hb3 hs3 h3)
              | (go_at_call 23; refine (put2_any (apT L[0] L[2]) (apT L[1] L[2]) _ _ _ (StY w X (w1.heap.size + 1)) (by exact ⟨y2, z2, rfl, sty_new HS2'.out HI0.out.2.2.2.2.1 hw⟩) (by exact ⟨y3, z3, rfl, sty_new HS3.out (by have := H2.out.size; have := HI0.out.2.2.2.2.1; omega) hw⟩)).mono ?_; rintro e w4 ⟨v4, rfl, ⟨y4, z4, rfl, hs4⟩, hb4⟩; have h4 := H3.out.trans (hb4.mono H3.out.size); have k4 := HB0.out.trans (h4.mono hs0); have HI4 := hide (HI0.out.below h4 hw); have HS4 := hide (sty_new hs4 (by have := H3.out.size; have := HI0.out.2.2.2.2.1; omega) hw); obtain ⟨_, _, _, _, _, _, _, g6, _⟩ := HI4.out; have x0 := g6.cell 0; have x1 := g6.cell 1; have xf := g6.frozen; simp only [List.getElem?_toArray, List.getElem?_cons_succ, List.getElem?_cons_zero] at x0 x1; clear hb4 hs4 h4 g6))
          have I1 := hide (HI4.out.put (y := apT (apT L[0] L[2]) (apT L[1] L[2])) (ay := y4) (cy := z4) hw HS4.out)
          clear x0 x1 xf k2 k3 k4 H2 H3 HS2 HS3 HS2' HI0 HI4 HS4
          go_wp2_with fail
          go_loopw [8] (fun i wr => ∃ k : Nat, 3 ≤ k ∧ k ≤ L.length ∧ i = .int .i64 (k : Int) ∧ StI w w1 X H ah ch (apAll (apT (apT L[0] L[2]) (apT L[1] L[2])) ((L.drop 3).take (k - 3))) wr) (fun i wr => L.length - (intOf i).toNat)
          case atStart => exact ⟨3, Nat.le_refl _, hlen, rfl, by simpa [apAll] using I1.out⟩
          case round =>
            obtain ⟨k, hk0, hk, rfl, hI⟩ := hrel
            have HI := hide hI
            obtain ⟨p1, p2, p3, p4, p5, ax, cx, p6, p7⟩ := hI
            have o0' := p6.cell 0
            have o1 := p6.cell 1
            have of := p6.frozen
            have P6 := hide p6
            simp only [List.getElem?_toArray, List.getElem?_cons_succ, List.getElem?_cons_zero] at o0' o1
            have P2 := hide p2
            have P7 := hide p7
            by_cases hlt : k < L.length
            · skip
              obtain ⟨_, _, a', c', eb, d0, d1, hx⟩ := HSL.out.get P2.out (fun _ _ h => h) k hlt
              cases eb
              have HX := hide hx
              have hbb : b0 < wr.heap.size := cbCell_lt d0
              have HST := hide (apAll_from (apT (apT L[0] L[2]) (apT L[1] L[2])) L 3 k hk0 hlt)
              have HS0 := hide (And.intro o0' (And.intro o1 (And.intro d0 d1)))
              generalize apAll (apT (apT L[0] L[2]) (apT L[1] L[2])) ((L.drop 3).take (k - 3)) = y at *
              clear p1 p2 p3 p4 p6 p7 hx
              go_wp2_with fail
              go_region_law (go_simp; go_at_call 23; refine (put2_any y L[k] _ _ _ (StY w X (w1.heap.size + 1)) (by exact ⟨ax, cx, rfl, P7.out.later (below_drewN (Below.refl _ _) 1)⟩) (by exact HX.out.later (below_drewN (Below.refl _ _) 1))).mono ?_; rintro e w2 ⟨v2, rfl, ⟨a2, c2, rfl, hs2⟩, hb2⟩; have hS1 := four_keep hb2 HS0.out (by omega) hbb; have x0 := hS1.1; have x1 := hS1.2.1; have HB2 := hide hb2; have HS2 := hide hs2; have of2 := (Blk.below (B := wr.heap.size) (Blk.drewN P6.out 1) (by exact hb2) (by omega)).frozen; clear hb2 hs2 hS1)
              all_goals
                go_wp2_with fail
                go_roundw
                case rel => exact ⟨k + 1, by omega, by omega, by go_num, by rw [HST.out]; exact (HI.out.below (drew_below HB2.out) hw).put hw (sty_new HS2.out p5 hw)⟩
                case measure => simp [intOf]; omega
            · have htk : (L.drop 3).take (k - 3) = L.drop 3 := List.take_of_length_le (by simp; omega)
              rw [htk] at o0' o1
              have HI2 : Hid (StI w w1 X H ah ch (apAll (apT (apT L[0] L[2]) (apT L[1] L[2])) (L.drop 3)) wr) := by have h := HI.out; rw [htk] at h; exact h
              have P72 : Hid (Sl wr (StY w X (w1.heap.size + 1)) ax (apAll (apT (apT L[0] L[2]) (apT L[1] L[2])) (L.drop 3)).args) := by have h := P7.out; rw [htk] at h; exact h
              have r0 := p4.cell 0
              have r1 := p4.cell 1
              have rf := p4.frozen
              simp only [List.getElem?_toArray, List.getElem?_cons_succ, List.getElem?_cons_zero] at r0 r1
              clear p1 p2 p3 p4 p6 p7
              go_wp2_with fail
              refine bodyPost_ret (v := .tuple #[.agg #[.string (apAll (apT (apT L[0] L[2]) (apT L[1] L[2])) (L.drop 3)).name, .slice ax (apAll (apT (apT L[0] L[2]) (apT L[1] L[2])) (L.drop 3)).args.length cx], .bool true]) (by simp [results, Tryz.results66, go_sem, World.cell?_setCell_same, World.cell?_setCell_other, r0, r1]) rfl ?_
              exact HI2.out.fin hw P72.out (HF.out.work _ HWK.out) _ _

        · have HW := hide (workC_none hi hk hss)
          have HI0 := hide (I0.out ⟨⟨#[]⟩, []⟩ none 0 ⟨by simp, Or.inl rfl⟩)
          by_cases zi : H.name = iB
          · have n1 : (H.name.toList == [105]) = true := nm_yes zi
            have n2 : (H.name.toList == [107]) = false := nm_no (by rw [zi]; decide)
            have n3 : (H.name.toList == [115]) = false := nm_no (by rw [zi]; decide)
            have g1 : decide ((L.length : Int) ≥ 1) = false := decide_eq_false (fun h => hi ⟨zi, by omega⟩)
            clear zi hi hk hss
            go_wp2_with fail
            go_loopw [9] (fun i wr => ∃ k : Nat, k ≤ L.length ∧ i = .int .i64 (k : Int) ∧ (∀ j (hj : j < k) (hk : k ≤ L.length), stepN n (L[j]'(by omega)) = none) ∧ StI w w1 X H ah ch ⟨⟨#[]⟩, []⟩ wr) (fun i wr => L.length - (intOf i).toNat)
            case atStart => exact ⟨0, Nat.zero_le _, rfl, fun j hj => by omega, HI0.out⟩
            case round =>
              obtain ⟨k, hk, rfl, hno, hI⟩ := hrel
              have HI := hide hI
              have HNO := hide hno
              obtain ⟨p1, p2, p3, p4, p5, ax, cx, p6, p7⟩ := hI
              have P2 := hide p2
              by_cases hlt : k < L.length
              · obtain ⟨b, o, a', c', rfl, d0, d1, hx⟩ := HSL.out.get P2.out (fun _ _ h => h) k hlt
                have HX := hide hx
                have hbb : b < w1.heap.size := by
                  obtain ⟨_, _, _, _, e9, d9, _⟩ := HSL.out.get (Below.refl _ _) (fun _ _ h => h) k hlt
                  cases e9
                  exact cbCell_lt d9
                clear p1 p2 p3 p4 p6 p7 hx hno
                go_wp2_with fail
                refine (IH.out L[k] _ _ (StY w X (w1.heap.size + 1)) (by have := (HF.out.isC k hlt).2; omega) (by omega) (HF.out.isC k hlt).1 HX.out).mono ?_
                rintro e w2 ⟨hb2, ⟨x, v2, hst, rfl, ⟨a2, c2, rfl, hs2⟩⟩ | ⟨hst, s2, a2, n2, c2, rfl⟩⟩
                · have HSM := hide (HF.out.som x k hlt HW.out (fun j hj => HNO.out j hj hk) hst)
                  have hs2b : Sl w2 (StY w X (w1.heap.size + 1)) a2 x.args := hs2.mono fun b hb _ => hb.elim And.left fun h => Or.inr ⟨by omega, by omega⟩
                  have HIW := hide (HI.out.below hb2 hw)
                  have hpw : w1.heap.size + 1 < w2.heap.size := by have := hb2.size; omega
                  have I2 : Hid (StI w w1 X H ah ch H (((w2.setCell ⟨w1.heap.size + 1, 0, none⟩ (.string H.name)).setCell ⟨w1.heap.size + 1, 1, none⟩ (.slice ah 0 ch)).alloc (.cells #[.string x.name, .slice a2 x.args.length c2] 24))) := by
                    have h := (HIW.out.put (y := H) (ay := ah) (cy := ch) hw ⟨by rw [hha.out]; simp, Or.inl hha.out⟩).below ((Below.refl _ _).alloc (Nat.le_refl _) (.cells #[.string x.name, .slice a2 x.args.length c2] 24)) hw
                    rw [show H.args.length = 0 by rw [hha.out]; rfl] at h
                    exact h
                  have HP2 : Hid (Blk (((w2.setCell ⟨w1.heap.size + 1, 0, none⟩ (.string H.name)).setCell ⟨w1.heap.size + 1, 1, none⟩ (.slice ah 0 ch)).alloc (.cells #[.string x.name, .slice a2 x.args.length c2] 24)) w2.heap.size #[.string x.name, .slice a2 x.args.length c2] 24) := by
                    have h := Blk.new ((w2.setCell ⟨w1.heap.size + 1, 0, none⟩ (.string H.name)).setCell ⟨w1.heap.size + 1, 1, none⟩ (.slice ah 0 ch)) #[.string x.name, .slice a2 x.args.length c2] 24
                    unfold Hid
                    simpa [World.setCell] using h
                  have HS2 : Hid (Sl (((w2.setCell ⟨w1.heap.size + 1, 0, none⟩ (.string H.name)).setCell ⟨w1.heap.size + 1, 1, none⟩ (.slice ah 0 ch)).alloc (.cells #[.string x.name, .slice a2 x.args.length c2] 24)) (StY w X (w1.heap.size + 1)) a2 x.args) := ((sl_put hs2b _ _).resolve_right (by omega)).later ((Below.refl _ _).alloc (Nat.le_refl _) _)
                  clear hs2 hs2b hb2 hst d0 d1
                  obtain ⟨_, _, q3, _, _, _, _, q6, _⟩ := HIW.out
                  have y0 : ∀ o, (w2.alloc o).cell? ⟨w1.heap.size, 0, none⟩ = some (.string H.name) := fun o => (q3.alloc o).cell 0
                  have y1 : ∀ o, (w2.alloc o).cell? ⟨w1.heap.size, 1, none⟩ = some (.slice ah 0 ch) := fun o => (q3.alloc o).cell 1
                  have y2 := q6.cell 0
                  have y3 := q6.cell 1
                  have y4 := q6.frozen
                  simp only [List.getElem?_toArray, List.getElem?_cons_succ, List.getElem?_cons_zero] at y2 y3
                  clear q3 q6
                  go_wp2_with fail
                  clear y0 y1 y2 y3 y4
                  go_loopw [12] (fun i wr2 => ∃ m : Nat, m ≤ L.length ∧ i = .int .i64 (m : Int) ∧ StI w w1 X H ah ch (apAll H ((L.set k x).take m)) wr2 ∧ Blk wr2 w2.heap.size #[.string x.name, .slice a2 x.args.length c2] 24 ∧ Sl wr2 (StY w X (w1.heap.size + 1)) a2 x.args) (fun i wr2 => L.length - (intOf i).toNat)
                  case atStart => exact ⟨0, Nat.zero_le _, rfl, by simpa [apAll] using I2.out, HP2.out, HS2.out⟩
                  case round =>
                    obtain ⟨m, hm, rfl, hI3, hP3, hS3⟩ := hrel
                    have HI3 := hide hI3
                    have HP3 := hide hP3
                    have HS3 := hide hS3
                    obtain ⟨p1, p2, p3, p4, p5', ax3, cx3, p6, p7⟩ := hI3
                    have P2' := hide p2
                    have P7 := hide p7
                    have P6 := hide p6
                    have o0' := p6.cell 0
                    have o1 := p6.cell 1
                    have of := p6.frozen
                    have x0 := hP3.cell 0
                    have x1 := hP3.cell 1
                    have hpl := hP3.lt
                    simp only [List.getElem?_toArray, List.getElem?_cons_succ, List.getElem?_cons_zero] at o0' o1 x0 x1
                    by_cases hml : m < L.length
                    · by_cases hmk : m = k
                      · subst hmk
                        have HST : Hid (apAll H ((L.set m x).take (m + 1)) = apT (apAll H ((L.set m x).take m)) x) := by
                          unfold Hid
                          rw [apAll_take _ _ _ (by simpa using hml)]; simp
                        generalize apAll H ((L.set m x).take m) = y at *
                        clear p1 p2 p3 p4 p6 p7 hP3 hS3
                        go_wp2_with (go_at_call 23; refine (put2_any y x _ _ _ (StY w X (w1.heap.size + 1)) (by exact ⟨ax3, cx3, rfl, P7.out⟩) (by exact ⟨a2, c2, rfl, HS3.out⟩)).mono ?_; rintro e w3 ⟨v3, rfl, ⟨a3, c3, rfl, hs3⟩, hb3⟩; have HB3 := hide hb3; have HS3b := hide hs3; have z6 := P6.out.below hb3 (by omega); have z0 := z6.cell 0; have z1 := z6.cell 1; have zf := z6.frozen; simp only [List.getElem?_toArray, List.getElem?_cons_succ, List.getElem?_cons_zero] at z0 z1; clear z6 hb3 hs3)
                        go_roundw
                        case rel => exact ⟨m + 1, by omega, by go_num, by rw [HST.out]; exact (HI3.out.below HB3.out hw).put hw (sty_new HS3b.out p5' hw), ((HP3.out.below HB3.out (by omega)).setOther _ _ (by omega)).setOther _ _ (by omega), (sl_put (HS3.out.later HB3.out) _ _).resolve_right (by omega)⟩
                        case measure => simp [intOf]; omega
                      · have hmi : ((m : Int) == (k : Int)) = false := beq_eq_false_iff_ne.2 (by omega)
                        obtain ⟨_, _, a', c', eb, d0, d1, hx⟩ := HSL.out.get P2'.out (fun _ _ h => h) m hml
                        cases eb
                        have HX2 := hide hx
                        have hbb2 : b < wr.heap.size := cbCell_lt d0
                        have HST : Hid (apAll H ((L.set k x).take (m + 1)) = apT (apAll H ((L.set k x).take m)) L[m]) := by
                          unfold Hid
                          rw [apAll_take _ _ _ (by simpa using hml)]; simp [List.getElem_set, show ¬ k = m by omega]
                        have HS0 := hide (And.intro o0' (And.intro o1 (And.intro d0 d1)))
                        generalize apAll H ((L.set k x).take m) = y at *
                        clear p1 p2 p3 p4 p6 p7 hP3 hS3 hx hmk
                        go_wp2_with fail
                        go_region_law (go_simp; go_at_call 23; refine (put2_any y L[m] _ _ _ (StY w X (w1.heap.size + 1)) (by exact ⟨ax3, cx3, rfl, P7.out.later (below_drewN (Below.refl _ _) 1)⟩) (by exact HX2.out.later (below_drewN (Below.refl _ _) 1))).mono ?_; rintro e w3 ⟨v3, rfl, ⟨a3, c3, rfl, hs3⟩, hb3⟩; have hS1 := four_keep hb3 HS0.out (by omega) hbb2; have z0 := hS1.1; have z1 := hS1.2.1; have HB3 := hide hb3; have HS3b := hide hs3; have of2 := (Blk.below (B := wr.heap.size) (Blk.drewN P6.out 1) (by exact hb3) (by omega)).frozen; clear hb3 hs3 hS1)
                        all_goals
                          go_wp2_with fail
                          go_roundw
                          case rel => exact ⟨m + 1, by omega, by go_num, by rw [HST.out]; exact (HI3.out.below (drew_below HB3.out) hw).put hw (sty_new HS3b.out p5' hw), ((HP3.out.below (drew_below HB3.out) (by omega)).setOther _ _ (by omega)).setOther _ _ (by omega), (sl_put (HS3.out.later (drew_below HB3.out)) _ _).resolve_right (by omega)⟩
                          case measure => simp [intOf]; omega
                    · have htk : (L.set k x).take m = L.set k x := List.take_of_length_le (by simp; omega)
                      rw [htk] at o0' o1
                      have HI2 : Hid (StI w w1 X H ah ch (apAll H (L.set k x)) wr) := by have h := HI3.out; rw [htk] at h; exact h
                      have P72 : Hid (Sl wr (StY w X (w1.heap.size + 1)) ax3 (apAll H (L.set k x)).args) := by have h := P7.out; rw [htk] at h; exact h
                      have r0 := p4.cell 0
                      have r1 := p4.cell 1
                      have rf := p4.frozen
                      simp only [List.getElem?_toArray, List.getElem?_cons_succ, List.getElem?_cons_zero] at r0 r1
                      clear p1 p2 p3 p4 p6 p7 hP3 hS3
                      go_wp2_with fail
                      refine bodyPost_ret (v := .tuple #[.agg #[.string (apAll H (L.set k x)).name, .slice ax3 (apAll H (L.set k x)).args.length cx3], .bool true]) (by simp [results, Tryz.results66, go_sem, World.cell?_setCell_same, World.cell?_setCell_other, r0, r1]) rfl ?_
                      exact HI2.out.fin hw P72.out HSM.out _ _
                · have HN1 := hide hst
                  have HI2 := hide ((HI.out.below hb2 hw).below ((Below.refl _ _).alloc (Nat.le_refl _) (.cells #[.string s2, .slice a2 n2 c2] 24)) hw)
                  clear hb2 hst
                  go_wp2_with fail
                  go_roundw
                  case rel => exact ⟨k + 1, by omega, by go_num, fun j hj hk => by by_cases e9 : j = k; subst e9; exact HN1.out; exact HNO.out j (by omega) (by omega), HI2.out⟩
                  case measure => simp [intOf]; omega
              · have hke : k = L.length := by omega
                have HFN := hide (HF.out.non HW.out (fun j hj => HNO.out j (by omega) hk))
                have r0 := p4.cell 0
                have r1 := p4.cell 1
                have rf := p4.frozen
                simp only [List.getElem?_toArray, List.getElem?_cons_succ, List.getElem?_cons_zero] at r0 r1
                have t0 : wr.cell? ⟨w.heap.size, 0, none⟩ = some (.string t.name) := (T1.out.below P2.out (by omega)).cell 0
                have t1 : wr.cell? ⟨w.heap.size, 1, none⟩ = some (.slice a t.args.length c) := (T1.out.below P2.out (by omega)).cell 1
                have P1 := hide p1
                clear p1 p2 p3 p4 p6 p7 hno
                go_wp2_with fail
                refine bodyPost_ret (v := .tuple #[.agg #[.string t.name, .slice a t.args.length c], .bool false]) (by simp [results, Tryz.results66, go_sem, World.cell?_setCell_same, World.cell?_setCell_other, r0, r1]) rfl ?_
                exact ⟨(P1.out.setCell (p := ⟨w.heap.size + 1, 0, none⟩) (by simp) _).setCell (p := ⟨w.heap.size + 1, 1, none⟩) (by simp) _, Or.inr ⟨HFN.out, _, _, _, _, rfl⟩⟩
          · skip
            by_cases zk : H.name = kB
            · have n1 : (H.name.toList == [107]) = true := nm_yes zk
              have n2 : (H.name.toList == [105]) = false := nm_no (by rw [zk]; decide)
              have n3 : (H.name.toList == [115]) = false := nm_no (by rw [zk]; decide)
              have g1 : decide ((L.length : Int) ≥ 2) = false := decide_eq_false (fun h => hk ⟨zk, by omega⟩)
              clear zk hi hk hss
              go_wp2_with fail
              go_loopw [9] (fun i wr => ∃ k : Nat, k ≤ L.length ∧ i = .int .i64 (k : Int) ∧ (∀ j (hj : j < k) (hk : k ≤ L.length), stepN n (L[j]'(by omega)) = none) ∧ StI w w1 X H ah ch ⟨⟨#[]⟩, []⟩ wr) (fun i wr => L.length - (intOf i).toNat)
              case atStart => exact ⟨0, Nat.zero_le _, rfl, fun j hj => by omega, HI0.out⟩
              case round =>
                obtain ⟨k, hk, rfl, hno, hI⟩ := hrel
                have HI := hide hI
                have HNO := hide hno
                obtain ⟨p1, p2, p3, p4, p5, ax, cx, p6, p7⟩ := hI
                have P2 := hide p2
                by_cases hlt : k < L.length
                · obtain ⟨b, o, a', c', rfl, d0, d1, hx⟩ := HSL.out.get P2.out (fun _ _ h => h) k hlt
                  have HX := hide hx
                  have hbb : b < w1.heap.size := by
                    obtain ⟨_, _, _, _, e9, d9, _⟩ := HSL.out.get (Below.refl _ _) (fun _ _ h => h) k hlt
                    cases e9
                    exact cbCell_lt d9
                  clear p1 p2 p3 p4 p6 p7 hx hno
                  go_wp2_with fail
                  refine (IH.out L[k] _ _ (StY w X (w1.heap.size + 1)) (by have := (HF.out.isC k hlt).2; omega) (by omega) (HF.out.isC k hlt).1 HX.out).mono ?_
                  rintro e w2 ⟨hb2, ⟨x, v2, hst, rfl, ⟨a2, c2, rfl, hs2⟩⟩ | ⟨hst, s2, a2, n2, c2, rfl⟩⟩
                  · have HSM := hide (HF.out.som x k hlt HW.out (fun j hj => HNO.out j hj hk) hst)
                    have hs2b : Sl w2 (StY w X (w1.heap.size + 1)) a2 x.args := hs2.mono fun b hb _ => hb.elim And.left fun h => Or.inr ⟨by omega, by omega⟩
                    have HIW := hide (HI.out.below hb2 hw)
                    have hpw : w1.heap.size + 1 < w2.heap.size := by have := hb2.size; omega
                    have I2 : Hid (StI w w1 X H ah ch H (((w2.setCell ⟨w1.heap.size + 1, 0, none⟩ (.string H.name)).setCell ⟨w1.heap.size + 1, 1, none⟩ (.slice ah 0 ch)).alloc (.cells #[.string x.name, .slice a2 x.args.length c2] 24))) := by
                      have h := (HIW.out.put (y := H) (ay := ah) (cy := ch) hw ⟨by rw [hha.out]; simp, Or.inl hha.out⟩).below ((Below.refl _ _).alloc (Nat.le_refl _) (.cells #[.string x.name, .slice a2 x.args.length c2] 24)) hw
                      rw [show H.args.length = 0 by rw [hha.out]; rfl] at h
                      exact h
                    have HP2 : Hid (Blk (((w2.setCell ⟨w1.heap.size + 1, 0, none⟩ (.string H.name)).setCell ⟨w1.heap.size + 1, 1, none⟩ (.slice ah 0 ch)).alloc (.cells #[.string x.name, .slice a2 x.args.length c2] 24)) w2.heap.size #[.string x.name, .slice a2 x.args.length c2] 24) := by
                      have h := Blk.new ((w2.setCell ⟨w1.heap.size + 1, 0, none⟩ (.string H.name)).setCell ⟨w1.heap.size + 1, 1, none⟩ (.slice ah 0 ch)) #[.string x.name, .slice a2 x.args.length c2] 24
                      unfold Hid
                      simpa [World.setCell] using h
                    have HS2 : Hid (Sl (((w2.setCell ⟨w1.heap.size + 1, 0, none⟩ (.string H.name)).setCell ⟨w1.heap.size + 1, 1, none⟩ (.slice ah 0 ch)).alloc (.cells #[.string x.name, .slice a2 x.args.length c2] 24)) (StY w X (w1.heap.size + 1)) a2 x.args) := ((sl_put hs2b _ _).resolve_right (by omega)).later ((Below.refl _ _).alloc (Nat.le_refl _) _)
                    clear hs2 hs2b hb2 hst d0 d1
                    obtain ⟨_, _, q3, _, _, _, _, q6, _⟩ := HIW.out
                    have y0 : ∀ o, (w2.alloc o).cell? ⟨w1.heap.size, 0, none⟩ = some (.string H.name) := fun o => (q3.alloc o).cell 0
                    have y1 : ∀ o, (w2.alloc o).cell? ⟨w1.heap.size, 1, none⟩ = some (.slice ah 0 ch) := fun o => (q3.alloc o).cell 1
                    have y2 := q6.cell 0
                    have y3 := q6.cell 1
                    have y4 := q6.frozen
                    simp only [List.getElem?_toArray, List.getElem?_cons_succ, List.getElem?_cons_zero] at y2 y3
                    clear q3 q6
                    go_wp2_with fail
                    clear y0 y1 y2 y3 y4
                    go_loopw [12] (fun i wr2 => ∃ m : Nat, m ≤ L.length ∧ i = .int .i64 (m : Int) ∧ StI w w1 X H ah ch (apAll H ((L.set k x).take m)) wr2 ∧ Blk wr2 w2.heap.size #[.string x.name, .slice a2 x.args.length c2] 24 ∧ Sl wr2 (StY w X (w1.heap.size + 1)) a2 x.args) (fun i wr2 => L.length - (intOf i).toNat)
                    case atStart => exact ⟨0, Nat.zero_le _, rfl, by simpa [apAll] using I2.out, HP2.out, HS2.out⟩
                    case round =>
                      obtain ⟨m, hm, rfl, hI3, hP3, hS3⟩ := hrel
                      have HI3 := hide hI3
                      have HP3 := hide hP3
                      have HS3 := hide hS3
                      obtain ⟨p1, p2, p3, p4, p5', ax3, cx3, p6, p7⟩ := hI3
                      have P2' := hide p2
                      have P7 := hide p7
                      have P6 := hide p6
                      have o0' := p6.cell 0
                      have o1 := p6.cell 1
                      have of := p6.frozen
                      have x0 := hP3.cell 0
                      have x1 := hP3.cell 1
                      have hpl := hP3.lt
                      simp only [List.getElem?_toArray, List.getElem?_cons_succ, List.getElem?_cons_zero] at o0' o1 x0 x1
                      by_cases hml : m < L.length
                      · by_cases hmk : m = k
                        · subst hmk
                          have HST : Hid (apAll H ((L.set m x).take (m + 1)) = apT (apAll H ((L.set m x).take m)) x) := by
                            unfold Hid
                            rw [apAll_take _ _ _ (by simpa using hml)]; simp
                          generalize apAll H ((L.set m x).take m) = y at *
                          clear p1 p2 p3 p4 p6 p7 hP3 hS3
                          go_wp2_with (go_at_call 23; refine (put2_any y x _ _ _ (StY w X (w1.heap.size + 1)) (by exact ⟨ax3, cx3, rfl, P7.out⟩) (by exact ⟨a2, c2, rfl, HS3.out⟩)).mono ?_; rintro e w3 ⟨v3, rfl, ⟨a3, c3, rfl, hs3⟩, hb3⟩; have HB3 := hide hb3; have HS3b := hide hs3; have z6 := P6.out.below hb3 (by omega); have z0 := z6.cell 0; have z1 := z6.cell 1; have zf := z6.frozen; simp only [List.getElem?_toArray, List.getElem?_cons_succ, List.getElem?_cons_zero] at z0 z1; clear z6 hb3 hs3)
                          go_roundw
                          case rel => exact ⟨m + 1, by omega, by go_num, by rw [HST.out]; exact (HI3.out.below HB3.out hw).put hw (sty_new HS3b.out p5' hw), ((HP3.out.below HB3.out (by omega)).setOther _ _ (by omega)).setOther _ _ (by omega), (sl_put (HS3.out.later HB3.out) _ _).resolve_right (by omega)⟩
                          case measure => simp [intOf]; omega
                        · have hmi : ((m : Int) == (k : Int)) = false := beq_eq_false_iff_ne.2 (by omega)
                          obtain ⟨_, _, a', c', eb, d0, d1, hx⟩ := HSL.out.get P2'.out (fun _ _ h => h) m hml
                          cases eb
                          have HX2 := hide hx
                          have hbb2 : b < wr.heap.size := cbCell_lt d0
                          have HST : Hid (apAll H ((L.set k x).take (m + 1)) = apT (apAll H ((L.set k x).take m)) L[m]) := by
                            unfold Hid
                            rw [apAll_take _ _ _ (by simpa using hml)]; simp [List.getElem_set, show ¬ k = m by omega]
                          have HS0 := hide (And.intro o0' (And.intro o1 (And.intro d0 d1)))
                          generalize apAll H ((L.set k x).take m) = y at *
                          clear p1 p2 p3 p4 p6 p7 hP3 hS3 hx hmk
                          go_wp2_with fail
                          go_region_law (go_simp; go_at_call 23; refine (put2_any y L[m] _ _ _ (StY w X (w1.heap.size + 1)) (by exact ⟨ax3, cx3, rfl, P7.out.later (below_drewN (Below.refl _ _) 1)⟩) (by exact HX2.out.later (below_drewN (Below.refl _ _) 1))).mono ?_; rintro e w3 ⟨v3, rfl, ⟨a3, c3, rfl, hs3⟩, hb3⟩; have hS1 := four_keep hb3 HS0.out (by omega) hbb2; have z0 := hS1.1; have z1 := hS1.2.1; have HB3 := hide hb3; have HS3b := hide hs3; have of2 := (Blk.below (B := wr.heap.size) (Blk.drewN P6.out 1) (by exact hb3) (by omega)).frozen; clear hb3 hs3 hS1)
                          all_goals
                            go_wp2_with fail
                            go_roundw
                            case rel => exact ⟨m + 1, by omega, by go_num, by rw [HST.out]; exact (HI3.out.below (drew_below HB3.out) hw).put hw (sty_new HS3b.out p5' hw), ((HP3.out.below (drew_below HB3.out) (by omega)).setOther _ _ (by omega)).setOther _ _ (by omega), (sl_put (HS3.out.later (drew_below HB3.out)) _ _).resolve_right (by omega)⟩
                            case measure => simp [intOf]; omega
                      · have htk : (L.set k x).take m = L.set k x := List.take_of_length_le (by simp; omega)
                        rw [htk] at o0' o1
                        have HI2 : Hid (StI w w1 X H ah ch (apAll H (L.set k x)) wr) := by have h := HI3.out; rw [htk] at h; exact h
                        have P72 : Hid (Sl wr (StY w X (w1.heap.size + 1)) ax3 (apAll H (L.set k x)).args) := by have h := P7.out; rw [htk] at h; exact h
                        have r0 := p4.cell 0
                        have r1 := p4.cell 1
                        have rf := p4.frozen
                        simp only [List.getElem?_toArray, List.getElem?_cons_succ, List.getElem?_cons_zero] at r0 r1
                        clear p1 p2 p3 p4 p6 p7 hP3 hS3
                        go_wp2_with fail
                        refine bodyPost_ret (v := .tuple #[.agg #[.string (apAll H (L.set k x)).name, .slice ax3 (apAll H (L.set k x)).args.length cx3], .bool true]) (by simp [results, Tryz.results66, go_sem, World.cell?_setCell_same, World.cell?_setCell_other, r0, r1]) rfl ?_
                        exact HI2.out.fin hw P72.out HSM.out _ _
                  · have HN1 := hide hst
                    have HI2 := hide ((HI.out.below hb2 hw).below ((Below.refl _ _).alloc (Nat.le_refl _) (.cells #[.string s2, .slice a2 n2 c2] 24)) hw)
                    clear hb2 hst
                    go_wp2_with fail
                    go_roundw
                    case rel => exact ⟨k + 1, by omega, by go_num, fun j hj hk => by by_cases e9 : j = k; subst e9; exact HN1.out; exact HNO.out j (by omega) (by omega), HI2.out⟩
                    case measure => simp [intOf]; omega
                · have hke : k = L.length := by omega
                  have HFN := hide (HF.out.non HW.out (fun j hj => HNO.out j (by omega) hk))
                  have r0 := p4.cell 0
                  have r1 := p4.cell 1
                  have rf := p4.frozen
                  simp only [List.getElem?_toArray, List.getElem?_cons_succ, List.getElem?_cons_zero] at r0 r1
                  have t0 : wr.cell? ⟨w.heap.size, 0, none⟩ = some (.string t.name) := (T1.out.below P2.out (by omega)).cell 0
                  have t1 : wr.cell? ⟨w.heap.size, 1, none⟩ = some (.slice a t.args.length c) := (T1.out.below P2.out (by omega)).cell 1
                  have P1 := hide p1
                  clear p1 p2 p3 p4 p6 p7 hno
                  go_wp2_with fail
                  refine bodyPost_ret (v := .tuple #[.agg #[.string t.name, .slice a t.args.length c], .bool false]) (by simp [results, Tryz.results66, go_sem, World.cell?_setCell_same, World.cell?_setCell_other, r0, r1]) rfl ?_
                  exact ⟨(P1.out.setCell (p := ⟨w.heap.size + 1, 0, none⟩) (by simp) _).setCell (p := ⟨w.heap.size + 1, 1, none⟩) (by simp) _, Or.inr ⟨HFN.out, _, _, _, _, rfl⟩⟩
            · skip
              by_cases zs : H.name = sB
              · have n1 : (H.name.toList == [115]) = true := nm_yes zs
                have n2 : (H.name.toList == [105]) = false := nm_no (by rw [zs]; decide)
                have n3 : (H.name.toList == [107]) = false := nm_no (by rw [zs]; decide)
                have g1 : decide ((L.length : Int) ≥ 3) = false := decide_eq_false (fun h => hss ⟨zs, by omega⟩)
                clear zs hi hk hss
                go_wp2_with fail
                go_loopw [9] (fun i wr => ∃ k : Nat, k ≤ L.length ∧ i = .int .i64 (k : Int) ∧ (∀ j (hj : j < k) (hk : k ≤ L.length), stepN n (L[j]'(by omega)) = none) ∧ StI w w1 X H ah ch ⟨⟨#[]⟩, []⟩ wr) (fun i wr => L.length - (intOf i).toNat)
                case atStart => exact ⟨0, Nat.zero_le _, rfl, fun j hj => by omega, HI0.out⟩
                case round =>
                  obtain ⟨k, hk, rfl, hno, hI⟩ := hrel
                  have HI := hide hI
                  have HNO := hide hno
                  obtain ⟨p1, p2, p3, p4, p5, ax, cx, p6, p7⟩ := hI
                  have P2 := hide p2
                  by_cases hlt : k < L.length
                  · obtain ⟨b, o, a', c', rfl, d0, d1, hx⟩ := HSL.out.get P2.out (fun _ _ h => h) k hlt
                    have HX := hide hx
                    have hbb : b < w1.heap.size := by
                      obtain ⟨_, _, _, _, e9, d9, _⟩ := HSL.out.get (Below.refl _ _) (fun _ _ h => h) k hlt
                      cases e9
                      exact cbCell_lt d9
                    clear p1 p2 p3 p4 p6 p7 hx hno
                    go_wp2_with fail
                    refine (IH.out L[k] _ _ (StY w X (w1.heap.size + 1)) (by have := (HF.out.isC k hlt).2; omega) (by omega) (HF.out.isC k hlt).1 HX.out).mono ?_
                    rintro e w2 ⟨hb2, ⟨x, v2, hst, rfl, ⟨a2, c2, rfl, hs2⟩⟩ | ⟨hst, s2, a2, n2, c2, rfl⟩⟩
                    · have HSM := hide (HF.out.som x k hlt HW.out (fun j hj => HNO.out j hj hk) hst)
                      have hs2b : Sl w2 (StY w X (w1.heap.size + 1)) a2 x.args := hs2.mono fun b hb _ => hb.elim And.left fun h => Or.inr ⟨by omega, by omega⟩
                      have HIW := hide (HI.out.below hb2 hw)
                      have hpw : w1.heap.size + 1 < w2.heap.size := by have := hb2.size; omega
                      have I2 : Hid (StI w w1 X H ah ch H (((w2.setCell ⟨w1.heap.size + 1, 0, none⟩ (.string H.name)).setCell ⟨w1.heap.size + 1, 1, none⟩ (.slice ah 0 ch)).alloc (.cells #[.string x.name, .slice a2 x.args.length c2] 24))) := by
                        have h := (HIW.out.put (y := H) (ay := ah) (cy := ch) hw ⟨by rw [hha.out]; simp, Or.inl hha.out⟩).below ((Below.refl _ _).alloc (Nat.le_refl _) (.cells #[.string x.name, .slice a2 x.args.length c2] 24)) hw
                        rw [show H.args.length = 0 by rw [hha.out]; rfl] at h
                        exact h
                      have HP2 : Hid (Blk (((w2.setCell ⟨w1.heap.size + 1, 0, none⟩ (.string H.name)).setCell ⟨w1.heap.size + 1, 1, none⟩ (.slice ah 0 ch)).alloc (.cells #[.string x.name, .slice a2 x.args.length c2] 24)) w2.heap.size #[.string x.name, .slice a2 x.args.length c2] 24) := by
                        have h := Blk.new ((w2.setCell ⟨w1.heap.size + 1, 0, none⟩ (.string H.name)).setCell ⟨w1.heap.size + 1, 1, none⟩ (.slice ah 0 ch)) #[.string x.name, .slice a2 x.args.length c2] 24
                        unfold Hid
                        simpa [World.setCell] using h
                      have HS2 : Hid (Sl (((w2.setCell ⟨w1.heap.size + 1, 0, none⟩ (.string H.name)).setCell ⟨w1.heap.size + 1, 1, none⟩ (.slice ah 0 ch)).alloc (.cells #[.string x.name, .slice a2 x.args.length c2] 24)) (StY w X (w1.heap.size + 1)) a2 x.args) := ((sl_put hs2b _ _).resolve_right (by omega)).later ((Below.refl _ _).alloc (Nat.le_refl _) _)
                      clear hs2 hs2b hb2 hst d0 d1
                      obtain ⟨_, _, q3, _, _, _, _, q6, _⟩ := HIW.out
                      have y0 : ∀ o, (w2.alloc o).cell? ⟨w1.heap.size, 0, none⟩ = some (.string H.name) := fun o => (q3.alloc o).cell 0
                      have y1 : ∀ o, (w2.alloc o).cell? ⟨w1.heap.size, 1, none⟩ = some (.slice ah 0 ch) := fun o => (q3.alloc o).cell 1
                      have y2 := q6.cell 0
                      have y3 := q6.cell 1
                      have y4 := q6.frozen
                      simp only [List.getElem?_toArray, List.getElem?_cons_succ, List.getElem?_cons_zero] at y2 y3
                      clear q3 q6
                      go_wp2_with fail
                      clear y0 y1 y2 y3 y4
                      go_loopw [12] (fun i wr2 => ∃ m : Nat, m ≤ L.length ∧ i = .int .i64 (m : Int) ∧ StI w w1 X H ah ch (apAll H ((L.set k x).take m)) wr2 ∧ Blk wr2 w2.heap.size #[.string x.name, .slice a2 x.args.length c2] 24 ∧ Sl wr2 (StY w X (w1.heap.size + 1)) a2 x.args) (fun i wr2 => L.length - (intOf i).toNat)
                      case atStart => exact ⟨0, Nat.zero_le _, rfl, by simpa [apAll] using I2.out, HP2.out, HS2.out⟩
                      case round =>
                        obtain ⟨m, hm, rfl, hI3, hP3, hS3⟩ := hrel
                        have HI3 := hide hI3
                        have HP3 := hide hP3
                        have HS3 := hide hS3
                        obtain ⟨p1, p2, p3, p4, p5', ax3, cx3, p6, p7⟩ := hI3
                        have P2' := hide p2
                        have P7 := hide p7
                        have P6 := hide p6
                        have o0' := p6.cell 0
                        have o1 := p6.cell 1
                        have of := p6.frozen
                        have x0 := hP3.cell 0
                        have x1 := hP3.cell 1
                        have hpl := hP3.lt
                        simp only [List.getElem?_toArray, List.getElem?_cons_succ, List.getElem?_cons_zero] at o0' o1 x0 x1
                        by_cases hml : m < L.length
                        · by_cases hmk : m = k
                          · subst hmk
                            have HST : Hid (apAll H ((L.set m x).take (m + 1)) = apT (apAll H ((L.set m x).take m)) x) := by
                              unfold Hid
                              rw [apAll_take _ _ _ (by simpa using hml)]; simp
                            generalize apAll H ((L.set m x).take m) = y at *
                            clear p1 p2 p3 p4 p6 p7 hP3 hS3
                            go_wp2_with (go_at_call 23; refine (put2_any y x _ _ _ (StY w X (w1.heap.size + 1)) (by exact ⟨ax3, cx3, rfl, P7.out⟩) (by exact ⟨a2, c2, rfl, HS3.out⟩)).mono ?_; rintro e w3 ⟨v3, rfl, ⟨a3, c3, rfl, hs3⟩, hb3⟩; have HB3 := hide hb3; have HS3b := hide hs3; have z6 := P6.out.below hb3 (by omega); have z0 := z6.cell 0; have z1 := z6.cell 1; have zf := z6.frozen; simp only [List.getElem?_toArray, List.getElem?_cons_succ, List.getElem?_cons_zero] at z0 z1; clear z6 hb3 hs3)
                            go_roundw
                            case rel => exact ⟨m + 1, by omega, by go_num, by rw [HST.out]; exact (HI3.out.below HB3.out hw).put hw (sty_new HS3b.out p5' hw), ((HP3.out.below HB3.out (by omega)).setOther _ _ (by omega)).setOther _ _ (by omega), (sl_put (HS3.out.later HB3.out) _ _).resolve_right (by omega)⟩
                            case measure => simp [intOf]; omega
                          · have hmi : ((m : Int) == (k : Int)) = false := beq_eq_false_iff_ne.2 (by omega)
                            obtain ⟨_, _, a', c', eb, d0, d1, hx⟩ := HSL.out.get P2'.out (fun _ _ h => h) m hml
                            cases eb
                            have HX2 := hide hx
                            have hbb2 : b < wr.heap.size := cbCell_lt d0
                            have HST : Hid (apAll H ((L.set k x).take (m + 1)) = apT (apAll H ((L.set k x).take m)) L[m]) := by
                              unfold Hid
                              rw [apAll_take _ _ _ (by simpa using hml)]; simp [List.getElem_set, show ¬ k = m by omega]
                            have HS0 := hide (And.intro o0' (And.intro o1 (And.intro d0 d1)))
                            generalize apAll H ((L.set k x).take m) = y at *
                            clear p1 p2 p3 p4 p6 p7 hP3 hS3 hx hmk
                            go_wp2_with fail
                            go_region_law (go_simp; go_at_call 23; refine (put2_any y L[m] _ _ _ (StY w X (w1.heap.size + 1)) (by exact ⟨ax3, cx3, rfl, P7.out.later (below_drewN (Below.refl _ _) 1)⟩) (by exact HX2.out.later (below_drewN (Below.refl _ _) 1))).mono ?_; rintro e w3 ⟨v3, rfl, ⟨a3, c3, rfl, hs3⟩, hb3⟩; have hS1 := four_keep hb3 HS0.out (by omega) hbb2; have z0 := hS1.1; have z1 := hS1.2.1; have HB3 := hide hb3; have HS3b := hide hs3; have of2 := (Blk.below (B := wr.heap.size) (Blk.drewN P6.out 1) (by exact hb3) (by omega)).frozen; clear hb3 hs3 hS1)
                            all_goals
                              go_wp2_with fail
                              go_roundw
                              case rel => exact ⟨m + 1, by omega, by go_num, by rw [HST.out]; exact (HI3.out.below (drew_below HB3.out) hw).put hw (sty_new HS3b.out p5' hw), ((HP3.out.below (drew_below HB3.out) (by omega)).setOther _ _ (by omega)).setOther _ _ (by omega), (sl_put (HS3.out.later (drew_below HB3.out)) _ _).resolve_right (by omega)⟩
                              case measure => simp [intOf]; omega
                        · have htk : (L.set k x).take m = L.set k x := List.take_of_length_le (by simp; omega)
                          rw [htk] at o0' o1
                          have HI2 : Hid (StI w w1 X H ah ch (apAll H (L.set k x)) wr) := by have h := HI3.out; rw [htk] at h; exact h
                          have P72 : Hid (Sl wr (StY w X (w1.heap.size + 1)) ax3 (apAll H (L.set k x)).args) := by have h := P7.out; rw [htk] at h; exact h
                          have r0 := p4.cell 0
                          have r1 := p4.cell 1
                          have rf := p4.frozen
                          simp only [List.getElem?_toArray, List.getElem?_cons_succ, List.getElem?_cons_zero] at r0 r1
                          clear p1 p2 p3 p4 p6 p7 hP3 hS3
                          go_wp2_with fail
                          refine bodyPost_ret (v := .tuple #[.agg #[.string (apAll H (L.set k x)).name, .slice ax3 (apAll H (L.set k x)).args.length cx3], .bool true]) (by simp [results, Tryz.results66, go_sem, World.cell?_setCell_same, World.cell?_setCell_other, r0, r1]) rfl ?_
                          exact HI2.out.fin hw P72.out HSM.out _ _
                    · have HN1 := hide hst
                      have HI2 := hide ((HI.out.below hb2 hw).below ((Below.refl _ _).alloc (Nat.le_refl _) (.cells #[.string s2, .slice a2 n2 c2] 24)) hw)
                      clear hb2 hst
                      go_wp2_with fail
                      go_roundw
                      case rel => exact ⟨k + 1, by omega, by go_num, fun j hj hk => by by_cases e9 : j = k; subst e9; exact HN1.out; exact HNO.out j (by omega) (by omega), HI2.out⟩
                      case measure => simp [intOf]; omega
                  · have hke : k = L.length := by omega
                    have HFN := hide (HF.out.non HW.out (fun j hj => HNO.out j (by omega) hk))
                    have r0 := p4.cell 0
                    have r1 := p4.cell 1
                    have rf := p4.frozen
                    simp only [List.getElem?_toArray, List.getElem?_cons_succ, List.getElem?_cons_zero] at r0 r1
                    have t0 : wr.cell? ⟨w.heap.size, 0, none⟩ = some (.string t.name) := (T1.out.below P2.out (by omega)).cell 0
                    have t1 : wr.cell? ⟨w.heap.size, 1, none⟩ = some (.slice a t.args.length c) := (T1.out.below P2.out (by omega)).cell 1
                    have P1 := hide p1
                    clear p1 p2 p3 p4 p6 p7 hno
                    go_wp2_with fail
                    refine bodyPost_ret (v := .tuple #[.agg #[.string t.name, .slice a t.args.length c], .bool false]) (by simp [results, Tryz.results66, go_sem, World.cell?_setCell_same, World.cell?_setCell_other, r0, r1]) rfl ?_
                    exact ⟨(P1.out.setCell (p := ⟨w.heap.size + 1, 0, none⟩) (by simp) _).setCell (p := ⟨w.heap.size + 1, 1, none⟩) (by simp) _, Or.inr ⟨HFN.out, _, _, _, _, rfl⟩⟩
              · skip
                have n1 : (H.name.toList == [105]) = false := nm_no zi
                have n2 : (H.name.toList == [107]) = false := nm_no zk
                have n3 : (H.name.toList == [115]) = false := nm_no zs
                clear hi hk hss zi zk zs
                go_wp2_with fail
                go_loopw [9] (fun i wr => ∃ k : Nat, k ≤ L.length ∧ i = .int .i64 (k : Int) ∧ (∀ j (hj : j < k) (hk : k ≤ L.length), stepN n (L[j]'(by omega)) = none) ∧ StI w w1 X H ah ch ⟨⟨#[]⟩, []⟩ wr) (fun i wr => L.length - (intOf i).toNat)
                case atStart => exact ⟨0, Nat.zero_le _, rfl, fun j hj => by omega, HI0.out⟩
                case round =>
                  obtain ⟨k, hk, rfl, hno, hI⟩ := hrel
                  have HI := hide hI
                  have HNO := hide hno
                  obtain ⟨p1, p2, p3, p4, p5, ax, cx, p6, p7⟩ := hI
                  have P2 := hide p2
                  by_cases hlt : k < L.length
                  · obtain ⟨b, o, a', c', rfl, d0, d1, hx⟩ := HSL.out.get P2.out (fun _ _ h => h) k hlt
                    have HX := hide hx
                    have hbb : b < w1.heap.size := by
                      obtain ⟨_, _, _, _, e9, d9, _⟩ := HSL.out.get (Below.refl _ _) (fun _ _ h => h) k hlt
                      cases e9
                      exact cbCell_lt d9
                    clear p1 p2 p3 p4 p6 p7 hx hno
                    go_wp2_with fail
                    refine (IH.out L[k] _ _ (StY w X (w1.heap.size + 1)) (by have := (HF.out.isC k hlt).2; omega) (by omega) (HF.out.isC k hlt).1 HX.out).mono ?_
                    rintro e w2 ⟨hb2, ⟨x, v2, hst, rfl, ⟨a2, c2, rfl, hs2⟩⟩ | ⟨hst, s2, a2, n2, c2, rfl⟩⟩
                    · have HSM := hide (HF.out.som x k hlt HW.out (fun j hj => HNO.out j hj hk) hst)
                      have hs2b : Sl w2 (StY w X (w1.heap.size + 1)) a2 x.args := hs2.mono fun b hb _ => hb.elim And.left fun h => Or.inr ⟨by omega, by omega⟩
                      have HIW := hide (HI.out.below hb2 hw)
                      have hpw : w1.heap.size + 1 < w2.heap.size := by have := hb2.size; omega
                      have I2 : Hid (StI w w1 X H ah ch H (((w2.setCell ⟨w1.heap.size + 1, 0, none⟩ (.string H.name)).setCell ⟨w1.heap.size + 1, 1, none⟩ (.slice ah 0 ch)).alloc (.cells #[.string x.name, .slice a2 x.args.length c2] 24))) := by
                        have h := (HIW.out.put (y := H) (ay := ah) (cy := ch) hw ⟨by rw [hha.out]; simp, Or.inl hha.out⟩).below ((Below.refl _ _).alloc (Nat.le_refl _) (.cells #[.string x.name, .slice a2 x.args.length c2] 24)) hw
                        rw [show H.args.length = 0 by rw [hha.out]; rfl] at h
                        exact h
                      have HP2 : Hid (Blk (((w2.setCell ⟨w1.heap.size + 1, 0, none⟩ (.string H.name)).setCell ⟨w1.heap.size + 1, 1, none⟩ (.slice ah 0 ch)).alloc (.cells #[.string x.name, .slice a2 x.args.length c2] 24)) w2.heap.size #[.string x.name, .slice a2 x.args.length c2] 24) := by
                        have h := Blk.new ((w2.setCell ⟨w1.heap.size + 1, 0, none⟩ (.string H.name)).setCell ⟨w1.heap.size + 1, 1, none⟩ (.slice ah 0 ch)) #[.string x.name, .slice a2 x.args.length c2] 24
                        unfold Hid
                        simpa [World.setCell] using h
                      have HS2 : Hid (Sl (((w2.setCell ⟨w1.heap.size + 1, 0, none⟩ (.string H.name)).setCell ⟨w1.heap.size + 1, 1, none⟩ (.slice ah 0 ch)).alloc (.cells #[.string x.name, .slice a2 x.args.length c2] 24)) (StY w X (w1.heap.size + 1)) a2 x.args) := ((sl_put hs2b _ _).resolve_right (by omega)).later ((Below.refl _ _).alloc (Nat.le_refl _) _)
                      clear hs2 hs2b hb2 hst d0 d1
                      obtain ⟨_, _, q3, _, _, _, _, q6, _⟩ := HIW.out
                      have y0 : ∀ o, (w2.alloc o).cell? ⟨w1.heap.size, 0, none⟩ = some (.string H.name) := fun o => (q3.alloc o).cell 0
                      have y1 : ∀ o, (w2.alloc o).cell? ⟨w1.heap.size, 1, none⟩ = some (.slice ah 0 ch) := fun o => (q3.alloc o).cell 1
                      have y2 := q6.cell 0
                      have y3 := q6.cell 1
                      have y4 := q6.frozen
                      simp only [List.getElem?_toArray, List.getElem?_cons_succ, List.getElem?_cons_zero] at y2 y3
                      clear q3 q6
                      go_wp2_with fail
                      clear y0 y1 y2 y3 y4
                      go_loopw [12] (fun i wr2 => ∃ m : Nat, m ≤ L.length ∧ i = .int .i64 (m : Int) ∧ StI w w1 X H ah ch (apAll H ((L.set k x).take m)) wr2 ∧ Blk wr2 w2.heap.size #[.string x.name, .slice a2 x.args.length c2] 24 ∧ Sl wr2 (StY w X (w1.heap.size + 1)) a2 x.args) (fun i wr2 => L.length - (intOf i).toNat)
                      case atStart => exact ⟨0, Nat.zero_le _, rfl, by simpa [apAll] using I2.out, HP2.out, HS2.out⟩
                      case round =>
                        obtain ⟨m, hm, rfl, hI3, hP3, hS3⟩ := hrel
                        have HI3 := hide hI3
                        have HP3 := hide hP3
                        have HS3 := hide hS3
                        obtain ⟨p1, p2, p3, p4, p5', ax3, cx3, p6, p7⟩ := hI3
                        have P2' := hide p2
                        have P7 := hide p7
                        have P6 := hide p6
                        have o0' := p6.cell 0
                        have o1 := p6.cell 1
                        have of := p6.frozen
                        have x0 := hP3.cell 0
                        have x1 := hP3.cell 1
                        have hpl := hP3.lt
                        simp only [List.getElem?_toArray, List.getElem?_cons_succ, List.getElem?_cons_zero] at o0' o1 x0 x1
                        by_cases hml : m < L.length
                        · by_cases hmk : m = k
                          · subst hmk
                            have HST : Hid (apAll H ((L.set m x).take (m + 1)) = apT (apAll H ((L.set m x).take m)) x) := by
                              unfold Hid
                              rw [apAll_take _ _ _ (by simpa using hml)]; simp
                            generalize apAll H ((L.set m x).take m) = y at *
                            clear p1 p2 p3 p4 p6 p7 hP3 hS3
                            go_wp2_with (go_at_call 23; refine (put2_any y x _ _ _ (StY w X (w1.heap.size + 1)) (by exact ⟨ax3, cx3, rfl, P7.out⟩) (by exact ⟨a2, c2, rfl, HS3.out⟩)).mono ?_; rintro e w3 ⟨v3, rfl, ⟨a3, c3, rfl, hs3⟩, hb3⟩; have HB3 := hide hb3; have HS3b := hide hs3; have z6 := P6.out.below hb3 (by omega); have z0 := z6.cell 0; have z1 := z6.cell 1; have zf := z6.frozen; simp only [List.getElem?_toArray, List.getElem?_cons_succ, List.getElem?_cons_zero] at z0 z1; clear z6 hb3 hs3)
                            go_roundw
                            case rel => exact ⟨m + 1, by omega, by go_num, by rw [HST.out]; exact (HI3.out.below HB3.out hw).put hw (sty_new HS3b.out p5' hw), ((HP3.out.below HB3.out (by omega)).setOther _ _ (by omega)).setOther _ _ (by omega), (sl_put (HS3.out.later HB3.out) _ _).resolve_right (by omega)⟩
                            case measure => simp [intOf]; omega
                          · have hmi : ((m : Int) == (k : Int)) = false := beq_eq_false_iff_ne.2 (by omega)
                            obtain ⟨_, _, a', c', eb, d0, d1, hx⟩ := HSL.out.get P2'.out (fun _ _ h => h) m hml
                            cases eb
                            have HX2 := hide hx
                            have hbb2 : b < wr.heap.size := cbCell_lt d0
                            have HST : Hid (apAll H ((L.set k x).take (m + 1)) = apT (apAll H ((L.set k x).take m)) L[m]) := by
                              unfold Hid
                              rw [apAll_take _ _ _ (by simpa using hml)]; simp [List.getElem_set, show ¬ k = m by omega]
                            have HS0 := hide (And.intro o0' (And.intro o1 (And.intro d0 d1)))
                            generalize apAll H ((L.set k x).take m) = y at *
                            clear p1 p2 p3 p4 p6 p7 hP3 hS3 hx hmk
                            go_wp2_with fail
                            go_region_law (go_simp; go_at_call 23; refine (put2_any y L[m] _ _ _ (StY w X (w1.heap.size + 1)) (by exact ⟨ax3, cx3, rfl, P7.out.later (below_drewN (Below.refl _ _) 1)⟩) (by exact HX2.out.later (below_drewN (Below.refl _ _) 1))).mono ?_; rintro e w3 ⟨v3, rfl, ⟨a3, c3, rfl, hs3⟩, hb3⟩; have hS1 := four_keep hb3 HS0.out (by omega) hbb2; have z0 := hS1.1; have z1 := hS1.2.1; have HB3 := hide hb3; have HS3b := hide hs3; have of2 := (Blk.below (B := wr.heap.size) (Blk.drewN P6.out 1) (by exact hb3) (by omega)).frozen; clear hb3 hs3 hS1)
                            all_goals
                              go_wp2_with fail
                              go_roundw
                              case rel => exact ⟨m + 1, by omega, by go_num, by rw [HST.out]; exact (HI3.out.below (drew_below HB3.out) hw).put hw (sty_new HS3b.out p5' hw), ((HP3.out.below (drew_below HB3.out) (by omega)).setOther _ _ (by omega)).setOther _ _ (by omega), (sl_put (HS3.out.later (drew_below HB3.out)) _ _).resolve_right (by omega)⟩
                              case measure => simp [intOf]; omega
                        · have htk : (L.set k x).take m = L.set k x := List.take_of_length_le (by simp; omega)
                          rw [htk] at o0' o1
                          have HI2 : Hid (StI w w1 X H ah ch (apAll H (L.set k x)) wr) := by have h := HI3.out; rw [htk] at h; exact h
                          have P72 : Hid (Sl wr (StY w X (w1.heap.size + 1)) ax3 (apAll H (L.set k x)).args) := by have h := P7.out; rw [htk] at h; exact h
                          have r0 := p4.cell 0
                          have r1 := p4.cell 1
                          have rf := p4.frozen
                          simp only [List.getElem?_toArray, List.getElem?_cons_succ, List.getElem?_cons_zero] at r0 r1
                          clear p1 p2 p3 p4 p6 p7 hP3 hS3
                          go_wp2_with fail
                          refine bodyPost_ret (v := .tuple #[.agg #[.string (apAll H (L.set k x)).name, .slice ax3 (apAll H (L.set k x)).args.length cx3], .bool true]) (by simp [results, Tryz.results66, go_sem, World.cell?_setCell_same, World.cell?_setCell_other, r0, r1]) rfl ?_
                          exact HI2.out.fin hw P72.out HSM.out _ _
                    · have HN1 := hide hst
                      have HI2 := hide ((HI.out.below hb2 hw).below ((Below.refl _ _).alloc (Nat.le_refl _) (.cells #[.string s2, .slice a2 n2 c2] 24)) hw)
                      clear hb2 hst
                      go_wp2_with fail
                      go_roundw
                      case rel => exact ⟨k + 1, by omega, by go_num, fun j hj hk => by by_cases e9 : j = k; subst e9; exact HN1.out; exact HNO.out j (by omega) (by omega), HI2.out⟩
                      case measure => simp [intOf]; omega
                  · have hke : k = L.length := by omega
                    have HFN := hide (HF.out.non HW.out (fun j hj => HNO.out j (by omega) hk))
                    have r0 := p4.cell 0
                    have r1 := p4.cell 1
                    have rf := p4.frozen
                    simp only [List.getElem?_toArray, List.getElem?_cons_succ, List.getElem?_cons_zero] at r0 r1
                    have t0 : wr.cell? ⟨w.heap.size, 0, none⟩ = some (.string t.name) := (T1.out.below P2.out (by omega)).cell 0
                    have t1 : wr.cell? ⟨w.heap.size, 1, none⟩ = some (.slice a t.args.length c) := (T1.out.below P2.out (by omega)).cell 1
                    have P1 := hide p1
                    clear p1 p2 p3 p4 p6 p7 hno
                    go_wp2_with fail
                    refine bodyPost_ret (v := .tuple #[.agg #[.string t.name, .slice a t.args.length c], .bool false]) (by simp [results, Tryz.results66, go_sem, World.cell?_setCell_same, World.cell?_setCell_other, r0, r1]) rfl ?_
                    exact ⟨(P1.out.setCell (p := ⟨w.heap.size + 1, 0, none⟩) (by simp) _).setCell (p := ⟨w.heap.size + 1, 1, none⟩) (by simp) _, Or.inr ⟨HFN.out, _, _, _, _, rfl⟩⟩

end Go.Proofs.YtcdabjekppddjaaGreatDoor
