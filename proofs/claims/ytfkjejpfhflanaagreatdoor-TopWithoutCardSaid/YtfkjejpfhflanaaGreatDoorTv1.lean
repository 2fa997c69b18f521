/- Walks: the law TopWithout. -/
import Derived.Test.YtfkjejpfhflanaaGreatDoorBe2
import Derived.Test.YtfkjejpfhflanaaGreatDoorZFTopWithoutOwn
import Derived.Test.YtfkjejpfhflanaaGreatDoorZLTopWithoutOwn
import Derived.Test.YtfkjejpfhflanaaGreatDoorLn13
import Derived.Test.YtfkjejpfhflanaaGreatDoorCf5
import Derived.Test.YtfkjejpfhflanaaGreatDoorCs7
import Derived.Test.YtfkjejpfhflanaaGreatDoorZNTopWithoutOwn
import Derived.Test.YtfkjejpfhflanaaGreatDoorBxs
namespace Go.Proofs.YtfkjejpfhflanaaGreatDoor
open Go.RowKit
set_option linter.unusedSimpArgs false
set_option linter.unusedVariables false
set_option maxRecDepth 8000

theorem con_name : ∀ {k : Nat}, k < 40 → nameB (nmP 99 k) = true := by decide +kernel
theorem err_leafN {s : ByteArray} (h : nameB s = true) : errL [⟨s, []⟩] = 0 := by simp [errL, h]
theorem apB_name : nameB apB = true ∧ varB apB = false := by decide +kernel
theorem ikB_name : nameB iB = true ∧ nameB kB = true ∧ nameB sB = true := by decide +kernel
theorem err_apN {f x : Tm} (hf : errL [f] = 0) (hx : errL [x] = 0) : errL [apT f x] = 0 := by
  have h : errL [f, x] = 0 := by rw [errL_cons, if_pos hf]; exact hx
  unfold apT
  simp only [errL.eq_2]
  rw [if_pos apB_name.1, apB_name.2]
  simp [h, errL]
theorem cx_errM {t : Tm} {T : PX} (h : Cx 0 t T) (u : Nat) : errM (u : Int) 0 [T.m] = 0 := by
  induction h with
  | i => simp [PX.iP, PX.m, errM, knE, subsK, mostK, deepK] <;> omega
  | k => simp [PX.kP, PX.m, errM, knE, subsK, mostK, deepK] <;> omega
  | s => simp [PX.sP, PX.m, errM, knE, subsK, mostK, deepK] <;> omega
  | con k hk => simp [PX.m, errM, knE, subsK, mostK, deepK] <;> omega
  | var k hk => omega
  | @ap f x F X _ _ i1 i2 =>
    have h3 : errM (u : Int) 0 [F.m, X.m] = 0 := by rw [errM_cons, if_pos i1]; exact i2
    simp only [PX.m]
    rw [errM_good (by simp [knE, subsK, mostK])]
    simpa [deepK] using h3
/-- All names are. -/
theorem cx_err {t : Tm} {T : PX} (h : Cx 0 t T) : errL [t] = 0 := by
  induction h with
  | i => exact err_leafN ikB_name.1
  | k => exact err_leafN ikB_name.2.1
  | s => exact err_leafN ikB_name.2.2
  | con k hk => exact err_leafN (con_name hk)
  | var k hk => omega
  | ap _ _ i1 i2 => exact err_apN i1 i2
theorem wo_may {t : Lm} {c : Tm} {n : Nat} (he : errM 0 0 [t] = 0) (hc : cmb 88 n 0 t = some c) (hz : sizeL [c] ≤ 200) : combE c = 0 ∧ (toL (sizeL [c]) c).1 = 0 ∧ errM 0 0 [(toL (sizeL [c]) c).2] = 0 := by
  obtain ⟨p, rfl⟩ := px_of t _ he
  obtain ⟨C, g1, g2⟩ := cx_cmb n 0 p c he hc
  have g3 := cx_to g1 _ (Nat.le_refl _)
  rw [g3]
  refine ⟨?_, rfl, cx_errM g1 0⟩
  unfold combE mayE
  rw [if_neg (show ¬ 200 < sizeL [c] by omega), if_pos (cx_err g1), if_pos g1.isC]

/-- How working out ends: a term, how many steps, an error. -/
def EnV (z : Int) (r : Lm) (w : World) (e : Ending) (w' : World) : Prop :=
  ∃ (b : Lm) (ab : Option Addr) (cb : Nat) (k : Int), e = .returned (.tuple #[.agg #[.int .i64 b.kind, .int .i64 b.idx, .slice ab b.subs.length cb], .int .i64 k, .int .i64 z]) ∧ SlM w' (fun _ => True) ab b.subs ∧ Below w.heap.size w w' ∧ (z = 0 → b = r)
theorem norV_any (t : Lm) (m : Nat) (hm : m ≤ 400) (hE : lamE 0 0 t = 0) (v : Value) (w : World) (X : Nat → Prop) (hv : MV w X v t) :
    Calls Tryz.prog 11 #[v, .int .i64 0, .int .i64 (m : Int)] w fun e w' => EnV (endM false m t).1 (endM false m t).2.1 w e w' := by
  refine (normal_ok t 0 m hm hE v w X hv).mono ?_
  rintro e w' ⟨hb, h⟩
  rcases h with ⟨h0, a, c, rfl, hs⟩ | ⟨h0, rfl⟩
  · exact ⟨_, a, c, _, by rw [h0], hs.mono fun _ _ _ => trivial, hb, fun _ => rfl⟩
  · exact ⟨⟨0, 0, []⟩, none, 0, 0, rfl, ⟨by simp, Or.inl rfl⟩, hb, fun h => absurd h h0⟩
theorem err_endV {n : Nat} {t : Lm} (he : errM n 0 [t] = 0) : ∀ (k : Nat), errM n 0 [(endM false k t).2.1] = 0 := by
  intro k
  induction k generalizing t with
  | zero => rw [endM]; split <;> exact he
  | succ k ih =>
    rw [endM]
    split
    · split
      · exact he
      · exact ih (err_stp false 0 2001 t n (by omega) he)
    · exact he
theorem lamE_ofV {t : Lm} (he : errM 0 0 [t] = 0) (hz : sizeM [t] ≤ 200) : lamE 0 0 t = 0 := by
  unfold lamE
  rw [if_neg (by omega), if_neg (by omega)]
  exact he
/-- Applied facts, wherever they are asked. -/
def Apw (w0 : World) : Prop := ∀ w, Below w0.heap.size w0 w → Calls Tryz.prog 7 #[] w fun e w' => e = .returned (.bool true) ∧ Below w.heap.size w w'

set_option maxHeartbeats 8000000 in
theorem topWithout_any (zs : List Int) (hr : ∀ z ∈ zs, Rng z) (y1 : Int) (h1 : Rng y1) (u : Value) (w : World) (X : Nat → Prop) (hu : PV w X u zs) (hT : Tb w.heap.size w) (hS : Tse w.heap.size w) :
    Calls Tryz.prog 3 #[u, .int .i64 y1] w fun e w' => e = .returned (.bool true) ∧ Below w.heap.size w w' := by
  have HU := hide hu
  have HRG := hide hr
  have HT : Hid (∀ w', Below w.heap.size w w' → Tb w'.heap.size w') := fun w' hb => hT.raise hb hb.size
  have HS : Hid (∀ w', Below w.heap.size w w' → Tse w'.heap.size w') := fun w' hb => hS.raise hb hb.size
  have AP : Hid (Apw w) := fun w' hb => applies_any w' (HT.out _ hb) (HS.out _ hb)
  unfold Rng at h1
  obtain ⟨ua, uc, rfl⟩ : ∃ ua uc, u = .slice ua zs.length uc := by
    obtain ⟨a, c, h, _⟩ := hu
    exact ⟨a, c, h⟩
  clear hu hr hT hS
  by_cases hl : 256 < zs.length
  · have hli : (256 : Int) < (zs.length : Int) := by omega
    go_enter Tryz.func3, Tryz.ntmps3
    go_wp2_with fail
    go_ret
    exact ⟨rfl, Below.refl _ _⟩
  · have hli : ¬ (256 : Int) < (zs.length : Int) := by omega
    go_enter Tryz.func3, Tryz.ntmps3
    go_wp2_with fail
    refine (pick_any y1 16 (by omega) (by omega) h1 _).mono ?_
    rintro e w1 ⟨n2, rfl, hn2, rfl⟩
    have CL := lamOfRawG_any 2 0 (by omega) (by omega) (by omega) zs _ HRG.out (by omega) (2 + n2) 0 (by omega) (by omega) w1 X HU.out
    have e3 : ((2 + n2 : Nat) : Int) = 2 + (n2 : Int) := by omega
    have e4 : ((2 : Nat) : Int) = 2 := rfl
    have e5 : ((0 : Nat) : Int) = 0 := rfl
    rw [e3, e4, e5] at CL
    have HCL := hide CL
    have HN : Hid (tpQ (2 + n2) ≤ 100) := by unfold Hid tpQ; split <;> omega
    clear CL e3 e4 e5
    go_wp2_with fail
    refine HCL.out.mono ?_
    rintro e w2 ⟨t, a, c, rfl, hs, hb, he, hz⟩
    have HE := hide he
    have HZ : Hid (sizeM [t] ≤ 200) := Nat.le_trans (Nat.le_trans hz HN.out) (by omega)
    have HLE : Hid (lamE 0 0 t = 0) := lamE_ofV he HZ.out
    have HB2 := hide hb
    clear hb he hz HN HCL
    have HB3 := hide (up1 HB2.out (.cells #[.int .i64 t.kind, .int .i64 t.idx, .slice a t.subs.length c] 25))
    have T3 := hide (BxL.new (c := c) hs)
    obtain ⟨c0T, c1T, c2T⟩ := T3.out.cs
    clear hs
    go_wp2_with fail
    generalize w2.alloc (.cells #[.int .i64 t.kind, .int .i64 t.idx, .slice a t.subs.length c] 25) = w3 at *
    generalize w2.heap.size = PT at *
    refine (cFrom_any t _ w3 _ T3.out.mv (HT.out _ HB3.out)).mono ?_
    rintro e w4 ⟨hpost, _⟩
    obtain ⟨hbn, hcase⟩ := hpost HLE.out
    have HB4 := hide (HB3.out.trans (hbn.mono HB3.out.size))
    have T4 := hide (T3.out.later hbn)
    clear hbn c0T c1T c2T
    clear hpost
    obtain ⟨q, ub, cb, err, rfl, herr, hs⟩ : ∃ (q : Tm) (ub : Option Addr) (cb : Nat) (err : Int), e = .returned (.tuple #[.agg #[.string q.name, .slice ub q.args.length cb], .int .i64 err]) ∧ (err = 0 ∧ cmb 88 (sizeM [t]) 0 t = some q ∨ err = 8) ∧ Sl w4 (fun b => w3.heap.size ≤ b) ub q.args := by
      rcases hcase with ⟨u, a, c, hq, rfl, hs⟩ | ⟨_, rfl⟩
      · exact ⟨u, a, c, 0, rfl, Or.inl ⟨rfl, hq⟩, hs⟩
      · exact ⟨⟨⟨#[]⟩, []⟩, none, 0, 8, rfl, Or.inr rfl, ⟨by simp, Or.inl rfl⟩⟩
    clear hcase
    rcases herr with ⟨rfl, hq⟩ | rfl
    · skip
      have HQ := hide hq
      clear hq
      have HB5 := hide (up1 HB4.out (.cells #[.string q.name, .slice ub q.args.length cb] 30))
      have T5 := hide (T4.out.later (one1 w4 (.cells #[.string q.name, .slice ub q.args.length cb] 30)))
      have C5 := hide (BxT.new (c := cb) hs)
      obtain ⟨c0C, c1C⟩ := C5.out.cs
      clear hs
      go_wp2_with fail
      generalize w4.alloc (.cells #[.string q.name, .slice ub q.args.length cb] 30) = w5 at *
      generalize w4.heap.size = PC at *
      refine (size_any q _ 200 w5 _ C5.out.tv (by omega) (by omega)).mono ?_
      rintro e w6 ⟨rfl, hbn⟩
      have HB6 := hide (HB5.out.trans (hbn.mono HB5.out.size))
      have T6 := hide (T5.out.later hbn)
      have C6 := hide (C5.out.later hbn)
      clear hbn c0C c1C
      by_cases hq2 : 200 < sizeL [q]
      · have hg : min (sizeL [q] : Int) (200 + 1) > 200 := by omega
        go_wp2_with fail
        refine (AP.out _ HB6.out).mono ?_
        rintro e w7 ⟨rfl, hbn⟩
        have HB7 := hide (HB6.out.trans (hbn.mono HB6.out.size))
        have T7 := hide (T6.out.later hbn)
        have C7 := hide (C6.out.later hbn)
        clear hbn
        go_wp2_with fail
        go_ret
        exact ⟨rfl, HB7.out⟩
      · have hg : ¬ min (sizeL [q] : Int) (200 + 1) > 200 := by omega
        have HQ2 : Hid (sizeL [q] ≤ 200) := by unfold Hid; omega
        obtain ⟨c1, c2, c3⟩ := wo_may HE.out HQ.out HQ2.out
        have TOE : toE q = if 2000 < sizeM [(toL (sizeL [q]) q).2] then (8, nilL) else (0, (toL (sizeL [q]) q).2) := by unfold toE; rw [if_pos c1, if_pos c2]
        have HTL : Hid (toL (sizeL [q]) q = (0, (toL (sizeL [q]) q).2)) := by unfold Hid; rw [← c2]
        have CT := cTo_any q _ w6 _ C6.out.tv (HT.out _ HB6.out) (HS.out _ HB6.out)
        rw [TOE] at CT
        generalize (toL (sizeL [q]) q).2 = un at *
        have HUE := hide c3
        obtain ⟨r, hr⟩ : ∃ r, r = if 2000 < sizeM [un] then ((8 : Int), nilL) else (0, un) := ⟨_, rfl⟩
        rw [← hr] at CT
        have HR : Hid (r.1 = 8 ∨ r.1 = 0 ∧ r.2 = un) := by unfold Hid; rw [hr]; split; exact Or.inl rfl; exact Or.inr ⟨rfl, rfl⟩
        have HCT := hide CT
        clear CT TOE c1 c2 c3 hq2 hr
        obtain ⟨c0C, c1C⟩ := C6.out.cs
        go_wp2_with fail
        refine (HCT.out).mono ?_
        rintro e w7 ⟨hbn, a5, k5, rfl, hs, hlast⟩
        have HB7 := hide (HB6.out.trans (hbn.mono HB6.out.size))
        have T7 := hide (T6.out.later hbn)
        have C7 := hide (C6.out.later hbn)
        clear hbn c0C c1C
        clear hlast
        obtain ⟨rc, rt⟩ := r
        obtain rfl | ⟨rfl, rfl⟩ : rc = 8 ∨ rc = 0 ∧ rt = un := HR.out
        · clear HR HCT
          have HB8 := hide (up1 HB7.out (.cells #[.int .i64 rt.kind, .int .i64 rt.idx, .slice a5 rt.subs.length k5] 25))
          have T8 := hide (T7.out.later (one1 w7 (.cells #[.int .i64 rt.kind, .int .i64 rt.idx, .slice a5 rt.subs.length k5] 25)))
          have C8 := hide (C7.out.later (one1 w7 (.cells #[.int .i64 rt.kind, .int .i64 rt.idx, .slice a5 rt.subs.length k5] 25)))
          have U8 := hide (BxL.new (c := k5) hs)
          clear hs
          go_wp2_with fail
          generalize w7.alloc (.cells #[.int .i64 rt.kind, .int .i64 rt.idx, .slice a5 rt.subs.length k5] 25) = w8 at *
          generalize w7.heap.size = PU at *
          refine (AP.out _ HB8.out).mono ?_
          rintro e w9 ⟨rfl, hbn⟩
          have HB9 := hide (HB8.out.trans (hbn.mono HB8.out.size))
          have T9 := hide (T8.out.later hbn)
          have C9 := hide (C8.out.later hbn)
          have U9 := hide (U8.out.later hbn)
          clear hbn
          go_wp2_with fail
          go_ret
          exact ⟨rfl, HB9.out⟩
        · clear HR HCT
          have HB8 := hide (up1 HB7.out (.cells #[.int .i64 rt.kind, .int .i64 rt.idx, .slice a5 rt.subs.length k5] 25))
          have T8 := hide (T7.out.later (one1 w7 (.cells #[.int .i64 rt.kind, .int .i64 rt.idx, .slice a5 rt.subs.length k5] 25)))
          have C8 := hide (C7.out.later (one1 w7 (.cells #[.int .i64 rt.kind, .int .i64 rt.idx, .slice a5 rt.subs.length k5] 25)))
          have U8 := hide (BxL.new (c := k5) hs)
          obtain ⟨c0U, c1U, c2U⟩ := U8.out.cs
          clear hs
          go_wp2_with fail
          generalize w7.alloc (.cells #[.int .i64 rt.kind, .int .i64 rt.idx, .slice a5 rt.subs.length k5] 25) = w8 at *
          generalize w7.heap.size = PU at *
          refine (lamSize_any rt _ 200 w8 _ U8.out.mv (by omega) (by omega)).mono ?_
          rintro e w9 ⟨rfl, hbn⟩
          have HB9 := hide (HB8.out.trans (hbn.mono HB8.out.size))
          have T9 := hide (T8.out.later hbn)
          have C9 := hide (C8.out.later hbn)
          have U9 := hide (U8.out.later hbn)
          clear hbn c0U c1U c2U
          by_cases hu2 : 200 < sizeM [rt]
          · have hg2 : min (sizeM [rt] : Int) (200 + 1) > 200 := by omega
            go_wp2_with fail
            refine (AP.out _ HB9.out).mono ?_
            rintro e w10 ⟨rfl, hbn⟩
            have HB10 := hide (HB9.out.trans (hbn.mono HB9.out.size))
            have T10 := hide (T9.out.later hbn)
            have C10 := hide (C9.out.later hbn)
            have U10 := hide (U9.out.later hbn)
            clear hbn
            go_wp2_with fail
            go_ret
            exact ⟨rfl, HB10.out⟩
          · have hg2 : ¬ min (sizeM [rt] : Int) (200 + 1) > 200 := by omega
            have HLU : Hid (lamE 0 0 rt = 0) := lamE_ofV HUE.out (by omega)
            have N1 := hide (norV_any t 100 (by omega) HLE.out _ w9 _ T9.out.mv)
            have WE : Hid ((endM false 100 t).1 = 0 → (endM false 400 rt).1 = 0 → etaT (endM false 100 t).2.1 = etaT (endM false 400 rt).2.1) := fun g1 g2 => without_ends HE.out HQ.out (Nat.le_refl _) HTL.out 100 400 g1 g2
            have ET : Hid (errM ((0 : Nat) : Int) 0 [(endM false 100 t).2.1] = 0) := err_endV (n := 0) HE.out 100
            have EU : Hid (errM ((0 : Nat) : Int) 0 [(endM false 400 rt).2.1] = 0) := err_endV (n := 0) HUE.out 400
            generalize (endM false 100 t).1 = z1 at *
            generalize (endM false 100 t).2.1 = r1 at *
            clear hu2
            obtain ⟨c0T, c1T, c2T⟩ := T9.out.cs
            go_wp2_with fail
            refine (N1.out).mono ?_
            rintro e w10 ⟨b1, a7, k7, j7, rfl, hs, hbn, hr7⟩
            have HB10 := hide (HB9.out.trans (hbn.mono HB9.out.size))
            have T10 := hide (T9.out.later hbn)
            have C10 := hide (C9.out.later hbn)
            have U10 := hide (U9.out.later hbn)
            clear hbn c0T c1T c2T
            have HR7 := hide hr7
            clear hr7 N1
            have HB11 := hide (up1 HB10.out (.cells #[.int .i64 b1.kind, .int .i64 b1.idx, .slice a7 b1.subs.length k7] 25))
            have T11 := hide (T10.out.later (one1 w10 (.cells #[.int .i64 b1.kind, .int .i64 b1.idx, .slice a7 b1.subs.length k7] 25)))
            have C11 := hide (C10.out.later (one1 w10 (.cells #[.int .i64 b1.kind, .int .i64 b1.idx, .slice a7 b1.subs.length k7] 25)))
            have U11 := hide (U10.out.later (one1 w10 (.cells #[.int .i64 b1.kind, .int .i64 b1.idx, .slice a7 b1.subs.length k7] 25)))
            have A11 := hide (BxL.new (c := k7) hs)
            obtain ⟨c0U, c1U, c2U⟩ := U11.out.cs
            clear hs
            have N2 := hide (norV_any rt 400 (by omega) HLU.out _ _ _ U11.out.mv)
            generalize (endM false 400 rt).1 = z2 at *
            generalize (endM false 400 rt).2.1 = r2 at *
            go_wp2_with fail
            generalize w10.alloc (.cells #[.int .i64 b1.kind, .int .i64 b1.idx, .slice a7 b1.subs.length k7] 25) = w11 at *
            generalize w10.heap.size = PA at *
            refine (N2.out).mono ?_
            rintro e w12 ⟨b2, a8, k8, j8, rfl, hs, hbn, hr8⟩
            have HB12 := hide (HB11.out.trans (hbn.mono HB11.out.size))
            have T12 := hide (T11.out.later hbn)
            have C12 := hide (C11.out.later hbn)
            have U12 := hide (U11.out.later hbn)
            have A12 := hide (A11.out.later hbn)
            clear hbn c0U c1U c2U
            have HR8 := hide hr8
            clear hr8 N2
            have HB13 := hide (up1 HB12.out (.cells #[.int .i64 b2.kind, .int .i64 b2.idx, .slice a8 b2.subs.length k8] 25))
            have T13 := hide (T12.out.later (one1 w12 (.cells #[.int .i64 b2.kind, .int .i64 b2.idx, .slice a8 b2.subs.length k8] 25)))
            have C13 := hide (C12.out.later (one1 w12 (.cells #[.int .i64 b2.kind, .int .i64 b2.idx, .slice a8 b2.subs.length k8] 25)))
            have U13 := hide (U12.out.later (one1 w12 (.cells #[.int .i64 b2.kind, .int .i64 b2.idx, .slice a8 b2.subs.length k8] 25)))
            have A13 := hide (A12.out.later (one1 w12 (.cells #[.int .i64 b2.kind, .int .i64 b2.idx, .slice a8 b2.subs.length k8] 25)))
            have B13 := hide (BxL.new (c := k8) hs)
            clear hs
            by_cases hz1 : z1 = 0
            · subst hz1
              obtain rfl := HR7.out rfl
              by_cases hz2 : z2 = 0
              · subst hz2
                obtain rfl := HR8.out rfl
                obtain ⟨c0A, c1A, c2A⟩ := A13.out.cs
                go_wp2_with fail
                generalize w12.alloc (.cells #[.int .i64 b2.kind, .int .i64 b2.idx, .slice a8 b2.subs.length k8] 25) = w13 at *
                generalize w12.heap.size = PB at *
                refine (lamSize_any b1 _ 200 w13 _ A13.out.mv (by omega) (by omega)).mono ?_
                rintro e w14 ⟨rfl, hbn⟩
                have HB14 := hide (HB13.out.trans (hbn.mono HB13.out.size))
                have T14 := hide (T13.out.later hbn)
                have C14 := hide (C13.out.later hbn)
                have U14 := hide (U13.out.later hbn)
                have A14 := hide (A13.out.later hbn)
                have B14 := hide (B13.out.later hbn)
                clear hbn c0A c1A c2A
                by_cases hv1 : 200 < sizeM [b1]
                · have hg3 : min (sizeM [b1] : Int) (200 + 1) > 200 := by omega
                  go_wp2_with fail
                  refine (AP.out _ HB14.out).mono ?_
                  rintro e w15 ⟨rfl, hbn⟩
                  have HB15 := hide (HB14.out.trans (hbn.mono HB14.out.size))
                  have T15 := hide (T14.out.later hbn)
                  have C15 := hide (C14.out.later hbn)
                  have U15 := hide (U14.out.later hbn)
                  have A15 := hide (A14.out.later hbn)
                  have B15 := hide (B14.out.later hbn)
                  clear hbn
                  go_wp2_with fail
                  go_ret
                  exact ⟨rfl, HB15.out⟩
                · have hg3 : ¬ min (sizeM [b1] : Int) (200 + 1) > 200 := by omega
                  have L1 : Hid (lamE 0 0 b1 = 0) := lamE_ofV ET.out (by omega)
                  clear hv1
                  obtain ⟨c0B, c1B, c2B⟩ := B14.out.cs
                  go_wp2_with fail
                  refine (lamSize_any b2 _ 200 w14 _ B14.out.mv (by omega) (by omega)).mono ?_
                  rintro e w15 ⟨rfl, hbn⟩
                  have HB15 := hide (HB14.out.trans (hbn.mono HB14.out.size))
                  have T15 := hide (T14.out.later hbn)
                  have C15 := hide (C14.out.later hbn)
                  have U15 := hide (U14.out.later hbn)
                  have A15 := hide (A14.out.later hbn)
                  have B15 := hide (B14.out.later hbn)
                  clear hbn c0B c1B c2B
                  by_cases hv2 : 200 < sizeM [b2]
                  · have hg4 : min (sizeM [b2] : Int) (200 + 1) > 200 := by omega
                    go_wp2_with fail
                    refine (AP.out _ HB15.out).mono ?_
                    rintro e w16 ⟨rfl, hbn⟩
                    have HB16 := hide (HB15.out.trans (hbn.mono HB15.out.size))
                    have T16 := hide (T15.out.later hbn)
                    have C16 := hide (C15.out.later hbn)
                    have U16 := hide (U15.out.later hbn)
                    have A16 := hide (A15.out.later hbn)
                    have B16 := hide (B15.out.later hbn)
                    clear hbn
                    go_wp2_with fail
                    go_ret
                    exact ⟨rfl, HB16.out⟩
                  · have hg4 : ¬ min (sizeM [b2] : Int) (200 + 1) > 200 := by omega
                    have L2 : Hid (lamE 0 0 b2 = 0) := lamE_ofV EU.out (by omega)
                    clear hv2
                    obtain ⟨c0A, c1A, c2A⟩ := A15.out.cs
                    go_wp2_with fail
                    refine (rEta_any b1 0 _ w15 _ A15.out.mv).mono ?_
                    rintro e w16 ⟨hbn, hc⟩
                    have HB16 := hide (HB15.out.trans (hbn.mono HB15.out.size))
                    have T16 := hide (T15.out.later hbn)
                    have C16 := hide (C15.out.later hbn)
                    have U16 := hide (U15.out.later hbn)
                    have A16 := hide (A15.out.later hbn)
                    have B16 := hide (B15.out.later hbn)
                    clear hbn c0A c1A c2A
                    obtain ⟨_, a11, k11, rfl, hs⟩ | ⟨hx, _⟩ := hc
                    · skip
                      have HB17 := hide (up1 HB16.out (.cells #[.int .i64 (etaT b1).kind, .int .i64 (etaT b1).idx, .slice a11 (etaT b1).subs.length k11] 25))
                      have T17 := hide (T16.out.later (one1 w16 (.cells #[.int .i64 (etaT b1).kind, .int .i64 (etaT b1).idx, .slice a11 (etaT b1).subs.length k11] 25)))
                      have C17 := hide (C16.out.later (one1 w16 (.cells #[.int .i64 (etaT b1).kind, .int .i64 (etaT b1).idx, .slice a11 (etaT b1).subs.length k11] 25)))
                      have U17 := hide (U16.out.later (one1 w16 (.cells #[.int .i64 (etaT b1).kind, .int .i64 (etaT b1).idx, .slice a11 (etaT b1).subs.length k11] 25)))
                      have A17 := hide (A16.out.later (one1 w16 (.cells #[.int .i64 (etaT b1).kind, .int .i64 (etaT b1).idx, .slice a11 (etaT b1).subs.length k11] 25)))
                      have B17 := hide (B16.out.later (one1 w16 (.cells #[.int .i64 (etaT b1).kind, .int .i64 (etaT b1).idx, .slice a11 (etaT b1).subs.length k11] 25)))
                      have X17 := hide (BxL.new (c := k11) hs)
                      obtain ⟨c0B, c1B, c2B⟩ := B17.out.cs
                      clear hs
                      go_wp2_with fail
                      generalize w16.alloc (.cells #[.int .i64 (etaT b1).kind, .int .i64 (etaT b1).idx, .slice a11 (etaT b1).subs.length k11] 25) = w17 at *
                      generalize w16.heap.size = PX at *
                      refine (rEta_any b2 0 _ w17 _ B17.out.mv).mono ?_
                      rintro e w18 ⟨hbn, hc⟩
                      have HB18 := hide (HB17.out.trans (hbn.mono HB17.out.size))
                      have T18 := hide (T17.out.later hbn)
                      have C18 := hide (C17.out.later hbn)
                      have U18 := hide (U17.out.later hbn)
                      have A18 := hide (A17.out.later hbn)
                      have B18 := hide (B17.out.later hbn)
                      have X18 := hide (X17.out.later hbn)
                      clear hbn c0B c1B c2B
                      obtain ⟨_, a12, k12, rfl, hs⟩ | ⟨hx, _⟩ := hc
                      · skip
                        have HB19 := hide (up1 HB18.out (.cells #[.int .i64 (etaT b2).kind, .int .i64 (etaT b2).idx, .slice a12 (etaT b2).subs.length k12] 25))
                        have T19 := hide (T18.out.later (one1 w18 (.cells #[.int .i64 (etaT b2).kind, .int .i64 (etaT b2).idx, .slice a12 (etaT b2).subs.length k12] 25)))
                        have C19 := hide (C18.out.later (one1 w18 (.cells #[.int .i64 (etaT b2).kind, .int .i64 (etaT b2).idx, .slice a12 (etaT b2).subs.length k12] 25)))
                        have U19 := hide (U18.out.later (one1 w18 (.cells #[.int .i64 (etaT b2).kind, .int .i64 (etaT b2).idx, .slice a12 (etaT b2).subs.length k12] 25)))
                        have A19 := hide (A18.out.later (one1 w18 (.cells #[.int .i64 (etaT b2).kind, .int .i64 (etaT b2).idx, .slice a12 (etaT b2).subs.length k12] 25)))
                        have B19 := hide (B18.out.later (one1 w18 (.cells #[.int .i64 (etaT b2).kind, .int .i64 (etaT b2).idx, .slice a12 (etaT b2).subs.length k12] 25)))
                        have X19 := hide (X18.out.later (one1 w18 (.cells #[.int .i64 (etaT b2).kind, .int .i64 (etaT b2).idx, .slice a12 (etaT b2).subs.length k12] 25)))
                        have Y19 := hide (BxL.new (c := k12) hs)
                        obtain ⟨c0X, c1X, c2X⟩ := X19.out.cs
                        obtain ⟨c0Y, c1Y, c2Y⟩ := Y19.out.cs
                        clear hs
                        go_wp2_with fail
                        generalize w18.alloc (.cells #[.int .i64 (etaT b2).kind, .int .i64 (etaT b2).idx, .slice a12 (etaT b2).subs.length k12] 25) = w19 at *
                        generalize w18.heap.size = PY at *
                        refine (sameG_any (etaT b1) (etaT b2) _ _ w19 _ _ X19.out.mv Y19.out.mv).mono ?_
                        rintro e w20 ⟨qq, rfl, hqq, hbn⟩
                        have HB20 := hide (HB19.out.trans (hbn.mono HB19.out.size))
                        have T20 := hide (T19.out.later hbn)
                        have C20 := hide (C19.out.later hbn)
                        have U20 := hide (U19.out.later hbn)
                        have A20 := hide (A19.out.later hbn)
                        have B20 := hide (B19.out.later hbn)
                        have X20 := hide (X19.out.later hbn)
                        have Y20 := hide (Y19.out.later hbn)
                        clear hbn c0X c1X c2X c0Y c1Y c2Y
                        obtain rfl : qq = true := hqq.2 (WE.out (by simp) (by simp))
                        clear hqq
                        go_wp2_with fail
                        refine (AP.out _ HB20.out).mono ?_
                        rintro e w21 ⟨rfl, hbn⟩
                        have HB21 := hide (HB20.out.trans (hbn.mono HB20.out.size))
                        have T21 := hide (T20.out.later hbn)
                        have C21 := hide (C20.out.later hbn)
                        have U21 := hide (U20.out.later hbn)
                        have A21 := hide (A20.out.later hbn)
                        have B21 := hide (B20.out.later hbn)
                        have X21 := hide (X20.out.later hbn)
                        have Y21 := hide (Y20.out.later hbn)
                        clear hbn
                        go_wp2_with fail
                        go_ret
                        exact ⟨rfl, HB21.out⟩
                      · exact absurd L2.out hx
                    · exact absurd L1.out hx
              · have hz2' : ¬ z2 = 0 := hz2
                go_wp2_with fail
                generalize w12.alloc (.cells #[.int .i64 b2.kind, .int .i64 b2.idx, .slice a8 b2.subs.length k8] 25) = w13 at *
                generalize w12.heap.size = PB at *
                refine (AP.out _ HB13.out).mono ?_
                rintro e w14 ⟨rfl, hbn⟩
                have HB14 := hide (HB13.out.trans (hbn.mono HB13.out.size))
                have T14 := hide (T13.out.later hbn)
                have C14 := hide (C13.out.later hbn)
                have U14 := hide (U13.out.later hbn)
                have A14 := hide (A13.out.later hbn)
                have B14 := hide (B13.out.later hbn)
                clear hbn
                go_wp2_with fail
                go_ret
                exact ⟨rfl, HB14.out⟩
            · have hz1' : ¬ z1 = 0 := hz1
              go_wp2_with fail
              generalize w12.alloc (.cells #[.int .i64 b2.kind, .int .i64 b2.idx, .slice a8 b2.subs.length k8] 25) = w13 at *
              generalize w12.heap.size = PB at *
              refine (AP.out _ HB13.out).mono ?_
              rintro e w14 ⟨rfl, hbn⟩
              have HB14 := hide (HB13.out.trans (hbn.mono HB13.out.size))
              have T14 := hide (T13.out.later hbn)
              have C14 := hide (C13.out.later hbn)
              have U14 := hide (U13.out.later hbn)
              have A14 := hide (A13.out.later hbn)
              have B14 := hide (B13.out.later hbn)
              clear hbn
              go_wp2_with fail
              go_ret
              exact ⟨rfl, HB14.out⟩
    · skip
      have HB5 := hide (up1 HB4.out (.cells #[.string q.name, .slice ub q.args.length cb] 30))
      have T5 := hide (T4.out.later (one1 w4 (.cells #[.string q.name, .slice ub q.args.length cb] 30)))
      have C5 := hide (BxT.new (c := cb) hs)
      clear hs
      go_wp2_with fail
      generalize w4.alloc (.cells #[.string q.name, .slice ub q.args.length cb] 30) = w5 at *
      generalize w4.heap.size = PC at *
      refine (AP.out _ HB5.out).mono ?_
      rintro e w6 ⟨rfl, hbn⟩
      have HB6 := hide (HB5.out.trans (hbn.mono HB5.out.size))
      have T6 := hide (T5.out.later hbn)
      have C6 := hide (C5.out.later hbn)
      clear hbn
      go_wp2_with fail
      go_ret
      exact ⟨rfl, HB6.out⟩
end Go.Proofs.YtfkjejpfhflanaaGreatDoor
