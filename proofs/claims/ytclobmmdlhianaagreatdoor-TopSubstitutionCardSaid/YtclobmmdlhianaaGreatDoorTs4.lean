/- Walks: the law TopSubstitution. -/
import Derived.Test.YtclobmmdlhianaaGreatDoorTs2
import Derived.Test.YtclobmmdlhianaaGreatDoorTs3
import Derived.Test.YtclobmmdlhianaaGreatDoorZFTopSubstitutionOwn
import Derived.Test.YtclobmmdlhianaaGreatDoorLf1g
import Derived.Test.YtclobmmdlhianaaGreatDoorL11
namespace Go.Proofs.YtclobmmdlhianaaGreatDoor
open Go.RowKit
set_option linter.unusedSimpArgs false
set_option linter.unusedVariables false
set_option maxRecDepth 8000

/-- A lambda term in a box. -/
def Bx (w : World) (A : Nat) (t : Lm) (a : Option Addr) (c : Nat) : Prop := Blk w A #[.int .i64 t.kind, .int .i64 t.idx, .slice a t.subs.length c] 25 ∧ SlM w (fun _ => True) a t.subs
theorem Bx.later {w w' : World} {A : Nat} {t : Lm} {a : Option Addr} {c : Nat} (h : Bx w A t a c) (hb : Below w.heap.size w w') : Bx w' A t a c := ⟨h.1.below hb h.1.lt, h.2.later hb⟩
theorem Bx.alloc {w : World} {A : Nat} {t : Lm} {a : Option Addr} {c : Nat} (h : Bx w A t a c) (o : Obj) : Bx (w.alloc o) A t a c := h.later ((Below.refl _ _).alloc (Nat.le_refl _) o)
theorem Bx.new {w : World} {t : Lm} {a : Option Addr} {c : Nat} {X : Nat → Prop} (h : SlM w X a t.subs) : Bx (w.alloc (.cells #[.int .i64 t.kind, .int .i64 t.idx, .slice a t.subs.length c] 25)) w.heap.size t a c :=
  ⟨Blk.new w _ _, (h.mono fun _ _ _ => trivial).later ((Below.refl _ _).alloc (Nat.le_refl _) _)⟩
theorem Bx.cs {w : World} {A : Nat} {t : Lm} {a : Option Addr} {c : Nat} (h : Bx w A t a c) : w.cell? ⟨A, 0, none⟩ = some (.int .i64 t.kind) ∧ w.cell? ⟨A, 1, none⟩ = some (.int .i64 t.idx) ∧ w.cell? ⟨A, 2, none⟩ = some (.slice a t.subs.length c) := ⟨h.1.cell 0, h.1.cell 1, h.1.cell 2⟩
theorem Bx.mv {w : World} {A : Nat} {t : Lm} {a : Option Addr} {c : Nat} (h : Bx w A t a c) : MV w (fun _ => True) (.agg #[.int .i64 t.kind, .int .i64 t.idx, .slice a t.subs.length c]) t := ⟨a, c, rfl, h.2⟩
/-- What is kept of a box that is made while what lies in it is made. -/
def RgC (w : World) (t : Lm) (p q : Value) (w' : World) : Prop := ∃ (A : Nat) (a : Option Addr) (c : Nat), p = .pointer (some ⟨A, 0, none⟩) ∧ q = .int .i64 0 ∧ Bx w' A t a c ∧ Below w.heap.size w w'
theorem set3S {W : World} {A T : Nat} {x0 x1 x2 : Value} (h : Blk W A #[x0, x1, x2] T) (u u' u'' : Value) : Blk (((W.setCell ⟨A, 0, none⟩ u).setCell ⟨A, 1, none⟩ u').setCell ⟨A, 2, none⟩ u'') A #[u, u', u''] T := ((h.set 0 u).set 1 u').set 2 u''
theorem putN_any (t z : Lm) (u : Int) (he : putE t z u = 0) (r : Lm) (hr : insT z 0 t = r) (v x : Value) (w : World) (X : Nat → Prop) (hv : MV w X v t) (hx : MV w X x z) :
    Calls Tryz.prog 6 #[v, x, .int .i64 u] w fun e w' => ∃ a c, e = .returned (.tuple #[.agg #[.int .i64 r.kind, .int .i64 r.idx, .slice a r.subs.length c], .int .i64 0]) ∧ SlM w' (fun b => w.heap.size ≤ b) a r.subs ∧ Below w.heap.size w w' := by
  subst hr
  refine (lPut_any t z v x u w X hv hx).mono ?_
  rintro e w' ⟨hb, h⟩
  rcases h with ⟨_, a, c, rfl, hs⟩ | ⟨h, _⟩
  · exact ⟨a, c, rfl, hs, hb⟩
  · exact absurd he h
theorem putO_any (t z : Lm) (u : Int) (he : putE t z u = 0) (r : Lm) (hr : insT z 0 t = r) (v x : Value) (w : World) (X : Nat → Prop) (hv : MV w X v t) (hx : MV w X x z) :
    Calls Tryz.prog 6 #[v, x, .int .i64 u] w fun e w' => ∃ a c, e = .returned (.tuple #[.agg #[.int .i64 r.kind, .int .i64 r.idx, .slice a r.subs.length c], .int .i64 0]) ∧ SlM w' (fun _ => True) a r.subs ∧ Below w.heap.size w w' := by
  subst hr
  refine (lPut_any t z v x u w X hv hx).mono ?_
  rintro e w' ⟨hb, h⟩
  rcases h with ⟨_, a, c, rfl, hs⟩ | ⟨h, _⟩
  · exact ⟨a, c, rfl, hs.mono fun _ _ _ => trivial, hb⟩
  · exact absurd he h

set_option maxHeartbeats 8000000 in
theorem topSubstitution_any (zs : List Int) (hr : ∀ z ∈ zs, Rng z) (y1 : Int) (h1 : Rng y1) (u : Value) (w : World) (X : Nat → Prop) (hu : PV w X u zs) (hT : Tb w.heap.size w) (hS : Tse w.heap.size w) :
    Calls Tryz.prog 3 #[u, .int .i64 y1] w fun e w' => e = .returned (.bool true) ∧ Below w.heap.size w w' := by
  have HU := hide hu
  have HRG := hide hr
  have HT := hide hT
  have HSE := hide hS
  unfold Rng at h1
  obtain ⟨ua, uc, rfl⟩ : ∃ ua uc, u = .slice ua zs.length uc := by
    obtain ⟨a, c, h, _⟩ := hu
    exact ⟨a, c, h⟩
  clear hu hr hT hS
  by_cases hl : 256 < zs.length
  · have hli : (256 : Int) < (zs.length : Int) := by omega
    go_enter Tryz.func3, Tryz.ntmps3
    go_wp2_with fail
    go_ret
    exact ⟨rfl, Below.refl _ _⟩
  · have hli : ¬ (256 : Int) < (zs.length : Int) := by omega
    go_enter Tryz.func3, Tryz.ntmps3
    go_wp2_with fail
    refine (pick_any y1 16 (by omega) (by omega) h1 _).mono ?_
    rintro e w2 ⟨m1, rfl, hm1, rfl⟩
    have C1 : Hid (Calls Tryz.prog 4 #[.slice ua zs.length uc, .int .i64 0, .int .i64 (m1 : Int), .int .i64 3, .int .i64 1] w2 _) := lamOfRawG_any 1 0 (by omega) (by omega) (by omega) zs _ HRG.out (by omega) m1 3 (by omega) (by omega) w2 X HU.out
    go_wp2_with fail
    refine C1.out.mono ?_
    rintro e w3 ⟨m, am, cm, rfl, hs, hb, he, hsz⟩
    have hq : tpQ m1 ≤ 29 := by unfold tpQ; split <;> omega
    have HEM : Hid (errM 3 0 [m] = 0) := he
    have HZM : Hid (sizeM [m] ≤ 29) := Nat.le_trans hsz hq
    have M4 := hide (Bx.new (c := cm) hs)
    have HB4 : Hid (Below w2.heap.size w2 (w3.alloc (.cells #[.int .i64 m.kind, .int .i64 m.idx, .slice am m.subs.length cm] 25))) := hb.alloc hb.size _
    clear hs hb he hq hsz C1
    have C2 : Hid (Calls Tryz.prog 4 #[.slice ua zs.length uc, .int .i64 60, .int .i64 5, .int .i64 2, .int .i64 1] (w3.alloc (.cells #[.int .i64 m.kind, .int .i64 m.idx, .slice am m.subs.length cm] 25)) _) := lamOfRawG_any 1 60 (by omega) (by omega) (by omega) zs _ HRG.out (by omega) 5 2 (by omega) (by omega) _ X (HU.out.later HB4.out)
    go_wp2_with fail
    generalize (w3.alloc (.cells #[.int .i64 m.kind, .int .i64 m.idx, .slice am m.subs.length cm] 25)) = w4 at *
    refine C2.out.mono ?_
    rintro e w5 ⟨x, ax, cx, rfl, hs, hb, he, hsz⟩
    have HEX : Hid (errM 2 0 [x] = 0) := he
    have HZX : Hid (sizeM [x] ≤ 9) := hsz
    clear he hsz C2
    have M6 := hide ((M4.out.later hb).alloc (.cells #[.int .i64 x.kind, .int .i64 x.idx, .slice ax x.subs.length cx] 25))
    have X6 := hide (Bx.new (c := cx) hs)
    have HB6 : Hid (Below w2.heap.size w2 (w5.alloc (.cells #[.int .i64 x.kind, .int .i64 x.idx, .slice ax x.subs.length cx] 25))) := (HB4.out.trans (hb.mono HB4.out.size)).alloc (HB4.out.trans (hb.mono HB4.out.size)).size _
    clear hs hb M4 HB4
    have C3 : Hid (Calls Tryz.prog 4 #[.slice ua zs.length uc, .int .i64 90, .int .i64 5, .int .i64 1, .int .i64 1] (w5.alloc (.cells #[.int .i64 x.kind, .int .i64 x.idx, .slice ax x.subs.length cx] 25)) _) := lamOfRawG_any 1 90 (by omega) (by omega) (by omega) zs _ HRG.out (by omega) 5 1 (by omega) (by omega) _ X (HU.out.later HB6.out)
    go_wp2_with fail
    generalize (w5.alloc (.cells #[.int .i64 x.kind, .int .i64 x.idx, .slice ax x.subs.length cx] 25)) = w6 at *
    refine C3.out.mono ?_
    rintro e w7 ⟨y, ay, cy, rfl, hs, hb, he, hsz⟩
    have HEY : Hid (errM 1 0 [y] = 0) := he
    have HZY : Hid (sizeM [y] ≤ 9) := hsz
    clear he hsz C3
    have M8 := hide ((M6.out.later hb).alloc (.cells #[.int .i64 y.kind, .int .i64 y.idx, .slice ay y.subs.length cy] 25))
    have X8 := hide ((X6.out.later hb).alloc (.cells #[.int .i64 y.kind, .int .i64 y.idx, .slice ay y.subs.length cy] 25))
    have Y8 := hide (Bx.new (c := cy) hs)
    have HB8 : Hid (Below w2.heap.size w2 (w7.alloc (.cells #[.int .i64 y.kind, .int .i64 y.idx, .slice ay y.subs.length cy] 25))) := (HB6.out.trans (hb.mono HB6.out.size)).alloc (HB6.out.trans (hb.mono HB6.out.size)).size _
    clear hs hb M6 X6 HB6
    have HF := hide (ts_all HEM.out HEX.out HEY.out HZM.out HZX.out HZY.out)
    obtain ⟨c0, c1, c2⟩ := M8.out.cs
    obtain ⟨d0, d1, d2⟩ := X8.out.cs
    go_wp2_with fail
    generalize (w7.alloc (.cells #[.int .i64 y.kind, .int .i64 y.idx, .slice ay y.subs.length cy] 25)) = w8 at *
    obtain ⟨a, ha⟩ : ∃ a, a = insT x 0 m := ⟨_, rfl⟩
    refine (putO_any m x 2 HF.out.pa a ha.symm _ _ _ _ (by exact M8.out.mv) (by exact X8.out.mv)).mono ?_
    have HAE := hide ha
    clear ha c0 c1 c2 d0 d1 d2
    rintro e w9 ⟨aa, ca, rfl, hs, hb⟩
    have M10 := hide ((M8.out.later hb).alloc (.cells #[.int .i64 a.kind, .int .i64 a.idx, .slice aa a.subs.length ca] 25))
    have X10 := hide ((X8.out.later hb).alloc (.cells #[.int .i64 a.kind, .int .i64 a.idx, .slice aa a.subs.length ca] 25))
    have Y10 := hide ((Y8.out.later hb).alloc (.cells #[.int .i64 a.kind, .int .i64 a.idx, .slice aa a.subs.length ca] 25))
    have A10 := hide (Bx.new (c := ca) hs)
    have HB10 : Hid (Below w2.heap.size w2 (w9.alloc (.cells #[.int .i64 a.kind, .int .i64 a.idx, .slice aa a.subs.length ca] 25))) := (HB8.out.trans (hb.mono HB8.out.size)).alloc (HB8.out.trans (hb.mono HB8.out.size)).size _
    clear hs hb M8 X8 Y8 HB8
    obtain ⟨c0, c1, c2⟩ := A10.out.cs
    obtain ⟨d0, d1, d2⟩ := Y10.out.cs
    go_wp2_with fail
    generalize (w9.alloc (.cells #[.int .i64 a.kind, .int .i64 a.idx, .slice aa a.subs.length ca] 25)) = w10 at *
    obtain ⟨b, hbe⟩ : ∃ b, b = insT y 0 a := ⟨_, rfl⟩
    refine (putO_any a y 1 (by rw [HAE.out]; exact HF.out.pb) b hbe.symm _ _ _ _ (by exact A10.out.mv) (by exact Y10.out.mv)).mono ?_
    have HBE := hide hbe
    clear hbe c0 c1 c2 d0 d1 d2
    rintro e w11 ⟨ab, cb, rfl, hs, hb⟩
    have M12 := hide ((M10.out.later hb).alloc (.cells #[.int .i64 b.kind, .int .i64 b.idx, .slice ab b.subs.length cb] 25))
    have X12 := hide ((X10.out.later hb).alloc (.cells #[.int .i64 b.kind, .int .i64 b.idx, .slice ab b.subs.length cb] 25))
    have Y12 := hide ((Y10.out.later hb).alloc (.cells #[.int .i64 b.kind, .int .i64 b.idx, .slice ab b.subs.length cb] 25))
    have B12 := hide (Bx.new (c := cb) hs)
    have HB12 : Hid (Below w2.heap.size w2 (w11.alloc (.cells #[.int .i64 b.kind, .int .i64 b.idx, .slice ab b.subs.length cb] 25))) := (HB10.out.trans (hb.mono HB10.out.size)).alloc (HB10.out.trans (hb.mono HB10.out.size)).size _
    clear hs hb M10 X10 Y10 HB10
    have KP : Hid (∀ w', Below (w11.alloc (.cells #[.int .i64 b.kind, .int .i64 b.idx, .slice ab b.subs.length cb] 25)).heap.size (w11.alloc (.cells #[.int .i64 b.kind, .int .i64 b.idx, .slice ab b.subs.length cb] 25)) w' → (w'.cell? ⟨w3.heap.size, 0, none⟩ = some (.int .i64 m.kind) ∧ w'.cell? ⟨w3.heap.size, 1, none⟩ = some (.int .i64 m.idx) ∧ w'.cell? ⟨w3.heap.size, 2, none⟩ = some (.slice am m.subs.length cm)) ∧ w'.cell? ⟨w7.heap.size, 0, none⟩ = some (.int .i64 y.kind) ∧ w'.cell? ⟨w7.heap.size, 1, none⟩ = some (.int .i64 y.idx) ∧ w'.cell? ⟨w7.heap.size, 2, none⟩ = some (.slice ay y.subs.length cy)) := fun w' hb => ⟨(M12.out.later hb).cs, (Y12.out.later hb).cs⟩
    have HSS := hide (KP.out _ (Below.refl _ _))
    obtain ⟨cc, hce⟩ : ∃ cc, cc = insT (higT 1 0 y) 0 (swpT m) := ⟨_, rfl⟩
    have HCE := hide hce
    clear hce
    go_upto_region 10 with fail
    generalize (w11.alloc (.cells #[.int .i64 b.kind, .int .i64 b.idx, .slice ab b.subs.length cb] 25)) = w12 at *
    have k12 : Below w12.heap.size w12 w12.drew := (Below.refl w12.heap.size w12).drew
    have HSd := hide (KP.out _ k12)
    go_cut [12, 13] (fun p q wd => RgC w12 cc p q wd)
    case first =>
      refine wp_region_held_drew (S := (fun w' => (w'.cell? ⟨w3.heap.size, 0, none⟩ = some (.int .i64 m.kind) ∧ w'.cell? ⟨w3.heap.size, 1, none⟩ = some (.int .i64 m.idx) ∧ w'.cell? ⟨w3.heap.size, 2, none⟩ = some (.slice am m.subs.length cm)) ∧ w'.cell? ⟨w7.heap.size, 0, none⟩ = some (.int .i64 y.kind) ∧ w'.cell? ⟨w7.heap.size, 1, none⟩ = some (.int .i64 y.idx) ∧ w'.cell? ⟨w7.heap.size, 2, none⟩ = some (.slice ay y.subs.length cy))) (by kernel_rfl) HSd.out (fun hHeld => ?_)
      refine wpAnyH_take (i := 0) (v := ?_) rfl (by kernel_rfl) (by kernel_rfl) (by kernel_rfl) (fun _ _ _ h => h) (Or.inl ⟨by rfl, ?_⟩) (by assumption) ?_
      rotate_left
      · intro w' hSw
        obtain ⟨⟨e0, e1, e2⟩, e3, e4, e5⟩ := hSw
        go_simp <;> with_reducible rfl
      try simp only [Act.put, List.setIfInBounds_toArray, List.set_cons_zero, List.set_cons_succ, List.getElem_toArray, List.getElem_cons_succ, List.getElem_cons_zero]
      refine wpAnyH_take (i := 2) (v := ?_) rfl (by kernel_rfl) (by kernel_rfl) (by kernel_rfl) (fun _ _ _ h => h) (Or.inl ⟨by rfl, ?_⟩) (by assumption) ?_
      rotate_left
      · intro w' hSw
        obtain ⟨⟨e0, e1, e2⟩, e3, e4, e5⟩ := hSw
        go_simp <;> with_reducible rfl
      try simp only [Act.put, List.setIfInBounds_toArray, List.set_cons_zero, List.set_cons_succ, List.getElem_toArray, List.getElem_cons_succ, List.getElem_cons_zero]
      refine wpAnyH_ready (rs := [1, 8]) (by kernel_rfl) (by simp) ?_
      refine AllReadyH.cons rfl (fun K hK => ?_) (AllReadyH.cons rfl (fun K hK => ?_) AllReadyH.nil)
      · go_simp
        go_at_call 7
        refine (swapped_any m HEM.out (by have := HZM.out; omega) _ _ (fun _ => True) (by exact ⟨am, cm, rfl, M12.out.2.later k12⟩)).mono ?_
        rintro e w13 ⟨as', cs', rfl, hs13, hb13⟩
        have k13 : Below w12.heap.size w12 w13 := k12.trans (hb13.mono k12.size)
        have S13 := hide hs13
        go_simp
        refine hK.out _ _ (by exact KP.out _ k13) (fun hHeld => ?_)
        clear hK K
        try simp only [Act.put, List.setIfInBounds_toArray, List.set_cons_zero, List.set_cons_succ, List.getElem_toArray, List.getElem_cons_succ, List.getElem_cons_zero]
        refine wpAnyH_ready (rs := [3, 8]) (by kernel_rfl) (by simp) ?_
        refine AllReadyH.cons rfl (fun K hK => ?_) (AllReadyH.cons rfl (fun K hK => ?_) AllReadyH.nil)
        · go_simp
          go_at_call 8
          refine (higher_any 1 (by omega) (by omega) y _ 0 _ (fun _ => True) (by exact ⟨ay, cy, rfl, Y12.out.2.later k13⟩) (by omega) (by have := HZY.out; omega) (bnd_of_err _ 1 0 (by omega) (by have := HZY.out; omega) (by omega) HEY.out)).mono ?_
          rintro e w14 ⟨ah, ch, rfl, hs14, hb14⟩
          have k14 : Below w12.heap.size w12 w14 := k13.trans (hb14.mono k13.size)
          have S14 := hide (S13.out.later hb14)
          have G14 := hide (hs14.mono (Y := fun _ => True) fun _ _ _ => trivial)
          go_simp
          refine hK.out _ _ (by exact KP.out _ k14) (fun hHeld => ?_)
          clear hK K
          try simp only [Act.put, List.setIfInBounds_toArray, List.set_cons_zero, List.set_cons_succ, List.getElem_toArray, List.getElem_cons_succ, List.getElem_cons_zero]
          refine wpAnyH_ready (rs := [4, 8]) (by kernel_rfl) (by simp) ?_
          refine AllReadyH.cons rfl (fun K hK => ?_) (AllReadyH.cons rfl (fun K hK => ?_) AllReadyH.nil)
          · go_simp
            go_at_call 6
            refine (putN_any (swpT m) (higT 1 0 y) 2 HF.out.pc cc HCE.out.symm _ _ _ (fun _ => True) (by exact ⟨as', cs', rfl, S14.out⟩) (by exact ⟨ah, ch, rfl, G14.out⟩)).mono ?_
            rintro e w15 ⟨ac, cc', rfl, hs15, hb15⟩
            have k15 : Below w12.heap.size w12 w15 := k14.trans (hb15.mono k14.size)
            go_simp
            refine hK.out _ _ (by exact KP.out _ k15) (fun hHeld => ?_)
            clear hK K
            try simp only [Act.put, List.setIfInBounds_toArray, List.set_cons_zero, List.set_cons_succ, List.getElem_toArray, List.getElem_cons_succ, List.getElem_cons_zero]
            have H15 := hide (hs15.mono (Y := fun b => w14.heap.size ≤ b ∧ b < w15.heap.size) fun b h1 h2 => ⟨h1, h2⟩)
            refine wpAnyH_take (i := 5) (v := ?_) rfl (by kernel_rfl) (by kernel_rfl) (by kernel_rfl) (fun _ _ _ h => h) (Or.inl ⟨by rfl, ?_⟩) (by assumption) ?_
            rotate_left
            · intro w' hSw
              go_simp <;> with_reducible rfl
            try simp only [Act.put, List.setIfInBounds_toArray, List.set_cons_zero, List.set_cons_succ, List.getElem_toArray, List.getElem_cons_succ, List.getElem_cons_zero]
            refine wpAnyH_take (i := 6) (v := ?_) rfl (by kernel_rfl) (by kernel_rfl) (by kernel_rfl) (fun _ _ _ h => h) (Or.inl ⟨by rfl, ?_⟩) (by assumption) ?_
            rotate_left
            · intro w' hSw
              go_simp <;> with_reducible rfl
            try simp only [Act.put, List.setIfInBounds_toArray, List.set_cons_zero, List.set_cons_succ, List.getElem_toArray, List.getElem_cons_succ, List.getElem_cons_zero]
            refine wpAnyH_take (i := 7) (v := ?_) rfl (by kernel_rfl) (by kernel_rfl) (by kernel_rfl) (fun _ _ _ h => h) (Or.inl ⟨by rfl, ?_⟩) (by assumption) ?_
            rotate_left
            · intro w' hSw
              go_simp <;> with_reducible rfl
            try simp only [Act.put, List.setIfInBounds_toArray, List.set_cons_zero, List.set_cons_succ, List.getElem_toArray, List.getElem_cons_succ, List.getElem_cons_zero]
            refine wpAnyH_ready (rs := [8]) (by kernel_rfl) (by simp) ?_
            refine AllReadyH.cons rfl (fun K hK => ?_) AllReadyH.nil
            go_simp
            have kz : Below w12.heap.size w12 (w15.alloc (.cells #[.int .i64 0, .int .i64 0, .slice none 0 0] 25)) := k15.alloc k15.size _
            have Zz : Hid (Blk (w15.alloc (.cells #[.int .i64 0, .int .i64 0, .slice none 0 0] 25)) w15.heap.size #[.int .i64 0, .int .i64 0, .slice none 0 0] 25) := Blk.new _ _ _
            have hAz : w12.heap.size ≤ w15.heap.size := k15.size
            have Sz := hide (S14.out.later ((Below.refl _ _).alloc (Nat.le_refl _) (.cells #[.int .i64 0, .int .i64 0, .slice none 0 0] 25)))
            have Gz := hide (G14.out.later ((Below.refl _ _).alloc (Nat.le_refl _) (.cells #[.int .i64 0, .int .i64 0, .slice none 0 0] 25)))
            have Rz := hide (H15.out.later ((Below.refl _ _).alloc (Nat.le_refl _) (.cells #[.int .i64 0, .int .i64 0, .slice none 0 0] 25)))
            refine hK.out _ _ (by exact KP.out _ kz) (fun hHeld => ?_)
            clear hK K
            try simp only [Act.put, List.setIfInBounds_toArray, List.set_cons_zero, List.set_cons_succ, List.getElem_toArray, List.getElem_cons_succ, List.getElem_cons_zero]
            generalize (w15.alloc (.cells #[.int .i64 0, .int .i64 0, .slice none 0 0] 25)) = wz at *
            have az := Zz.out.lt
            have hNe : ∀ b, (w14.heap.size ≤ b ∧ b < w15.heap.size) → b ≠ w15.heap.size := fun b hb => by omega
            have y0 : wz.cell? ⟨w15.heap.size, 0, none⟩ = some (.int .i64 0) := Zz.out.cell 0
            have y1 : wz.cell? ⟨w15.heap.size, 1, none⟩ = some (.int .i64 0) := Zz.out.cell 1
            have y2 : wz.cell? ⟨w15.heap.size, 2, none⟩ = some (.slice none 0 0) := Zz.out.cell 2
            have yf := Zz.out.frozen
            have kq : Below w12.heap.size w12 (((wz.setCell ⟨w15.heap.size, 0, none⟩ (.int .i64 cc.kind)).setCell ⟨w15.heap.size, 1, none⟩ (.int .i64 cc.idx)).setCell ⟨w15.heap.size, 2, none⟩ (.slice ac cc.subs.length cc')) := ((kz.setCell (p := ⟨w15.heap.size, 0, none⟩) hAz _).setCell (p := ⟨w15.heap.size, 1, none⟩) hAz _).setCell (p := ⟨w15.heap.size, 2, none⟩) hAz _
            have QB : Hid (Bx (((wz.setCell ⟨w15.heap.size, 0, none⟩ (.int .i64 cc.kind)).setCell ⟨w15.heap.size, 1, none⟩ (.int .i64 cc.idx)).setCell ⟨w15.heap.size, 2, none⟩ (.slice ac cc.subs.length cc')) w15.heap.size cc ac cc') := ⟨set3S Zz.out _ _ _, (Rz.out.kept fun b hb => by rw [Below.heap_setCell _ _ _ _ (by simpa using hNe b hb), Below.heap_setCell _ _ _ _ (by simpa using hNe b hb), Below.heap_setCell _ _ _ _ (by simpa using hNe b hb)]).mono fun _ _ _ => trivial⟩
            refine wpAnyH_ready (rs := [9]) (by kernel_rfl) (by simp) ?_
            refine AllReadyH.cons rfl (fun K hK => ?_) AllReadyH.nil
            go_simp
            refine hK.out _ _ (by exact KP.out _ kq) (fun hHeld => ?_)
            clear hK K
            try simp only [Act.put, List.setIfInBounds_toArray, List.set_cons_zero, List.set_cons_succ, List.getElem_toArray, List.getElem_cons_succ, List.getElem_cons_zero]
            refine wpAnyH_take (i := 10) (v := ?_) rfl (by kernel_rfl) (by kernel_rfl) (by kernel_rfl) (fun _ _ _ h => h) (Or.inl ⟨by rfl, ?_⟩) (by assumption) ?_
            rotate_left
            · intro w' hSw
              go_simp <;> with_reducible rfl
            try simp only [Act.put, List.setIfInBounds_toArray, List.set_cons_zero, List.set_cons_succ, List.getElem_toArray, List.getElem_cons_succ, List.getElem_cons_zero]
            refine wpAnyH_done (by kernel_rfl) ?_ _
            go_wp2_with fail
            go_meet
            exact ⟨_, _, _, rfl, rfl, QB.out, kq⟩
          · go_simp
            have kz : Below w12.heap.size w12 (w14.alloc (.cells #[.int .i64 0, .int .i64 0, .slice none 0 0] 25)) := k14.alloc k14.size _
            have Zz : Hid (Blk (w14.alloc (.cells #[.int .i64 0, .int .i64 0, .slice none 0 0] 25)) w14.heap.size #[.int .i64 0, .int .i64 0, .slice none 0 0] 25) := Blk.new _ _ _
            have hAz : w12.heap.size ≤ w14.heap.size := k14.size
            have Sz := hide (S14.out.later ((Below.refl _ _).alloc (Nat.le_refl _) (.cells #[.int .i64 0, .int .i64 0, .slice none 0 0] 25)))
            have Gz := hide (G14.out.later ((Below.refl _ _).alloc (Nat.le_refl _) (.cells #[.int .i64 0, .int .i64 0, .slice none 0 0] 25)))
            refine hK.out _ _ (by exact KP.out _ kz) (fun hHeld => ?_)
            clear hK K
            try simp only [Act.put, List.setIfInBounds_toArray, List.set_cons_zero, List.set_cons_succ, List.getElem_toArray, List.getElem_cons_succ, List.getElem_cons_zero]
            generalize (w14.alloc (.cells #[.int .i64 0, .int .i64 0, .slice none 0 0] 25)) = wz at *
            have az := Zz.out.lt
            refine wpAnyH_ready (rs := [4]) (by kernel_rfl) (by simp) ?_
            refine AllReadyH.cons rfl (fun K hK => ?_) AllReadyH.nil
            go_simp
            go_at_call 6
            refine (putN_any (swpT m) (higT 1 0 y) 2 HF.out.pc cc HCE.out.symm _ _ _ (fun _ => True) (by exact ⟨as', cs', rfl, Sz.out⟩) (by exact ⟨ah, ch, rfl, Gz.out⟩)).mono ?_
            rintro e w15 ⟨ac, cc', rfl, hs15, hb15⟩
            have k15 : Below w12.heap.size w12 w15 := kz.trans (hb15.mono kz.size)
            have Z15 := hide (Zz.out.below hb15 Zz.out.lt)
            have a15 := Z15.out.lt
            go_simp
            refine hK.out _ _ (by exact KP.out _ k15) (fun hHeld => ?_)
            clear hK K
            try simp only [Act.put, List.setIfInBounds_toArray, List.set_cons_zero, List.set_cons_succ, List.getElem_toArray, List.getElem_cons_succ, List.getElem_cons_zero]
            have H15 := hide (hs15.mono (Y := fun b => wz.heap.size ≤ b ∧ b < w15.heap.size) fun b h1 h2 => ⟨h1, h2⟩)
            refine wpAnyH_take (i := 5) (v := ?_) rfl (by kernel_rfl) (by kernel_rfl) (by kernel_rfl) (fun _ _ _ h => h) (Or.inl ⟨by rfl, ?_⟩) (by assumption) ?_
            rotate_left
            · intro w' hSw
              go_simp <;> with_reducible rfl
            try simp only [Act.put, List.setIfInBounds_toArray, List.set_cons_zero, List.set_cons_succ, List.getElem_toArray, List.getElem_cons_succ, List.getElem_cons_zero]
            refine wpAnyH_take (i := 6) (v := ?_) rfl (by kernel_rfl) (by kernel_rfl) (by kernel_rfl) (fun _ _ _ h => h) (Or.inl ⟨by rfl, ?_⟩) (by assumption) ?_
            rotate_left
            · intro w' hSw
              go_simp <;> with_reducible rfl
            try simp only [Act.put, List.setIfInBounds_toArray, List.set_cons_zero, List.set_cons_succ, List.getElem_toArray, List.getElem_cons_succ, List.getElem_cons_zero]
            refine wpAnyH_take (i := 7) (v := ?_) rfl (by kernel_rfl) (by kernel_rfl) (by kernel_rfl) (fun _ _ _ h => h) (Or.inl ⟨by rfl, ?_⟩) (by assumption) ?_
            rotate_left
            · intro w' hSw
              go_simp <;> with_reducible rfl
            try simp only [Act.put, List.setIfInBounds_toArray, List.set_cons_zero, List.set_cons_succ, List.getElem_toArray, List.getElem_cons_succ, List.getElem_cons_zero]
            have hNe : ∀ b, (wz.heap.size ≤ b ∧ b < w15.heap.size) → b ≠ w14.heap.size := fun b hb => by omega
            have y0 : w15.cell? ⟨w14.heap.size, 0, none⟩ = some (.int .i64 0) := Z15.out.cell 0
            have y1 : w15.cell? ⟨w14.heap.size, 1, none⟩ = some (.int .i64 0) := Z15.out.cell 1
            have y2 : w15.cell? ⟨w14.heap.size, 2, none⟩ = some (.slice none 0 0) := Z15.out.cell 2
            have yf := Z15.out.frozen
            have kq : Below w12.heap.size w12 (((w15.setCell ⟨w14.heap.size, 0, none⟩ (.int .i64 cc.kind)).setCell ⟨w14.heap.size, 1, none⟩ (.int .i64 cc.idx)).setCell ⟨w14.heap.size, 2, none⟩ (.slice ac cc.subs.length cc')) := ((k15.setCell (p := ⟨w14.heap.size, 0, none⟩) hAz _).setCell (p := ⟨w14.heap.size, 1, none⟩) hAz _).setCell (p := ⟨w14.heap.size, 2, none⟩) hAz _
            have QB : Hid (Bx (((w15.setCell ⟨w14.heap.size, 0, none⟩ (.int .i64 cc.kind)).setCell ⟨w14.heap.size, 1, none⟩ (.int .i64 cc.idx)).setCell ⟨w14.heap.size, 2, none⟩ (.slice ac cc.subs.length cc')) w14.heap.size cc ac cc') := ⟨set3S Z15.out _ _ _, (H15.out.kept fun b hb => by rw [Below.heap_setCell _ _ _ _ (by simpa using hNe b hb), Below.heap_setCell _ _ _ _ (by simpa using hNe b hb), Below.heap_setCell _ _ _ _ (by simpa using hNe b hb)]).mono fun _ _ _ => trivial⟩
            refine wpAnyH_ready (rs := [9]) (by kernel_rfl) (by simp) ?_
            refine AllReadyH.cons rfl (fun K hK => ?_) AllReadyH.nil
            go_simp
            refine hK.out _ _ (by exact KP.out _ kq) (fun hHeld => ?_)
            clear hK K
            try simp only [Act.put, List.setIfInBounds_toArray, List.set_cons_zero, List.set_cons_succ, List.getElem_toArray, List.getElem_cons_succ, List.getElem_cons_zero]
            refine wpAnyH_take (i := 10) (v := ?_) rfl (by kernel_rfl) (by kernel_rfl) (by kernel_rfl) (fun _ _ _ h => h) (Or.inl ⟨by rfl, ?_⟩) (by assumption) ?_
            rotate_left
            · intro w' hSw
              go_simp <;> with_reducible rfl
            try simp only [Act.put, List.setIfInBounds_toArray, List.set_cons_zero, List.set_cons_succ, List.getElem_toArray, List.getElem_cons_succ, List.getElem_cons_zero]
            refine wpAnyH_done (by kernel_rfl) ?_ _
            go_wp2_with fail
            go_meet
            exact ⟨_, _, _, rfl, rfl, QB.out, kq⟩
        · go_simp
          have kz : Below w12.heap.size w12 (w13.alloc (.cells #[.int .i64 0, .int .i64 0, .slice none 0 0] 25)) := k13.alloc k13.size _
          have Zz : Hid (Blk (w13.alloc (.cells #[.int .i64 0, .int .i64 0, .slice none 0 0] 25)) w13.heap.size #[.int .i64 0, .int .i64 0, .slice none 0 0] 25) := Blk.new _ _ _
          have hAz : w12.heap.size ≤ w13.heap.size := k13.size
          have Sz := hide (S13.out.later ((Below.refl _ _).alloc (Nat.le_refl _) (.cells #[.int .i64 0, .int .i64 0, .slice none 0 0] 25)))
          refine hK.out _ _ (by exact KP.out _ kz) (fun hHeld => ?_)
          clear hK K
          try simp only [Act.put, List.setIfInBounds_toArray, List.set_cons_zero, List.set_cons_succ, List.getElem_toArray, List.getElem_cons_succ, List.getElem_cons_zero]
          generalize (w13.alloc (.cells #[.int .i64 0, .int .i64 0, .slice none 0 0] 25)) = wz at *
          have az := Zz.out.lt
          refine wpAnyH_ready (rs := [3]) (by kernel_rfl) (by simp) ?_
          refine AllReadyH.cons rfl (fun K hK => ?_) AllReadyH.nil
          go_simp
          go_at_call 8
          refine (higher_any 1 (by omega) (by omega) y _ 0 _ (fun _ => True) (by exact ⟨ay, cy, rfl, Y12.out.2.later kz⟩) (by omega) (by have := HZY.out; omega) (bnd_of_err _ 1 0 (by omega) (by have := HZY.out; omega) (by omega) HEY.out)).mono ?_
          rintro e w14 ⟨ah, ch, rfl, hs14, hb14⟩
          have k14 : Below w12.heap.size w12 w14 := kz.trans (hb14.mono kz.size)
          have S14 := hide (Sz.out.later hb14)
          have G14 := hide (hs14.mono (Y := fun _ => True) fun _ _ _ => trivial)
          have Z14 := hide (Zz.out.below hb14 Zz.out.lt)
          have a14 := Z14.out.lt
          go_simp
          refine hK.out _ _ (by exact KP.out _ k14) (fun hHeld => ?_)
          clear hK K
          try simp only [Act.put, List.setIfInBounds_toArray, List.set_cons_zero, List.set_cons_succ, List.getElem_toArray, List.getElem_cons_succ, List.getElem_cons_zero]
          refine wpAnyH_ready (rs := [4]) (by kernel_rfl) (by simp) ?_
          refine AllReadyH.cons rfl (fun K hK => ?_) AllReadyH.nil
          go_simp
          go_at_call 6
          refine (putN_any (swpT m) (higT 1 0 y) 2 HF.out.pc cc HCE.out.symm _ _ _ (fun _ => True) (by exact ⟨as', cs', rfl, S14.out⟩) (by exact ⟨ah, ch, rfl, G14.out⟩)).mono ?_
          rintro e w15 ⟨ac, cc', rfl, hs15, hb15⟩
          have k15 : Below w12.heap.size w12 w15 := k14.trans (hb15.mono k14.size)
          have Z15 := hide (Z14.out.below hb15 Z14.out.lt)
          have a15 := Z15.out.lt
          go_simp
          refine hK.out _ _ (by exact KP.out _ k15) (fun hHeld => ?_)
          clear hK K
          try simp only [Act.put, List.setIfInBounds_toArray, List.set_cons_zero, List.set_cons_succ, List.getElem_toArray, List.getElem_cons_succ, List.getElem_cons_zero]
          have H15 := hide (hs15.mono (Y := fun b => w14.heap.size ≤ b ∧ b < w15.heap.size) fun b h1 h2 => ⟨h1, h2⟩)
          refine wpAnyH_take (i := 5) (v := ?_) rfl (by kernel_rfl) (by kernel_rfl) (by kernel_rfl) (fun _ _ _ h => h) (Or.inl ⟨by rfl, ?_⟩) (by assumption) ?_
          rotate_left
          · intro w' hSw
            go_simp <;> with_reducible rfl
          try simp only [Act.put, List.setIfInBounds_toArray, List.set_cons_zero, List.set_cons_succ, List.getElem_toArray, List.getElem_cons_succ, List.getElem_cons_zero]
          refine wpAnyH_take (i := 6) (v := ?_) rfl (by kernel_rfl) (by kernel_rfl) (by kernel_rfl) (fun _ _ _ h => h) (Or.inl ⟨by rfl, ?_⟩) (by assumption) ?_
          rotate_left
          · intro w' hSw
            go_simp <;> with_reducible rfl
          try simp only [Act.put, List.setIfInBounds_toArray, List.set_cons_zero, List.set_cons_succ, List.getElem_toArray, List.getElem_cons_succ, List.getElem_cons_zero]
          refine wpAnyH_take (i := 7) (v := ?_) rfl (by kernel_rfl) (by kernel_rfl) (by kernel_rfl) (fun _ _ _ h => h) (Or.inl ⟨by rfl, ?_⟩) (by assumption) ?_
          rotate_left
          · intro w' hSw
            go_simp <;> with_reducible rfl
          try simp only [Act.put, List.setIfInBounds_toArray, List.set_cons_zero, List.set_cons_succ, List.getElem_toArray, List.getElem_cons_succ, List.getElem_cons_zero]
          have hNe : ∀ b, (w14.heap.size ≤ b ∧ b < w15.heap.size) → b ≠ w13.heap.size := fun b hb => by omega
          have y0 : w15.cell? ⟨w13.heap.size, 0, none⟩ = some (.int .i64 0) := Z15.out.cell 0
          have y1 : w15.cell? ⟨w13.heap.size, 1, none⟩ = some (.int .i64 0) := Z15.out.cell 1
          have y2 : w15.cell? ⟨w13.heap.size, 2, none⟩ = some (.slice none 0 0) := Z15.out.cell 2
          have yf := Z15.out.frozen
          have kq : Below w12.heap.size w12 (((w15.setCell ⟨w13.heap.size, 0, none⟩ (.int .i64 cc.kind)).setCell ⟨w13.heap.size, 1, none⟩ (.int .i64 cc.idx)).setCell ⟨w13.heap.size, 2, none⟩ (.slice ac cc.subs.length cc')) := ((k15.setCell (p := ⟨w13.heap.size, 0, none⟩) hAz _).setCell (p := ⟨w13.heap.size, 1, none⟩) hAz _).setCell (p := ⟨w13.heap.size, 2, none⟩) hAz _
          have QB : Hid (Bx (((w15.setCell ⟨w13.heap.size, 0, none⟩ (.int .i64 cc.kind)).setCell ⟨w13.heap.size, 1, none⟩ (.int .i64 cc.idx)).setCell ⟨w13.heap.size, 2, none⟩ (.slice ac cc.subs.length cc')) w13.heap.size cc ac cc') := ⟨set3S Z15.out _ _ _, (H15.out.kept fun b hb => by rw [Below.heap_setCell _ _ _ _ (by simpa using hNe b hb), Below.heap_setCell _ _ _ _ (by simpa using hNe b hb), Below.heap_setCell _ _ _ _ (by simpa using hNe b hb)]).mono fun _ _ _ => trivial⟩
          refine wpAnyH_ready (rs := [9]) (by kernel_rfl) (by simp) ?_
          refine AllReadyH.cons rfl (fun K hK => ?_) AllReadyH.nil
          go_simp
          refine hK.out _ _ (by exact KP.out _ kq) (fun hHeld => ?_)
          clear hK K
          try simp only [Act.put, List.setIfInBounds_toArray, List.set_cons_zero, List.set_cons_succ, List.getElem_toArray, List.getElem_cons_succ, List.getElem_cons_zero]
          refine wpAnyH_take (i := 10) (v := ?_) rfl (by kernel_rfl) (by kernel_rfl) (by kernel_rfl) (fun _ _ _ h => h) (Or.inl ⟨by rfl, ?_⟩) (by assumption) ?_
          rotate_left
          · intro w' hSw
            go_simp <;> with_reducible rfl
          try simp only [Act.put, List.setIfInBounds_toArray, List.set_cons_zero, List.set_cons_succ, List.getElem_toArray, List.getElem_cons_succ, List.getElem_cons_zero]
          refine wpAnyH_done (by kernel_rfl) ?_ _
          go_wp2_with fail
          go_meet
          exact ⟨_, _, _, rfl, rfl, QB.out, kq⟩
      · go_simp
        have kz : Below w12.heap.size w12 (w12.alloc (.cells #[.int .i64 0, .int .i64 0, .slice none 0 0] 25)).drew := ((Below.refl w12.heap.size w12).alloc (Nat.le_refl _) _).drew
        have Zz : Hid (Blk (w12.alloc (.cells #[.int .i64 0, .int .i64 0, .slice none 0 0] 25)).drew w12.heap.size #[.int .i64 0, .int .i64 0, .slice none 0 0] 25) := Blk.new w12 _ _
        have hAz : w12.heap.size ≤ w12.heap.size := Nat.le_refl _
        refine hK.out _ _ (by exact KP.out _ kz) (fun hHeld => ?_)
        clear hK K
        try simp only [Act.put, List.setIfInBounds_toArray, List.set_cons_zero, List.set_cons_succ, List.getElem_toArray, List.getElem_cons_succ, List.getElem_cons_zero]
        generalize (w12.alloc (.cells #[.int .i64 0, .int .i64 0, .slice none 0 0] 25)).drew = wz at *
        have az := Zz.out.lt
        refine wpAnyH_ready (rs := [1]) (by kernel_rfl) (by simp) ?_
        refine AllReadyH.cons rfl (fun K hK => ?_) AllReadyH.nil
        go_simp
        go_at_call 7
        refine (swapped_any m HEM.out (by have := HZM.out; omega) _ _ (fun _ => True) (by exact ⟨am, cm, rfl, M12.out.2.later kz⟩)).mono ?_
        rintro e w13 ⟨as', cs', rfl, hs13, hb13⟩
        have k13 : Below w12.heap.size w12 w13 := kz.trans (hb13.mono kz.size)
        have S13 := hide hs13
        have Z13 := hide (Zz.out.below hb13 Zz.out.lt)
        have a13 := Z13.out.lt
        go_simp
        refine hK.out _ _ (by exact KP.out _ k13) (fun hHeld => ?_)
        clear hK K
        try simp only [Act.put, List.setIfInBounds_toArray, List.set_cons_zero, List.set_cons_succ, List.getElem_toArray, List.getElem_cons_succ, List.getElem_cons_zero]
        refine wpAnyH_ready (rs := [3]) (by kernel_rfl) (by simp) ?_
        refine AllReadyH.cons rfl (fun K hK => ?_) AllReadyH.nil
        go_simp
        go_at_call 8
        refine (higher_any 1 (by omega) (by omega) y _ 0 _ (fun _ => True) (by exact ⟨ay, cy, rfl, Y12.out.2.later k13⟩) (by omega) (by have := HZY.out; omega) (bnd_of_err _ 1 0 (by omega) (by have := HZY.out; omega) (by omega) HEY.out)).mono ?_
        rintro e w14 ⟨ah, ch, rfl, hs14, hb14⟩
        have k14 : Below w12.heap.size w12 w14 := k13.trans (hb14.mono k13.size)
        have S14 := hide (S13.out.later hb14)
        have G14 := hide (hs14.mono (Y := fun _ => True) fun _ _ _ => trivial)
        have Z14 := hide (Z13.out.below hb14 Z13.out.lt)
        have a14 := Z14.out.lt
        go_simp
        refine hK.out _ _ (by exact KP.out _ k14) (fun hHeld => ?_)
        clear hK K
        try simp only [Act.put, List.setIfInBounds_toArray, List.set_cons_zero, List.set_cons_succ, List.getElem_toArray, List.getElem_cons_succ, List.getElem_cons_zero]
        refine wpAnyH_ready (rs := [4]) (by kernel_rfl) (by simp) ?_
        refine AllReadyH.cons rfl (fun K hK => ?_) AllReadyH.nil
        go_simp
        go_at_call 6
        refine (putN_any (swpT m) (higT 1 0 y) 2 HF.out.pc cc HCE.out.symm _ _ _ (fun _ => True) (by exact ⟨as', cs', rfl, S14.out⟩) (by exact ⟨ah, ch, rfl, G14.out⟩)).mono ?_
        rintro e w15 ⟨ac, cc', rfl, hs15, hb15⟩
        have k15 : Below w12.heap.size w12 w15 := k14.trans (hb15.mono k14.size)
        have Z15 := hide (Z14.out.below hb15 Z14.out.lt)
        have a15 := Z15.out.lt
        go_simp
        refine hK.out _ _ (by exact KP.out _ k15) (fun hHeld => ?_)
        clear hK K
        try simp only [Act.put, List.setIfInBounds_toArray, List.set_cons_zero, List.set_cons_succ, List.getElem_toArray, List.getElem_cons_succ, List.getElem_cons_zero]
        have H15 := hide (hs15.mono (Y := fun b => w14.heap.size ≤ b ∧ b < w15.heap.size) fun b h1 h2 => ⟨h1, h2⟩)
        refine wpAnyH_take (i := 5) (v := ?_) rfl (by kernel_rfl) (by kernel_rfl) (by kernel_rfl) (fun _ _ _ h => h) (Or.inl ⟨by rfl, ?_⟩) (by assumption) ?_
        rotate_left
        · intro w' hSw
          go_simp <;> with_reducible rfl
        try simp only [Act.put, List.setIfInBounds_toArray, List.set_cons_zero, List.set_cons_succ, List.getElem_toArray, List.getElem_cons_succ, List.getElem_cons_zero]
        refine wpAnyH_take (i := 6) (v := ?_) rfl (by kernel_rfl) (by kernel_rfl) (by kernel_rfl) (fun _ _ _ h => h) (Or.inl ⟨by rfl, ?_⟩) (by assumption) ?_
        rotate_left
        · intro w' hSw
          go_simp <;> with_reducible rfl
        try simp only [Act.put, List.setIfInBounds_toArray, List.set_cons_zero, List.set_cons_succ, List.getElem_toArray, List.getElem_cons_succ, List.getElem_cons_zero]
        refine wpAnyH_take (i := 7) (v := ?_) rfl (by kernel_rfl) (by kernel_rfl) (by kernel_rfl) (fun _ _ _ h => h) (Or.inl ⟨by rfl, ?_⟩) (by assumption) ?_
        rotate_left
        · intro w' hSw
          go_simp <;> with_reducible rfl
        try simp only [Act.put, List.setIfInBounds_toArray, List.set_cons_zero, List.set_cons_succ, List.getElem_toArray, List.getElem_cons_succ, List.getElem_cons_zero]
        have hNe : ∀ b, (w14.heap.size ≤ b ∧ b < w15.heap.size) → b ≠ w12.heap.size := fun b hb => by omega
        have y0 : w15.cell? ⟨w12.heap.size, 0, none⟩ = some (.int .i64 0) := Z15.out.cell 0
        have y1 : w15.cell? ⟨w12.heap.size, 1, none⟩ = some (.int .i64 0) := Z15.out.cell 1
        have y2 : w15.cell? ⟨w12.heap.size, 2, none⟩ = some (.slice none 0 0) := Z15.out.cell 2
        have yf := Z15.out.frozen
        have kq : Below w12.heap.size w12 (((w15.setCell ⟨w12.heap.size, 0, none⟩ (.int .i64 cc.kind)).setCell ⟨w12.heap.size, 1, none⟩ (.int .i64 cc.idx)).setCell ⟨w12.heap.size, 2, none⟩ (.slice ac cc.subs.length cc')) := ((k15.setCell (p := ⟨w12.heap.size, 0, none⟩) hAz _).setCell (p := ⟨w12.heap.size, 1, none⟩) hAz _).setCell (p := ⟨w12.heap.size, 2, none⟩) hAz _
        have QB : Hid (Bx (((w15.setCell ⟨w12.heap.size, 0, none⟩ (.int .i64 cc.kind)).setCell ⟨w12.heap.size, 1, none⟩ (.int .i64 cc.idx)).setCell ⟨w12.heap.size, 2, none⟩ (.slice ac cc.subs.length cc')) w12.heap.size cc ac cc') := ⟨set3S Z15.out _ _ _, (H15.out.kept fun b hb => by rw [Below.heap_setCell _ _ _ _ (by simpa using hNe b hb), Below.heap_setCell _ _ _ _ (by simpa using hNe b hb), Below.heap_setCell _ _ _ _ (by simpa using hNe b hb)]).mono fun _ _ _ => trivial⟩
        refine wpAnyH_ready (rs := [9]) (by kernel_rfl) (by simp) ?_
        refine AllReadyH.cons rfl (fun K hK => ?_) AllReadyH.nil
        go_simp
        refine hK.out _ _ (by exact KP.out _ kq) (fun hHeld => ?_)
        clear hK K
        try simp only [Act.put, List.setIfInBounds_toArray, List.set_cons_zero, List.set_cons_succ, List.getElem_toArray, List.getElem_cons_succ, List.getElem_cons_zero]
        refine wpAnyH_take (i := 10) (v := ?_) rfl (by kernel_rfl) (by kernel_rfl) (by kernel_rfl) (fun _ _ _ h => h) (Or.inl ⟨by rfl, ?_⟩) (by assumption) ?_
        rotate_left
        · intro w' hSw
          go_simp <;> with_reducible rfl
        try simp only [Act.put, List.setIfInBounds_toArray, List.set_cons_zero, List.set_cons_succ, List.getElem_toArray, List.getElem_cons_succ, List.getElem_cons_zero]
        refine wpAnyH_done (by kernel_rfl) ?_ _
        go_wp2_with fail
        go_meet
        exact ⟨_, _, _, rfl, rfl, QB.out, kq⟩
    obtain ⟨P, ac, cc', rfl, rfl, C16, hb⟩ := hcut
    rename_i w16
    have X16 := hide (X12.out.later hb)
    have Y16 := hide (Y12.out.later hb)
    have B16 := hide (B12.out.later hb)
    have HB16 := hide (HB12.out.trans (hb.mono HB12.out.size))
    have C16 := hide C16
    clear hb X12 Y12 B12 HB12 M12 KP HSS k12 HSd
    obtain ⟨c0, c1, c2⟩ := X16.out.cs
    obtain ⟨d0, d1, d2⟩ := Y16.out.cs
    go_wp2_with fail
    obtain ⟨zz, hze⟩ : ∃ zz, zz = insT y 0 x := ⟨_, rfl⟩
    refine (putO_any x y 1 HF.out.pz zz hze.symm _ _ _ _ (by exact X16.out.mv) (by exact Y16.out.mv)).mono ?_
    have HZZ := hide hze
    clear hze c0 c1 c2 d0 d1 d2
    rintro e w17 ⟨az, cz, rfl, hs, hb⟩
    have B18 := hide ((B16.out.later hb).alloc (.cells #[.int .i64 zz.kind, .int .i64 zz.idx, .slice az zz.subs.length cz] 25))
    have C18 := hide ((C16.out.later hb).alloc (.cells #[.int .i64 zz.kind, .int .i64 zz.idx, .slice az zz.subs.length cz] 25))
    have Z18 := hide (Bx.new (c := cz) hs)
    have HB18 : Hid (Below w2.heap.size w2 (w17.alloc (.cells #[.int .i64 zz.kind, .int .i64 zz.idx, .slice az zz.subs.length cz] 25))) := (HB16.out.trans (hb.mono HB16.out.size)).alloc (HB16.out.trans (hb.mono HB16.out.size)).size _
    clear hs hb B16 C16 HB16
    obtain ⟨c0, c1, c2⟩ := C18.out.cs
    obtain ⟨d0, d1, d2⟩ := Z18.out.cs
    go_wp2_with fail
    generalize (w17.alloc (.cells #[.int .i64 zz.kind, .int .i64 zz.idx, .slice az zz.subs.length cz] 25)) = w18 at *
    refine (putO_any cc zz 1 (by rw [HCE.out, HZZ.out]; exact HF.out.pd) b (by rw [HCE.out, HZZ.out, HBE.out, HAE.out]; exact HF.out.eq) _ _ _ _ (by exact C18.out.mv) (by exact Z18.out.mv)).mono ?_
    clear c0 c1 c2 d0 d1 d2
    rintro e w19 ⟨ad, cd, rfl, hs, hb⟩
    have B20 := hide ((B18.out.later hb).alloc (.cells #[.int .i64 b.kind, .int .i64 b.idx, .slice ad b.subs.length cd] 25))
    have D20 := hide (Bx.new (c := cd) hs)
    have HB20 : Hid (Below w2.heap.size w2 (w19.alloc (.cells #[.int .i64 b.kind, .int .i64 b.idx, .slice ad b.subs.length cd] 25))) := (HB18.out.trans (hb.mono HB18.out.size)).alloc (HB18.out.trans (hb.mono HB18.out.size)).size _
    clear hs hb B18 HB18
    obtain ⟨c0, c1, c2⟩ := B20.out.cs
    obtain ⟨d0, d1, d2⟩ := D20.out.cs
    go_wp2_with fail
    generalize (w19.alloc (.cells #[.int .i64 b.kind, .int .i64 b.idx, .slice ad b.subs.length cd] 25)) = w20 at *
    refine (sameM_any b _ _ _ _ _ (by exact B20.out.mv) (by exact D20.out.mv)).mono ?_
    rintro e w21 ⟨rfl, hb⟩
    have HB21 := hide (HB20.out.trans (hb.mono HB20.out.size))
    clear hb c0 c1 c2 d0 d1 d2 B20 D20 HB20
    go_wp2_with fail
    refine (applies_any _ (HT.out.raise HB21.out HB21.out.size) (HSE.out.raise HB21.out HB21.out.size)).mono ?_
    rintro e w22 ⟨rfl, hb⟩
    have HB22 := hide (HB21.out.trans (hb.mono HB21.out.size))
    clear hb
    go_wp2_with fail
    go_ret
    exact ⟨rfl, HB22.out⟩
end Go.Proofs.YtclobmmdlhianaaGreatDoor
