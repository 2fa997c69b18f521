/- Walks: lambda terms without what is bound, as the document says. -/
import Derived.Test.YtcdabjekppddjaaGreatDoorCf2
import Derived.Test.YtcdabjekppddjaaGreatDoorZCombMadeOwn
import Derived.Test.YtcdabjekppddjaaGreatDoorZBCombMadeOwn
namespace Go.Proofs.YtcdabjekppddjaaGreatDoor
open Go.RowKit
set_option linter.unusedSimpArgs false
set_option linter.unusedVariables false
set_option maxRecDepth 8000

/-- What is told: a term, or that something is too great. -/
def CmP (o : Option Tm) (w : World) (e : Ending) (w' : World) : Prop := Below w.heap.size w w' ∧ ((∃ u a c, o = some u ∧ e = .returned (.tuple #[.agg #[.string u.name, .slice a u.args.length c], .int .i64 0]) ∧ Sl w' (fun b => w.heap.size ≤ b) a u.args) ∨ (o = none ∧ e = .returned (.tuple #[.agg #[.string ⟨#[]⟩, .slice none 0 0], .int .i64 8])))
theorem blk_set2 {w : World} {V T : Nat} {x0 x1 : Value} (h : Blk w V #[x0, x1] T) (u0 u1 : Value) : Blk ((w.setCell ⟨V, 0, none⟩ u0).setCell ⟨V, 1, none⟩ u1) V #[u0, u1] T := (h.set 0 u0).set 1 u1
theorem cat_nm (p : UInt8) (k : Nat) : (⟨#[p]⟩ : ByteArray) ++ ⟨(Lib.decDigits k).toArray⟩ = nmP p k := str_cat [p] (Lib.decDigits k)
set_option maxHeartbeats 4000000 in
theorem combOf_any (n : Nat) : ∀ (d : Nat) (t : Lm) (v : Value) (w : World) (X : Nat → Prop), d + n ≤ 1000 → errM (d : Int) 0 [t] = 0 → MV w X v t → sizeM [t] ≤ n →
    Calls Tryz.prog 20 #[v, .int .i64 (d : Int)] w fun e w' => CmP (cmb 86 n d t) w e w' := by
  induction n with
  | zero => intro d t v w X _ _ _ h; obtain ⟨k, x, l⟩ := t; simp [sizeM] at h
  | succ n ih =>
    intro d t v w X hdn he hv hz
    have IH := hide ih
    clear ih
    have HD : Hid (d ≤ 1000000) := by unfold Hid; omega
    obtain ⟨a, c, rfl, hs⟩ := hv
    generalize hW : (((w.alloc (.cells #[.int .i64 t.kind, .int .i64 t.idx, .slice a t.subs.length c] 36)).alloc (.cells #[.string ⟨#[]⟩, .slice none 0 0] 24)).alloc (.cells #[.string ⟨#[]⟩, .slice none 0 0] 24)) = w3
    have K3 : Hid (Below w.heap.size w w3) := by unfold Hid; rw [← hW]; exact (((Below.refl _ _).alloc (Nat.le_refl _) _).alloc (by simp) _).alloc (by simp; omega) _
    have T3 : Hid (Blk w3 w.heap.size #[.int .i64 t.kind, .int .i64 t.idx, .slice a t.subs.length c] 36) := by unfold Hid; rw [← hW]; exact ((Blk.new w _ _).alloc _).alloc _
    have R3 : Hid (Blk w3 (w.heap.size + 1) #[.string ⟨#[]⟩, .slice none 0 0] 24) := by
      unfold Hid; rw [← hW]
      have h := (Blk.new (w.alloc (.cells #[.int .i64 t.kind, .int .i64 t.idx, .slice a t.subs.length c] 36)) #[.string ⟨#[]⟩, .slice none 0 0] 24).alloc (.cells #[.string ⟨#[]⟩, .slice none 0 0] 24)
      rw [World.size_alloc] at h
      exact h
    have O3 : Hid (Blk w3 (w.heap.size + 1 + 1) #[.string ⟨#[]⟩, .slice none 0 0] 24) := by
      unfold Hid; rw [← hW]
      have h := Blk.new ((w.alloc (.cells #[.int .i64 t.kind, .int .i64 t.idx, .slice a t.subs.length c] 36)).alloc (.cells #[.string ⟨#[]⟩, .slice none 0 0] 24)) #[.string ⟨#[]⟩, .slice none 0 0] 24
      rw [World.size_alloc, World.size_alloc] at h
      exact h
    have HZ3 : Hid (w3.heap.size = w.heap.size + 3) := by unfold Hid; rw [← hW]; simp
    have SL3 := hide ((hs.mono (Y := fun b => b < w.heap.size) fun b _ h => h).later K3.out)
    have HW := hide hW
    clear hW hs
    go_enter Tryz.func20, Tryz.ntmps20
    go_upto_region 2 with fail
    rw [HW.out]
    clear HW
    obtain ⟨O, hO⟩ : ∃ O, O = w.heap.size + 1 + 1 := ⟨_, rfl⟩
    rw [← hO] at O3 ⊢
    obtain ⟨R, hR⟩ : ∃ R, R = w.heap.size + 1 := ⟨_, rfl⟩
    rw [← hR] at R3 ⊢
    obtain ⟨P, hP⟩ : ∃ P, P = w.heap.size := ⟨_, rfl⟩
    rw [← hP] at T3 ⊢
    have HOZ : Hid (O = w.heap.size + 2 ∧ R = w.heap.size + 1 ∧ P = w.heap.size) := ⟨by omega, hR, hP⟩
    clear hO hR hP
    have c0 : w3.cell? ⟨P, 0, none⟩ = some (.int .i64 t.kind) := T3.out.cell 0
    have c1 : w3.cell? ⟨P, 1, none⟩ = some (.int .i64 t.idx) := T3.out.cell 1
    have c2 : w3.cell? ⟨P, 2, none⟩ = some (.slice a t.subs.length c) := T3.out.cell 2
    have cl := T3.out.lt
    have ENDS : Hid (∀ (wz : World) (u : Tm) (au : Option Addr) (cu : Nat), Below w.heap.size w wz → Sl wz (fun b => w3.heap.size ≤ b) au u.args → cmb 86 (n + 1) d t = some u → ∀ u0 u1 : Value, CmP (cmb 86 (n + 1) d t) w (.returned (.tuple #[.agg #[.string u.name, .slice au u.args.length cu], .int .i64 0])) ((wz.setCell ⟨R, 0, none⟩ u0).setCell ⟨R, 1, none⟩ u1)) := fun wz u au cu hb hsu hu u0 u1 => by
      refine ⟨(hb.setCell (by have := HOZ.out; simp; omega) _).setCell (by have := HOZ.out; simp; omega) _, Or.inl ⟨u, au, cu, hu, rfl, ?_⟩⟩
      have hne : ∀ b, w3.heap.size ≤ b → b ≠ R := fun b hb => by have := HOZ.out; have := HZ3.out; omega
      exact (hsu.kept fun b hb => by rw [Below.heap_setCell _ _ _ _ (by simpa using hne b hb), Below.heap_setCell _ _ _ _ (by simpa using hne b hb)]).mono fun b hb _ => Nat.le_trans K3.out.size hb
    have ENDN : Hid (∀ (wz : World), Below w.heap.size w wz → cmb 86 (n + 1) d t = none → ∀ u0 u1 : Value, CmP (cmb 86 (n + 1) d t) w (.returned (.tuple #[.agg #[.string ⟨#[]⟩, .slice none 0 0], .int .i64 8])) ((wz.setCell ⟨R, 0, none⟩ u0).setCell ⟨R, 1, none⟩ u1)) := fun wz hb hu u0 u1 =>
      ⟨(hb.setCell (by have := HOZ.out; simp; omega) _).setCell (by have := HOZ.out; simp; omega) _, Or.inr ⟨hu, rfl⟩⟩
    rcases may_look he with ⟨x, rfl, h0, h1⟩ | ⟨b, rfl, hb⟩ | ⟨f, y, rfl, hf, hy⟩ | ⟨x, rfl, h0, h1⟩
    · obtain ⟨k, hk⟩ : ∃ k : Nat, (k : Int) = (d : Int) - 1 - x := ⟨((d : Int) - 1 - x).toNat, by omega⟩
      have hw1 : IntKind.i64.wrap ((d : Int) - 1) = (d : Int) - 1 := by rw [IntKind.wrap_i64]; omega
      have hw2 : IntKind.i64.wrap ((d : Int) - 1 - x) = (k : Int) := by rw [IntKind.wrap_i64]; omega
      have HRES : Hid (cmb 86 (n + 1) d ⟨1, x, []⟩ = some ⟨nmP 86 k, []⟩) := by unfold Hid; rw [cmb_var, ← hk, Int.toNat_natCast]
      have HK : Hid (k ≤ 1000000) := by unfold Hid; omega
      clear hk
      go_wp2_with fail
      refine (dec_any k HK.out _).mono ?_
      rintro e w4 ⟨rfl, hb4⟩
      have R4 := hide (R3.out.below hb4 R3.out.lt)
      have K4 := hide hb4
      clear hb4
      have hcat := cat_nm 86 k
      have hdl := dec_len k
      have hdl2 : ¬ 9223372036854775807 < 1 + (Lib.decDigits k).length := by have := HK.out; omega
      have hdl3 : 1 + (Lib.decDigits k).length ≤ 9223372036854775807 := by omega
      go_wp2_with fail
      refine (leafD_any _ _).mono ?_
      rintro e w5 ⟨rfl, hb5⟩
      have K5 := hide (K3.out.trans ((K4.out.trans (hb5.mono K4.out.size)).mono K3.out.size))
      have R5 := hide (R4.out.below hb5 R4.out.lt)
      clear hb5 hdl
      have y0 : w5.cell? ⟨R, 0, none⟩ = some (.string ⟨#[]⟩) := R5.out.cell 0
      have y1 : w5.cell? ⟨R, 1, none⟩ = some (.slice none 0 0) := R5.out.cell 1
      have yf := R5.out.frozen
      have yl := R5.out.lt
      generalize hnm : nmP 86 k = nmz at *
      have HNM := hide hnm
      clear hnm
      go_wp2_with fail
      refine bodyPost_ret (v := .tuple #[.agg #[.string nmz, .slice none 0 0], .int .i64 0]) (by simp [results, Tryz.results20, go_sem, World.cell?_setCell_same, World.cell?_setCell_other, y0, y1]) rfl ?_
      exact ENDS.out w5 ⟨nmz, []⟩ none 0 K5.out ⟨by simp, Or.inl rfl⟩ HRES.out _ _
    · have HZB : Hid (sizeM [b] ≤ n) := by have := hz; simp only [sizeM] at this ⊢; unfold Hid; omega
      have HEB : Hid (errM ((d + 1 : Nat) : Int) 0 [b] = 0) := by unfold Hid; rw [show ((d + 1 : Nat) : Int) = (d : Int) + 1 by omega]; exact hb
      have HCL : Hid (cmb 86 (n + 1) d ⟨2, 0, [b]⟩ = (cmb 86 n (d + 1) b).bind fun t => notG (alw (brR (nmP 86 d) (sizeL [t]) t))) := cmb_lam 86 n d 0 b
      obtain ⟨B, o, ab, cb, rfl, d0, d1, d2, hbv⟩ := SL3.out.get (Below.refl w3.heap.size w3) (fun b _ h => h) 0 (by simp)
      have d0' : w3.cell? ⟨B, o, none⟩ = some (.int .i64 b.kind) := by simpa using d0
      have d1' : w3.cell? ⟨B, o + 1, none⟩ = some (.int .i64 b.idx) := by simpa using d1
      have d2' : w3.cell? ⟨B, o + 2, none⟩ = some (.slice ab b.subs.length cb) := by simpa using d2
      have hbv' : MV w3 (fun b => b < w.heap.size) (.agg #[.int .i64 b.kind, .int .i64 b.idx, .slice ab b.subs.length cb]) b := by simpa using hbv
      have HBV := hide hbv'
      have hBl := World.block_lt_of_cell? w3 _ d0'
      clear d0 d1 d2 hbv hbv'
      have hwd : IntKind.i64.wrap ((d : Int) + 1) = ((d + 1 : Nat) : Int) := by rw [IntKind.wrap_i64]; omega
      go_wp2_with fail
      refine (IH.out (d + 1) b _ _ _ (by omega) HEB.out (by exact HBV.out) HZB.out).mono ?_
      rintro e w4 ⟨hb4, h⟩
      have K4 := hide (K3.out.trans (hb4.mono K3.out.size))
      have R4 := hide (R3.out.below hb4 R3.out.lt)
      have O4 := hide (O3.out.below hb4 O3.out.lt)
      have HS34 := hide hb4.size
      clear hb4 c0 c1 c2 cl d0' d1' d2' hBl
      rcases h with ⟨u, au, cu, hu, rfl, hsu⟩ | ⟨hu, rfl⟩
      rotate_left
      · have HRES : Hid (cmb 86 (n + 1) d ⟨2, 0, [b]⟩ = none) := by unfold Hid; rw [HCL.out, hu]; rfl
        have RW := hide (R4.out.alloc (.cells #[.string ⟨#[]⟩, .slice none 0 0] 24))
        have KW : Hid (Below w.heap.size w (w4.alloc (.cells #[.string ⟨#[]⟩, .slice none 0 0] 24))) := K4.out.alloc K4.out.size _
        go_upto_region 16 with fail
        generalize (w4.alloc (.cells #[.string ⟨#[]⟩, .slice none 0 0] 24)) = WW at *
        have y0 : WW.cell? ⟨R, 0, none⟩ = some (.string ⟨#[]⟩) := RW.out.cell 0
        have y1 : WW.cell? ⟨R, 1, none⟩ = some (.slice none 0 0) := RW.out.cell 1
        have yf := RW.out.frozen
        have yl := RW.out.lt
        go_wp2_with fail
        refine bodyPost_ret (v := .tuple #[.agg #[.string ⟨#[]⟩, .slice none 0 0], .int .i64 8]) (by simp [results, Tryz.results20, go_sem, World.cell?_setCell_same, World.cell?_setCell_other, y0, y1]) rfl ?_
        exact ENDN.out WW KW.out HRES.out _ _
      have HRES0 : Hid (cmb 86 (n + 1) d ⟨2, 0, [b]⟩ = notG (alw (brR (nmP 86 d) (sizeL [u]) u))) := by unfold Hid; rw [HCL.out, hu]; rfl
      have HUO := cmb_ok 86 (by decide) n (d + 1) b u HEB.out hu
      have HUC := hide HUO.1
      have HUZ := hide HUO.2
      clear HUO hu
      have R5 := hide (R4.out.alloc (.cells #[.string u.name, .slice au u.args.length cu] 24))
      have O5 := hide (O4.out.alloc (.cells #[.string u.name, .slice au u.args.length cu] 24))
      have K5 : Hid (Below w.heap.size w (w4.alloc (.cells #[.string u.name, .slice au u.args.length cu] 24))) := K4.out.alloc K4.out.size _
      have U5 : Hid (Blk (w4.alloc (.cells #[.string u.name, .slice au u.args.length cu] 24)) w4.heap.size #[.string u.name, .slice au u.args.length cu] 24) := Blk.new w4 _ _
      have SU5 : Hid (Sl (w4.alloc (.cells #[.string u.name, .slice au u.args.length cu] 24)) (fun b => w3.heap.size ≤ b) au u.args) := hsu.later ((Below.refl _ _).alloc (Nat.le_refl _) _)
      have HS35 : Hid (w3.heap.size ≤ (w4.alloc (.cells #[.string u.name, .slice au u.args.length cu] 24)).heap.size) := Nat.le_trans HS34.out (by simp)
      clear hsu
      go_upto_region 18 with fail
      generalize (w4.alloc (.cells #[.string u.name, .slice au u.args.length cu] 24)) = w5 at *
      obtain ⟨PX, hPX⟩ : ∃ PX, PX = w4.heap.size := ⟨_, rfl⟩
      have HPO : Hid (PX ≠ O) := by have := HOZ.out; have := HZ3.out; have := HS34.out; unfold Hid; omega
      rw [← hPX] at U5 ⊢
      clear hPX
      obtain ⟨Xn, hXn⟩ : ∃ Xn : Nat → Prop, Xn = fun b => w3.heap.size ≤ b := ⟨_, rfl⟩
      have HXD := hide hXn
      have HXN : Hid (∀ b, w5.heap.size ≤ b → Xn b) := fun b hb => by rw [hXn]; exact Nat.le_trans HS35.out hb
      have HXO : Hid (∀ b, Xn b → b ≠ O) := fun b hb => by rw [hXn] at hb; have := HOZ.out; have := HZ3.out; omega
      rw [← hXn] at SU5
      clear hXn
      have VU : Hid (∀ w', Below w5.heap.size w5 w' → TV w' Xn (.agg #[.string u.name, .slice au u.args.length cu]) u) := fun w' hb => ⟨au, cu, rfl, SU5.out.later hb⟩
      have KP : Hid (∀ w', Below w5.heap.size w5 w' → w'.cell? ⟨PX, 0, none⟩ = some (.string u.name) ∧ w'.cell? ⟨PX, 1, none⟩ = some (.slice au u.args.length cu)) := fun w' hb => ⟨(U5.out.below hb U5.out.lt).cell 0, (U5.out.below hb U5.out.lt).cell 1⟩
      have KPR : Hid (∀ w', Below w5.heap.size w5 w' → ∀ u0 u1 : Value, (fun w' => w'.cell? ⟨PX, 0, none⟩ = some (.string u.name) ∧ w'.cell? ⟨PX, 1, none⟩ = some (.slice au u.args.length cu)) ((w'.setCell ⟨O, 0, none⟩ u0).setCell ⟨O, 1, none⟩ u1)) := fun w' hb u0 u1 => by
        have h9 := ((U5.out.below hb U5.out.lt).setOther 0 u0 HPO.out).setOther 1 u1 HPO.out
        exact ⟨h9.cell 0, h9.cell 1⟩
      have kd : Below w5.heap.size w5 w5.drew := (Below.refl _ _).drew
      have HSd := hide (KP.out _ kd)
      have HCAT := hide (cat_nm 86 d)
      have hdl3 : 1 + (Lib.decDigits d).length ≤ 9223372036854775807 := by have := dec_len d; omega
      have hdl2 : ¬ 9223372036854775807 < 1 + (Lib.decDigits d).length := by omega
      have ul := U5.out.lt
      have HRO : Hid (R ≠ O) := by have := HOZ.out; unfold Hid; omega
      refine wp_region_held_drew (S := (fun w' => w'.cell? ⟨PX, 0, none⟩ = some (.string u.name) ∧ w'.cell? ⟨PX, 1, none⟩ = some (.slice au u.args.length cu))) (by kernel_rfl) HSd.out (fun hHeld => ?_)
      refine wpAnyH_take (i := 0) (v := ?_) rfl (by kernel_rfl) (by kernel_rfl) (by kernel_rfl) (fun _ _ _ h => h) (Or.inl ⟨by rfl, ?_⟩) (by assumption) ?_
      rotate_left
      · intro w' hSw
        go_simp <;> with_reducible rfl
      try simp only [Act.put, List.setIfInBounds_toArray, List.set_cons_zero, List.set_cons_succ, List.getElem_toArray, List.getElem_cons_succ, List.getElem_cons_zero]
      refine wpAnyH_take (i := 3) (v := ?_) rfl (by kernel_rfl) (by kernel_rfl) (by kernel_rfl) (fun _ _ _ h => h) (Or.inl ⟨by rfl, ?_⟩) (by assumption) ?_
      rotate_left
      · intro w' hSw
        obtain ⟨e0, e1⟩ := hSw
        go_simp <;> with_reducible rfl
      try simp only [Act.put, List.setIfInBounds_toArray, List.set_cons_zero, List.set_cons_succ, List.getElem_toArray, List.getElem_cons_succ, List.getElem_cons_zero]
      refine wpAnyH_ready (rs := [1]) (by kernel_rfl) (by simp) ?_
      refine AllReadyH.cons rfl (fun K hK => ?_) AllReadyH.nil
      go_simp
      go_at_call 46
      refine (dec_any d HD.out _).mono ?_
      rintro e w6 ⟨rfl, hb6⟩
      have k6 : Below w5.heap.size w5 w6 := kd.trans (hb6.mono kd.size)
      clear hb6
      go_simp
      refine hK.out _ _ (by exact KP.out _ k6) (fun hHeld => ?_)
      clear hK K
      try simp only [Act.put, List.setIfInBounds_toArray, List.set_cons_zero, List.set_cons_succ, List.getElem_toArray, List.getElem_cons_succ, List.getElem_cons_zero]
      refine wpAnyH_take (i := 2) (v := ?_) rfl (by kernel_rfl) (by kernel_rfl) (by kernel_rfl) (fun _ _ _ h => h) (Or.inl ⟨by rfl, ?_⟩) (by assumption) ?_
      rotate_left
      · intro w' hSw
        go_simp <;> with_reducible rfl
      try simp only [Act.put, List.setIfInBounds_toArray, List.set_cons_zero, List.set_cons_succ, List.getElem_toArray, List.getElem_cons_succ, List.getElem_cons_zero]
      rw [HCAT.out]
      refine wpAnyH_ready (rs := [4]) (by kernel_rfl) (by simp) ?_
      refine AllReadyH.cons rfl (fun K hK => ?_) AllReadyH.nil
      go_simp
      go_at_call 9
      refine (bracketOf_any (nmP 86 d) (nm_ap 86 (by decide) d) (sizeL [u]) u _ _ Xn ⟨Nat.le_refl _, Nat.le_trans HUZ.out (by omega)⟩ HUC.out (by exact VU.out _ k6)).mono ?_
      rintro e w7 ⟨a7, c7, rfl, hs7, hb7⟩
      have k7 : Below w5.heap.size w5 w7 := k6.trans (hb7.mono k6.size)
      have S7 : Hid (Sl w7 Xn a7 (alw (brR (nmP 86 d) (sizeL [u]) u)).args) := hs7.mono fun b h _ => h.elim id (fun h => HXN.out b (Nat.le_trans k6.size h))
      obtain ⟨z, hz⟩ : ∃ z, z = alw (brR (nmP 86 d) (sizeL [u]) u) := ⟨_, rfl⟩
      rw [← hz] at S7 ⊢
      have HZ := hide hz
      clear hs7 hb7 hz
      go_simp
      refine hK.out _ _ (by exact KP.out _ k7) (fun hHeld => ?_)
      clear hK K
      try simp only [Act.put, List.setIfInBounds_toArray, List.set_cons_zero, List.set_cons_succ, List.getElem_toArray, List.getElem_cons_succ, List.getElem_cons_zero]
      have ob := hide (O5.out.below k7 O5.out.lt)
      have y0 : w7.cell? ⟨O, 0, none⟩ = some (.string ⟨#[]⟩) := ob.out.cell 0
      have y1 : w7.cell? ⟨O, 1, none⟩ = some (.slice none 0 0) := ob.out.cell 1
      have yf := ob.out.frozen
      have yl := ob.out.lt
      refine wpAnyH_ready (rs := [5]) (by kernel_rfl) (by simp) ?_
      refine AllReadyH.cons rfl (fun K hK => ?_) AllReadyH.nil
      go_simp
      refine hK.out _ _ (by exact KPR.out _ k7 _ _) (fun hHeld => ?_)
      clear hK K
      try simp only [Act.put, List.setIfInBounds_toArray, List.set_cons_zero, List.set_cons_succ, List.getElem_toArray, List.getElem_cons_succ, List.getElem_cons_zero]
      refine wpAnyH_done (by kernel_rfl) ?_ _
      have OX : Hid (Blk ((w7.setCell ⟨O, 0, none⟩ (.string z.name)).setCell ⟨O, 1, none⟩ (.slice a7 z.args.length c7)) O #[.string z.name, .slice a7 z.args.length c7] 24) := blk_set2 ob.out _ _
      have SX : Hid (Sl ((w7.setCell ⟨O, 0, none⟩ (.string z.name)).setCell ⟨O, 1, none⟩ (.slice a7 z.args.length c7)) (fun b => w3.heap.size ≤ b) a7 z.args) := (S7.out.kept fun b hb => by rw [Below.heap_setCell _ _ _ _ (by simpa using HXO.out b hb), Below.heap_setCell _ _ _ _ (by simpa using HXO.out b hb)]).mono fun b hb _ => by rw [HXD.out] at hb; exact hb
      have RX : Hid (Blk ((w7.setCell ⟨O, 0, none⟩ (.string z.name)).setCell ⟨O, 1, none⟩ (.slice a7 z.args.length c7)) R #[.string ⟨#[]⟩, .slice none 0 0] 24) := (((R5.out.below k7 R5.out.lt).setOther 0 _ HRO.out).setOther 1 _ HRO.out)
      have KX : Hid (Below w.heap.size w ((w7.setCell ⟨O, 0, none⟩ (.string z.name)).setCell ⟨O, 1, none⟩ (.slice a7 z.args.length c7))) := ((K5.out.trans (k7.mono K5.out.size)).setCell (by have := HOZ.out; simp; omega) _).setCell (by have := HOZ.out; simp; omega) _
      have HRES : Hid (cmb 86 (n + 1) d ⟨2, 0, [b]⟩ = notG z) := by unfold Hid; rw [HRES0.out, HZ.out]
      generalize ((w7.setCell ⟨O, 0, none⟩ (.string z.name)).setCell ⟨O, 1, none⟩ (.slice a7 z.args.length c7)) = wx at *
      generalize a7 = az at *
      generalize c7 = cz at *
      clear y0 y1 yf yl ob hHeld
      have o0 : wx.cell? ⟨O, 0, none⟩ = some (.string z.name) := OX.out.cell 0
      have o1 : wx.cell? ⟨O, 1, none⟩ = some (.slice az z.args.length cz) := OX.out.cell 1
      have ol := OX.out.lt
      go_wp2_with fail
      refine (size_any z _ 2000 _ _ (by exact ⟨az, cz, rfl, SX.out⟩) (by omega) (by omega)).mono ?_
      rintro e wy ⟨rfl, hby⟩
      have OY := hide (OX.out.below hby OX.out.lt)
      have RY := hide (RX.out.below hby RX.out.lt)
      have SY := hide (SX.out.later hby)
      have KY := hide (KX.out.trans (hby.mono KX.out.size))
      clear hby o0 o1 ol
      obtain ⟨q, hq⟩ : ∃ q : Int, q = min ((sizeL [z] : Nat) : Int) (2000 + 1) := ⟨_, rfl⟩
      have HQ := hide hq
      rw [← hq]
      clear hq
      have y0 : wy.cell? ⟨R, 0, none⟩ = some (.string ⟨#[]⟩) := RY.out.cell 0
      have y1 : wy.cell? ⟨R, 1, none⟩ = some (.slice none 0 0) := RY.out.cell 1
      have yf := RY.out.frozen
      have yl := RY.out.lt
      by_cases hg : 2000 < q
      · have HRN : Hid (cmb 86 (n + 1) d ⟨2, 0, [b]⟩ = none) := by unfold Hid; rw [HRES.out]; unfold notG; rw [if_pos (by have := HQ.out; omega)]
        go_wp2_with fail
        refine bodyPost_ret (v := .tuple #[.agg #[.string ⟨#[]⟩, .slice none 0 0], .int .i64 8]) (by simp [results, Tryz.results20, go_sem, World.cell?_setCell_same, World.cell?_setCell_other, y0, y1]) rfl ?_
        exact ENDN.out wy KY.out HRN.out _ _
      · have HRN : Hid (cmb 86 (n + 1) d ⟨2, 0, [b]⟩ = some z) := by unfold Hid; rw [HRES.out]; unfold notG; rw [if_neg (by have := HQ.out; omega)]
        have o0 : wy.cell? ⟨O, 0, none⟩ = some (.string z.name) := OY.out.cell 0
        have o1 : wy.cell? ⟨O, 1, none⟩ = some (.slice az z.args.length cz) := OY.out.cell 1
        have ol := OY.out.lt
        go_wp2_with fail
        refine bodyPost_ret (v := .tuple #[.agg #[.string z.name, .slice az z.args.length cz], .int .i64 0]) (by simp [results, Tryz.results20, go_sem, World.cell?_setCell_same, World.cell?_setCell_other, y0, y1]) rfl ?_
        exact ENDS.out wy z az cz KY.out SY.out HRN.out _ _
    · have HZF : Hid (sizeM [f] ≤ n) := by have := hz; simp only [sizeM] at this; have h9 : sizeM [f, y] = sizeM [f] + sizeM [y] := sizeM_append [f] [y]; unfold Hid; omega
      have HZY : Hid (sizeM [y] ≤ n) := by have := hz; simp only [sizeM] at this; have h9 : sizeM [f, y] = sizeM [f] + sizeM [y] := sizeM_append [f] [y]; unfold Hid; omega
      have HEF := hide hf
      have HEY := hide hy
      have HCL : Hid (cmb 86 (n + 1) d ⟨3, 0, [f, y]⟩ = (cmb 86 n d f).bind fun f' => (cmb 86 n d y).bind fun y' => notG (apT f' y')) := cmb_app 86 n d 0 f y
      obtain ⟨B, o, ab, cb, rfl, d0, d1, d2, hbv⟩ := SL3.out.get (Below.refl w3.heap.size w3) (fun b _ h => h) 0 (by simp)
      obtain ⟨B', o', ab2, cb2, e9, g0, g1, g2, hbv2⟩ := SL3.out.get (Below.refl w3.heap.size w3) (fun b _ h => h) 1 (by simp)
      simp only [Option.some.injEq, Addr.mk.injEq, and_true] at e9
      obtain ⟨rfl, rfl⟩ := e9
      have d0' : w3.cell? ⟨B, o, none⟩ = some (.int .i64 f.kind) := by simpa using d0
      have d1' : w3.cell? ⟨B, o + 1, none⟩ = some (.int .i64 f.idx) := by simpa using d1
      have d2' : w3.cell? ⟨B, o + 2, none⟩ = some (.slice ab f.subs.length cb) := by simpa using d2
      have g0' : w3.cell? ⟨B, o + 3, none⟩ = some (.int .i64 y.kind) := by simpa using g0
      have g1' : w3.cell? ⟨B, o + 4, none⟩ = some (.int .i64 y.idx) := by simpa using g1
      have g2' : w3.cell? ⟨B, o + 5, none⟩ = some (.slice ab2 y.subs.length cb2) := by simpa using g2
      have hbv' : MV w3 (fun b => b < w.heap.size) (.agg #[.int .i64 f.kind, .int .i64 f.idx, .slice ab f.subs.length cb]) f := by simpa using hbv
      have hbv2' : MV w3 (fun b => b < w.heap.size) (.agg #[.int .i64 y.kind, .int .i64 y.idx, .slice ab2 y.subs.length cb2]) y := by simpa using hbv2
      have HFV := hide hbv'
      have HYV := hide hbv2'
      have HG := hide (And.intro g0' (And.intro g1' g2'))
      have hBl := World.block_lt_of_cell? w3 _ d0'
      have HBL := hide hBl
      clear d0 d1 d2 hbv hbv' g0 g1 g2 hbv2 hbv2' g0' g1' g2'
      go_wp2_with fail
      refine (IH.out d f _ _ _ (by omega) HEF.out (by exact HFV.out) HZF.out).mono ?_
      rintro e w4 ⟨hb4, h⟩
      have K4 := hide (K3.out.trans (hb4.mono K3.out.size))
      have R4 := hide (R3.out.below hb4 R3.out.lt)
      have O4 := hide (O3.out.below hb4 O3.out.lt)
      have KK4 := hide hb4
      clear hb4 c0 c1 c2 cl d0' d1' d2' hBl
      rcases h with ⟨u, au, cu, hu, rfl, hsu⟩ | ⟨hu, rfl⟩
      rotate_left
      · have HRES : Hid (cmb 86 (n + 1) d ⟨3, 0, [f, y]⟩ = none) := by unfold Hid; rw [HCL.out, hu]; rfl
        have RW := hide (R4.out.alloc (.cells #[.string ⟨#[]⟩, .slice none 0 0] 24))
        have KW : Hid (Below w.heap.size w (w4.alloc (.cells #[.string ⟨#[]⟩, .slice none 0 0] 24))) := K4.out.alloc K4.out.size _
        go_upto_region 4 with fail
        generalize (w4.alloc (.cells #[.string ⟨#[]⟩, .slice none 0 0] 24)) = WW at *
        have y0 : WW.cell? ⟨R, 0, none⟩ = some (.string ⟨#[]⟩) := RW.out.cell 0
        have y1 : WW.cell? ⟨R, 1, none⟩ = some (.slice none 0 0) := RW.out.cell 1
        have yf := RW.out.frozen
        have yl := RW.out.lt
        go_wp2_with fail
        refine bodyPost_ret (v := .tuple #[.agg #[.string ⟨#[]⟩, .slice none 0 0], .int .i64 8]) (by simp [results, Tryz.results20, go_sem, World.cell?_setCell_same, World.cell?_setCell_other, y0, y1]) rfl ?_
        exact ENDN.out WW KW.out HRES.out _ _
      have HU := hide hu
      have K5 : Hid (Below w.heap.size w (w4.alloc (.cells #[.string u.name, .slice au u.args.length cu] 24))) := K4.out.alloc K4.out.size _
      have KK5 : Hid (Below w3.heap.size w3 (w4.alloc (.cells #[.string u.name, .slice au u.args.length cu] 24))) := KK4.out.alloc KK4.out.size _
      have U5 : Hid (Blk (w4.alloc (.cells #[.string u.name, .slice au u.args.length cu] 24)) w4.heap.size #[.string u.name, .slice au u.args.length cu] 24) := Blk.new w4 _ _
      have SU5 : Hid (Sl (w4.alloc (.cells #[.string u.name, .slice au u.args.length cu] 24)) (fun b => w3.heap.size ≤ b) au u.args) := hsu.later ((Below.refl _ _).alloc (Nat.le_refl _) _)
      clear hsu hu
      go_upto_region 4 with fail
      generalize (w4.alloc (.cells #[.string u.name, .slice au u.args.length cu] 24)) = w5 at *
      obtain ⟨PF, hPF⟩ : ∃ PF, PF = w4.heap.size := ⟨_, rfl⟩
      rw [← hPF] at U5 ⊢
      clear hPF
      have T5 := hide (T3.out.below KK5.out T3.out.lt)
      have c2 : w5.cell? ⟨P, 2, none⟩ = some (.slice (some ⟨B, o, none⟩) 2 c) := T5.out.cell 2
      have cl := T5.out.lt
      have g0 : w5.cell? ⟨B, o + 3, none⟩ = some (.int .i64 y.kind) := (KK5.out.cell (p := ⟨B, o + 3, none⟩) HBL.out).trans HG.out.1
      have g1 : w5.cell? ⟨B, o + 4, none⟩ = some (.int .i64 y.idx) := (KK5.out.cell (p := ⟨B, o + 4, none⟩) HBL.out).trans HG.out.2.1
      have g2 : w5.cell? ⟨B, o + 5, none⟩ = some (.slice ab2 y.subs.length cb2) := (KK5.out.cell (p := ⟨B, o + 5, none⟩) HBL.out).trans HG.out.2.2
      have hBl5 : B < w5.heap.size := Nat.lt_of_lt_of_le HBL.out KK5.out.size
      go_wp2_with fail
      refine (IH.out d y _ _ _ (by omega) HEY.out (by exact HYV.out.later KK5.out) HZY.out).mono ?_
      rintro e w6 ⟨hb6, h⟩
      have K6 := hide (K5.out.trans (hb6.mono K5.out.size))
      have KK6 := hide (KK5.out.trans (hb6.mono KK5.out.size))
      have U6 := hide (U5.out.below hb6 U5.out.lt)
      have SU6 := hide (SU5.out.later hb6)
      have HS35 := hide KK5.out.size
      clear hb6 c2 cl g0 g1 g2 hBl5
      rcases h with ⟨u2, au2, cu2, hu2, rfl, hsu2⟩ | ⟨hu2, rfl⟩
      rotate_left
      · have HRES : Hid (cmb 86 (n + 1) d ⟨3, 0, [f, y]⟩ = none) := by unfold Hid; rw [HCL.out, HU.out, hu2]; rfl
        have RW := hide ((R3.out.below KK6.out R3.out.lt).alloc (.cells #[.string ⟨#[]⟩, .slice none 0 0] 24))
        have KW : Hid (Below w.heap.size w (w6.alloc (.cells #[.string ⟨#[]⟩, .slice none 0 0] 24))) := K6.out.alloc K6.out.size _
        go_upto_region 7 with fail
        generalize (w6.alloc (.cells #[.string ⟨#[]⟩, .slice none 0 0] 24)) = WW at *
        have y0 : WW.cell? ⟨R, 0, none⟩ = some (.string ⟨#[]⟩) := RW.out.cell 0
        have y1 : WW.cell? ⟨R, 1, none⟩ = some (.slice none 0 0) := RW.out.cell 1
        have yf := RW.out.frozen
        have yl := RW.out.lt
        go_wp2_with fail
        refine bodyPost_ret (v := .tuple #[.agg #[.string ⟨#[]⟩, .slice none 0 0], .int .i64 8]) (by simp [results, Tryz.results20, go_sem, World.cell?_setCell_same, World.cell?_setCell_other, y0, y1]) rfl ?_
        exact ENDN.out WW KW.out HRES.out _ _
      have HRES0 : Hid (cmb 86 (n + 1) d ⟨3, 0, [f, y]⟩ = notG (apT u u2)) := by unfold Hid; rw [HCL.out, HU.out, hu2]; rfl
      have K7 : Hid (Below w.heap.size w (w6.alloc (.cells #[.string u2.name, .slice au2 u2.args.length cu2] 24))) := K6.out.alloc K6.out.size _
      have KK7 : Hid (Below w3.heap.size w3 (w6.alloc (.cells #[.string u2.name, .slice au2 u2.args.length cu2] 24))) := KK6.out.alloc KK6.out.size _
      have U7 := hide (U6.out.alloc (.cells #[.string u2.name, .slice au2 u2.args.length cu2] 24))
      have V7 : Hid (Blk (w6.alloc (.cells #[.string u2.name, .slice au2 u2.args.length cu2] 24)) w6.heap.size #[.string u2.name, .slice au2 u2.args.length cu2] 24) := Blk.new w6 _ _
      have SU7 : Hid (Sl (w6.alloc (.cells #[.string u2.name, .slice au2 u2.args.length cu2] 24)) (fun b => w3.heap.size ≤ b) au u.args) := SU6.out.later ((Below.refl _ _).alloc (Nat.le_refl _) _)
      have SV7 : Hid (Sl (w6.alloc (.cells #[.string u2.name, .slice au2 u2.args.length cu2] 24)) (fun b => w3.heap.size ≤ b) au2 u2.args) := (hsu2.mono (Y := fun b => w3.heap.size ≤ b) fun b h _ => Nat.le_trans HS35.out h).later ((Below.refl _ _).alloc (Nat.le_refl _) _)
      clear hsu2 hu2
      go_upto_region 7 with fail
      generalize (w6.alloc (.cells #[.string u2.name, .slice au2 u2.args.length cu2] 24)) = w7 at *
      obtain ⟨PY, hPY⟩ : ∃ PY, PY = w6.heap.size := ⟨_, rfl⟩
      rw [← hPY] at V7 ⊢
      clear hPY
      have u0 : w7.cell? ⟨PF, 0, none⟩ = some (.string u.name) := U7.out.cell 0
      have u1 : w7.cell? ⟨PF, 1, none⟩ = some (.slice au u.args.length cu) := U7.out.cell 1
      have ul := U7.out.lt
      have v0 : w7.cell? ⟨PY, 0, none⟩ = some (.string u2.name) := V7.out.cell 0
      have v1 : w7.cell? ⟨PY, 1, none⟩ = some (.slice au2 u2.args.length cu2) := V7.out.cell 1
      have vl := V7.out.lt
      go_wp2_with fail
      refine (put2_any u u2 _ _ _ (fun b => w3.heap.size ≤ b) (by exact ⟨au, cu, rfl, SU7.out⟩) (by exact ⟨au2, cu2, rfl, SV7.out⟩)).mono ?_
      rintro e w8 ⟨v8, rfl, ⟨az, cz, rfl, hs8⟩, hb8⟩
      have K8 := hide (K7.out.trans (hb8.mono K7.out.size))
      have KK8 := hide (KK7.out.trans (hb8.mono KK7.out.size))
      have O8 := hide (O3.out.below KK8.out O3.out.lt)
      have R8 := hide (R3.out.below KK8.out R3.out.lt)
      have S8 : Hid (Sl w8 (fun b => w3.heap.size ≤ b) az (apT u u2).args) := hs8.mono fun b h _ => h.elim id (fun h => Nat.le_trans KK7.out.size h)
      obtain ⟨z, hz9⟩ : ∃ z, z = apT u u2 := ⟨_, rfl⟩
      rw [← hz9] at S8 ⊢
      have HRES : Hid (cmb 86 (n + 1) d ⟨3, 0, [f, y]⟩ = notG z) := by unfold Hid; rw [HRES0.out, hz9]
      clear hs8 hb8 hz9 u0 u1 ul v0 v1 vl
      have HRO : Hid (R ≠ O) := by have := HOZ.out; unfold Hid; omega
      have HXO : Hid (∀ b, w3.heap.size ≤ b → b ≠ O) := fun b hb => by have := HOZ.out; have := HZ3.out; omega
      have y0 : w8.cell? ⟨O, 0, none⟩ = some (.string ⟨#[]⟩) := O8.out.cell 0
      have y1 : w8.cell? ⟨O, 1, none⟩ = some (.slice none 0 0) := O8.out.cell 1
      have yf := O8.out.frozen
      have yl := O8.out.lt
      go_upto_region 19 with fail
      have OX : Hid (Blk ((w8.setCell ⟨O, 0, none⟩ (.string z.name)).setCell ⟨O, 1, none⟩ (.slice az z.args.length cz)) O #[.string z.name, .slice az z.args.length cz] 24) := blk_set2 O8.out _ _
      have SX : Hid (Sl ((w8.setCell ⟨O, 0, none⟩ (.string z.name)).setCell ⟨O, 1, none⟩ (.slice az z.args.length cz)) (fun b => w3.heap.size ≤ b) az z.args) := S8.out.kept fun b hb => by rw [Below.heap_setCell _ _ _ _ (by simpa using HXO.out b hb), Below.heap_setCell _ _ _ _ (by simpa using HXO.out b hb)]
      have RX : Hid (Blk ((w8.setCell ⟨O, 0, none⟩ (.string z.name)).setCell ⟨O, 1, none⟩ (.slice az z.args.length cz)) R #[.string ⟨#[]⟩, .slice none 0 0] 24) := (R8.out.setOther 0 _ HRO.out).setOther 1 _ HRO.out
      have KX : Hid (Below w.heap.size w ((w8.setCell ⟨O, 0, none⟩ (.string z.name)).setCell ⟨O, 1, none⟩ (.slice az z.args.length cz))) := (K8.out.setCell (by have := HOZ.out; simp; omega) _).setCell (by have := HOZ.out; simp; omega) _
      generalize ((w8.setCell ⟨O, 0, none⟩ (.string z.name)).setCell ⟨O, 1, none⟩ (.slice az z.args.length cz)) = wx at *
      clear y0 y1 yf yl
      have o0 : wx.cell? ⟨O, 0, none⟩ = some (.string z.name) := OX.out.cell 0
      have o1 : wx.cell? ⟨O, 1, none⟩ = some (.slice az z.args.length cz) := OX.out.cell 1
      have ol := OX.out.lt
      go_wp2_with fail
      refine (size_any z _ 2000 _ _ (by exact ⟨az, cz, rfl, SX.out⟩) (by omega) (by omega)).mono ?_
      rintro e wy ⟨rfl, hby⟩
      have OY := hide (OX.out.below hby OX.out.lt)
      have RY := hide (RX.out.below hby RX.out.lt)
      have SY := hide (SX.out.later hby)
      have KY := hide (KX.out.trans (hby.mono KX.out.size))
      clear hby o0 o1 ol
      obtain ⟨q, hq⟩ : ∃ q : Int, q = min ((sizeL [z] : Nat) : Int) (2000 + 1) := ⟨_, rfl⟩
      have HQ := hide hq
      rw [← hq]
      clear hq
      have y0 : wy.cell? ⟨R, 0, none⟩ = some (.string ⟨#[]⟩) := RY.out.cell 0
      have y1 : wy.cell? ⟨R, 1, none⟩ = some (.slice none 0 0) := RY.out.cell 1
      have yf := RY.out.frozen
      have yl := RY.out.lt
      by_cases hg : 2000 < q
      · have HRN : Hid (cmb 86 (n + 1) d ⟨3, 0, [f, y]⟩ = none) := by unfold Hid; rw [HRES.out]; unfold notG; rw [if_pos (by have := HQ.out; omega)]
        go_wp2_with fail
        refine bodyPost_ret (v := .tuple #[.agg #[.string ⟨#[]⟩, .slice none 0 0], .int .i64 8]) (by simp [results, Tryz.results20, go_sem, World.cell?_setCell_same, World.cell?_setCell_other, y0, y1]) rfl ?_
        exact ENDN.out wy KY.out HRN.out _ _
      · have HRN : Hid (cmb 86 (n + 1) d ⟨3, 0, [f, y]⟩ = some z) := by unfold Hid; rw [HRES.out]; unfold notG; rw [if_neg (by have := HQ.out; omega)]
        have o0 : wy.cell? ⟨O, 0, none⟩ = some (.string z.name) := OY.out.cell 0
        have o1 : wy.cell? ⟨O, 1, none⟩ = some (.slice az z.args.length cz) := OY.out.cell 1
        have ol := OY.out.lt
        go_wp2_with fail
        refine bodyPost_ret (v := .tuple #[.agg #[.string z.name, .slice az z.args.length cz], .int .i64 0]) (by simp [results, Tryz.results20, go_sem, World.cell?_setCell_same, World.cell?_setCell_other, y0, y1]) rfl ?_
        exact ENDS.out wy z az cz KY.out SY.out HRN.out _ _
    · obtain ⟨k, hk⟩ : ∃ k : Nat, x = (k : Int) := ⟨x.toNat, by omega⟩
      have HRES : Hid (cmb 86 (n + 1) d ⟨4, x, []⟩ = some ⟨nmP 99 k, []⟩) := by unfold Hid; rw [cmb_con, hk, Int.toNat_natCast]
      have HK : Hid (k ≤ 1000000) := by unfold Hid; omega
      subst hk
      go_wp2_with fail
      refine (dec_any k HK.out _).mono ?_
      rintro e w4 ⟨rfl, hb4⟩
      have R4 := hide (R3.out.below hb4 R3.out.lt)
      have K4 := hide hb4
      clear hb4
      have hcat := cat_nm 99 k
      have hdl := dec_len k
      have hdl2 : ¬ 9223372036854775807 < 1 + (Lib.decDigits k).length := by have := HK.out; omega
      have hdl3 : 1 + (Lib.decDigits k).length ≤ 9223372036854775807 := by omega
      go_wp2_with fail
      refine (leafD_any _ _).mono ?_
      rintro e w5 ⟨rfl, hb5⟩
      have K5 := hide (K3.out.trans ((K4.out.trans (hb5.mono K4.out.size)).mono K3.out.size))
      have R5 := hide (R4.out.below hb5 R4.out.lt)
      clear hb5 hdl
      have y0 : w5.cell? ⟨R, 0, none⟩ = some (.string ⟨#[]⟩) := R5.out.cell 0
      have y1 : w5.cell? ⟨R, 1, none⟩ = some (.slice none 0 0) := R5.out.cell 1
      have yf := R5.out.frozen
      have yl := R5.out.lt
      generalize hnm : nmP 99 k = nmz at *
      have HNM := hide hnm
      clear hnm
      go_wp2_with fail
      refine bodyPost_ret (v := .tuple #[.agg #[.string nmz, .slice none 0 0], .int .i64 0]) (by simp [results, Tryz.results20, go_sem, World.cell?_setCell_same, World.cell?_setCell_other, y0, y1]) rfl ?_
      exact ENDS.out w5 ⟨nmz, []⟩ none 0 K5.out ⟨by simp, Or.inl rfl⟩ HRES.out _ _
end Go.Proofs.YtcdabjekppddjaaGreatDoor
