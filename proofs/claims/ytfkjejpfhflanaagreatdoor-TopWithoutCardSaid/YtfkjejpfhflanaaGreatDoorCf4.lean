/- Walks: lambda terms without what is bound, as the program makes them. -/
import Derived.Test.YtfkjejpfhflanaaGreatDoorZKTopWithoutOwn
import Derived.Test.YtfkjejpfhflanaaGreatDoorZJTopWithoutOwn
import Derived.Test.YtfkjejpfhflanaaGreatDoorZPTopWithoutOwn
namespace Go.Proofs.YtfkjejpfhflanaaGreatDoor
open Go.RowKit
set_option linter.unusedSimpArgs false
set_option linter.unusedVariables false
set_option maxRecDepth 8000

theorem variable_any (k B : Nat) (hk : k ≤ 1000000) (w : World) (hT : Tb B w) : Calls Tryz.prog 32 #[.int .i64 (k : Int)] w fun e w' => e = .returned (.string (nmP 88 k)) ∧ Below w.heap.size w w' := by
  have HK := hide hk
  have HT := hide hT
  clear hT
  go_enter Tryz.func32, Tryz.ntmps32
  go_wp2_with fail
  refine (itoa_any k B HK.out _ HT.out).mono ?_
  rintro e w1 ⟨rfl, hb1⟩
  have HB1 := hide hb1
  clear hb1
  have hcat := cat_nm 88 k
  have hdl := dec_len k
  have hdl2 : ¬ 9223372036854775807 < 1 + (Lib.decDigits k).length := by have := HK.out; omega
  have hdl3 : 1 + (Lib.decDigits k).length ≤ 9223372036854775807 := by omega
  clear hdl
  go_wp2_with fail
  go_ret
  exact ⟨rfl, HB1.out⟩

/-- A term that is not too great, or none. -/
def Ucase (w' : World) (X : Nat → Prop) (t : Tm) (s : ByteArray) (a : Option Addr) (l c : Nat) (b : Bool) : Prop :=
  (b = true ∧ sizeL [t] ≤ 2000 ∧ s = t.name ∧ l = t.args.length ∧ Sl w' X a t.args) ∨ (b = false ∧ 2000 < sizeL [t] ∧ s = ⟨#[]⟩ ∧ a = none ∧ l = 0 ∧ c = 0)
def UPost (w : World) (X : Nat → Prop) (t : Tm) (e : Ending) (w' : World) : Prop :=
  ∃ s a l c b, e = .returned (.tuple #[.agg #[.string s, .slice a l c], .bool b]) ∧ Below w.heap.size w w' ∧ Ucase w' X t s a l c b

set_option maxHeartbeats 1000000 in
theorem unless_any (t : Tm) (v : Value) (w : World) (X : Nat → Prop) (hv : TV w X v t) :
    Calls Tryz.prog 34 #[v] w fun e w' => UPost w X t e w' := by
  obtain ⟨a, c, rfl, hs⟩ := hv
  generalize hW : ((w.alloc (.cells #[.string t.name, .slice a t.args.length c] 30)).alloc (.cells #[.string ⟨#[]⟩, .slice none 0 0] 30)) = w3
  have K3 : Hid (Below w.heap.size w w3) := by unfold Hid; rw [← hW]; exact ((Below.refl _ _).alloc (Nat.le_refl _) _).alloc (by simp) _
  have T3 : Hid (Blk w3 w.heap.size #[.string t.name, .slice a t.args.length c] 30) := by unfold Hid; rw [← hW]; exact (Blk.new w _ _).alloc _
  have R3 : Hid (Blk w3 (w.heap.size + 1) #[.string ⟨#[]⟩, .slice none 0 0] 30) := by
    unfold Hid; rw [← hW]
    have h := Blk.new (w.alloc (.cells #[.string t.name, .slice a t.args.length c] 30)) #[.string ⟨#[]⟩, .slice none 0 0] 30
    rw [World.size_alloc] at h
    exact h
  have SL3 := hide ((hs.mono (Y := fun b => X b ∧ b < w.heap.size) fun b h h2 => ⟨h, h2⟩).later K3.out)
  have HW := hide hW
  clear hW hs
  go_enter Tryz.func34, Tryz.ntmps34
  go_upto_region 1 with fail
  rw [HW.out]
  clear HW
  obtain ⟨R, hR⟩ : ∃ R, R = w.heap.size + 1 := ⟨_, rfl⟩
  rw [← hR] at R3 ⊢
  obtain ⟨P, hP⟩ : ∃ P, P = w.heap.size := ⟨_, rfl⟩
  rw [← hP] at T3 ⊢
  have HOZ : Hid (R = w.heap.size + 1 ∧ P = w.heap.size) := ⟨hR, hP⟩
  clear hR hP
  have c0 : w3.cell? ⟨P, 0, none⟩ = some (.string t.name) := T3.out.cell 0
  have c1 : w3.cell? ⟨P, 1, none⟩ = some (.slice a t.args.length c) := T3.out.cell 1
  have cl := T3.out.lt
  go_wp2_with fail
  refine (tooGreat_any t _ _ (fun b => X b ∧ b < w.heap.size) (by exact ⟨a, c, rfl, SL3.out⟩)).mono ?_
  rintro e w4 ⟨rfl, hb4⟩
  have K4 := hide (K3.out.trans (hb4.mono K3.out.size))
  have T4 := hide (T3.out.below hb4 T3.out.lt)
  have R4 := hide (R3.out.below hb4 R3.out.lt)
  have S4 := hide (SL3.out.later hb4)
  clear hb4 c0 c1 cl
  have y0 : w4.cell? ⟨R, 0, none⟩ = some (.string ⟨#[]⟩) := R4.out.cell 0
  have y1 : w4.cell? ⟨R, 1, none⟩ = some (.slice none 0 0) := R4.out.cell 1
  have yf := R4.out.frozen
  have yl := R4.out.lt
  by_cases hg : 2000 < sizeL [t]
  · have HG := hide hg
    rw [decide_eq_true hg]
    clear hg
    go_wp2_with fail
    refine bodyPost_ret (v := .tuple #[.agg #[.string ⟨#[]⟩, .slice none 0 0], .bool false]) (by simp [results, Tryz.results34, go_sem, World.cell?_setCell_same, World.cell?_setCell_other, y0, y1]) rfl ?_
    exact ⟨_, _, _, _, _, rfl, (K4.out.setCell (by have := HOZ.out; simp; omega) _).setCell (by have := HOZ.out; simp; omega) _, Or.inr ⟨rfl, HG.out, rfl, rfl, rfl, rfl⟩⟩
  · have HG := hide hg
    rw [decide_eq_false hg]
    clear hg
    have c0 : w4.cell? ⟨P, 0, none⟩ = some (.string t.name) := T4.out.cell 0
    have c1 : w4.cell? ⟨P, 1, none⟩ = some (.slice a t.args.length c) := T4.out.cell 1
    have cl := T4.out.lt
    go_wp2_with fail
    refine bodyPost_ret (v := .tuple #[.agg #[.string t.name, .slice a t.args.length c], .bool true]) (by simp [results, Tryz.results34, go_sem, World.cell?_setCell_same, World.cell?_setCell_other, y0, y1]) rfl ?_
    refine ⟨_, _, _, _, _, rfl, (K4.out.setCell (by have := HOZ.out; simp; omega) _).setCell (by have := HOZ.out; simp; omega) _, Or.inl ⟨rfl, Nat.le_of_not_lt HG.out, rfl, rfl, ?_⟩⟩
    have hne : ∀ b, b < w.heap.size → b ≠ R := fun b hb => by have := HOZ.out; omega
    exact (S4.out.kept fun b hb => by rw [Below.heap_setCell _ _ _ _ (by simpa using hne b hb.2), Below.heap_setCell _ _ _ _ (by simpa using hne b hb.2)]).mono fun b hb _ => hb.1

/-- What is told: a term, or that something is too great. -/
def FmP (o : Option Tm) (w : World) (e : Ending) (w' : World) : Prop := Below w.heap.size w w' ∧ ((∃ u a c, o = some u ∧ e = .returned (.tuple #[.agg #[.string u.name, .slice a u.args.length c], .bool true]) ∧ Sl w' (fun b => w.heap.size ≤ b) a u.args) ∨ (o = none ∧ e = .returned (.tuple #[.agg #[.string ⟨#[]⟩, .slice none 0 0], .bool false])))

set_option maxHeartbeats 4000000 in
theorem cfrom_any (n BT : Nat) : ∀ (d : Nat) (t : Lm) (v : Value) (w : World) (X : Nat → Prop), d + n ≤ 1000 → errM (d : Int) 0 [t] = 0 → MV w X v t → sizeM [t] ≤ n → BT ≤ w.heap.size → Tb BT w →
    Calls Tryz.prog 16 #[v, .int .i64 (d : Int)] w fun e w' => FmP (cmb 88 n d t) w e w' := by
  induction n with
  | zero => intro d t v w X _ _ _ h; obtain ⟨k, x, l⟩ := t; simp [sizeM] at h
  | succ n ih =>
    intro d t v w X hdn he hv hz hBT hT
    have IH := hide ih
    clear ih
    have HD : Hid (d ≤ 1000000) := by unfold Hid; omega
    have HBT := hide hBT
    have HT : Hid (∀ w', Below w.heap.size w w' → Tb BT w') := fun w' hb => hT.on (hb.mono hBT)
    clear hBT hT
    obtain ⟨a, c, rfl, hs⟩ := hv
    generalize hW : ((w.alloc (.cells #[.int .i64 t.kind, .int .i64 t.idx, .slice a t.subs.length c] 25)).alloc (.cells #[.string ⟨#[]⟩, .slice none 0 0] 30)) = w3
    have K3 : Hid (Below w.heap.size w w3) := by unfold Hid; rw [← hW]; exact ((Below.refl _ _).alloc (Nat.le_refl _) _).alloc (by simp) _
    have T3 : Hid (Blk w3 w.heap.size #[.int .i64 t.kind, .int .i64 t.idx, .slice a t.subs.length c] 25) := by unfold Hid; rw [← hW]; exact (Blk.new w _ _).alloc _
    have R3 : Hid (Blk w3 (w.heap.size + 1) #[.string ⟨#[]⟩, .slice none 0 0] 30) := by
      unfold Hid; rw [← hW]
      have h := Blk.new (w.alloc (.cells #[.int .i64 t.kind, .int .i64 t.idx, .slice a t.subs.length c] 25)) #[.string ⟨#[]⟩, .slice none 0 0] 30
      rw [World.size_alloc] at h
      exact h
    have HZ3 : Hid (w3.heap.size = w.heap.size + 2) := by unfold Hid; rw [← hW]; simp
    have SL3 := hide ((hs.mono (Y := fun b => b < w.heap.size) fun b _ h => h).later K3.out)
    have HW := hide hW
    clear hW hs
    go_enter Tryz.func16, Tryz.ntmps16
    go_upto_region 1 with fail
    rw [HW.out]
    clear HW
    obtain ⟨R, hR⟩ : ∃ R, R = w.heap.size + 1 := ⟨_, rfl⟩
    rw [← hR] at R3 ⊢
    obtain ⟨P, hP⟩ : ∃ P, P = w.heap.size := ⟨_, rfl⟩
    rw [← hP] at T3 ⊢
    have HOZ : Hid (R = w.heap.size + 1 ∧ P = w.heap.size) := ⟨hR, hP⟩
    clear hR hP
    have c0 : w3.cell? ⟨P, 0, none⟩ = some (.int .i64 t.kind) := T3.out.cell 0
    have c1 : w3.cell? ⟨P, 1, none⟩ = some (.int .i64 t.idx) := T3.out.cell 1
    have c2 : w3.cell? ⟨P, 2, none⟩ = some (.slice a t.subs.length c) := T3.out.cell 2
    have cl := T3.out.lt
    have ENDS : Hid (∀ (wz : World) (u : Tm) (au : Option Addr) (cu : Nat), Below w.heap.size w wz → Sl wz (fun b => w3.heap.size ≤ b) au u.args → cmb 88 (n + 1) d t = some u → ∀ u0 u1 : Value, FmP (cmb 88 (n + 1) d t) w (.returned (.tuple #[.agg #[.string u.name, .slice au u.args.length cu], .bool true])) ((wz.setCell ⟨R, 0, none⟩ u0).setCell ⟨R, 1, none⟩ u1)) := fun wz u au cu hb hsu hu u0 u1 => by
      refine ⟨(hb.setCell (by have := HOZ.out; simp; omega) _).setCell (by have := HOZ.out; simp; omega) _, Or.inl ⟨u, au, cu, hu, rfl, ?_⟩⟩
      have hne : ∀ b, w3.heap.size ≤ b → b ≠ R := fun b hb => by have := HOZ.out; have := HZ3.out; omega
      exact (hsu.kept fun b hb => by rw [Below.heap_setCell _ _ _ _ (by simpa using hne b hb), Below.heap_setCell _ _ _ _ (by simpa using hne b hb)]).mono fun b hb _ => Nat.le_trans K3.out.size hb
    have ENDN : Hid (∀ (wz : World), Below w.heap.size w wz → cmb 88 (n + 1) d t = none → ∀ u0 u1 : Value, FmP (cmb 88 (n + 1) d t) w (.returned (.tuple #[.agg #[.string ⟨#[]⟩, .slice none 0 0], .bool false])) ((wz.setCell ⟨R, 0, none⟩ u0).setCell ⟨R, 1, none⟩ u1)) := fun wz hb hu u0 u1 =>
      ⟨(hb.setCell (by have := HOZ.out; simp; omega) _).setCell (by have := HOZ.out; simp; omega) _, Or.inr ⟨hu, rfl⟩⟩
    have ENDU : Hid (∀ (wz : World) (z : Tm) (s : ByteArray) (az : Option Addr) (l cz : Nat) (b : Bool), Below w.heap.size w wz → Ucase wz (fun b => w3.heap.size ≤ b) z s az l cz b → cmb 88 (n + 1) d t = notG z → ∀ u0 u1 : Value, FmP (cmb 88 (n + 1) d t) w (.returned (.tuple #[.agg #[.string s, .slice az l cz], .bool b])) ((wz.setCell ⟨R, 0, none⟩ u0).setCell ⟨R, 1, none⟩ u1)) := fun wz z s az l cz b hb hc hr u0 u1 => by
      rcases hc with ⟨rfl, h1, rfl, rfl, h2⟩ | ⟨rfl, h1, rfl, rfl, rfl, rfl⟩
      · exact ENDS.out wz z az cz hb h2 (by rw [hr]; unfold notG; rw [if_neg (by omega)]) u0 u1
      · exact ENDN.out wz hb (by rw [hr]; unfold notG; rw [if_pos (by omega)]) u0 u1
    rcases may_look he with ⟨x, rfl, h0, h1⟩ | ⟨b, rfl, hb⟩ | ⟨f, y, rfl, hf, hy⟩ | ⟨x, rfl, h0, h1⟩
    · obtain ⟨k, hk⟩ : ∃ k : Nat, (k : Int) = (d : Int) - 1 - x := ⟨((d : Int) - 1 - x).toNat, by omega⟩
      have hw1 : IntKind.i64.wrap ((d : Int) - 1) = (d : Int) - 1 := by rw [IntKind.wrap_i64]; omega
      have hw2 : IntKind.i64.wrap ((d : Int) - 1 - x) = (k : Int) := by rw [IntKind.wrap_i64]; omega
      have HRES : Hid (cmb 88 (n + 1) d ⟨1, x, []⟩ = some ⟨nmP 88 k, []⟩) := by unfold Hid; rw [cmb_var, ← hk, Int.toNat_natCast]
      have HK : Hid (k ≤ 1000000) := by unfold Hid; omega
      clear hk
      go_wp2_with fail
      refine (variable_any k BT HK.out _ (HT.out _ K3.out)).mono ?_
      rintro e w4 ⟨rfl, hb4⟩
      have R4 := hide (R3.out.below hb4 R3.out.lt)
      have K4 := hide hb4
      clear hb4
      generalize nmP 88 k = nmz at *
      go_wp2_with fail
      refine (symbol_any _ _).mono ?_
      rintro e w5 ⟨rfl, hb5⟩
      have K5 := hide (K3.out.trans ((K4.out.trans (hb5.mono K4.out.size)).mono K3.out.size))
      have R5 := hide (R4.out.below hb5 R4.out.lt)
      clear hb5
      have y0 : w5.cell? ⟨R, 0, none⟩ = some (.string ⟨#[]⟩) := R5.out.cell 0
      have y1 : w5.cell? ⟨R, 1, none⟩ = some (.slice none 0 0) := R5.out.cell 1
      have yf := R5.out.frozen
      have yl := R5.out.lt
      go_wp2_with fail
      refine bodyPost_ret (v := .tuple #[.agg #[.string nmz, .slice none 0 0], .bool true]) (by simp [results, Tryz.results16, go_sem, World.cell?_setCell_same, World.cell?_setCell_other, y0, y1]) rfl ?_
      exact ENDS.out w5 ⟨nmz, []⟩ none 0 K5.out ⟨by simp, Or.inl rfl⟩ HRES.out _ _
    · have HZB : Hid (sizeM [b] ≤ n) := by have := hz; simp only [sizeM] at this ⊢; unfold Hid; omega
      have HEB : Hid (errM ((d + 1 : Nat) : Int) 0 [b] = 0) := by unfold Hid; rw [show ((d + 1 : Nat) : Int) = (d : Int) + 1 by omega]; exact hb
      have HCL : Hid (cmb 88 (n + 1) d ⟨2, 0, [b]⟩ = (cmb 88 n (d + 1) b).bind fun t => notG (alw (brR (nmP 88 d) (sizeL [t]) t))) := cmb_lam 88 n d 0 b
      obtain ⟨B, o, ab, cb, rfl, d0, d1, d2, hbv⟩ := SL3.out.get (Below.refl w3.heap.size w3) (fun b _ h => h) 0 (by simp)
      have d0' : w3.cell? ⟨B, o, none⟩ = some (.int .i64 b.kind) := by simpa using d0
      have d1' : w3.cell? ⟨B, o + 1, none⟩ = some (.int .i64 b.idx) := by simpa using d1
      have d2' : w3.cell? ⟨B, o + 2, none⟩ = some (.slice ab b.subs.length cb) := by simpa using d2
      have hbv' : MV w3 (fun b => b < w.heap.size) (.agg #[.int .i64 b.kind, .int .i64 b.idx, .slice ab b.subs.length cb]) b := by simpa using hbv
      have HBV := hide hbv'
      have hBl := World.block_lt_of_cell? w3 _ d0'
      clear d0 d1 d2 hbv hbv'
      have hwd : IntKind.i64.wrap ((d : Int) + 1) = ((d + 1 : Nat) : Int) := by rw [IntKind.wrap_i64]; omega
      go_wp2_with fail
      refine (IH.out (d + 1) b _ _ _ (by omega) HEB.out (by exact HBV.out) HZB.out (Nat.le_trans HBT.out K3.out.size) (HT.out _ K3.out)).mono ?_
      rintro e w4 ⟨hb4, h⟩
      have K4 := hide (K3.out.trans (hb4.mono K3.out.size))
      have R4 := hide (R3.out.below hb4 R3.out.lt)
      have HS34 := hide hb4.size
      clear hb4 c0 c1 c2 cl d0' d1' d2' hBl
      rcases h with ⟨u, au, cu, hu, rfl, hsu⟩ | ⟨hu, rfl⟩
      rotate_left
      · have HRES : Hid (cmb 88 (n + 1) d ⟨2, 0, [b]⟩ = none) := by unfold Hid; rw [HCL.out, hu]; rfl
        have RW := hide (R4.out.alloc (.cells #[.string ⟨#[]⟩, .slice none 0 0] 30))
        have KW : Hid (Below w.heap.size w (w4.alloc (.cells #[.string ⟨#[]⟩, .slice none 0 0] 30))) := K4.out.alloc K4.out.size _
        go_upto_region 9 with fail
        generalize (w4.alloc (.cells #[.string ⟨#[]⟩, .slice none 0 0] 30)) = WW at *
        have y0 : WW.cell? ⟨R, 0, none⟩ = some (.string ⟨#[]⟩) := RW.out.cell 0
        have y1 : WW.cell? ⟨R, 1, none⟩ = some (.slice none 0 0) := RW.out.cell 1
        have yf := RW.out.frozen
        have yl := RW.out.lt
        go_wp2_with fail
        refine bodyPost_ret (v := .tuple #[.agg #[.string ⟨#[]⟩, .slice none 0 0], .bool false]) (by simp [results, Tryz.results16, go_sem, World.cell?_setCell_same, World.cell?_setCell_other, y0, y1]) rfl ?_
        exact ENDN.out WW KW.out HRES.out _ _
      have HRES0 : Hid (cmb 88 (n + 1) d ⟨2, 0, [b]⟩ = notG (alw (brR (nmP 88 d) (sizeL [u]) u))) := by unfold Hid; rw [HCL.out, hu]; rfl
      have HUO := cmb_ok 88 (by decide) n (d + 1) b u HEB.out hu
      have HUC := hide HUO.1
      have HUZ := hide HUO.2
      clear HUO hu
      have R5 := hide (R4.out.alloc (.cells #[.string u.name, .slice au u.args.length cu] 30))
      have K5 : Hid (Below w.heap.size w (w4.alloc (.cells #[.string u.name, .slice au u.args.length cu] 30))) := K4.out.alloc K4.out.size _
      have U5 : Hid (Blk (w4.alloc (.cells #[.string u.name, .slice au u.args.length cu] 30)) w4.heap.size #[.string u.name, .slice au u.args.length cu] 30) := Blk.new w4 _ _
      have SU5 : Hid (Sl (w4.alloc (.cells #[.string u.name, .slice au u.args.length cu] 30)) (fun b => w3.heap.size ≤ b) au u.args) := hsu.later ((Below.refl _ _).alloc (Nat.le_refl _) _)
      have HS35 : Hid (w3.heap.size ≤ (w4.alloc (.cells #[.string u.name, .slice au u.args.length cu] 30)).heap.size) := Nat.le_trans HS34.out (by simp)
      clear hsu
      go_upto_region 10 with fail
      generalize (w4.alloc (.cells #[.string u.name, .slice au u.args.length cu] 30)) = w5 at *
      have HT5 : Hid (∀ w', Below w5.heap.size w5 w' → Tb BT w') := fun w' hb => HT.out _ (K5.out.trans (hb.mono K5.out.size))
      obtain ⟨PX, hPX⟩ : ∃ PX, PX = w4.heap.size := ⟨_, rfl⟩
      have HPO : Hid (PX ≠ R) := by have := HOZ.out; have := HZ3.out; have := HS34.out; unfold Hid; omega
      rw [← hPX] at U5 ⊢
      clear hPX
      obtain ⟨Xn, hXn⟩ : ∃ Xn : Nat → Prop, Xn = fun b => w3.heap.size ≤ b := ⟨_, rfl⟩
      have HXD := hide hXn
      have HXN : Hid (∀ b, w5.heap.size ≤ b → Xn b) := fun b hb => by rw [hXn]; exact Nat.le_trans HS35.out hb
      rw [← hXn] at SU5
      clear hXn
      have VU : Hid (∀ w', Below w5.heap.size w5 w' → TV w' Xn (.agg #[.string u.name, .slice au u.args.length cu]) u) := fun w' hb => ⟨au, cu, rfl, SU5.out.later hb⟩
      have KP : Hid (∀ w', Below w5.heap.size w5 w' → w'.cell? ⟨PX, 0, none⟩ = some (.string u.name) ∧ w'.cell? ⟨PX, 1, none⟩ = some (.slice au u.args.length cu)) := fun w' hb => ⟨(U5.out.below hb U5.out.lt).cell 0, (U5.out.below hb U5.out.lt).cell 1⟩
      have KPR : Hid (∀ w', Below w5.heap.size w5 w' → ∀ u0 u1 : Value, (fun w' => w'.cell? ⟨PX, 0, none⟩ = some (.string u.name) ∧ w'.cell? ⟨PX, 1, none⟩ = some (.slice au u.args.length cu)) ((w'.setCell ⟨R, 0, none⟩ u0).setCell ⟨R, 1, none⟩ u1)) := fun w' hb u0 u1 => by
        have h9 := ((U5.out.below hb U5.out.lt).setOther 0 u0 HPO.out).setOther 1 u1 HPO.out
        exact ⟨h9.cell 0, h9.cell 1⟩
      have kd : Below w5.heap.size w5 w5.drew := (Below.refl _ _).drew
      have HSd := hide (KP.out _ kd)
      have ul := U5.out.lt
      refine wp_region_held_drew (S := (fun w' => w'.cell? ⟨PX, 0, none⟩ = some (.string u.name) ∧ w'.cell? ⟨PX, 1, none⟩ = some (.slice au u.args.length cu))) (by kernel_rfl) HSd.out (fun hHeld => ?_)
      refine wpAnyH_take (i := 0) (v := ?_) rfl (by kernel_rfl) (by kernel_rfl) (by kernel_rfl) (fun _ _ _ h => h) (Or.inl ⟨by rfl, ?_⟩) (by assumption) ?_
      rotate_left
      · intro w' hSw
        go_simp <;> with_reducible rfl
      try simp only [Act.put, List.setIfInBounds_toArray, List.set_cons_zero, List.set_cons_succ, List.getElem_toArray, List.getElem_cons_succ, List.getElem_cons_zero]
      refine wpAnyH_take (i := 2) (v := ?_) rfl (by kernel_rfl) (by kernel_rfl) (by kernel_rfl) (fun _ _ _ h => h) (Or.inl ⟨by rfl, ?_⟩) (by assumption) ?_
      rotate_left
      · intro w' hSw
        obtain ⟨e0, e1⟩ := hSw
        go_simp <;> with_reducible rfl
      try simp only [Act.put, List.setIfInBounds_toArray, List.set_cons_zero, List.set_cons_succ, List.getElem_toArray, List.getElem_cons_succ, List.getElem_cons_zero]
      refine wpAnyH_ready (rs := [1]) (by kernel_rfl) (by simp) ?_
      refine AllReadyH.cons rfl (fun K hK => ?_) AllReadyH.nil
      go_simp
      go_at_call 32
      refine (variable_any d BT HD.out _ (HT5.out _ kd)).mono ?_
      rintro e w6 ⟨rfl, hb6⟩
      have k6 : Below w5.heap.size w5 w6 := kd.trans (hb6.mono kd.size)
      clear hb6
      go_simp
      refine hK.out _ _ (by exact KP.out _ k6) (fun hHeld => ?_)
      clear hK K
      try simp only [Act.put, List.setIfInBounds_toArray, List.set_cons_zero, List.set_cons_succ, List.getElem_toArray, List.getElem_cons_succ, List.getElem_cons_zero]
      refine wpAnyH_ready (rs := [3]) (by kernel_rfl) (by simp) ?_
      refine AllReadyH.cons rfl (fun K hK => ?_) AllReadyH.nil
      go_simp
      go_at_call 35
      refine (without_any (nmP 88 d) (nm_ap 88 (by decide) d) u HUC.out _ _ Xn (by exact VU.out _ k6)).mono ?_
      rintro e w7 ⟨v7, rfl, ⟨a7, c7, rfl, hs7⟩, hb7⟩
      have k7 : Below w5.heap.size w5 w7 := k6.trans (hb7.mono k6.size)
      have S7 : Hid (Sl w7 Xn a7 (alw (brR (nmP 88 d) (sizeL [u]) u)).args) := hs7.mono fun b h _ => h.elim id (fun h => HXN.out b (Nat.le_trans k6.size h))
      obtain ⟨z, hz⟩ : ∃ z, z = alw (brR (nmP 88 d) (sizeL [u]) u) := ⟨_, rfl⟩
      rw [← hz] at S7 ⊢
      have HZ := hide hz
      clear hs7 hb7 hz
      go_simp
      refine hK.out _ _ (by exact KP.out _ k7) (fun hHeld => ?_)
      clear hK K
      try simp only [Act.put, List.setIfInBounds_toArray, List.set_cons_zero, List.set_cons_succ, List.getElem_toArray, List.getElem_cons_succ, List.getElem_cons_zero]
      refine wpAnyH_ready (rs := [4]) (by kernel_rfl) (by simp) ?_
      refine AllReadyH.cons rfl (fun K hK => ?_) AllReadyH.nil
      go_simp
      go_at_call 34
      refine (unless_any z _ _ Xn (by exact ⟨a7, c7, rfl, S7.out⟩)).mono ?_
      rintro e w8 ⟨s8, a8, l8, c8, b8, rfl, hb8, hu8⟩
      have k8 : Below w5.heap.size w5 w8 := k7.trans (hb8.mono k7.size)
      have U8 := hide hu8
      clear hb8 hu8
      go_simp
      refine hK.out _ _ (by exact KP.out _ k8) (fun hHeld => ?_)
      clear hK K
      try simp only [Act.put, List.setIfInBounds_toArray, List.set_cons_zero, List.set_cons_succ, List.getElem_toArray, List.getElem_cons_succ, List.getElem_cons_zero]
      refine wpAnyH_take (i := 5) (v := ?_) rfl (by kernel_rfl) (by kernel_rfl) (by kernel_rfl) (fun _ _ _ h => h) (Or.inl ⟨by rfl, ?_⟩) (by assumption) ?_
      rotate_left
      · intro w' hSw
        go_simp <;> with_reducible rfl
      try simp only [Act.put, List.setIfInBounds_toArray, List.set_cons_zero, List.set_cons_succ, List.getElem_toArray, List.getElem_cons_succ, List.getElem_cons_zero]
      refine wpAnyH_take (i := 6) (v := ?_) rfl (by kernel_rfl) (by kernel_rfl) (by kernel_rfl) (fun _ _ _ h => h) (Or.inl ⟨by rfl, ?_⟩) (by assumption) ?_
      rotate_left
      · intro w' hSw
        go_simp <;> with_reducible rfl
      try simp only [Act.put, List.setIfInBounds_toArray, List.set_cons_zero, List.set_cons_succ, List.getElem_toArray, List.getElem_cons_succ, List.getElem_cons_zero]
      have ob := hide (R5.out.below k8 R5.out.lt)
      have y0 : w8.cell? ⟨R, 0, none⟩ = some (.string ⟨#[]⟩) := ob.out.cell 0
      have y1 : w8.cell? ⟨R, 1, none⟩ = some (.slice none 0 0) := ob.out.cell 1
      have yf := ob.out.frozen
      have yl := ob.out.lt
      refine wpAnyH_ready (rs := [7]) (by kernel_rfl) (by simp) ?_
      refine AllReadyH.cons rfl (fun K hK => ?_) AllReadyH.nil
      go_simp
      refine hK.out _ _ (by exact KPR.out _ k8 _ _) (fun hHeld => ?_)
      clear hK K
      try simp only [Act.put, List.setIfInBounds_toArray, List.set_cons_zero, List.set_cons_succ, List.getElem_toArray, List.getElem_cons_succ, List.getElem_cons_zero]
      refine wpAnyH_take (i := 8) (v := ?_) rfl (by kernel_rfl) (by kernel_rfl) (by kernel_rfl) (fun _ _ _ h => h) (Or.inl ⟨by rfl, ?_⟩) (by assumption) ?_
      rotate_left
      · intro w' hSw
        go_simp <;> with_reducible rfl
      try simp only [Act.put, List.setIfInBounds_toArray, List.set_cons_zero, List.set_cons_succ, List.getElem_toArray, List.getElem_cons_succ, List.getElem_cons_zero]
      refine wpAnyH_done (by kernel_rfl) ?_ _
      have KX : Hid (Below w.heap.size w w8) := K5.out.trans (k8.mono K5.out.size)
      have UX : Hid (Ucase w8 (fun b => w3.heap.size ≤ b) z s8 a8 l8 c8 b8) := by unfold Hid; rw [← HXD.out]; exact U8.out
      have HRES : Hid (cmb 88 (n + 1) d ⟨2, 0, [b]⟩ = notG z) := by unfold Hid; rw [HRES0.out, HZ.out]
      clear hHeld
      go_wp2_with fail
      refine bodyPost_ret (v := .tuple #[.agg #[.string s8, .slice a8 l8 c8], .bool b8]) (by simp [results, Tryz.results16, go_sem, World.cell?_setCell_same, World.cell?_setCell_other, y0, y1]) rfl ?_
      exact ENDU.out w8 z s8 a8 l8 c8 b8 KX.out UX.out HRES.out _ _
    · have HZF : Hid (sizeM [f] ≤ n) := by have := hz; simp only [sizeM] at this; have h9 : sizeM [f, y] = sizeM [f] + sizeM [y] := sizeM_append [f] [y]; unfold Hid; omega
      have HZY : Hid (sizeM [y] ≤ n) := by have := hz; simp only [sizeM] at this; have h9 : sizeM [f, y] = sizeM [f] + sizeM [y] := sizeM_append [f] [y]; unfold Hid; omega
      have HEF := hide hf
      have HEY := hide hy
      have HCL : Hid (cmb 88 (n + 1) d ⟨3, 0, [f, y]⟩ = (cmb 88 n d f).bind fun f' => (cmb 88 n d y).bind fun y' => notG (apT f' y')) := cmb_app 88 n d 0 f y
      obtain ⟨B, o, ab, cb, rfl, d0, d1, d2, hbv⟩ := SL3.out.get (Below.refl w3.heap.size w3) (fun b _ h => h) 0 (by simp)
      obtain ⟨B', o', ab2, cb2, e9, g0, g1, g2, hbv2⟩ := SL3.out.get (Below.refl w3.heap.size w3) (fun b _ h => h) 1 (by simp)
      simp only [Option.some.injEq, Addr.mk.injEq, and_true] at e9
      obtain ⟨rfl, rfl⟩ := e9
      have d0' : w3.cell? ⟨B, o, none⟩ = some (.int .i64 f.kind) := by simpa using d0
      have d1' : w3.cell? ⟨B, o + 1, none⟩ = some (.int .i64 f.idx) := by simpa using d1
      have d2' : w3.cell? ⟨B, o + 2, none⟩ = some (.slice ab f.subs.length cb) := by simpa using d2
      have g0' : w3.cell? ⟨B, o + 3, none⟩ = some (.int .i64 y.kind) := by simpa using g0
      have g1' : w3.cell? ⟨B, o + 4, none⟩ = some (.int .i64 y.idx) := by simpa using g1
      have g2' : w3.cell? ⟨B, o + 5, none⟩ = some (.slice ab2 y.subs.length cb2) := by simpa using g2
      have hbv' : MV w3 (fun b => b < w.heap.size) (.agg #[.int .i64 f.kind, .int .i64 f.idx, .slice ab f.subs.length cb]) f := by simpa using hbv
      have hbv2' : MV w3 (fun b => b < w.heap.size) (.agg #[.int .i64 y.kind, .int .i64 y.idx, .slice ab2 y.subs.length cb2]) y := by simpa using hbv2
      have HFV := hide hbv'
      have HYV := hide hbv2'
      have HG := hide (And.intro g0' (And.intro g1' g2'))
      have hBl := World.block_lt_of_cell? w3 _ d0'
      have HBL := hide hBl
      clear d0 d1 d2 hbv hbv' g0 g1 g2 hbv2 hbv2' g0' g1' g2'
      go_wp2_with fail
      refine (IH.out d f _ _ _ (by omega) HEF.out (by exact HFV.out) HZF.out (Nat.le_trans HBT.out K3.out.size) (HT.out _ K3.out)).mono ?_
      rintro e w4 ⟨hb4, h⟩
      have K4 := hide (K3.out.trans (hb4.mono K3.out.size))
      have R4 := hide (R3.out.below hb4 R3.out.lt)
      have KK4 := hide hb4
      clear hb4 c0 c1 c2 cl d0' d1' d2' hBl
      rcases h with ⟨u, au, cu, hu, rfl, hsu⟩ | ⟨hu, rfl⟩
      rotate_left
      · have HRES : Hid (cmb 88 (n + 1) d ⟨3, 0, [f, y]⟩ = none) := by unfold Hid; rw [HCL.out, hu]; rfl
        have RW := hide (R4.out.alloc (.cells #[.string ⟨#[]⟩, .slice none 0 0] 30))
        have KW : Hid (Below w.heap.size w (w4.alloc (.cells #[.string ⟨#[]⟩, .slice none 0 0] 30))) := K4.out.alloc K4.out.size _
        go_upto_region 13 with fail
        generalize (w4.alloc (.cells #[.string ⟨#[]⟩, .slice none 0 0] 30)) = WW at *
        have y0 : WW.cell? ⟨R, 0, none⟩ = some (.string ⟨#[]⟩) := RW.out.cell 0
        have y1 : WW.cell? ⟨R, 1, none⟩ = some (.slice none 0 0) := RW.out.cell 1
        have yf := RW.out.frozen
        have yl := RW.out.lt
        go_wp2_with fail
        refine bodyPost_ret (v := .tuple #[.agg #[.string ⟨#[]⟩, .slice none 0 0], .bool false]) (by simp [results, Tryz.results16, go_sem, World.cell?_setCell_same, World.cell?_setCell_other, y0, y1]) rfl ?_
        exact ENDN.out WW KW.out HRES.out _ _
      have HU := hide hu
      have K5 : Hid (Below w.heap.size w (w4.alloc (.cells #[.string u.name, .slice au u.args.length cu] 30))) := K4.out.alloc K4.out.size _
      have KK5 : Hid (Below w3.heap.size w3 (w4.alloc (.cells #[.string u.name, .slice au u.args.length cu] 30))) := KK4.out.alloc KK4.out.size _
      have U5 : Hid (Blk (w4.alloc (.cells #[.string u.name, .slice au u.args.length cu] 30)) w4.heap.size #[.string u.name, .slice au u.args.length cu] 30) := Blk.new w4 _ _
      have SU5 : Hid (Sl (w4.alloc (.cells #[.string u.name, .slice au u.args.length cu] 30)) (fun b => w3.heap.size ≤ b) au u.args) := hsu.later ((Below.refl _ _).alloc (Nat.le_refl _) _)
      clear hsu hu
      go_upto_region 14 with fail
      generalize (w4.alloc (.cells #[.string u.name, .slice au u.args.length cu] 30)) = w5 at *
      obtain ⟨PF, hPF⟩ : ∃ PF, PF = w4.heap.size := ⟨_, rfl⟩
      rw [← hPF] at U5 ⊢
      clear hPF
      have T5 := hide (T3.out.below KK5.out T3.out.lt)
      have c2 : w5.cell? ⟨P, 2, none⟩ = some (.slice (some ⟨B, o, none⟩) 2 c) := T5.out.cell 2
      have cl := T5.out.lt
      have g0 : w5.cell? ⟨B, o + 3, none⟩ = some (.int .i64 y.kind) := (KK5.out.cell (p := ⟨B, o + 3, none⟩) HBL.out).trans HG.out.1
      have g1 : w5.cell? ⟨B, o + 4, none⟩ = some (.int .i64 y.idx) := (KK5.out.cell (p := ⟨B, o + 4, none⟩) HBL.out).trans HG.out.2.1
      have g2 : w5.cell? ⟨B, o + 5, none⟩ = some (.slice ab2 y.subs.length cb2) := (KK5.out.cell (p := ⟨B, o + 5, none⟩) HBL.out).trans HG.out.2.2
      have hBl5 : B < w5.heap.size := Nat.lt_of_lt_of_le HBL.out KK5.out.size
      go_wp2_with fail
      refine (IH.out d y _ _ _ (by omega) HEY.out (by exact HYV.out.later KK5.out) HZY.out (Nat.le_trans HBT.out K5.out.size) (HT.out _ K5.out)).mono ?_
      rintro e w6 ⟨hb6, h⟩
      have K6 := hide (K5.out.trans (hb6.mono K5.out.size))
      have KK6 := hide (KK5.out.trans (hb6.mono KK5.out.size))
      have U6 := hide (U5.out.below hb6 U5.out.lt)
      have SU6 := hide (SU5.out.later hb6)
      have HS35 := hide KK5.out.size
      clear hb6 c2 cl g0 g1 g2 hBl5
      rcases h with ⟨u2, au2, cu2, hu2, rfl, hsu2⟩ | ⟨hu2, rfl⟩
      rotate_left
      · have HRES : Hid (cmb 88 (n + 1) d ⟨3, 0, [f, y]⟩ = none) := by unfold Hid; rw [HCL.out, HU.out, hu2]; rfl
        have RW := hide ((R3.out.below KK6.out R3.out.lt).alloc (.cells #[.string ⟨#[]⟩, .slice none 0 0] 30))
        have KW : Hid (Below w.heap.size w (w6.alloc (.cells #[.string ⟨#[]⟩, .slice none 0 0] 30))) := K6.out.alloc K6.out.size _
        go_upto_region 16 with fail
        generalize (w6.alloc (.cells #[.string ⟨#[]⟩, .slice none 0 0] 30)) = WW at *
        have y0 : WW.cell? ⟨R, 0, none⟩ = some (.string ⟨#[]⟩) := RW.out.cell 0
        have y1 : WW.cell? ⟨R, 1, none⟩ = some (.slice none 0 0) := RW.out.cell 1
        have yf := RW.out.frozen
        have yl := RW.out.lt
        go_wp2_with fail
        refine bodyPost_ret (v := .tuple #[.agg #[.string ⟨#[]⟩, .slice none 0 0], .bool false]) (by simp [results, Tryz.results16, go_sem, World.cell?_setCell_same, World.cell?_setCell_other, y0, y1]) rfl ?_
        exact ENDN.out WW KW.out HRES.out _ _
      have HRES0 : Hid (cmb 88 (n + 1) d ⟨3, 0, [f, y]⟩ = notG (apT u u2)) := by unfold Hid; rw [HCL.out, HU.out, hu2]; rfl
      have K7 : Hid (Below w.heap.size w (w6.alloc (.cells #[.string u2.name, .slice au2 u2.args.length cu2] 30))) := K6.out.alloc K6.out.size _
      have KK7 : Hid (Below w3.heap.size w3 (w6.alloc (.cells #[.string u2.name, .slice au2 u2.args.length cu2] 30))) := KK6.out.alloc KK6.out.size _
      have U7 := hide (U6.out.alloc (.cells #[.string u2.name, .slice au2 u2.args.length cu2] 30))
      have V7 : Hid (Blk (w6.alloc (.cells #[.string u2.name, .slice au2 u2.args.length cu2] 30)) w6.heap.size #[.string u2.name, .slice au2 u2.args.length cu2] 30) := Blk.new w6 _ _
      have SU7 : Hid (Sl (w6.alloc (.cells #[.string u2.name, .slice au2 u2.args.length cu2] 30)) (fun b => w3.heap.size ≤ b) au u.args) := SU6.out.later ((Below.refl _ _).alloc (Nat.le_refl _) _)
      have SV7 : Hid (Sl (w6.alloc (.cells #[.string u2.name, .slice au2 u2.args.length cu2] 30)) (fun b => w3.heap.size ≤ b) au2 u2.args) := (hsu2.mono (Y := fun b => w3.heap.size ≤ b) fun b h _ => Nat.le_trans HS35.out h).later ((Below.refl _ _).alloc (Nat.le_refl _) _)
      clear hsu2 hu2
      go_upto_region 17 with fail
      generalize (w6.alloc (.cells #[.string u2.name, .slice au2 u2.args.length cu2] 30)) = w7 at *
      obtain ⟨PY, hPY⟩ : ∃ PY, PY = w6.heap.size := ⟨_, rfl⟩
      rw [← hPY] at V7 ⊢
      clear hPY
      have u0 : w7.cell? ⟨PF, 0, none⟩ = some (.string u.name) := U7.out.cell 0
      have u1 : w7.cell? ⟨PF, 1, none⟩ = some (.slice au u.args.length cu) := U7.out.cell 1
      have ul := U7.out.lt
      have v0 : w7.cell? ⟨PY, 0, none⟩ = some (.string u2.name) := V7.out.cell 0
      have v1 : w7.cell? ⟨PY, 1, none⟩ = some (.slice au2 u2.args.length cu2) := V7.out.cell 1
      have vl := V7.out.lt
      go_wp2_with fail
      refine (ap_any u u2 _ _ _ (fun b => w3.heap.size ≤ b) (by exact ⟨au, cu, rfl, SU7.out⟩) (by exact ⟨au2, cu2, rfl, SV7.out⟩)).mono ?_
      rintro e w8 ⟨v8, rfl, ⟨az, cz, rfl, hs8⟩, hb8⟩
      have K8 := hide (K7.out.trans (hb8.mono K7.out.size))
      have KK8 := hide (KK7.out.trans (hb8.mono KK7.out.size))
      have R8 := hide (R3.out.below KK8.out R3.out.lt)
      have S8 : Hid (Sl w8 (fun b => w3.heap.size ≤ b) az (apT u u2).args) := hs8.mono fun b h _ => h.elim id (fun h => Nat.le_trans KK7.out.size h)
      obtain ⟨z, hz9⟩ : ∃ z, z = apT u u2 := ⟨_, rfl⟩
      rw [← hz9] at S8 ⊢
      have HRES : Hid (cmb 88 (n + 1) d ⟨3, 0, [f, y]⟩ = notG z) := by unfold Hid; rw [HRES0.out, hz9]
      clear hs8 hb8 hz9 u0 u1 ul v0 v1 vl
      go_wp2_with fail
      refine (unless_any z _ _ (fun b => w3.heap.size ≤ b) (by exact ⟨az, cz, rfl, S8.out⟩)).mono ?_
      rintro e w9 ⟨s9, a9, l9, c9, b9, rfl, hb9, hu9⟩
      have K9 := hide (K8.out.trans (hb9.mono K8.out.size))
      have R9 := hide (R8.out.below hb9 R8.out.lt)
      have U9 := hide hu9
      clear hb9 hu9
      have y0 : w9.cell? ⟨R, 0, none⟩ = some (.string ⟨#[]⟩) := R9.out.cell 0
      have y1 : w9.cell? ⟨R, 1, none⟩ = some (.slice none 0 0) := R9.out.cell 1
      have yf := R9.out.frozen
      have yl := R9.out.lt
      go_wp2_with fail
      refine bodyPost_ret (v := .tuple #[.agg #[.string s9, .slice a9 l9 c9], .bool b9]) (by simp [results, Tryz.results16, go_sem, World.cell?_setCell_same, World.cell?_setCell_other, y0, y1]) rfl ?_
      exact ENDU.out w9 z s9 a9 l9 c9 b9 K9.out U9.out HRES.out _ _
    · obtain ⟨k, hk⟩ : ∃ k : Nat, x = (k : Int) := ⟨x.toNat, by omega⟩
      have HRES : Hid (cmb 88 (n + 1) d ⟨4, x, []⟩ = some ⟨nmP 99 k, []⟩) := by unfold Hid; rw [cmb_con, hk, Int.toNat_natCast]
      have HK : Hid (k ≤ 1000000) := by unfold Hid; omega
      subst hk
      go_wp2_with fail
      refine (itoa_any k BT HK.out _ (HT.out _ K3.out)).mono ?_
      rintro e w4 ⟨rfl, hb4⟩
      have R4 := hide (R3.out.below hb4 R3.out.lt)
      have K4 := hide hb4
      clear hb4
      have hcat := cat_nm 99 k
      have hdl := dec_len k
      have hdl2 : ¬ 9223372036854775807 < 1 + (Lib.decDigits k).length := by have := HK.out; omega
      have hdl3 : 1 + (Lib.decDigits k).length ≤ 9223372036854775807 := by omega
      go_wp2_with fail
      refine (symbol_any _ _).mono ?_
      rintro e w5 ⟨rfl, hb5⟩
      have K5 := hide (K3.out.trans ((K4.out.trans (hb5.mono K4.out.size)).mono K3.out.size))
      have R5 := hide (R4.out.below hb5 R4.out.lt)
      clear hb5 hdl
      have y0 : w5.cell? ⟨R, 0, none⟩ = some (.string ⟨#[]⟩) := R5.out.cell 0
      have y1 : w5.cell? ⟨R, 1, none⟩ = some (.slice none 0 0) := R5.out.cell 1
      have yf := R5.out.frozen
      have yl := R5.out.lt
      generalize nmP 99 k = nmz at *
      go_wp2_with fail
      refine bodyPost_ret (v := .tuple #[.agg #[.string nmz, .slice none 0 0], .bool true]) (by simp [results, Tryz.results16, go_sem, World.cell?_setCell_same, World.cell?_setCell_other, y0, y1]) rfl ?_
      exact ENDS.out w5 ⟨nmz, []⟩ none 0 K5.out ⟨by simp, Or.inl rfl⟩ HRES.out _ _
end Go.Proofs.YtfkjejpfhflanaaGreatDoor
