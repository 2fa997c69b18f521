/- Walks: rows made of rows: what closures tell of their places; the term of a row. -/
import Derived.Test.YtcdabjekppddjaaGreatDoorCb7
import Derived.Test.YtcdabjekppddjaaGreatDoorCb5
namespace Go.Proofs.YtcdabjekppddjaaGreatDoor
open Go.RowKit
set_option linter.unusedSimpArgs false
set_option linter.unusedVariables false
set_option maxRecDepth 8000

/-- The row's closure. -/
abbrev ro1 (B : Nat) : Value := .func (.func 94) #[] #[.pointer (some ⟨B, 0, none⟩)]
/-- A row R lies behind the closure over box B. -/
def RoL (w : World) (Y : Nat → Prop) (B : Nat) (R : List Tm) : Prop := ∃ al cl, Blk w B #[.slice al R.length cl] 22 ∧ Sl w Y al R.reverse ∧ R.length ≤ 100000
theorem RoL.at {w : World} {Y : Nat → Prop} {B : Nat} {R : List Tm} (h : RoL w Y B R) (p : Nat) (hp : p < R.length) : Calls Tryz.prog 94 #[.int .i64 (p : Int), .pointer (some ⟨B, 0, none⟩)] w fun e w' => TPost w Y R[p] e w' := by
  obtain ⟨al, cl, h1, h2, _⟩ := h
  exact rowOf1_any R al cl B p w Y h1 h2 hp
theorem RoL.later {w w' : World} {Y : Nat → Prop} {B : Nat} {R : List Tm} (h : RoL w Y B R) (hb : Below w.heap.size w w') : RoL w' Y B R := by
  obtain ⟨al, cl, h1, h2, h3⟩ := h
  exact ⟨al, cl, h1.below hb h1.lt, h2.later hb, h3⟩
theorem RoL.small {w : World} {Y : Nat → Prop} {B : Nat} {R : List Tm} (h : RoL w Y B R) : RoL w (fun b => Y b ∧ b < w.heap.size) B R := by
  obtain ⟨al, cl, h1, h2, h3⟩ := h
  exact ⟨al, cl, h1, h2.mono fun b h1 h2 => ⟨h1, h2⟩, h3⟩
theorem RoL.len {w : World} {Y : Nat → Prop} {B : Nat} {R : List Tm} (h : RoL w Y B R) : R.length ≤ 100000 := by
  obtain ⟨_, _, _, _, h⟩ := h
  exact h
/-- A closure's answer is stored. -/
theorem cl_end {w w1 : World} {o : Obj} {Y : Nat → Prop} {x : Tm} {a : Option Addr} {c : Nat} (hs : Sl w1 (fun b => (Y b ∧ b < w.heap.size) ∨ w.heap.size + 1 ≤ b) a x.args) (hb : Below (w.heap.size + 1) (w.alloc o) w1) (u u' : Value) :
    TPost w Y x (.returned (.agg #[.string x.name, .slice a x.args.length c])) ((w1.setCell ⟨w.heap.size, 0, none⟩ u).setCell ⟨w.heap.size, 1, none⟩ u') := by
  have h0 : Below w.heap.size w w1 := below_box hb
  refine ⟨_, rfl, ⟨a, c, rfl, ?_⟩, (h0.setCell (p := ⟨w.heap.size, 0, none⟩) (by simp) _).setCell (p := ⟨w.heap.size, 1, none⟩) (by simp) _⟩
  refine (hs.kept fun b hb => ?_).mono fun b hb _ => hb.imp And.left fun h => by omega
  have hne : b ≠ w.heap.size := by rcases hb with hb | hb <;> omega
  rw [Below.heap_setCell _ _ _ _ (by simpa using hne), Below.heap_setCell _ _ _ _ (by simpa using hne)]

set_option maxHeartbeats 1000000 in
theorem work1_any (R : List Tm) (B P p n : Nat) (w : World) (Y : Nat → Prop) (hR : RoL w Y B R) (hP : Blk w P #[.int .i64 (n : Int), ro1 B] 88) (hp : p + 1 < R.length) :
    Calls Tryz.prog 95 #[.int .i64 (p : Int), .pointer (some ⟨P, 0, none⟩)] w fun e w' => TPost w Y R[p + 1] e w' := by
  have HR := hide ((hR.small).later ((Below.refl _ _).alloc (Nat.le_refl _) (.cells #[.string ⟨#[]⟩, .slice none 0 0] 24)))
  have hl := hR.len
  have c1 : ∀ o, (w.alloc o).cell? ⟨P, 1, none⟩ = some (ro1 B) := fun o => (hP.alloc o).cell 1
  unfold ro1 at c1
  have HA := hide (HR.out.at (p + 1) hp)
  generalize R[p + 1] = x at *
  go_enter Tryz.func95, Tryz.ntmps95
  go_wp2_with fail
  rw [show ((p : Int) + 1) = ((p + 1 : Nat) : Int) by omega]
  refine HA.out.mono ?_
  rintro e w1 ⟨v1, rfl, ⟨a1, c1', rfl, hs1⟩, hb1⟩
  have HS1 := hide hs1
  have HB1 := hide hb1
  have HK1 := hide ((Blk.new w #[.string ⟨#[]⟩, .slice none 0 0] 24).below hb1 (by simp))
  have r0 : w1.cell? ⟨w.heap.size, 0, none⟩ = some (.string ⟨#[]⟩) := HK1.out.cell 0
  have r1 : w1.cell? ⟨w.heap.size, 1, none⟩ = some (.slice none 0 0) := HK1.out.cell 1
  have rf : ∀ i, w1.frozen? ⟨w.heap.size, i, none⟩ = false := HK1.out.frozen
  clear hs1 hb1
  go_wp2_with fail
  refine bodyPost_ret (v := .agg #[.string x.name, .slice a1 x.args.length c1']) (by simp [results, Tryz.results95, go_sem, World.cell?_setCell_same, World.cell?_setCell_other, r0, r1]) rfl ?_
  exact cl_end (o := (.cells #[.string ⟨#[]⟩, .slice none 0 0] 24)) (by have h := HS1.out; simp only [World.size_alloc] at h; exact h) (by have h := HB1.out; simp only [World.size_alloc] at h; exact h) _ _

set_option maxHeartbeats 1000000 in
theorem work2_any0 (R : List Tm) (B P n : Nat) (w : World) (Y : Nat → Prop) (hR : RoL w Y B R) (hP : Blk w P #[.int .i64 (n : Int), ro1 B] 88) (hp : 1 < R.length) :
    Calls Tryz.prog 96 #[.int .i64 ((0 : Nat) : Int), .pointer (some ⟨P, 0, none⟩)] w fun e w' => TPost w Y R[1] e w' := by
  have HR := hide ((hR.small).later ((Below.refl _ _).alloc (Nat.le_refl _) (.cells #[.string ⟨#[]⟩, .slice none 0 0] 24)))
  have hl := hR.len
  have c1 : ∀ o, (w.alloc o).cell? ⟨P, 1, none⟩ = some (ro1 B) := fun o => (hP.alloc o).cell 1
  unfold ro1 at c1
  have HA := hide (HR.out.at 1 hp)
  generalize R[1] = x at *
  go_enter Tryz.func96, Tryz.ntmps96
  go_wp2_with fail
  refine HA.out.mono ?_
  rintro e w1 ⟨v1, rfl, ⟨a1, c1', rfl, hs1⟩, hb1⟩
  have HS1 := hide hs1
  have HB1 := hide hb1
  have HK1 := hide ((Blk.new w #[.string ⟨#[]⟩, .slice none 0 0] 24).below hb1 (by simp))
  have r0 : w1.cell? ⟨w.heap.size, 0, none⟩ = some (.string ⟨#[]⟩) := HK1.out.cell 0
  have r1 : w1.cell? ⟨w.heap.size, 1, none⟩ = some (.slice none 0 0) := HK1.out.cell 1
  have rf : ∀ i, w1.frozen? ⟨w.heap.size, i, none⟩ = false := HK1.out.frozen
  clear hs1 hb1
  go_wp2_with fail
  refine bodyPost_ret (v := .agg #[.string x.name, .slice a1 x.args.length c1']) (by simp [results, Tryz.results96, go_sem, World.cell?_setCell_same, World.cell?_setCell_other, r0, r1]) rfl ?_
  exact cl_end (o := (.cells #[.string ⟨#[]⟩, .slice none 0 0] 24)) (by have h := HS1.out; simp only [World.size_alloc] at h; exact h) (by have h := HB1.out; simp only [World.size_alloc] at h; exact h) _ _

set_option maxHeartbeats 1000000 in
theorem work2_any1 (R : List Tm) (B P p n : Nat) (w : World) (Y : Nat → Prop) (hR : RoL w Y B R) (hP : Blk w P #[.int .i64 (n : Int), ro1 B] 88) (hp0 : p ≠ 0) (hp : p + 2 < R.length) :
    Calls Tryz.prog 96 #[.int .i64 (p : Int), .pointer (some ⟨P, 0, none⟩)] w fun e w' => TPost w Y R[p + 2] e w' := by
  have HR := hide ((hR.small).later ((Below.refl _ _).alloc (Nat.le_refl _) (.cells #[.string ⟨#[]⟩, .slice none 0 0] 24)))
  have hl := hR.len
  have c1 : ∀ o, (w.alloc o).cell? ⟨P, 1, none⟩ = some (ro1 B) := fun o => (hP.alloc o).cell 1
  unfold ro1 at c1
  have e0 : ((p : Int) == 0) = false := beq_eq_false_iff_ne.2 (by omega)
  have HA := hide (HR.out.at (p + 2) hp)
  generalize R[p + 2] = x at *
  go_enter Tryz.func96, Tryz.ntmps96
  go_wp2_with fail
  rw [show ((p : Int) + 2) = ((p + 2 : Nat) : Int) by omega]
  refine HA.out.mono ?_
  rintro e w1 ⟨v1, rfl, ⟨a1, c1', rfl, hs1⟩, hb1⟩
  have HS1 := hide hs1
  have HB1 := hide hb1
  have HK1 := hide ((Blk.new w #[.string ⟨#[]⟩, .slice none 0 0] 24).below hb1 (by simp))
  have r0 : w1.cell? ⟨w.heap.size, 0, none⟩ = some (.string ⟨#[]⟩) := HK1.out.cell 0
  have r1 : w1.cell? ⟨w.heap.size, 1, none⟩ = some (.slice none 0 0) := HK1.out.cell 1
  have rf : ∀ i, w1.frozen? ⟨w.heap.size, i, none⟩ = false := HK1.out.frozen
  clear hs1 hb1
  go_wp2_with fail
  refine bodyPost_ret (v := .agg #[.string x.name, .slice a1 x.args.length c1']) (by simp [results, Tryz.results96, go_sem, World.cell?_setCell_same, World.cell?_setCell_other, r0, r1]) rfl ?_
  exact cl_end (o := (.cells #[.string ⟨#[]⟩, .slice none 0 0] 24)) (by have h := HS1.out; simp only [World.size_alloc] at h; exact h) (by have h := HB1.out; simp only [World.size_alloc] at h; exact h) _ _

set_option maxHeartbeats 1000000 in
theorem with1_any (R : List Tm) (B P Q V p q n : Nat) (x : Tm) (ax : Option Addr) (cx : Nat) (w : World) (Y : Nat → Prop) (hR : RoL w Y B R) (hP : Blk w P #[.int .i64 (n : Int), ro1 B] 88) (hQ : Blk w Q #[.int .i64 (q : Int)] 3) (hV : Blk w V #[.string x.name, .slice ax x.args.length cx] 24) (hx : Sl w Y ax x.args) (hp : p < R.length) :
    Calls Tryz.prog 98 #[.int .i64 (p : Int), .pointer (some ⟨Q, 0, none⟩), .pointer (some ⟨V, 0, none⟩), .pointer (some ⟨P, 0, none⟩)] w fun e w' => TPost w Y ((R.set q x)[p]'(by simpa using hp)) e w' := by
  have HR := hide ((hR.small).later ((Below.refl _ _).alloc (Nat.le_refl _) (.cells #[.string ⟨#[]⟩, .slice none 0 0] 24)))
  have hl := hR.len
  have c1 : ∀ o, (w.alloc o).cell? ⟨P, 1, none⟩ = some (ro1 B) := fun o => (hP.alloc o).cell 1
  have c2 : ∀ o, (w.alloc o).cell? ⟨Q, 0, none⟩ = some (.int .i64 (q : Int)) := fun o => (hQ.alloc o).cell 0
  have c3 : ∀ o, (w.alloc o).cell? ⟨V, 0, none⟩ = some (.string x.name) := fun o => (hV.alloc o).cell 0
  have c4 : ∀ o, (w.alloc o).cell? ⟨V, 1, none⟩ = some (.slice ax x.args.length cx) := fun o => (hV.alloc o).cell 1
  unfold ro1 at c1
  by_cases hpq : p = q
  · subst hpq
    have HT : Hid ((R.set p x)[p]'(by simpa using hp) = x) := by unfold Hid; simp
    rw [HT.out]
    have HXS := hide hx
    go_enter Tryz.func98, Tryz.ntmps98
    go_wp2_with fail
    refine bodyPost_ret (v := .agg #[.string x.name, .slice ax x.args.length cx]) (by simp [results, Tryz.results98, go_sem]) rfl ?_
    have hb9 : Below w.heap.size w (w.alloc (.cells #[.string x.name, .slice ax x.args.length cx] 24)) := (Below.refl _ _).alloc (Nat.le_refl _) _
    exact ⟨_, rfl, ⟨ax, cx, rfl, (HXS.out.later hb9).mono fun b h _ => Or.inl h⟩, hb9⟩
  · have e0 : ((p : Int) == (q : Int)) = false := beq_eq_false_iff_ne.2 (by omega)
    have HT : Hid ((R.set q x)[p]'(by simpa using hp) = R[p]) := by unfold Hid; rw [List.getElem_set]; simp [show ¬ q = p by omega]
    rw [HT.out]
    have HA := hide (HR.out.at p hp)
    clear HT hV hx c3 c4
    generalize R[p] = x at *
    go_enter Tryz.func98, Tryz.ntmps98
    go_wp2_with fail
    refine HA.out.mono ?_
    rintro e w1 ⟨v1, rfl, ⟨a1, c1', rfl, hs1⟩, hb1⟩
    have HS1 := hide hs1
    have HB1 := hide hb1
    have HK1 := hide ((Blk.new w #[.string ⟨#[]⟩, .slice none 0 0] 24).below hb1 (by simp))
    have r0 : w1.cell? ⟨w.heap.size, 0, none⟩ = some (.string ⟨#[]⟩) := HK1.out.cell 0
    have r1 : w1.cell? ⟨w.heap.size, 1, none⟩ = some (.slice none 0 0) := HK1.out.cell 1
    have rf : ∀ i, w1.frozen? ⟨w.heap.size, i, none⟩ = false := HK1.out.frozen
    clear hs1 hb1
    go_wp2_with fail
    refine bodyPost_ret (v := .agg #[.string x.name, .slice a1 x.args.length c1']) (by simp [results, Tryz.results98, go_sem, World.cell?_setCell_same, World.cell?_setCell_other, r0, r1]) rfl ?_
    exact cl_end (o := (.cells #[.string ⟨#[]⟩, .slice none 0 0] 24)) (by have h := HS1.out; simp only [World.size_alloc] at h; exact h) (by have h := HB1.out; simp only [World.size_alloc] at h; exact h) _ _

/-- While a row's term is made. -/
def TmI (w : World) (Y : Nat → Prop) (n : Int) (F : Value) (T : Nat) (x : Tm) (wr : World) : Prop :=
  Below w.heap.size w wr ∧ Blk wr w.heap.size #[.int .i64 n, F] 88 ∧ Blk wr (w.heap.size + 1) #[.string ⟨#[]⟩, .slice none 0 0] 24 ∧ w.heap.size + 2 ≤ T ∧ T < wr.heap.size ∧ ∃ ax cx, Blk wr T #[.string x.name, .slice ax x.args.length cx] 24 ∧ Sl wr (fun b => (Y b ∧ b < w.heap.size) ∨ (w.heap.size + 2 ≤ b ∧ b ≠ T)) ax x.args
theorem TmI.put {w wr w2 : World} {Y : Nat → Prop} {n : Int} {F : Value} {T : Nat} {x y : Tm} {a : Option Addr} {c : Nat} (h : TmI w Y n F T x wr) (hb : Below wr.heap.size wr w2) (hs : Sl w2 (fun b => ((Y b ∧ b < w.heap.size) ∨ (w.heap.size + 2 ≤ b ∧ b ≠ T)) ∨ wr.heap.size ≤ b) a y.args) :
    TmI w Y n F T y ((w2.setCell ⟨T, 0, none⟩ (.string y.name)).setCell ⟨T, 1, none⟩ (.slice a y.args.length c)) := by
  obtain ⟨h1, h2, h3, h4, h5, ax, cx, h6, h7⟩ := h
  have hs1 := h1.size
  have hs2 := hb.size
  refine ⟨((h1.trans (hb.mono hs1)).setCell (p := ⟨T, 0, none⟩) (by simp; omega) _).setCell (p := ⟨T, 1, none⟩) (by simp; omega) _, ((h2.below hb (by omega)).setOther _ _ (by omega)).setOther _ _ (by omega), ((h3.below hb (by omega)).setOther _ _ (by omega)).setOther _ _ (by omega), h4, by simp [World.setCell]; omega, a, c, ((h6.below hb (by omega)).set 0 _).set 1 _, ?_⟩
  have hs3 : Sl w2 (fun b => (Y b ∧ b < w.heap.size) ∨ (w.heap.size + 2 ≤ b ∧ b ≠ T)) a y.args := hs.mono fun b hb _ => hb.elim id fun h => Or.inr ⟨by omega, by omega⟩
  refine hs3.kept fun b hb => ?_
  have hne : b ≠ T := by rcases hb with hb | hb <;> omega
  rw [Below.heap_setCell _ _ _ _ (by simpa using hne), Below.heap_setCell _ _ _ _ (by simpa using hne)]
theorem TmI.fin {w wr : World} {Y : Nat → Prop} {n : Int} {F : Value} {T : Nat} {x : Tm} {a : Option Addr} {c : Nat} (h : TmI w Y n F T x wr) (hs : Sl wr (fun b => (Y b ∧ b < w.heap.size) ∨ (w.heap.size + 2 ≤ b ∧ b ≠ T)) a x.args) (u u' : Value) :
    TPost w Y x (.returned (.agg #[.string x.name, .slice a x.args.length c])) ((wr.setCell ⟨w.heap.size + 1, 0, none⟩ u).setCell ⟨w.heap.size + 1, 1, none⟩ u') := by
  obtain ⟨h1, h2, h3, h4, h5, _⟩ := h
  refine ⟨_, rfl, ⟨a, c, rfl, ?_⟩, (h1.setCell (p := ⟨w.heap.size + 1, 0, none⟩) (by simp) _).setCell (p := ⟨w.heap.size + 1, 1, none⟩) (by simp) _⟩
  refine (hs.kept fun b hb => ?_).mono fun b hb _ => hb.imp And.left fun h => by omega
  have hne : b ≠ w.heap.size + 1 := by rcases hb with hb | hb <;> omega
  rw [Below.heap_setCell _ _ _ _ (by simpa using hne), Below.heap_setCell _ _ _ _ (by simpa using hne)]

set_option maxHeartbeats 2000000 in
theorem term1_any (R : List Tm) (P : Nat) (w : World) (Y : Nat → Prop) (hR : ∀ w', Below w.heap.size w w' → ∀ p (hp : p < R.length), Calls Tryz.prog 95 #[.int .i64 (p : Int), .pointer (some ⟨P, 0, none⟩)] w' fun e w'' => TPost w' (fun b => Y b ∧ b < w.heap.size) R[p] e w'') (hl : 0 < R.length) (hl2 : R.length ≤ 100000) :
    Calls Tryz.prog 82 #[.agg #[.int .i64 (R.length : Int), .func (.func 95) #[] #[.pointer (some ⟨P, 0, none⟩)]]] w fun e w' => TPost w Y (apAll R[0] (R.drop 1)) e w' := by
  have HR := hide hR
  clear hR
  have HA0 := hide (HR.out _ (below2 (.cells #[.int .i64 (R.length : Int), .func (.func 95) #[] #[.pointer (some ⟨P, 0, none⟩)]] 88) (.cells #[.string ⟨#[]⟩, .slice none 0 0] 24)) 0 hl)
  go_enter Tryz.func82, Tryz.ntmps82
  go_wp2_with fail
  refine HA0.out.mono ?_
  rintro e w1 ⟨v1, rfl, ⟨a1, c1, rfl, hs1⟩, hb1⟩
  have hz1 := hb1.size
  simp only [World.size_alloc] at hz1
  have I0 : Hid (TmI w Y (R.length : Int) (.func (.func 95) #[] #[.pointer (some ⟨P, 0, none⟩)]) w1.heap.size R[0] (w1.alloc (.cells #[.string R[0].name, .slice a1 R[0].args.length c1] 24))) := by
    have hbw : Below w.heap.size w w1 := (below2 _ _).trans (hb1.mono (by simp; omega))
    refine ⟨hbw.alloc (by omega) _, (((Blk.new w _ _).alloc _).below hb1 (by simp; omega)).alloc _, ?_, by omega, by simp, a1, c1, Blk.new w1 _ _, (hs1.mono (Y := fun b => (Y b ∧ b < w.heap.size) ∨ (w.heap.size + 2 ≤ b ∧ b ≠ w1.heap.size)) fun b hb hlt => hb.imp id fun h => ⟨by simp at h; omega, by omega⟩).later ((Below.refl _ _).alloc (Nat.le_refl _) _)⟩
    have h := ((Blk.new (w.alloc (.cells #[.int .i64 (R.length : Int), .func (.func 95) #[] #[.pointer (some ⟨P, 0, none⟩)]] 88)) #[.string ⟨#[]⟩, .slice none 0 0] 24).below hb1 (by simp)).alloc (.cells #[.string R[0].name, .slice a1 R[0].args.length c1] 24)
    simpa using h
  clear hs1 hb1 HA0
  go_wp2_with fail
  generalize w1.heap.size = T at *
  go_loopw [4] (fun i wr => ∃ m : Nat, 1 ≤ m ∧ m ≤ R.length ∧ i = .int .i64 (m : Int) ∧ TmI w Y (R.length : Int) (.func (.func 95) #[] #[.pointer (some ⟨P, 0, none⟩)]) T (apAll R[0] ((R.drop 1).take (m - 1))) wr) (fun i wr => R.length - (intOf i).toNat)
  case atStart => exact ⟨1, Nat.le_refl _, hl, rfl, by simpa [apAll] using I0.out⟩
  case round =>
    obtain ⟨m, hm0, hm, rfl, hI⟩ := hrel
    have HI := hide hI
    obtain ⟨p1, p2, p3, p4, p5, ax, cx, p6, p7⟩ := hI
    have P1 := hide p1
    have P6 := hide p6
    have P7 := hide p7
    have hz1' := p1.size
    have n0 := p2.cell 0
    have n1 := p2.cell 1
    have o0 := p6.cell 0
    have o1 := p6.cell 1
    simp only [List.getElem?_toArray, List.getElem?_cons_succ, List.getElem?_cons_zero] at o0 o1 n0 n1
    by_cases hlt : m < R.length
    · have HST := hide (apAll_from R[0] R 1 m hm0 hlt)
      have HAK := hide (HR.out wr.drew (p1.trans (below_drewN (Below.refl _ _) 1)) m hlt)
      generalize R[m] = z at *
      generalize apAll R[0] ((R.drop 1).take (m - 1)) = y at *
      clear p1 p2 p3 p6 p7
      go_wp2_with fail
      go_region_law (first
        | (go_simp; go_at_call 95; refine HAK.out.mono ?_; rintro e w2 ⟨v2, rfl, ⟨a2, c2, rfl, hs2⟩, hb2⟩; have HS2 := hide hs2; have HB2 := hide (drew_below (w := wr) hb2); have z6 := P6.out.below HB2.out p5; have x0 := z6.cell 0; have x1 := z6.cell 1; simp only [List.getElem?_toArray, List.getElem?_cons_succ, List.getElem?_cons_zero] at x0 x1; clear z6 hs2 hb2)
        | (go_simp; go_at_call 68; refine (ap_any y z _ _ _ (fun b => ((Y b ∧ b < w.heap.size) ∨ (w.heap.size + 2 ≤ b ∧ b ≠ T)) ∨ wr.heap.size ≤ b) (by exact ⟨ax, cx, rfl, (P7.out.later HB2.out).mono fun b h _ => Or.inl h⟩) (by exact ⟨a2, c2, rfl, HS2.out.mono fun b h _ => h.elim (fun h => Or.inl (Or.inl h)) Or.inr⟩)).mono ?_; rintro e w3 ⟨v3, rfl, ⟨a3, c3, rfl, hs3⟩, hb3⟩; have HS3 : Hid (Sl w3 (fun b => ((Y b ∧ b < w.heap.size) ∨ (w.heap.size + 2 ≤ b ∧ b ≠ T)) ∨ wr.heap.size ≤ b) a3 (apT y z).args) := (hs3.mono fun b h _ => h.elim id fun h => Or.inr (Nat.le_trans HB2.out.size h)); have HB3 := hide (HB2.out.trans (hb3.mono HB2.out.size)); have z6 := P6.out.below HB3.out p5; have y0 := z6.cell 0; have y1 := z6.cell 1; have yf := z6.frozen; simp only [List.getElem?_toArray, List.getElem?_cons_succ, List.getElem?_cons_zero] at y0 y1; clear z6 hs3 hb3))
      all_goals
        go_wp2_with fail
        go_roundw
        case rel => exact ⟨m + 1, by omega, by omega, by go_num, by rw [HST.out]; exact HI.out.put HB3.out HS3.out⟩
        case measure => simp [intOf]; omega
    · have htk : (R.drop 1).take (m - 1) = R.drop 1 := List.take_of_length_le (by simp; omega)
      have HI2 : Hid (TmI w Y (R.length : Int) (.func (.func 95) #[] #[.pointer (some ⟨P, 0, none⟩)]) T (apAll R[0] (R.drop 1)) wr) := by have h := HI.out; rw [htk] at h; exact h
      have P72 : Hid (Sl wr (fun b => (Y b ∧ b < w.heap.size) ∨ (w.heap.size + 2 ≤ b ∧ b ≠ T)) ax (apAll R[0] (R.drop 1)).args) := by have h := P7.out; rw [htk] at h; exact h
      rw [htk] at o0 o1
      have r0 := p3.cell 0
      have r1 := p3.cell 1
      have rf := p3.frozen
      simp only [List.getElem?_toArray, List.getElem?_cons_succ, List.getElem?_cons_zero] at r0 r1
      clear p1 p2 p3 p6 p7
      go_wp2_with fail
      refine bodyPost_ret (v := .agg #[.string (apAll R[0] (R.drop 1)).name, .slice ax (apAll R[0] (R.drop 1)).args.length cx]) (by simp [results, Tryz.results82, go_sem, World.cell?_setCell_same, World.cell?_setCell_other, r0, r1]) rfl ?_
      exact HI2.out.fin P72.out _ _
end Go.Proofs.YtcdabjekppddjaaGreatDoor
