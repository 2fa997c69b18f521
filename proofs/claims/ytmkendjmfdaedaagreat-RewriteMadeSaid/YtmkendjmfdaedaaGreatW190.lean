import Derived.Test.YtmkendjmfdaedaaGreatZRewriteMadeOwn
import Derived.Test.YtmkendjmfdaedaaGreatW165
import Derived.Test.YtmkendjmfdaedaaGreatEn1
import Derived.Test.YtmkendjmfdaedaaGreatZBRewriteMadeOwn
import Derived.Test.YtmkendjmfdaedaaGreatZDRewriteMadeOwn
namespace Go.Proofs.YtmkendjmfdaedaaGreat
open Go.RowKit
set_option linter.unusedSimpArgs false
set_option linter.unusedVariables false
set_option maxRecDepth 8000
def FyV (p : Pr) (x : Tm) (Y : Nat → Prop) (wr : World) (o k f : Value) (wc : World) : Prop :=
 ∃ (U : Nat) (y : Tm) (a : Option Addr) (c : Nat) (ok full : Bool), o = .pointer (some ⟨U, 0, none⟩) ∧ k = .bool ok ∧ f = .bool full ∧ wr.heap.size ≤ U ∧ Blk wc U #[.string y.name, .slice a y.args.length c] 27 ∧ Sl wc (fun b => (Y b ∨ wr.heap.size ≤ b) ∧ b ≠ U) a y.args ∧ Below wr.heap.size wr wc ∧
  ((fitT p x = none ∧ ok = false ∧ full = false) ∨ ∃ z, fitT p x = some z ∧ ok = true ∧ (full = true ↔ 2000 < sizeL [z]) ∧ (full = false → y = z))
theorem fyV_A {p : Pr} {x y : Tm} {Y : Nat → Prop} {wr wd w1 : World} {a : Option Addr} {c : Nat} {ok full : Bool} (hd : Below wr.heap.size wr wd) (hb : Below wd.heap.size wd w1) (hs : Sl w1 (fun b => ((Y b ∧ b < wr.heap.size) ∧ b < wd.heap.size) ∨ wd.heap.size ≤ b) a y.args) (hc : (fitT p x = none ∧ ok = false ∧ full = false) ∨ ∃ z, fitT p x = some z ∧ ok = true ∧ (full = true ↔ 2000 < sizeL [z]) ∧ (full = false → y = z)) :
  FyV p x Y wr (.pointer (some ⟨w1.heap.size, 0, none⟩)) (.bool ok) (.bool full) (w1.alloc (.cells #[.string y.name, .slice a y.args.length c] 27)) := by
 have h1 := hd.size
 have h2 := hb.size
 refine ⟨w1.heap.size, y, a, c, ok, full, rfl, rfl, rfl, by omega, Blk.new w1 _ _, (hs.mono fun b h hlt => ⟨?_, by omega⟩).later ((Below.refl _ _).alloc (Nat.le_refl _) _), (hd.trans (hb.mono hd.size)).alloc (by omega) _, hc⟩
 rcases h with h | h
 ·exact Or.inl h.1.1
 ·exact Or.inr (by omega)
theorem fyV_B {p : Pr} {x y : Tm} {Y : Nat → Prop} {wr wd wz w1 : World} {a : Option Addr} {c : Nat} {ok full : Bool} (hd : Below wr.heap.size wr wd) (hzz : wz.heap.size = wd.heap.size + 1) (hb : Below wz.heap.size wz w1) (hbr : Below wr.heap.size wr w1) (hu : Blk w1 wd.heap.size #[.string ⟨#[]⟩, .slice none 0 0] 27) (hs : Sl w1 (fun b => ((Y b ∧ b < wr.heap.size) ∧ b < wz.heap.size) ∨ wz.heap.size ≤ b) a y.args) (hc : (fitT p x = none ∧ ok = false ∧ full = false) ∨ ∃ z, fitT p x = some z ∧ ok = true ∧ (full = true ↔ 2000 < sizeL [z]) ∧ (full = false → y = z)) :
  Below wr.heap.size wr ((w1.setCell ⟨wd.heap.size, 0, none⟩ (.string y.name)).setCell ⟨wd.heap.size, 1, none⟩ (.slice a y.args.length c)) ∧ FyV p x Y wr (.pointer (some ⟨wd.heap.size, 0, none⟩)) (.bool ok) (.bool full) ((w1.setCell ⟨wd.heap.size, 0, none⟩ (.string y.name)).setCell ⟨wd.heap.size, 1, none⟩ (.slice a y.args.length c)) := by
 have h1 := hd.size
 have hb2 : Below wr.heap.size wr ((w1.setCell ⟨wd.heap.size, 0, none⟩ (.string y.name)).setCell ⟨wd.heap.size, 1, none⟩ (.slice a y.args.length c)) := (hbr.setCell (by simp; omega) _).setCell (by simp; omega) _
 refine ⟨hb2, wd.heap.size, y, a, c, ok, full, rfl, rfl, rfl, h1, (hu.set 0 _).set 1 _, ?_, hb2, hc⟩
 refine (hs.kept fun b hb => ?_).mono fun b h hlt => ⟨?_, ?_⟩
 ·have hne : b ≠ wd.heap.size := by rcases hb with h | h <;> omega
  rw [Below.heap_setCell _ _ _ _ (by simpa using hne), Below.heap_setCell _ _ _ _ (by simpa using hne)]
 ·rcases h with h | h
  ·exact Or.inl h.1.1
  ·exact Or.inr (by omega)
 ·rcases h with h | h <;> omega
def DePost (r : Int × Tm × Nat) (w : World) (X : Nat → Prop) (e : Ending) (w' : World) : Prop :=
 Below w.heap.size w w' ∧ ∃ (x : Tm) (a : Option Addr) (c n : Nat) (er : Int), e = .returned (.tuple #[.agg #[.string x.name, .slice a x.args.length c], .int .i64 (n : Int), .int .i64 er]) ∧ r = (er, x, n) ∧ Sl w' (fun b => (X b ∧ b < w.heap.size) ∨ w.heap.size ≤ b) a x.args
def DeInv (rs : List Pr) (inner : Bool) (m : Nat) (t : Tm) (Y : Nat → Prop) (w : World) (i : Value) (wr : World) : Prop :=
 ∃ (j : Nat) (tc : Tm) (a : Option Addr) (c : Nat), j ≤ m ∧ i = .int .i64 (j : Int) ∧ endP rs inner m t = shiftN j (endP rs inner (m - j) tc) ∧ sizeL [tc] ≤ 2000 ∧ Blk wr w.heap.size #[.string tc.name, .slice a tc.args.length c] 27 ∧ Sl wr Y a tc.args ∧ Blk wr (w.heap.size + 1) #[.string ⟨#[]⟩, .slice none 0 0] 27 ∧ Below w.heap.size w wr ∧ w.heap.size + 2 ≤ wr.heap.size
def DkInv (rs : List Pr) (tc x : Tm) (a a9 : Option Addr) (c c9 B : Nat) (w wB : World) (i : Value) (wr : World) : Prop :=
 ∃ k : Nat, k ≤ rs.length ∧ i = .int .i64 (k : Int) ∧ fstT (rs.take k) x = none ∧ Blk wr B #[.string x.name, .slice a9 x.args.length c9] 27 ∧ Blk wr w.heap.size #[.string tc.name, .slice a tc.args.length c] 27 ∧ Blk wr (w.heap.size + 1) #[.string ⟨#[]⟩, .slice none 0 0] 27 ∧ Below wB.heap.size wB wr
theorem fstT_next {rs : List Pr} {x : Tm} {k : Nat} (h : k < rs.length) (h0 : fstT (rs.take k) x = none) : fstT (rs.take (k + 1)) x = fitT rs[k] x ∧ (∀ z, fitT rs[k] x = some z → fstT rs x = some z) := by
 have e1 : fstT (rs.take (k + 1)) x = fitT rs[k] x := by
  unfold fstT at *
  rw [List.take_succ_eq_append_getElem h, List.findSome?_append, h0]
  simp
 refine ⟨e1, fun z hz => ?_⟩
 have e2 : fstT rs x = ((rs.take (k + 1)).findSome? fun r => fitT r x).or ((rs.drop (k + 1)).findSome? fun r => fitT r x) := by
  unfold fstT
  rw [← List.findSome?_append, List.take_append_drop]
 have e3 : ((rs.take (k + 1)).findSome? fun r => fitT r x) = some z := e1.trans hz
 rw [e2, e3]
 rfl
set_option maxHeartbeats 20000000 in
theorem endOf_any (rs : List Pr) (t : Tm) (inner : Bool) (m : Nat) (u : Value) (a0 : Option Addr) (c0 : Nat) (w : World) (X0 : Nat → Prop) (hu0 : QV w X0 u rs) (hs0 : Sl w X0 a0 t.args) (h40 : rs.length ≤ 40) (hrz : ∀ p ∈ rs, sizeL [p.l] ≤ 1000000 ∧ sizeL [p.r] ≤ 1000000) (hz : sizeL [t] ≤ 2000) (hm : m ≤ 400) :
  Calls Tryz.prog 22 #[u, .agg #[.string t.name, .slice a0 t.args.length c0], .int .i64 (m : Int), .bool inner] w fun e w' => DePost (endP rs inner m t) w X0 e w' := by
 obtain ⟨X, hXX, hXw, hu, hs⟩ : ∃ X : Nat → Prop, (∀ b, X b → X0 b) ∧ (∀ b, X b → b < w.heap.size) ∧ QV w X u rs ∧ Sl w X a0 t.args := ⟨fun b => X0 b ∧ b < w.heap.size, fun _ h => h.1, fun _ h => h.2, hu0.mono fun b h1 h2 => ⟨h1, h2⟩, hs0.mono fun b h1 h2 => ⟨h1, h2⟩⟩
 obtain ⟨Y, hY⟩ : ∃ Y : Nat → Prop, Y = fun b => X b ∨ w.heap.size + 2 ≤ b := ⟨_, rfl⟩
 have HXY : Hid (∀ b, X b → Y b) := fun b hb => by rw [hY]; exact Or.inl hb
 have HNY : Hid (∀ b, w.heap.size + 2 ≤ b → Y b) := fun b hb => by rw [hY]; exact Or.inr hb
 have HYN : Hid (∀ b, Y b → b ≠ w.heap.size ∧ b ≠ w.heap.size + 1) := fun b hb => by
  rw [hY] at hb
  rcases hb with h | h
  ·have := hXw b h; omega
  ·omega
 have HYO : Hid (∀ b, Y b → (X0 b ∧ b < w.heap.size) ∨ w.heap.size ≤ b) := fun b hb => by
  rw [hY] at hb
  rcases hb with h | h
  ·exact Or.inl ⟨hXX b h, hXw b h⟩
  ·exact Or.inr (by omega)
 have HU := hide (hu.mono (Y := Y) fun b h _ => HXY.out b h)
 have HS := hide (hs.mono (Y := Y) fun b h _ => HXY.out b h)
 have HRZ0 := hide hrz
 obtain ⟨ua, uc, rfl, _, _⟩ := hu
 clear hXX hXw hs hu0 hs0 hrz hY
 have HAF := hide (allocs_facts [(.cells #[.string t.name, .slice a0 t.args.length c0] 27 : Obj), (.cells #[.string ⟨#[]⟩, .slice none 0 0] 27 : Obj)] w)
 have HW : Hid (∃ W, W = (w.alloc (.cells #[.string t.name, .slice a0 t.args.length c0] 27)).alloc (.cells #[.string ⟨#[]⟩, .slice none 0 0] 27) ∧ Below w.heap.size w W ∧ W.heap.size = w.heap.size + 2 ∧ Blk W w.heap.size #[.string t.name, .slice a0 t.args.length c0] 27 ∧ Blk W (w.heap.size + 1) #[.string ⟨#[]⟩, .slice none 0 0] 27) := ⟨_, rfl, HAF.out.1, HAF.out.2.1, HAF.out.2.2 0 _ rfl, HAF.out.2.2 1 _ rfl⟩
 go_enter Tryz.func22, Tryz.ntmps22
 go_wp2_with fail
 obtain ⟨w0, hw0, hb0, hz0, ht0, hr0⟩ := HW.out
 rw [← hw0]
 have HB0 := hide hb0
 have HT0 := hide ht0
 have HR0 := hide hr0
 have HZ0 := hide hz0
 clear hw0 HW hb0 hz0 ht0 hr0 HAF
 go_loopw [11] (fun i wr => DeInv rs inner m t Y w i wr) (fun i wr => m - (intOf i).toNat)
 case atStart =>
  exact ⟨0, t, a0, c0, Nat.zero_le _, rfl, by rw [Nat.sub_zero]; exact (shiftN_zero (endP_form _ _ _ _)).symm, hz, HT0.out, HS.out.later HB0.out, HR0.out, HB0.out, by have := HZ0.out; omega⟩
 case round =>
  obtain ⟨j, tc, a, c, hj, rfl, heq, hzc, hT, hsl, hRB, hbw, hzr⟩ := hrel
  have HEN := hide heq
  have HZC := hide hzc
  have HTB := hide hT
  have HSL := hide hsl
  have HRB := hide hRB
  have HBW := hide hbw
  have t0 := hT.c0
  have t1 := hT.c1
  clear heq hsl hRB hT hbw
  go_wp2_with fail
  refine (next_any rs tc inner a c _ wr Y (HU.out.later HBW.out) HSL.out h40 (fun p hp => (HRZ0.out p hp).1) (by have := HZC.out; omega)).mono ?_
  rintro e w1 ⟨hb1, hc1⟩
  have B1 := hide (HBW.out.trans (hb1.mono HBW.out.size))
  have T1 := hide (HTB.out.below hb1 HTB.out.lt)
  have R1 := hide (HRB.out.below hb1 HRB.out.lt)
  have S1 := hide (HSL.out.later hb1)
  have hz1 : wr.heap.size ≤ w1.heap.size := hb1.size
  clear hb1 t0 t1 HTB HRB HSL HBW
  rcases hc1 with ⟨hn, rfl⟩ | ⟨p, v, hp, hpm, rfl, hpv⟩
  ·have HEP : Hid (endP rs inner m t = (0, tc, j)) := by
    unfold Hid
    rw [HEN.out, endP_none (by rw [nextT_none, ← nextP_none rs inner]; exact hn)]
    simp [shiftN]
   have t0 := T1.out.c0
   have t1 := T1.out.c1
   have r0 := R1.out.c0
   have r1 := R1.out.c1
   have rf := R1.out.frozen
   clear hn
   go_wp2_with fail
   refine bodyPost_ret (v := .tuple #[.agg #[.string tc.name, .slice a tc.args.length c], .int .i64 (j : Int), .int .i64 0]) (by simp [results, Tryz.results22, go_sem, World.cell?_setCell_same, World.cell?_setCell_other, r0, r1]) rfl ?_
   refine ⟨(B1.out.setCell (by simp) _).setCell (by simp) _, tc, a, c, j, 0, rfl, HEP.out, (S1.out.kept fun b hb => ?_).mono fun b hb _ => HYO.out b hb⟩
   have := (HYN.out b hb).2
   rw [Below.heap_setCell _ _ _ _ (by simpa using this), Below.heap_setCell _ _ _ _ (by simpa using this)]
  ·obtain ⟨x, z, hx, hf, hnt⟩ := nextT_some hp
   have HX := hide hx
   have HF := hide hf
   have HNT := hide hnt
   have HPV := hide (hpv.mono (Y := Y) fun b hb _ => HNY.out b (by omega))
   obtain ⟨va, vc, rfl, _, _⟩ := hpv
   clear hp hpm hx hf hnt
   by_cases hjm : j = m
   ·have hji : (j : Int) = (m : Int) := by omega
    have HEP : Hid (endP rs inner m t = (9, ⟨⟨#[]⟩, []⟩, 0)) := by
     unfold Hid
     rw [HEN.out, hjm, Nat.sub_self, endP_zero HNT.out]
     exact shiftN_err _ _ (by decide)
    clear hjm
    have r0 := R1.out.c0
    have r1 := R1.out.c1
    have rf := R1.out.frozen
    go_wp2_with fail
    refine bodyPost_ret (v := .tuple #[.agg #[.string ⟨#[]⟩, .slice none 0 0], .int .i64 0, .int .i64 9]) (by simp [results, Tryz.results22, go_sem, World.cell?_setCell_same, World.cell?_setCell_other, r0, r1]) rfl ?_
    exact ⟨(B1.out.setCell (by simp) _).setCell (by simp) _, ⟨⟨#[]⟩, []⟩, none, 0, 0, 9, rfl, HEP.out, ⟨by simp, Or.inl rfl⟩⟩
   ·have hji : ¬ ((j : Int) = (m : Int)) := by omega
    have hjl : j < m := by omega
    clear hjm
    have t0 := T1.out.c0
    have t1 := T1.out.c1
    go_wp2_with fail
    refine (atOf_good HX.out _ _ w1 Y ⟨a, c, rfl, S1.out⟩ HPV.out).mono ?_
    rintro e w2 ⟨a9, c9, rfl, hs9, hb2⟩
    have HBX : Hid (Below w2.heap.size w2 (w2.alloc (.cells #[.string x.name, .slice a9 x.args.length c9] 27))) := (Below.refl _ _).alloc (Nat.le_refl _) _
    have BX0 := hide (hb2.alloc hb2.size (.cells #[.string x.name, .slice a9 x.args.length c9] 27))
    have XB0 : Hid (Blk (w2.alloc (.cells #[.string x.name, .slice a9 x.args.length c9] 27)) w2.heap.size #[.string x.name, .slice a9 x.args.length c9] 27) := Blk.new w2 _ _
    have SX0 := hide (hs9.later HBX.out)
    clear hs9 hb2 t0 t1 HBX
    go_wp2_with fail
    have TB := hide (T1.out.below BX0.out T1.out.lt)
    have RB := hide (R1.out.below BX0.out R1.out.lt)
    have SB := hide (S1.out.later BX0.out)
    have PB := hide (HPV.out.later BX0.out)
    have BB := hide (B1.out.trans (BX0.out.mono B1.out.size))
    have hzB : w.heap.size + 2 ≤ (w2.alloc (.cells #[.string x.name, .slice a9 x.args.length c9] 27)).heap.size := by have := BX0.out.size; omega
    clear T1 R1 S1 HPV B1 BX0
    generalize w2.heap.size = B at *
    generalize (w2.alloc (.cells #[.string x.name, .slice a9 x.args.length c9] 27)) = wB at *
    have HRZB : Hid True := trivial
    clear hzr hz1
    go_loopw [16] (fun i wr => DkInv rs tc x a a9 c c9 B w wB i wr) (fun i wr => rs.length - (intOf i).toNat)
    case atStart => exact ⟨0, Nat.zero_le _, rfl, by simp [fstT], XB0.out, TB.out, RB.out, Below.refl _ _⟩
    case round =>
     obtain ⟨k, hk, rfl, hfn, hXB, hTB, hRB, hbB⟩ := hrel
     have HFN := hide hfn
     have XB := hide hXB
     have TBr := hide hTB
     have RBr := hide hRB
     have BBr := hide hbB
     have hzBr := hbB.size
     clear hfn hXB hTB hRB
     by_cases hlt : k < rs.length
     ·obtain ⟨bq, oq, a1, c1, a2, c2, e1, d0, d1, d2, d3, hs1, hs2⟩ := ((HU.out.later BB.out).later hbB).get k hlt
      subst e1
      have hlt2 : (k : Int) < (rs.length : Int) := by omega
      have D := hide (And.intro d0 (And.intro d1 (And.intro d2 d3)))
      have Q1 := hide (hs1.mono (Y := fun b => Y b ∧ b < wr.heap.size) fun b h1 h2 => ⟨h1, h2⟩)
      have Q2 := hide (hs2.mono (Y := fun b => Y b ∧ b < wr.heap.size) fun b h1 h2 => ⟨h1, h2⟩)
      have SX := hide ((SX0.out.later hbB).mono (Y := fun b => Y b ∧ b < wr.heap.size) fun b h1 h2 => ⟨h1, h2⟩)
      have HNX := hide (fstT_next (x := x) hlt HFN.out)
      have HRZ := hide (HRZ0.out _ (List.getElem_mem hlt))
      clear hs1 hs2 d0 d1 d2 d3 hbB
      generalize rs[k] = r at *
      go_upto_region 12 with fail
      go_cut [17, 18, 19] (fun o q f wc => FyV r x Y wr o q f wc)
      case first =>
       have BD : Hid (Below wr.heap.size wr wr.drew) := below_drewN (Below.refl _ _) 1
       refine wp_region_held_drew (S := fun w' => Below wr.heap.size wr w') (by kernel_rfl) BD.out (fun hHeld => ?_)
       refine tkq (v := ?_) 0 rfl ?_ ?_
       rotate_left
       ·intro w' hSw
        go_simp <;> with_reducible rfl
       try simp only [Act.put, sq]
       refine tkq (v := ?_) 1 rfl ?_ ?_
       rotate_left
       ·intro w' hSw
        go_simp <;> with_reducible rfl
       try simp only [Act.put, sq]
       refine tkq (v := ?_) 2 rfl ?_ ?_
       rotate_left
       ·intro w' hSw
        go_simp <;> with_reducible rfl
       try simp only [Act.put, sq]
       refine tkq (v := ?_) 3 rfl ?_ ?_
       rotate_left
       ·intro w' hSw
        have c0 := cell_later hSw D.out.1
        have c1 := cell_later hSw D.out.2.1
        have c2 := cell_later hSw D.out.2.2.1
        have c3 := cell_later hSw D.out.2.2.2
        go_simp <;> with_reducible rfl
       try simp only [Act.put, sq]
       refine tkq (v := ?_) 4 rfl ?_ ?_
       rotate_left
       ·intro w' hSw
        have c0 : w'.cell? ⟨B, 0, none⟩ = some (.string x.name) := (XB.out.below hSw XB.out.lt).cell 0
        have c1 : w'.cell? ⟨B, 1, none⟩ = some (.slice a9 x.args.length c9) := (XB.out.below hSw XB.out.lt).cell 1
        go_simp <;> with_reducible rfl
       try simp only [Act.put, sq]
       generalize wr.drew = wd at *
       refine wpAnyH_ready (rs := [5, 10]) (by kernel_rfl) (by simp) ?_
       refine AllReadyH.cons rfl (fun K hK => ?_) (AllReadyH.cons rfl (fun K hK => ?_) AllReadyH.nil)
       ·go_simp
        go_at_call 41
        refine (docFitsF_any r x a1 a2 a9 c1 c2 c9 wd (fun b => Y b ∧ b < wr.heap.size) (Q1.out.later BD.out) (Q2.out.later BD.out) (SX.out.later BD.out) HRZ.out.1 HRZ.out.2).mono ?_
        rintro e w5 ⟨y, ay, cy, ok, full, rfl, hsy, hb5, hcy⟩
        have HSY := hide hsy
        have HCY := hide hcy
        have B5 := hide (BD.out.trans (hb5.mono BD.out.size))
        have HB5 := hide hb5
        clear hsy hcy hb5
        go_simp
        refine hK.out _ _ (by exact B5.out) (fun hHeld => ?_)
        clear hK K
        try simp only [Act.put, sq]
        refine tkq (v := ?_) 6 rfl ?_ ?_
        rotate_left
        ·intro w' hSw
         go_simp <;> with_reducible rfl
        try simp only [Act.put, sq]
        refine tkq (v := ?_) 7 rfl ?_ ?_
        rotate_left
        ·intro w' hSw
         go_simp <;> with_reducible rfl
        try simp only [Act.put, sq]
        refine tkq (v := ?_) 8 rfl ?_ ?_
        rotate_left
        ·intro w' hSw
         go_simp <;> with_reducible rfl
        try simp only [Act.put, sq]
        refine tkq (v := ?_) 9 rfl ?_ ?_
        rotate_left
        ·intro w' hSw
         go_simp <;> with_reducible rfl
        try simp only [Act.put, sq]
        refine rdq 10 rfl fun K hK => ?_
        go_simp
        refine hK.out _ _ (by exact B5.out.alloc B5.out.size _) (fun hHeld => ?_)
        clear hK K
        try simp only [Act.put, sq]
        refine rdq 11 rfl fun K hK => ?_
        go_simp
        refine hK.out _ _ (by exact B5.out.alloc B5.out.size _) (fun hHeld => ?_)
        clear hK K
        try simp only [Act.put, sq]
        refine tkq (v := ?_) 12 rfl ?_ ?_
        rotate_left
        ·intro w' hSw
         go_simp <;> with_reducible rfl
        try simp only [Act.put, sq]
        refine tkq (v := ?_) 13 rfl ?_ ?_
        rotate_left
        ·intro w' hSw
         go_simp <;> with_reducible rfl
        try simp only [Act.put, sq]
        refine wpAnyH_done (by kernel_rfl) ?_ _
        go_wp2_with fail
        go_meet
        exact fyV_A BD.out HB5.out HSY.out HCY.out
       ·go_simp
        refine hK.out _ _ (by exact BD.out.alloc BD.out.size _) (fun hHeld => ?_)
        clear hK K
        try simp only [Act.put, sq]
        have BZ : Hid (Below wd.heap.size wd (wd.alloc (.cells #[.string ⟨#[]⟩, .slice none 0 0] 27))) := (Below.refl _ _).alloc (Nat.le_refl _) _
        have UZ := hide (Blk.new wd #[.string ⟨#[]⟩, .slice none 0 0] 27)
        have BDZ := hide (BD.out.trans (BZ.out.mono BD.out.size))
        have za : Hid ((wd.alloc (.cells #[.string ⟨#[]⟩, .slice none 0 0] 27)).heap.size = wd.heap.size + 1) := by simp [Hid]
        generalize (wd.alloc (.cells #[.string ⟨#[]⟩, .slice none 0 0] 27)) = wz at *
        refine rdq 5 rfl fun K hK => ?_
        go_simp
        go_at_call 41
        refine (docFitsF_any r x a1 a2 a9 c1 c2 c9 wz (fun b => Y b ∧ b < wr.heap.size) (Q1.out.later BDZ.out) (Q2.out.later BDZ.out) (SX.out.later BDZ.out) HRZ.out.1 HRZ.out.2).mono ?_
        rintro e w5 ⟨y, ay, cy, ok, full, rfl, hsy, hb5, hcy⟩
        have HSY := hide hsy
        have HCY := hide hcy
        have B5 := hide (BDZ.out.trans (hb5.mono BDZ.out.size))
        have HB5 := hide hb5
        have U5 := hide (UZ.out.below hb5 UZ.out.lt)
        clear hsy hcy hb5
        go_simp
        refine hK.out _ _ (by exact B5.out) (fun hHeld => ?_)
        clear hK K
        try simp only [Act.put, sq]
        refine tkq (v := ?_) 6 rfl ?_ ?_
        rotate_left
        ·intro w' hSw
         go_simp <;> with_reducible rfl
        try simp only [Act.put, sq]
        refine tkq (v := ?_) 7 rfl ?_ ?_
        rotate_left
        ·intro w' hSw
         go_simp <;> with_reducible rfl
        try simp only [Act.put, sq]
        refine tkq (v := ?_) 8 rfl ?_ ?_
        rotate_left
        ·intro w' hSw
         go_simp <;> with_reducible rfl
        try simp only [Act.put, sq]
        refine tkq (v := ?_) 9 rfl ?_ ?_
        rotate_left
        ·intro w' hSw
         go_simp <;> with_reducible rfl
        try simp only [Act.put, sq]
        have z0 := U5.out.c0
        have z1 := U5.out.c1
        have zf := U5.out.frozen
        have zl : wd.heap.size < w5.heap.size := U5.out.lt
        have UP := hide (fyV_B (c := cy) BD.out za.out HB5.out B5.out U5.out HSY.out HCY.out)
        refine rdq 11 rfl fun K hK => ?_
        go_simp
        refine hK.out _ _ (by exact UP.out.1) (fun hHeld => ?_)
        clear hK K
        try simp only [Act.put, sq]
        refine tkq (v := ?_) 12 rfl ?_ ?_
        rotate_left
        ·intro w' hSw
         go_simp <;> with_reducible rfl
        try simp only [Act.put, sq]
        refine tkq (v := ?_) 13 rfl ?_ ?_
        rotate_left
        ·intro w' hSw
         go_simp <;> with_reducible rfl
        try simp only [Act.put, sq]
        refine wpAnyH_done (by kernel_rfl) ?_ _
        go_wp2_with fail
        go_meet
        exact UP.out.2
      obtain ⟨U, y, ay, cy, ok, full, rfl, rfl, rfl, hU, hkU, hsU, hbU, hcU⟩ := hcut
      have KU := hide hkU
      have SU : Hid (Sl wc (fun b => Y b ∧ b ≠ U) ay y.args) := hsU.mono fun b hb _ => ⟨by
       rcases hb.1 with h | h
       ·exact h
       ·exact HNY.out b (by omega), hb.2⟩
      have BU := hide (BBr.out.trans (hbU.mono BBr.out.size))
      have XBc := hide (XB.out.below hbU XB.out.lt)
      have TBc := hide (TBr.out.below hbU TBr.out.lt)
      have RBc := hide (RBr.out.below hbU RBr.out.lt)
      have hzc2 := hbU.size
      clear hkU hsU hbU
      rcases hcU with ⟨hf0, rfl, rfl⟩ | ⟨z2, hf0, rfl, hfull, hyz⟩
      ·have HN2 : Hid (fstT (rs.take (k + 1)) x = none) := HNX.out.1.trans hf0
       clear hf0
       go_wp2_with fail
       go_roundw
       case rel => exact ⟨k + 1, by omega, by go_num, HN2.out, XBc.out, TBc.out, RBc.out, BU.out⟩
       case measure => simp [intOf]; omega
      ·have hzz : z = z2 := by
        have h1 := HNX.out.2 z2 hf0
        rw [HF.out] at h1
        exact Option.some.inj h1
       subst hzz
       clear hf0
       have BW := hide (BB.out.trans (BU.out.mono BB.out.size))
       cases full with
       | true =>
        have HG : Hid (2000 < sizeL [putT z p tc]) := Nat.lt_of_lt_of_le (hfull.1 rfl) (put_ge z p tc x HX.out)
        have HEP : Hid (endP rs inner m t = (8, ⟨⟨#[]⟩, []⟩, 0)) := by
         unfold Hid
         have e1 : m - j = (m - (j + 1)) + 1 := by omega
         rw [HEN.out, e1, endP_full HNT.out HG.out]
         exact shiftN_err _ _ (by decide)
        clear hfull hyz
        have r0 := RBc.out.c0
        have r1 := RBc.out.c1
        have rf := RBc.out.frozen
        go_wp2_with fail
        refine bodyPost_ret (v := .tuple #[.agg #[.string ⟨#[]⟩, .slice none 0 0], .int .i64 0, .int .i64 8]) (by simp [results, Tryz.results22, go_sem, World.cell?_setCell_same, World.cell?_setCell_other, r0, r1]) rfl ?_
        exact ⟨(BW.out.setCell (by simp) _).setCell (by simp) _, ⟨⟨#[]⟩, []⟩, none, 0, 0, 8, rfl, HEP.out, ⟨by simp, Or.inl rfl⟩⟩
       | false =>
        have hyz' := hyz rfl
        subst hyz'
        clear hfull hyz
        have t0 := TBc.out.c0
        have t1 := TBc.out.c1
        have u0 := KU.out.c0
        have u1 : wc.cell? ⟨U, 1, none⟩ = some (.slice ay y.args.length cy) := KU.out.cell 1
        go_wp2_with fail
        refine (putOf_any y p tc _ _ _ wc Y ⟨a, c, rfl, SB.out.later BU.out⟩ (PB.out.later BU.out) ⟨ay, cy, rfl, SU.out.mono fun b hb _ => hb.1⟩ (by have := HZC.out; omega)).mono ?_
        rintro e w6 ⟨v6, rfl, ⟨a6, c6, rfl, hs6⟩, hb6⟩
        have S6 : Hid (Sl w6 Y a6 (putT y p tc).args) := hs6.mono fun b hb _ => by
         rcases hb with h | h
         ·exact h
         ·exact HNY.out b (by omega)
        have T6 := hide (TBc.out.below hb6 TBc.out.lt)
        have R6 := hide (RBc.out.below hb6 RBc.out.lt)
        have B6 := hide (BW.out.trans (hb6.mono BW.out.size))
        have hz6 := hb6.size
        clear hs6 hb6 t0 t1 u0 u1
        obtain ⟨tn, htn⟩ : ∃ tn, tn = putT y p tc := ⟨_, rfl⟩
        rw [← htn] at S6 HNT
        rw [← htn]
        clear htn
        have t0 := T6.out.c0
        have t1 := T6.out.c1
        have tf := T6.out.frozen
        have tl := T6.out.lt
        have TF : Hid (Blk ((w6.setCell ⟨w.heap.size, 0, none⟩ (.string tn.name)).setCell ⟨w.heap.size, 1, none⟩ (.slice a6 tn.args.length c6)) w.heap.size #[.string tn.name, .slice a6 tn.args.length c6] 27) := (T6.out.set 0 _).set 1 _
        have RF : Hid (Blk ((w6.setCell ⟨w.heap.size, 0, none⟩ (.string tn.name)).setCell ⟨w.heap.size, 1, none⟩ (.slice a6 tn.args.length c6)) (w.heap.size + 1) #[.string ⟨#[]⟩, .slice none 0 0] 27) := (R6.out.setOther _ _ (by omega)).setOther _ _ (by omega)
        have SF : Hid (Sl ((w6.setCell ⟨w.heap.size, 0, none⟩ (.string tn.name)).setCell ⟨w.heap.size, 1, none⟩ (.slice a6 tn.args.length c6)) Y a6 tn.args) := S6.out.kept fun b hb => by
         have := (HYN.out b hb).1
         rw [Below.heap_setCell _ _ _ _ (by simpa using this), Below.heap_setCell _ _ _ _ (by simpa using this)]
        have BF : Hid (Below w.heap.size w ((w6.setCell ⟨w.heap.size, 0, none⟩ (.string tn.name)).setCell ⟨w.heap.size, 1, none⟩ (.slice a6 tn.args.length c6))) := (B6.out.setCell (by simp) _).setCell (by simp) _
        have ZF : Hid (((w6.setCell ⟨w.heap.size, 0, none⟩ (.string tn.name)).setCell ⟨w.heap.size, 1, none⟩ (.slice a6 tn.args.length c6)).heap.size = w6.heap.size) := by simp [Hid, World.setCell]
        go_wp2_with fail
        generalize ((w6.setCell ⟨w.heap.size, 0, none⟩ (.string tn.name)).setCell ⟨w.heap.size, 1, none⟩ (.slice a6 tn.args.length c6)) = wf at *
        clear t0 t1 tf tl
        refine (size_any tn _ 2000 wf Y ⟨a6, c6, rfl, SF.out⟩ (by decide) (by decide)).mono ?_
        rintro e w7 ⟨rfl, hb7⟩
        have T7 := hide (TF.out.below hb7 TF.out.lt)
        have R7 := hide (RF.out.below hb7 RF.out.lt)
        have S7 := hide (SF.out.later hb7)
        have B7 := hide (BF.out.trans (hb7.mono BF.out.size))
        have hz7 : w.heap.size + 2 ≤ w7.heap.size := by have := hb7.size; have := ZF.out; omega
        clear hb7 TF RF SF BF
        by_cases hg : 2000 < sizeL [tn]
        ·have hmn : min (sizeL [tn] : Int) (2000 + 1) = 2001 := by omega
         rw [hmn]
         have HEP : Hid (endP rs inner m t = (8, ⟨⟨#[]⟩, []⟩, 0)) := by
          unfold Hid
          have e1 : m - j = (m - (j + 1)) + 1 := by omega
          rw [HEN.out, e1, endP_full HNT.out hg]
          exact shiftN_err _ _ (by decide)
         clear hg hmn
         have r0 := R7.out.c0
         have r1 := R7.out.c1
         have rf := R7.out.frozen
         go_wp2_with fail
         refine bodyPost_ret (v := .tuple #[.agg #[.string ⟨#[]⟩, .slice none 0 0], .int .i64 0, .int .i64 8]) (by simp [results, Tryz.results22, go_sem, World.cell?_setCell_same, World.cell?_setCell_other, r0, r1]) rfl ?_
         exact ⟨(B7.out.setCell (by simp) _).setCell (by simp) _, ⟨⟨#[]⟩, []⟩, none, 0, 0, 8, rfl, HEP.out, ⟨by simp, Or.inl rfl⟩⟩
        ·have hmn : min (sizeL [tn] : Int) (2000 + 1) = (sizeL [tn] : Int) := by omega
         rw [hmn]
         have hle : ¬ (2000 : Int) < (sizeL [tn] : Int) := by omega
         have HG : Hid (sizeL [tn] ≤ 2000) := by unfold Hid; omega
         have HEQ : Hid (endP rs inner m t = shiftN (j + 1) (endP rs inner (m - (j + 1)) tn)) := by
          unfold Hid
          have e1 : m - j = (m - (j + 1)) + 1 := by omega
          rw [HEN.out, e1, endP_step HNT.out HG.out, shiftN_add, Nat.add_comm 1 j]
         clear hg hmn
         go_wp2_with fail
         go_roundw
         case rel => exact ⟨j + 1, tn, a6, c6, by omega, by go_num, HEQ.out, HG.out, T7.out, S7.out, R7.out, B7.out, hz7⟩
         case measure => simp [intOf]; omega
     ·have htk : rs.take k = rs := List.take_of_length_le (by omega)
      have h1 := HFN.out
      rw [htk, HF.out] at h1
      cases h1
end Go.Proofs.YtmkendjmfdaedaaGreat
