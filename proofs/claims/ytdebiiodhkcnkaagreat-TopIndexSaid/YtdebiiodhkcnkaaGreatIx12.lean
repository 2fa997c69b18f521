import Derived.Test.YtdebiiodhkcnkaaGreatZTopIndexOwn
import Derived.Test.YtdebiiodhkcnkaaGreatZCTopIndexOwn
import Derived.Test.YtdebiiodhkcnkaaGreatW114
import Derived.Test.YtdebiiodhkcnkaaGreatW96a
namespace Go.Proofs.YtdebiiodhkcnkaaGreat
open Go.RowKit
set_option linter.unusedSimpArgs false
set_option linter.unusedVariables false
set_option maxRecDepth 8000
def UnOk (x t : Tm) : Prop := ∃ g R, uRun true g [] [⟨x, t⟩] = some R ∧ R.1 = 0
theorem pairsE1 {x t : Tm} (hx : mayE x = 0) (ht : mayE t = 0) : pairsE [⟨x, t⟩] = 0 := by
 unfold pairsE
 rw [if_neg (by simp)]
 simp [pmT, twoE, hx, ht]
def Un1 (x t : Tm) (w : World) (e : Ending) (w' : World) : Prop := ∃ v c, e = .returned (.tuple #[v, .int .i64 c]) ∧ (c = 0 ↔ UnOk x t) ∧ Below w.heap.size w w'
theorem unify1_any {x t : Tm} (hx : mayE x = 0) (ht : mayE t = 0) (u : Value) (w : World) (X : Nat → Prop) (hu : QV w X u [⟨x, t⟩]) : Calls Tryz.prog 15 #[u] w fun e w' => Un1 x t w e w' := by
 have hp := pairsE1 hx ht
 obtain ⟨g, R, R', hR, hR', hg8, hgs⟩ := two_runs hp
 have hok : UnOk x t ↔ R'.1 = 0 := ⟨fun ⟨g2, R2, h1, h2⟩ => by rw [uRun_det _ _ _ _ _ _ hR' h1]; exact h2, fun h => ⟨g, R', hR', h⟩⟩
 cases hg : grtB R.2 with
 | true =>
  refine (unify_great _ hp R g hR hg u w X hu).mono ?_
  rintro e w' ⟨rfl, hb⟩
  exact ⟨_, 8, rfl, by rw [hok, hg8 hg], hb⟩
 | false =>
  by_cases h0 : R.1 = 0
  ·refine (unify_some _ hp R g hR hg h0 u w X hu).mono ?_
   rintro e w' ⟨v, rfl, _, hb⟩
   exact ⟨v, 0, rfl, by rw [hok, hgs hg, h0], hb⟩
  ·refine (unify_none _ hp R g hR hg h0 u w X hu).mono ?_
   rintro e w' ⟨rfl, hb⟩
   exact ⟨_, R.1, rfl, by rw [hok, hgs hg], hb⟩
def MetP (k : Nat) (x t : Tm) : Prop := if k = 0 then mtB x t = true else if k = 1 then mtB t x = true else UnOk x t
def IsM (k : Nat) (x t : Tm) (w : World) (e : Ending) (w' : World) : Prop := ∃ b : Bool, e = .returned (.bool b) ∧ (b = true ↔ MetP k x t) ∧ Below w.heap.size w w'
theorem qvOneI {w : World} {B T : Nat} {l r : Tm} {a1 a2 : Option Addr} {c1 c2 : Nat} (h : Blk w B #[.string l.name, .slice a1 l.args.length c1, .string r.name, .slice a2 r.args.length c2] T) (h1 : Sl w (fun _ => True) a1 l.args) (h2 : Sl w (fun _ => True) a2 r.args) : QV w (fun _ => True) (.slice (some ⟨B, 0, none⟩) 1 1) [⟨l, r⟩] := by
 refine ⟨_, _, rfl, ⟨by simp, by simp⟩, Or.inr ⟨B, 0, rfl, trivial, fun i hi => ?_⟩⟩
 have hi0 : i = 0 := by simpa using hi
 subst hi0
 exact ⟨a1, c1, a2, c2, by simpa using h.cell 0, by simpa using h.cell 1, by simpa using h.cell 2, by simpa using h.cell 3, h1, h2⟩
set_option maxHeartbeats 2000000 in
theorem isMet_any (k : Nat) (hk : k ≤ 2) {x t : Tm} (hx : mayE x = 0) (ht : mayE t = 0) (xa ta : Option Addr) (xc tc : Nat) (w : World) (hsx : Sl w (fun _ => True) xa x.args) (hst : Sl w (fun _ => True) ta t.args) :
  Calls Tryz.prog 48 #[.int .i64 (k : Int), .agg #[.string x.name, .slice xa x.args.length xc], .agg #[.string t.name, .slice ta t.args.length tc]] w fun e w' => IsM k x t w e w' := by
 have B2 : Hid (Below w.heap.size w ((w.alloc (.cells #[.string x.name, .slice xa x.args.length xc] 26)).alloc (.cells #[.string t.name, .slice ta t.args.length tc] 26))) := ((Below.refl _ _).alloc (Nat.le_refl _) _).alloc (by simp) _
 have HX : Hid (TV ((w.alloc (.cells #[.string x.name, .slice xa x.args.length xc] 26)).alloc (.cells #[.string t.name, .slice ta t.args.length tc] 26)) (fun _ => True) (.agg #[.string x.name, .slice xa x.args.length xc]) x) := ⟨xa, xc, rfl, hsx.later B2.out⟩
 have HT : Hid (TV ((w.alloc (.cells #[.string x.name, .slice xa x.args.length xc] 26)).alloc (.cells #[.string t.name, .slice ta t.args.length tc] 26)) (fun _ => True) (.agg #[.string t.name, .slice ta t.args.length tc]) t) := ⟨ta, tc, rfl, hst.later B2.out⟩
 have hMx := hide hx
 have hMt := hide ht
 clear hx ht hsx hst
 match k, hk with
 | 0, _ =>
  go_enter Tryz.func48, Tryz.ntmps48
  go_wp2_with fail
  refine (fit_b x t _ _ _ _ HX.out HT.out).mono ?_
  rintro e w3 ⟨v, rfl, hb3⟩
  have HB3 := hide (B2.out.trans (hb3.mono B2.out.size))
  clear hb3
  go_wp2_with fail
  go_ret
  exact ⟨mtB x t, rfl, by simp [MetP], HB3.out⟩
 | 1, _ =>
  go_enter Tryz.func48, Tryz.ntmps48
  go_wp2_with fail
  refine (fit_b t x _ _ _ _ HT.out HX.out).mono ?_
  rintro e w3 ⟨v, rfl, hb3⟩
  have HB3 := hide (B2.out.trans (hb3.mono B2.out.size))
  clear hb3
  go_wp2_with fail
  go_ret
  exact ⟨mtB t x, rfl, by simp [MetP], HB3.out⟩
 | 2, _ =>
  go_enter Tryz.func48, Tryz.ntmps48
  go_upto_region 8 with fail
  have P1 : Hid (Blk ((w.alloc (.cells #[.string x.name, .slice xa x.args.length xc] 26)).alloc (.cells #[.string t.name, .slice ta t.args.length tc] 26)) w.heap.size #[.string x.name, .slice xa x.args.length xc] 26) := (Blk.new _ _ _).alloc _
  have P2 : Hid (Blk ((w.alloc (.cells #[.string x.name, .slice xa x.args.length xc] 26)).alloc (.cells #[.string t.name, .slice ta t.args.length tc] 26)) (w.heap.size + 1) #[.string t.name, .slice ta t.args.length tc] 26) := by
   have h := Blk.new (w.alloc (.cells #[.string x.name, .slice xa x.args.length xc] 26)) #[.string t.name, .slice ta t.args.length tc] 26
   rw [World.size_alloc] at h
   exact h
  generalize ((w.alloc (.cells #[.string x.name, .slice xa x.args.length xc] 26)).alloc (.cells #[.string t.name, .slice ta t.args.length tc] 26)) = w2 at *
  have a0 := P1.out.c0
  have a1 := P1.out.c1
  have b0 := P2.out.c0
  have b1 := P2.out.c1
  have HSX : Hid (Sl w2 (fun _ => True) xa x.args) := by obtain ⟨a, c, e, h⟩ := HX.out; simp at e; obtain ⟨⟨rfl, rfl⟩⟩ := e; exact h
  have HST : Hid (Sl w2 (fun _ => True) ta t.args) := by obtain ⟨a, c, e, h⟩ := HT.out; simp at e; obtain ⟨⟨rfl, rfl⟩⟩ := e; exact h
  have B3 : Hid (Below w2.heap.size w2 (w2.alloc (.cells #[.string x.name, .slice xa x.args.length xc, .string t.name, .slice ta t.args.length tc] 45))) := (Below.refl _ _).alloc (Nat.le_refl _) _
  have HQ : Hid (QV (w2.alloc (.cells #[.string x.name, .slice xa x.args.length xc, .string t.name, .slice ta t.args.length tc] 45)) (fun _ => True) (.slice (some ⟨w2.heap.size, 0, none⟩) 1 1) [⟨x, t⟩]) := qvOneI (Blk.new _ _ _) (HSX.out.later B3.out) (HST.out.later B3.out)
  go_wp2_with fail
  refine (unify1_any hMx.out hMt.out _ _ _ HQ.out).mono ?_
  rintro e w4 ⟨v, c, rfl, hc, hb4⟩
  have HCI := hide hc
  have HB4 := hide (B2.out.trans ((B3.out.trans (hb4.mono B3.out.size)).mono B2.out.size))
  clear hc hb4 a0 a1 b0 b1
  go_wp2_with fail
  go_ret
  exact ⟨c == 0, rfl, by rw [beq_iff_eq]; simpa [MetP] using HCI.out, HB4.out⟩
def CloP (met : Bool) (w : World) (e : Ending) (w' : World) : Prop := e = .returned (.bool (!met)) ∧ Below w.heap.size w w'
set_option maxHeartbeats 2000000 in
theorem ask1_any (k : Nat) (hk : k ≤ 2) {t : Tm} {ts : List Tm} (ht : mayE t = 0) (hts : ∀ x ∈ ts, mayE x = 0) (met : Bool) (n : Nat) (hn : n < ts.length) (hm : met = true ↔ MetP k ts[n] t) (B3 B4 B5 X : Nat) (a ta : Option Addr) (c tc : Nat) (m1 m2 : Value) (w : World)
  (h3 : Blk w B3 #[.pointer (some ⟨X, 0, none⟩)] 32) (h4 : Blk w B4 #[.int .i64 (k : Int)] 65) (h5 : Blk w B5 #[.string t.name, .slice ta t.args.length tc] 26) (hX : Blk w X #[.slice a ts.length c, m1, m2] 59) (hs : Sl w (fun _ => True) a ts) (hst : Sl w (fun _ => True) ta t.args) :
  Calls Tryz.prog 47 #[.int .i64 (n : Int), .pointer (some ⟨B4, 0, none⟩), .pointer (some ⟨B3, 0, none⟩), .pointer (some ⟨B5, 0, none⟩)] w fun e w' => CloP met w e w' := by
 obtain ⟨b, o, a', c', rfl, d0, d1, hx⟩ := hs.get (Below.refl w.heap.size w) (fun _ _ h => h) n hn
 have hll := hs.1
 have hni : (n : Int) < (ts.length : Int) := by omega
 have HBX : Hid (b < w.heap.size) := World.block_lt_of_cell? w _ d0
 have HSX : Hid (Sl w (fun _ => True) a' ts[n].args) := by
  have h1 : TV w (fun _ => True) (.agg #[.string ts[n].name, .slice a' ts[n].args.length c']) ts[n] := hx
  obtain ⟨a9, c9, e9, h9⟩ := h1
  simp at e9; obtain ⟨⟨rfl, rfl⟩⟩ := e9; exact h9
 have HS : Hid (∀ w', Below w.heap.size w w' → w'.cell? ⟨B4, 0, none⟩ = some (.int .i64 (k : Int)) ∧ w'.cell? ⟨B3, 0, none⟩ = some (.pointer (some ⟨X, 0, none⟩)) ∧ w'.cell? ⟨X, 0, none⟩ = some (.slice (some ⟨b, o, none⟩) ts.length c) ∧ w'.cell? ⟨b, o + n * 2, none⟩ = some (.string ts[n].name) ∧ w'.cell? ⟨b, o + n * 2 + 1, none⟩ = some (.slice a' ts[n].args.length c') ∧ w'.cell? ⟨B5, 0, none⟩ = some (.string t.name) ∧ w'.cell? ⟨B5, 1, none⟩ = some (.slice ta t.args.length tc)) := fun w' hb =>
  ⟨(h4.below hb h4.lt).c0, (h3.below hb h3.lt).c0, (hX.below hb hX.lt).c0, (hb.cell (p := ⟨b, o + n * 2, none⟩) HBX.out).trans d0, (hb.cell (p := ⟨b, o + n * 2 + 1, none⟩) HBX.out).trans d1, (h5.below hb h5.lt).c0, (h5.below hb h5.lt).c1⟩
 have CM := hide (isMet_any k hk (hts _ (List.getElem_mem hn)) ht a' ta c' tc w.drew (HSX.out.later (Below.refl _ _).drew) (hst.later (Below.refl _ _).drew))
 have HM := hide hm
 clear h3 h4 h5 hX hs hst hx d0 d1 hm
 go_enter Tryz.func47, Tryz.ntmps47
 go_upto_region 1 with fail
 refine wp_region_held_drew (S := fun w' => w'.cell? ⟨B4, 0, none⟩ = some (.int .i64 (k : Int)) ∧ w'.cell? ⟨B3, 0, none⟩ = some (.pointer (some ⟨X, 0, none⟩)) ∧ w'.cell? ⟨X, 0, none⟩ = some (.slice (some ⟨b, o, none⟩) ts.length c) ∧ w'.cell? ⟨b, o + n * 2, none⟩ = some (.string ts[n].name) ∧ w'.cell? ⟨b, o + n * 2 + 1, none⟩ = some (.slice a' ts[n].args.length c') ∧ w'.cell? ⟨B5, 0, none⟩ = some (.string t.name) ∧ w'.cell? ⟨B5, 1, none⟩ = some (.slice ta t.args.length tc)) (by kernel_rfl) (by exact HS.out _ (Below.refl _ _).drew) (fun hHeld => ?_)
 refine tkq (v := ?_) 0 rfl ?_ ?_
 rotate_left
 ·intro w' hSw
  obtain ⟨x0, x1, x2, x3, x4, x5, x6⟩ := hSw
  go_simp <;> with_reducible rfl
 try simp only [Act.put, sq]
 refine tkq (v := ?_) 1 rfl ?_ ?_
 rotate_left
 ·intro w' hSw
  obtain ⟨x0, x1, x2, x3, x4, x5, x6⟩ := hSw
  go_simp <;> with_reducible rfl
 try simp only [Act.put, sq]
 refine tkq (v := ?_) 2 rfl ?_ ?_
 rotate_left
 ·intro w' hSw
  obtain ⟨x0, x1, x2, x3, x4, x5, x6⟩ := hSw
  go_simp <;> with_reducible rfl
 try simp only [Act.put, sq]
 refine tkq (v := ?_) 3 rfl ?_ ?_
 rotate_left
 ·intro w' hSw
  obtain ⟨x0, x1, x2, x3, x4, x5, x6⟩ := hSw
  go_simp <;> with_reducible rfl
 try simp only [Act.put, sq]
 refine tkq (v := ?_) 4 rfl ?_ ?_
 rotate_left
 ·intro w' hSw
  obtain ⟨x0, x1, x2, x3, x4, x5, x6⟩ := hSw
  go_simp <;> with_reducible rfl
 try simp only [Act.put, sq]
 refine tkq (v := ?_) 5 rfl ?_ ?_
 rotate_left
 ·intro w' hSw
  obtain ⟨x0, x1, x2, x3, x4, x5, x6⟩ := hSw
  go_simp <;> with_reducible rfl
 try simp only [Act.put, sq]
 refine tkq (v := ?_) 6 rfl ?_ ?_
 rotate_left
 ·intro w' hSw
  obtain ⟨x0, x1, x2, x3, x4, x5, x6⟩ := hSw
  go_simp <;> with_reducible rfl
 try simp only [Act.put, sq]
 refine tkq (v := ?_) 7 rfl ?_ ?_
 rotate_left
 ·intro w' hSw
  obtain ⟨x0, x1, x2, x3, x4, x5, x6⟩ := hSw
  go_simp <;> with_reducible rfl
 try simp only [Act.put, sq]
 refine tkq (v := ?_) 8 rfl ?_ ?_
 rotate_left
 ·intro w' hSw
  obtain ⟨x0, x1, x2, x3, x4, x5, x6⟩ := hSw
  go_simp <;> with_reducible rfl
 try simp only [Act.put, sq]
 refine rdq 9 rfl fun K hK => ?_
 go_simp
 go_at_call 48
 refine CM.out.mono ?_
 rintro e w2 ⟨bb, rfl, hbm, hb2⟩
 have HB2 : Hid (Below w.heap.size w w2) := (Below.refl _ _).drew.trans hb2
 have HBM : Hid (bb = met) := by unfold Hid; rw [Bool.eq_iff_iff, hbm, HM.out]
 clear hbm hb2
 go_simp
 refine hK.out _ _ (by exact HS.out _ HB2.out) (fun hHeld => ?_)
 clear hK K
 try simp only [Act.put, sq]
 refine tkq (v := ?_) 10 rfl ?_ ?_
 rotate_left
 ·intro w' hSw
  obtain ⟨x0, x1, x2, x3, x4, x5, x6⟩ := hSw
  go_simp <;> with_reducible rfl
 try simp only [Act.put, sq]
 refine tkq (v := ?_) 11 rfl ?_ ?_
 rotate_left
 ·intro w' hSw
  obtain ⟨x0, x1, x2, x3, x4, x5, x6⟩ := hSw
  go_simp <;> with_reducible rfl
 try simp only [Act.put, sq]
 refine wpAnyH_done (by kernel_rfl) ?_ _
 go_wp2_with fail
 go_ret
 exact ⟨by rw [← HBM.out]; rfl, HB2.out⟩
end Go.Proofs.YtdebiiodhkcnkaaGreat
