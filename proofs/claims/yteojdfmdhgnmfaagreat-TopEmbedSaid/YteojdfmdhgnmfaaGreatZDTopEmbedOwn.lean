/- Several texts in one. -/
import Derived.Test.YteojdfmdhgnmfaaGreatZCTopEmbedOwn
import Derived.Test.YteojdfmdhgnmfaaGreatZBTopEmbedOwn
import Derived.Deep.RegionHeld
import Derived.Deep.RegionHeld3
import Derived.Deep.DeepCutAuto
import Derived.Test.YteojdfmdhgnmfaaGreatZTopEmbedOwn
import Derived.Laws.EntriesVeiled
/- Walks: the law on terms in which a knot gives way: it answers true. -/
namespace Go.Proofs.YteojdfmdhgnmfaaGreat
open Go.RowKit
set_option linter.unusedSimpArgs false
set_option linter.unusedVariables false
set_option maxRecDepth 8000

theorem len_size : ∀ l : List Tm, l.length ≤ sizeL l
  | [] => by simp
  | ⟨s, a⟩ :: r => by
    have := len_size r
    simp only [List.length_cons, sizeL]
    omega
theorem kid_size {y : Tm} {k : Nat} (h : k < y.args.length) : sizeL [y.args[k]] ≤ sizeL [y] := by
  have h1 := sizeL_take y.args k h
  have h2 := sizeL_take_le y.args (k + 1)
  have h3 : sizeL [y] = 1 + sizeL y.args := by obtain ⟨s, l⟩ := y; exact size_one
  omega
theorem PV.ev {w : World} {X : Nat → Prop} {v : Value} {l : List Int} (h : PV w X v l) : Evr (fun w => PV w (fun _ => True) v l) w := fun w' hb => (h.later hb).mono fun _ _ _ => trivial
theorem evCell {w : World} {b i : Nat} {v : Value} (hlt : b < w.heap.size) (h : w.cell? ⟨b, i, none⟩ = some v) : Evr (fun w => w.cell? ⟨b, i, none⟩ = some v) w := fun w' hb => (hb.cell (p := ⟨b, i, none⟩) hlt).trans h
/-- A term in a box, what stands at a place of it in another, and those below that. -/
structure EmS (t y : Tm) (aa ay : Option Addr) (pz : List Int) (pv : Value) (ca cy P PX ba oa : Nat) (az : Nat → Option Addr) (cz : Nat → Nat) (w wr : World) : Prop where
  k1 : Blk wr P #[.string t.name, .slice aa t.args.length ca] 25
  s1 : Sl wr (fun _ => True) aa t.args
  pv : PV wr (fun _ => True) pv pz
  k2 : Blk wr PX #[.string y.name, .slice ay y.args.length cy] 25
  kid : ∀ k (h : k < y.args.length), wr.cell? ⟨ba, oa + k * 2, none⟩ = some (.string y.args[k].name) ∧ wr.cell? ⟨ba, oa + k * 2 + 1, none⟩ = some (.slice (az k) y.args[k].args.length (cz k)) ∧ Sl wr (fun _ => True) (az k) y.args[k].args
  bl : Below w.heap.size w wr
/-- The kids of a term, once and for all. -/
theorem kids_ev {w : World} {y : Tm} {ay : Option Addr} (h : Sl w (fun _ => True) ay y.args) (h0 : 0 < y.args.length) : ∃ (ba oa : Nat) (az : Nat → Option Addr) (cz : Nat → Nat), ay = some ⟨ba, oa, none⟩ ∧ Evr (fun wr => ∀ k (h : k < y.args.length), wr.cell? ⟨ba, oa + k * 2, none⟩ = some (.string y.args[k].name) ∧ wr.cell? ⟨ba, oa + k * 2 + 1, none⟩ = some (.slice (az k) y.args[k].args.length (cz k)) ∧ Sl wr (fun _ => True) (az k) y.args[k].args) w := by
  obtain ⟨hl, he⟩ := h
  obtain ⟨ba, oa, rfl, hlies⟩ := he.resolve_left (fun e => by rw [e] at h0; simp at h0)
  have hlt : ba < w.heap.size := by
    have h1 := (lies_get _ _ _ hlies 0 h0).2.1
    apply Classical.byContradiction
    intro hn
    have e : w.heap[ba]? = none := Array.getElem?_eq_none (by omega)
    simp [World.cell?, e] at h1
  have hch : ∀ k : Nat, ∃ (q : Option Addr × Nat), ∀ h : k < y.args.length, w.cell? ⟨ba, oa + k * 2, none⟩ = some (.string y.args[k].name) ∧ w.cell? ⟨ba, oa + k * 2 + 1, none⟩ = some (.slice q.1 y.args[k].args.length q.2) ∧ Sl w (fun _ => True) q.1 y.args[k].args := fun k => by
    by_cases hk : k < y.args.length
    · obtain ⟨_, h1, a, c, h2, h3⟩ := lies_get _ _ _ hlies k hk
      exact ⟨(a, c), fun _ => ⟨h1, h2, h3⟩⟩
    · exact ⟨(none, 0), fun h => absurd h hk⟩
  obtain ⟨q, hq⟩ := Classical.skolem.1 hch
  exact ⟨ba, oa, fun k => (q k).1, fun k => (q k).2, rfl, fun w' hb k h => ⟨evCell hlt (hq k h).1 w' hb, evCell hlt (hq k h).2.1 w' hb, (hq k h).2.2.ev w' hb⟩⟩
/-- What came out, in a box. -/
def EmbW (S : World → Prop) (t y : Tm) (pz : List Int) (o e : Value) (wc : World) : Prop := ∃ (k : Nat) (h : k < y.args.length) (U : Nat) (au : Option Addr) (cu : Nat), o = .pointer (some ⟨U, 0, none⟩) ∧ e = .int .i64 0 ∧ Evr (fun wr => S wr ∧ Blk wr U #[.string (putT y.args[k] pz t).name, .slice au (putT y.args[k] pz t).args.length cu] 25 ∧ Sl wr (fun _ => True) au (putT y.args[k] pz t).args) wc
theorem emb_endA {S : World → Prop} {w : World} {t y : Tm} {pz : List Int} {k : Nat} (hk : k < y.args.length) {X : Nat → Prop} {au : Option Addr} {cu : Nat} (A : Evr S w) (hs : Sl w X au (putT y.args[k] pz t).args) : EmbW S t y pz (.pointer (some ⟨w.heap.size, 0, none⟩)) (.int .i64 0) (w.alloc (.cells #[.string (putT y.args[k] pz t).name, .slice au (putT y.args[k] pz t).args.length cu] 25)) :=
  ⟨k, hk, w.heap.size, au, cu, rfl, rfl, (A.alloc _).and ((Blk.new w _ _).ev.and (hs.ev.alloc _))⟩
theorem emb_endB {S : World → Prop} {w w1 : World} {t y : Tm} {pz : List Int} {k : Nat} (hk : k < y.args.length) {au : Option Addr} {cu : Nat} (A : Evr S w) (hb : Below w.heap.size w w1) (hB : Blk w1 w.heap.size #[.string ⟨#[]⟩, .slice none 0 0] 25) (hs : Sl w1 (fun b => w.heap.size + 1 ≤ b) au (putT y.args[k] pz t).args) :
    Evr S ((w1.setCell ⟨w.heap.size, 0, none⟩ (.string (putT y.args[k] pz t).name)).setCell ⟨w.heap.size, 1, none⟩ (.slice au (putT y.args[k] pz t).args.length cu)) ∧ EmbW S t y pz (.pointer (some ⟨w.heap.size, 0, none⟩)) (.int .i64 0) ((w1.setCell ⟨w.heap.size, 0, none⟩ (.string (putT y.args[k] pz t).name)).setCell ⟨w.heap.size, 1, none⟩ (.slice au (putT y.args[k] pz t).args.length cu)) := by
  have A2 := A.later ((hb.setCell (p := ⟨w.heap.size, 0, none⟩) (by simp) (.string (putT y.args[k] pz t).name)).setCell (p := ⟨w.heap.size, 1, none⟩) (by simp) (.slice au (putT y.args[k] pz t).args.length cu))
  have hs2 : Sl ((w1.setCell ⟨w.heap.size, 0, none⟩ (.string (putT y.args[k] pz t).name)).setCell ⟨w.heap.size, 1, none⟩ (.slice au (putT y.args[k] pz t).args.length cu)) (fun b => w.heap.size + 1 ≤ b) au (putT y.args[k] pz t).args := hs.kept fun b hb => by
    rw [Below.heap_setCell _ _ _ _ (by simp; omega), Below.heap_setCell _ _ _ _ (by simp; omega)]
  exact ⟨A2, k, hk, w.heap.size, au, cu, rfl, rfl, A2.and (((hB.set 0 (.string (putT y.args[k] pz t).name)).set 1 (.slice au (putT y.args[k] pz t).args.length cu)).ev.and hs2.ev)⟩
theorem put_good {t z y : Tm} {pz : List Int} (ht : mayE t = 0) (hz : mayE z = 0) (hy : atT t pz = some y) (v p u : Value) (w : World) (hv : TV w (fun _ => True) v t) (hp : PV w (fun _ => True) p pz) (hu : TV w (fun _ => True) u z) :
    Calls Tryz.prog 9 #[v, p, u] w fun e w' => ∃ (au : Option Addr) (cu : Nat), e = .returned (.tuple #[.agg #[.string (putT z pz t).name, .slice au (putT z pz t).args.length cu], .int .i64 0]) ∧ Sl w' (fun b => w.heap.size ≤ b) au (putT z pz t).args ∧ Below w.heap.size w w' := by
  have hE : putE t pz z = 0 := by unfold putE twoE; rw [if_pos ht, hz, if_pos rfl, hy]; rfl
  refine (put_any t z pz v p u w _ hv hp hu).mono ?_
  rintro e w' ⟨v', rfl, hyes, _, hb⟩
  obtain ⟨a, c, rfl, hs⟩ := hyes hE
  rw [hE]
  exact ⟨a, c, rfl, hs, hb⟩
theorem at_good {t y : Tm} {pz : List Int} (ht : mayE t = 0) (hy : atT t pz = some y) (v p : Value) (w : World) (hv : TV w (fun _ => True) v t) (hp : PV w (fun _ => True) p pz) :
    Calls Tryz.prog 7 #[v, p] w fun e w' => ∃ (ay : Option Addr) (cy : Nat), e = .returned (.tuple #[.agg #[.string y.name, .slice ay y.args.length cy], .int .i64 0]) ∧ Sl w' (fun b => w.heap.size ≤ b) ay y.args ∧ Below w.heap.size w w' := by
  have hE : atE t pz = 0 := by unfold atE; rw [if_pos ht, hy]; rfl
  refine (at_any t pz v p w _ hv hp).mono ?_
  rintro e w' ⟨v', rfl, hyes, _, hb⟩
  obtain ⟨a, c, rfl, hs⟩ := hyes y ht hy
  rw [hE]
  exact ⟨a, c, rfl, hs, hb⟩

set_option maxHeartbeats 20000000 in
theorem topEmbed_any (FA : Hid (∀ w, Calls Tryz.prog 8 #[] w fun e w' => e = .returned (.bool true) ∧ Below w.heap.size w w')) (zs : List Int) (hr : ∀ z ∈ zs, Rng z) (y1 y2 y3 y4 : Int) (hy1 : Rng y1) (hy2 : Rng y2) (hy3 : Rng y3) (hy4 : Rng y4) (u : Value) (w : World) (X : Nat → Prop) (hu : PV w X u zs) :
    Calls Tryz.prog 3 #[u, .int .i64 y1, .int .i64 y2, .int .i64 y3, .int .i64 y4] w fun e w' => e = .returned (.bool true) ∧ Below w.heap.size w w' := by
  have HU := hide hu
  obtain ⟨au, cu, rfl, hlc, hu2⟩ := hu
  clear hu2
  by_cases h256 : 256 < zs.length
  · go_enter Tryz.func3, Tryz.ntmps3
    go_wp2_with fail
    go_ret
    exact ⟨rfl, Below.refl _ _⟩
  go_enter Tryz.func3, Tryz.ntmps3
  go_wp2_with fail
  refine (pick_any _ 14 (by decide) (by decide) hy2 _).mono ?_
  rintro e w2 ⟨k1, rfl, hk1, hw2⟩
  rw [hw2]
  clear hw2 w2
  go_wp2_with fail
  obtain ⟨n, hn⟩ : ∃ n : Nat, (2 : Int) + (k1 : Int) = (n : Int) := ⟨2 + k1, by simp⟩
  rw [hn]
  have hn9 : n ≤ 15 := by omega
  have HTOP : Hid (top n ≤ 29) := by unfold Hid top; split <;> omega
  clear hn hk1
  refine (termOf_any 2 (by decide) (by decide) zs hr (by omega) n 0 _ _ X HU.out (by omega) (by have := HTOP.out; omega)).mono ?_
  rintro e w2 ⟨t, aa, ca, rfl, hs2, hz2, hb2, he2⟩
  have HZ : Hid (sizeL [t] ≤ 29) := by have := HTOP.out; unfold Hid; omega
  have HE := hide he2
  have MT : Hid (mayE t = 0) := may_of he2 (by have := HZ.out; omega)
  have A3 := hide ((evBelow (Below.refl w.heap.size w)).box (T := 25) hb2 hs2 ca)
  clear hs2 hz2 hb2 he2 hn9
  go_upto_region 4 with fail
  generalize w2.heap.size = P at *
  generalize w2.alloc (.cells #[.string t.name, .slice aa t.args.length ca] 25) = w3 at *
  clear w2
  have p0 : w3.cell? ⟨P, 0, none⟩ = some (.string t.name) := A3.out.now.2.1.cell 0
  have p1 : w3.cell? ⟨P, 1, none⟩ = some (.slice aa t.args.length ca) := A3.out.now.2.1.cell 1
  go_wp2_with fail
  refine (placesOf_any t _ _ (fun _ => True) ⟨_, _, rfl, A3.out.now.2.2⟩ (by have := HZ.out; omega)).mono ?_
  rintro e w4 ⟨v7, xs7, rfl, hown7, hrow7, hb⟩
  obtain ⟨g7, cap7, rfl, hg7, hg7', hcel7⟩ := owned_val hown7 (by simp [plcT])
  have A4 := hide (A3.out.later hb)
  have hln : 0 < (plcT t).length ∧ (plcT t).length ≤ 60 := ⟨by simp [plcT], by rw [plcT_len]; have := HZ.out; omega⟩
  have HR7 := hide hrow7
  have HC7 := hide hcel7
  have HAT := hide (fun p hp => plc_at p t hp)
  clear hb hown7 hrow7 hcel7 A3 p0 p1 hg7 hg7'
  generalize plcT t = ls at *
  go_wp2_with fail
  refine (pick_any y3 ls.length hln.1 (by omega) hy3 _).mono ?_
  rintro e w9 ⟨k9, rfl, hk9, hw9⟩
  rw [hw9]
  clear hw9 w9
  obtain ⟨u9, hu9, hp9⟩ := HR7.out.get k9 hk9
  have e9 : w4.cell? ⟨g7, k9, none⟩ = some u9 := HC7.out k9 u9 hu9
  have hk92 : (k9 : Int) < (ls.length : Int) := by omega
  obtain ⟨y, hy⟩ := HAT.out ls[k9] (List.getElem_mem hk9)
  generalize ls[k9] = pz at *
  have HY := hide hy
  have HP9 := hide hp9.ev
  obtain ⟨pa, pc, rfl, _, _⟩ := hp9
  have EY : Hid (errL [y] = 0) := atT_err pz t y HE.out hy
  have ZY : Hid (sizeL [y] ≤ 29) := Nat.le_trans (atT_size hy) HZ.out
  clear hy
  have p0 : w4.cell? ⟨P, 0, none⟩ = some (.string t.name) := A4.out.now.2.1.cell 0
  have p1 : w4.cell? ⟨P, 1, none⟩ = some (.slice aa t.args.length ca) := A4.out.now.2.1.cell 1
  go_wp2_with fail
  refine (at_good MT.out HY.out _ _ _ ⟨_, _, rfl, A4.out.now.2.2⟩ HP9.out.now).mono ?_
  rintro e w5 ⟨ay, cy, rfl, hsy, hb⟩
  have A5 := hide ((A4.out.and HP9.out).box (T := 25) hb hsy cy)
  clear hb hsy A4 HP9 p0 p1 e9 HR7 HC7 HAT hu9
  go_upto_region 7 with fail
  generalize w5.heap.size = PX at *
  generalize w5.alloc (.cells #[.string y.name, .slice ay y.args.length cy] 25) = w6 at *
  clear w5
  have x1 : w6.cell? ⟨PX, 1, none⟩ = some (.slice ay y.args.length cy) := A5.out.now.2.1.cell 1
  by_cases h0 : y.args.length = 0
  · have h0' : ((y.args.length : Int) == 0) = true := by simp [h0]
    clear h0
    go_wp2_with fail
    refine (FA.out _).mono ?_
    rintro e w7 ⟨rfl, hb⟩
    have B7 := hide (A5.out.later hb).now.1.1.1
    clear hb
    go_wp2_with fail
    go_ret
    exact ⟨rfl, B7.out⟩
  have h0' : ((y.args.length : Int) == 0) = false := by simpa using h0
  obtain ⟨ba, oa, az, cz, rfl, hkids⟩ := kids_ev A5.out.now.2.2 (by omega)
  have A6 : Hid (Evr (EmS t y aa (some ⟨ba, oa, none⟩) pz (.slice pa pz.length pc) ca cy P PX ba oa az cz w) w6) := (A5.out.and hkids).imp fun wr h => ⟨h.1.1.1.2.1, h.1.1.1.2.2, h.1.1.2, h.1.2.1, h.2, h.1.1.1.1⟩
  have HKZ : Hid (∀ k (h : k < y.args.length), mayE y.args[k] = 0) := fun k h => by
    have h1 := (errL_all y.args).1 (errL_one y EY.out).2.1 _ (List.getElem_mem h)
    have h2 := kid_size h
    exact may_of h1 (by have := ZY.out; omega)
  have hyl : 0 < y.args.length ∧ y.args.length ≤ 60 := ⟨by omega, by have := len_size y.args; have := ZY.out; have : sizeL [y] = 1 + sizeL y.args := by { obtain ⟨s, l⟩ := y; exact size_one }; omega⟩
  clear A5 hkids h0
  go_upto_region 11 with fail
  go_cut [16, 15] (fun o e wc => EmbW (EmS t y aa (some ⟨ba, oa, none⟩) pz (.slice pa pz.length pc) ca cy P PX ba oa az cz w) t y pz o e wc)
  case first =>
    have A6d : Hid (Evr (EmS t y aa (some ⟨ba, oa, none⟩) pz (.slice pa pz.length pc) ca cy P PX ba oa az cz w) w6.drew) := A6.out.later (below_drewN (Below.refl _ _) 1)
    clear A6 x1
    refine wp_region_held_drew (S := EmS t y aa (some ⟨ba, oa, none⟩) pz (.slice pa pz.length pc) ca cy P PX ba oa az cz w) (by kernel_rfl) A6d.out.now (fun hHeld => ?_)
    refine wpAnyH_take (i := 0) (v := ?_) rfl (by kernel_rfl) (by kernel_rfl) (by kernel_rfl) (fun _ _ _ h => h) (Or.inl ⟨by rfl, ?_⟩) (by assumption) ?_
    rotate_left
    · intro w' hSw
      have c0 : w'.cell? ⟨P, 0, none⟩ = some (.string t.name) := hSw.k1.cell 0
      have c1 : w'.cell? ⟨P, 1, none⟩ = some (.slice aa t.args.length ca) := hSw.k1.cell 1
      go_simp <;> with_reducible rfl
    try simp only [Act.put, List.setIfInBounds_toArray, List.set_cons_zero, List.set_cons_succ, List.getElem_toArray, List.getElem_cons_succ, List.getElem_cons_zero]
    refine wpAnyH_take (i := 1) (v := ?_) rfl (by kernel_rfl) (by kernel_rfl) (by kernel_rfl) (fun _ _ _ h => h) (Or.inl ⟨by rfl, ?_⟩) (by assumption) ?_
    rotate_left
    · intro w' hSw
      go_simp <;> with_reducible rfl
    try simp only [Act.put, List.setIfInBounds_toArray, List.set_cons_zero, List.set_cons_succ, List.getElem_toArray, List.getElem_cons_succ, List.getElem_cons_zero]
    refine wpAnyH_take (i := 2) (v := ?_) rfl (by kernel_rfl) (by kernel_rfl) (by kernel_rfl) (fun _ _ _ h => h) (Or.inl ⟨by rfl, ?_⟩) (by assumption) ?_
    rotate_left
    · intro w' hSw
      go_simp <;> with_reducible rfl
    try simp only [Act.put, List.setIfInBounds_toArray, List.set_cons_zero, List.set_cons_succ, List.getElem_toArray, List.getElem_cons_succ, List.getElem_cons_zero]
    refine wpAnyH_take (i := 3) (v := ?_) rfl (by kernel_rfl) (by kernel_rfl) (by kernel_rfl) (fun _ _ _ h => h) (Or.inl ⟨by rfl, ?_⟩) (by assumption) ?_
    rotate_left
    · intro w' hSw
      have c1 : w'.cell? ⟨PX, 1, none⟩ = some (.slice (some ⟨ba, oa, none⟩) y.args.length cy) := hSw.k2.cell 1
      go_simp <;> with_reducible rfl
    try simp only [Act.put, List.setIfInBounds_toArray, List.set_cons_zero, List.set_cons_succ, List.getElem_toArray, List.getElem_cons_succ, List.getElem_cons_zero]
    refine wpAnyH_take (i := 4) (v := ?_) rfl (by kernel_rfl) (by kernel_rfl) (by kernel_rfl) (fun _ _ _ h => h) (Or.inl ⟨by rfl, ?_⟩) (by assumption) ?_
    rotate_left
    · intro w' hSw
      go_simp <;> with_reducible rfl
    try simp only [Act.put, List.setIfInBounds_toArray, List.set_cons_zero, List.set_cons_succ, List.getElem_toArray, List.getElem_cons_succ, List.getElem_cons_zero]
    refine wpAnyH_take (i := 5) (v := ?_) rfl (by kernel_rfl) (by kernel_rfl) (by kernel_rfl) (fun _ _ _ h => h) (Or.inl ⟨by rfl, ?_⟩) (by assumption) ?_
    rotate_left
    · intro w' hSw
      go_simp <;> with_reducible rfl
    try simp only [Act.put, List.setIfInBounds_toArray, List.set_cons_zero, List.set_cons_succ, List.getElem_toArray, List.getElem_cons_succ, List.getElem_cons_zero]
    refine wpAnyH_take (i := 6) (v := ?_) rfl (by kernel_rfl) (by kernel_rfl) (by kernel_rfl) (fun _ _ _ h => h) (Or.inl ⟨by rfl, ?_⟩) (by assumption) ?_
    rotate_left
    · intro w' hSw
      have c1 : w'.cell? ⟨PX, 1, none⟩ = some (.slice (some ⟨ba, oa, none⟩) y.args.length cy) := hSw.k2.cell 1
      go_simp <;> with_reducible rfl
    try simp only [Act.put, List.setIfInBounds_toArray, List.set_cons_zero, List.set_cons_succ, List.getElem_toArray, List.getElem_cons_succ, List.getElem_cons_zero]
    refine wpAnyH_take (i := 7) (v := ?_) rfl (by kernel_rfl) (by kernel_rfl) (by kernel_rfl) (fun _ _ _ h => h) (Or.inl ⟨by rfl, ?_⟩) (by assumption) ?_
    rotate_left
    · intro w' hSw
      go_simp <;> with_reducible rfl
    try simp only [Act.put, List.setIfInBounds_toArray, List.set_cons_zero, List.set_cons_succ, List.getElem_toArray, List.getElem_cons_succ, List.getElem_cons_zero]
    generalize w6.drew = wd at *
    refine wpAnyH_ready (rs := [8, 15]) (by kernel_rfl) (by simp) ?_
    refine AllReadyH.cons rfl (fun K hK => ?_) (AllReadyH.cons rfl (fun K hK => ?_) AllReadyH.nil)
    · go_simp
      go_at_call 5
      refine (pick_any y4 y.args.length hyl.1 (by omega) hy4 _).mono ?_
      rintro e w7 ⟨k, rfl, hk, hw7⟩
      rw [hw7]
      clear hw7 w7
      have hk2 : (k : Int) < (y.args.length : Int) := by omega
      go_simp
      refine hK.out _ _ (by exact A6d.out.now) (fun hHeld => ?_)
      clear hK K
      try simp only [Act.put, List.setIfInBounds_toArray, List.set_cons_zero, List.set_cons_succ, List.getElem_toArray, List.getElem_cons_succ, List.getElem_cons_zero]
      refine wpAnyH_take (i := 9) (v := ?_) rfl (by kernel_rfl) (by kernel_rfl) (by kernel_rfl) (fun _ _ _ h => h) (Or.inl ⟨by rfl, ?_⟩) (by assumption) ?_
      rotate_left
      · intro w' hSw
        go_simp <;> with_reducible rfl
      try simp only [Act.put, List.setIfInBounds_toArray, List.set_cons_zero, List.set_cons_succ, List.getElem_toArray, List.getElem_cons_succ, List.getElem_cons_zero]
      refine wpAnyH_take (i := 10) (v := ?_) rfl (by kernel_rfl) (by kernel_rfl) (by kernel_rfl) (fun _ _ _ h => h) (Or.inl ⟨by rfl, ?_⟩) (by assumption) ?_
      rotate_left
      · intro w' hSw
        obtain ⟨c0, c1, _⟩ := hSw.kid k hk
        go_simp <;> with_reducible rfl
      try simp only [Act.put, List.setIfInBounds_toArray, List.set_cons_zero, List.set_cons_succ, List.getElem_toArray, List.getElem_cons_succ, List.getElem_cons_zero]
      refine wpAnyH_ready (rs := [11, 15]) (by kernel_rfl) (by simp) ?_
      refine AllReadyH.cons rfl (fun K hK => ?_) (AllReadyH.cons rfl (fun K hK => ?_) AllReadyH.nil)
      · go_simp
        go_at_call 9
        refine (put_good MT.out (HKZ.out k hk) HY.out _ _ _ _ ⟨_, _, rfl, A6d.out.now.s1⟩ A6d.out.now.pv ⟨_, _, rfl, (A6d.out.now.kid k hk).2.2⟩).mono ?_
        rintro e w8 ⟨ax, cx, rfl, hsx, hb8⟩
        have A8 := hide (A6d.out.later hb8)
        have SX := hide hsx
        clear hsx hb8
        go_simp
        refine hK.out _ _ (by exact A8.out.now) (fun hHeld => ?_)
        clear hK K
        try simp only [Act.put, List.setIfInBounds_toArray, List.set_cons_zero, List.set_cons_succ, List.getElem_toArray, List.getElem_cons_succ, List.getElem_cons_zero]
        refine wpAnyH_take (i := 12) (v := ?_) rfl (by kernel_rfl) (by kernel_rfl) (by kernel_rfl) (fun _ _ _ h => h) (Or.inl ⟨by rfl, ?_⟩) (by assumption) ?_
        rotate_left
        · intro w' hSw
          go_simp <;> with_reducible rfl
        try simp only [Act.put, List.setIfInBounds_toArray, List.set_cons_zero, List.set_cons_succ, List.getElem_toArray, List.getElem_cons_succ, List.getElem_cons_zero]
        refine wpAnyH_take (i := 13) (v := ?_) rfl (by kernel_rfl) (by kernel_rfl) (by kernel_rfl) (fun _ _ _ h => h) (Or.inl ⟨by rfl, ?_⟩) (by assumption) ?_
        rotate_left
        · intro w' hSw
          go_simp <;> with_reducible rfl
        try simp only [Act.put, List.setIfInBounds_toArray, List.set_cons_zero, List.set_cons_succ, List.getElem_toArray, List.getElem_cons_succ, List.getElem_cons_zero]
        refine wpAnyH_take (i := 14) (v := ?_) rfl (by kernel_rfl) (by kernel_rfl) (by kernel_rfl) (fun _ _ _ h => h) (Or.inl ⟨by rfl, ?_⟩) (by assumption) ?_
        rotate_left
        · intro w' hSw
          go_simp <;> with_reducible rfl
        try simp only [Act.put, List.setIfInBounds_toArray, List.set_cons_zero, List.set_cons_succ, List.getElem_toArray, List.getElem_cons_succ, List.getElem_cons_zero]
        refine wpAnyH_ready (rs := [15]) (by kernel_rfl) (by simp) ?_
        refine AllReadyH.cons rfl (fun K hK => ?_) AllReadyH.nil
        go_simp
        refine hK.out _ _ (by exact (A8.out.alloc _).now) (fun hHeld => ?_)
        clear hK K
        try simp only [Act.put, List.setIfInBounds_toArray, List.set_cons_zero, List.set_cons_succ, List.getElem_toArray, List.getElem_cons_succ, List.getElem_cons_zero]
        refine wpAnyH_ready (rs := [16]) (by kernel_rfl) (by simp) ?_
        refine AllReadyH.cons rfl (fun K hK => ?_) AllReadyH.nil
        go_simp
        refine hK.out _ _ (by exact (A8.out.alloc _).now) (fun hHeld => ?_)
        clear hK K
        try simp only [Act.put, List.setIfInBounds_toArray, List.set_cons_zero, List.set_cons_succ, List.getElem_toArray, List.getElem_cons_succ, List.getElem_cons_zero]
        refine wpAnyH_take (i := 17) (v := ?_) rfl (by kernel_rfl) (by kernel_rfl) (by kernel_rfl) (fun _ _ _ h => h) (Or.inl ⟨by rfl, ?_⟩) (by assumption) ?_
        rotate_left
        · intro w' hSw
          go_simp <;> with_reducible rfl
        try simp only [Act.put, List.setIfInBounds_toArray, List.set_cons_zero, List.set_cons_succ, List.getElem_toArray, List.getElem_cons_succ, List.getElem_cons_zero]
        refine wpAnyH_done (by kernel_rfl) ?_ _
        go_wp2_with fail
        go_meet
        exact emb_endA hk A8.out SX.out
      · go_simp
        refine hK.out _ _ (by exact (A6d.out.alloc _).now) (fun hHeld => ?_)
        clear hK K
        try simp only [Act.put, List.setIfInBounds_toArray, List.set_cons_zero, List.set_cons_succ, List.getElem_toArray, List.getElem_cons_succ, List.getElem_cons_zero]
        have AZ := hide (A6d.out.alloc (.cells #[.string ⟨#[]⟩, .slice none 0 0] 25))
        have UZ := hide (Blk.new wd #[.string ⟨#[]⟩, .slice none 0 0] 25)
        refine wpAnyH_ready (rs := [11]) (by kernel_rfl) (by simp) ?_
        refine AllReadyH.cons rfl (fun K hK => ?_) AllReadyH.nil
        go_simp
        go_at_call 9
        refine (put_good MT.out (HKZ.out k hk) HY.out _ _ _ _ ⟨_, _, rfl, AZ.out.now.s1⟩ AZ.out.now.pv ⟨_, _, rfl, (AZ.out.now.kid k hk).2.2⟩).mono ?_
        rintro e w8 ⟨ax, cx, rfl, hsx, hb8⟩
        have A8 := hide (AZ.out.later hb8)
        have U8 := hide (UZ.out.below hb8 UZ.out.lt)
        have BZ := hide (((Below.refl wd.heap.size wd).alloc (Nat.le_refl _) (.cells #[.string ⟨#[]⟩, .slice none 0 0] 25)).trans (hb8.mono (by simp)))
        have SX : Hid (Sl w8 (fun b => wd.heap.size + 1 ≤ b) ax (putT y.args[k] pz t).args) := hsx.mono fun b h _ => by simpa using h
        clear hsx hb8
        go_simp
        refine hK.out _ _ (by exact A8.out.now) (fun hHeld => ?_)
        clear hK K
        try simp only [Act.put, List.setIfInBounds_toArray, List.set_cons_zero, List.set_cons_succ, List.getElem_toArray, List.getElem_cons_succ, List.getElem_cons_zero]
        refine wpAnyH_take (i := 12) (v := ?_) rfl (by kernel_rfl) (by kernel_rfl) (by kernel_rfl) (fun _ _ _ h => h) (Or.inl ⟨by rfl, ?_⟩) (by assumption) ?_
        rotate_left
        · intro w' hSw
          go_simp <;> with_reducible rfl
        try simp only [Act.put, List.setIfInBounds_toArray, List.set_cons_zero, List.set_cons_succ, List.getElem_toArray, List.getElem_cons_succ, List.getElem_cons_zero]
        refine wpAnyH_take (i := 13) (v := ?_) rfl (by kernel_rfl) (by kernel_rfl) (by kernel_rfl) (fun _ _ _ h => h) (Or.inl ⟨by rfl, ?_⟩) (by assumption) ?_
        rotate_left
        · intro w' hSw
          go_simp <;> with_reducible rfl
        try simp only [Act.put, List.setIfInBounds_toArray, List.set_cons_zero, List.set_cons_succ, List.getElem_toArray, List.getElem_cons_succ, List.getElem_cons_zero]
        refine wpAnyH_take (i := 14) (v := ?_) rfl (by kernel_rfl) (by kernel_rfl) (by kernel_rfl) (fun _ _ _ h => h) (Or.inl ⟨by rfl, ?_⟩) (by assumption) ?_
        rotate_left
        · intro w' hSw
          go_simp <;> with_reducible rfl
        try simp only [Act.put, List.setIfInBounds_toArray, List.set_cons_zero, List.set_cons_succ, List.getElem_toArray, List.getElem_cons_succ, List.getElem_cons_zero]
        have z0 : w8.cell? ⟨wd.heap.size, 0, none⟩ = some (.string ⟨#[]⟩) := U8.out.cell 0
        have z1 : w8.cell? ⟨wd.heap.size, 1, none⟩ = some (.slice none 0 0) := U8.out.cell 1
        have zf := U8.out.frozen
        have zl : wd.heap.size < w8.heap.size := U8.out.lt
        have UP := hide (emb_endB hk (cu := cx) A6d.out BZ.out U8.out SX.out)
        clear BZ
        refine wpAnyH_ready (rs := [16]) (by kernel_rfl) (by simp) ?_
        refine AllReadyH.cons rfl (fun K hK => ?_) AllReadyH.nil
        go_simp
        refine hK.out _ _ (by exact UP.out.1.now) (fun hHeld => ?_)
        clear hK K
        try simp only [Act.put, List.setIfInBounds_toArray, List.set_cons_zero, List.set_cons_succ, List.getElem_toArray, List.getElem_cons_succ, List.getElem_cons_zero]
        refine wpAnyH_take (i := 17) (v := ?_) rfl (by kernel_rfl) (by kernel_rfl) (by kernel_rfl) (fun _ _ _ h => h) (Or.inl ⟨by rfl, ?_⟩) (by assumption) ?_
        rotate_left
        · intro w' hSw
          go_simp <;> with_reducible rfl
        try simp only [Act.put, List.setIfInBounds_toArray, List.set_cons_zero, List.set_cons_succ, List.getElem_toArray, List.getElem_cons_succ, List.getElem_cons_zero]
        refine wpAnyH_done (by kernel_rfl) ?_ _
        go_wp2_with fail
        go_meet
        exact UP.out.2
    · go_simp
      refine hK.out _ _ (by exact (A6d.out.alloc _).now) (fun hHeld => ?_)
      clear hK K
      try simp only [Act.put, List.setIfInBounds_toArray, List.set_cons_zero, List.set_cons_succ, List.getElem_toArray, List.getElem_cons_succ, List.getElem_cons_zero]
      have AZ := hide (A6d.out.alloc (.cells #[.string ⟨#[]⟩, .slice none 0 0] 25))
      have UZ := hide (Blk.new wd #[.string ⟨#[]⟩, .slice none 0 0] 25)
      refine wpAnyH_ready (rs := [8]) (by kernel_rfl) (by simp) ?_
      refine AllReadyH.cons rfl (fun K hK => ?_) AllReadyH.nil
      go_simp
      go_at_call 5
      refine (pick_any y4 y.args.length hyl.1 (by omega) hy4 _).mono ?_
      rintro e w7 ⟨k, rfl, hk, hw7⟩
      rw [hw7]
      clear hw7 w7
      have hk2 : (k : Int) < (y.args.length : Int) := by omega
      go_simp
      refine hK.out _ _ (by exact AZ.out.now) (fun hHeld => ?_)
      clear hK K
      try simp only [Act.put, List.setIfInBounds_toArray, List.set_cons_zero, List.set_cons_succ, List.getElem_toArray, List.getElem_cons_succ, List.getElem_cons_zero]
      refine wpAnyH_take (i := 9) (v := ?_) rfl (by kernel_rfl) (by kernel_rfl) (by kernel_rfl) (fun _ _ _ h => h) (Or.inl ⟨by rfl, ?_⟩) (by assumption) ?_
      rotate_left
      · intro w' hSw
        go_simp <;> with_reducible rfl
      try simp only [Act.put, List.setIfInBounds_toArray, List.set_cons_zero, List.set_cons_succ, List.getElem_toArray, List.getElem_cons_succ, List.getElem_cons_zero]
      refine wpAnyH_take (i := 10) (v := ?_) rfl (by kernel_rfl) (by kernel_rfl) (by kernel_rfl) (fun _ _ _ h => h) (Or.inl ⟨by rfl, ?_⟩) (by assumption) ?_
      rotate_left
      · intro w' hSw
        obtain ⟨c0, c1, _⟩ := hSw.kid k hk
        go_simp <;> with_reducible rfl
      try simp only [Act.put, List.setIfInBounds_toArray, List.set_cons_zero, List.set_cons_succ, List.getElem_toArray, List.getElem_cons_succ, List.getElem_cons_zero]
      refine wpAnyH_ready (rs := [11]) (by kernel_rfl) (by simp) ?_
      refine AllReadyH.cons rfl (fun K hK => ?_) AllReadyH.nil
      go_simp
      go_at_call 9
      refine (put_good MT.out (HKZ.out k hk) HY.out _ _ _ _ ⟨_, _, rfl, AZ.out.now.s1⟩ AZ.out.now.pv ⟨_, _, rfl, (AZ.out.now.kid k hk).2.2⟩).mono ?_
      rintro e w8 ⟨ax, cx, rfl, hsx, hb8⟩
      have A8 := hide (AZ.out.later hb8)
      have U8 := hide (UZ.out.below hb8 UZ.out.lt)
      have BZ := hide (((Below.refl wd.heap.size wd).alloc (Nat.le_refl _) (.cells #[.string ⟨#[]⟩, .slice none 0 0] 25)).trans (hb8.mono (by simp)))
      have SX : Hid (Sl w8 (fun b => wd.heap.size + 1 ≤ b) ax (putT y.args[k] pz t).args) := hsx.mono fun b h _ => by simpa using h
      clear hsx hb8
      go_simp
      refine hK.out _ _ (by exact A8.out.now) (fun hHeld => ?_)
      clear hK K
      try simp only [Act.put, List.setIfInBounds_toArray, List.set_cons_zero, List.set_cons_succ, List.getElem_toArray, List.getElem_cons_succ, List.getElem_cons_zero]
      refine wpAnyH_take (i := 12) (v := ?_) rfl (by kernel_rfl) (by kernel_rfl) (by kernel_rfl) (fun _ _ _ h => h) (Or.inl ⟨by rfl, ?_⟩) (by assumption) ?_
      rotate_left
      · intro w' hSw
        go_simp <;> with_reducible rfl
      try simp only [Act.put, List.setIfInBounds_toArray, List.set_cons_zero, List.set_cons_succ, List.getElem_toArray, List.getElem_cons_succ, List.getElem_cons_zero]
      refine wpAnyH_take (i := 13) (v := ?_) rfl (by kernel_rfl) (by kernel_rfl) (by kernel_rfl) (fun _ _ _ h => h) (Or.inl ⟨by rfl, ?_⟩) (by assumption) ?_
      rotate_left
      · intro w' hSw
        go_simp <;> with_reducible rfl
      try simp only [Act.put, List.setIfInBounds_toArray, List.set_cons_zero, List.set_cons_succ, List.getElem_toArray, List.getElem_cons_succ, List.getElem_cons_zero]
      refine wpAnyH_take (i := 14) (v := ?_) rfl (by kernel_rfl) (by kernel_rfl) (by kernel_rfl) (fun _ _ _ h => h) (Or.inl ⟨by rfl, ?_⟩) (by assumption) ?_
      rotate_left
      · intro w' hSw
        go_simp <;> with_reducible rfl
      try simp only [Act.put, List.setIfInBounds_toArray, List.set_cons_zero, List.set_cons_succ, List.getElem_toArray, List.getElem_cons_succ, List.getElem_cons_zero]
      have z0 : w8.cell? ⟨wd.heap.size, 0, none⟩ = some (.string ⟨#[]⟩) := U8.out.cell 0
      have z1 : w8.cell? ⟨wd.heap.size, 1, none⟩ = some (.slice none 0 0) := U8.out.cell 1
      have zf := U8.out.frozen
      have zl : wd.heap.size < w8.heap.size := U8.out.lt
      have UP := hide (emb_endB hk (cu := cx) A6d.out BZ.out U8.out SX.out)
      clear BZ
      refine wpAnyH_ready (rs := [16]) (by kernel_rfl) (by simp) ?_
      refine AllReadyH.cons rfl (fun K hK => ?_) AllReadyH.nil
      go_simp
      refine hK.out _ _ (by exact UP.out.1.now) (fun hHeld => ?_)
      clear hK K
      try simp only [Act.put, List.setIfInBounds_toArray, List.set_cons_zero, List.set_cons_succ, List.getElem_toArray, List.getElem_cons_succ, List.getElem_cons_zero]
      refine wpAnyH_take (i := 17) (v := ?_) rfl (by kernel_rfl) (by kernel_rfl) (by kernel_rfl) (fun _ _ _ h => h) (Or.inl ⟨by rfl, ?_⟩) (by assumption) ?_
      rotate_left
      · intro w' hSw
        go_simp <;> with_reducible rfl
      try simp only [Act.put, List.setIfInBounds_toArray, List.set_cons_zero, List.set_cons_succ, List.getElem_toArray, List.getElem_cons_succ, List.getElem_cons_zero]
      refine wpAnyH_done (by kernel_rfl) ?_ _
      go_wp2_with fail
      go_meet
      exact UP.out.2
  obtain ⟨k, hk, U, ax, cx, rfl, rfl, hev⟩ := hcut
  have A7 := hide hev
  have EU : Hid (errL [putT y.args[k] pz t] = 0) := err_put _ ((errL_all y.args).1 (errL_one y EY.out).2.1 _ (List.getElem_mem hk)) pz t y HE.out HY.out
  have MU : Hid (mayE (putT y.args[k] pz t) = 0) := may_of EU.out (by have h1 := size_put y.args[k] pz t; have h2 := kid_size hk; have := ZY.out; have := HZ.out; omega)
  have PP : Hid (∀ row, pathB row t (putT y.args[k] pz t) = true) := fun row => emb_path pz t y HE.out HY.out (List.getElem_mem hk)
  clear hev A6 EY ZY HKZ hyl HY x1
  generalize putT y.args[k] pz t = ut at *
  go_upto_region 14 with fail
  go_cut [17, 15] (fun o e w' => o = .bool true ∧ e = .int .i64 0 ∧ Evr (fun wr => EmS t y aa (some ⟨ba, oa, none⟩) pz (.slice pa pz.length pc) ca cy P PX ba oa az cz w wr ∧ Blk wr U #[.string ut.name, .slice ax ut.args.length cx] 25 ∧ Sl wr (fun _ => True) ax ut.args) w')
  case first =>
    have B1 : Hid (Evr (fun wr => EmS t y aa (some ⟨ba, oa, none⟩) pz (.slice pa pz.length pc) ca cy P PX ba oa az cz w wr ∧ Blk wr U #[.string ut.name, .slice ax ut.args.length cx] 25 ∧ Sl wr (fun _ => True) ax ut.args) wc.drew) := A7.out.later (below_drewN (Below.refl _ _) 1)
    refine wp_region_held_drew (S := (fun wr => EmS t y aa (some ⟨ba, oa, none⟩) pz (.slice pa pz.length pc) ca cy P PX ba oa az cz w wr ∧ Blk wr U #[.string ut.name, .slice ax ut.args.length cx] 25 ∧ Sl wr (fun _ => True) ax ut.args)) (by kernel_rfl) B1.out.now (fun hHeld => ?_)
    refine wpAnyH_take (i := 0) (v := ?_) rfl (by kernel_rfl) (by kernel_rfl) (by kernel_rfl) (fun _ _ _ h => h) (Or.inl ⟨by rfl, ?_⟩) (by assumption) ?_
    rotate_left
    · intro w' hSw
      go_simp <;> with_reducible rfl
    try simp only [Act.put, List.setIfInBounds_toArray, List.set_cons_zero, List.set_cons_succ, List.getElem_toArray, List.getElem_cons_succ, List.getElem_cons_zero]
    refine wpAnyH_take (i := 2) (v := ?_) rfl (by kernel_rfl) (by kernel_rfl) (by kernel_rfl) (fun _ _ _ h => h) (Or.inl ⟨by rfl, ?_⟩) (by assumption) ?_
    rotate_left
    · intro w' hSw
      have c0 : w'.cell? ⟨P, 0, none⟩ = some (.string t.name) := hSw.1.k1.cell 0
      have c1 : w'.cell? ⟨P, 1, none⟩ = some (.slice aa t.args.length ca) := hSw.1.k1.cell 1
      go_simp <;> with_reducible rfl
    try simp only [Act.put, List.setIfInBounds_toArray, List.set_cons_zero, List.set_cons_succ, List.getElem_toArray, List.getElem_cons_succ, List.getElem_cons_zero]
    refine wpAnyH_take (i := 3) (v := ?_) rfl (by kernel_rfl) (by kernel_rfl) (by kernel_rfl) (fun _ _ _ h => h) (Or.inl ⟨by rfl, ?_⟩) (by assumption) ?_
    rotate_left
    · intro w' hSw
      have c0 : w'.cell? ⟨U, 0, none⟩ = some (.string ut.name) := hSw.2.1.cell 0
      have c1 : w'.cell? ⟨U, 1, none⟩ = some (.slice ax ut.args.length cx) := hSw.2.1.cell 1
      go_simp <;> with_reducible rfl
    try simp only [Act.put, List.setIfInBounds_toArray, List.set_cons_zero, List.set_cons_succ, List.getElem_toArray, List.getElem_cons_succ, List.getElem_cons_zero]
    generalize wc.drew = wd at *
    refine wpAnyH_ready (rs := [1]) (by kernel_rfl) (by simp) ?_
    refine AllReadyH.cons rfl (fun K hK => ?_) AllReadyH.nil
    go_simp
    go_at_call 11
    refine (rowFrom_any y1 hy1 _).mono ?_
    rintro e w8 ⟨row, vr, rfl, hrow, hlv, hb8⟩
    have HRO : Hid (rowE row = 0) := (rowsSix_ok row hrow).1
    have B2 := hide (B1.out.later hb8)
    have LW := hide (hlv.mono (Y := fun _ => True) fun _ _ _ => trivial)
    clear hrow hlv hb8
    go_simp
    refine hK.out _ _ (by exact B2.out.now) (fun hHeld => ?_)
    clear hK K
    try simp only [Act.put, List.setIfInBounds_toArray, List.set_cons_zero, List.set_cons_succ, List.getElem_toArray, List.getElem_cons_succ, List.getElem_cons_zero]
    refine wpAnyH_ready (rs := [4]) (by kernel_rfl) (by simp) ?_
    refine AllReadyH.cons rfl (fun K hK => ?_) AllReadyH.nil
    go_simp
    go_at_call 10
    refine (path_good HRO.out MT.out MU.out true (PP.out row).symm _ _ _ _ _ _ (by exact LW.out) (by exact B2.out.now.1.s1) (by exact B2.out.now.2.2)).mono ?_
    rintro e w9 ⟨rfl, hb9⟩
    have B3 := hide (B2.out.later hb9)
    clear hb9
    go_simp
    refine hK.out _ _ (by exact B3.out.now) (fun hHeld => ?_)
    clear hK K
    try simp only [Act.put, List.setIfInBounds_toArray, List.set_cons_zero, List.set_cons_succ, List.getElem_toArray, List.getElem_cons_succ, List.getElem_cons_zero]
    refine wpAnyH_take (i := 5) (v := ?_) rfl (by kernel_rfl) (by kernel_rfl) (by kernel_rfl) (fun _ _ _ h => h) (Or.inl ⟨by rfl, ?_⟩) (by assumption) ?_
    rotate_left
    · intro w' hSw
      go_simp <;> with_reducible rfl
    try simp only [Act.put, List.setIfInBounds_toArray, List.set_cons_zero, List.set_cons_succ, List.getElem_toArray, List.getElem_cons_succ, List.getElem_cons_zero]
    refine wpAnyH_take (i := 6) (v := ?_) rfl (by kernel_rfl) (by kernel_rfl) (by kernel_rfl) (fun _ _ _ h => h) (Or.inl ⟨by rfl, ?_⟩) (by assumption) ?_
    rotate_left
    · intro w' hSw
      go_simp <;> with_reducible rfl
    try simp only [Act.put, List.setIfInBounds_toArray, List.set_cons_zero, List.set_cons_succ, List.getElem_toArray, List.getElem_cons_succ, List.getElem_cons_zero]
    refine wpAnyH_take (i := 7) (v := ?_) rfl (by kernel_rfl) (by kernel_rfl) (by kernel_rfl) (fun _ _ _ h => h) (Or.inl ⟨by rfl, ?_⟩) (by assumption) ?_
    rotate_left
    · intro w' hSw
      go_simp <;> with_reducible rfl
    try simp only [Act.put, List.setIfInBounds_toArray, List.set_cons_zero, List.set_cons_succ, List.getElem_toArray, List.getElem_cons_succ, List.getElem_cons_zero]
    refine wpAnyH_take (i := 8) (v := ?_) rfl (by kernel_rfl) (by kernel_rfl) (by kernel_rfl) (fun _ _ _ h => h) (Or.inl ⟨by rfl, ?_⟩) (by assumption) ?_
    rotate_left
    · intro w' hSw
      go_simp <;> with_reducible rfl
    try simp only [Act.put, List.setIfInBounds_toArray, List.set_cons_zero, List.set_cons_succ, List.getElem_toArray, List.getElem_cons_succ, List.getElem_cons_zero]
    refine wpAnyH_take (i := 9) (v := ?_) rfl (by kernel_rfl) (by kernel_rfl) (by kernel_rfl) (fun _ _ _ h => h) (Or.inl ⟨by rfl, ?_⟩) (by assumption) ?_
    rotate_left
    · intro w' hSw
      go_simp <;> with_reducible rfl
    try simp only [Act.put, List.setIfInBounds_toArray, List.set_cons_zero, List.set_cons_succ, List.getElem_toArray, List.getElem_cons_succ, List.getElem_cons_zero]
    refine wpAnyH_done (by kernel_rfl) ?_ _
    go_wp2_with fail
    go_meet
    exact ⟨rfl, rfl, B3.out⟩
  clear A7
  obtain ⟨rfl, rfl, hev⟩ := hcut
  have A8 := hide hev
  clear hev
  go_upto_region 15 with fail
  go_cut [18, 19] (fun o e w' => o = .bool false ∧ e = .int .i64 0 ∧ Evr (fun wr => EmS t y aa (some ⟨ba, oa, none⟩) pz (.slice pa pz.length pc) ca cy P PX ba oa az cz w wr ∧ Blk wr U #[.string ut.name, .slice ax ut.args.length cx] 25 ∧ Sl wr (fun _ => True) ax ut.args) w')
  case first =>
    have B1 : Hid (Evr (fun wr => EmS t y aa (some ⟨ba, oa, none⟩) pz (.slice pa pz.length pc) ca cy P PX ba oa az cz w wr ∧ Blk wr U #[.string ut.name, .slice ax ut.args.length cx] 25 ∧ Sl wr (fun _ => True) ax ut.args) wc.drew) := A8.out.later (below_drewN (Below.refl _ _) 1)
    refine wp_region_held_drew (S := (fun wr => EmS t y aa (some ⟨ba, oa, none⟩) pz (.slice pa pz.length pc) ca cy P PX ba oa az cz w wr ∧ Blk wr U #[.string ut.name, .slice ax ut.args.length cx] 25 ∧ Sl wr (fun _ => True) ax ut.args)) (by kernel_rfl) B1.out.now (fun hHeld => ?_)
    refine wpAnyH_take (i := 0) (v := ?_) rfl (by kernel_rfl) (by kernel_rfl) (by kernel_rfl) (fun _ _ _ h => h) (Or.inl ⟨by rfl, ?_⟩) (by assumption) ?_
    rotate_left
    · intro w' hSw
      go_simp <;> with_reducible rfl
    try simp only [Act.put, List.setIfInBounds_toArray, List.set_cons_zero, List.set_cons_succ, List.getElem_toArray, List.getElem_cons_succ, List.getElem_cons_zero]
    refine wpAnyH_take (i := 2) (v := ?_) rfl (by kernel_rfl) (by kernel_rfl) (by kernel_rfl) (fun _ _ _ h => h) (Or.inl ⟨by rfl, ?_⟩) (by assumption) ?_
    rotate_left
    · intro w' hSw
      have c0 : w'.cell? ⟨U, 0, none⟩ = some (.string ut.name) := hSw.2.1.cell 0
      have c1 : w'.cell? ⟨U, 1, none⟩ = some (.slice ax ut.args.length cx) := hSw.2.1.cell 1
      go_simp <;> with_reducible rfl
    try simp only [Act.put, List.setIfInBounds_toArray, List.set_cons_zero, List.set_cons_succ, List.getElem_toArray, List.getElem_cons_succ, List.getElem_cons_zero]
    refine wpAnyH_take (i := 3) (v := ?_) rfl (by kernel_rfl) (by kernel_rfl) (by kernel_rfl) (fun _ _ _ h => h) (Or.inl ⟨by rfl, ?_⟩) (by assumption) ?_
    rotate_left
    · intro w' hSw
      have c0 : w'.cell? ⟨P, 0, none⟩ = some (.string t.name) := hSw.1.k1.cell 0
      have c1 : w'.cell? ⟨P, 1, none⟩ = some (.slice aa t.args.length ca) := hSw.1.k1.cell 1
      go_simp <;> with_reducible rfl
    try simp only [Act.put, List.setIfInBounds_toArray, List.set_cons_zero, List.set_cons_succ, List.getElem_toArray, List.getElem_cons_succ, List.getElem_cons_zero]
    generalize wc.drew = wd at *
    refine wpAnyH_ready (rs := [1]) (by kernel_rfl) (by simp) ?_
    refine AllReadyH.cons rfl (fun K hK => ?_) AllReadyH.nil
    go_simp
    go_at_call 11
    refine (rowFrom_any y1 hy1 _).mono ?_
    rintro e w8 ⟨row, vr, rfl, hrow, hlv, hb8⟩
    have HRO : Hid (rowE row = 0) := (rowsSix_ok row hrow).1
    have B2 := hide (B1.out.later hb8)
    have LW := hide (hlv.mono (Y := fun _ => True) fun _ _ _ => trivial)
    clear hrow hlv hb8
    go_simp
    refine hK.out _ _ (by exact B2.out.now) (fun hHeld => ?_)
    clear hK K
    try simp only [Act.put, List.setIfInBounds_toArray, List.set_cons_zero, List.set_cons_succ, List.getElem_toArray, List.getElem_cons_succ, List.getElem_cons_zero]
    refine wpAnyH_ready (rs := [4]) (by kernel_rfl) (by simp) ?_
    refine AllReadyH.cons rfl (fun K hK => ?_) AllReadyH.nil
    go_simp
    go_at_call 10
    refine (path_good HRO.out MU.out MT.out false (path_asymm (PP.out row)).symm _ _ _ _ _ _ (by exact LW.out) (by exact B2.out.now.2.2) (by exact B2.out.now.1.s1)).mono ?_
    rintro e w9 ⟨rfl, hb9⟩
    have B3 := hide (B2.out.later hb9)
    clear hb9
    go_simp
    refine hK.out _ _ (by exact B3.out.now) (fun hHeld => ?_)
    clear hK K
    try simp only [Act.put, List.setIfInBounds_toArray, List.set_cons_zero, List.set_cons_succ, List.getElem_toArray, List.getElem_cons_succ, List.getElem_cons_zero]
    refine wpAnyH_take (i := 5) (v := ?_) rfl (by kernel_rfl) (by kernel_rfl) (by kernel_rfl) (fun _ _ _ h => h) (Or.inl ⟨by rfl, ?_⟩) (by assumption) ?_
    rotate_left
    · intro w' hSw
      go_simp <;> with_reducible rfl
    try simp only [Act.put, List.setIfInBounds_toArray, List.set_cons_zero, List.set_cons_succ, List.getElem_toArray, List.getElem_cons_succ, List.getElem_cons_zero]
    refine wpAnyH_take (i := 6) (v := ?_) rfl (by kernel_rfl) (by kernel_rfl) (by kernel_rfl) (fun _ _ _ h => h) (Or.inl ⟨by rfl, ?_⟩) (by assumption) ?_
    rotate_left
    · intro w' hSw
      go_simp <;> with_reducible rfl
    try simp only [Act.put, List.setIfInBounds_toArray, List.set_cons_zero, List.set_cons_succ, List.getElem_toArray, List.getElem_cons_succ, List.getElem_cons_zero]
    refine wpAnyH_take (i := 7) (v := ?_) rfl (by kernel_rfl) (by kernel_rfl) (by kernel_rfl) (fun _ _ _ h => h) (Or.inl ⟨by rfl, ?_⟩) (by assumption) ?_
    rotate_left
    · intro w' hSw
      go_simp <;> with_reducible rfl
    try simp only [Act.put, List.setIfInBounds_toArray, List.set_cons_zero, List.set_cons_succ, List.getElem_toArray, List.getElem_cons_succ, List.getElem_cons_zero]
    refine wpAnyH_take (i := 8) (v := ?_) rfl (by kernel_rfl) (by kernel_rfl) (by kernel_rfl) (fun _ _ _ h => h) (Or.inl ⟨by rfl, ?_⟩) (by assumption) ?_
    rotate_left
    · intro w' hSw
      go_simp <;> with_reducible rfl
    try simp only [Act.put, List.setIfInBounds_toArray, List.set_cons_zero, List.set_cons_succ, List.getElem_toArray, List.getElem_cons_succ, List.getElem_cons_zero]
    refine wpAnyH_take (i := 9) (v := ?_) rfl (by kernel_rfl) (by kernel_rfl) (by kernel_rfl) (fun _ _ _ h => h) (Or.inl ⟨by rfl, ?_⟩) (by assumption) ?_
    rotate_left
    · intro w' hSw
      go_simp <;> with_reducible rfl
    try simp only [Act.put, List.setIfInBounds_toArray, List.set_cons_zero, List.set_cons_succ, List.getElem_toArray, List.getElem_cons_succ, List.getElem_cons_zero]
    refine wpAnyH_done (by kernel_rfl) ?_ _
    go_wp2_with fail
    go_meet
    exact ⟨rfl, rfl, B3.out⟩
  obtain ⟨rfl, rfl, hev⟩ := hcut
  have B9 := hide hev.now.1.bl
  clear hev A8
  go_wp2_with fail
  go_ret
  exact ⟨rfl, B9.out⟩
#print axioms topEmbed_any
end Go.Proofs.YteojdfmdhgnmfaaGreat

/- Pairs of terms in memory; what is wrong with them. -/
namespace Go.Proofs.YteojdfmdhgnmfaaGreat
open Go.RowKit
set_option linter.unusedSimpArgs false
set_option linter.unusedVariables false

/-- Two terms. -/
structure Pr where
  l : Tm
  r : Tm

/-- A list of pairs in memory. -/
def QV (w : World) (X : Nat → Prop) (v : Value) (l : List Pr) : Prop :=
  ∃ a c, v = .slice a l.length c ∧ (l.length ≤ 9223372036854775807 ∧ l.length ≤ c) ∧ (l = [] ∨ ∃ b o, a = some ⟨b, o, none⟩ ∧ X b ∧ ∀ i (h : i < l.length), ∃ a1 c1 a2 c2, w.cell? ⟨b, o + i * 4, none⟩ = some (.string l[i].l.name) ∧ w.cell? ⟨b, o + i * 4 + 1, none⟩ = some (.slice a1 l[i].l.args.length c1) ∧ w.cell? ⟨b, o + i * 4 + 2, none⟩ = some (.string l[i].r.name) ∧ w.cell? ⟨b, o + i * 4 + 3, none⟩ = some (.slice a2 l[i].r.args.length c2) ∧ Sl w X a1 l[i].l.args ∧ Sl w X a2 l[i].r.args)

theorem QV.kept {w w' : World} {X : Nat → Prop} {v : Value} {l : List Pr} (h : QV w X v l) (hk : ∀ b, X b → w'.heap[b]? = w.heap[b]?) : QV w' X v l := by
  obtain ⟨a, c, e, hl, h⟩ := h
  refine ⟨a, c, e, hl, ?_⟩
  rcases h with h | ⟨b, o, ea, hX, h⟩
  · exact Or.inl h
  · refine Or.inr ⟨b, o, ea, hX, fun i hi => ?_⟩
    obtain ⟨a1, c1, a2, c2, h1, h2, h3, h4, h5, h6⟩ := h i hi
    have hb := hk b hX
    exact ⟨a1, c1, a2, c2, by simpa [World.cell?, hb] using h1, by simpa [World.cell?, hb] using h2, by simpa [World.cell?, hb] using h3, by simpa [World.cell?, hb] using h4, h5.kept hk, h6.kept hk⟩
theorem QV.mono {w : World} {X Y : Nat → Prop} {v : Value} {l : List Pr} (h : QV w X v l) (hk : ∀ b, X b → b < w.heap.size → Y b) : QV w Y v l := by
  obtain ⟨a, c, e, hl, h⟩ := h
  refine ⟨a, c, e, hl, ?_⟩
  rcases h with h | ⟨b, o, ea, hX, h⟩
  · exact Or.inl h
  · by_cases h0 : l = []
    · exact Or.inl h0
    · have hp : 0 < l.length := List.length_pos_iff.2 h0
      obtain ⟨_, _, _, _, g, _⟩ := h 0 hp
      refine Or.inr ⟨b, o, ea, hk b hX (cell_lt g), fun i hi => ?_⟩
      obtain ⟨a1, c1, a2, c2, h1, h2, h3, h4, h5, h6⟩ := h i hi
      exact ⟨a1, c1, a2, c2, h1, h2, h3, h4, h5.mono hk, h6.mono hk⟩
theorem QV.later {w w' : World} {X : Nat → Prop} {v : Value} {l : List Pr} (h : QV w X v l) (hb : Below w.heap.size w w') : QV w' X v l :=
  ((h.mono (Y := fun b => X b ∧ b < w.heap.size) fun b h1 h2 => ⟨h1, h2⟩).kept fun b hx => hb.block b hx.2).mono fun b hx _ => hx.1
theorem QV.alloc {w : World} {X : Nat → Prop} {v : Value} {l : List Pr} (h : QV w X v l) (o : Obj) : QV (w.alloc o) X v l := h.later ((Below.refl _ _).alloc (Nat.le_refl _) o)
theorem QV.get {w : World} {X : Nat → Prop} {a : Option Addr} {n c : Nat} {l : List Pr} (h : QV w X (.slice a n c) l) (i : Nat) (hi : i < l.length) :
    ∃ b o a1 c1 a2 c2, a = some ⟨b, o, none⟩ ∧ w.cell? ⟨b, o + i * 4, none⟩ = some (.string l[i].l.name) ∧ w.cell? ⟨b, o + i * 4 + 1, none⟩ = some (.slice a1 l[i].l.args.length c1) ∧ w.cell? ⟨b, o + i * 4 + 2, none⟩ = some (.string l[i].r.name) ∧ w.cell? ⟨b, o + i * 4 + 3, none⟩ = some (.slice a2 l[i].r.args.length c2) ∧ Sl w X a1 l[i].l.args ∧ Sl w X a2 l[i].r.args := by
  obtain ⟨a2, c2, e, hl, h⟩ := h
  simp at e
  obtain ⟨rfl, rfl, rfl⟩ := e
  rcases h with h | ⟨b, o, ea, hX, h⟩
  · subst h; simp at hi
  · obtain ⟨a1, c1, a2, c2, h1, h2, h3, h4, h5, h6⟩ := h i hi
    exact ⟨b, o, a1, c1, a2, c2, ea, h1, h2, h3, h4, h5, h6⟩

/-- What is wrong with the first that is wrong. -/
def pmT (ls : List Pr) : Nat → Int
  | 0 => 0
  | k + 1 => if pmT ls k = 0 then (match ls[k]? with | some p => twoE p.l p.r | none => 0) else pmT ls k
def pairsE (ls : List Pr) : Int := if 40 < ls.length then 3 else pmT ls ls.length
theorem pmT_stays {ls : List Pr} {k : Nat} (h : pmT ls k ≠ 0) : ∀ n, k ≤ n → pmT ls n = pmT ls k
  | 0, hn => by have : k = 0 := by omega
                subst this; rfl
  | n + 1, hn => by
    by_cases e : k = n + 1
    · subst e; rfl
    · have ih := pmT_stays h n (by omega)
      rw [pmT, if_neg (by rw [ih]; exact h)]
      exact ih
theorem pmT_next {ls : List Pr} {k : Nat} (hk : k < ls.length) (h0 : pmT ls k = 0) : pmT ls (k + 1) = twoE ls[k].l ls[k].r := by rw [pmT, if_pos h0, List.getElem?_eq_getElem hk]
theorem pmT_err {ls : List Pr} {k : Nat} (hk : k < ls.length) (h40 : ¬ 40 < ls.length) (h0 : pmT ls k = 0) (hne : twoE ls[k].l ls[k].r ≠ 0) : pairsE ls = twoE ls[k].l ls[k].r := by
  unfold pairsE
  rw [if_neg h40]
  have h1 := pmT_next hk h0
  rw [← h1]
  exact pmT_stays (by rw [h1]; exact hne) _ (by omega)
theorem pairsE_len {ls : List Pr} (h : pairsE ls = 0) : ls.length ≤ 40 := by
  unfold pairsE at h
  split at h
  · cases h
  · omega
theorem pairsE_all {ls : List Pr} (h : pairsE ls = 0) : ∀ p ∈ ls, mayE p.l = 0 ∧ mayE p.r = 0 := by
  intro p hp
  obtain ⟨k, hk, rfl⟩ := List.getElem_of_mem hp
  have h40 := pairsE_len h
  unfold pairsE at h
  rw [if_neg (by omega)] at h
  have h0 : ∀ n, n ≤ ls.length → pmT ls n = 0 := fun n hn => by
    by_cases e : pmT ls n = 0
    · exact e
    · have := pmT_stays e _ hn
      rw [this] at h
      exact absurd h e
  have h1 := pmT_next hk (h0 k (by omega))
  rw [h0 (k + 1) (by omega)] at h1
  have h2 := h1.symm
  unfold twoE at h2
  by_cases e : mayE ls[k].l = 0
  · rw [if_pos e] at h2; exact ⟨e, h2⟩
  · rw [if_neg e] at h2; exact absurd h2 e
#print axioms pairsE_all
end Go.Proofs.YteojdfmdhgnmfaaGreat

/- Two terms made one, step by step: plain. With the limit on bindings (as the document says) and without. -/
namespace Go.Proofs.YteojdfmdhgnmfaaGreat
open Go.RowKit
set_option linter.unusedSimpArgs false
set_option linter.unusedVariables false

/-- One binding, put where it belongs. -/
def insB (d : Bd) : List Bd → List Bd
  | [] => [d]
  | e :: r => if ltB d.nm e.nm = true then d :: e :: r else e :: insB d r
def srtB : List Bd → List Bd
  | [] => []
  | d :: r => insB d (srtB r)
theorem insB_perm (d : Bd) : ∀ l, (insB d l).Perm (d :: l)
  | [] => List.Perm.refl _
  | e :: r => by
    rw [insB]
    split
    · exact List.Perm.refl _
    · exact ((insB_perm d r).cons e).trans (List.Perm.swap d e r)
theorem srtB_perm : ∀ l, (srtB l).Perm l
  | [] => List.Perm.refl _
  | d :: r => (insB_perm d _).trans ((srtB_perm r).cons d)
theorem insB_sorted (d : Bd) : ∀ l, SortedB l → (∀ e ∈ l, d.nm ≠ e.nm) → SortedB (insB d l)
  | [], _, _ => by simp [insB, SortedB]
  | e :: r, h, hn => by
    obtain ⟨h1, h2⟩ := List.pairwise_cons.1 h
    rw [insB]
    split
    · rename_i hlt
      refine List.pairwise_cons.2 ⟨fun x hx => ?_, h⟩
      rcases List.mem_cons.1 hx with rfl | hx
      · exact hlt
      · exact ltB_trans hlt (h1 x hx)
    · rename_i hlt
      refine List.pairwise_cons.2 ⟨fun x hx => ?_, insB_sorted d r h2 fun e he => hn e (by simp [he])⟩
      rcases List.mem_cons.1 ((insB_perm d r).subset hx) with rfl | hx
      · cases h3 : ltB e.nm x.nm with
        | true => rfl
        | false => exact absurd (ltB_conn (by simpa using hlt) h3) (hn e (by simp))
      · exact h1 x hx
theorem srtB_sorted : ∀ l, ApartB l → SortedB (srtB l)
  | [], _ => by simp [srtB, SortedB]
  | d :: r, h => by
    obtain ⟨h1, h2⟩ := List.pairwise_cons.1 h
    exact insB_sorted d _ (srtB_sorted r h2) fun e he => h1 e ((srtB_perm r).subset he)

/-- What a step leaves: more to do, or the end. -/
inductive UO where
  | go (s : List Bd) (l : List Pr)
  | stop (e : Int) (s : List Bd)
def zipP : List Tm → List Tm → List Pr
  | a :: r, b :: q => ⟨a, b⟩ :: zipP r q
  | _, _ => []
def putB (x : ByteArray) (t : Tm) (d : Bd) : Bd := ⟨d.nm, onT [⟨x, t⟩] d.t⟩
def grtB (s : List Bd) : Bool := s.any fun d => decide (2000 < sizeL [d.t])
def uBind (lim : Bool) (s : List Bd) (l : List Pr) (x : ByteArray) (t : Tm) : UO :=
  if inB x (varsP [] (preL [t])) = true then .stop 6 s
  else if (lim && grtB (s.map (putB x t))) = true then .stop 8 s
  else .go (srtB (s.map (putB x t) ++ [⟨x, t⟩])) l
def uPair (lim : Bool) (s : List Bd) (l : List Pr) (a b : Tm) : UO :=
  if 2000 < sizeL [a] ∨ 2000 < sizeL [b] then .stop 8 s
  else if varB a.name = true then (if a.name = b.name then .go s l else uBind lim s l a.name b)
  else if varB b.name = true then uBind lim s l b.name a
  else if a.name = b.name ∧ a.args.length = b.args.length then .go s (zipP a.args b.args ++ l)
  else .stop 5 s
def uNext (lim : Bool) (s : List Bd) : List Pr → UO
  | [] => .stop 0 s
  | p :: l => uPair lim s l (onT s p.l) (onT s p.r)
theorem uNext_cons (lim : Bool) (s : List Bd) (p : Pr) (l : List Pr) : uNext lim s (p :: l) = uPair lim s l (onT s p.l) (onT s p.r) := rfl
def uRun (lim : Bool) : Nat → List Bd → List Pr → Option (Int × List Bd)
  | 0, _, _ => none
  | n + 1, s, l => match uNext lim s l with
    | .stop e s' => some (e, s')
    | .go s' l' => uRun lim n s' l'

theorem sizeL_pos (t : Tm) : 1 ≤ sizeL [t] := by
  obtain ⟨s, l⟩ := t
  simp [sizeL]
theorem onL_grow (ls : List Bd) : ∀ l : List Tm, sizeL l ≤ sizeL (onL ls l) := by
  intro l
  induction l using Tm.indL with
  | h0 => simp [onL, sizeL]
  | h s l r ihl ihr =>
    have e1 : sizeL (onL ls (⟨s, l⟩ :: r)) = sizeL [onT ls ⟨s, l⟩] + sizeL (onL ls r) := by
      rw [onL_cons]
      generalize onT ls ⟨s, l⟩ = x
      obtain ⟨s2, m⟩ := x
      simp [sizeL]
    have e2 : sizeL (⟨s, l⟩ :: r) = (1 + sizeL l) + sizeL r := by simp [sizeL]
    have h1 : 1 + sizeL l ≤ sizeL [onT ls ⟨s, l⟩] := by
      by_cases hl : l = []
      · subst hl
        have := sizeL_pos (onT ls ⟨s, []⟩)
        simpa [sizeL] using this
      · rw [onT_deep (Or.inl hl)]
        simp only [sizeL]
        omega
    rw [e1, e2]
    omega
theorem onT_grow (ls : List Bd) (t : Tm) : sizeL [t] ≤ sizeL [onT ls t] := by
  have h := onL_grow ls [t]
  rw [onL_cons] at h
  simpa [onL] using h

theorem grtB_perm {l k : List Bd} (h : l.Perm k) : grtB l = grtB k := by
  unfold grtB
  rw [Bool.eq_iff_iff, List.any_eq_true, List.any_eq_true]
  exact ⟨fun ⟨d, hd, e⟩ => ⟨d, h.subset hd, e⟩, fun ⟨d, hd, e⟩ => ⟨d, h.symm.subset hd, e⟩⟩
theorem grtB_put {s : List Bd} (x : ByteArray) (t : Tm) (h : grtB s = true) : grtB (s.map (putB x t)) = true := by
  unfold grtB at *
  rw [List.any_eq_true] at *
  obtain ⟨d, hd, e⟩ := h
  refine ⟨putB x t d, List.mem_map.2 ⟨d, hd, rfl⟩, ?_⟩
  have h1 := onT_grow [⟨x, t⟩] d.t
  simp only [decide_eq_true_eq] at e ⊢
  exact Nat.lt_of_lt_of_le e h1
theorem grtB_new {s : List Bd} (x : ByteArray) (t : Tm) : grtB (srtB (s.map (putB x t) ++ [⟨x, t⟩])) = (grtB (s.map (putB x t)) || decide (2000 < sizeL [t])) := by
  rw [grtB_perm (srtB_perm _)]
  unfold grtB
  rw [List.any_append]
  simp
/-- What is too great stays so. -/
theorem uNext_great {lim : Bool} {s s' : List Bd} {l l' : List Pr} (h : uNext lim s l = .go s' l') (hg : grtB s = true) : grtB s' = true := by
  cases l with
  | nil => cases h
  | cons p l =>
    have bind : ∀ x t, uBind lim s l x t = .go s' l' → grtB s' = true := fun x t h => by
      unfold uBind at h
      split at h
      · cases h
      · split at h
        · cases h
        · cases h
          rw [grtB_new, grtB_put x t hg]
          rfl
    rw [uNext_cons] at h
    unfold uPair at h
    generalize onT s p.l = a at h
    generalize onT s p.r = b at h
    split at h
    · cases h
    · split at h
      · split at h
        · cases h; exact hg
        · exact bind _ _ h
      · split at h
        · exact bind _ _ h
        · split at h
          · cases h; exact hg
          · cases h
theorem uNext_stop {lim : Bool} {s s' : List Bd} {l : List Pr} {e : Int} (h : uNext lim s l = .stop e s') : s' = s := by
  cases l with
  | nil => cases h; rfl
  | cons p l =>
    have bind : ∀ x t, uBind lim s l x t = .stop e s' → s' = s := fun x t h => by
      unfold uBind at h
      split at h
      · cases h; rfl
      · split at h
        · cases h; rfl
        · cases h
    rw [uNext_cons] at h
    unfold uPair at h
    generalize onT s p.l = a at h
    generalize onT s p.r = b at h
    split at h
    · cases h; rfl
    · split at h
      · split at h
        · cases h
        · exact bind _ _ h
      · split at h
        · exact bind _ _ h
        · split at h
          · cases h
          · cases h; rfl
theorem uRun_great {lim : Bool} : ∀ (n : Nat) (s : List Bd) (l : List Pr) (e : Int) (sf : List Bd), uRun lim n s l = some (e, sf) → grtB s = true → grtB sf = true
  | 0, _, _, _, _, h, _ => by cases h
  | n + 1, s, l, e, sf, h, hg => by
    rw [uRun] at h
    cases hn : uNext lim s l with
    | stop e' s' =>
      rw [hn] at h
      cases h
      rw [uNext_stop hn]; exact hg
    | go s' l' =>
      rw [hn] at h
      exact uRun_great n s' l' e sf h (uNext_great hn hg)
/-- With the limit a step is the same, or it ends since something has become too great. -/
theorem uNext_lim {s : List Bd} {l : List Pr} : uNext true s l = uNext false s l ∨ (uNext true s l = .stop 8 s ∧ ∃ s' l', uNext false s l = .go s' l' ∧ grtB s' = true) := by
  cases l with
  | nil => exact Or.inl rfl
  | cons p l =>
    have bind : ∀ x t, uBind true s l x t = uBind false s l x t ∨ (uBind true s l x t = .stop 8 s ∧ ∃ s' l', uBind false s l x t = .go s' l' ∧ grtB s' = true) := fun x t => by
      unfold uBind
      by_cases h1 : inB x (varsP [] (preL [t])) = true
      · rw [if_pos h1, if_pos h1]; exact Or.inl rfl
      · rw [if_neg h1, if_neg h1]
        cases h2 : grtB (s.map (putB x t)) with
        | true => exact Or.inr ⟨rfl, _, _, rfl, by rw [grtB_new, h2]; rfl⟩
        | false => exact Or.inl rfl
    rw [uNext_cons, uNext_cons]
    unfold uPair
    generalize onT s p.l = a
    generalize onT s p.r = b
    by_cases h1 : 2000 < sizeL [a] ∨ 2000 < sizeL [b]
    · rw [if_pos h1, if_pos h1]; exact Or.inl rfl
    · rw [if_neg h1, if_neg h1]
      by_cases h2 : varB a.name = true
      · rw [if_pos h2, if_pos h2]
        by_cases h3 : a.name = b.name
        · rw [if_pos h3, if_pos h3]; exact Or.inl rfl
        · rw [if_neg h3, if_neg h3]; exact bind _ _
      · rw [if_neg h2, if_neg h2]
        by_cases h3 : varB b.name = true
        · rw [if_pos h3, if_pos h3]; exact bind _ _
        · rw [if_neg h3, if_neg h3]; exact Or.inl rfl
/-- With the limit: too great, if at the end something is; else the same. -/
theorem uRun_lim : ∀ (n : Nat) (s : List Bd) (l : List Pr) (e : Int) (sf : List Bd), uRun false n s l = some (e, sf) → grtB s = false → ∃ e' sf', uRun true n s l = some (e', sf') ∧ (grtB sf = true → e' = 8) ∧ (grtB sf = false → e' = e ∧ sf' = sf)
  | 0, _, _, _, _, h, _ => by cases h
  | n + 1, s, l, e, sf, h, hg => by
    rw [uRun] at h
    rcases uNext_lim (s := s) (l := l) with h1 | ⟨h1, s', l', h2, h3⟩
    · rw [uRun, h1]
      cases hn : uNext false s l with
      | stop e' s' =>
        rw [hn] at h
        cases h
        refine ⟨e, sf, rfl, fun h4 => ?_, fun _ => ⟨rfl, rfl⟩⟩
        rw [uNext_stop hn, hg] at h4
        cases h4
      | go s' l' =>
        rw [hn] at h
        cases h4 : grtB s' with
        | false => exact uRun_lim n s' l' e sf h h4
        | true =>
          exfalso
          rw [hn] at h1
          have h5 : grtB s' = false := by
            cases l with
            | nil => cases hn
            | cons p l =>
              have bind : ∀ x t, sizeL [t] ≤ 2000 → uBind true s l x t = .go s' l' → grtB s' = false := fun x t ht h => by
                unfold uBind at h
                split at h
                · cases h
                · split at h
                  · cases h
                  · rename_i h6
                    cases h
                    rw [grtB_new]
                    simp only [Bool.true_and, Bool.not_eq_true] at h6
                    rw [h6]
                    simp; omega
              rw [uNext_cons] at h1
              unfold uPair at h1
              generalize onT s p.l = a at h1
              generalize onT s p.r = b at h1
              split at h1
              · cases h1
              · rename_i h7
                split at h1
                · split at h1
                  · cases h1; exact hg
                  · exact bind _ _ (by omega) h1
                · split at h1
                  · exact bind _ _ (by omega) h1
                  · split at h1
                    · cases h1; exact hg
                    · cases h1
          rw [h5] at h4
          cases h4
    · rw [h2] at h
      have h4 := uRun_great n s' l' e sf h h3
      refine ⟨8, s, by rw [uRun, h1], fun _ => rfl, fun h5 => ?_⟩
      rw [h4] at h5
      cases h5
#print axioms uRun_lim
end Go.Proofs.YteojdfmdhgnmfaaGreat

/- Walks: copies of terms, counted. -/
namespace Go.Proofs.YteojdfmdhgnmfaaGreat
open Go.RowKit
set_option linter.unusedSimpArgs false
set_option linter.unusedVariables false
set_option maxRecDepth 8000

/-- What a counted making of a term gives: all of it, if it is not too great; else the count is below nought. -/
def CpPost (w : World) (F : Nat) (sv : Value) (t : Tm) (n : Nat) (e : Ending) (w' : World) : Prop :=
  ∃ (s' : ByteArray) (a' : Option Addr) (l' c' : Nat) (m : Int), e = .returned (.agg #[.string s', .slice a' l' c']) ∧ Blk w' F #[.int .i64 m, sv] 167 ∧ Ex F w w' ∧ (sizeL [t] ≤ n → m = (n : Int) - sizeL [t] ∧ s' = t.name ∧ l' = t.args.length ∧ Sl w' (fun b => w.heap.size ≤ b) a' t.args) ∧ (n < sizeL [t] → m = -1)

theorem fcopy_of (F : Nat) (sv : Value) (t : Tm) (n : Nat) (a : Option Addr) (c : Nat) (w : World) (hFl : F < w.heap.size) (h : Calls Tryz.prog 113 #[.pointer (some ⟨F, 0, none⟩), .agg #[.string t.name, .slice a t.args.length c], .func (.func 114) #[.pointer (some ⟨F, 0, none⟩)] #[]] ((w.alloc (.cells #[.string t.name, .slice a t.args.length c] 25)).alloc (.cells #[.string ⟨#[]⟩, .slice none 0 0] 25)) fun e w' => CpPost ((w.alloc (.cells #[.string t.name, .slice a t.args.length c] 25)).alloc (.cells #[.string ⟨#[]⟩, .slice none 0 0] 25)) F sv t n e w') :
    Calls Tryz.prog 114 #[.pointer (some ⟨F, 0, none⟩), .agg #[.string t.name, .slice a t.args.length c]] w fun e w' => CpPost w F sv t n e w' := by
  have hmf : ∀ (fn : Fn) (first cap : Array Value) (w : World), (Instr.makeFunc fn first cap).run Tryz.prog w = .ok (.func fn first cap) w := fun _ _ _ _ => rfl
  have H := hide h
  clear h
  go_enter Tryz.func114, Tryz.ntmps114
  go_wp2_with fail
  refine H.out.mono ?_
  rintro e w1 ⟨s', a', l', c', m, rfl, hF1, hx1, hy1, hn1⟩
  have R1 : Hid (Blk w1 (w.heap.size + 1) #[.string ⟨#[]⟩, .slice none 0 0] 25) := by
    have h := (Blk.new (w.alloc (.cells #[.string t.name, .slice a t.args.length c] 25)) #[.string ⟨#[]⟩, .slice none 0 0] 25).ex hx1 (by simp; omega)
    unfold Hid
    simpa using h
  have HX := hide ((((Ex.refl F w).alloc (.cells #[.string t.name, .slice a t.args.length c] 25)).alloc (.cells #[.string ⟨#[]⟩, .slice none 0 0] 25)).trans hx1)
  have HF := hide hF1
  have HY := hide hy1
  have HN := hide hn1
  clear hF1 hx1 hy1 hn1
  have r0 : w1.cell? ⟨w.heap.size + 1, 0, none⟩ = some (.string ⟨#[]⟩) := R1.out.cell 0
  have r1 : w1.cell? ⟨w.heap.size + 1, 1, none⟩ = some (.slice none 0 0) := R1.out.cell 1
  have rf := R1.out.frozen
  go_wp2_with fail
  refine bodyPost_ret (v := .agg #[.string s', .slice a' l' c']) (by simp [results, Tryz.results114, go_sem, World.cell?_setCell_same, World.cell?_setCell_other, r0, r1]) rfl ?_
  refine ⟨s', a', l', c', m, rfl, (HF.out.setOther _ _ (by omega)).setOther _ _ (by omega), (HX.out.setNew (by omega) _ _).setNew (by omega) _ _, fun h => ?_, HN.out⟩
  obtain ⟨h1, h2, h3, h4⟩ := HY.out h
  refine ⟨h1, h2, h3, (h4.kept fun b hb => ?_).mono fun b hb _ => by simp at hb; omega⟩
  simp at hb
  rw [Below.heap_setCell _ _ _ _ (by simp; omega), Below.heap_setCell _ _ _ _ (by simp; omega)]

theorem Sl.ex {w w' : World} {F : Nat} {X : Nat → Prop} {a : Option Addr} {l : List Tm} (h : Sl w X a l) (he : Ex F w w') (hX : ∀ b, X b → b ≠ F) : Sl w' X a l :=
  ((h.mono (Y := fun b => X b ∧ b < w.heap.size) fun b h1 h2 => ⟨h1, h2⟩).kept fun b hb => he.block b hb.2 (hX b hb.1)).mono fun b hb _ => hb.1

/-- What stands beside the row. -/
def KnSet (w : World) (F O : Nat) (s : ByteArray) (u : Value) (cF : Array Value) (wr : World) : Prop :=
  Ex F w wr ∧ Blk wr (w.heap.size + 1) #[.string ⟨#[]⟩, .slice none 0 0] 25 ∧ Blk wr O #[.string s, u] 25 ∧ Blk wr F cF 167 ∧ O < wr.heap.size

theorem kn_set {w wr w1 w3 : World} {F O : Nat} {s : ByteArray} {u v : Value} {cF cF' : Array Value} {o2 : Obj} (hFw : F < w.heap.size) (hO : w.heap.size + 2 ≤ O) (h : KnSet w F O s u cF wr) (hu : ∀ k, u.ownBlock = some k → O + 1 ≤ k)
    (he1 : Ex F wr w1) (hF1 : Blk w1 F cF' 167) (hg : (w1.alloc o2).grownBy w3 u.ownBlock) : KnSet w F O s v cF' (w3.setCell ⟨O, 1, none⟩ v) := by
  obtain ⟨h1, h2, h3, h4, h5⟩ := h
  have hne : ∀ b, b < O + 1 → some b ≠ u.ownBlock := fun b hb e => by have := hu b e.symm; omega
  have hs1 := he1.size
  have hs3 := hg.size
  simp at hs3
  refine ⟨(((h1.trans he1).alloc o2).grown hg (fun k hk => by have := hu k hk; omega)).setNew (by omega) _ _, ?_, ?_, ?_, by simp [World.setCell]; omega⟩
  · exact (((h2.ex he1 (by omega)).alloc o2).grown hg (hne _ (by omega))).setOther _ _ (by omega)
  · exact (((h3.ex he1 (by omega)).alloc o2).grown hg (hne _ (by omega))).set 1 _
  · exact ((hF1.alloc o2).grown hg (hne _ (by omega))).setOther _ _ (by omega)

theorem kn_row {wr w1 w3 : World} {F O : Nat} {u : Value} {L : List Tm} {xs : List Value} {o2 : Obj} {s' : ByteArray} {a1 : Option Addr} {n1 c1 g cap : Nat} {t : Tm} (hFO : F < O) (hOr : O < wr.heap.size) (hrow : Row wr (O + 1) 25 (fun _ => False) u L xs)
    (he1 : Ex F wr w1) (ht : TV w1 (fun b => wr.heap.size ≤ b) (.agg #[.string s', .slice a1 n1 c1]) t)
    (hown : w3.ownsRow (O + 1) 25 2 (.slice (some ⟨g, 0, none⟩) (L.length + 1) cap) (L.length + 1) (xs ++ [.string s', .slice a1 n1 c1])) (hg : (w1.alloc o2).grownBy w3 u.ownBlock) (hat : u.ownBlock = some g ∨ g = (w1.alloc o2).heap.size) :
    Row (w3.setCell ⟨O, 1, none⟩ (.slice (some ⟨g, 0, none⟩) (L.length + 1) cap)) (O + 1) 25 (fun _ => False) (.slice (some ⟨g, 0, none⟩) (L.length + 1) cap) (L ++ [t]) (xs ++ [.string s', .slice a1 n1 c1]) := by
  obtain ⟨wm, hbm, hsm, hem⟩ := he1.mid
  have hrm := hrow.ex hem (by omega) (fun h => h)
  exact (hrm.push (w1 := w1) (w2 := w1.alloc o2) (w3 := w3) (by omega) (fun _ h => h.elim) hbm (ht.mono fun b h _ => Or.inr (by omega)) o2 rfl hown hg hat).setCell (by omega) (fun h => h) _

def KnInv (w : World) (F O : Nat) (s : ByteArray) (sv : Value) (l : List Tm) (n : Nat) (i : Value) (wr : World) : Prop :=
  ∃ (k : Nat) (u : Value), k ≤ l.length ∧ i = .int .i64 (k : Int) ∧
    ((∃ (m : Nat) (xs : List Value), (m : Int) = (n : Int) - 1 - sizeL (l.take k) ∧ KnSet w F O s u #[.int .i64 (m : Int), sv] wr ∧ Row wr (O + 1) 25 (fun _ => False) u (l.take k) xs) ∨
     (n < 1 + sizeL l ∧ KnSet w F O s u #[.int .i64 (-1), sv] wr ∧ ∃ a9 l9 c9, u = .slice a9 l9 c9))

set_option maxHeartbeats 1000000 in
theorem knotC_any (F : Nat) (sv : Value) (t : Tm) : ∀ (n : Nat) (v : Value) (w : World) (X : Nat → Prop), TV w X v t → (∀ b, X b → b ≠ F) → n ≤ 1000000 → Blk w F #[.int .i64 (n : Int), sv] 167 →
    Calls Tryz.prog 113 #[.pointer (some ⟨F, 0, none⟩), v, .func (.func 114) #[.pointer (some ⟨F, 0, none⟩)] #[]] w fun e w' => CpPost w F sv t n e w' := by
  induction t using Tm.ind with
  | h s l ih =>
    intro n v w X hv hXF hn hF
    obtain ⟨a, c, rfl, hs⟩ := hv
    have IH := hide ih
    clear ih
    obtain ⟨i0, hi0, hz0, hz1, hz2⟩ := info_parts Tryz.infoTerm
    have f0 : ∀ o, (w.alloc o).cell? ⟨F, 0, none⟩ = some (.int .i64 (n : Int)) := fun o => (hF.alloc o).cell 0
    have ff : ∀ o, (w.alloc o).frozen? ⟨F, 0, none⟩ = false := fun o => (hF.alloc o).frozen 0
    have hFl : F < w.heap.size := hF.lt
    go_enter Tryz.func113, Tryz.ntmps113
    go_wp2_with fail
    have E3 : Hid (KnSet w F (w.heap.size + 1 + 1) s (.slice none 0 0) #[.int .i64 ((n : Int) - 1), sv] ((((w.setCell ⟨F, 0, none⟩ (.int .i64 ((n : Int) - 1))).alloc (.cells #[.string s, .slice a l.length c] 25)).alloc (.cells #[.string ⟨#[]⟩, .slice none 0 0] 25)).alloc (.cells #[.string s, .slice none 0 0] 25))) := by
      refine ⟨((((Ex.refl F w).set 0 _).alloc _).alloc _).alloc _, ?_, ?_, (((hF.set 0 _).alloc _).alloc _).alloc _, by simp [World.setCell]⟩
      · have h := (Blk.new ((w.setCell ⟨F, 0, none⟩ (.int .i64 ((n : Int) - 1))).alloc (.cells #[.string s, .slice a l.length c] 25)) #[.string ⟨#[]⟩, .slice none 0 0] 25).alloc (.cells #[.string s, .slice none 0 0] 25)
        simpa [World.setCell] using h
      · have h := Blk.new (((w.setCell ⟨F, 0, none⟩ (.int .i64 ((n : Int) - 1))).alloc (.cells #[.string s, .slice a l.length c] 25)).alloc (.cells #[.string ⟨#[]⟩, .slice none 0 0] 25)) #[.string s, .slice none 0 0] 25
        simpa [World.setCell] using h
    generalize ((((w.setCell ⟨F, 0, none⟩ (.int .i64 ((n : Int) - 1))).alloc (.cells #[.string s, .slice a l.length c] 25)).alloc (.cells #[.string ⟨#[]⟩, .slice none 0 0] 25)).alloc (.cells #[.string s, .slice none 0 0] 25)) = w3 at *
    generalize hOe : w.heap.size + 1 + 1 = O at *
    have hO : w.heap.size + 2 ≤ O := by omega
    clear hOe
    clear f0 ff
    have HS := hide hs
    have hl := hs.1
    have HXF := hide hXF
    have hz : sizeL [(⟨s, l⟩ : Tm)] = 1 + sizeL l := by simp [sizeL]
    clear hs hXF
    go_loopw [23] (fun i wr => KnInv w F O s sv l n i wr) (fun i wr => l.length - (intOf i).toNat)
    case atStart =>
      refine ⟨0, .slice none 0 0, Nat.zero_le _, rfl, ?_⟩
      by_cases hn0 : n = 0
      · subst hn0
        exact Or.inr ⟨by omega, E3.out, none, 0, 0, rfl⟩
      · refine Or.inl ⟨n - 1, [], by simp [sizeL]; omega, ?_, Row.start _ _ _ _⟩
        rw [show ((n - 1 : Nat) : Int) = (n : Int) - 1 by omega]
        exact E3.out
    case round =>
      obtain ⟨k, u, hk, rfl, hcase⟩ := hrel
      rcases hcase with ⟨m, xs, hm, hset, hrow⟩ | ⟨hbig, hset, a9, l9, c9, rfl⟩
      · have XS := hide hset
        have XW := hide hrow
        have HMM := hide hm
        clear hset hrow
        by_cases hlt : k < l.length
        · obtain ⟨b, o, a', c', rfl, d0, d1, hx⟩ := (HS.out.ex XS.out.1 HXF.out).get (Below.refl _ _) (fun _ _ h => h) k hlt
          obtain ⟨av, cv, ev, hsx⟩ := hx
          simp at ev
          obtain ⟨rfl, rfl⟩ := ev
          have hmn : m ≤ 1000000 := by omega
          have HOF : Hid (O ≠ F) := by unfold Hid; omega
          have HFO1 : Hid (F < O + 1) := by unfold Hid; omega
          have hlen := sizeL_len l
          have hsk : (l.take k).length = k := by simp; omega
          have hkn : k ≤ 1000000 := by have h1 := sizeL_len (l.take k); rw [hsk] at h1; omega
          have HL1 : Hid ((l.take k).length + 1 ≤ maxLen ∧ ((l.take k).length + 1) * 40 ≤ 140737488355328) := by unfold Hid; rw [hsk]; exact ⟨by unfold maxLen; omega, by omega⟩
          clear hsk
          have IHQ : Hid (Calls Tryz.prog 114 #[.pointer (some ⟨F, 0, none⟩), .agg #[.string l[k].name, .slice a' l[k].args.length c']] (wr.alloc (.cells #[.string l[k].name, .slice a' l[k].args.length c'] 25)).drew fun e w'' => CpPost (wr.alloc (.cells #[.string l[k].name, .slice a' l[k].args.length c'] 25)).drew F sv l[k] m e w'') := fcopy_of F sv l[k] m a' c' _ (by have := XS.out.1.size; simp; omega) (IH.out l[k] (List.getElem_mem hlt) m _ _ X ⟨a', c', rfl, ((hsx.later ((Below.refl _ _).alloc (Nat.le_refl _) (.cells #[.string l[k].name, .slice a' l[k].args.length c'] 25))).later ((Below.refl _ _).drew)).later (((Below.refl _ _).alloc (Nat.le_refl _) _).alloc (by simp) _)⟩ HXF.out hmn (by exact ((((XS.out.2.2.2.1.alloc _).drewN 1).alloc _).alloc _)))
          have f0 : ∀ o, (wr.alloc o).cell? ⟨F, 0, none⟩ = some (.int .i64 (m : Int)) := fun o => (XS.out.2.2.2.1.alloc o).cell 0
          have o1 : ∀ o, (wr.alloc o).cell? ⟨O, 1, none⟩ = some u := fun o => (XS.out.2.2.1.alloc o).cell 1
          have hm0 : ¬ (m : Int) < 0 := by omega
          by_cases hle : sizeL [l[k]] ≤ m
          · have IHG : Hid (Calls Tryz.prog 114 #[.pointer (some ⟨F, 0, none⟩), .agg #[.string l[k].name, .slice a' l[k].args.length c']] (wr.alloc (.cells #[.string l[k].name, .slice a' l[k].args.length c'] 25)).drew fun e w'' => ∃ a1 c1, e = .returned (.agg #[.string l[k].name, .slice a1 l[k].args.length c1]) ∧ Blk w'' F #[.int .i64 ((m : Int) - sizeL [l[k]]), sv] 167 ∧ Ex F wr w'' ∧ Sl w'' (fun b => wr.heap.size ≤ b) a1 l[k].args) := IHQ.out.mono fun e w'' hp => by
              obtain ⟨s1, a1, l1, c1, m1, h1, h2, h3, h4, _⟩ := hp
              obtain ⟨rfl, rfl, rfl, h5⟩ := h4 hle
              exact ⟨a1, c1, h1, h2, (((Ex.refl F wr).alloc _).drew).trans h3, h5.mono fun b hb _ => by simp at hb; omega⟩
            clear IHQ
            go_wp2_with fail
            go_region_law (first
              | (go_simp; go_at_call 114; refine IHG.out.mono ?_; rintro e w1 ⟨a1, c1, rfl, hF1, he1, hs1⟩; have hc3 : ∀ o, (w1.alloc o).cell? ⟨O, 1, none⟩ = some u := fun o => ((Blk.ex XS.out.2.2.1 he1 HOF.out).alloc o).cell 1; have hc4 : w1.cell? ⟨O, 1, none⟩ = some u := (Blk.ex XS.out.2.2.1 he1 HOF.out).cell 1)
              | (refine step_append_lies _ rfl _ _ 23 rfl (O + 1) 25 i0 _ 2 40 Tryz.underlying23 hi0 hz0 hz1 hz2 rfl (by decide) u (l.take k).length xs rfl (by exact (Row.ex (B := F) XW.out he1 HFO1.out (fun h => h)).own.alloc _) ⟨w1.heap.size, 0, none⟩ 1 1 [.string l[k].name, .slice a1 l[k].args.length c1] rfl rfl (cell_two_new _ _ _ _) (fun x hx => by simp at hx; rcases hx with rfl | rfl <;> rfl) (by decide) HL1.out.1 HL1.out.2 (by have := he1.size; have := XS.out.2.2.2.2; simp; omega) _ rfl ?_; intro g cap w3 hown3 hgrow3 hat3 hlt3; have hB3 := hide (((Blk.ex XS.out.2.2.1 he1 HOF.out).alloc _).grown hgrow3 (XW.out.ne (Nat.lt_succ_self _))); have hc5 : w3.cell? ⟨O, 1, none⟩ = some u := hB3.out.cell 1; have hf5 := hB3.out.frozen 1))
            all_goals
              have HK := hide (kn_set (v := .slice (some ⟨g, 0, none⟩) ((l.take k).length + 1) cap) hFl hO XS.out (fun j hj => (XW.out.own.lt j hj).1) he1 hF1 hgrow3)
              have HRW := hide (kn_row (by omega) XS.out.2.2.2.2 XW.out he1 ⟨a1, c1, rfl, hs1⟩ hown3 hgrow3 hat3)
              clear hown3 hgrow3 hat3 hc3 hc4 hc5 hf5 hB3 hF1 he1 hs1 hlt3
              go_wp2_with fail
              go_roundw
              case rel =>
                have hkl : (l.take k).length = k := by simp; omega
                have h1 := HK.out
                have h2 := HRW.out
                have hmm := HMM.out
                simp only [hkl] at h1 h2
                refine ⟨k + 1, .slice (some ⟨g, 0, none⟩) (k + 1) cap, by omega, by go_num, Or.inl ⟨m - sizeL [l[k]], xs ++ [.string l[k].name, .slice a1 l[k].args.length c1], by rw [sizeL_take l k hlt]; omega, ?_, ?_⟩⟩
                · rw [show ((m - sizeL [l[k]] : Nat) : Int) = (m : Int) - sizeL [l[k]] by omega]
                  exact h1
                · rw [List.take_succ_eq_append_getElem hlt]
                  exact h2
              case measure => simp [intOf]; omega
          · have IHG : Hid (Calls Tryz.prog 114 #[.pointer (some ⟨F, 0, none⟩), .agg #[.string l[k].name, .slice a' l[k].args.length c']] (wr.alloc (.cells #[.string l[k].name, .slice a' l[k].args.length c'] 25)).drew fun e w'' => ∃ s1 a1 l1 c1, e = .returned (.agg #[.string s1, .slice a1 l1 c1]) ∧ Blk w'' F #[.int .i64 (-1), sv] 167 ∧ Ex F wr w'') := IHQ.out.mono fun e w'' hp => by
              obtain ⟨s1, a1, l1, c1, m1, h1, h2, h3, _, h4⟩ := hp
              obtain rfl := h4 (by omega)
              exact ⟨s1, a1, l1, c1, h1, h2, (((Ex.refl F wr).alloc _).drew).trans h3⟩
            clear IHQ
            go_wp2_with fail
            go_region_law (first
              | (go_simp; go_at_call 114; refine IHG.out.mono ?_; rintro e w1 ⟨s1, a1, l1, c1, rfl, hF1, he1⟩; have hc3 : ∀ o, (w1.alloc o).cell? ⟨O, 1, none⟩ = some u := fun o => ((Blk.ex XS.out.2.2.1 he1 HOF.out).alloc o).cell 1; have hc4 : w1.cell? ⟨O, 1, none⟩ = some u := (Blk.ex XS.out.2.2.1 he1 HOF.out).cell 1)
              | (refine step_append_lies _ rfl _ _ 23 rfl (O + 1) 25 i0 _ 2 40 Tryz.underlying23 hi0 hz0 hz1 hz2 rfl (by decide) u (l.take k).length xs rfl (by exact (Row.ex (B := F) XW.out he1 HFO1.out (fun h => h)).own.alloc _) ⟨w1.heap.size, 0, none⟩ 1 1 [.string s1, .slice a1 l1 c1] rfl rfl (cell_two_new _ _ _ _) (fun x hx => by simp at hx; rcases hx with rfl | rfl <;> rfl) (by decide) HL1.out.1 HL1.out.2 (by have := he1.size; have := XS.out.2.2.2.2; simp; omega) _ rfl ?_; intro g cap w3 hown3 hgrow3 hat3 hlt3; have hB3 := hide (((Blk.ex XS.out.2.2.1 he1 HOF.out).alloc _).grown hgrow3 (XW.out.ne (Nat.lt_succ_self _))); have hc5 : w3.cell? ⟨O, 1, none⟩ = some u := hB3.out.cell 1; have hf5 := hB3.out.frozen 1))
            all_goals
              have HK := hide (kn_set (v := .slice (some ⟨g, 0, none⟩) ((l.take k).length + 1) cap) hFl hO XS.out (fun j hj => (XW.out.own.lt j hj).1) he1 hF1 hgrow3)
              clear hown3 hgrow3 hat3 hc3 hc4 hc5 hf5 hB3 hF1 he1 hlt3
              go_wp2_with fail
              go_roundw
              case rel =>
                have hkl : (l.take k).length = k := by simp; omega
                have h0 := HK.out
                have hmm := HMM.out
                simp only [hkl] at h0
                refine ⟨k + 1, .slice (some ⟨g, 0, none⟩) (k + 1) cap, by omega, by go_num, Or.inr ⟨?_, h0, _, _, _, rfl⟩⟩
                have h1 := sizeL_take l k hlt
                have h2 := sizeL_take_le l (k + 1)
                omega
              case measure => simp [intOf]; omega
        · have htk : l.take k = l := List.take_of_length_le (by omega)
          rw [htk] at XW HMM
          obtain ⟨a9, c9, hu9, hsl9⟩ := XW.out.sl
          subst hu9
          have S9 := hide hsl9
          clear hsl9
          have r0 : wr.cell? ⟨w.heap.size + 1, 0, none⟩ = some (.string ⟨#[]⟩) := XS.out.2.1.cell 0
          have r1 : wr.cell? ⟨w.heap.size + 1, 1, none⟩ = some (.slice none 0 0) := XS.out.2.1.cell 1
          have rf := XS.out.2.1.frozen
          have o0 : wr.cell? ⟨O, 0, none⟩ = some (.string s) := XS.out.2.2.1.cell 0
          have o1 : wr.cell? ⟨O, 1, none⟩ = some (.slice a9 l.length c9) := XS.out.2.2.1.cell 1
          go_wp2_with fail
          refine bodyPost_ret (v := .agg #[.string s, .slice a9 l.length c9]) (by simp [results, Tryz.results113, go_sem, World.cell?_setCell_same, World.cell?_setCell_other, r0, r1]) rfl ?_
          have hmm := HMM.out
          refine ⟨s, a9, l.length, c9, m, rfl, (XS.out.2.2.2.1.setOther _ _ (by omega)).setOther _ _ (by omega), (XS.out.1.setNew (by omega) _ _).setNew (by omega) _ _, fun h => ⟨by rw [hz]; omega, rfl, rfl, (S9.out.kept fun b hb => ?_).mono fun b hb _ => ?_⟩, fun h => by omega⟩
          · have hb' : O + 1 ≤ b := hb.elim False.elim id
            rw [Below.heap_setCell _ _ _ _ (by simp; omega), Below.heap_setCell _ _ _ _ (by simp; omega)]
          · have hb' : O + 1 ≤ b := hb.elim False.elim id
            omega
      · have XS := hide hset
        clear hset
        have f0 : ∀ o, (wr.alloc o).cell? ⟨F, 0, none⟩ = some (.int .i64 (-1)) := fun o => (XS.out.2.2.2.1.alloc o).cell 0
        by_cases hlt : k < l.length
        · obtain ⟨b, o, a', c', rfl, d0, d1, hx⟩ := (HS.out.ex XS.out.1 HXF.out).get (Below.refl _ _) (fun _ _ h => h) k hlt
          clear hx
          have o0 : ∀ o, (wr.alloc o).cell? ⟨O, 0, none⟩ = some (.string s) := fun o => (XS.out.2.2.1.alloc o).cell 0
          have o1 : ∀ o, (wr.alloc o).cell? ⟨O, 1, none⟩ = some (.slice a9 l9 c9) := fun o => (XS.out.2.2.1.alloc o).cell 1
          have r0 : wr.cell? ⟨w.heap.size + 1, 0, none⟩ = some (.string ⟨#[]⟩) := XS.out.2.1.cell 0
          have r1 : wr.cell? ⟨w.heap.size + 1, 1, none⟩ = some (.slice none 0 0) := XS.out.2.1.cell 1
          have rf := XS.out.2.1.frozen
          have hRl : w.heap.size + 1 < wr.heap.size := XS.out.2.1.lt
          go_wp2_with fail
          refine bodyPost_ret (v := .agg #[.string s, .slice a9 l9 c9]) (by simp [results, Tryz.results113, go_sem, World.cell?_setCell_same, World.cell?_setCell_other, r0, r1, hRl, World.cell?_alloc_old]) rfl ?_
          exact ⟨s, a9, l9, c9, -1, rfl, ((XS.out.2.2.2.1.setOther _ _ (by omega)).setOther _ _ (by omega)).alloc _, ((XS.out.1.setNew (by omega) _ _).setNew (by omega) _ _).alloc _, fun h => by omega, fun _ => rfl⟩
        · have r0 : wr.cell? ⟨w.heap.size + 1, 0, none⟩ = some (.string ⟨#[]⟩) := XS.out.2.1.cell 0
          have r1 : wr.cell? ⟨w.heap.size + 1, 1, none⟩ = some (.slice none 0 0) := XS.out.2.1.cell 1
          have rf := XS.out.2.1.frozen
          have o0 : wr.cell? ⟨O, 0, none⟩ = some (.string s) := XS.out.2.2.1.cell 0
          have o1 : wr.cell? ⟨O, 1, none⟩ = some (.slice a9 l9 c9) := XS.out.2.2.1.cell 1
          go_wp2_with fail
          refine bodyPost_ret (v := .agg #[.string s, .slice a9 l9 c9]) (by simp [results, Tryz.results113, go_sem, World.cell?_setCell_same, World.cell?_setCell_other, r0, r1]) rfl ?_
          exact ⟨s, a9, l9, c9, -1, rfl, (XS.out.2.2.2.1.setOther _ _ (by omega)).setOther _ _ (by omega), (XS.out.1.setNew (by omega) _ _).setNew (by omega) _ _, fun h => by omega, fun _ => rfl⟩
#print axioms knotC_any
end Go.Proofs.YteojdfmdhgnmfaaGreat


/- Walks: what stands for variables, in a map; what is looked for there. -/
namespace Go.Proofs.YteojdfmdhgnmfaaGreat
open Go.RowKit
set_option linter.unusedSimpArgs false
set_option linter.unusedVariables false
set_option maxRecDepth 8000

/-- No variable twice. -/
def Once (ls : List Bd) : Prop := ∀ k (h : k < ls.length), forT (ls.take k) ls[k].nm = none

/-- The map's values are the bindings' terms. -/
def PairsL (w : World) (X : Nat → Prop) : List Bd → List (ByteArray × Value) → Prop
  | [], L => L = []
  | d :: r, L => ∃ a c L', L = (d.nm, .agg #[.string d.t.name, .slice a d.t.args.length c]) :: L' ∧ Sl w X a d.t.args ∧ PairsL w X r L'
theorem PairsL.imp {w w' : World} {X Y : Nat → Prop} (hs : ∀ a l, Sl w X a l → Sl w' Y a l) : ∀ {l : List Bd} {L : List (ByteArray × Value)}, PairsL w X l L → PairsL w' Y l L
  | [], L, h => h
  | d :: r, L, h => by obtain ⟨a, c, L', e, h1, h2⟩ := h; exact ⟨a, c, L', e, hs _ _ h1, PairsL.imp hs h2⟩
theorem PairsL.push {w : World} {X : Nat → Prop} {d : Bd} {a : Option Addr} {c : Nat} (hs : Sl w X a d.t.args) : ∀ {l : List Bd} {L : List (ByteArray × Value)}, PairsL w X l L → PairsL w X (l ++ [d]) (L ++ [(d.nm, .agg #[.string d.t.name, .slice a d.t.args.length c])])
  | [], L, h => by
    have e : L = [] := h
    subst e
    exact ⟨a, c, [], rfl, hs, rfl⟩
  | d' :: r, L, h => by obtain ⟨a', c', L', e, h1, h2⟩ := h; subst e; exact ⟨a', c', _, rfl, h1, PairsL.push hs h2⟩
theorem PairsL.get {w : World} {X : Nat → Prop} (n : ByteArray) : ∀ {l : List Bd} {L : List (ByteArray × Value)}, PairsL w X l L → (forT l n = none → mapGet L n = none) ∧ (∀ t, forT l n = some t → ∃ a c, mapGet L n = some (.agg #[.string t.name, .slice a t.args.length c]) ∧ Sl w X a t.args)
  | [], L, h => by
    have e : L = [] := h
    subst e
    exact ⟨fun _ => rfl, fun t h => by simp [forT] at h⟩
  | d :: r, L, h => by
    obtain ⟨a, c, L', rfl, h1, h2⟩ := h
    obtain ⟨g1, g2⟩ := PairsL.get n h2
    by_cases hd : d.nm = n
    · refine ⟨fun h => by simp [forT, hd] at h, fun t h => ?_⟩
      rw [forT, if_pos hd] at h
      cases h
      exact ⟨a, c, by simp [mapGet, hd], h1⟩
    · refine ⟨fun h => ?_, fun t h => ?_⟩
      · rw [forT, if_neg hd] at h
        simp only [mapGet, hd, if_false]
        exact g1 h
      · rw [forT, if_neg hd] at h
        simp only [mapGet, hd, if_false]
        exact g2 t h

def ByInv (w : World) (X : Nat → Prop) (ls : List Bd) (v : Value) (wr : World) : Prop := ∃ (k : Nat) (L : List (ByteArray × Value)), v = .int .i64 (k : Int) ∧ k ≤ ls.length ∧ MapAt wr w.heap.size L ∧ PairsL wr (fun b => X b ∧ b < w.heap.size) (ls.take k) L ∧ Below w.heap.size w wr

end Go.Proofs.YteojdfmdhgnmfaaGreat


/- Walks: bindings looked for by a closure. -/
namespace Go.Proofs.YteojdfmdhgnmfaaGreat
open Go.RowKit
set_option linter.unusedSimpArgs false
set_option linter.unusedVariables false
set_option maxRecDepth 8000

end Go.Proofs.YteojdfmdhgnmfaaGreat


/- Walks: a term is filled. -/
namespace Go.Proofs.YteojdfmdhgnmfaaGreat
open Go.RowKit
set_option linter.unusedSimpArgs false
set_option linter.unusedVariables false
set_option maxRecDepth 8000

def fN (ls : List Bd) (s : ByteArray) (bs : List Tm) : Tm := if varB s = true then (match forT ls s with | some x => x | none => ⟨s, bs⟩) else ⟨s, bs⟩
def fL (ls : List Bd) : List Tm → List Tm
  | [] => []
  | ⟨s, a⟩ :: r => fN ls s (fL ls a) :: fL ls r
def fT (ls : List Bd) (t : Tm) : Tm := fN ls t.name (fL ls t.args)

theorem way1 {w0 w1 : World} (h : Below w0.drew.heap.size w0.drew w1) : Below w0.heap.size w0 w1 := ((Below.refl w0.heap.size w0).drew).trans h
theorem way2 {w0 w1 : World} {o : Obj} (h : Below (w0.alloc o).drew.heap.size (w0.alloc o).drew w1) : Below w0.heap.size w0 w1 := (((Below.refl w0.heap.size w0).alloc (Nat.le_refl _) o).drew).trans (h.mono (by simp))
theorem way2b {w0 w1 : World} {cs : Array Value} {T : Nat} (h : Below (w0.alloc (.cells cs T)).drew.heap.size (w0.alloc (.cells cs T)).drew w1) : Blk w1 w0.heap.size cs T := ((Blk.new w0 cs T).drewN 1).below h (by simp)

theorem ff_end {w W w9 : World} {F : Nat} {sv : Value} {t : Tm} {n : Nat} {s' : ByteArray} {a' : Option Addr} {l' c' : Nat} {m : Int} {v0 v1 : Value} (hF : F < w.heap.size) (hW : w.heap.size + 2 ≤ W.heap.size) (h1 : Blk w9 F #[.int .i64 m, sv] 167) (hx : Ex F w w9) (hy : sizeL [t] ≤ n → m = (n : Int) - sizeL [t] ∧ s' = t.name ∧ l' = t.args.length ∧ Sl w9 (fun b => W.heap.size ≤ b) a' t.args) (hn : n < sizeL [t] → m = -1) :
    CpPost w F sv t n (.returned (.agg #[.string s', .slice a' l' c'])) ((w9.setCell ⟨w.heap.size + 1, 0, none⟩ v0).setCell ⟨w.heap.size + 1, 1, none⟩ v1) := by
  refine ⟨s', a', l', c', m, rfl, (h1.setOther _ _ (by omega)).setOther _ _ (by omega), (hx.setNew (by omega) _ _).setNew (by omega) _ _, fun h => ?_, hn⟩
  obtain ⟨e1, e2, e3, e4⟩ := hy h
  refine ⟨e1, e2, e3, (e4.kept fun b hb => ?_).mono fun b hb _ => by omega⟩
  rw [Below.heap_setCell _ _ _ _ (by simp; omega), Below.heap_setCell _ _ _ _ (by simp; omega)]

theorem Ex.ofBelow {B : Nat} {w w' : World} (h : Below w.heap.size w w') : Ex B w w' := ⟨h.os, h.tape, h.output, h.size, fun k hk _ => h.block k hk⟩
theorem two_keep {w : World} {F T b : Nat} {u v x : Value} {i j k : Nat} (h : w.cell? ⟨F, i, none⟩ = some u ∧ w.cell? ⟨T, j, none⟩ = some v) (h1 : b ≠ F) (h2 : b ≠ T) : (w.setCell ⟨b, k, none⟩ x).cell? ⟨F, i, none⟩ = some u ∧ (w.setCell ⟨b, k, none⟩ x).cell? ⟨T, j, none⟩ = some v :=
  ⟨(World.cell?_setCell_other _ _ _ _ (fun e => h1 (by injection e))).trans h.1, (World.cell?_setCell_other _ _ _ _ (fun e => h2 (by injection e))).trans h.2⟩

end Go.Proofs.YteojdfmdhgnmfaaGreat


/- Walks: what lies below a knot is filled. -/
namespace Go.Proofs.YteojdfmdhgnmfaaGreat
open Go.RowKit
set_option linter.unusedSimpArgs false
set_option linter.unusedVariables false
set_option maxRecDepth 8000

theorem fL_map (ls : List Bd) : ∀ l : List Tm, fL ls l = l.map (fT ls)
  | [] => by simp [fL]
  | ⟨s, a⟩ :: r => by rw [fL, fL_map ls r]; rfl

end Go.Proofs.YteojdfmdhgnmfaaGreat


/- Walks: Fill. -/
namespace Go.Proofs.YteojdfmdhgnmfaaGreat
open Go.RowKit
set_option linter.unusedSimpArgs false
set_option linter.unusedVariables false
set_option maxRecDepth 8000

end Go.Proofs.YteojdfmdhgnmfaaGreat


/- Walks: subst's fill. -/
namespace Go.Proofs.YteojdfmdhgnmfaaGreat
open Go.RowKit
set_option linter.unusedSimpArgs false
set_option linter.unusedVariables false
set_option maxRecDepth 8000

end Go.Proofs.YteojdfmdhgnmfaaGreat


/- Walks: whether bindings may be. -/
namespace Go.Proofs.YteojdfmdhgnmfaaGreat
open Go.RowKit
set_option linter.unusedSimpArgs false
set_option linter.unusedVariables false
set_option maxRecDepth 8000

def ScInv (ls : List Bd) (w : World) (v : Value) (wr : World) : Prop := ∃ k : Nat, v = .int .i64 (k : Int) ∧ k ≤ ls.length ∧ bmT ls k = 0 ∧ Below w.heap.size w wr

end Go.Proofs.YteojdfmdhgnmfaaGreat


/- Walks: Apply. -/
namespace Go.Proofs.YteojdfmdhgnmfaaGreat
open Go.RowKit
set_option linter.unusedSimpArgs false
set_option linter.unusedVariables false
set_option maxRecDepth 8000

def ApPost (w : World) (ls : List Bd) (t : Tm) (e : Ending) (w' : World) : Prop :=
  Below w.heap.size w w' ∧ ((bindsE ls ≠ 0 ∧ e = .returned (.tuple #[.agg #[.string ⟨#[]⟩, .slice none 0 0], .int .i64 (bindsE ls)])) ∨ (bindsE ls = 0 ∧ mayE t ≠ 0 ∧ e = .returned (.tuple #[.agg #[.string ⟨#[]⟩, .slice none 0 0], .int .i64 (mayE t)])) ∨
    (bindsE ls = 0 ∧ mayE t = 0 ∧ ((sizeL [fT ls t] ≤ 2000 ∧ ∃ a' c', e = .returned (.tuple #[.agg #[.string (fT ls t).name, .slice a' (fT ls t).args.length c'], .int .i64 0]) ∧ Sl w' (fun b => w.heap.size ≤ b) a' (fT ls t).args) ∨ (2000 < sizeL [fT ls t] ∧ e = .returned (.tuple #[.agg #[.string ⟨#[]⟩, .slice none 0 0], .int .i64 8])))))

end Go.Proofs.YteojdfmdhgnmfaaGreat


/- What is filled is what the document says; bindings that may be have each name once. -/
namespace Go.Proofs.YteojdfmdhgnmfaaGreat
open Go.RowKit
set_option linter.unusedSimpArgs false
set_option linter.unusedVariables false

theorem bmT_all {ls : List Bd} : ∀ n, bmT ls n = 0 → ∀ k, k < n → bmK ls k = 0
  | 0, _, k, hk => by omega
  | n + 1, h, k, hk => by
    rw [bmT] at h
    by_cases h0 : bmT ls n = 0
    · rw [if_pos h0] at h
      by_cases e : k = n
      · rw [e]; exact h
      · exact bmT_all n h0 k (by omega)
    · rw [if_neg h0] at h
      exact absurd h h0
theorem bindsE_all {ls : List Bd} (h : bindsE ls = 0) : ∀ k, k < ls.length → bmK ls k = 0 := by
  unfold bindsE at h
  split at h
  · cases h
  · exact bmT_all _ h
theorem bindsE_at {ls : List Bd} (h : bindsE ls = 0) (k : Nat) (hk : k < ls.length) : varB ls[k].nm = true ∧ mayE ls[k].t = 0 := by
  have h1 := bindsE_all h k hk
  cases hv : (nameB ls[k].nm && varB ls[k].nm) with
  | false => rw [bmK_name hk hv] at h1; cases h1
  | true =>
    refine ⟨by simp at hv; exact hv.2, ?_⟩
    cases k with
    | zero => rw [bmK_first hk hv] at h1; exact h1
    | succ j =>
      cases hl : leB ls[j + 1].nm (ls[j]'(by omega)).nm with
      | true => rw [bmK_order hk hv hl] at h1; cases h1
      | false => rw [bmK_may hk hv hl] at h1; exact h1
theorem bindsE_rise {ls : List Bd} (h : bindsE ls = 0) (j : Nat) (hk : j + 1 < ls.length) : leB ls[j + 1].nm (ls[j]'(by omega)).nm = false := by
  have h1 := bindsE_all h (j + 1) hk
  cases hv : (nameB ls[j + 1].nm && varB ls[j + 1].nm) with
  | false => rw [bmK_name hk hv] at h1; cases h1
  | true =>
    cases hl : leB ls[j + 1].nm (ls[j]'(by omega)).nm with
    | true => rw [bmK_order hk hv hl] at h1; cases h1
    | false => rfl

theorem forT_mem {s : ByteArray} {x : Tm} : ∀ {ls : List Bd}, forT ls s = some x → ∃ d, d ∈ ls ∧ d.nm = s ∧ d.t = x
  | [], h => by cases h
  | d :: r, h => by
    rw [forT] at h
    split at h
    · rename_i e
      exact ⟨d, by simp, e, by simpa using h⟩
    · obtain ⟨d', h1, h2, h3⟩ := forT_mem h
      exact ⟨d', by simp [h1], h2, h3⟩
theorem forT_var {ls : List Bd} (h : bindsE ls = 0) {s : ByteArray} {x : Tm} (hf : forT ls s = some x) : varB s = true ∧ mayE x = 0 := by
  obtain ⟨d, hd, rfl, rfl⟩ := forT_mem hf
  obtain ⟨k, hk, rfl⟩ := List.getElem_of_mem hd
  exact bindsE_at h k hk

theorem fN_onN {ls : List Bd} (h : bindsE ls = 0) (s : ByteArray) (a bs : List Tm) (hv : varB s = true → a = []) : fN ls s bs = onN ls s a bs := by
  unfold fN onN
  cases hs : varB s with
  | true => rw [hv hs]; cases forT ls s <;> rfl
  | false =>
    cases hf : forT ls s with
    | none => rfl
    | some x => rw [(forT_var h hf).1] at hs; cases hs
theorem errL_parts {s : ByteArray} {a r : List Tm} (h : errL (⟨s, a⟩ :: r) = 0) : (varB s = true → a = []) ∧ errL a = 0 ∧ errL r = 0 := by
  rw [errL] at h
  split at h
  · split at h
    · cases h
    · rename_i h1 h2
      split at h
      · rename_i h3
        refine ⟨fun hv => ?_, h3, h⟩
        cases a with
        | nil => rfl
        | cons x y => simp [hv] at h2
      · rename_i h3; exact absurd h h3
  · cases h
theorem fL_onL {ls : List Bd} (h : bindsE ls = 0) : ∀ l : List Tm, errL l = 0 → fL ls l = onL ls l
  | [], _ => by simp [fL, onL]
  | ⟨s, a⟩ :: r, he => by
    obtain ⟨h1, h2, h3⟩ := errL_parts he
    rw [fL, onL, fL_onL h a h2, fL_onL h r h3, fN_onN h s a _ h1]
theorem fT_onT {ls : List Bd} (h : bindsE ls = 0) (t : Tm) (ht : mayE t = 0) : fT ls t = onT ls t := by
  unfold mayE at ht
  split at ht
  · cases ht
  · obtain ⟨s, a⟩ := t
    obtain ⟨h1, h2, _⟩ := errL_parts ht
    unfold fT onT
    rw [fL_onL h a h2, fN_onN h s a _ h1]

theorem leL_cons (x y : UInt8) (xs ys : List UInt8) : (Op.bytesLess (x :: xs) (y :: ys) || (x :: xs == y :: ys)) = (decide (x < y) || ((x == y) && (Op.bytesLess xs ys || (xs == ys)))) := by
  rw [Op.bytesLess]
  have e : (x :: xs == y :: ys) = ((x == y) && (xs == ys)) := rfl
  rw [e]
  cases decide (x < y) <;> cases (x == y) <;> cases Op.bytesLess xs ys <;> cases (xs == ys) <;> rfl
theorem leL_trans : ∀ a b c : List UInt8, (Op.bytesLess b a || (b == a)) = false → (Op.bytesLess c b || (c == b)) = false → (Op.bytesLess c a || (c == a)) = false
  | [], [], _, h, _ => by simp at h
  | _ :: _, [], _, h, _ => by simp [Op.bytesLess] at h
  | _, _ :: _, [], _, h => by simp [Op.bytesLess] at h
  | [], b :: bs, c :: cs, _, _ => by simp [Op.bytesLess]
  | a :: ar, b :: bs, c :: cs, h1, h2 => by
    rw [leL_cons] at h1 h2 ⊢
    have ih := leL_trans ar bs cs
    simp only [Bool.or_eq_false_iff, decide_eq_false_iff_not] at h1 h2 ⊢
    obtain ⟨h1, h3⟩ := h1
    obtain ⟨h2, h4⟩ := h2
    rw [UInt8.lt_iff_toNat_lt] at h1 h2 ⊢
    refine ⟨by omega, ?_⟩
    cases hc : (c == a) with
    | false => rfl
    | true =>
      have e : c = a := by simpa using hc
      subst e
      have e2 : b = c := UInt8.toNat_inj.mp (by omega)
      subst e2
      simp only [BEq.rfl, Bool.true_and, Bool.or_eq_false_iff] at h3 h4 ⊢
      have h5 := ih (by simp [h3.1, h3.2]) (by simp [h4.1, h4.2])
      simpa using h5
theorem bindsE_far {ls : List Bd} (h : bindsE ls = 0) (i : Nat) : ∀ d (hk : i + 1 + d < ls.length), leB (ls[i + 1 + d]).nm (ls[i]'(by omega)).nm = false
  | 0, hk => bindsE_rise h i hk
  | d + 1, hk => by
    have h1 := bindsE_far h i d (by omega)
    have h2 := bindsE_rise h (i + 1 + d) hk
    exact leL_trans _ _ _ h1 h2
theorem bindsE_once {ls : List Bd} (h : bindsE ls = 0) : Once ls := by
  intro k hk
  cases hf : forT (ls.take k) ls[k].nm with
  | none => rfl
  | some x =>
    obtain ⟨d, hd, hn, _⟩ := forT_mem hf
    obtain ⟨i, hi, rfl⟩ := List.getElem_of_mem hd
    have hik : i < k := by simp at hi; omega
    rw [List.getElem_take] at hn
    obtain ⟨e, rfl⟩ : ∃ e, k = i + 1 + e := ⟨k - (i + 1), by omega⟩
    have h1 := bindsE_far h i e hk
    rw [hn] at h1
    simp [leB] at h1

end Go.Proofs.YteojdfmdhgnmfaaGreat
