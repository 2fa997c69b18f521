import Derived.Test.YtmkendjmfdaedaaGreatZRewriteMadeOwn
import Derived.Test.YtmkendjmfdaedaaGreatW165a
namespace Go.Proofs.YtmkendjmfdaedaaGreat
open Go.RowKit
set_option linter.unusedSimpArgs false
set_option linter.unusedVariables false
set_option maxRecDepth 8000
theorem size_pos0 (t : Tm) : 0 < sizeL [t] := by
 obtain ⟨s, l⟩ := t
 simp [sizeL]; omega
theorem atT_sizeR {zs : List Int} : ∀ {t x : Tm}, atT t zs = some x → sizeL [x] ≤ sizeL [t] := by
 induction zs with
 | nil => intro t x h; simp only [atT, Option.some.injEq] at h; subst h; exact Nat.le_refl _
 | cons z zs ih =>
  intro t x h
  simp only [atT] at h
  split at h
  ·rename_i hh
   have h1 := ih h
   have h2 := sizeL_take t.args z.toNat hh.2
   have h3 := sizeL_take_le t.args (z.toNat + 1)
   obtain ⟨s, l⟩ := t
   have : sizeL [(⟨s, l⟩ : Tm)] = 1 + sizeL l := by simp [sizeL]
   simp only at *
   omega
  ·cases h
theorem PV.same {w w1 : World} {X Z : Nat → Prop} {v : Value} {p q : List Int} (h : PV w X v p) (h1 : PV w1 Z v q) (hl : q = p) : PV w Z v p := by
 subst hl
 obtain ⟨a, c, rfl, hl, h⟩ := h
 obtain ⟨a1, c1, e1, hl1, h1⟩ := h1
 cases e1
 refine ⟨a, c, rfl, hl, ?_⟩
 rcases h with h | ⟨b, o, e, _, h⟩
 ·exact Or.inl h
 ·rcases h1 with h1 | ⟨b1, o1, e1, hz, _⟩
  ·exact Or.inl h1
  ·rw [e] at e1
   cases e1
   exact Or.inr ⟨b, o, e, hz, h⟩
def NxInv (rs : List Pr) (inner : Bool) (t : Tm) (ps : List (List Int)) (W0 : World) (o : Value) (wr : World) : Prop :=
 ∃ i : Nat, i ≤ ps.length ∧ o = .int .i64 (i : Int) ∧ (ps.take i).any (okP rs inner t) = false ∧ Below W0.heap.size W0 wr
def NiInv (rs : List Pr) (inner : Bool) (l : List Tm) (w7 : World) (o q : Value) (wr : World) : Prop :=
 ∃ k : Nat, 1 ≤ k ∧ k ≤ l.length ∧ q = .int .i64 (k : Int) ∧ o = .bool (below1 rs l k) ∧ (inner = false → k = 1) ∧ Below w7.heap.size w7 wr
def NxPost (rs : List Pr) (inner : Bool) (t : Tm) (w : World) (e : Ending) (w' : World) : Prop :=
 Below w.heap.size w w' ∧ ((nextP rs inner t = none ∧ e = .returned (.tuple #[.slice none 0 0, .bool false])) ∨ ∃ p v, nextP rs inner t = some p ∧ p ∈ plcT t ∧ e = .returned (.tuple #[v, .bool true]) ∧ PV w' (fun b => w.heap.size ≤ b) v p)
set_option maxHeartbeats 20000000 in
theorem next_any (rs : List Pr) (t : Tm) (inner : Bool) (aa : Option Addr) (ca : Nat) (u : Value) (w : World) (X : Nat → Prop) (hu : QV w X u rs) (hs : Sl w X aa t.args) (h40 : rs.length ≤ 40) (hrz : ∀ p ∈ rs, sizeL [p.l] ≤ 1000000) (hz : sizeL [t] ≤ 2000) :
  Calls Tryz.prog 47 #[u, .agg #[.string t.name, .slice aa t.args.length ca], .bool inner] w fun e w' => NxPost rs inner t w e w' := by
 have HU := hide hu
 have HS := hide hs
 obtain ⟨au, cu, rfl, hlu, _⟩ := hu
 clear hs
 go_enter Tryz.func47, Tryz.ntmps47
 go_wp2_with fail
 refine (placesOf_any t _ _ X ⟨_, _, rfl, HS.out.later ((Below.refl _ _).alloc (Nat.le_refl _) _)⟩ (by omega)).mono ?_
 rintro e W0 ⟨v7, xs7, rfl, hown7, hrow7, hb0⟩
 obtain ⟨g7, cap7, rfl, hg7, hg7', hcel7⟩ := owned_val hown7 (by simp [plcT])
 obtain ⟨fv, hst0⟩ := st_start (ca := ca) HU.out HS.out hb0 (fun b hb => by have h9 := hb.1; simp at h9; omega) hrow7 hg7' hcel7
 have hst := stF_old hst0
 clear hst0
 have HFR : Hid (∀ i (h : i < (plcT t).length), PV W0 (fun b => w.heap.size ≤ b) (fv i) (plcT t)[i]) := fun i h => by
  obtain ⟨u, h1, h2⟩ := hrow7.get i h
  have h3 := (hst.now.pl i h).1
  rw [hcel7 i u h1] at h3
  cases h3
  exact h2.mono fun b hb _ => by have := hb.1; simp at this; omega
 have A0 := hide hst
 have HBW : Hid (Below w.heap.size w W0) := ((Below.refl w.heap.size w).alloc (Nat.le_refl _) _).trans (hb0.mono (by simp))
 have HAT := hide (fun p hp => plc_at p t hp)
 have HPS : Hid ((plcT t).length ≤ 2000) := by unfold Hid; rw [plcT_len]; exact hz
 have HNP : Hid (nextP rs inner t = (plcT t).find? (okP rs inner t)) := rfl
 have HMP : Hid (∀ p, p ∈ plcT t → p ∈ plcT t) := fun _ h => h
 have HSZ : Hid (∀ p x, atT t p = some x → sizeL [x] ≤ 2000) := fun p x h => Nat.le_trans (atT_sizeR h) hz
 obtain ⟨ps, hps⟩ : ∃ ps, ps = plcT t := ⟨_, rfl⟩
 have HPSE := hide hps
 have HFR2 : Hid (∀ i (h : i < ps.length), PV W0 (fun b => w.heap.size ≤ b) (fv i) ps[i]) := by rw [hps]; exact HFR.out
 rw [← hps] at A0 HAT HPS HNP
 have hlps : (plcT t).length = ps.length := by rw [hps]
 rw [hlps]
 clear hown7 hrow7 hb0 hcel7 hst hg7 HS HU hps hlps HFR
 go_wp2_with fail
 go_loopw [9] (fun o wr => NxInv rs inner t ps W0 o wr) (fun o wr => ps.length - (intOf o).toNat)
 case atStart => exact ⟨0, Nat.zero_le _, rfl, by simp, Below.refl _ _⟩
 case round =>
  obtain ⟨i, hi, rfl, hany, hb⟩ := hrel
  have HANY := hide hany
  have HB := hide hb
  clear hany hb
  by_cases hlt : i < ps.length
  ·have hlt2 : (i : Int) < (ps.length : Int) := by omega
   have hi2000 : i ≤ 2000 := by have := HPS.out; omega
   have HROW : Hid (Row wr W0.heap.size 27 (fun b => b < W0.heap.size) (.slice none 0 0) [] []) := Row.start _ _ _ _
   have A1 : Hid (Evs (StF (fun b => b < W0.heap.size) rs t ps aa ca w.heap.size g7 fv (.slice au rs.length cu) W0) wr) := A0.out.later HB.out
   obtain ⟨x, hx⟩ := HAT.out ps[i] (List.getElem_mem hlt)
   have HX := hide hx
   have HTK := hide (anyZ_take (f := okP rs inner t) hlt)
   have HFA := hide (find_at (f := okP rs inner t) hlt HANY.out)
   have HOK : Hid (okP rs inner t ps[i] = okAt rs inner x) := by unfold Hid okP; rw [hx]
   have HMEM : Hid (ps[i] ∈ plcT t) := by rw [← HPSE.out]; exact List.getElem_mem hlt
   have HXZ : Hid (sizeL [x] ≤ 2000) := HSZ.out _ _ hx
   clear hx
   have PLW : Hid (∀ w', StF (fun b => b < W0.heap.size) rs t ps aa ca w.heap.size g7 fv (.slice au rs.length cu) W0 w' → w'.cell? ⟨g7, i, none⟩ = some (fv i) ∧ PV w' (fun b => b < W0.heap.size) (fv i) ps[i]) := fun w' h => h.pl i hlt
   have HFP := hide (HFR2.out i hlt)
   generalize ps[i] = pz at *
   go_upto_region 5 with fail
   go_cut [10] (fun o wc => AtW (fun b => b < W0.heap.size) t x W0 (.slice none 0 0) [] o wc)
   case first =>
    have BD : Hid (Below wr.heap.size wr wr.drew) := below_drewN (Below.refl _ _) 1
    have A2 : Hid (Evs (StF (fun b => b < W0.heap.size) rs t ps aa ca w.heap.size g7 fv (.slice au rs.length cu) W0) wr.drew) := A1.out.later BD.out
    refine wp_region_held_drew (S := StF (fun b => b < W0.heap.size) rs t ps aa ca w.heap.size g7 fv (.slice au rs.length cu) W0) (by kernel_rfl) A2.out.now (fun hHeld => ?_)
    refine tkq (v := ?_) 0 rfl ?_ ?_
    rotate_left
    ·intro w' hSw
     have c0 : w'.cell? ⟨w.heap.size, 0, none⟩ = some (.string t.name) := hSw.k1.cell 0
     have c1 : w'.cell? ⟨w.heap.size, 1, none⟩ = some (.slice aa t.args.length ca) := hSw.k1.cell 1
     go_simp <;> with_reducible rfl
    try simp only [Act.put, sq]
    refine tkq (v := ?_) 1 rfl ?_ ?_
    rotate_left
    ·intro w' hSw
     go_simp <;> with_reducible rfl
    try simp only [Act.put, sq]
    refine tkq (v := ?_) 2 rfl ?_ ?_
    rotate_left
    ·intro w' hSw
     go_simp <;> with_reducible rfl
    try simp only [Act.put, sq]
    refine tkq (v := ?_) 3 rfl ?_ ?_
    rotate_left
    ·intro w' hSw
     go_simp <;> with_reducible rfl
    try simp only [Act.put, sq]
    refine tkq (v := ?_) 4 rfl ?_ ?_
    rotate_left
    ·intro w' hSw
     have c0 := (PLW.out _ hSw).1
     go_simp <;> with_reducible rfl
    try simp only [Act.put, sq]
    generalize wr.drew = wd at *
    refine wpAnyH_ready (rs := [5, 9]) (by kernel_rfl) (by simp) ?_
    refine AllReadyH.cons rfl (fun K hK => ?_) (AllReadyH.cons rfl (fun K hK => ?_) AllReadyH.nil)
    ·go_simp
     go_at_call 40
     refine (atOf_good HX.out _ _ _ (fun b => b < W0.heap.size) ⟨_, _, rfl, A2.out.now.s1⟩ (PLW.out _ A2.out.now).2).mono ?_
     rintro e w5 ⟨a9, c9, rfl, hs9, hb5⟩
     have A5 := hide (A2.out.later hb5)
     have S9 := hide hs9
     have B5 := hide (BD.out.trans (hb5.mono BD.out.size))
     clear hs9 hb5
     go_simp
     refine hK.out _ _ (by exact A5.out.now) (fun hHeld => ?_)
     clear hK K
     try simp only [Act.put, sq]
     refine tkq (v := ?_) 6 rfl ?_ ?_
     rotate_left
     ·intro w' hSw
      go_simp <;> with_reducible rfl
     try simp only [Act.put, sq]
     refine tkq (v := ?_) 7 rfl ?_ ?_
     rotate_left
     ·intro w' hSw
      go_simp <;> with_reducible rfl
     try simp only [Act.put, sq]
     refine tkq (v := ?_) 8 rfl ?_ ?_
     rotate_left
     ·intro w' hSw
      go_simp <;> with_reducible rfl
     try simp only [Act.put, sq]
     refine rdq 9 rfl fun K hK => ?_
     go_simp
     refine hK.out _ _ (by exact (A5.out.alloc _).now) (fun hHeld => ?_)
     clear hK K
     try simp only [Act.put, sq]
     refine rdq 10 rfl fun K hK => ?_
     go_simp
     refine hK.out _ _ (by exact (A5.out.alloc _).now) (fun hHeld => ?_)
     clear hK K
     try simp only [Act.put, sq]
     refine tkq (v := ?_) 11 rfl ?_ ?_
     rotate_left
     ·intro w' hSw
      go_simp <;> with_reducible rfl
     try simp only [Act.put, sq]
     refine wpAnyH_done (by kernel_rfl) ?_ _
     go_wp2_with fail
     go_meet
     exact atW_endA HROW.out HB.out B5.out S9.out
    ·go_simp
     refine hK.out _ _ (by exact (A2.out.alloc _).now) (fun hHeld => ?_)
     clear hK K
     try simp only [Act.put, sq]
     have AZ := hide (A2.out.alloc (.cells #[.string ⟨#[]⟩, .slice none 0 0] 27))
     have UZ := hide (Blk.new wd #[.string ⟨#[]⟩, .slice none 0 0] 27)
     refine rdq 5 rfl fun K hK => ?_
     go_simp
     go_at_call 40
     refine (atOf_good HX.out _ _ _ (fun b => b < W0.heap.size) ⟨_, _, rfl, AZ.out.now.s1⟩ (PLW.out _ AZ.out.now).2).mono ?_
     rintro e w5 ⟨a9, c9, rfl, hs9, hb5⟩
     have A5 := hide (AZ.out.later hb5)
     have S9 := hide hs9
     have U5 := hide (UZ.out.below hb5 UZ.out.lt)
     have B5 := hide (((Below.refl wd.heap.size wd).alloc (Nat.le_refl _) (.cells #[.string ⟨#[]⟩, .slice none 0 0] 27)).trans (hb5.mono (by simp)))
     clear hs9 hb5
     go_simp
     refine hK.out _ _ (by exact A5.out.now) (fun hHeld => ?_)
     clear hK K
     try simp only [Act.put, sq]
     refine tkq (v := ?_) 6 rfl ?_ ?_
     rotate_left
     ·intro w' hSw
      go_simp <;> with_reducible rfl
     try simp only [Act.put, sq]
     refine tkq (v := ?_) 7 rfl ?_ ?_
     rotate_left
     ·intro w' hSw
      go_simp <;> with_reducible rfl
     try simp only [Act.put, sq]
     refine tkq (v := ?_) 8 rfl ?_ ?_
     rotate_left
     ·intro w' hSw
      go_simp <;> with_reducible rfl
     try simp only [Act.put, sq]
     have z0 := U5.out.c0
     have z1 := U5.out.c1
     have zf := U5.out.frozen
     have zl : wd.heap.size < w5.heap.size := U5.out.lt
     have UP := hide (atW_endB (fun b (h : b < W0.heap.size) => h) (t := t) (c9 := c9) (HROW.out.below BD.out) (HB.out.trans (BD.out.mono HB.out.size)) B5.out U5.out S9.out)
     refine rdq 10 rfl fun K hK => ?_
     go_simp
     refine hK.out _ _ (by exact (A2.out.later UP.out.1).now) (fun hHeld => ?_)
     clear hK K
     try simp only [Act.put, sq]
     refine tkq (v := ?_) 11 rfl ?_ ?_
     rotate_left
     ·intro w' hSw
      go_simp <;> with_reducible rfl
     try simp only [Act.put, sq]
     refine wpAnyH_done (by kernel_rfl) ?_ _
     go_wp2_with fail
     go_meet
     exact UP.out.2
   obtain ⟨B9, a9, c9, xs9, rfl, hk9, hs9, hB9, _, _, hb9⟩ := hcut
   have S9 : Hid (∀ w', Below W0.heap.size W0 w' → Sl w' (fun b => b < W0.heap.size) a9 x.args) := fun w' hb => hs9.kept fun b h => (hb.block b h).trans (hb9.block b h).symm
   have K9 := hide hk9
   have BW9 := hide hb9
   clear hk9 hs9 hb9 hB9 HROW A1
   have d0 : wc.cell? ⟨B9, 0, none⟩ = some (.string x.name) := K9.out.cell 0
   have d1 : wc.cell? ⟨B9, 1, none⟩ = some (.slice a9 x.args.length c9) := K9.out.cell 1
   go_wp2_with fail
   refine (fitR_any rs x a9 c9 _ _ (fun b => b < W0.heap.size) (A0.out _ BW9.out).qv (S9.out _ BW9.out) hrz).mono ?_
   rintro e w6 ⟨rfl, hb6⟩
   have K6 := hide (K9.out.below hb6 K9.out.lt)
   have B6 := hide (BW9.out.trans (hb6.mono BW9.out.size))
   clear hb6 d0 d1 K9 BW9
   cases hf : fitsB rs x with
   | false =>
    have HOA : Hid (okAt rs inner x = false) := by unfold Hid okAt; rw [hf]; rfl
    have BX := hide B6.out
    clear hf
    go_wp2_with fail
    go_roundw
    case rel => exact ⟨i + 1, by omega, by go_num, by rw [HTK.out, HANY.out, HOK.out, HOA.out]; rfl, BX.out⟩
    case measure => simp [intOf]; omega
   | true =>
    have HOA0 : Hid (okAt rs inner x = (!inner || ((preL [x]).drop 1).all fun y => !fitsB rs y)) := by unfold Hid okAt; rw [hf]; rfl
    clear hf
    have d0 : w6.cell? ⟨B9, 0, none⟩ = some (.string x.name) := K6.out.cell 0
    have d1 : w6.cell? ⟨B9, 1, none⟩ = some (.slice a9 x.args.length c9) := K6.out.cell 1
    go_wp2_with fail
    refine (knots_any x _ _ (fun b => b < W0.heap.size) ⟨_, _, rfl, S9.out _ B6.out⟩ (by have := HXZ.out; omega)).mono ?_
    rintro e w7 ⟨v12, xs12, rfl, hown12, hrow12, hb7⟩
    have B7 := hide (B6.out.trans (hb7.mono B6.out.size))
    obtain ⟨g12, cap12, rfl, hg12, hg12', hcel12⟩ := owned_val hown12 (size_pos0 x)
    have HC := hide hcel12
    have HR := hide (hrow12.imp fun a l h => h.later hb7)
    have HLK : Hid ((preL [x]).length = sizeL [x]) := preL_length [x]
    rw [← HLK.out]
    have hlk : 1 ≤ (preL [x]).length ∧ (preL [x]).length ≤ 2000 := by have h1 := HLK.out; have h2 := HXZ.out; have h3 := size_pos0 x; omega
    clear hown12 hrow12 hb7 hcel12 hg12 d0 d1
    generalize preL [x] = kn at *
    go_wp2_with fail
    go_loopw [13, 14] (fun o q wr => NiInv rs inner kn w7 o q wr) (fun o q wr => kn.length - (intOf q).toNat)
    case atStart => exact ⟨1, by omega, hlk.1, rfl, by rw [below1_one], fun _ => rfl, Below.refl _ _⟩
    case round =>
     obtain ⟨k, hk1, hk, rfl, rfl, hin, hb⟩ := hrel
     have HBK := hide hb
     have HIN := hide hin
     have BX := hide (B7.out.trans (hb.mono B7.out.size))
     clear hb hin
     have q0 := (PLW.out _ (A0.out _ BX.out)).1
     by_cases hkl : k < kn.length
     ·have hkl2 : (k : Int) < (kn.length : Int) := by omega
      cases inner with
      | false =>
       have hk11 := HIN.out rfl
       subst hk11
       have HOA : Hid (okAt rs false x = true) := by unfold Hid; rw [HOA0.out]; rfl
       rw [below1_one]
       go_wp2_with fail
       refine bodyPost_ret (v := .tuple #[fv i, .bool true]) (by simp [results, Tryz.results47, go_sem]) rfl ?_
       exact ⟨HBW.out.trans (BX.out.mono HBW.out.size), Or.inr ⟨pz, fv i, by rw [HNP.out]; exact HFA.out (by rw [HOK.out]; exact HOA.out), HMEM.out, rfl, (PLW.out _ (A0.out _ BX.out)).2.same HFP.out rfl⟩⟩
      | true =>
       cases hok : below1 rs kn k with
       | false =>
        have HOA : Hid (okAt rs true x = false) := by unfold Hid; rw [HOA0.out, below1_no hok]; rfl
        clear hok
        go_wp2_with fail
        go_roundw
        case rel => exact ⟨i + 1, by omega, by go_num, by rw [HTK.out, HANY.out, HOK.out, HOA.out]; rfl, BX.out⟩
        case measure => simp [intOf]; omega
       | true =>
        obtain ⟨e0, av, cv, e1, hsv⟩ := HR.out.get k hkl
        have f0 : wr.cell? ⟨g12, k * 2, none⟩ = some (.string kn[k].name) := (HBK.out.cell (p := ⟨g12, k * 2, none⟩) hg12').trans (HC.out _ _ e0)
        have f1 : wr.cell? ⟨g12, k * 2 + 1, none⟩ = some (.slice av kn[k].args.length cv) := (HBK.out.cell (p := ⟨g12, k * 2 + 1, none⟩) hg12').trans (HC.out _ _ e1)
        have SV := hide (hsv.later HBK.out)
        have HBN := hide (below1_next (rs := rs) hk1 hkl)
        clear e0 e1 hsv
        generalize kn[k] = y at *
        rw [hok] at HBN
        clear hok
        go_wp2_with fail
        refine (fitR_any rs y av cv _ _ (fun b => b < W0.heap.size) (A0.out _ BX.out).qv SV.out hrz).mono ?_
        rintro e w8 ⟨rfl, hb8⟩
        have B8 := hide (HBK.out.trans (hb8.mono HBK.out.size))
        clear hb8 q0 f0 f1
        go_wp2_with fail
        go_roundw
        case rel => exact ⟨k + 1, by omega, by omega, by go_num, by rw [HBN.out]; simp, (fun h => by cases h), B8.out⟩
        case measure => simp [intOf]; omega
     ·have hkn : k = kn.length := by omega
      have hkl2 : ¬ (k : Int) < (kn.length : Int) := by omega
      have HBL : Hid (below1 rs kn k = (kn.drop 1).all fun y => !fitsB rs y) := by unfold Hid below1; rw [hkn, List.take_length]
      cases hok : below1 rs kn k with
      | true =>
       have HOA : Hid (okAt rs inner x = true) := by unfold Hid; rw [HOA0.out, ← HBL.out, hok]; simp
       clear hok
       go_wp2_with fail
       refine bodyPost_ret (v := .tuple #[fv i, .bool true]) (by simp [results, Tryz.results47, go_sem]) rfl ?_
       exact ⟨HBW.out.trans (BX.out.mono HBW.out.size), Or.inr ⟨pz, fv i, by rw [HNP.out]; exact HFA.out (by rw [HOK.out]; exact HOA.out), HMEM.out, rfl, (PLW.out _ (A0.out _ BX.out)).2.same HFP.out rfl⟩⟩
      | false =>
       have HOA : Hid (okAt rs inner x = false) := by
        unfold Hid
        rw [HOA0.out, ← HBL.out, hok]
        cases inner with
        | true => rfl
        | false =>
         have h1 := HIN.out rfl
         rw [h1, below1_one] at hok
         cases hok
       clear hok
       go_wp2_with fail
       go_roundw
       case rel => exact ⟨i + 1, by omega, by go_num, by rw [HTK.out, HANY.out, HOK.out, HOA.out]; rfl, BX.out⟩
       case measure => simp [intOf]; omega
  ·go_wp2_with fail
   refine bodyPost_ret (v := .tuple #[.slice none 0 0, .bool false]) (by simp [results, Tryz.results47, go_sem]) rfl ?_
   have htk : ps.take i = ps := List.take_of_length_le (by omega)
   have ha := HANY.out
   rw [htk] at ha
   exact ⟨HBW.out.trans (HB.out.mono HBW.out.size), Or.inl ⟨by rw [HNP.out]; exact find_no ha, rfl⟩⟩
end Go.Proofs.YtmkendjmfdaedaaGreat
