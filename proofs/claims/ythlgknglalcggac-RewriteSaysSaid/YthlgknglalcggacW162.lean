/- Walks: what one step makes of a term, as the document says. -/
import Derived.Test.YthlgknglalcggacW162a
namespace Go.Proofs.Ythlgknglalcggac
open Go.RowKit
set_option linter.unusedSimpArgs false
set_option linter.unusedVariables false
set_option maxRecDepth 8000

theorem atOf_good {t x : Tm} {p : List Int} (hx : atT t p = some x) (v pv : Value) (w : World) (X : Nat → Prop) (hv : TV w X v t) (hp : PV w X pv p) :
    Calls Try.prog 54 #[v, pv] w fun e w' => ∃ (a9 : Option Addr) (c9 : Nat), e = .returned (.tuple #[.agg #[.string x.name, .slice a9 x.args.length c9], .bool true]) ∧ Sl w' X a9 x.args ∧ Below w.heap.size w w' := by
  refine (atOf_any p t v pv w X hv hp).mono ?_
  rintro e w' ⟨v', rfl, hyes, _, hb⟩
  obtain ⟨a, c, rfl, hs⟩ := hyes x hx
  rw [hx]
  exact ⟨a, c, rfl, hs.later hb, hb⟩
theorem st_start {rs : List Pr} {t : Tm} {aa : Option Addr} {ca : Nat} {u : Value} {w w1 : World} {X : Nat → Prop} (hu : QV w X u rs) (hs : Sl w X aa t.args) (hb : Below (w.alloc (.cells #[.string t.name, .slice aa t.args.length ca] 25)).heap.size (w.alloc (.cells #[.string t.name, .slice aa t.args.length ca] 25)) w1) {g7 : Nat} {xs7 : List Value} {Z : Nat → Prop} (hr : RowP w1 Z (plcT t) xs7) (hg : g7 < w1.heap.size) (hc : ∀ j u, xs7[j]? = some u → w1.cell? ⟨g7, j, none⟩ = some u) :
    ∃ fv, Evs (StF rs t (plcT t) aa ca w.heap.size g7 fv u w1) w1 := by
  have hbw := ((Below.refl w.heap.size w).alloc (Nat.le_refl _) (.cells #[.string t.name, .slice aa t.args.length ca] 25)).trans (hb.mono (by simp))
  refine ⟨fun i => (xs7[i]?).getD (.bool false), stF_ev ⟨(Blk.new w _ _).below hb (by simp), (hs.later hbw).mono fun b _ h => h, fun i hi => ?_, (hu.later hbw).mono fun b _ h => h, Below.refl _ _⟩ hg⟩
  obtain ⟨u, h1, h2⟩ := hr.get i hi
  simp only [h1, Option.getD_some]
  exact ⟨hc i u h1, h2.mono fun b _ h => h⟩
set_option maxHeartbeats 20000000 in
theorem stepsOf_any (rs : List Pr) (t : Tm) (aa : Option Addr) (ca : Nat) (u : Value) (w : World) (X : Nat → Prop) (hu : QV w X u rs) (hs : Sl w X aa t.args) (h40 : rs.length ≤ 40) (hrz : ∀ p ∈ rs, sizeL [p.l] ≤ 1000000 ∧ sizeL [p.r] ≤ 1000000) (hz : sizeL [t] ≤ 2000) :
    Calls Try.prog 24 #[u, .agg #[.string t.name, .slice aa t.args.length ca]] w fun e w' => StoPost rs t w e w' := by
  have HU := hide hu
  have HS := hide hs
  obtain ⟨au, cu, rfl, hlu, _⟩ := hu
  clear hs
  go_enter Try.func24, Try.ntmps24
  go_wp2_with fail
  refine (placesOf_any t _ _ X ⟨_, _, rfl, HS.out.later ((Below.refl _ _).alloc (Nat.le_refl _) _)⟩ (by omega)).mono ?_
  rintro e W0 ⟨v7, xs7, rfl, hown7, hrow7, hb0⟩
  obtain ⟨g7, cap7, rfl, hg7, hg7', hcel7⟩ := owned_val hown7 (by simp [plcT])
  obtain ⟨fv, hst⟩ := st_start (ca := ca) HU.out HS.out hb0 hrow7 hg7' hcel7
  have A0 := hide hst
  have HBW : Hid (Below w.heap.size w W0) := ((Below.refl w.heap.size w).alloc (Nat.le_refl _) _).trans (hb0.mono (by simp))
  have HAT := hide (fun p hp => plc_at p t hp)
  have HPS : Hid ((plcT t).length ≤ 2000) := by unfold Hid; rw [plcT_len]; exact hz
  have HALLS : Hid (stAll rs t = (plcT t).flatMap (stAt rs t)) := rfl
  generalize plcT t = ps at *
  clear hown7 hrow7 hb0 hcel7 hst hg7 HS HU
  go_wp2_with fail
  go_loopw [7, 8] (fun v o wr => StoInv rs t ps W0 v o wr) (fun v o wr => ps.length - (intOf o).toNat)
  case atStart => exact ⟨0, [], Nat.zero_le _, rfl, Row.start _ _ _ _, by simp, Below.refl _ _⟩
  case round =>
    obtain ⟨i, xs, hi, rfl, hrow, hall, hb⟩ := hrel
    have HROW := hide hrow
    have HALL := hide hall
    have HB := hide hb
    clear hrow hall hb
    by_cases hlt : i < ps.length
    · have hlt2 : (i : Int) < (ps.length : Int) := by omega
      have hi2000 : i ≤ 2000 := by have := HPS.out; omega
      have A1 : Hid (Evs (StF rs t ps aa ca w.heap.size g7 fv (.slice au rs.length cu) W0) wr) := A0.out.later HB.out
      obtain ⟨x, hx⟩ := HAT.out ps[i] (List.getElem_mem hlt)
      have HX := hide hx
      clear hx
      have HNX := hide (flat_next (rs := rs) (t := t) hlt)
      obtain ⟨l0, hl0⟩ : ∃ l0, l0 = (ps.take i).flatMap (stAt rs t) := ⟨_, rfl⟩
      have HLEN : Hid (l0.length ≤ 80000) := by
        have h1 := flat_len (t := t) h40 (ps.take i)
        have h2 := HPS.out
        unfold Hid
        rw [hl0]
        simp only [List.length_take] at h1
        omega
      rw [← hl0] at HROW HALL HNX
      clear hl0
      have PLW : Hid (∀ w', StF rs t ps aa ca w.heap.size g7 fv (.slice au rs.length cu) W0 w' → w'.cell? ⟨g7, i, none⟩ = some (fv i) ∧ PV w' (fun b => b < W0.heap.size) (fv i) ps[i]) := fun w' h => h.pl i hlt
      obtain ⟨pa, pc, hpv, _, _⟩ := (PLW.out _ A1.out.now).2
      have HPV := hide hpv
      clear hpv
      have HPZ := hide (List.getElem_mem hlt)
      generalize ps[i] = pz at *
      go_upto_region 6 with fail
      go_cut [9] (fun o wc => AtW t x W0 u7 l0 o wc)
      case first =>
        have BD : Hid (Below wr.heap.size wr wr.drew) := below_drewN (Below.refl _ _) 1
        have A2 : Hid (Evs (StF rs t ps aa ca w.heap.size g7 fv (.slice au rs.length cu) W0) wr.drew) := A1.out.later BD.out
        refine wp_region_held_drew (S := StF rs t ps aa ca w.heap.size g7 fv (.slice au rs.length cu) W0) (by kernel_rfl) A2.out.now (fun hHeld => ?_)
        refine wpAnyH_take (i := 0) (v := ?_) rfl (by kernel_rfl) (by kernel_rfl) (by kernel_rfl) (fun _ _ _ h => h) (Or.inl ⟨by rfl, ?_⟩) (by assumption) ?_
        rotate_left
        · intro w' hSw
          have c0 : w'.cell? ⟨w.heap.size, 0, none⟩ = some (.string t.name) := hSw.k1.cell 0
          have c1 : w'.cell? ⟨w.heap.size, 1, none⟩ = some (.slice aa t.args.length ca) := hSw.k1.cell 1
          go_simp <;> with_reducible rfl
        try simp only [Act.put, List.setIfInBounds_toArray, List.set_cons_zero, List.set_cons_succ, List.getElem_toArray, List.getElem_cons_succ, List.getElem_cons_zero]
        refine wpAnyH_take (i := 1) (v := ?_) rfl (by kernel_rfl) (by kernel_rfl) (by kernel_rfl) (fun _ _ _ h => h) (Or.inl ⟨by rfl, ?_⟩) (by assumption) ?_
        rotate_left
        · intro w' hSw
          go_simp <;> with_reducible rfl
        try simp only [Act.put, List.setIfInBounds_toArray, List.set_cons_zero, List.set_cons_succ, List.getElem_toArray, List.getElem_cons_succ, List.getElem_cons_zero]
        refine wpAnyH_take (i := 2) (v := ?_) rfl (by kernel_rfl) (by kernel_rfl) (by kernel_rfl) (fun _ _ _ h => h) (Or.inl ⟨by rfl, ?_⟩) (by assumption) ?_
        rotate_left
        · intro w' hSw
          go_simp <;> with_reducible rfl
        try simp only [Act.put, List.setIfInBounds_toArray, List.set_cons_zero, List.set_cons_succ, List.getElem_toArray, List.getElem_cons_succ, List.getElem_cons_zero]
        refine wpAnyH_take (i := 3) (v := ?_) rfl (by kernel_rfl) (by kernel_rfl) (by kernel_rfl) (fun _ _ _ h => h) (Or.inl ⟨by rfl, ?_⟩) (by assumption) ?_
        rotate_left
        · intro w' hSw
          go_simp <;> with_reducible rfl
        try simp only [Act.put, List.setIfInBounds_toArray, List.set_cons_zero, List.set_cons_succ, List.getElem_toArray, List.getElem_cons_succ, List.getElem_cons_zero]
        refine wpAnyH_take (i := 4) (v := ?_) rfl (by kernel_rfl) (by kernel_rfl) (by kernel_rfl) (fun _ _ _ h => h) (Or.inl ⟨by rfl, ?_⟩) (by assumption) ?_
        rotate_left
        · intro w' hSw
          have c0 := (PLW.out _ hSw).1
          go_simp <;> with_reducible rfl
        try simp only [Act.put, List.setIfInBounds_toArray, List.set_cons_zero, List.set_cons_succ, List.getElem_toArray, List.getElem_cons_succ, List.getElem_cons_zero]
        generalize wr.drew = wd at *
        refine wpAnyH_ready (rs := [5, 9]) (by kernel_rfl) (by simp) ?_
        refine AllReadyH.cons rfl (fun K hK => ?_) (AllReadyH.cons rfl (fun K hK => ?_) AllReadyH.nil)
        · go_simp
          go_at_call 54
          refine (atOf_good HX.out _ _ _ (fun b => b < W0.heap.size) ⟨_, _, rfl, A2.out.now.s1⟩ (PLW.out _ A2.out.now).2).mono ?_
          rintro e w5 ⟨a9, c9, rfl, hs9, hb5⟩
          have A5 := hide (A2.out.later hb5)
          have S9 := hide hs9
          have B5 := hide (BD.out.trans (hb5.mono BD.out.size))
          clear hs9 hb5
          go_simp
          refine hK.out _ _ (by exact A5.out.now) (fun hHeld => ?_)
          clear hK K
          try simp only [Act.put, List.setIfInBounds_toArray, List.set_cons_zero, List.set_cons_succ, List.getElem_toArray, List.getElem_cons_succ, List.getElem_cons_zero]
          refine wpAnyH_take (i := 6) (v := ?_) rfl (by kernel_rfl) (by kernel_rfl) (by kernel_rfl) (fun _ _ _ h => h) (Or.inl ⟨by rfl, ?_⟩) (by assumption) ?_
          rotate_left
          · intro w' hSw
            go_simp <;> with_reducible rfl
          try simp only [Act.put, List.setIfInBounds_toArray, List.set_cons_zero, List.set_cons_succ, List.getElem_toArray, List.getElem_cons_succ, List.getElem_cons_zero]
          refine wpAnyH_take (i := 7) (v := ?_) rfl (by kernel_rfl) (by kernel_rfl) (by kernel_rfl) (fun _ _ _ h => h) (Or.inl ⟨by rfl, ?_⟩) (by assumption) ?_
          rotate_left
          · intro w' hSw
            go_simp <;> with_reducible rfl
          try simp only [Act.put, List.setIfInBounds_toArray, List.set_cons_zero, List.set_cons_succ, List.getElem_toArray, List.getElem_cons_succ, List.getElem_cons_zero]
          refine wpAnyH_take (i := 8) (v := ?_) rfl (by kernel_rfl) (by kernel_rfl) (by kernel_rfl) (fun _ _ _ h => h) (Or.inl ⟨by rfl, ?_⟩) (by assumption) ?_
          rotate_left
          · intro w' hSw
            go_simp <;> with_reducible rfl
          try simp only [Act.put, List.setIfInBounds_toArray, List.set_cons_zero, List.set_cons_succ, List.getElem_toArray, List.getElem_cons_succ, List.getElem_cons_zero]
          refine wpAnyH_ready (rs := [9]) (by kernel_rfl) (by simp) ?_
          refine AllReadyH.cons rfl (fun K hK => ?_) AllReadyH.nil
          go_simp
          refine hK.out _ _ (by exact (A5.out.alloc _).now) (fun hHeld => ?_)
          clear hK K
          try simp only [Act.put, List.setIfInBounds_toArray, List.set_cons_zero, List.set_cons_succ, List.getElem_toArray, List.getElem_cons_succ, List.getElem_cons_zero]
          refine wpAnyH_ready (rs := [10]) (by kernel_rfl) (by simp) ?_
          refine AllReadyH.cons rfl (fun K hK => ?_) AllReadyH.nil
          go_simp
          refine hK.out _ _ (by exact (A5.out.alloc _).now) (fun hHeld => ?_)
          clear hK K
          try simp only [Act.put, List.setIfInBounds_toArray, List.set_cons_zero, List.set_cons_succ, List.getElem_toArray, List.getElem_cons_succ, List.getElem_cons_zero]
          refine wpAnyH_take (i := 11) (v := ?_) rfl (by kernel_rfl) (by kernel_rfl) (by kernel_rfl) (fun _ _ _ h => h) (Or.inl ⟨by rfl, ?_⟩) (by assumption) ?_
          rotate_left
          · intro w' hSw
            go_simp <;> with_reducible rfl
          try simp only [Act.put, List.setIfInBounds_toArray, List.set_cons_zero, List.set_cons_succ, List.getElem_toArray, List.getElem_cons_succ, List.getElem_cons_zero]
          refine wpAnyH_done (by kernel_rfl) ?_ _
          go_wp2_with fail
          go_meet
          exact atW_endA HROW.out HB.out B5.out S9.out
        · go_simp
          refine hK.out _ _ (by exact (A2.out.alloc _).now) (fun hHeld => ?_)
          clear hK K
          try simp only [Act.put, List.setIfInBounds_toArray, List.set_cons_zero, List.set_cons_succ, List.getElem_toArray, List.getElem_cons_succ, List.getElem_cons_zero]
          have AZ := hide (A2.out.alloc (.cells #[.string ⟨#[]⟩, .slice none 0 0] 25))
          have UZ := hide (Blk.new wd #[.string ⟨#[]⟩, .slice none 0 0] 25)
          refine wpAnyH_ready (rs := [5]) (by kernel_rfl) (by simp) ?_
          refine AllReadyH.cons rfl (fun K hK => ?_) AllReadyH.nil
          go_simp
          go_at_call 54
          refine (atOf_good HX.out _ _ _ (fun b => b < W0.heap.size) ⟨_, _, rfl, AZ.out.now.s1⟩ (PLW.out _ AZ.out.now).2).mono ?_
          rintro e w5 ⟨a9, c9, rfl, hs9, hb5⟩
          have A5 := hide (AZ.out.later hb5)
          have S9 := hide hs9
          have U5 := hide (UZ.out.below hb5 UZ.out.lt)
          have B5 := hide (((Below.refl wd.heap.size wd).alloc (Nat.le_refl _) (.cells #[.string ⟨#[]⟩, .slice none 0 0] 25)).trans (hb5.mono (by simp)))
          clear hs9 hb5
          go_simp
          refine hK.out _ _ (by exact A5.out.now) (fun hHeld => ?_)
          clear hK K
          try simp only [Act.put, List.setIfInBounds_toArray, List.set_cons_zero, List.set_cons_succ, List.getElem_toArray, List.getElem_cons_succ, List.getElem_cons_zero]
          refine wpAnyH_take (i := 6) (v := ?_) rfl (by kernel_rfl) (by kernel_rfl) (by kernel_rfl) (fun _ _ _ h => h) (Or.inl ⟨by rfl, ?_⟩) (by assumption) ?_
          rotate_left
          · intro w' hSw
            go_simp <;> with_reducible rfl
          try simp only [Act.put, List.setIfInBounds_toArray, List.set_cons_zero, List.set_cons_succ, List.getElem_toArray, List.getElem_cons_succ, List.getElem_cons_zero]
          refine wpAnyH_take (i := 7) (v := ?_) rfl (by kernel_rfl) (by kernel_rfl) (by kernel_rfl) (fun _ _ _ h => h) (Or.inl ⟨by rfl, ?_⟩) (by assumption) ?_
          rotate_left
          · intro w' hSw
            go_simp <;> with_reducible rfl
          try simp only [Act.put, List.setIfInBounds_toArray, List.set_cons_zero, List.set_cons_succ, List.getElem_toArray, List.getElem_cons_succ, List.getElem_cons_zero]
          refine wpAnyH_take (i := 8) (v := ?_) rfl (by kernel_rfl) (by kernel_rfl) (by kernel_rfl) (fun _ _ _ h => h) (Or.inl ⟨by rfl, ?_⟩) (by assumption) ?_
          rotate_left
          · intro w' hSw
            go_simp <;> with_reducible rfl
          try simp only [Act.put, List.setIfInBounds_toArray, List.set_cons_zero, List.set_cons_succ, List.getElem_toArray, List.getElem_cons_succ, List.getElem_cons_zero]
          have z0 : w5.cell? ⟨wd.heap.size, 0, none⟩ = some (.string ⟨#[]⟩) := U5.out.cell 0
          have z1 : w5.cell? ⟨wd.heap.size, 1, none⟩ = some (.slice none 0 0) := U5.out.cell 1
          have zf := U5.out.frozen
          have zl : wd.heap.size < w5.heap.size := U5.out.lt
          have UP := hide (atW_endB (t := t) (c9 := c9) (HROW.out.below BD.out) (HB.out.trans (BD.out.mono HB.out.size)) B5.out U5.out S9.out)
          refine wpAnyH_ready (rs := [10]) (by kernel_rfl) (by simp) ?_
          refine AllReadyH.cons rfl (fun K hK => ?_) AllReadyH.nil
          go_simp
          refine hK.out _ _ (by exact (A2.out.later UP.out.1).now) (fun hHeld => ?_)
          clear hK K
          try simp only [Act.put, List.setIfInBounds_toArray, List.set_cons_zero, List.set_cons_succ, List.getElem_toArray, List.getElem_cons_succ, List.getElem_cons_zero]
          refine wpAnyH_take (i := 11) (v := ?_) rfl (by kernel_rfl) (by kernel_rfl) (by kernel_rfl) (fun _ _ _ h => h) (Or.inl ⟨by rfl, ?_⟩) (by assumption) ?_
          rotate_left
          · intro w' hSw
            go_simp <;> with_reducible rfl
          try simp only [Act.put, List.setIfInBounds_toArray, List.set_cons_zero, List.set_cons_succ, List.getElem_toArray, List.getElem_cons_succ, List.getElem_cons_zero]
          refine wpAnyH_done (by kernel_rfl) ?_ _
          go_wp2_with fail
          go_meet
          exact UP.out.2
      obtain ⟨B9, a9, c9, xs9, rfl, hk9, hs9, hB9, hne9, hrow9, hb9⟩ := hcut
      have S9 : Hid (∀ w', Below W0.heap.size W0 w' → Sl w' (fun b => b < W0.heap.size) a9 x.args) := fun w' hb => hs9.kept fun b h => (hb.block b h).trans (hb9.block b h).symm
      have K9 := hide hk9
      have NE9 := hide hne9
      have ROW9 := hide hrow9
      have BW9 := hide hb9
      have HB9 := hide hB9
      clear hk9 hs9 hne9 hrow9 hb9 hB9 HROW A1
      go_wp2_with fail
      go_loopw [7, 11] (fun v o wr => StiInv rs t x pz l0 a9 c9 B9 W0 v o wr) (fun v o wr => rs.length - (intOf o).toNat)
      case atStart => exact ⟨0, xs9, Nat.zero_le _, rfl, by simpa [stK] using ROW9.out, by simpa [stK] using HALL.out, K9.out, HB9.out, NE9.out, BW9.out⟩
      case round =>
        obtain ⟨k, xs', hk, rfl, hrow, hall', hk9, _, hne, hb⟩ := hrel
        have ROWI := hide hrow
        have ALLI := hide hall'
        have K9I := hide hk9
        have NEI := hide hne
        have BI := hide hb
        clear hrow hall' hk9 hne hb K9 NE9 ROW9 BW9
        by_cases hkl : k < rs.length
        · have hkl2 : (k : Int) < (rs.length : Int) := by omega
          obtain ⟨bq, oq, a1, c1, a2, c2, hau, d0, d1, d2, d3, hq1, hq2⟩ := (A0.out wr BI.out).qv.get k hkl
          have HNONE := hide (stK_none (t := t) (x := x) (p := pz) hkl)
          have HSOME := hide (fun z => stK_some (t := t) (x := x) (z := z) (p := pz) hkl)
          have HMEM := hide (List.getElem_mem hkl)
          have HRZ := hide (hrz _ (List.getElem_mem hkl))
          have Q1 := hide hq1
          have Q2 := hide hq2
          have D := hide (And.intro d0 (And.intro d1 (And.intro d2 d3)))
          clear hq1 hq2 d0 d1 d2 d3
          generalize rs[k] = r at *
          subst hau
          have HWS : Hid (W0.heap.size ≤ wr.heap.size) := BI.out.size
          go_upto_region 10 with fail
          go_cut [12, 13, 14] (fun o k f wc => FyW r x W0 wr o k f wc)
          case first =>
            have BD : Hid (Below wr.heap.size wr wr.drew) := below_drewN (Below.refl _ _) 1
            refine wp_region_held_drew (S := fun w' => Below wr.heap.size wr w') (by kernel_rfl) BD.out (fun hHeld => ?_)
            refine wpAnyH_take (i := 0) (v := ?_) rfl (by kernel_rfl) (by kernel_rfl) (by kernel_rfl) (fun _ _ _ h => h) (Or.inl ⟨by rfl, ?_⟩) (by assumption) ?_
            rotate_left
            · intro w' hSw
              go_simp <;> with_reducible rfl
            try simp only [Act.put, List.setIfInBounds_toArray, List.set_cons_zero, List.set_cons_succ, List.getElem_toArray, List.getElem_cons_succ, List.getElem_cons_zero]
            refine wpAnyH_take (i := 1) (v := ?_) rfl (by kernel_rfl) (by kernel_rfl) (by kernel_rfl) (fun _ _ _ h => h) (Or.inl ⟨by rfl, ?_⟩) (by assumption) ?_
            rotate_left
            · intro w' hSw
              go_simp <;> with_reducible rfl
            try simp only [Act.put, List.setIfInBounds_toArray, List.set_cons_zero, List.set_cons_succ, List.getElem_toArray, List.getElem_cons_succ, List.getElem_cons_zero]
            refine wpAnyH_take (i := 2) (v := ?_) rfl (by kernel_rfl) (by kernel_rfl) (by kernel_rfl) (fun _ _ _ h => h) (Or.inl ⟨by rfl, ?_⟩) (by assumption) ?_
            rotate_left
            · intro w' hSw
              go_simp <;> with_reducible rfl
            try simp only [Act.put, List.setIfInBounds_toArray, List.set_cons_zero, List.set_cons_succ, List.getElem_toArray, List.getElem_cons_succ, List.getElem_cons_zero]
            refine wpAnyH_take (i := 3) (v := ?_) rfl (by kernel_rfl) (by kernel_rfl) (by kernel_rfl) (fun _ _ _ h => h) (Or.inl ⟨by rfl, ?_⟩) (by assumption) ?_
            rotate_left
            · intro w' hSw
              have c0 := cell_later hSw D.out.1
              have c1 := cell_later hSw D.out.2.1
              have c2 := cell_later hSw D.out.2.2.1
              have c3 := cell_later hSw D.out.2.2.2
              go_simp <;> with_reducible rfl
            try simp only [Act.put, List.setIfInBounds_toArray, List.set_cons_zero, List.set_cons_succ, List.getElem_toArray, List.getElem_cons_succ, List.getElem_cons_zero]
            refine wpAnyH_take (i := 4) (v := ?_) rfl (by kernel_rfl) (by kernel_rfl) (by kernel_rfl) (fun _ _ _ h => h) (Or.inl ⟨by rfl, ?_⟩) (by assumption) ?_
            rotate_left
            · intro w' hSw
              have c0 : w'.cell? ⟨B9, 0, none⟩ = some (.string x.name) := (K9I.out.below hSw K9I.out.lt).cell 0
              have c1 : w'.cell? ⟨B9, 1, none⟩ = some (.slice a9 x.args.length c9) := (K9I.out.below hSw K9I.out.lt).cell 1
              go_simp <;> with_reducible rfl
            try simp only [Act.put, List.setIfInBounds_toArray, List.set_cons_zero, List.set_cons_succ, List.getElem_toArray, List.getElem_cons_succ, List.getElem_cons_zero]
            generalize wr.drew = wd at *
            refine wpAnyH_ready (rs := [5, 10]) (by kernel_rfl) (by simp) ?_
            refine AllReadyH.cons rfl (fun K hK => ?_) (AllReadyH.cons rfl (fun K hK => ?_) AllReadyH.nil)
            · go_simp
              go_at_call 55
              refine (docFits_any r x a1 a2 a9 c1 c2 c9 _ (fun b => b < W0.heap.size) (Q1.out.later BD.out) (Q2.out.later BD.out) (S9.out _ (BI.out.trans (BD.out.mono BI.out.size))) HRZ.out.1 HRZ.out.2).mono ?_
              rintro e w5 ⟨y, ay, cy, ok, full, rfl, hsy, hb5, hcy⟩
              have HC := hide hcy
              have SY := hide hsy
              have B5 := hide hb5
              have B5w := hide (BD.out.trans (hb5.mono BD.out.size))
              clear hsy hb5 hcy
              go_simp
              refine hK.out _ _ (by exact B5w.out) (fun hHeld => ?_)
              clear hK K
              try simp only [Act.put, List.setIfInBounds_toArray, List.set_cons_zero, List.set_cons_succ, List.getElem_toArray, List.getElem_cons_succ, List.getElem_cons_zero]
              refine wpAnyH_take (i := 6) (v := ?_) rfl (by kernel_rfl) (by kernel_rfl) (by kernel_rfl) (fun _ _ _ h => h) (Or.inl ⟨by rfl, ?_⟩) (by assumption) ?_
              rotate_left
              · intro w' hSw
                go_simp <;> with_reducible rfl
              try simp only [Act.put, List.setIfInBounds_toArray, List.set_cons_zero, List.set_cons_succ, List.getElem_toArray, List.getElem_cons_succ, List.getElem_cons_zero]
              refine wpAnyH_take (i := 7) (v := ?_) rfl (by kernel_rfl) (by kernel_rfl) (by kernel_rfl) (fun _ _ _ h => h) (Or.inl ⟨by rfl, ?_⟩) (by assumption) ?_
              rotate_left
              · intro w' hSw
                go_simp <;> with_reducible rfl
              try simp only [Act.put, List.setIfInBounds_toArray, List.set_cons_zero, List.set_cons_succ, List.getElem_toArray, List.getElem_cons_succ, List.getElem_cons_zero]
              refine wpAnyH_take (i := 8) (v := ?_) rfl (by kernel_rfl) (by kernel_rfl) (by kernel_rfl) (fun _ _ _ h => h) (Or.inl ⟨by rfl, ?_⟩) (by assumption) ?_
              rotate_left
              · intro w' hSw
                go_simp <;> with_reducible rfl
              try simp only [Act.put, List.setIfInBounds_toArray, List.set_cons_zero, List.set_cons_succ, List.getElem_toArray, List.getElem_cons_succ, List.getElem_cons_zero]
              refine wpAnyH_take (i := 9) (v := ?_) rfl (by kernel_rfl) (by kernel_rfl) (by kernel_rfl) (fun _ _ _ h => h) (Or.inl ⟨by rfl, ?_⟩) (by assumption) ?_
              rotate_left
              · intro w' hSw
                go_simp <;> with_reducible rfl
              try simp only [Act.put, List.setIfInBounds_toArray, List.set_cons_zero, List.set_cons_succ, List.getElem_toArray, List.getElem_cons_succ, List.getElem_cons_zero]
              refine wpAnyH_ready (rs := [10]) (by kernel_rfl) (by simp) ?_
              refine AllReadyH.cons rfl (fun K hK => ?_) AllReadyH.nil
              go_simp
              refine hK.out _ _ (by exact B5w.out.alloc B5w.out.size _) (fun hHeld => ?_)
              clear hK K
              try simp only [Act.put, List.setIfInBounds_toArray, List.set_cons_zero, List.set_cons_succ, List.getElem_toArray, List.getElem_cons_succ, List.getElem_cons_zero]
              refine wpAnyH_ready (rs := [11]) (by kernel_rfl) (by simp) ?_
              refine AllReadyH.cons rfl (fun K hK => ?_) AllReadyH.nil
              go_simp
              refine hK.out _ _ (by exact B5w.out.alloc B5w.out.size _) (fun hHeld => ?_)
              clear hK K
              try simp only [Act.put, List.setIfInBounds_toArray, List.set_cons_zero, List.set_cons_succ, List.getElem_toArray, List.getElem_cons_succ, List.getElem_cons_zero]
              refine wpAnyH_take (i := 12) (v := ?_) rfl (by kernel_rfl) (by kernel_rfl) (by kernel_rfl) (fun _ _ _ h => h) (Or.inl ⟨by rfl, ?_⟩) (by assumption) ?_
              rotate_left
              · intro w' hSw
                go_simp <;> with_reducible rfl
              try simp only [Act.put, List.setIfInBounds_toArray, List.set_cons_zero, List.set_cons_succ, List.getElem_toArray, List.getElem_cons_succ, List.getElem_cons_zero]
              refine wpAnyH_take (i := 13) (v := ?_) rfl (by kernel_rfl) (by kernel_rfl) (by kernel_rfl) (fun _ _ _ h => h) (Or.inl ⟨by rfl, ?_⟩) (by assumption) ?_
              rotate_left
              · intro w' hSw
                go_simp <;> with_reducible rfl
              try simp only [Act.put, List.setIfInBounds_toArray, List.set_cons_zero, List.set_cons_succ, List.getElem_toArray, List.getElem_cons_succ, List.getElem_cons_zero]
              refine wpAnyH_done (by kernel_rfl) ?_ _
              go_wp2_with fail
              go_meet
              exact fyW_endA HWS.out BD.out B5.out SY.out HC.out
            · go_simp
              refine hK.out _ _ (by exact BD.out.alloc BD.out.size _) (fun hHeld => ?_)
              clear hK K
              try simp only [Act.put, List.setIfInBounds_toArray, List.set_cons_zero, List.set_cons_succ, List.getElem_toArray, List.getElem_cons_succ, List.getElem_cons_zero]
              have BZ := hide (BD.out.alloc BD.out.size (.cells #[.string ⟨#[]⟩, .slice none 0 0] 25))
              have UZ := hide (Blk.new wd #[.string ⟨#[]⟩, .slice none 0 0] 25)
              refine wpAnyH_ready (rs := [5]) (by kernel_rfl) (by simp) ?_
              refine AllReadyH.cons rfl (fun K hK => ?_) AllReadyH.nil
              go_simp
              go_at_call 55
              refine (docFits_any r x a1 a2 a9 c1 c2 c9 _ (fun b => b < W0.heap.size) (Q1.out.later BZ.out) (Q2.out.later BZ.out) (S9.out _ (BI.out.trans (BZ.out.mono BI.out.size))) HRZ.out.1 HRZ.out.2).mono ?_
              rintro e w5 ⟨y, ay, cy, ok, full, rfl, hsy, hb5, hcy⟩
              have HC := hide hcy
              have SY : Hid (Sl w5 (fun b => ((b < W0.heap.size) ∧ b < wd.heap.size + 1) ∨ wd.heap.size + 1 ≤ b) ay y.args) := hsy.mono fun b h _ => by simpa using h
              have U5 := hide (UZ.out.below hb5 UZ.out.lt)
              have B5 := hide (((Below.refl wd.heap.size wd).alloc (Nat.le_refl _) (.cells #[.string ⟨#[]⟩, .slice none 0 0] 25)).trans (hb5.mono (by simp)))
              have B5w := hide (BZ.out.trans (hb5.mono BZ.out.size))
              clear hsy hb5 hcy
              go_simp
              refine hK.out _ _ (by exact B5w.out) (fun hHeld => ?_)
              clear hK K
              try simp only [Act.put, List.setIfInBounds_toArray, List.set_cons_zero, List.set_cons_succ, List.getElem_toArray, List.getElem_cons_succ, List.getElem_cons_zero]
              refine wpAnyH_take (i := 6) (v := ?_) rfl (by kernel_rfl) (by kernel_rfl) (by kernel_rfl) (fun _ _ _ h => h) (Or.inl ⟨by rfl, ?_⟩) (by assumption) ?_
              rotate_left
              · intro w' hSw
                go_simp <;> with_reducible rfl
              try simp only [Act.put, List.setIfInBounds_toArray, List.set_cons_zero, List.set_cons_succ, List.getElem_toArray, List.getElem_cons_succ, List.getElem_cons_zero]
              refine wpAnyH_take (i := 7) (v := ?_) rfl (by kernel_rfl) (by kernel_rfl) (by kernel_rfl) (fun _ _ _ h => h) (Or.inl ⟨by rfl, ?_⟩) (by assumption) ?_
              rotate_left
              · intro w' hSw
                go_simp <;> with_reducible rfl
              try simp only [Act.put, List.setIfInBounds_toArray, List.set_cons_zero, List.set_cons_succ, List.getElem_toArray, List.getElem_cons_succ, List.getElem_cons_zero]
              refine wpAnyH_take (i := 8) (v := ?_) rfl (by kernel_rfl) (by kernel_rfl) (by kernel_rfl) (fun _ _ _ h => h) (Or.inl ⟨by rfl, ?_⟩) (by assumption) ?_
              rotate_left
              · intro w' hSw
                go_simp <;> with_reducible rfl
              try simp only [Act.put, List.setIfInBounds_toArray, List.set_cons_zero, List.set_cons_succ, List.getElem_toArray, List.getElem_cons_succ, List.getElem_cons_zero]
              refine wpAnyH_take (i := 9) (v := ?_) rfl (by kernel_rfl) (by kernel_rfl) (by kernel_rfl) (fun _ _ _ h => h) (Or.inl ⟨by rfl, ?_⟩) (by assumption) ?_
              rotate_left
              · intro w' hSw
                go_simp <;> with_reducible rfl
              try simp only [Act.put, List.setIfInBounds_toArray, List.set_cons_zero, List.set_cons_succ, List.getElem_toArray, List.getElem_cons_succ, List.getElem_cons_zero]
              have z0 : w5.cell? ⟨wd.heap.size, 0, none⟩ = some (.string ⟨#[]⟩) := U5.out.cell 0
              have z1 : w5.cell? ⟨wd.heap.size, 1, none⟩ = some (.slice none 0 0) := U5.out.cell 1
              have zf := U5.out.frozen
              have zl : wd.heap.size < w5.heap.size := U5.out.lt
              have UP := hide (fyW_endB (c := cy) HWS.out BD.out B5.out U5.out SY.out HC.out)
              refine wpAnyH_ready (rs := [11]) (by kernel_rfl) (by simp) ?_
              refine AllReadyH.cons rfl (fun K hK => ?_) AllReadyH.nil
              go_simp
              refine hK.out _ _ (by exact UP.out.1) (fun hHeld => ?_)
              clear hK K
              try simp only [Act.put, List.setIfInBounds_toArray, List.set_cons_zero, List.set_cons_succ, List.getElem_toArray, List.getElem_cons_succ, List.getElem_cons_zero]
              refine wpAnyH_take (i := 12) (v := ?_) rfl (by kernel_rfl) (by kernel_rfl) (by kernel_rfl) (fun _ _ _ h => h) (Or.inl ⟨by rfl, ?_⟩) (by assumption) ?_
              rotate_left
              · intro w' hSw
                go_simp <;> with_reducible rfl
              try simp only [Act.put, List.setIfInBounds_toArray, List.set_cons_zero, List.set_cons_succ, List.getElem_toArray, List.getElem_cons_succ, List.getElem_cons_zero]
              refine wpAnyH_take (i := 13) (v := ?_) rfl (by kernel_rfl) (by kernel_rfl) (by kernel_rfl) (fun _ _ _ h => h) (Or.inl ⟨by rfl, ?_⟩) (by assumption) ?_
              rotate_left
              · intro w' hSw
                go_simp <;> with_reducible rfl
              try simp only [Act.put, List.setIfInBounds_toArray, List.set_cons_zero, List.set_cons_succ, List.getElem_toArray, List.getElem_cons_succ, List.getElem_cons_zero]
              refine wpAnyH_done (by kernel_rfl) ?_ _
              go_wp2_with fail
              go_meet
              exact UP.out.2
          obtain ⟨U, y, ay, cy, ok, full, rfl, rfl, rfl, hU, hkU, hsU, hbU, hcU⟩ := hcut
          have BU := hide hbU
          have KU := hide hkU
          have SU := hide hsU
          have BWU := hide (BI.out.trans (hbU.mono BI.out.size))
          cases ok with
          | false =>
            have HF : Hid (fitT r x = none) := by
              rcases hcU with h | ⟨z, _, h, _⟩
              · exact h.1
              · cases h
            clear hcU hbU hkU hsU
            go_wp2_with fail
            go_roundw
            case rel => exact ⟨k + 1, xs', by omega, by go_num, by rw [HNONE.out HF.out]; exact ROWI.out.below BU.out, by rw [HNONE.out HF.out]; exact ALLI.out, K9I.out.below BU.out K9I.out.lt, HB9.out, NEI.out, BWU.out⟩
            case measure => simp [intOf]; omega
          | true =>
            obtain ⟨z, hf, hfull, hyz⟩ : ∃ z, fitT r x = some z ∧ (full = true ↔ 2000 < sizeL [z]) ∧ (full = false → y = z) := by
              rcases hcU with h | ⟨z, h1, _, h2, h3⟩
              · exact absurd h.2 (by decide)
              · exact ⟨z, h1, h2, h3⟩
            have HF := hide hf
            have HIN : Hid (putT z pz t ∈ stAll rs t) := by
              unfold Hid
              rw [HALLS.out]
              exact great_in HPZ.out HMEM.out HX.out hf
            clear hcU hbU hkU hsU hf
            cases full with
            | true =>
              have HG : Hid (2000 < sizeL [putT z pz t]) := Nat.lt_of_lt_of_le (hfull.1 rfl) (put_ge z pz t x HX.out)
              clear hfull hyz
              go_wp2_with fail
              refine bodyPost_ret (v := .tuple #[.slice none 0 0, .int .i64 8]) (by simp [results, Try.results24, go_sem]) rfl ?_
              exact ⟨HBW.out.trans (BWU.out.mono HBW.out.size), Or.inr ⟨⟨_, HIN.out, HG.out⟩, rfl⟩⟩
            | false =>
              have hyz' := hyz rfl
              subst hyz'
              clear hfull hyz
              have HSTEP := hide (HSOME.out y HF.out)
              go_upto_region 14 with fail
              have KUd : Hid (Blk wc.drew U #[.string y.name, .slice ay y.args.length cy] 25) := KU.out.drewN 1
              have BUd : Hid (Below wr.heap.size wr wc.drew) := BU.out.trans ((below_drewN (Below.refl wc.heap.size wc) 1).mono BU.out.size)
              have SUd : Hid (Sl wc.drew (fun b => (b < W0.heap.size ∨ wr.heap.size ≤ b) ∧ b ≠ U) ay y.args) := SU.out.later (below_drewN (Below.refl _ _) 1)
              refine wp_region_held_drew (S := fun w' => Below wr.heap.size wr w') (by kernel_rfl) BUd.out (fun hHeld => ?_)
              refine wpAnyH_take (i := 0) (v := ?_) rfl (by kernel_rfl) (by kernel_rfl) (by kernel_rfl) (fun _ _ _ h => h) (Or.inl ⟨by rfl, ?_⟩) (by assumption) ?_
              rotate_left
              · intro w' hSw
                have c0 : w'.cell? ⟨w.heap.size, 0, none⟩ = some (.string t.name) := (A0.out _ (BI.out.trans (hSw.mono BI.out.size))).k1.cell 0
                have c1 : w'.cell? ⟨w.heap.size, 1, none⟩ = some (.slice aa t.args.length ca) := (A0.out _ (BI.out.trans (hSw.mono BI.out.size))).k1.cell 1
                go_simp <;> with_reducible rfl
              try simp only [Act.put, List.setIfInBounds_toArray, List.set_cons_zero, List.set_cons_succ, List.getElem_toArray, List.getElem_cons_succ, List.getElem_cons_zero]
              refine wpAnyH_take (i := 1) (v := ?_) rfl (by kernel_rfl) (by kernel_rfl) (by kernel_rfl) (fun _ _ _ h => h) (Or.inl ⟨by rfl, ?_⟩) (by assumption) ?_
              rotate_left
              · intro w' hSw
                go_simp <;> with_reducible rfl
              try simp only [Act.put, List.setIfInBounds_toArray, List.set_cons_zero, List.set_cons_succ, List.getElem_toArray, List.getElem_cons_succ, List.getElem_cons_zero]
              refine wpAnyH_take (i := 2) (v := ?_) rfl (by kernel_rfl) (by kernel_rfl) (by kernel_rfl) (fun _ _ _ h => h) (Or.inl ⟨by rfl, ?_⟩) (by assumption) ?_
              rotate_left
              · intro w' hSw
                go_simp <;> with_reducible rfl
              try simp only [Act.put, List.setIfInBounds_toArray, List.set_cons_zero, List.set_cons_succ, List.getElem_toArray, List.getElem_cons_succ, List.getElem_cons_zero]
              refine wpAnyH_take (i := 3) (v := ?_) rfl (by kernel_rfl) (by kernel_rfl) (by kernel_rfl) (fun _ _ _ h => h) (Or.inl ⟨by rfl, ?_⟩) (by assumption) ?_
              rotate_left
              · intro w' hSw
                go_simp <;> with_reducible rfl
              try simp only [Act.put, List.setIfInBounds_toArray, List.set_cons_zero, List.set_cons_succ, List.getElem_toArray, List.getElem_cons_succ, List.getElem_cons_zero]
              refine wpAnyH_take (i := 4) (v := ?_) rfl (by kernel_rfl) (by kernel_rfl) (by kernel_rfl) (fun _ _ _ h => h) (Or.inl ⟨by rfl, ?_⟩) (by assumption) ?_
              rotate_left
              · intro w' hSw
                have c0 := (PLW.out _ (A0.out _ (BI.out.trans (hSw.mono BI.out.size)))).1
                go_simp <;> with_reducible rfl
              try simp only [Act.put, List.setIfInBounds_toArray, List.set_cons_zero, List.set_cons_succ, List.getElem_toArray, List.getElem_cons_succ, List.getElem_cons_zero]
              clear KU SU BU BWU
              generalize wc.drew = wd at *
              have z0 : wd.cell? ⟨U, 0, none⟩ = some (.string y.name) := KUd.out.cell 0
              have z1 : wd.cell? ⟨U, 1, none⟩ = some (.slice ay y.args.length cy) := KUd.out.cell 1
              refine wpAnyH_ready (rs := [5]) (by kernel_rfl) (by simp) ?_
              refine AllReadyH.cons rfl (fun K hK => ?_) AllReadyH.nil
              go_simp
              refine hK.out _ _ (by exact BUd.out) (fun hHeld => ?_)
              clear hK K
              try simp only [Act.put, List.setIfInBounds_toArray, List.set_cons_zero, List.set_cons_succ, List.getElem_toArray, List.getElem_cons_succ, List.getElem_cons_zero]
              have AD := hide (A0.out _ (BI.out.trans (BUd.out.mono BI.out.size)))
              refine wpAnyH_ready (rs := [6]) (by kernel_rfl) (by simp) ?_
              refine AllReadyH.cons rfl (fun K hK => ?_) AllReadyH.nil
              go_simp
              go_at_call 56
              refine (putOf_any y pz t _ _ _ _ (fun b => (b < W0.heap.size ∨ wr.heap.size ≤ b) ∧ b ≠ U) ⟨_, _, rfl, AD.out.s1.mono fun b h _ => ⟨Or.inl h, by have := HWS.out; omega⟩⟩ ((PLW.out _ AD.out).2.mono fun b h _ => ⟨Or.inl h, by have := HWS.out; omega⟩) ⟨_, _, rfl, SUd.out⟩ (by omega)).mono ?_
              rintro e w6 ⟨v6, rfl, ⟨a6, c6, hv6, hs6⟩, hb6⟩
              subst hv6
              have B6 := hide (BUd.out.trans (hb6.mono BUd.out.size))
              have K6 := hide (KUd.out.below hb6 KUd.out.lt)
              have HLU : Hid (U < wd.heap.size) := KUd.out.lt
              have S6 := hide hs6
              clear hs6 hb6 z0 z1
              go_simp
              refine hK.out _ _ (by exact B6.out) (fun hHeld => ?_)
              clear hK K
              try simp only [Act.put, List.setIfInBounds_toArray, List.set_cons_zero, List.set_cons_succ, List.getElem_toArray, List.getElem_cons_succ, List.getElem_cons_zero]
              have z0 : w6.cell? ⟨U, 0, none⟩ = some (.string y.name) := K6.out.cell 0
              have z1 : w6.cell? ⟨U, 1, none⟩ = some (.slice ay y.args.length cy) := K6.out.cell 1
              have zf := K6.out.frozen
              have BF := hide ((B6.out.setCell (p := ⟨U, 0, none⟩) hU (.string (putT y pz t).name)).setCell (p := ⟨U, 1, none⟩) hU (.slice a6 (putT y pz t).args.length c6))
              have KF := hide ((K6.out.set 0 (.string (putT y pz t).name)).set 1 (.slice a6 (putT y pz t).args.length c6))
              have SF : Hid (Sl ((w6.setCell ⟨U, 0, none⟩ (.string (putT y pz t).name)).setCell ⟨U, 1, none⟩ (.slice a6 (putT y pz t).args.length c6)) (fun b => b < W0.heap.size ∨ wr.heap.size ≤ b) a6 (putT y pz t).args) := (S6.out.kept fun b hb => by
                have hne : b ≠ U := by
                  rcases hb with h | h
                  · exact h.2
                  · have := HLU.out; omega
                rw [Below.heap_setCell _ _ _ _ (by simpa using hne), Below.heap_setCell _ _ _ _ (by simpa using hne)]).mono fun b h _ => by
                rcases h with h | h
                · exact h.1
                · exact Or.inr (by have := HLU.out; omega)
              refine wpAnyH_ready (rs := [7]) (by kernel_rfl) (by simp) ?_
              refine AllReadyH.cons rfl (fun K hK => ?_) AllReadyH.nil
              go_simp
              refine hK.out _ _ (by exact BF.out) (fun hHeld => ?_)
              clear hK K
              try simp only [Act.put, List.setIfInBounds_toArray, List.set_cons_zero, List.set_cons_succ, List.getElem_toArray, List.getElem_cons_succ, List.getElem_cons_zero]
              refine wpAnyH_done (by kernel_rfl) ?_ _
              clear K6 S6 B6 KUd BUd SUd z0 z1 zf AD
              have HGE : Hid (sizeL [putT y pz t] = sizeL [putT y pz t]) := rfl
              generalize putT y pz t = yt at *
              generalize (w6.setCell ⟨U, 0, none⟩ (.string yt.name)).setCell ⟨U, 1, none⟩ (.slice a6 yt.args.length c6) = wf at *
              have z0 : wf.cell? ⟨U, 0, none⟩ = some (.string yt.name) := KF.out.cell 0
              have z1 : wf.cell? ⟨U, 1, none⟩ = some (.slice a6 yt.args.length c6) := KF.out.cell 1
              go_wp2_with fail
              refine (size_any yt _ _ _ (fun b => b < W0.heap.size ∨ wr.heap.size ≤ b) ⟨_, _, rfl, SF.out⟩ (by decide) (by decide)).mono ?_
              rintro e w7 ⟨rfl, hb7⟩
              have B7 := hide (BF.out.trans (hb7.mono BF.out.size))
              have K7 := hide (KF.out.below hb7 KF.out.lt)
              have S7 := hide (SF.out.later hb7)
              clear hb7 BF KF SF z0 z1
              by_cases hg : 2000 < sizeL [yt]
              · have hm : min (sizeL [yt] : Int) (2000 + 1) = 2001 := by omega
                rw [hm]
                have HG := hide hg
                clear hg hm
                go_wp2_with fail
                refine bodyPost_ret (v := .tuple #[.slice none 0 0, .int .i64 8]) (by simp [results, Try.results24, go_sem]) rfl ?_
                exact ⟨HBW.out.trans ((BI.out.trans (B7.out.mono BI.out.size)).mono HBW.out.size), Or.inr ⟨⟨_, HIN.out, HG.out⟩, rfl⟩⟩
              · have hm : min (sizeL [yt] : Int) (2000 + 1) = (sizeL [yt] : Int) := by omega
                rw [hm]
                have hle : ¬ (2000 : Int) < (sizeL [yt] : Int) := by omega
                have HG : Hid (sizeL [yt] ≤ 2000) := by unfold Hid; omega
                have hlen : (l0 ++ stK rs t x pz k).length ≤ 1000000 := by have h1 := stK_len rs t x pz k; have h2 := HLEN.out; rw [List.length_append]; omega
                obtain ⟨g, cap, w8, hrun, hrow8, hg8, hat8⟩ := terms_append ROWI.out HWS.out (fun b h => h) B7.out yt a6 c6 S7.out hlen
                rw [List.length_append] at hrun hrow8
                have HRUN := hide hrun
                have hltr := ROWI.out.own.lt
                have ROW8 : Hid (Row w8 W0.heap.size 25 (fun b => b < W0.heap.size) (.slice (some ⟨g, 0, none⟩) (l0.length + (stK rs t x pz k).length + 1) cap) (l0 ++ stK rs t x pz (k + 1)) (xs' ++ [.string yt.name, .slice a6 yt.args.length c6])) := by
                  unfold Hid
                  rw [HSTEP.out, ← List.append_assoc]
                  exact hrow8
                have ALL8 : Hid (∀ q ∈ l0 ++ stK rs t x pz (k + 1), sizeL [q] ≤ 2000) := by
                  unfold Hid
                  rw [HSTEP.out, ← List.append_assoc]
                  intro q hq
                  rcases List.mem_append.1 hq with h | h
                  · exact ALLI.out q h
                  · rw [List.mem_singleton.1 h]; exact HG.out
                have B7w := BI.out.trans (B7.out.mono BI.out.size)
                have BW8 : Hid (Below W0.heap.size W0 w8) := (B7w.alloc B7w.size _).grown hg8 (by have := B7w.size; simp; omega) (fun j hj => (hltr j hj).1)
                have K98 : Hid (Blk w8 B9 #[.string x.name, .slice a9 x.args.length c9] 25) := ((K9I.out.below B7.out K9I.out.lt).alloc _).grown hg8 NEI.out
                have NE8 : Hid (some B9 ≠ (Value.slice (some ⟨g, 0, none⟩) (l0.length + (stK rs t x pz k).length + 1) cap).ownBlock) := by
                  unfold Hid
                  intro h
                  have h9 : B9 = g := by simpa [Value.ownBlock] using h
                  rcases hat8 with e | e
                  · exact NEI.out (by rw [e, h9])
                  · have h1 := K9I.out.lt
                    have h2 := B7.out.size
                    simp at e
                    omega
                have z0 : w7.cell? ⟨U, 0, none⟩ = some (.string yt.name) := K7.out.cell 0
                have z1 : w7.cell? ⟨U, 1, none⟩ = some (.slice a6 yt.args.length c6) := K7.out.cell 1
                clear hrun hrow8 hg8 hat8 hltr hm hg B7w
                go_wp2_with (at_builtin; refine wpList_append_eq rfl _ _ _ _ rfl rfl rfl HRUN.out ?_)
                go_roundw
                case rel => exact ⟨k + 1, _, by omega, by go_num, ROW8.out, ALL8.out, K98.out, HB9.out, NE8.out, BW8.out⟩
                case measure => simp [intOf]; omega
        · have hkr : k = rs.length := by omega
          have HL : Hid (l0 ++ stK rs t x pz k = (ps.take (i + 1)).flatMap (stAt rs t)) := by
            unfold Hid
            rw [hkr, stK_all HX.out, HNX.out]
          have R2 := ROWI.out
          have A2 := ALLI.out
          rw [HL.out] at R2 A2
          have R3 := hide R2
          have A3 := hide A2
          clear R2 A2
          go_wp2_with fail
          go_roundw
          case rel => exact ⟨i + 1, xs', by omega, by go_num, R3.out, A3.out, BI.out⟩
          case measure => simp [intOf]; omega
    · go_wp2_with fail
      refine bodyPost_ret (v := .tuple #[u7, .int .i64 0]) (by simp [results, Try.results24, go_sem]) rfl ?_
      have htk : ps.take i = ps := List.take_of_length_le (by omega)
      have hr := HROW.out
      have ha := HALL.out
      rw [htk, ← HALLS.out] at hr ha
      exact ⟨HBW.out.trans (HB.out.mono HBW.out.size), Or.inl ⟨u7, ha, rfl, W0.heap.size, xs, HBW.out.size, hr⟩⟩
end Go.Proofs.Ythlgknglalcggac
