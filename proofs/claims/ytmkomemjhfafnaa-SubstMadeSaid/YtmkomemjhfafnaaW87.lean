/- Walks: one behind the other, as the document says. -/
import Derived.Test.YtmkomemjhfafnaaW85
import Derived.Test.YtmkomemjhfafnaaW53
import Derived.Test.YtmkomemjhfafnaaW83
namespace Go.Proofs.Ytmkomemjhfafnaa
open Go.RowKit
set_option linter.unusedSimpArgs false
set_option linter.unusedVariables false
set_option maxRecDepth 8000

/-- A binding with another list of them in its term, as the document says. -/
def onB (rs : List Bd) (d : Bd) : Bd := ⟨d.nm, onT rs d.t⟩
def fullO (ls rs : List Bd) : Bool := ls.any fun d => decide (2000 < sizeL [onT rs d.t])
theorem fullO_yes {ls rs : List Bd} {k : Nat} (h : k < ls.length) (h0 : 2000 < sizeL [onT rs ls[k].t]) : fullO ls rs = true := by
  unfold fullO
  rw [List.any_eq_true]
  exact ⟨ls[k], List.getElem_mem h, by simpa using h0⟩
def fstO (ls rs : List Bd) : List Bd := (ls.map (onB rs)).filter keepB
def sndO (ls rs : List Bd) : List Bd := rs.filter fun d => (forT ls d.nm).isNone && keepB d
theorem fstO_take {ls rs : List Bd} {k : Nat} (h : k < ls.length) : fstO (ls.take (k + 1)) rs = fstO (ls.take k) rs ++ (if keepB (onB rs ls[k]) = true then [onB rs ls[k]] else []) := by
  unfold fstO
  rw [List.take_succ_eq_append_getElem h, List.map_append, List.filter_append]
  congr 1
  simp only [List.map_cons, List.map_nil, List.filter_cons, List.filter_nil]
theorem sndO_take {ls rs : List Bd} {k : Nat} (h : k < rs.length) : sndO ls (rs.take (k + 1)) = sndO ls (rs.take k) ++ (if ((forT ls rs[k].nm).isNone && keepB rs[k]) = true then [rs[k]] else []) := by
  unfold sndO
  rw [List.take_succ_eq_append_getElem h, List.filter_append]
  congr 1
  simp only [List.filter_cons, List.filter_nil]

theorem fstO_len (ls rs : List Bd) : (fstO ls rs).length ≤ ls.length := by
  unfold fstO
  have := List.length_filter_le keepB (ls.map (onB rs))
  simpa using this
theorem sndO_len (ls rs : List Bd) : (sndO ls rs).length ≤ rs.length := List.length_filter_le _ _

def O1Inv (w : World) (Y : Nat → Prop) (ls rs : List Bd) (u v : Value) (wr : World) : Prop :=
  ∃ (k : Nat) (cs : List Bc), v = .int .i64 (k : Int) ∧ k ≤ ls.length ∧ BRow wr w.heap.size Y u cs ∧ cs.map (·.1) = fstO (ls.take k) rs ∧ (∀ d ∈ ls.take k, sizeL [onT rs d.t] ≤ 2000) ∧ Below w.heap.size w wr
def O2Inv (w : World) (Y : Nat → Prop) (ls rs : List Bd) (u v : Value) (wr : World) : Prop :=
  ∃ (k : Nat) (cs : List Bc), v = .int .i64 (k : Int) ∧ k ≤ rs.length ∧ BRow wr w.heap.size Y u cs ∧ cs.map (·.1) = fstO ls rs ++ sndO ls (rs.take k) ∧ Below w.heap.size w wr
def OPost (w : World) (ls rs : List Bd) (Y : Nat → Prop) (e : Ending) (w' : World) : Prop :=
  Below w.heap.size w w' ∧ ((fullO ls rs = true ∧ e = .returned (.tuple #[.slice none 0 0, .int .i64 8])) ∨ (fullO ls rs = false ∧ ∃ v l', e = .returned (.tuple #[v, .int .i64 0]) ∧ BV w' Y v l' ∧ l'.Perm (fstO ls rs ++ sndO ls rs) ∧ l'.Pairwise fun a b => ltB b.nm a.nm = false))

set_option maxHeartbeats 2000000 in
theorem thenOf_any (ls rs : List Bd) (u v : Value) (w : World) (X : Nat → Prop) (hu : BV w X u ls) (hv : BV w X v rs) (hn : ls.length ≤ 1000) (hm : rs.length ≤ 1000) (hsz : ∀ d ∈ ls, sizeL [d.t] ≤ 1000000) :
    Calls Try.prog 18 #[u, v] w fun e w' => OPost w ls rs (fun b => (X b ∧ b < w.heap.size) ∨ w.heap.size ≤ b) e w' := by
  have HU := hide (hu.mono (Y := fun b => X b ∧ b < w.heap.size) fun b h1 h2 => ⟨h1, h2⟩)
  have HV := hide (hv.mono (Y := fun b => X b ∧ b < w.heap.size) fun b h1 h2 => ⟨h1, h2⟩)
  obtain ⟨a, c, rfl, hl, _⟩ := hu
  obtain ⟨a2, c2, rfl, hl2, _⟩ := hv
  go_enter Try.func18, Try.ntmps18
  go_wp2_with fail
  go_loopw [6, 7] (fun u v wr => O1Inv w (fun b => X b ∧ b < w.heap.size) ls rs u v wr) (fun u v wr => ls.length - (intOf v).toNat)
  case atStart => exact ⟨0, [], rfl, Nat.zero_le _, BRow.start _ _ _, by simp [fstO], by simp, Below.refl _ _⟩
  case round =>
    obtain ⟨k, cs, rfl, hk, hrow, hcs, hfu, hb⟩ := hrel
    have HROW := hide hrow
    have HCS := hide hcs
    have HFU := hide hfu
    have HB := hide hb
    clear hrow hcs hfu
    by_cases hlt : k < ls.length
    · obtain ⟨b, o, a', c', rfl, d0, d1, d2, hs⟩ := (HU.out.later hb).get k hlt
      have hlt2 : (k : Int) < (ls.length : Int) := by omega
      have HS := hide hs
      have HSK := hide (hsz ls[k] (List.getElem_mem hlt))
      clear hb hs
      go_wp2_with fail
      refine (onAll_any rs ls[k].t _ _ wr _ (HV.out.later HB.out) ⟨_, _, rfl, HS.out⟩ HSK.out).mono ?_
      rintro e w1 ⟨hb1, hc1⟩
      have HB1 := hide (HB.out.trans (hb1.mono HB.out.size))
      have HROW1 := hide (HROW.out.below hb1)
      have HBR1 := hide hb1
      have d0' := cell_later hb1 d0
      have hz1 := hb1.size
      clear hb1 d0 d1 d2
      rcases hc1 with ⟨hbig, rfl⟩ | ⟨hle, a5, c5, rfl, hsl⟩
      · have HF := hide (fullO_yes (rs := rs) hlt hbig)
        go_wp2_with fail
        refine bodyPost_ret (v := .tuple #[.slice none 0 0, .int .i64 8]) (by simp [results, Try.results18, go_sem]) rfl ?_
        exact ⟨HB1.out.alloc HB1.out.size _, Or.inl ⟨HF.out, rfl⟩⟩
      · have HSL := hide hsl
        clear hsl
        have HFU1 : Hid (∀ d ∈ ls.take (k + 1), sizeL [onT rs d.t] ≤ 2000) := fun d hd => by
          rw [List.take_succ_eq_append_getElem hlt] at hd
          rcases List.mem_append.1 hd with hd | hd
          · exact HFU.out d hd
          · have e : d = ls[k] := by simpa using hd
            rw [e]; exact hle
        have HTK := hide (fstO_take (rs := rs) hlt)
        have hcl : cs.length ≤ 1000000 := by
          have h1 := congrArg List.length HCS.out
          have h2 := fstO_len (ls.take k) rs
          rw [List.length_map] at h1
          rw [List.length_take] at h2
          omega
        generalize ls[k] = d at *
        go_wp2_with fail
        have P2 := hide (Blk.new w1 #[.string (onT rs d.t).name, .slice a5 (onT rs d.t).args.length c5] 25)
        have hbA : Below w1.heap.size w1 (w1.alloc (.cells #[.string (onT rs d.t).name, .slice a5 (onT rs d.t).args.length c5] 25)) := (Below.refl _ _).alloc (Nat.le_refl _) _
        have HB2 := hide (HB1.out.trans (hbA.mono HB1.out.size))
        have HROW2 := hide (HROW1.out.below hbA)
        have HBR2 := hide (HBR1.out.trans (hbA.mono HBR1.out.size))
        have HSL2 := hide (HSL.out.later hbA)
        have d0'' := cell_later hbA d0'
        have p0 := P2.out.cell 0
        have p1 := P2.out.cell 1
        clear hbA d0'
        generalize w1.alloc (.cells #[.string (onT rs d.t).name, .slice a5 (onT rs d.t).args.length c5] 25) = w2 at *
        generalize w1.heap.size = P at *
        cases hkp : ((onT rs d.t).name.toList == d.nm.toList) with
        | true =>
          have HN : Hid (cs.map (·.1) = fstO (ls.take (k + 1)) rs) := by
            unfold Hid
            rw [HTK.out, if_neg (by simp [keepB, onB, hkp]), List.append_nil]; exact HCS.out
          go_quiet (fail)
          go_wp2_with fail
          go_roundw
          case rel => exact ⟨k + 1, cs, by go_num, by omega, HROW2.out.below (below_drewN (Below.refl _ _) _), HN.out, HFU1.out, below_drewN HB2.out _⟩
          case measure => simp [intOf]; omega
        | false =>
          have HN : Hid ((cs ++ [(onB rs d, a5, c5)]).map (·.1) = fstO (ls.take (k + 1)) rs) := by
            unfold Hid
            rw [HTK.out, if_pos (by simp [keepB, onB, hkp]), List.map_append, HCS.out]; rfl
          go_quiet (fail)
          have d3 : (w2.drewN nq).cell? ⟨b, o + k * 3, none⟩ = some (.string d.nm) := d0''
          have q0 : (w2.drewN nq).cell? ⟨P, 0, none⟩ = some (.string (onT rs d.t).name) := p0
          have q1 : (w2.drewN nq).cell? ⟨P, 1, none⟩ = some (.slice a5 (onT rs d.t).args.length c5) := p1
          have HROW3 := hide (HROW2.out.below (below_drewN (Below.refl _ _) nq))
          have HSL3 := hide (HSL2.out.later (below_drewN (Below.refl _ _) nq))
          have HB3 := hide (below_drewN HB2.out nq)
          have HBR3 := hide (below_drewN HBR2.out nq)
          clear d0'' p0 p1
          generalize w2.drewN nq = w3 at *
          obtain ⟨i0, hi, hz0, hzz1, hzz2⟩ := info_parts Try.infoBind
          go_wp2_with fail
          go_region_law (refine step_append_lies _ rfl _ _ 22 rfl w.heap.size 56 i0 _ 3 56 Try.underlying22 hi hz0 hzz1 hzz2 rfl (by decide) u6 cs.length (flat3 cs) rfl (by exact (HROW3.out.below (below_drewN (Below.refl _ _) 1)).own.alloc _) ⟨w3.heap.size, 0, none⟩ 1 1 (enc3 (onB rs d, a5, c5)) rfl rfl (cell_three_new _ _ _ _ _) (fun x hx => by simp [enc3] at hx; rcases hx with rfl | rfl | rfl <;> rfl) (by decide) (by unfold maxLen; omega) (by omega) (by have := HB3.out.size; simp; omega) _ rfl ?_; intro g cap w4 hown4 hgrow4 hat4 hlt4)
          all_goals
            have HR4 := hide (HROW.out.push (w1 := w3.drew) (x := (onB rs d, a5, c5)) HB.out.size (fun b h => h.2) (below_drewN HBR3.out 1) ((HSL3.out.later (below_drewN (Below.refl _ _) 1)).mono fun b hb _ => by rcases hb with hb | hb; exact Or.inl ⟨hb.1.1, hb.1.2⟩; exact Or.inr (by omega)) _ rfl hown4 hgrow4 hat4)
            have HB4 : Hid (Below w.heap.size w w4) := ((below_drewN HB3.out 1).alloc (by have := HB3.out.size; simp; omega) _).grown hgrow4 (by have := HB3.out.size; simp; omega) (fun j hj => by have := (HROW3.out.own.lt j hj).1; omega)
            clear hown4 hgrow4 hat4 hlt4
            go_wp2_with fail
            go_roundw
            case rel => exact ⟨k + 1, cs ++ [(onB rs d, a5, c5)], by go_num, by omega, HR4.out, HN.out, HFU1.out, HB4.out⟩
            case measure => simp [intOf]; omega
    · have htk : ls.take k = ls := List.take_of_length_le (by omega)
      have HFN : Hid (fullO ls rs = false) := by
        have h := HFU.out
        rw [htk] at h
        unfold Hid fullO
        rw [List.any_eq_false]
        intro d hd
        have := h d hd
        simp; omega
      have HCS0 : Hid (cs.map (·.1) = fstO ls rs) := by have h := HCS.out; rw [htk] at h; exact h
      clear htk hb
      go_wp2_with fail
      go_loopw [6, 10] (fun u v wr => O2Inv w (fun b => X b ∧ b < w.heap.size) ls rs u v wr) (fun u v wr => rs.length - (intOf v).toNat)
      case atStart => exact ⟨0, cs, rfl, Nat.zero_le _, HROW.out, by rw [HCS0.out]; simp [sndO], HB.out⟩
      case round =>
        obtain ⟨k', cs', rfl, hk', hrow', hcs', hb'⟩ := hrel
        have HROW' := hide hrow'
        have HCS' := hide hcs'
        have HB' := hide hb'
        have hcl : cs'.length ≤ 1000000 := by
          have h1 := congrArg List.length hcs'
          have h2 := fstO_len ls rs
          have h3 := sndO_len ls (rs.take k')
          rw [List.length_map, List.length_append] at h1
          rw [List.length_take] at h3
          omega
        clear hrow' hcs'
        by_cases hlt' : k' < rs.length
        · obtain ⟨b, o, a', c', rfl, d0, d1, d2, hs⟩ := (HV.out.later hb').get k' hlt'
          have hlt2 : (k' : Int) < (rs.length : Int) := by omega
          have HS := hide hs
          have HTK := hide (sndO_take (ls := ls) hlt')
          clear hb' hs
          generalize rs[k'] = d at *
          go_wp2_with fail
          refine (for_any ls d.nm _ wr _ (HU.out.later HB'.out)).mono ?_
          rintro e w1 ⟨hb1, hc1⟩
          have HB1 := hide (HB'.out.trans (hb1.mono HB'.out.size))
          have HROW1 := hide (HROW'.out.below hb1)
          have e0 := cell_later hb1 d0
          have e1 := cell_later hb1 d1
          have e2 := cell_later hb1 d2
          have HS1 := hide (HS.out.later hb1)
          have hz1 := hb1.size
          clear hb1 d0 d1 d2
          rcases hc1 with ⟨x, ax, cx, hf, rfl, hsx⟩ | ⟨hf, rfl⟩
          · have HN : Hid (cs'.map (·.1) = fstO ls rs ++ sndO ls (rs.take (k' + 1))) := by
              unfold Hid
              rw [HTK.out, if_neg (by rw [hf]; simp), List.append_nil]; exact HCS'.out
            clear hf hsx
            go_wp2_with fail
            go_quiet (fail)
            go_wp2_with fail
            go_roundw
            case rel => exact ⟨k' + 1, cs', by go_num, by omega, (HROW1.out.below ((Below.refl _ _).alloc (Nat.le_refl _) _)).below (below_drewN (Below.refl _ _) _), HN.out, below_drewN (HB1.out.alloc HB1.out.size _) _⟩
            case measure => simp [intOf]; omega
          · have hbA : Below w1.heap.size w1 (w1.alloc (.cells #[.string ⟨#[]⟩, .slice none 0 0] 25)) := (Below.refl _ _).alloc (Nat.le_refl _) _
            have HB2 := hide (HB1.out.trans (hbA.mono HB1.out.size))
            have HROW2 := hide (HROW1.out.below hbA)
            have HS2 := hide (HS1.out.later hbA)
            have f0 := cell_later hbA e0
            have f1 := cell_later hbA e1
            have f2 := cell_later hbA e2
            clear hbA e0 e1 e2
            cases hkp : (d.t.name.toList == d.nm.toList) with
            | true =>
              have HN : Hid (cs'.map (·.1) = fstO ls rs ++ sndO ls (rs.take (k' + 1))) := by
                unfold Hid
                rw [HTK.out, if_neg (by simp [keepB, hkp]), List.append_nil]; exact HCS'.out
              clear hf
              go_wp2_with fail
              generalize w1.alloc (.cells #[.string ⟨#[]⟩, .slice none 0 0] 25) = w2 at *
              go_quiet (fail)
              go_wp2_with fail
              go_roundw
              case rel => exact ⟨k' + 1, cs', by go_num, by omega, HROW2.out.below (below_drewN (Below.refl _ _) _), HN.out, below_drewN HB2.out _⟩
              case measure => simp [intOf]; omega
            | false =>
              have HN : Hid ((cs' ++ [(d, a', c')]).map (·.1) = fstO ls rs ++ sndO ls (rs.take (k' + 1))) := by
                unfold Hid
                rw [HTK.out, if_pos (by simp [keepB, hkp, hf]), List.map_append, HCS'.out, List.append_assoc]; rfl
              clear hf
              go_wp2_with fail
              generalize w1.alloc (.cells #[.string ⟨#[]⟩, .slice none 0 0] 25) = w2 at *
              go_quiet (fail)
              have g0 : (w2.drewN nq).cell? ⟨b, o + k' * 3, none⟩ = some (.string d.nm) := f0
              have g1 : (w2.drewN nq).cell? ⟨b, o + k' * 3 + 1, none⟩ = some (.string d.t.name) := f1
              have g2 : (w2.drewN nq).cell? ⟨b, o + k' * 3 + 2, none⟩ = some (.slice a' d.t.args.length c') := f2
              have HROW3 := hide (HROW2.out.below (below_drewN (Below.refl _ _) nq))
              have HS3 := hide (HS2.out.later (below_drewN (Below.refl _ _) nq))
              have HB3 := hide (below_drewN HB2.out nq)
              clear f0 f1 f2
              generalize w2.drewN nq = w3 at *
              obtain ⟨v4, w4, hrun, hB4, hg4⟩ := binds_append HROW3.out HB3.out.size (fun b h => h.2) (Below.refl w3.heap.size w3) (d, a', c') (HS3.out.mono fun b h _ => Or.inl h) hcl w3.heap.size rfl
              have HRUN := hide hrun
              have HB4 := hide hB4
              have HBW : Hid (Below w.heap.size w w4) := (HB3.out.alloc HB3.out.size _).grown hg4 (by have := HB3.out.size; simp; omega) (fun j hj => by have := (HROW3.out.own.lt j hj).1; omega)
              clear hrun hB4 hg4
              go_wp2_with (at_builtin; refine wpList_append_eq rfl _ _ _ _ rfl rfl rfl HRUN.out ?_)
              go_roundw
              case rel => exact ⟨k' + 1, _, by go_num, by omega, HB4.out, HN.out, HBW.out⟩
              case measure => simp [intOf]; omega
        · have htk : rs.take k' = rs := List.take_of_length_le (by omega)
          have HCF : Hid (cs'.map (·.1) = fstO ls rs ++ sndO ls rs) := by have h := HCS'.out; rw [htk] at h; exact h
          clear htk hb'
          go_wp2_with fail
          refine (sorted_any (cs'.map (·.1)) _ wr _ HROW'.out.bv (by simpa using hcl)).mono ?_
          rintro e w5 ⟨v5, cs5, rfl, hr5, hp5, hw5, hb5⟩
          have HR5 := hide hr5
          have HP5 := hide hp5
          have HW5 := hide hw5
          have HB5 := hide (HB'.out.trans (hb5.mono HB'.out.size))
          have hzz := HB'.out.size
          clear hr5 hp5 hw5 hb5
          go_wp2_with fail
          refine bodyPost_ret (v := .tuple #[v5, .int .i64 0]) (by simp [results, Try.results18, go_sem]) rfl ?_
          refine ⟨HB5.out, Or.inr ⟨HFN.out, v5, cs5.map (·.1), rfl, HR5.out.bv.mono fun b hb _ => ?_, by rw [← HCF.out]; exact HP5.out, List.pairwise_map.2 (show cs5.Pairwise (fun a b => ltB b.1.nm a.1.nm = false) from HW5.out)⟩⟩
          rcases hb with ⟨hb, _⟩ | hb
          · exact hb
          · exact Or.inr (by omega)
#print axioms thenOf_any
end Go.Proofs.Ytmkomemjhfafnaa
