/- The law on one list of bindings behind another: it answers true. -/
import Derived.Test.YtmkomemjhfafnaaW84
import Derived.Test.YtmkomemjhfafnaaW86
import Derived.Test.YtmkomemjhfafnaaW87
import Derived.Test.YtmkomemjhfafnaaW70
import Derived.Test.YtmkomemjhfafnaaW54
namespace Go.Proofs.Ytmkomemjhfafnaa
open Go.RowKit
set_option linter.unusedSimpArgs false
set_option linter.unusedVariables false
set_option maxRecDepth 8000

/-- What the program and the document make is the same. -/
theorem onB_fB {ls rs : List Bd} (h1 : bindsE ls = 0) (h2 : bindsE rs = 0) {d : Bd} (hd : d ∈ ls) : onB rs d = fB rs d := by
  obtain ⟨k, hk, rfl⟩ := List.getElem_of_mem hd
  unfold onB fB
  rw [fT_onT h2 _ (bindsE_at h1 k hk).2]
theorem fullO_eq {ls rs : List Bd} (h1 : bindsE ls = 0) (h2 : bindsE rs = 0) : fullO ls rs = fullB ls rs := by
  unfold fullO fullB
  rw [Bool.eq_iff_iff, List.any_eq_true, List.any_eq_true]
  have key : ∀ d ∈ ls, onT rs d.t = fT rs d.t := fun d hd => congrArg Bd.t (onB_fB h1 h2 hd)
  constructor
  · rintro ⟨d, hd, h⟩
    exact ⟨d, hd, by rw [← key d hd]; exact h⟩
  · rintro ⟨d, hd, h⟩
    exact ⟨d, hd, by rw [key d hd]; exact h⟩
theorem thenO_eq {ls rs : List Bd} (h1 : bindsE ls = 0) (h2 : bindsE rs = 0) : fstO ls rs ++ sndO ls rs = (bothB ls rs).filter keepB := by
  unfold fstO sndO bothB
  rw [List.filter_append, List.filter_filter]
  congr 1
  · congr 1
    exact List.map_congr_left fun d hd => onB_fB h1 h2 hd
  · exact List.filter_congr fun d _ => Bool.and_comm _ _
theorem bothB_apart {ls rs : List Bd} (h1 : bindsE ls = 0) (h2 : bindsE rs = 0) : ApartB (bothB ls rs) := by
  unfold bothB
  refine List.pairwise_append.2 ⟨List.pairwise_map.2 (bindsE_sorted h1).apart, (bindsE_sorted h2).apart.sublist List.filter_sublist, fun a ha b hb e => ?_⟩
  obtain ⟨d, hd, rfl⟩ := List.mem_map.1 ha
  obtain ⟨_, hf⟩ := List.mem_filter.1 hb
  obtain ⟨t, ht⟩ := forT_some_of hd
  have e2 : d.nm = b.nm := e
  rw [← e2, ht] at hf
  cases hf
theorem then_eq {ls rs l1 l2 : List Bd} (h1 : bindsE ls = 0) (h2 : bindsE rs = 0) (p1 : l1.Perm ((bothB ls rs).filter keepB)) (s1 : SortedB l1) (p2 : l2.Perm (fstO ls rs ++ sndO ls rs)) (s2 : l2.Pairwise fun a b => ltB b.nm a.nm = false) : l1 = l2 := by
  rw [thenO_eq h1 h2] at p2
  refine sortedB_unique (p1.trans p2.symm) s1 (sortedB_of ?_ s2)
  exact ApartB.perm (show ApartB ((bothB ls rs).filter keepB) from (bothB_apart h1 h2).sublist List.filter_sublist) p2

set_option maxHeartbeats 1000000 in
theorem substThen_any (ls rs : List Bd) (u v : Value) (w : World) (X0 : Nat → Prop) (hu0 : BV w X0 u ls) (hv0 : BV w X0 v rs) :
    Calls Try.prog 4 #[u, v] w fun e w' => e = .returned (.bool true) ∧ Below w.heap.size w w' := by
  obtain ⟨X, hX, hu, hv⟩ : ∃ X : Nat → Prop, (∀ b, X b → b < w.heap.size) ∧ BV w X u ls ∧ BV w X v rs := ⟨fun b => X0 b ∧ b < w.heap.size, fun _ h => h.2, hu0.mono fun b h1 h2 => ⟨h1, h2⟩, hv0.mono fun b h1 h2 => ⟨h1, h2⟩⟩
  clear hu0 hv0
  have HV := hide hv
  have HU := hide hu
  clear hv hu
  go_enter Try.func4, Try.ntmps4
  go_wp2_with fail
  refine (hugeBinds_any ls u w X HU.out).mono ?_
  rintro e w1 ⟨rfl, hb1⟩
  have HB1 := hide hb1
  clear hb1
  cases hh : hugeB ls with
  | true =>
    clear hh
    go_wp2_with fail
    go_ret
    exact ⟨rfl, HB1.out⟩
  | false =>
    have HH := hide (hugeB_no hh)
    clear hh
    go_wp2_with fail
    refine (hugeBinds_any rs v w1 X (HV.out.later HB1.out)).mono ?_
    rintro e w2 ⟨rfl, hb2⟩
    have HB2 := hide (HB1.out.trans (hb2.mono HB1.out.size))
    clear hb2
    cases hh2 : hugeB rs with
    | true =>
      clear hh2
      go_wp2_with fail
      go_ret
      exact ⟨rfl, HB2.out⟩
    | false =>
      have HH2 := hide (hugeB_no hh2)
      clear hh2
      go_wp2_with fail
      refine (bindsMay_any ls u w2 X (HU.out.later HB2.out)).mono ?_
      rintro e w3 ⟨rfl, hb3⟩
      have HB3 := hide (HB2.out.trans (hb3.mono HB2.out.size))
      clear hb3
      by_cases hE : bindsE ls = 0
      case neg =>
        have hE2 : (bindsE ls == 0) = false := by simpa using hE
        have HE := hide hE
        clear hE
        go_wp2_with fail
        refine (then_any ls rs u v w3 X (HU.out.later HB3.out) (HV.out.later HB3.out)).mono ?_
        rintro e w5 ⟨hb5, hc⟩
        have HB5 := hide (HB3.out.trans (hb5.mono HB3.out.size))
        clear hb5
        rcases hc with ⟨_, rfl⟩ | ⟨h0, _⟩ | ⟨h0, _⟩ | ⟨h0, _⟩
        · go_wp2_with fail
          refine (binds2_err (bindsE ls) 0 _ w5 HE.out).mono ?_
          rintro e w6 ⟨rfl, rfl⟩
          go_wp2_with fail
          go_ret
          exact ⟨rfl, HB5.out⟩
        · exact absurd h0 HE.out
        · exact absurd h0 HE.out
        · exact absurd h0 HE.out
      have HE := hide hE
      rw [hE]
      clear hE
      go_wp2_with fail
      refine (bindsMay_any rs v w3 X (HV.out.later HB3.out)).mono ?_
      rintro e w4 ⟨rfl, hb4⟩
      have HB4 := hide (HB3.out.trans (hb4.mono HB3.out.size))
      clear hb4
      by_cases hE : bindsE rs = 0
      case neg =>
        have hE2 : (bindsE rs == 0) = false := by simpa using hE
        have HER := hide hE
        clear hE
        go_wp2_with fail
        refine (then_any ls rs u v w4 X (HU.out.later HB4.out) (HV.out.later HB4.out)).mono ?_
        rintro e w5 ⟨hb5, hc⟩
        have HB5 := hide (HB4.out.trans (hb5.mono HB4.out.size))
        clear hb5
        rcases hc with ⟨h0, _⟩ | ⟨_, _, rfl⟩ | ⟨_, h0, _⟩ | ⟨_, h0, _⟩
        · exact absurd HE.out h0
        · go_wp2_with fail
          refine (binds2_err (bindsE rs) 0 _ w5 HER.out).mono ?_
          rintro e w6 ⟨rfl, rfl⟩
          go_wp2_with fail
          go_ret
          exact ⟨rfl, HB5.out⟩
        · exact absurd h0 HER.out
        · exact absurd h0 HER.out
      have HER := hide hE
      rw [hE]
      clear hE
      go_wp2_with fail
      refine (thenOf_any ls rs u v w4 X (HU.out.later HB4.out) (HV.out.later HB4.out) (by have := HH.out.1; omega) (by have := HH2.out.1; omega) (fun d hd => by have := HH.out.2 d hd; omega)).mono ?_
      rintro e w5 ⟨hb5, hc5⟩
      have HB5 := hide (HB4.out.trans (hb5.mono HB4.out.size))
      clear hb5
      rcases hc5 with ⟨hfu, rfl⟩ | ⟨hfu, v5, l5, rfl, hbv5, hp5, hs5⟩
      · have HFU := hide hfu
        clear hfu
        go_wp2_with fail
        refine (then_any ls rs u v w5 X (HU.out.later HB5.out) (HV.out.later HB5.out)).mono ?_
        rintro e w6 ⟨hb6, hc⟩
        have HB6 := hide (HB5.out.trans (hb6.mono HB5.out.size))
        clear hb6
        rcases hc with ⟨h0, _⟩ | ⟨_, h0, _⟩ | ⟨_, _, _, rfl⟩ | ⟨_, _, h0, _⟩
        · exact absurd HE.out h0
        · exact absurd HER.out h0
        · go_wp2_with fail
          refine (binds2_err 8 0 _ w6 (by decide)).mono ?_
          rintro e w7 ⟨rfl, rfl⟩
          go_wp2_with fail
          go_ret
          exact ⟨rfl, HB6.out⟩
        · rw [← fullO_eq HE.out HER.out, HFU.out] at h0; cases h0
      · have HFU := hide hfu
        have HBV5 := hide hbv5
        have HP5 := hide hp5
        have HS5 := hide hs5
        clear hfu hbv5 hp5 hs5
        go_wp2_with fail
        refine (then_any ls rs u v w5 X (HU.out.later HB5.out) (HV.out.later HB5.out)).mono ?_
        rintro e w6 ⟨hb6, hc⟩
        have HB6 := hide (HB5.out.trans (hb6.mono HB5.out.size))
        have HBV6 := hide (HBV5.out.later hb6)
        clear hb6
        rcases hc with ⟨h0, _⟩ | ⟨_, h0, _⟩ | ⟨_, _, h0, _⟩ | ⟨_, _, _, v6, l6, rfl, hbv6, hp6, hs6⟩
        · exact absurd HE.out h0
        · exact absurd HER.out h0
        · rw [← fullO_eq HE.out HER.out, HFU.out] at h0; cases h0
        · have e := then_eq HE.out HER.out hp6 hs6 HP5.out HS5.out
          subst e
          have HX6 := hide hbv6
          clear hbv6 hp6 hs6
          go_wp2_with fail
          refine (binds2_ok l6 v6 v5 w6 _ _ HX6.out HBV6.out).mono ?_
          rintro e w7 ⟨rfl, hb7⟩
          have HB7 := hide (HB6.out.trans (hb7.mono HB6.out.size))
          clear hb7
          go_wp2_with fail
          go_ret
          exact ⟨rfl, HB7.out⟩
#print axioms substThen_any
end Go.Proofs.Ytmkomemjhfafnaa
