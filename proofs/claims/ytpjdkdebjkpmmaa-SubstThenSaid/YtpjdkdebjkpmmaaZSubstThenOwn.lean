/- Several texts in one. -/
import Derived.Test.YtpjdkdebjkpmmaaW84
import Derived.Test.YtpjdkdebjkpmmaaW86
import Derived.Test.YtpjdkdebjkpmmaaW87
import Derived.Test.YtpjdkdebjkpmmaaW70
import Derived.Test.YtpjdkdebjkpmmaaW54
import Derived.Test.YtpjdkdebjkpmmaaRows
import Derived.Test.YtpjdkdebjkpmmaaW7
import Derived.ProofKit
import Derived.Test.YtpjdkdebjkpmmaaBnd
/- The law on one list of bindings behind another: it answers true. -/
namespace Go.Proofs.Ytpjdkdebjkpmmaa
open Go.RowKit
set_option linter.unusedSimpArgs false
set_option linter.unusedVariables false
set_option maxRecDepth 8000

/-- What the program and the document make is the same. -/
theorem onB_fB {ls rs : List Bd} (h1 : bindsE ls = 0) (h2 : bindsE rs = 0) {d : Bd} (hd : d ∈ ls) : onB rs d = fB rs d := by
  obtain ⟨k, hk, rfl⟩ := List.getElem_of_mem hd
  unfold onB fB
  rw [fT_onT h2 _ (bindsE_at h1 k hk).2]
theorem fullO_eq {ls rs : List Bd} (h1 : bindsE ls = 0) (h2 : bindsE rs = 0) : fullO ls rs = fullB ls rs := by
  unfold fullO fullB
  rw [Bool.eq_iff_iff, List.any_eq_true, List.any_eq_true]
  have key : ∀ d ∈ ls, onT rs d.t = fT rs d.t := fun d hd => congrArg Bd.t (onB_fB h1 h2 hd)
  constructor
  · rintro ⟨d, hd, h⟩
    exact ⟨d, hd, by rw [← key d hd]; exact h⟩
  · rintro ⟨d, hd, h⟩
    exact ⟨d, hd, by rw [key d hd]; exact h⟩
theorem thenO_eq {ls rs : List Bd} (h1 : bindsE ls = 0) (h2 : bindsE rs = 0) : fstO ls rs ++ sndO ls rs = (bothB ls rs).filter keepB := by
  unfold fstO sndO bothB
  rw [List.filter_append, List.filter_filter]
  congr 1
  · congr 1
    exact List.map_congr_left fun d hd => onB_fB h1 h2 hd
  · exact List.filter_congr fun d _ => Bool.and_comm _ _
theorem bothB_apart {ls rs : List Bd} (h1 : bindsE ls = 0) (h2 : bindsE rs = 0) : ApartB (bothB ls rs) := by
  unfold bothB
  refine List.pairwise_append.2 ⟨List.pairwise_map.2 (bindsE_sorted h1).apart, (bindsE_sorted h2).apart.sublist List.filter_sublist, fun a ha b hb e => ?_⟩
  obtain ⟨d, hd, rfl⟩ := List.mem_map.1 ha
  obtain ⟨_, hf⟩ := List.mem_filter.1 hb
  obtain ⟨t, ht⟩ := forT_some_of hd
  have e2 : d.nm = b.nm := e
  rw [← e2, ht] at hf
  cases hf
theorem then_eq {ls rs l1 l2 : List Bd} (h1 : bindsE ls = 0) (h2 : bindsE rs = 0) (p1 : l1.Perm ((bothB ls rs).filter keepB)) (s1 : SortedB l1) (p2 : l2.Perm (fstO ls rs ++ sndO ls rs)) (s2 : l2.Pairwise fun a b => ltB b.nm a.nm = false) : l1 = l2 := by
  rw [thenO_eq h1 h2] at p2
  refine sortedB_unique (p1.trans p2.symm) s1 (sortedB_of ?_ s2)
  exact ApartB.perm (show ApartB ((bothB ls rs).filter keepB) from (bothB_apart h1 h2).sublist List.filter_sublist) p2

set_option maxHeartbeats 1000000 in
theorem substThen_any (ls rs : List Bd) (u v : Value) (w : World) (X0 : Nat → Prop) (hu0 : BV w X0 u ls) (hv0 : BV w X0 v rs) :
    Calls Try.prog 8 #[u, v] w fun e w' => e = .returned (.bool true) ∧ Below w.heap.size w w' := by
  obtain ⟨X, hX, hu, hv⟩ : ∃ X : Nat → Prop, (∀ b, X b → b < w.heap.size) ∧ BV w X u ls ∧ BV w X v rs := ⟨fun b => X0 b ∧ b < w.heap.size, fun _ h => h.2, hu0.mono fun b h1 h2 => ⟨h1, h2⟩, hv0.mono fun b h1 h2 => ⟨h1, h2⟩⟩
  clear hu0 hv0
  have HV := hide hv
  have HU := hide hu
  clear hv hu
  go_enter Try.func8, Try.ntmps8
  go_wp2_with fail
  refine (hugeBinds_any ls u w X HU.out).mono ?_
  rintro e w1 ⟨rfl, hb1⟩
  have HB1 := hide hb1
  clear hb1
  cases hh : hugeB ls with
  | true =>
    clear hh
    go_wp2_with fail
    go_ret
    exact ⟨rfl, HB1.out⟩
  | false =>
    have HH := hide (hugeB_no hh)
    clear hh
    go_wp2_with fail
    refine (hugeBinds_any rs v w1 X (HV.out.later HB1.out)).mono ?_
    rintro e w2 ⟨rfl, hb2⟩
    have HB2 := hide (HB1.out.trans (hb2.mono HB1.out.size))
    clear hb2
    cases hh2 : hugeB rs with
    | true =>
      clear hh2
      go_wp2_with fail
      go_ret
      exact ⟨rfl, HB2.out⟩
    | false =>
      have HH2 := hide (hugeB_no hh2)
      clear hh2
      go_wp2_with fail
      refine (bindsMay_any ls u w2 X (HU.out.later HB2.out)).mono ?_
      rintro e w3 ⟨rfl, hb3⟩
      have HB3 := hide (HB2.out.trans (hb3.mono HB2.out.size))
      clear hb3
      by_cases hE : bindsE ls = 0
      case neg =>
        have hE2 : (bindsE ls == 0) = false := by simpa using hE
        have HE := hide hE
        clear hE
        go_wp2_with fail
        refine (then_any ls rs u v w3 X (HU.out.later HB3.out) (HV.out.later HB3.out)).mono ?_
        rintro e w5 ⟨hb5, hc⟩
        have HB5 := hide (HB3.out.trans (hb5.mono HB3.out.size))
        clear hb5
        rcases hc with ⟨_, rfl⟩ | ⟨h0, _⟩ | ⟨h0, _⟩ | ⟨h0, _⟩
        · go_wp2_with fail
          refine (binds2_err (bindsE ls) 0 _ w5 HE.out).mono ?_
          rintro e w6 ⟨rfl, rfl⟩
          go_wp2_with fail
          go_ret
          exact ⟨rfl, HB5.out⟩
        · exact absurd h0 HE.out
        · exact absurd h0 HE.out
        · exact absurd h0 HE.out
      have HE := hide hE
      rw [hE]
      clear hE
      go_wp2_with fail
      refine (bindsMay_any rs v w3 X (HV.out.later HB3.out)).mono ?_
      rintro e w4 ⟨rfl, hb4⟩
      have HB4 := hide (HB3.out.trans (hb4.mono HB3.out.size))
      clear hb4
      by_cases hE : bindsE rs = 0
      case neg =>
        have hE2 : (bindsE rs == 0) = false := by simpa using hE
        have HER := hide hE
        clear hE
        go_wp2_with fail
        refine (then_any ls rs u v w4 X (HU.out.later HB4.out) (HV.out.later HB4.out)).mono ?_
        rintro e w5 ⟨hb5, hc⟩
        have HB5 := hide (HB4.out.trans (hb5.mono HB4.out.size))
        clear hb5
        rcases hc with ⟨h0, _⟩ | ⟨_, _, rfl⟩ | ⟨_, h0, _⟩ | ⟨_, h0, _⟩
        · exact absurd HE.out h0
        · go_wp2_with fail
          refine (binds2_err (bindsE rs) 0 _ w5 HER.out).mono ?_
          rintro e w6 ⟨rfl, rfl⟩
          go_wp2_with fail
          go_ret
          exact ⟨rfl, HB5.out⟩
        · exact absurd h0 HER.out
        · exact absurd h0 HER.out
      have HER := hide hE
      rw [hE]
      clear hE
      go_wp2_with fail
      refine (thenOf_any ls rs u v w4 X (HU.out.later HB4.out) (HV.out.later HB4.out) (by have := HH.out.1; omega) (by have := HH2.out.1; omega) (fun d hd => by have := HH.out.2 d hd; omega)).mono ?_
      rintro e w5 ⟨hb5, hc5⟩
      have HB5 := hide (HB4.out.trans (hb5.mono HB4.out.size))
      clear hb5
      rcases hc5 with ⟨hfu, rfl⟩ | ⟨hfu, v5, l5, rfl, hbv5, hp5, hs5⟩
      · have HFU := hide hfu
        clear hfu
        go_wp2_with fail
        refine (then_any ls rs u v w5 X (HU.out.later HB5.out) (HV.out.later HB5.out)).mono ?_
        rintro e w6 ⟨hb6, hc⟩
        have HB6 := hide (HB5.out.trans (hb6.mono HB5.out.size))
        clear hb6
        rcases hc with ⟨h0, _⟩ | ⟨_, h0, _⟩ | ⟨_, _, _, rfl⟩ | ⟨_, _, h0, _⟩
        · exact absurd HE.out h0
        · exact absurd HER.out h0
        · go_wp2_with fail
          refine (binds2_err 8 0 _ w6 (by decide)).mono ?_
          rintro e w7 ⟨rfl, rfl⟩
          go_wp2_with fail
          go_ret
          exact ⟨rfl, HB6.out⟩
        · rw [← fullO_eq HE.out HER.out, HFU.out] at h0; cases h0
      · have HFU := hide hfu
        have HBV5 := hide hbv5
        have HP5 := hide hp5
        have HS5 := hide hs5
        clear hfu hbv5 hp5 hs5
        go_wp2_with fail
        refine (then_any ls rs u v w5 X (HU.out.later HB5.out) (HV.out.later HB5.out)).mono ?_
        rintro e w6 ⟨hb6, hc⟩
        have HB6 := hide (HB5.out.trans (hb6.mono HB5.out.size))
        have HBV6 := hide (HBV5.out.later hb6)
        clear hb6
        rcases hc with ⟨h0, _⟩ | ⟨_, h0, _⟩ | ⟨_, _, h0, _⟩ | ⟨_, _, _, v6, l6, rfl, hbv6, hp6, hs6⟩
        · exact absurd HE.out h0
        · exact absurd HER.out h0
        · rw [← fullO_eq HE.out HER.out, HFU.out] at h0; cases h0
        · have e := then_eq HE.out HER.out hp6 hs6 HP5.out HS5.out
          subst e
          have HX6 := hide hbv6
          clear hbv6 hp6 hs6
          go_wp2_with fail
          refine (binds2_ok l6 v6 v5 w6 _ _ HX6.out HBV6.out).mono ?_
          rintro e w7 ⟨rfl, hb7⟩
          have HB7 := hide (HB6.out.trans (hb7.mono HB6.out.size))
          clear hb7
          go_wp2_with fail
          go_ret
          exact ⟨rfl, HB7.out⟩
#print axioms substThen_any
end Go.Proofs.Ytpjdkdebjkpmmaa

/- Terms and lists of numbers as they are read before the call. -/
namespace Go.Proofs.Ytpjdkdebjkpmmaa
open Go.ChangeShapes Go.WideShapes Go.ChangeAt Go.RowKit
set_option linter.unusedSimpArgs false
set_option linter.unusedVariables false
set_option maxRecDepth 8000

theorem Try.cellsTerm : Try.prog.cellsOf 24 = 2 := by kernel_rfl
theorem Try.cellsStr : Try.prog.cellsOf 9 = 1 := by kernel_rfl
theorem Try.cellsSl : Try.prog.cellsOf 22 = 1 := by kernel_rfl
theorem Try.cellsInt : Try.prog.cellsOf 3 = 1 := by kernel_rfl

theorem cells2 {w : World} {a : Addr} {cs : List Value} (h : w.cells? 0 a 2 = some cs) : ∃ c0 c1, cs = [c0, c1] ∧ w.cell? a = some c0 ∧ w.cell? (a.add 1) = some c1 := by
  have e : (List.range 2) = [0, 1] := rfl
  simp only [World.cells?, Nat.zero_le, if_true, e] at h
  simp only [List.mapM_cons, List.mapM_nil, Option.bind_eq_bind, Option.bind_eq_some_iff, Option.pure_def] at h
  obtain ⟨c0, h0, r, ⟨c1, h1, r2, h2, h3⟩, h4⟩ := h
  simp only [Option.some.injEq] at h2 h3 h4
  subst h2; subst h3; subst h4
  exact ⟨c0, c1, rfl, by simpa [Addr.add] using h0, h1⟩

theorem cells1 {w : World} {a : Addr} {cs : List Value} (h : w.cells? 0 a 1 = some cs) : ∃ c0, cs = [c0] ∧ w.cell? a = some c0 := by
  have e : (List.range 1) = [0] := rfl
  simp only [World.cells?, Nat.zero_le, if_true, e] at h
  simp only [List.mapM_cons, List.mapM_nil, Option.bind_eq_bind, Option.bind_eq_some_iff, Option.pure_def] at h
  obtain ⟨c0, h0, r, h1, h2⟩ := h
  simp only [Option.some.injEq] at h1 h2
  subst h1; subst h2
  exact ⟨c0, rfl, by simpa [Addr.add] using h0⟩

theorem open_term {H : Type} {enc : TypeId × Value → H} {w : World} {sp : Nat → Bool} {held : Bool} : ∀ (fuel : Nat) (cs : List Value) (x : DataW H × List MemPlace), DataW.trod enc Try.prog w 0 sp held fuel 24 cs = some x →
    ∃ (t : Tm) (a : Option Addr) (c : Nat), cs = [.string t.name, .slice a t.args.length c] ∧ Sl w (fun _ => True) a t.args := by
  intro fuel
  induction fuel using Nat.strongRecOn with
  | ind fuel ih =>
    intro cs x h
    obtain ⟨xs, n, hfu, hx, hl, hxl, hf⟩ := DataW.trod_struct Try.underlying24 h
    have f0 := hf 0 _ rfl
    have f1 := hf 1 _ rfl
    rw [Try.cellsTerm] at hl
    match cs, hl with
    | [c0, c1], _ =>
      match xs, hxl with
      | [y0, y1], _ =>
        simp [Try.cellsStr, Try.cellsSl] at f0 f1
        obtain ⟨s, e0, _, hs⟩ := DataW.trod_string Try.underlying9 f0
        simp at e0
        subst e0
        rcases DataW.trod_slice Try.underlying22 f1 with ⟨e1, _⟩ | ⟨a, len, cap, elems, rest, n2, hn2, e1, _, hb, hlc, hcm, hel, helem, _⟩
        · simp at e1
          subst e1
          exact ⟨⟨s, []⟩, none, 0, rfl, by simp, Or.inl rfl⟩
        · simp at e1
          subst e1
          unfold maxLen at hcm
          rw [Try.cellsTerm] at helem
          have key : ∀ i, ∃ t : Tm, i < len → ∃ a' c', w.cell? (a.add (i * 2)) = some (.string t.name) ∧ w.cell? ((a.add (i * 2)).add 1) = some (.slice a' t.args.length c') ∧ Sl w (fun _ => True) a' t.args := by
            intro i
            by_cases hi : i < len
            · have h1 := helem i hi
              have hie : i < elems.length := by omega
              rw [List.getElem?_eq_getElem hie, Option.bind_eq_some_iff] at h1
              obtain ⟨cs', h2, h3⟩ := h1
              obtain ⟨d0, d1, rfl, g0, g1⟩ := cells2 h2
              obtain ⟨t, a', c', e3, hsl⟩ := ih n2 (by omega) _ _ h3
              simp at e3
              obtain ⟨rfl, rfl⟩ := e3
              exact ⟨t, fun _ => ⟨a', c', g0, g1, hsl⟩⟩
            · exact ⟨⟨s, []⟩, fun h => absurd h hi⟩
          obtain ⟨T, hT⟩ := Classical.skolem.1 key
          refine ⟨⟨s, (List.range len).map T⟩, some a, cap, by simp, by simp; omega, ?_⟩
          by_cases h0 : len = 0
          · subst h0; exact Or.inl rfl
          · right
            obtain ⟨b, o, sp⟩ := a
            obtain ⟨a0, c0, g0, _, _⟩ := hT 0 (by omega)
            have hsp : sp = none := by simpa [Addr.add] using World.cell?_spot g0
            subst hsp
            refine ⟨b, o, rfl, lies_mk _ _ _ fun i hi => ?_⟩
            simp at hi
            obtain ⟨a', c', g0, g1, hsl⟩ := hT i hi
            refine ⟨trivial, ?_, a', c', ?_, ?_⟩
            · simp only [List.getElem_map, List.getElem_range]
              by_cases h00 : i = 0
              · subst h00; simpa [Addr.add] using g0
              · have : i * 2 ≠ 0 := by omega
                simpa [Addr.add, this] using g0
            · simp only [List.getElem_map, List.getElem_range]
              by_cases h00 : i = 0
              · subst h00; simpa [Addr.add] using g1
              · have : i * 2 ≠ 0 := by omega
                simpa [Addr.add, this] using g1
            · simpa using hsl

theorem open_tv {H : Type} {enc : TypeId × Value → H} {w : World} {sp : Nat → Bool} {held : Bool} {r : Reach} {b0 : Nat} {v : Value} {d : DataW H} {p : List MemPlace} (hv : Value.okWide Try.prog w r b0 24 v) (h : DataW.Trod enc Try.prog w 0 sp held 24 v d p) : ∃ t, TV w (fun _ => True) v t := by
  obtain ⟨cs, rfl, hsz⟩ := okWide_struct Try.underlying24 hv
  obtain ⟨fuel, hf⟩ := h
  obtain ⟨t, a, c, e, hs⟩ := open_term fuel _ _ hf
  refine ⟨t, a, c, ?_, hs⟩
  simp [Value.cells] at e
  congr 1
  apply Array.ext'
  simpa using e

theorem open_pv {H : Type} {enc : TypeId × Value → H} {w : World} {sp : Nat → Bool} {held : Bool} {r : Reach} {b0 : Nat} {v : Value} {d : DataW H} {p : List MemPlace} (hv : Value.okWide Try.prog w r b0 25 v) (h : DataW.Trod enc Try.prog w 0 sp held 25 v d p) : ∃ zs, PV w (fun _ => True) v zs := by
  obtain ⟨a0, len0, cap0, rfl⟩ := okWide_slice Try.underlying25 hv
  obtain ⟨fuel, hf⟩ := h
  rcases DataW.trod_slice Try.underlying25 hf with ⟨e1, _⟩ | ⟨a, len, cap, elems, rest, n2, hn2, e1, _, hb, hlc, hcm, hel, helem, _⟩
  · simp [Value.cells] at e1
    obtain ⟨rfl, rfl, rfl⟩ := e1
    exact ⟨[], none, 0, rfl, by simp, Or.inl rfl⟩
  · simp [Value.cells] at e1
    obtain ⟨rfl, rfl, rfl⟩ := e1
    unfold maxLen at hcm
    rw [Try.cellsInt] at helem
    have key : ∀ i, ∃ z : Int, i < len0 → w.cell? (a.add i) = some (.int .i64 z) := by
      intro i
      by_cases hi : i < len0
      · have h1 := helem i hi
        have hie : i < elems.length := by omega
        rw [List.getElem?_eq_getElem hie, Option.bind_eq_some_iff, Nat.mul_one] at h1
        obtain ⟨cs', h2, h3⟩ := h1
        obtain ⟨d0, rfl, g0⟩ := cells1 h2
        obtain ⟨z, e3, _⟩ := DataW.trod_int Try.underlying3 h3
        simp at e3
        subst e3
        exact ⟨z, fun _ => g0⟩
      · exact ⟨0, fun h => absurd h hi⟩
    obtain ⟨Z, hZ⟩ := Classical.skolem.1 key
    refine ⟨(List.range len0).map Z, some a, cap0, by simp, by simp; omega, ?_⟩
    by_cases h0 : len0 = 0
    · subst h0; exact Or.inl rfl
    · right
      obtain ⟨b, o, sp⟩ := a
      have g0 := hZ 0 (by omega)
      have hsp : sp = none := by simpa [Addr.add] using World.cell?_spot g0
      subst hsp
      refine ⟨b, o, rfl, trivial, fun i hi => ?_⟩
      simp at hi
      have g1 := hZ i hi
      simp only [List.getElem_map, List.getElem_range]
      by_cases h00 : i = 0
      · subst h00; simpa [Addr.add] using g1
      · simpa [Addr.add, h00] using g1
#print axioms open_tv
#print axioms open_pv
end Go.Proofs.Ytpjdkdebjkpmmaa

/- Bindings as they are read before the call. -/
namespace Go.Proofs.Ytpjdkdebjkpmmaa
open Go.ChangeShapes Go.WideShapes Go.ChangeAt Go.RowKit
set_option linter.unusedSimpArgs false
set_option linter.unusedVariables false
set_option maxRecDepth 8000

theorem Try.cellsBind : Try.prog.cellsOf 91 = 3 := by kernel_rfl

theorem cells3 {w : World} {a : Addr} {cs : List Value} (h : w.cells? 0 a 3 = some cs) : ∃ c0 c1 c2, cs = [c0, c1, c2] ∧ w.cell? a = some c0 ∧ w.cell? (a.add 1) = some c1 ∧ w.cell? (a.add 2) = some c2 := by
  have e : (List.range 3) = [0, 1, 2] := rfl
  simp only [World.cells?, Nat.zero_le, if_true, e] at h
  simp only [List.mapM_cons, List.mapM_nil, Option.bind_eq_bind, Option.bind_eq_some_iff, Option.pure_def] at h
  obtain ⟨c0, h0, r, ⟨c1, h1, r2, ⟨c2, h2, r3, h3, h4⟩, h5⟩, h6⟩ := h
  simp only [Option.some.injEq] at h3 h4 h5 h6
  subst h3; subst h4; subst h5; subst h6
  exact ⟨c0, c1, c2, rfl, by simpa [Addr.add] using h0, h1, h2⟩

theorem open_bind {H : Type} {enc : TypeId × Value → H} {w : World} {sp : Nat → Bool} {held : Bool} (fuel : Nat) (cs : List Value) (x : DataW H × List MemPlace) (h : DataW.trod enc Try.prog w 0 sp held fuel 91 cs = some x) :
    ∃ (d : Bd) (a : Option Addr) (c : Nat), cs = [.string d.nm, .string d.t.name, .slice a d.t.args.length c] ∧ Sl w (fun _ => True) a d.t.args := by
  obtain ⟨xs, n, hfu, hx, hl, hxl, hf⟩ := DataW.trod_struct Try.underlying91 h
  have f0 := hf 0 _ rfl
  have f1 := hf 1 _ rfl
  rw [Try.cellsBind] at hl
  match cs, hl with
  | [c0, c1, c2], _ =>
    match xs, hxl with
    | [y0, y1], _ =>
      simp [Try.cellsStr, Try.cellsTerm] at f0 f1
      obtain ⟨s, e0, _, hs⟩ := DataW.trod_string Try.underlying9 f0
      simp at e0
      subst e0
      obtain ⟨t, a, c, e, hs⟩ := open_term _ _ _ f1
      simp at e
      obtain ⟨rfl, rfl⟩ := e
      exact ⟨⟨s, t⟩, a, c, rfl, hs⟩

theorem open_bv {H : Type} {enc : TypeId × Value → H} {w : World} {sp : Nat → Bool} {held : Bool} {r : Reach} {b0 : Nat} {v : Value} {d : DataW H} {p : List MemPlace} (hv : Value.okWide Try.prog w r b0 57 v) (h : DataW.Trod enc Try.prog w 0 sp held 57 v d p) : ∃ ls, BV w (fun _ => True) v ls := by
  obtain ⟨a0, len0, cap0, rfl⟩ := okWide_slice Try.underlying57 hv
  obtain ⟨fuel, hf⟩ := h
  rcases DataW.trod_slice Try.underlying57 hf with ⟨e1, _⟩ | ⟨a, len, cap, elems, rest, n2, hn2, e1, _, hb, hlc, hcm, hel, helem, _⟩
  · simp [Value.cells] at e1
    obtain ⟨rfl, rfl, rfl⟩ := e1
    exact ⟨[], none, 0, rfl, by simp, Or.inl rfl⟩
  · simp [Value.cells] at e1
    obtain ⟨rfl, rfl, rfl⟩ := e1
    unfold maxLen at hcm
    rw [Try.cellsBind] at helem
    have key : ∀ i, ∃ d : Bd, i < len0 → ∃ a' c', w.cell? (a.add (i * 3)) = some (.string d.nm) ∧ w.cell? ((a.add (i * 3)).add 1) = some (.string d.t.name) ∧ w.cell? ((a.add (i * 3)).add 2) = some (.slice a' d.t.args.length c') ∧ Sl w (fun _ => True) a' d.t.args := by
      intro i
      by_cases hi : i < len0
      · have h1 := helem i hi
        have hie : i < elems.length := by omega
        rw [List.getElem?_eq_getElem hie, Option.bind_eq_some_iff] at h1
        obtain ⟨cs', h2, h3⟩ := h1
        obtain ⟨d0, d1, d2, rfl, g0, g1, g2⟩ := cells3 h2
        obtain ⟨d, a', c', e3, hsl⟩ := open_bind n2 _ _ h3
        simp at e3
        obtain ⟨rfl, rfl, rfl⟩ := e3
        exact ⟨d, fun _ => ⟨a', c', g0, g1, g2, hsl⟩⟩
      · exact ⟨⟨⟨#[]⟩, ⟨⟨#[]⟩, []⟩⟩, fun h => absurd h hi⟩
    obtain ⟨Z, hZ⟩ := Classical.skolem.1 key
    refine ⟨(List.range len0).map Z, some a, cap0, by simp, by simp; omega, ?_⟩
    by_cases h0 : len0 = 0
    · subst h0; exact Or.inl rfl
    · right
      obtain ⟨b, o, sp⟩ := a
      obtain ⟨_, _, g0, _⟩ := hZ 0 (by omega)
      have hsp : sp = none := by simpa [Addr.add] using World.cell?_spot g0
      subst hsp
      refine ⟨b, o, rfl, trivial, fun i hi => ?_⟩
      simp at hi
      obtain ⟨a', c', g0, g1, g2, hsl⟩ := hZ i hi
      simp only [List.getElem_map, List.getElem_range]
      by_cases h00 : i = 0
      · subst h00; exact ⟨by simpa [Addr.add] using g0, by simpa [Addr.add] using g1, a', c', by simpa [Addr.add] using g2, hsl⟩
      · have h3 : i * 3 ≠ 0 := by omega
        exact ⟨by simpa [Addr.add, h3] using g0, by simpa [Addr.add, h3] using g1, a', c', by simpa [Addr.add, h3] using g2, hsl⟩
#print axioms open_bv
end Go.Proofs.Ytpjdkdebjkpmmaa
