/- Walks: lambda terms made, counted: what is bound from outside is moved. -/
import Derived.Test.YtaifameeoipjjaaL6
namespace Go.Proofs.Ytaifameeoipjjaa
open Go.RowKit
set_option linter.unusedSimpArgs false
set_option linter.unusedVariables false
set_option maxRecDepth 8000

/-- What the moving closure holds. -/
def EnvR (w : World) (B1 B2 F : Nat) (y : Int) : Prop := Blk w B1 #[.pointer (some ⟨F, 0, none⟩)] 64 ∧ Blk w B2 #[.int .i64 y] 3
theorem EnvR.ex {w w' : World} {B1 B2 F : Nat} {y : Int} (h : EnvR w B1 B2 F y) (he : Ex F w w') (h1 : B1 ≠ F) (h2 : B2 ≠ F) : EnvR w' B1 B2 F y := ⟨h.1.ex he h1, h.2.ex he h2⟩
theorem EnvR.later {w w' : World} {B1 B2 F : Nat} {y : Int} (h : EnvR w B1 B2 F y) (hb : Below w.heap.size w w') : EnvR w' B1 B2 F y := ⟨h.1.below hb h.1.lt, h.2.below hb h.2.lt⟩

theorem raise1_any (F B1 B2 : Nat) (y x d : Int) (n : Nat) (w : World) (hn : n ≤ 9223372036854775807) (hx0 : -100000 ≤ x) (hx1 : x ≤ 100000) (hy0 : -100000 ≤ y) (hy1 : y ≤ 100000) (hF : Blk w F #[.int .i64 (n : Int)] 59) (h1F : B1 ≠ F) (h2F : B2 ≠ F) (hE : EnvR w B1 B2 F y) :
    Calls Try.prog 48 #[.int .i64 x, .int .i64 d, .pointer (some ⟨B1, 0, none⟩), .pointer (some ⟨B2, 0, none⟩)] w fun e w' => MkPost w F ⟨1, x + y, []⟩ n e w' := by
  have hFl := hF.lt
  have q1 : ∀ o, (w.alloc o).cell? ⟨B1, 0, none⟩ = some (.pointer (some ⟨F, 0, none⟩)) := fun o => (hE.1.alloc o).cell 0
  have q2 : ∀ o, (w.alloc o).cell? ⟨B2, 0, none⟩ = some (.int .i64 y) := fun o => (hE.2.alloc o).cell 0
  have hw1 : IntKind.i64.wrap (x + y) = x + y := by rw [IntKind.wrap_i64]; omega
  have HF := hide hF
  clear hF hE
  go_enter Try.func48, Try.ntmps48
  go_wp2_with fail
  refine (bound_any F _ n _ hn (HF.out.alloc _)).mono ?_
  rintro e w1 ⟨k', x', a', l', c', m, rfl, hF1, hx1, hy1, hn1⟩
  have R1 : Hid (Blk w1 w.heap.size #[.int .i64 0, .int .i64 0, .slice none 0 0] 24) := (Blk.new w #[.int .i64 0, .int .i64 0, .slice none 0 0] 24).ex hx1 (by omega)
  have HX := hide (((Ex.refl F w).alloc (.cells #[.int .i64 0, .int .i64 0, .slice none 0 0] 24)).trans hx1)
  have HF1 := hide hF1
  have HY := hide hy1
  have HN := hide hn1
  clear hF1 hx1 hy1 hn1
  have r0 : w1.cell? ⟨w.heap.size, 0, none⟩ = some (.int .i64 0) := R1.out.cell 0
  have r1 : w1.cell? ⟨w.heap.size, 1, none⟩ = some (.int .i64 0) := R1.out.cell 1
  have r2 : w1.cell? ⟨w.heap.size, 2, none⟩ = some (.slice none 0 0) := R1.out.cell 2
  have rf := R1.out.frozen
  have hRl := R1.out.lt
  go_wp2_with fail
  refine bodyPost_ret (v := .agg #[.int .i64 k', .int .i64 x', .slice a' l' c']) (by simp [results, Try.results48, go_sem, World.cell?_setCell_same, World.cell?_setCell_other, r0, r1, r2, hRl]) rfl ?_
  exact mk_end (W := w.alloc (.cells #[.int .i64 0, .int .i64 0, .slice none 0 0] 24)) hFl (Nat.le_refl _) (by simp) HF1.out HX.out HY.out HN.out
set_option maxHeartbeats 4000000 in
theorem buildR_any (F B1 B2 : Nat) (y : Int) (hy0 : -100000 ≤ y) (hy1 : y ≤ 100000) (h1F : B1 ≠ F) (h2F : B2 ≠ F) (t : Lm) : ∀ (n : Nat) (v : Value) (d : Int) (w : World) (X : Nat → Prop), MV w X v t → (∀ b, X b → b ≠ F) → n ≤ 9223372036854775807 → 0 ≤ d → d + sizeM [t] ≤ 100000 → BndM [t] → LfM [t] → Blk w F #[.int .i64 (n : Int)] 59 → EnvR w B1 B2 F y →
    Calls Try.prog 47 #[.pointer (some ⟨F, 0, none⟩), v, .int .i64 d, .func (.func 48) #[] #[.pointer (some ⟨B1, 0, none⟩), .pointer (some ⟨B2, 0, none⟩)]] w fun e w' => MkPost w F (higT y d t) n e w' := by
  induction t using Lm.ind with
  | h kd ix l ih =>
    intro n v d w X hv hXF hn hd0 hd1 hbn hlf hF hE
    obtain ⟨a, c, rfl, hs⟩ := hv
    obtain ⟨i0, hi0, hz0, hz1, hz2⟩ := info_parts Try.infoLam
    have IH := hide ih
    have HS := hide hs
    have HXF := hide hXF
    have HF := hide hF
    have HE := hide hE
    have hl := hs.1
    have hz : sizeM [(⟨kd, ix, l⟩ : Lm)] = 1 + sizeM l := by simp [sizeM]
    rw [hz] at hd1
    rw [BndM_cons] at hbn
    rw [LfM_cons] at hlf
    obtain ⟨⟨hx0, hx1⟩, hbn, _⟩ := hbn
    obtain ⟨hl1, hlf, _⟩ := hlf
    have HBN := hide hbn
    have HLF := hide hlf
    have hsml := sizeM_len l
    have hFl : F < w.heap.size := hF.lt
    have f0 : ∀ o, (w.alloc o).cell? ⟨F, 0, none⟩ = some (.int .i64 (n : Int)) := fun o => (HF.out.alloc o).cell 0
    have ff : ∀ o, (w.alloc o).frozen? ⟨F, 0, none⟩ = false := fun o => (HF.out.alloc o).frozen 0
    have f0' : ∀ o o', ((w.alloc o).alloc o').cell? ⟨F, 0, none⟩ = some (.int .i64 (n : Int)) := fun o o' => ((HF.out.alloc o).alloc o').cell 0
    have ff' : ∀ o o', ((w.alloc o).alloc o').frozen? ⟨F, 0, none⟩ = false := fun o o' => ((HF.out.alloc o).alloc o').frozen 0
    have hwn : IntKind.i64.wrap ((n : Int) - 1) = (n : Int) - 1 := by rw [IntKind.wrap_i64]; omega
    clear ih hs hz hbn hlf hXF hF hE
    by_cases k1 : kd = 1
    case pos =>
      subst k1
      have hl0 : l = [] := hl1 rfl
      by_cases hlt : ix < d
      · obtain ⟨L, hLd⟩ : ∃ L, L = higM y d l := ⟨_, rfl⟩
        have HT : Hid (higT y d ⟨1, ix, l⟩ = ⟨1, ix, L⟩) := by unfold Hid higT; rw [hLd, hl0]; simp [hlt, higM]
        have hnge : ¬ (d ≤ ix) := by omega
        clear hl0 hl1
        have HLL : Hid (L.length = l.length) := by unfold Hid; rw [hLd, higM_map]; simp
        have HLG : Hid (∀ k (h : k < l.length) (h' : k < L.length), L[k] = higT y (d) l[k]) := fun k h h' => by subst hLd; simp [higM_map]
        have hzL : sizeM [(⟨1, ix, L⟩ : Lm)] = 1 + sizeM L := by simp [sizeM]
        clear hLd
        go_enter Try.func47, Try.ntmps47
        go_wp2_with fail
        have E3 : Hid (MnSet w F (w.heap.size + 1 + 1) 1 ix (.slice none 0 0) #[.int .i64 ((n : Int) - 1)] ((((w.setCell ⟨F, 0, none⟩ (.int .i64 ((n : Int) - 1))).alloc (.cells #[.int .i64 1, .int .i64 ix, .slice a l.length c] 24)).alloc (.cells #[.int .i64 0, .int .i64 0, .slice none 0 0] 24)).alloc (.cells #[.int .i64 1, .int .i64 ix, .slice none 0 0] 24))) := by
          refine ⟨((((Ex.refl F w).set 0 _).alloc _).alloc _).alloc _, ?_, ?_, (((HF.out.set 0 _).alloc _).alloc _).alloc _, by simp [World.setCell]⟩
          · have h := (Blk.new ((w.setCell ⟨F, 0, none⟩ (.int .i64 ((n : Int) - 1))).alloc (.cells #[.int .i64 1, .int .i64 ix, .slice a l.length c] 24)) #[.int .i64 0, .int .i64 0, .slice none 0 0] 24).alloc (.cells #[.int .i64 1, .int .i64 ix, .slice none 0 0] 24)
            simpa [World.setCell] using h
          · have h := Blk.new (((w.setCell ⟨F, 0, none⟩ (.int .i64 ((n : Int) - 1))).alloc (.cells #[.int .i64 1, .int .i64 ix, .slice a l.length c] 24)).alloc (.cells #[.int .i64 0, .int .i64 0, .slice none 0 0] 24)) #[.int .i64 1, .int .i64 ix, .slice none 0 0] 24
            simpa [World.setCell] using h
        generalize ((((w.setCell ⟨F, 0, none⟩ (.int .i64 ((n : Int) - 1))).alloc (.cells #[.int .i64 1, .int .i64 ix, .slice a l.length c] 24)).alloc (.cells #[.int .i64 0, .int .i64 0, .slice none 0 0] 24)).alloc (.cells #[.int .i64 1, .int .i64 ix, .slice none 0 0] 24)) = w3 at *
        generalize hOe : w.heap.size + 1 + 1 = O at *
        have hO : w.heap.size + 2 ≤ O := by omega
        clear hOe f0 ff f0' ff'
        go_loopw [46] (fun i wr => MnInv w F O 1 ix L n i wr) (fun i wr => l.length - (intOf i).toNat)
        case atStart =>
          refine ⟨0, .slice none 0 0, Nat.zero_le _, rfl, ?_⟩
          by_cases hn0 : n = 0
          · subst hn0
            exact Or.inr ⟨by omega, E3.out, none, 0, 0, rfl⟩
          · refine Or.inl ⟨n - 1, [], by simp [sizeM]; omega, ?_, RowM.start _ _ _ _⟩
            rw [show ((n - 1 : Nat) : Int) = (n : Int) - 1 by omega]
            exact E3.out
        case round =>
          obtain ⟨k, u, hk, rfl, hcase⟩ := hrel
          have HKL := hide hk
          rw [HLL.out] at hk
          rcases hcase with ⟨m, xs, hm, hset, hrow⟩ | ⟨hbig, hset, a9, l9, c9, rfl⟩
          · have XS := hide hset
            have XW := hide hrow
            have HMM := hide hm
            clear hset hrow
            by_cases hlt : k < l.length
            · have hltL : k < L.length := by rw [HLL.out]; exact hlt
              obtain ⟨b, o, a', c', rfl, d0, d0', d1, hx⟩ := (HS.out.ex XS.out.1 HXF.out).get (Below.refl _ _) (fun _ _ h => h) k hlt
              obtain ⟨av, cv, ev, hsx⟩ := hx
              simp at ev
              obtain ⟨rfl, rfl⟩ := ev
              have hmn : m ≤ 9223372036854775807 := by omega
              have HOF : Hid (O ≠ F) := by unfold Hid; omega
              have HFO1 : Hid (F < O + 1) := by unfold Hid; omega
              have hsk : (L.take k).length = k := by simp; omega
              have hkn : k ≤ 1000000 := by omega
              have HL1 : Hid ((L.take k).length + 1 ≤ maxLen ∧ ((L.take k).length + 1) * 40 ≤ 140737488355328) := by unfold Hid; rw [hsk]; exact ⟨by unfold maxLen; omega, by omega⟩
              clear hsk
              have HLK : Hid (L[k] = higT y (d) l[k]) := HLG.out k hlt hltL
              have hszk : sizeM [l[k]] ≤ sizeM l := by
                have h1 := sizeM_take l k hlt
                have h2 := sizeM_take_le l (k + 1)
                omega
              have IHQ : Hid (Calls Try.prog 47 #[.pointer (some ⟨F, 0, none⟩), .agg #[.int .i64 l[k].kind, .int .i64 l[k].idx, .slice a' l[k].subs.length c'], .int .i64 (d), .func (.func 48) #[] #[.pointer (some ⟨B1, 0, none⟩), .pointer (some ⟨B2, 0, none⟩)]] (wr.alloc (.cells #[.int .i64 l[k].kind, .int .i64 l[k].idx, .slice a' l[k].subs.length c'] 24)).drew fun e w'' => MkPost (wr.alloc (.cells #[.int .i64 l[k].kind, .int .i64 l[k].idx, .slice a' l[k].subs.length c'] 24)).drew F (higT y (d) l[k]) m e w'') := (IH.out l[k] (List.getElem_mem hlt) m _ (d) _ X ⟨a', c', rfl, ((hsx.later ((Below.refl _ _).alloc (Nat.le_refl _) (.cells #[.int .i64 l[k].kind, .int .i64 l[k].idx, .slice a' l[k].subs.length c'] 24))).later ((Below.refl _ _).drew))⟩ HXF.out hmn (by omega) (by omega) (BndM.at k hlt HBN.out) (LfM.at k hlt HLF.out) (by exact ((XS.out.2.2.2.1.alloc _).drewN 1)) (HE.out.ex XS.out.1 h1F h2F |>.later ((Below.refl _ _).alloc (Nat.le_refl _) _) |>.later ((Below.refl _ _).drew)))
              have f0 : ∀ o, (wr.alloc o).cell? ⟨F, 0, none⟩ = some (.int .i64 (m : Int)) := fun o => (XS.out.2.2.2.1.alloc o).cell 0
              have o1 : ∀ o, (wr.alloc o).cell? ⟨O, 2, none⟩ = some u := fun o => (XS.out.2.2.1.alloc o).cell 2
              have hm0 : ¬ (m : Int) < 0 := by omega
              rw [← HLK.out] at IHQ
              by_cases hle : sizeM [L[k]] ≤ m
              · have IHG : Hid (Calls Try.prog 47 #[.pointer (some ⟨F, 0, none⟩), .agg #[.int .i64 l[k].kind, .int .i64 l[k].idx, .slice a' l[k].subs.length c'], .int .i64 (d), .func (.func 48) #[] #[.pointer (some ⟨B1, 0, none⟩), .pointer (some ⟨B2, 0, none⟩)]] (wr.alloc (.cells #[.int .i64 l[k].kind, .int .i64 l[k].idx, .slice a' l[k].subs.length c'] 24)).drew fun e w'' => ∃ a1 c1, e = .returned (.agg #[.int .i64 L[k].kind, .int .i64 L[k].idx, .slice a1 L[k].subs.length c1]) ∧ Blk w'' F #[.int .i64 ((m : Int) - sizeM [L[k]])] 59 ∧ Ex F wr w'' ∧ SlM w'' (fun b => wr.heap.size ≤ b) a1 L[k].subs) := IHQ.out.mono fun e w'' hp => by
                  obtain ⟨s1, s2, a1, l1, c1, m1, h1, h2, h3, h4, _⟩ := hp
                  obtain ⟨rfl, rfl, rfl, rfl, h5⟩ := h4 hle
                  exact ⟨a1, c1, h1, h2, (((Ex.refl F wr).alloc _).drew).trans h3, h5.mono fun b hb _ => by simp at hb; omega⟩
                clear IHQ
                have HLE := hide hle
                have HLL2 := hide hltL
                clear hle HLK hszk hx0 hx1 hd0 hd1 hsml hkn hmn
                go_wp2_with fail
                go_region_law (first
                  | (go_simp; go_at_call 47; refine IHG.out.mono ?_; rintro e w1 ⟨a1, c1, rfl, hF1, he1, hs1⟩; have hc3 : ∀ o, (w1.alloc o).cell? ⟨O, 2, none⟩ = some u := fun o => ((Blk.ex XS.out.2.2.1 he1 HOF.out).alloc o).cell 2; have hc4 : w1.cell? ⟨O, 2, none⟩ = some u := (Blk.ex XS.out.2.2.1 he1 HOF.out).cell 2)
                  | (refine step_append_lies _ rfl _ _ 22 rfl (O + 1) 24 i0 _ 3 40 Try.underlying22 hi0 hz0 hz1 hz2 rfl (by decide) u (L.take k).length xs rfl (by exact (RowM.ex (B := F) XW.out he1 HFO1.out (fun h => h)).own.alloc _) ⟨w1.heap.size, 0, none⟩ 1 1 [.int .i64 L[k].kind, .int .i64 L[k].idx, .slice a1 L[k].subs.length c1] rfl rfl (cell_lam_new _ _ _ _ _) (fun x hx => by simp at hx; rcases hx with rfl | rfl | rfl <;> rfl) (by decide) HL1.out.1 HL1.out.2 (by have := he1.size; have := XS.out.2.2.2.2; simp; omega) _ rfl ?_; intro g cap w3 hown3 hgrow3 hat3 hlt3; have hB3 := hide (((Blk.ex XS.out.2.2.1 he1 HOF.out).alloc _).grown hgrow3 (XW.out.ne (Nat.lt_succ_self _))); have hc5 : w3.cell? ⟨O, 2, none⟩ = some u := hB3.out.cell 2; have hf5 := hB3.out.frozen 2))
                all_goals
                  have HK := hide (mn_set (v := .slice (some ⟨g, 0, none⟩) ((L.take k).length + 1) cap) hFl hO XS.out (fun j hj => (XW.out.own.lt j hj).1) he1 hF1 hgrow3)
                  have HRW := hide (mn_row (t := L[k]) (by omega) XS.out.2.2.2.2 XW.out he1 ⟨a1, c1, rfl, hs1⟩ hown3 hgrow3 hat3)
                  clear hown3 hgrow3 hat3 hc3 hc4 hc5 hf5 hB3 hF1 he1 hs1 hlt3
                  go_wp2_with fail
                  go_roundw
                  case rel =>
                    have hkl : (L.take k).length = k := by simp; omega
                    have hmin : min k L.length = k := Nat.min_eq_left (by have := HKL.out; omega)
                    simp only [hmin]
                    have h1 := HK.out
                    have h2 := HRW.out
                    have hmm := HMM.out
                    have hle := HLE.out
                    simp only [hkl] at h1 h2
                    obtain ⟨m', hm'⟩ : ∃ m' : Nat, (m' : Int) = (m : Int) - sizeM [L[k]] := ⟨m - sizeM [L[k]], by omega⟩
                    refine ⟨k + 1, .slice (some ⟨g, 0, none⟩) (k + 1) cap, by omega, by go_num, Or.inl ⟨m', xs ++ [.int .i64 L[k].kind, .int .i64 L[k].idx, .slice a1 L[k].subs.length c1], by rw [sizeM_take L k hltL]; omega, ?_, ?_⟩⟩
                    · rw [hm']
                      exact h1
                    · rw [List.take_succ_eq_append_getElem hltL]
                      exact h2
                  case measure => simp [intOf]; omega
              · have IHG : Hid (Calls Try.prog 47 #[.pointer (some ⟨F, 0, none⟩), .agg #[.int .i64 l[k].kind, .int .i64 l[k].idx, .slice a' l[k].subs.length c'], .int .i64 (d), .func (.func 48) #[] #[.pointer (some ⟨B1, 0, none⟩), .pointer (some ⟨B2, 0, none⟩)]] (wr.alloc (.cells #[.int .i64 l[k].kind, .int .i64 l[k].idx, .slice a' l[k].subs.length c'] 24)).drew fun e w'' => ∃ s1 s2 a1 l1 c1, e = .returned (.agg #[.int .i64 s1, .int .i64 s2, .slice a1 l1 c1]) ∧ Blk w'' F #[.int .i64 (-1)] 59 ∧ Ex F wr w'') := IHQ.out.mono fun e w'' hp => by
                  obtain ⟨s1, s2, a1, l1, c1, m1, h1, h2, h3, _, h4⟩ := hp
                  obtain rfl := h4 (by omega)
                  exact ⟨s1, s2, a1, l1, c1, h1, h2, (((Ex.refl F wr).alloc _).drew).trans h3⟩
                clear IHQ
                have HLE := hide hle
                have HLL2 := hide hltL
                clear hle HLK hszk hx0 hx1 hd0 hd1 hsml hkn hmn
                go_wp2_with fail
                go_region_law (first
                  | (go_simp; go_at_call 47; refine IHG.out.mono ?_; rintro e w1 ⟨s1, s2, a1, l1, c1, rfl, hF1, he1⟩; have hc3 : ∀ o, (w1.alloc o).cell? ⟨O, 2, none⟩ = some u := fun o => ((Blk.ex XS.out.2.2.1 he1 HOF.out).alloc o).cell 2; have hc4 : w1.cell? ⟨O, 2, none⟩ = some u := (Blk.ex XS.out.2.2.1 he1 HOF.out).cell 2)
                  | (refine step_append_lies _ rfl _ _ 22 rfl (O + 1) 24 i0 _ 3 40 Try.underlying22 hi0 hz0 hz1 hz2 rfl (by decide) u (L.take k).length xs rfl (by exact (RowM.ex (B := F) XW.out he1 HFO1.out (fun h => h)).own.alloc _) ⟨w1.heap.size, 0, none⟩ 1 1 [.int .i64 s1, .int .i64 s2, .slice a1 l1 c1] rfl rfl (cell_lam_new _ _ _ _ _) (fun x hx => by simp at hx; rcases hx with rfl | rfl | rfl <;> rfl) (by decide) HL1.out.1 HL1.out.2 (by have := he1.size; have := XS.out.2.2.2.2; simp; omega) _ rfl ?_; intro g cap w3 hown3 hgrow3 hat3 hlt3; have hB3 := hide (((Blk.ex XS.out.2.2.1 he1 HOF.out).alloc _).grown hgrow3 (XW.out.ne (Nat.lt_succ_self _))); have hc5 : w3.cell? ⟨O, 2, none⟩ = some u := hB3.out.cell 2; have hf5 := hB3.out.frozen 2))
                all_goals
                  have HK := hide (mn_set (v := .slice (some ⟨g, 0, none⟩) ((L.take k).length + 1) cap) hFl hO XS.out (fun j hj => (XW.out.own.lt j hj).1) he1 hF1 hgrow3)
                  clear hown3 hgrow3 hat3 hc3 hc4 hc5 hf5 hB3 hF1 he1 hlt3
                  go_wp2_with fail
                  go_roundw
                  case rel =>
                    have hkl : (L.take k).length = k := by simp; omega
                    have hmin : min k L.length = k := Nat.min_eq_left (by have := HKL.out; omega)
                    simp only [hmin]
                    have h0 := HK.out
                    have hmm := HMM.out
                    have hle := HLE.out
                    simp only [hkl] at h0
                    refine ⟨k + 1, .slice (some ⟨g, 0, none⟩) (k + 1) cap, by omega, by go_num, Or.inr ⟨?_, h0, _, _, _, rfl⟩⟩
                    have h1 := sizeM_take L k hltL
                    have h2 := sizeM_take_le L (k + 1)
                    omega
                  case measure => simp [intOf]; omega
            · have htk : L.take k = L := List.take_of_length_le (by rw [HLL.out]; omega)
              rw [htk] at XW HMM
              obtain ⟨a9, c9, hu9, hsl9⟩ := XW.out.sl
              subst hu9
              have S9 := hide hsl9
              clear hsl9
              have r0 : wr.cell? ⟨w.heap.size + 1, 0, none⟩ = some (.int .i64 0) := XS.out.2.1.cell 0
              have r1 : wr.cell? ⟨w.heap.size + 1, 1, none⟩ = some (.int .i64 0) := XS.out.2.1.cell 1
              have r2 : wr.cell? ⟨w.heap.size + 1, 2, none⟩ = some (.slice none 0 0) := XS.out.2.1.cell 2
              have rf := XS.out.2.1.frozen
              have hRl : w.heap.size + 1 < wr.heap.size := XS.out.2.1.lt
              have o0 : wr.cell? ⟨O, 0, none⟩ = some (.int .i64 1) := XS.out.2.2.1.cell 0
              have o1 : wr.cell? ⟨O, 1, none⟩ = some (.int .i64 ix) := XS.out.2.2.1.cell 1
              have o2 : wr.cell? ⟨O, 2, none⟩ = some (.slice a9 L.length c9) := XS.out.2.2.1.cell 2
              go_wp2_with fail
              refine bodyPost_ret (v := .agg #[.int .i64 1, .int .i64 ix, .slice a9 L.length c9]) (by simp [results, Try.results47, go_sem, World.cell?_setCell_same, World.cell?_setCell_other, r0, r1, r2, hRl]) rfl ?_
              have hmm := HMM.out
              rw [HT.out]
              refine ⟨1, ix, a9, L.length, c9, m, rfl, ((XS.out.2.2.2.1.setOther _ _ (by omega)).setOther _ _ (by omega)).setOther _ _ (by omega), ((XS.out.1.setNew (by omega) _ _).setNew (by omega) _ _).setNew (by omega) _ _, fun h => ⟨by rw [hzL]; omega, rfl, rfl, rfl, (S9.out.kept fun b hb => ?_).mono fun b hb _ => ?_⟩, fun h => by omega⟩
              · have hb' : O + 1 ≤ b := hb.elim False.elim id
                rw [Below.heap_setCell _ _ _ _ (by simp; omega), Below.heap_setCell _ _ _ _ (by simp; omega), Below.heap_setCell _ _ _ _ (by simp; omega)]
              · have hb' : O + 1 ≤ b := hb.elim False.elim id
                omega
          · have XS := hide hset
            clear hset
            have f0 : ∀ o, (wr.alloc o).cell? ⟨F, 0, none⟩ = some (.int .i64 (-1)) := fun o => (XS.out.2.2.2.1.alloc o).cell 0
            have r0 : wr.cell? ⟨w.heap.size + 1, 0, none⟩ = some (.int .i64 0) := XS.out.2.1.cell 0
            have r1 : wr.cell? ⟨w.heap.size + 1, 1, none⟩ = some (.int .i64 0) := XS.out.2.1.cell 1
            have r2 : wr.cell? ⟨w.heap.size + 1, 2, none⟩ = some (.slice none 0 0) := XS.out.2.1.cell 2
            have rf := XS.out.2.1.frozen
            have hRl : w.heap.size + 1 < wr.heap.size := XS.out.2.1.lt
            by_cases hlt : k < l.length
            · obtain ⟨b, o, a', c', rfl, d0, d0', d1, hx⟩ := (HS.out.ex XS.out.1 HXF.out).get (Below.refl _ _) (fun _ _ h => h) k hlt
              clear hx
              have o0 : ∀ o, (wr.alloc o).cell? ⟨O, 0, none⟩ = some (.int .i64 1) := fun o => (XS.out.2.2.1.alloc o).cell 0
              have o1 : ∀ o, (wr.alloc o).cell? ⟨O, 1, none⟩ = some (.int .i64 ix) := fun o => (XS.out.2.2.1.alloc o).cell 1
              have o2 : ∀ o, (wr.alloc o).cell? ⟨O, 2, none⟩ = some (.slice a9 l9 c9) := fun o => (XS.out.2.2.1.alloc o).cell 2
              go_wp2_with fail
              refine bodyPost_ret (v := .agg #[.int .i64 1, .int .i64 ix, .slice a9 l9 c9]) (by simp [results, Try.results47, go_sem, World.cell?_setCell_same, World.cell?_setCell_other, r0, r1, r2, hRl, World.cell?_alloc_old]) rfl ?_
              rw [HT.out]
              exact ⟨1, ix, a9, l9, c9, -1, rfl, (((XS.out.2.2.2.1.setOther _ _ (by omega)).setOther _ _ (by omega)).setOther _ _ (by omega)).alloc _, (((XS.out.1.setNew (by omega) _ _).setNew (by omega) _ _).setNew (by omega) _ _).alloc _, fun h => by omega, fun _ => rfl⟩
            · have o0 : wr.cell? ⟨O, 0, none⟩ = some (.int .i64 1) := XS.out.2.2.1.cell 0
              have o1 : wr.cell? ⟨O, 1, none⟩ = some (.int .i64 ix) := XS.out.2.2.1.cell 1
              have o2 : wr.cell? ⟨O, 2, none⟩ = some (.slice a9 l9 c9) := XS.out.2.2.1.cell 2
              go_wp2_with fail
              refine bodyPost_ret (v := .agg #[.int .i64 1, .int .i64 ix, .slice a9 l9 c9]) (by simp [results, Try.results47, go_sem, World.cell?_setCell_same, World.cell?_setCell_other, r0, r1, r2, hRl]) rfl ?_
              rw [HT.out]
              exact ⟨1, ix, a9, l9, c9, -1, rfl, ((XS.out.2.2.2.1.setOther _ _ (by omega)).setOther _ _ (by omega)).setOther _ _ (by omega), ((XS.out.1.setNew (by omega) _ _).setNew (by omega) _ _).setNew (by omega) _ _, fun h => by omega, fun _ => rfl⟩
      · have hge : d ≤ ix := by omega
        have HT : Hid (higT y d ⟨1, ix, l⟩ = ⟨1, ix + y, []⟩) := by unfold Hid higT; simp [hlt]
        have HC := hide (raise1_any F B1 B2 y ix d n ((w.alloc (.cells #[.int .i64 1, .int .i64 ix, .slice a l.length c] 24)).alloc (.cells #[.int .i64 0, .int .i64 0, .slice none 0 0] 24)) hn (by omega) (by omega) hy0 hy1 ((HF.out.alloc _).alloc _) h1F h2F ((HE.out.later ((Below.refl _ _).alloc (Nat.le_refl _) _)).later ((Below.refl _ _).alloc (Nat.le_refl _) _)))
        clear hl0 hl1
        go_enter Try.func47, Try.ntmps47
        go_wp2_with fail
        refine HC.out.mono ?_
        rintro e w1 ⟨k', x', a', l', c', m, rfl, hF1, hx1, hy1, hn1⟩
        have R1 : Hid (Blk w1 (w.heap.size + 1) #[.int .i64 0, .int .i64 0, .slice none 0 0] 24) := by
          have h := (Blk.new (w.alloc (.cells #[.int .i64 1, .int .i64 ix, .slice a l.length c] 24)) #[.int .i64 0, .int .i64 0, .slice none 0 0] 24).ex hx1 (by simp; omega)
          rw [World.size_alloc] at h
          exact h
        have HX := hide ((((Ex.refl F w).alloc (.cells #[.int .i64 1, .int .i64 ix, .slice a l.length c] 24)).alloc (.cells #[.int .i64 0, .int .i64 0, .slice none 0 0] 24)).trans hx1)
        have HF1 := hide hF1
        have HY := hide hy1
        have HN := hide hn1
        clear hF1 hx1 hy1 hn1
        have r0 : w1.cell? ⟨w.heap.size + 1, 0, none⟩ = some (.int .i64 0) := R1.out.cell 0
        have r1 : w1.cell? ⟨w.heap.size + 1, 1, none⟩ = some (.int .i64 0) := R1.out.cell 1
        have r2 : w1.cell? ⟨w.heap.size + 1, 2, none⟩ = some (.slice none 0 0) := R1.out.cell 2
        have rf := R1.out.frozen
        have hRl := R1.out.lt
        go_wp2_with fail
        refine bodyPost_ret (v := .agg #[.int .i64 k', .int .i64 x', .slice a' l' c']) (by simp [results, Try.results47, go_sem, World.cell?_setCell_same, World.cell?_setCell_other, r0, r1, r2, hRl]) rfl ?_
        rw [HT.out]
        exact mk_end (W := (w.alloc (.cells #[.int .i64 1, .int .i64 ix, .slice a l.length c] 24)).alloc (.cells #[.int .i64 0, .int .i64 0, .slice none 0 0] 24)) hFl (by omega) (by simp) HF1.out HX.out HY.out HN.out
    case neg =>
      have e1 : (kd == 1) = false := by simpa using k1
      clear hl1
      by_cases k2 : kd = 2
      case pos =>
        subst k2
        obtain ⟨L, hLd⟩ : ∃ L, L = higM y (d + 1) l := ⟨_, rfl⟩
        have hw1 : IntKind.i64.wrap (d + 1) = d + 1 := by rw [IntKind.wrap_i64]; omega
        have HT : Hid (higT y d ⟨2, ix, l⟩ = ⟨2, ix, L⟩) := by unfold Hid higT; rw [hLd]; simp [deepK]
        have HLL : Hid (L.length = l.length) := by unfold Hid; rw [hLd, higM_map]; simp
        have HLG : Hid (∀ k (h : k < l.length) (h' : k < L.length), L[k] = higT y (d + 1) l[k]) := fun k h h' => by subst hLd; simp [higM_map]
        have hzL : sizeM [(⟨2, ix, L⟩ : Lm)] = 1 + sizeM L := by simp [sizeM]
        clear hLd
        go_enter Try.func47, Try.ntmps47
        go_wp2_with fail
        have E3 : Hid (MnSet w F (w.heap.size + 1 + 1) 2 ix (.slice none 0 0) #[.int .i64 ((n : Int) - 1)] ((((w.setCell ⟨F, 0, none⟩ (.int .i64 ((n : Int) - 1))).alloc (.cells #[.int .i64 2, .int .i64 ix, .slice a l.length c] 24)).alloc (.cells #[.int .i64 0, .int .i64 0, .slice none 0 0] 24)).alloc (.cells #[.int .i64 2, .int .i64 ix, .slice none 0 0] 24))) := by
          refine ⟨((((Ex.refl F w).set 0 _).alloc _).alloc _).alloc _, ?_, ?_, (((HF.out.set 0 _).alloc _).alloc _).alloc _, by simp [World.setCell]⟩
          · have h := (Blk.new ((w.setCell ⟨F, 0, none⟩ (.int .i64 ((n : Int) - 1))).alloc (.cells #[.int .i64 2, .int .i64 ix, .slice a l.length c] 24)) #[.int .i64 0, .int .i64 0, .slice none 0 0] 24).alloc (.cells #[.int .i64 2, .int .i64 ix, .slice none 0 0] 24)
            simpa [World.setCell] using h
          · have h := Blk.new (((w.setCell ⟨F, 0, none⟩ (.int .i64 ((n : Int) - 1))).alloc (.cells #[.int .i64 2, .int .i64 ix, .slice a l.length c] 24)).alloc (.cells #[.int .i64 0, .int .i64 0, .slice none 0 0] 24)) #[.int .i64 2, .int .i64 ix, .slice none 0 0] 24
            simpa [World.setCell] using h
        generalize ((((w.setCell ⟨F, 0, none⟩ (.int .i64 ((n : Int) - 1))).alloc (.cells #[.int .i64 2, .int .i64 ix, .slice a l.length c] 24)).alloc (.cells #[.int .i64 0, .int .i64 0, .slice none 0 0] 24)).alloc (.cells #[.int .i64 2, .int .i64 ix, .slice none 0 0] 24)) = w3 at *
        generalize hOe : w.heap.size + 1 + 1 = O at *
        have hO : w.heap.size + 2 ≤ O := by omega
        clear hOe f0 ff f0' ff'
        go_loopw [46] (fun i wr => MnInv w F O 2 ix L n i wr) (fun i wr => l.length - (intOf i).toNat)
        case atStart =>
          refine ⟨0, .slice none 0 0, Nat.zero_le _, rfl, ?_⟩
          by_cases hn0 : n = 0
          · subst hn0
            exact Or.inr ⟨by omega, E3.out, none, 0, 0, rfl⟩
          · refine Or.inl ⟨n - 1, [], by simp [sizeM]; omega, ?_, RowM.start _ _ _ _⟩
            rw [show ((n - 1 : Nat) : Int) = (n : Int) - 1 by omega]
            exact E3.out
        case round =>
          obtain ⟨k, u, hk, rfl, hcase⟩ := hrel
          have HKL := hide hk
          rw [HLL.out] at hk
          rcases hcase with ⟨m, xs, hm, hset, hrow⟩ | ⟨hbig, hset, a9, l9, c9, rfl⟩
          · have XS := hide hset
            have XW := hide hrow
            have HMM := hide hm
            clear hset hrow
            by_cases hlt : k < l.length
            · have hltL : k < L.length := by rw [HLL.out]; exact hlt
              obtain ⟨b, o, a', c', rfl, d0, d0', d1, hx⟩ := (HS.out.ex XS.out.1 HXF.out).get (Below.refl _ _) (fun _ _ h => h) k hlt
              obtain ⟨av, cv, ev, hsx⟩ := hx
              simp at ev
              obtain ⟨rfl, rfl⟩ := ev
              have hmn : m ≤ 9223372036854775807 := by omega
              have HOF : Hid (O ≠ F) := by unfold Hid; omega
              have HFO1 : Hid (F < O + 1) := by unfold Hid; omega
              have hsk : (L.take k).length = k := by simp; omega
              have hkn : k ≤ 1000000 := by omega
              have HL1 : Hid ((L.take k).length + 1 ≤ maxLen ∧ ((L.take k).length + 1) * 40 ≤ 140737488355328) := by unfold Hid; rw [hsk]; exact ⟨by unfold maxLen; omega, by omega⟩
              clear hsk
              have HLK : Hid (L[k] = higT y (d + 1) l[k]) := HLG.out k hlt hltL
              have hszk : sizeM [l[k]] ≤ sizeM l := by
                have h1 := sizeM_take l k hlt
                have h2 := sizeM_take_le l (k + 1)
                omega
              have IHQ : Hid (Calls Try.prog 47 #[.pointer (some ⟨F, 0, none⟩), .agg #[.int .i64 l[k].kind, .int .i64 l[k].idx, .slice a' l[k].subs.length c'], .int .i64 (d + 1), .func (.func 48) #[] #[.pointer (some ⟨B1, 0, none⟩), .pointer (some ⟨B2, 0, none⟩)]] (wr.alloc (.cells #[.int .i64 l[k].kind, .int .i64 l[k].idx, .slice a' l[k].subs.length c'] 24)).drew fun e w'' => MkPost (wr.alloc (.cells #[.int .i64 l[k].kind, .int .i64 l[k].idx, .slice a' l[k].subs.length c'] 24)).drew F (higT y (d + 1) l[k]) m e w'') := (IH.out l[k] (List.getElem_mem hlt) m _ (d + 1) _ X ⟨a', c', rfl, ((hsx.later ((Below.refl _ _).alloc (Nat.le_refl _) (.cells #[.int .i64 l[k].kind, .int .i64 l[k].idx, .slice a' l[k].subs.length c'] 24))).later ((Below.refl _ _).drew))⟩ HXF.out hmn (by omega) (by omega) (BndM.at k hlt HBN.out) (LfM.at k hlt HLF.out) (by exact ((XS.out.2.2.2.1.alloc _).drewN 1)) (HE.out.ex XS.out.1 h1F h2F |>.later ((Below.refl _ _).alloc (Nat.le_refl _) _) |>.later ((Below.refl _ _).drew)))
              have f0 : ∀ o, (wr.alloc o).cell? ⟨F, 0, none⟩ = some (.int .i64 (m : Int)) := fun o => (XS.out.2.2.2.1.alloc o).cell 0
              have o1 : ∀ o, (wr.alloc o).cell? ⟨O, 2, none⟩ = some u := fun o => (XS.out.2.2.1.alloc o).cell 2
              have hm0 : ¬ (m : Int) < 0 := by omega
              rw [← HLK.out] at IHQ
              by_cases hle : sizeM [L[k]] ≤ m
              · have IHG : Hid (Calls Try.prog 47 #[.pointer (some ⟨F, 0, none⟩), .agg #[.int .i64 l[k].kind, .int .i64 l[k].idx, .slice a' l[k].subs.length c'], .int .i64 (d + 1), .func (.func 48) #[] #[.pointer (some ⟨B1, 0, none⟩), .pointer (some ⟨B2, 0, none⟩)]] (wr.alloc (.cells #[.int .i64 l[k].kind, .int .i64 l[k].idx, .slice a' l[k].subs.length c'] 24)).drew fun e w'' => ∃ a1 c1, e = .returned (.agg #[.int .i64 L[k].kind, .int .i64 L[k].idx, .slice a1 L[k].subs.length c1]) ∧ Blk w'' F #[.int .i64 ((m : Int) - sizeM [L[k]])] 59 ∧ Ex F wr w'' ∧ SlM w'' (fun b => wr.heap.size ≤ b) a1 L[k].subs) := IHQ.out.mono fun e w'' hp => by
                  obtain ⟨s1, s2, a1, l1, c1, m1, h1, h2, h3, h4, _⟩ := hp
                  obtain ⟨rfl, rfl, rfl, rfl, h5⟩ := h4 hle
                  exact ⟨a1, c1, h1, h2, (((Ex.refl F wr).alloc _).drew).trans h3, h5.mono fun b hb _ => by simp at hb; omega⟩
                clear IHQ
                have HLE := hide hle
                have HLL2 := hide hltL
                clear hle HLK hszk hx0 hx1 hd0 hd1 hsml hkn hmn
                go_wp2_with fail
                go_region_law (first
                  | (go_simp; go_at_call 47; refine IHG.out.mono ?_; rintro e w1 ⟨a1, c1, rfl, hF1, he1, hs1⟩; have hc3 : ∀ o, (w1.alloc o).cell? ⟨O, 2, none⟩ = some u := fun o => ((Blk.ex XS.out.2.2.1 he1 HOF.out).alloc o).cell 2; have hc4 : w1.cell? ⟨O, 2, none⟩ = some u := (Blk.ex XS.out.2.2.1 he1 HOF.out).cell 2)
                  | (refine step_append_lies _ rfl _ _ 22 rfl (O + 1) 24 i0 _ 3 40 Try.underlying22 hi0 hz0 hz1 hz2 rfl (by decide) u (L.take k).length xs rfl (by exact (RowM.ex (B := F) XW.out he1 HFO1.out (fun h => h)).own.alloc _) ⟨w1.heap.size, 0, none⟩ 1 1 [.int .i64 L[k].kind, .int .i64 L[k].idx, .slice a1 L[k].subs.length c1] rfl rfl (cell_lam_new _ _ _ _ _) (fun x hx => by simp at hx; rcases hx with rfl | rfl | rfl <;> rfl) (by decide) HL1.out.1 HL1.out.2 (by have := he1.size; have := XS.out.2.2.2.2; simp; omega) _ rfl ?_; intro g cap w3 hown3 hgrow3 hat3 hlt3; have hB3 := hide (((Blk.ex XS.out.2.2.1 he1 HOF.out).alloc _).grown hgrow3 (XW.out.ne (Nat.lt_succ_self _))); have hc5 : w3.cell? ⟨O, 2, none⟩ = some u := hB3.out.cell 2; have hf5 := hB3.out.frozen 2))
                all_goals
                  have HK := hide (mn_set (v := .slice (some ⟨g, 0, none⟩) ((L.take k).length + 1) cap) hFl hO XS.out (fun j hj => (XW.out.own.lt j hj).1) he1 hF1 hgrow3)
                  have HRW := hide (mn_row (t := L[k]) (by omega) XS.out.2.2.2.2 XW.out he1 ⟨a1, c1, rfl, hs1⟩ hown3 hgrow3 hat3)
                  clear hown3 hgrow3 hat3 hc3 hc4 hc5 hf5 hB3 hF1 he1 hs1 hlt3
                  go_wp2_with fail
                  go_roundw
                  case rel =>
                    have hkl : (L.take k).length = k := by simp; omega
                    have hmin : min k L.length = k := Nat.min_eq_left (by have := HKL.out; omega)
                    simp only [hmin]
                    have h1 := HK.out
                    have h2 := HRW.out
                    have hmm := HMM.out
                    have hle := HLE.out
                    simp only [hkl] at h1 h2
                    obtain ⟨m', hm'⟩ : ∃ m' : Nat, (m' : Int) = (m : Int) - sizeM [L[k]] := ⟨m - sizeM [L[k]], by omega⟩
                    refine ⟨k + 1, .slice (some ⟨g, 0, none⟩) (k + 1) cap, by omega, by go_num, Or.inl ⟨m', xs ++ [.int .i64 L[k].kind, .int .i64 L[k].idx, .slice a1 L[k].subs.length c1], by rw [sizeM_take L k hltL]; omega, ?_, ?_⟩⟩
                    · rw [hm']
                      exact h1
                    · rw [List.take_succ_eq_append_getElem hltL]
                      exact h2
                  case measure => simp [intOf]; omega
              · have IHG : Hid (Calls Try.prog 47 #[.pointer (some ⟨F, 0, none⟩), .agg #[.int .i64 l[k].kind, .int .i64 l[k].idx, .slice a' l[k].subs.length c'], .int .i64 (d + 1), .func (.func 48) #[] #[.pointer (some ⟨B1, 0, none⟩), .pointer (some ⟨B2, 0, none⟩)]] (wr.alloc (.cells #[.int .i64 l[k].kind, .int .i64 l[k].idx, .slice a' l[k].subs.length c'] 24)).drew fun e w'' => ∃ s1 s2 a1 l1 c1, e = .returned (.agg #[.int .i64 s1, .int .i64 s2, .slice a1 l1 c1]) ∧ Blk w'' F #[.int .i64 (-1)] 59 ∧ Ex F wr w'') := IHQ.out.mono fun e w'' hp => by
                  obtain ⟨s1, s2, a1, l1, c1, m1, h1, h2, h3, _, h4⟩ := hp
                  obtain rfl := h4 (by omega)
                  exact ⟨s1, s2, a1, l1, c1, h1, h2, (((Ex.refl F wr).alloc _).drew).trans h3⟩
                clear IHQ
                have HLE := hide hle
                have HLL2 := hide hltL
                clear hle HLK hszk hx0 hx1 hd0 hd1 hsml hkn hmn
                go_wp2_with fail
                go_region_law (first
                  | (go_simp; go_at_call 47; refine IHG.out.mono ?_; rintro e w1 ⟨s1, s2, a1, l1, c1, rfl, hF1, he1⟩; have hc3 : ∀ o, (w1.alloc o).cell? ⟨O, 2, none⟩ = some u := fun o => ((Blk.ex XS.out.2.2.1 he1 HOF.out).alloc o).cell 2; have hc4 : w1.cell? ⟨O, 2, none⟩ = some u := (Blk.ex XS.out.2.2.1 he1 HOF.out).cell 2)
                  | (refine step_append_lies _ rfl _ _ 22 rfl (O + 1) 24 i0 _ 3 40 Try.underlying22 hi0 hz0 hz1 hz2 rfl (by decide) u (L.take k).length xs rfl (by exact (RowM.ex (B := F) XW.out he1 HFO1.out (fun h => h)).own.alloc _) ⟨w1.heap.size, 0, none⟩ 1 1 [.int .i64 s1, .int .i64 s2, .slice a1 l1 c1] rfl rfl (cell_lam_new _ _ _ _ _) (fun x hx => by simp at hx; rcases hx with rfl | rfl | rfl <;> rfl) (by decide) HL1.out.1 HL1.out.2 (by have := he1.size; have := XS.out.2.2.2.2; simp; omega) _ rfl ?_; intro g cap w3 hown3 hgrow3 hat3 hlt3; have hB3 := hide (((Blk.ex XS.out.2.2.1 he1 HOF.out).alloc _).grown hgrow3 (XW.out.ne (Nat.lt_succ_self _))); have hc5 : w3.cell? ⟨O, 2, none⟩ = some u := hB3.out.cell 2; have hf5 := hB3.out.frozen 2))
                all_goals
                  have HK := hide (mn_set (v := .slice (some ⟨g, 0, none⟩) ((L.take k).length + 1) cap) hFl hO XS.out (fun j hj => (XW.out.own.lt j hj).1) he1 hF1 hgrow3)
                  clear hown3 hgrow3 hat3 hc3 hc4 hc5 hf5 hB3 hF1 he1 hlt3
                  go_wp2_with fail
                  go_roundw
                  case rel =>
                    have hkl : (L.take k).length = k := by simp; omega
                    have hmin : min k L.length = k := Nat.min_eq_left (by have := HKL.out; omega)
                    simp only [hmin]
                    have h0 := HK.out
                    have hmm := HMM.out
                    have hle := HLE.out
                    simp only [hkl] at h0
                    refine ⟨k + 1, .slice (some ⟨g, 0, none⟩) (k + 1) cap, by omega, by go_num, Or.inr ⟨?_, h0, _, _, _, rfl⟩⟩
                    have h1 := sizeM_take L k hltL
                    have h2 := sizeM_take_le L (k + 1)
                    omega
                  case measure => simp [intOf]; omega
            · have htk : L.take k = L := List.take_of_length_le (by rw [HLL.out]; omega)
              rw [htk] at XW HMM
              obtain ⟨a9, c9, hu9, hsl9⟩ := XW.out.sl
              subst hu9
              have S9 := hide hsl9
              clear hsl9
              have r0 : wr.cell? ⟨w.heap.size + 1, 0, none⟩ = some (.int .i64 0) := XS.out.2.1.cell 0
              have r1 : wr.cell? ⟨w.heap.size + 1, 1, none⟩ = some (.int .i64 0) := XS.out.2.1.cell 1
              have r2 : wr.cell? ⟨w.heap.size + 1, 2, none⟩ = some (.slice none 0 0) := XS.out.2.1.cell 2
              have rf := XS.out.2.1.frozen
              have hRl : w.heap.size + 1 < wr.heap.size := XS.out.2.1.lt
              have o0 : wr.cell? ⟨O, 0, none⟩ = some (.int .i64 2) := XS.out.2.2.1.cell 0
              have o1 : wr.cell? ⟨O, 1, none⟩ = some (.int .i64 ix) := XS.out.2.2.1.cell 1
              have o2 : wr.cell? ⟨O, 2, none⟩ = some (.slice a9 L.length c9) := XS.out.2.2.1.cell 2
              go_wp2_with fail
              refine bodyPost_ret (v := .agg #[.int .i64 2, .int .i64 ix, .slice a9 L.length c9]) (by simp [results, Try.results47, go_sem, World.cell?_setCell_same, World.cell?_setCell_other, r0, r1, r2, hRl]) rfl ?_
              have hmm := HMM.out
              rw [HT.out]
              refine ⟨2, ix, a9, L.length, c9, m, rfl, ((XS.out.2.2.2.1.setOther _ _ (by omega)).setOther _ _ (by omega)).setOther _ _ (by omega), ((XS.out.1.setNew (by omega) _ _).setNew (by omega) _ _).setNew (by omega) _ _, fun h => ⟨by rw [hzL]; omega, rfl, rfl, rfl, (S9.out.kept fun b hb => ?_).mono fun b hb _ => ?_⟩, fun h => by omega⟩
              · have hb' : O + 1 ≤ b := hb.elim False.elim id
                rw [Below.heap_setCell _ _ _ _ (by simp; omega), Below.heap_setCell _ _ _ _ (by simp; omega), Below.heap_setCell _ _ _ _ (by simp; omega)]
              · have hb' : O + 1 ≤ b := hb.elim False.elim id
                omega
          · have XS := hide hset
            clear hset
            have f0 : ∀ o, (wr.alloc o).cell? ⟨F, 0, none⟩ = some (.int .i64 (-1)) := fun o => (XS.out.2.2.2.1.alloc o).cell 0
            have r0 : wr.cell? ⟨w.heap.size + 1, 0, none⟩ = some (.int .i64 0) := XS.out.2.1.cell 0
            have r1 : wr.cell? ⟨w.heap.size + 1, 1, none⟩ = some (.int .i64 0) := XS.out.2.1.cell 1
            have r2 : wr.cell? ⟨w.heap.size + 1, 2, none⟩ = some (.slice none 0 0) := XS.out.2.1.cell 2
            have rf := XS.out.2.1.frozen
            have hRl : w.heap.size + 1 < wr.heap.size := XS.out.2.1.lt
            by_cases hlt : k < l.length
            · obtain ⟨b, o, a', c', rfl, d0, d0', d1, hx⟩ := (HS.out.ex XS.out.1 HXF.out).get (Below.refl _ _) (fun _ _ h => h) k hlt
              clear hx
              have o0 : ∀ o, (wr.alloc o).cell? ⟨O, 0, none⟩ = some (.int .i64 2) := fun o => (XS.out.2.2.1.alloc o).cell 0
              have o1 : ∀ o, (wr.alloc o).cell? ⟨O, 1, none⟩ = some (.int .i64 ix) := fun o => (XS.out.2.2.1.alloc o).cell 1
              have o2 : ∀ o, (wr.alloc o).cell? ⟨O, 2, none⟩ = some (.slice a9 l9 c9) := fun o => (XS.out.2.2.1.alloc o).cell 2
              go_wp2_with fail
              refine bodyPost_ret (v := .agg #[.int .i64 2, .int .i64 ix, .slice a9 l9 c9]) (by simp [results, Try.results47, go_sem, World.cell?_setCell_same, World.cell?_setCell_other, r0, r1, r2, hRl, World.cell?_alloc_old]) rfl ?_
              rw [HT.out]
              exact ⟨2, ix, a9, l9, c9, -1, rfl, (((XS.out.2.2.2.1.setOther _ _ (by omega)).setOther _ _ (by omega)).setOther _ _ (by omega)).alloc _, (((XS.out.1.setNew (by omega) _ _).setNew (by omega) _ _).setNew (by omega) _ _).alloc _, fun h => by omega, fun _ => rfl⟩
            · have o0 : wr.cell? ⟨O, 0, none⟩ = some (.int .i64 2) := XS.out.2.2.1.cell 0
              have o1 : wr.cell? ⟨O, 1, none⟩ = some (.int .i64 ix) := XS.out.2.2.1.cell 1
              have o2 : wr.cell? ⟨O, 2, none⟩ = some (.slice a9 l9 c9) := XS.out.2.2.1.cell 2
              go_wp2_with fail
              refine bodyPost_ret (v := .agg #[.int .i64 2, .int .i64 ix, .slice a9 l9 c9]) (by simp [results, Try.results47, go_sem, World.cell?_setCell_same, World.cell?_setCell_other, r0, r1, r2, hRl]) rfl ?_
              rw [HT.out]
              exact ⟨2, ix, a9, l9, c9, -1, rfl, ((XS.out.2.2.2.1.setOther _ _ (by omega)).setOther _ _ (by omega)).setOther _ _ (by omega), ((XS.out.1.setNew (by omega) _ _).setNew (by omega) _ _).setNew (by omega) _ _, fun h => by omega, fun _ => rfl⟩
      case neg =>
        have e2 : (kd == 2) = false := by simpa using k2
        obtain ⟨L, hLd⟩ : ∃ L, L = higM y d l := ⟨_, rfl⟩
        have HT : Hid (higT y d ⟨kd, ix, l⟩ = ⟨kd, ix, L⟩) := by unfold Hid higT; rw [hLd]; simp [deepK, k1, k2]
        have HLL : Hid (L.length = l.length) := by unfold Hid; rw [hLd, higM_map]; simp
        have HLG : Hid (∀ k (h : k < l.length) (h' : k < L.length), L[k] = higT y (d) l[k]) := fun k h h' => by subst hLd; simp [higM_map]
        have hzL : sizeM [(⟨kd, ix, L⟩ : Lm)] = 1 + sizeM L := by simp [sizeM]
        clear hLd
        go_enter Try.func47, Try.ntmps47
        go_wp2_with fail
        have E3 : Hid (MnSet w F (w.heap.size + 1 + 1) kd ix (.slice none 0 0) #[.int .i64 ((n : Int) - 1)] ((((w.setCell ⟨F, 0, none⟩ (.int .i64 ((n : Int) - 1))).alloc (.cells #[.int .i64 kd, .int .i64 ix, .slice a l.length c] 24)).alloc (.cells #[.int .i64 0, .int .i64 0, .slice none 0 0] 24)).alloc (.cells #[.int .i64 kd, .int .i64 ix, .slice none 0 0] 24))) := by
          refine ⟨((((Ex.refl F w).set 0 _).alloc _).alloc _).alloc _, ?_, ?_, (((HF.out.set 0 _).alloc _).alloc _).alloc _, by simp [World.setCell]⟩
          · have h := (Blk.new ((w.setCell ⟨F, 0, none⟩ (.int .i64 ((n : Int) - 1))).alloc (.cells #[.int .i64 kd, .int .i64 ix, .slice a l.length c] 24)) #[.int .i64 0, .int .i64 0, .slice none 0 0] 24).alloc (.cells #[.int .i64 kd, .int .i64 ix, .slice none 0 0] 24)
            simpa [World.setCell] using h
          · have h := Blk.new (((w.setCell ⟨F, 0, none⟩ (.int .i64 ((n : Int) - 1))).alloc (.cells #[.int .i64 kd, .int .i64 ix, .slice a l.length c] 24)).alloc (.cells #[.int .i64 0, .int .i64 0, .slice none 0 0] 24)) #[.int .i64 kd, .int .i64 ix, .slice none 0 0] 24
            simpa [World.setCell] using h
        generalize ((((w.setCell ⟨F, 0, none⟩ (.int .i64 ((n : Int) - 1))).alloc (.cells #[.int .i64 kd, .int .i64 ix, .slice a l.length c] 24)).alloc (.cells #[.int .i64 0, .int .i64 0, .slice none 0 0] 24)).alloc (.cells #[.int .i64 kd, .int .i64 ix, .slice none 0 0] 24)) = w3 at *
        generalize hOe : w.heap.size + 1 + 1 = O at *
        have hO : w.heap.size + 2 ≤ O := by omega
        clear hOe f0 ff f0' ff'
        go_loopw [46] (fun i wr => MnInv w F O kd ix L n i wr) (fun i wr => l.length - (intOf i).toNat)
        case atStart =>
          refine ⟨0, .slice none 0 0, Nat.zero_le _, rfl, ?_⟩
          by_cases hn0 : n = 0
          · subst hn0
            exact Or.inr ⟨by omega, E3.out, none, 0, 0, rfl⟩
          · refine Or.inl ⟨n - 1, [], by simp [sizeM]; omega, ?_, RowM.start _ _ _ _⟩
            rw [show ((n - 1 : Nat) : Int) = (n : Int) - 1 by omega]
            exact E3.out
        case round =>
          obtain ⟨k, u, hk, rfl, hcase⟩ := hrel
          have HKL := hide hk
          rw [HLL.out] at hk
          rcases hcase with ⟨m, xs, hm, hset, hrow⟩ | ⟨hbig, hset, a9, l9, c9, rfl⟩
          · have XS := hide hset
            have XW := hide hrow
            have HMM := hide hm
            clear hset hrow
            by_cases hlt : k < l.length
            · have hltL : k < L.length := by rw [HLL.out]; exact hlt
              obtain ⟨b, o, a', c', rfl, d0, d0', d1, hx⟩ := (HS.out.ex XS.out.1 HXF.out).get (Below.refl _ _) (fun _ _ h => h) k hlt
              obtain ⟨av, cv, ev, hsx⟩ := hx
              simp at ev
              obtain ⟨rfl, rfl⟩ := ev
              have hmn : m ≤ 9223372036854775807 := by omega
              have HOF : Hid (O ≠ F) := by unfold Hid; omega
              have HFO1 : Hid (F < O + 1) := by unfold Hid; omega
              have hsk : (L.take k).length = k := by simp; omega
              have hkn : k ≤ 1000000 := by omega
              have HL1 : Hid ((L.take k).length + 1 ≤ maxLen ∧ ((L.take k).length + 1) * 40 ≤ 140737488355328) := by unfold Hid; rw [hsk]; exact ⟨by unfold maxLen; omega, by omega⟩
              clear hsk
              have HLK : Hid (L[k] = higT y (d) l[k]) := HLG.out k hlt hltL
              have hszk : sizeM [l[k]] ≤ sizeM l := by
                have h1 := sizeM_take l k hlt
                have h2 := sizeM_take_le l (k + 1)
                omega
              have IHQ : Hid (Calls Try.prog 47 #[.pointer (some ⟨F, 0, none⟩), .agg #[.int .i64 l[k].kind, .int .i64 l[k].idx, .slice a' l[k].subs.length c'], .int .i64 (d), .func (.func 48) #[] #[.pointer (some ⟨B1, 0, none⟩), .pointer (some ⟨B2, 0, none⟩)]] (wr.alloc (.cells #[.int .i64 l[k].kind, .int .i64 l[k].idx, .slice a' l[k].subs.length c'] 24)).drew fun e w'' => MkPost (wr.alloc (.cells #[.int .i64 l[k].kind, .int .i64 l[k].idx, .slice a' l[k].subs.length c'] 24)).drew F (higT y (d) l[k]) m e w'') := (IH.out l[k] (List.getElem_mem hlt) m _ (d) _ X ⟨a', c', rfl, ((hsx.later ((Below.refl _ _).alloc (Nat.le_refl _) (.cells #[.int .i64 l[k].kind, .int .i64 l[k].idx, .slice a' l[k].subs.length c'] 24))).later ((Below.refl _ _).drew))⟩ HXF.out hmn (by omega) (by omega) (BndM.at k hlt HBN.out) (LfM.at k hlt HLF.out) (by exact ((XS.out.2.2.2.1.alloc _).drewN 1)) (HE.out.ex XS.out.1 h1F h2F |>.later ((Below.refl _ _).alloc (Nat.le_refl _) _) |>.later ((Below.refl _ _).drew)))
              have f0 : ∀ o, (wr.alloc o).cell? ⟨F, 0, none⟩ = some (.int .i64 (m : Int)) := fun o => (XS.out.2.2.2.1.alloc o).cell 0
              have o1 : ∀ o, (wr.alloc o).cell? ⟨O, 2, none⟩ = some u := fun o => (XS.out.2.2.1.alloc o).cell 2
              have hm0 : ¬ (m : Int) < 0 := by omega
              rw [← HLK.out] at IHQ
              by_cases hle : sizeM [L[k]] ≤ m
              · have IHG : Hid (Calls Try.prog 47 #[.pointer (some ⟨F, 0, none⟩), .agg #[.int .i64 l[k].kind, .int .i64 l[k].idx, .slice a' l[k].subs.length c'], .int .i64 (d), .func (.func 48) #[] #[.pointer (some ⟨B1, 0, none⟩), .pointer (some ⟨B2, 0, none⟩)]] (wr.alloc (.cells #[.int .i64 l[k].kind, .int .i64 l[k].idx, .slice a' l[k].subs.length c'] 24)).drew fun e w'' => ∃ a1 c1, e = .returned (.agg #[.int .i64 L[k].kind, .int .i64 L[k].idx, .slice a1 L[k].subs.length c1]) ∧ Blk w'' F #[.int .i64 ((m : Int) - sizeM [L[k]])] 59 ∧ Ex F wr w'' ∧ SlM w'' (fun b => wr.heap.size ≤ b) a1 L[k].subs) := IHQ.out.mono fun e w'' hp => by
                  obtain ⟨s1, s2, a1, l1, c1, m1, h1, h2, h3, h4, _⟩ := hp
                  obtain ⟨rfl, rfl, rfl, rfl, h5⟩ := h4 hle
                  exact ⟨a1, c1, h1, h2, (((Ex.refl F wr).alloc _).drew).trans h3, h5.mono fun b hb _ => by simp at hb; omega⟩
                clear IHQ
                have HLE := hide hle
                have HLL2 := hide hltL
                clear hle HLK hszk hx0 hx1 hd0 hd1 hsml hkn hmn
                go_wp2_with fail
                go_region_law (first
                  | (go_simp; go_at_call 47; refine IHG.out.mono ?_; rintro e w1 ⟨a1, c1, rfl, hF1, he1, hs1⟩; have hc3 : ∀ o, (w1.alloc o).cell? ⟨O, 2, none⟩ = some u := fun o => ((Blk.ex XS.out.2.2.1 he1 HOF.out).alloc o).cell 2; have hc4 : w1.cell? ⟨O, 2, none⟩ = some u := (Blk.ex XS.out.2.2.1 he1 HOF.out).cell 2)
                  | (refine step_append_lies _ rfl _ _ 22 rfl (O + 1) 24 i0 _ 3 40 Try.underlying22 hi0 hz0 hz1 hz2 rfl (by decide) u (L.take k).length xs rfl (by exact (RowM.ex (B := F) XW.out he1 HFO1.out (fun h => h)).own.alloc _) ⟨w1.heap.size, 0, none⟩ 1 1 [.int .i64 L[k].kind, .int .i64 L[k].idx, .slice a1 L[k].subs.length c1] rfl rfl (cell_lam_new _ _ _ _ _) (fun x hx => by simp at hx; rcases hx with rfl | rfl | rfl <;> rfl) (by decide) HL1.out.1 HL1.out.2 (by have := he1.size; have := XS.out.2.2.2.2; simp; omega) _ rfl ?_; intro g cap w3 hown3 hgrow3 hat3 hlt3; have hB3 := hide (((Blk.ex XS.out.2.2.1 he1 HOF.out).alloc _).grown hgrow3 (XW.out.ne (Nat.lt_succ_self _))); have hc5 : w3.cell? ⟨O, 2, none⟩ = some u := hB3.out.cell 2; have hf5 := hB3.out.frozen 2))
                all_goals
                  have HK := hide (mn_set (v := .slice (some ⟨g, 0, none⟩) ((L.take k).length + 1) cap) hFl hO XS.out (fun j hj => (XW.out.own.lt j hj).1) he1 hF1 hgrow3)
                  have HRW := hide (mn_row (t := L[k]) (by omega) XS.out.2.2.2.2 XW.out he1 ⟨a1, c1, rfl, hs1⟩ hown3 hgrow3 hat3)
                  clear hown3 hgrow3 hat3 hc3 hc4 hc5 hf5 hB3 hF1 he1 hs1 hlt3
                  go_wp2_with fail
                  go_roundw
                  case rel =>
                    have hkl : (L.take k).length = k := by simp; omega
                    have hmin : min k L.length = k := Nat.min_eq_left (by have := HKL.out; omega)
                    simp only [hmin]
                    have h1 := HK.out
                    have h2 := HRW.out
                    have hmm := HMM.out
                    have hle := HLE.out
                    simp only [hkl] at h1 h2
                    obtain ⟨m', hm'⟩ : ∃ m' : Nat, (m' : Int) = (m : Int) - sizeM [L[k]] := ⟨m - sizeM [L[k]], by omega⟩
                    refine ⟨k + 1, .slice (some ⟨g, 0, none⟩) (k + 1) cap, by omega, by go_num, Or.inl ⟨m', xs ++ [.int .i64 L[k].kind, .int .i64 L[k].idx, .slice a1 L[k].subs.length c1], by rw [sizeM_take L k hltL]; omega, ?_, ?_⟩⟩
                    · rw [hm']
                      exact h1
                    · rw [List.take_succ_eq_append_getElem hltL]
                      exact h2
                  case measure => simp [intOf]; omega
              · have IHG : Hid (Calls Try.prog 47 #[.pointer (some ⟨F, 0, none⟩), .agg #[.int .i64 l[k].kind, .int .i64 l[k].idx, .slice a' l[k].subs.length c'], .int .i64 (d), .func (.func 48) #[] #[.pointer (some ⟨B1, 0, none⟩), .pointer (some ⟨B2, 0, none⟩)]] (wr.alloc (.cells #[.int .i64 l[k].kind, .int .i64 l[k].idx, .slice a' l[k].subs.length c'] 24)).drew fun e w'' => ∃ s1 s2 a1 l1 c1, e = .returned (.agg #[.int .i64 s1, .int .i64 s2, .slice a1 l1 c1]) ∧ Blk w'' F #[.int .i64 (-1)] 59 ∧ Ex F wr w'') := IHQ.out.mono fun e w'' hp => by
                  obtain ⟨s1, s2, a1, l1, c1, m1, h1, h2, h3, _, h4⟩ := hp
                  obtain rfl := h4 (by omega)
                  exact ⟨s1, s2, a1, l1, c1, h1, h2, (((Ex.refl F wr).alloc _).drew).trans h3⟩
                clear IHQ
                have HLE := hide hle
                have HLL2 := hide hltL
                clear hle HLK hszk hx0 hx1 hd0 hd1 hsml hkn hmn
                go_wp2_with fail
                go_region_law (first
                  | (go_simp; go_at_call 47; refine IHG.out.mono ?_; rintro e w1 ⟨s1, s2, a1, l1, c1, rfl, hF1, he1⟩; have hc3 : ∀ o, (w1.alloc o).cell? ⟨O, 2, none⟩ = some u := fun o => ((Blk.ex XS.out.2.2.1 he1 HOF.out).alloc o).cell 2; have hc4 : w1.cell? ⟨O, 2, none⟩ = some u := (Blk.ex XS.out.2.2.1 he1 HOF.out).cell 2)
                  | (refine step_append_lies _ rfl _ _ 22 rfl (O + 1) 24 i0 _ 3 40 Try.underlying22 hi0 hz0 hz1 hz2 rfl (by decide) u (L.take k).length xs rfl (by exact (RowM.ex (B := F) XW.out he1 HFO1.out (fun h => h)).own.alloc _) ⟨w1.heap.size, 0, none⟩ 1 1 [.int .i64 s1, .int .i64 s2, .slice a1 l1 c1] rfl rfl (cell_lam_new _ _ _ _ _) (fun x hx => by simp at hx; rcases hx with rfl | rfl | rfl <;> rfl) (by decide) HL1.out.1 HL1.out.2 (by have := he1.size; have := XS.out.2.2.2.2; simp; omega) _ rfl ?_; intro g cap w3 hown3 hgrow3 hat3 hlt3; have hB3 := hide (((Blk.ex XS.out.2.2.1 he1 HOF.out).alloc _).grown hgrow3 (XW.out.ne (Nat.lt_succ_self _))); have hc5 : w3.cell? ⟨O, 2, none⟩ = some u := hB3.out.cell 2; have hf5 := hB3.out.frozen 2))
                all_goals
                  have HK := hide (mn_set (v := .slice (some ⟨g, 0, none⟩) ((L.take k).length + 1) cap) hFl hO XS.out (fun j hj => (XW.out.own.lt j hj).1) he1 hF1 hgrow3)
                  clear hown3 hgrow3 hat3 hc3 hc4 hc5 hf5 hB3 hF1 he1 hlt3
                  go_wp2_with fail
                  go_roundw
                  case rel =>
                    have hkl : (L.take k).length = k := by simp; omega
                    have hmin : min k L.length = k := Nat.min_eq_left (by have := HKL.out; omega)
                    simp only [hmin]
                    have h0 := HK.out
                    have hmm := HMM.out
                    have hle := HLE.out
                    simp only [hkl] at h0
                    refine ⟨k + 1, .slice (some ⟨g, 0, none⟩) (k + 1) cap, by omega, by go_num, Or.inr ⟨?_, h0, _, _, _, rfl⟩⟩
                    have h1 := sizeM_take L k hltL
                    have h2 := sizeM_take_le L (k + 1)
                    omega
                  case measure => simp [intOf]; omega
            · have htk : L.take k = L := List.take_of_length_le (by rw [HLL.out]; omega)
              rw [htk] at XW HMM
              obtain ⟨a9, c9, hu9, hsl9⟩ := XW.out.sl
              subst hu9
              have S9 := hide hsl9
              clear hsl9
              have r0 : wr.cell? ⟨w.heap.size + 1, 0, none⟩ = some (.int .i64 0) := XS.out.2.1.cell 0
              have r1 : wr.cell? ⟨w.heap.size + 1, 1, none⟩ = some (.int .i64 0) := XS.out.2.1.cell 1
              have r2 : wr.cell? ⟨w.heap.size + 1, 2, none⟩ = some (.slice none 0 0) := XS.out.2.1.cell 2
              have rf := XS.out.2.1.frozen
              have hRl : w.heap.size + 1 < wr.heap.size := XS.out.2.1.lt
              have o0 : wr.cell? ⟨O, 0, none⟩ = some (.int .i64 kd) := XS.out.2.2.1.cell 0
              have o1 : wr.cell? ⟨O, 1, none⟩ = some (.int .i64 ix) := XS.out.2.2.1.cell 1
              have o2 : wr.cell? ⟨O, 2, none⟩ = some (.slice a9 L.length c9) := XS.out.2.2.1.cell 2
              go_wp2_with fail
              refine bodyPost_ret (v := .agg #[.int .i64 kd, .int .i64 ix, .slice a9 L.length c9]) (by simp [results, Try.results47, go_sem, World.cell?_setCell_same, World.cell?_setCell_other, r0, r1, r2, hRl]) rfl ?_
              have hmm := HMM.out
              rw [HT.out]
              refine ⟨kd, ix, a9, L.length, c9, m, rfl, ((XS.out.2.2.2.1.setOther _ _ (by omega)).setOther _ _ (by omega)).setOther _ _ (by omega), ((XS.out.1.setNew (by omega) _ _).setNew (by omega) _ _).setNew (by omega) _ _, fun h => ⟨by rw [hzL]; omega, rfl, rfl, rfl, (S9.out.kept fun b hb => ?_).mono fun b hb _ => ?_⟩, fun h => by omega⟩
              · have hb' : O + 1 ≤ b := hb.elim False.elim id
                rw [Below.heap_setCell _ _ _ _ (by simp; omega), Below.heap_setCell _ _ _ _ (by simp; omega), Below.heap_setCell _ _ _ _ (by simp; omega)]
              · have hb' : O + 1 ≤ b := hb.elim False.elim id
                omega
          · have XS := hide hset
            clear hset
            have f0 : ∀ o, (wr.alloc o).cell? ⟨F, 0, none⟩ = some (.int .i64 (-1)) := fun o => (XS.out.2.2.2.1.alloc o).cell 0
            have r0 : wr.cell? ⟨w.heap.size + 1, 0, none⟩ = some (.int .i64 0) := XS.out.2.1.cell 0
            have r1 : wr.cell? ⟨w.heap.size + 1, 1, none⟩ = some (.int .i64 0) := XS.out.2.1.cell 1
            have r2 : wr.cell? ⟨w.heap.size + 1, 2, none⟩ = some (.slice none 0 0) := XS.out.2.1.cell 2
            have rf := XS.out.2.1.frozen
            have hRl : w.heap.size + 1 < wr.heap.size := XS.out.2.1.lt
            by_cases hlt : k < l.length
            · obtain ⟨b, o, a', c', rfl, d0, d0', d1, hx⟩ := (HS.out.ex XS.out.1 HXF.out).get (Below.refl _ _) (fun _ _ h => h) k hlt
              clear hx
              have o0 : ∀ o, (wr.alloc o).cell? ⟨O, 0, none⟩ = some (.int .i64 kd) := fun o => (XS.out.2.2.1.alloc o).cell 0
              have o1 : ∀ o, (wr.alloc o).cell? ⟨O, 1, none⟩ = some (.int .i64 ix) := fun o => (XS.out.2.2.1.alloc o).cell 1
              have o2 : ∀ o, (wr.alloc o).cell? ⟨O, 2, none⟩ = some (.slice a9 l9 c9) := fun o => (XS.out.2.2.1.alloc o).cell 2
              go_wp2_with fail
              refine bodyPost_ret (v := .agg #[.int .i64 kd, .int .i64 ix, .slice a9 l9 c9]) (by simp [results, Try.results47, go_sem, World.cell?_setCell_same, World.cell?_setCell_other, r0, r1, r2, hRl, World.cell?_alloc_old]) rfl ?_
              rw [HT.out]
              exact ⟨kd, ix, a9, l9, c9, -1, rfl, (((XS.out.2.2.2.1.setOther _ _ (by omega)).setOther _ _ (by omega)).setOther _ _ (by omega)).alloc _, (((XS.out.1.setNew (by omega) _ _).setNew (by omega) _ _).setNew (by omega) _ _).alloc _, fun h => by omega, fun _ => rfl⟩
            · have o0 : wr.cell? ⟨O, 0, none⟩ = some (.int .i64 kd) := XS.out.2.2.1.cell 0
              have o1 : wr.cell? ⟨O, 1, none⟩ = some (.int .i64 ix) := XS.out.2.2.1.cell 1
              have o2 : wr.cell? ⟨O, 2, none⟩ = some (.slice a9 l9 c9) := XS.out.2.2.1.cell 2
              go_wp2_with fail
              refine bodyPost_ret (v := .agg #[.int .i64 kd, .int .i64 ix, .slice a9 l9 c9]) (by simp [results, Try.results47, go_sem, World.cell?_setCell_same, World.cell?_setCell_other, r0, r1, r2, hRl]) rfl ?_
              rw [HT.out]
              exact ⟨kd, ix, a9, l9, c9, -1, rfl, ((XS.out.2.2.2.1.setOther _ _ (by omega)).setOther _ _ (by omega)).setOther _ _ (by omega), ((XS.out.1.setNew (by omega) _ _).setNew (by omega) _ _).setNew (by omega) _ _, fun h => by omega, fun _ => rfl⟩
end Go.Proofs.Ytaifameeoipjjaa
