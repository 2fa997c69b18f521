/- Several texts in one. -/
import Derived.Test.YtmkendjmfdaedaaGreatZCRewriteMadeOwn
import Derived.Laws.EntriesVeiled
import Derived.Test.YtmkendjmfdaedaaGreatZRewriteMadeOwn
import Derived.Test.YtmkendjmfdaedaaGreatZBRewriteMadeOwn
import Derived.Deep.RegionHeld
import Derived.Deep.RegionHeld3
import Derived.Deep.DeepCutAuto
namespace Go.Proofs.YtmkendjmfdaedaaGreat
open Go.RowKit
set_option linter.unusedSimpArgs false
set_option linter.unusedVariables false
set_option maxRecDepth 8000
set_option maxHeartbeats 1000000 in
theorem knotR_any (F : Nat) (r rl rc : Nat) (rn : ByteArray) (ra : Option Addr) (ls : List Bd) (L : List (ByteArray × Value)) (hrF : r ≠ F) (t : Tm) : ∀ (n : Nat) (v : Value) (w : World) (X : Nat → Prop), TV w X v t → (∀ b, X b → b ≠ F) → n ≤ 1000000 → Blk w F #[.int .i64 (n : Int), .func (.func 89) #[.agg #[.string rn, .slice ra rl rc, .map (some r)]] #[]] 167 → EnvR w r X ls L →
  Calls Tryz.prog 134 #[.pointer (some ⟨F, 0, none⟩), v, .func (.func 117) #[.pointer (some ⟨F, 0, none⟩)] #[]] w fun e w' => CpPost w F (.func (.func 89) #[.agg #[.string rn, .slice ra rl rc, .map (some r)]] #[]) ⟨t.name, fL ls t.args⟩ n e w' := by
 induction t using Tm.ind with
 | h s l ih =>
  intro n v w X hv hXF hn hF hE
  obtain ⟨a, c, rfl, hs⟩ := hv
  dsimp only
  generalize hsv : Value.func (.func 89) #[.agg #[.string rn, .slice ra rl rc, .map (some r)]] #[] = sv at *
  obtain ⟨M, hM⟩ : ∃ M, fL ls l = M := ⟨_, rfl⟩
  rw [hM]
  have hML : M.length = l.length := by rw [← hM, fL_map]; simp
  have HMK : Hid (∀ k (h : k < M.length) (h' : k < l.length), M[k] = fT ls l[k]) := fun k h h' => by subst hM; simp [fL_map]
  have HE := hide hE
  clear hE hM
  have IH := hide ih
  clear ih
  obtain ⟨i0, hi0, hz0, hz1, hz2⟩ := info_parts Tryz.infoTerm
  have f0 : ∀ o, (w.alloc o).cell? ⟨F, 0, none⟩ = some (.int .i64 (n : Int)) := fun o => (hF.alloc o).cell 0
  have ff : ∀ o, (w.alloc o).frozen? ⟨F, 0, none⟩ = false := fun o => (hF.alloc o).frozen 0
  have hFl : F < w.heap.size := hF.lt
  go_enter Tryz.func134, Tryz.ntmps134
  go_wp2_with fail
  have E3 : Hid (KnSet w F (w.heap.size + 1 + 1) s (.slice none 0 0) #[.int .i64 ((n : Int) - 1), sv] ((((w.setCell ⟨F, 0, none⟩ (.int .i64 ((n : Int) - 1))).alloc (.cells #[.string s, .slice a l.length c] 27)).alloc (.cells #[.string ⟨#[]⟩, .slice none 0 0] 27)).alloc (.cells #[.string s, .slice none 0 0] 27))) := by
   refine ⟨((((Ex.refl F w).set 0 _).alloc _).alloc _).alloc _, ?_, ?_, (((hF.set 0 _).alloc _).alloc _).alloc _, by simp [World.setCell]⟩
   ·have h := (Blk.new ((w.setCell ⟨F, 0, none⟩ (.int .i64 ((n : Int) - 1))).alloc (.cells #[.string s, .slice a l.length c] 27)) #[.string ⟨#[]⟩, .slice none 0 0] 27).alloc (.cells #[.string s, .slice none 0 0] 27)
    simpa [World.setCell] using h
   ·have h := Blk.new (((w.setCell ⟨F, 0, none⟩ (.int .i64 ((n : Int) - 1))).alloc (.cells #[.string s, .slice a l.length c] 27)).alloc (.cells #[.string ⟨#[]⟩, .slice none 0 0] 27)) #[.string s, .slice none 0 0] 27
    simpa [World.setCell] using h
  generalize ((((w.setCell ⟨F, 0, none⟩ (.int .i64 ((n : Int) - 1))).alloc (.cells #[.string s, .slice a l.length c] 27)).alloc (.cells #[.string ⟨#[]⟩, .slice none 0 0] 27)).alloc (.cells #[.string s, .slice none 0 0] 27)) = w3 at *
  generalize hOe : w.heap.size + 1 + 1 = O at *
  have hO : w.heap.size + 2 ≤ O := by omega
  clear hOe
  clear f0 ff
  have HS := hide hs
  have hl := hs.1
  have HXF := hide hXF
  have hz : sizeL [(⟨s, M⟩ : Tm)] = 1 + sizeL M := by simp [sizeL]
  clear hs hXF
  go_loopw [23] (fun i wr => KnInv w F O s sv M n i wr) (fun i wr => l.length - (intOf i).toNat)
  case atStart =>
   refine ⟨0, .slice none 0 0, Nat.zero_le _, rfl, ?_⟩
   by_cases hn0 : n = 0
   ·subst hn0
    exact Or.inr ⟨by omega, E3.out, none, 0, 0, rfl⟩
   ·refine Or.inl ⟨n - 1, [], by simp [sizeL]; omega, ?_, Row.start _ _ _ _⟩
    rw [show ((n - 1 : Nat) : Int) = (n : Int) - 1 by omega]
    exact E3.out
  case round =>
   obtain ⟨k, u, hk, rfl, hcase⟩ := hrel
   rcases hcase with ⟨m, xs, hm, hset, hrow⟩ | ⟨hbig, hset, a9, l9, c9, rfl⟩
   ·have XS := hide hset
    have XW := hide hrow
    have HMM := hide hm
    clear hset hrow
    by_cases hlt : k < l.length
    ·obtain ⟨b, o, a', c', rfl, d0, d1, hx⟩ := (HS.out.ex XS.out.1 HXF.out).get (Below.refl _ _) (fun _ _ h => h) k hlt
     obtain ⟨av, cv, ev, hsx⟩ := hx
     simp at ev
     obtain ⟨rfl, rfl⟩ := ev
     have hltM : k < M.length := by omega
     obtain ⟨y, hy⟩ : ∃ y, fT ls l[k] = y := ⟨_, rfl⟩
     have hMy : Hid (M[k] = y) := by unfold Hid; rw [HMK.out k hltM hlt, hy]
     have hmn : m ≤ 1000000 := by omega
     have HOF : Hid (O ≠ F) := by unfold Hid; omega
     have HFO1 : Hid (F < O + 1) := by unfold Hid; omega
     have hlen := sizeL_len M
     have hsk : (M.take k).length = k := by simp; omega
     have hkn : k ≤ 1000000 := by have h1 := sizeL_len (M.take k); rw [hsk] at h1; omega
     have HL1 : Hid ((M.take k).length + 1 ≤ maxLen ∧ ((M.take k).length + 1) * 40 ≤ 140737488355328) := by unfold Hid; rw [hsk]; exact ⟨by unfold maxLen; omega, by omega⟩
     clear hsk
     have IHQ : Hid (Calls Tryz.prog 117 #[.pointer (some ⟨F, 0, none⟩), .agg #[.string l[k].name, .slice a' l[k].args.length c']] (wr.alloc (.cells #[.string l[k].name, .slice a' l[k].args.length c'] 27)).drew fun e w'' => CpPost (wr.alloc (.cells #[.string l[k].name, .slice a' l[k].args.length c'] 27)).drew F sv y m e w'') := by
      have hEr : EnvR (wr.alloc (.cells #[.string l[k].name, .slice a' l[k].args.length c'] 27)).drew r X ls L := ((HE.out.ex XS.out.1 hrF HXF.out).later ((Below.refl _ _).alloc (Nat.le_refl _) _)).later ((Below.refl _ _).drew)
      have hFr : Blk (wr.alloc (.cells #[.string l[k].name, .slice a' l[k].args.length c'] 27)).drew F #[.int .i64 (m : Int), sv] 167 := (XS.out.2.2.2.1.alloc _).drewN 1
      have hSr : Sl (wr.alloc (.cells #[.string l[k].name, .slice a' l[k].args.length c'] 27)).drew X a' l[k].args := (hsx.later ((Below.refl _ _).alloc (Nat.le_refl _) _)).later ((Below.refl _ _).drew)
      have IH2 := IH.out l[k] (List.getElem_mem hlt) m
      rw [← hy]
      clear HMM XS XW
      subst hsv
      exact ffillR_of F r rl rc rn ra ls L l[k] m a' c' _ X hmn HXF.out hrF hSr hFr hEr (fun w' h1 h2 h3 => IH2 _ w' X ⟨a', c', rfl, h1⟩ HXF.out hmn h2 h3)
     have f0 : ∀ o, (wr.alloc o).cell? ⟨F, 0, none⟩ = some (.int .i64 (m : Int)) := fun o => (XS.out.2.2.2.1.alloc o).cell 0
     have o1 : ∀ o, (wr.alloc o).cell? ⟨O, 1, none⟩ = some u := fun o => (XS.out.2.2.1.alloc o).cell 1
     have hm0 : ¬ (m : Int) < 0 := by omega
     by_cases hle : sizeL [y] ≤ m
     ·have IHG : Hid (Calls Tryz.prog 117 #[.pointer (some ⟨F, 0, none⟩), .agg #[.string l[k].name, .slice a' l[k].args.length c']] (wr.alloc (.cells #[.string l[k].name, .slice a' l[k].args.length c'] 27)).drew fun e w'' => ∃ a1 c1, e = .returned (.agg #[.string y.name, .slice a1 y.args.length c1]) ∧ Blk w'' F #[.int .i64 ((m : Int) - sizeL [y]), sv] 167 ∧ Ex F wr w'' ∧ Sl w'' (fun b => wr.heap.size ≤ b) a1 y.args) := IHQ.out.mono fun e w'' hp => by
       obtain ⟨s1, a1, l1, c1, m1, h1, h2, h3, h4, _⟩ := hp
       obtain ⟨rfl, rfl, rfl, h5⟩ := h4 hle
       exact ⟨a1, c1, h1, h2, (((Ex.refl F wr).alloc _).drew).trans h3, h5.mono fun b hb _ => by simp at hb; omega⟩
      clear IHQ
      go_wp2_with fail
      go_region_law (first
       | (go_simp; go_at_call 117; refine IHG.out.mono ?_; rintro e w1 ⟨a1, c1, rfl, hF1, he1, hs1⟩; have hc3 : ∀ o, (w1.alloc o).cell? ⟨O, 1, none⟩ = some u := fun o => ((Blk.ex XS.out.2.2.1 he1 HOF.out).alloc o).cell 1; have hc4 : w1.cell? ⟨O, 1, none⟩ = some u := (Blk.ex XS.out.2.2.1 he1 HOF.out).cell 1)
       | (refine step_append_lies _ rfl _ _ 25 rfl (O + 1) 27 i0 _ 2 40 Tryz.underlying25 hi0 hz0 hz1 hz2 rfl (by decide) u (M.take k).length xs rfl (by exact (Row.ex (B := F) XW.out he1 HFO1.out (fun h => h)).own.alloc _) ⟨w1.heap.size, 0, none⟩ 1 1 [.string y.name, .slice a1 y.args.length c1] rfl rfl (cell_two_new _ _ _ _) (fun x hx => by simp at hx; rcases hx with rfl | rfl <;> rfl) (by decide) HL1.out.1 HL1.out.2 (by have := he1.size; have := XS.out.2.2.2.2; simp; omega) _ rfl ?_; intro g cap w3 hown3 hgrow3 hat3 hlt3; have hB3 := hide (((Blk.ex XS.out.2.2.1 he1 HOF.out).alloc _).grown hgrow3 (XW.out.ne (Nat.lt_succ_self _))); have hc5 : w3.cell? ⟨O, 1, none⟩ = some u := hB3.out.cell 1; have hf5 := hB3.out.frozen 1))
      all_goals
       have HK := hide (kn_set (v := .slice (some ⟨g, 0, none⟩) ((M.take k).length + 1) cap) hFl hO XS.out (fun j hj => (XW.out.own.lt j hj).1) he1 hF1 hgrow3)
       have HRW := hide (kn_row (by omega) XS.out.2.2.2.2 XW.out he1 ⟨a1, c1, rfl, hs1⟩ hown3 hgrow3 hat3)
       clear hown3 hgrow3 hat3 hc3 hc4 hc5 hf5 hB3 hF1 he1 hs1 hlt3
       go_wp2_with fail
       go_roundw
       case rel =>
        have hkl : (M.take k).length = k := by simp; omega
        have h1 := HK.out
        have h2 := HRW.out
        have hmm := HMM.out
        simp only [hkl] at h1 h2
        have hmk : min k l.length = k := by omega
        simp only [hmk]
        refine ⟨k + 1, .slice (some ⟨g, 0, none⟩) (k + 1) cap, by omega, by go_num, Or.inl ⟨m - sizeL [y], xs ++ [.string y.name, .slice a1 y.args.length c1], by rw [sizeL_take M k hltM, hMy.out]; omega, ?_, ?_⟩⟩
        ·rw [show ((m - sizeL [y] : Nat) : Int) = (m : Int) - sizeL [y] by omega]
         exact h1
        ·rw [List.take_succ_eq_append_getElem hltM, hMy.out]
         exact h2
       case measure => simp [intOf]; omega
     ·have IHG : Hid (Calls Tryz.prog 117 #[.pointer (some ⟨F, 0, none⟩), .agg #[.string l[k].name, .slice a' l[k].args.length c']] (wr.alloc (.cells #[.string l[k].name, .slice a' l[k].args.length c'] 27)).drew fun e w'' => ∃ s1 a1 l1 c1, e = .returned (.agg #[.string s1, .slice a1 l1 c1]) ∧ Blk w'' F #[.int .i64 (-1), sv] 167 ∧ Ex F wr w'') := IHQ.out.mono fun e w'' hp => by
       obtain ⟨s1, a1, l1, c1, m1, h1, h2, h3, _, h4⟩ := hp
       obtain rfl := h4 (by omega)
       exact ⟨s1, a1, l1, c1, h1, h2, (((Ex.refl F wr).alloc _).drew).trans h3⟩
      clear IHQ
      go_wp2_with fail
      go_region_law (first
       | (go_simp; go_at_call 117; refine IHG.out.mono ?_; rintro e w1 ⟨s1, a1, l1, c1, rfl, hF1, he1⟩; have hc3 : ∀ o, (w1.alloc o).cell? ⟨O, 1, none⟩ = some u := fun o => ((Blk.ex XS.out.2.2.1 he1 HOF.out).alloc o).cell 1; have hc4 : w1.cell? ⟨O, 1, none⟩ = some u := (Blk.ex XS.out.2.2.1 he1 HOF.out).cell 1)
       | (refine step_append_lies _ rfl _ _ 25 rfl (O + 1) 27 i0 _ 2 40 Tryz.underlying25 hi0 hz0 hz1 hz2 rfl (by decide) u (M.take k).length xs rfl (by exact (Row.ex (B := F) XW.out he1 HFO1.out (fun h => h)).own.alloc _) ⟨w1.heap.size, 0, none⟩ 1 1 [.string s1, .slice a1 l1 c1] rfl rfl (cell_two_new _ _ _ _) (fun x hx => by simp at hx; rcases hx with rfl | rfl <;> rfl) (by decide) HL1.out.1 HL1.out.2 (by have := he1.size; have := XS.out.2.2.2.2; simp; omega) _ rfl ?_; intro g cap w3 hown3 hgrow3 hat3 hlt3; have hB3 := hide (((Blk.ex XS.out.2.2.1 he1 HOF.out).alloc _).grown hgrow3 (XW.out.ne (Nat.lt_succ_self _))); have hc5 : w3.cell? ⟨O, 1, none⟩ = some u := hB3.out.cell 1; have hf5 := hB3.out.frozen 1))
      all_goals
       have HK := hide (kn_set (v := .slice (some ⟨g, 0, none⟩) ((M.take k).length + 1) cap) hFl hO XS.out (fun j hj => (XW.out.own.lt j hj).1) he1 hF1 hgrow3)
       clear hown3 hgrow3 hat3 hc3 hc4 hc5 hf5 hB3 hF1 he1 hlt3
       go_wp2_with fail
       go_roundw
       case rel =>
        have hkl : (M.take k).length = k := by simp; omega
        have h0 := HK.out
        have hmm := HMM.out
        simp only [hkl] at h0
        have hmk : min k l.length = k := by omega
        simp only [hmk]
        refine ⟨k + 1, .slice (some ⟨g, 0, none⟩) (k + 1) cap, by omega, by go_num, Or.inr ⟨?_, h0, _, _, _, rfl⟩⟩
        have h1 := sizeL_take M k hltM
        rw [hMy.out] at h1
        have h2 := sizeL_take_le M (k + 1)
        omega
       case measure => simp [intOf]; omega
    ·have htk : M.take k = M := List.take_of_length_le (by omega)
     rw [htk] at XW HMM
     obtain ⟨a9, c9, hu9, hsl9⟩ := XW.out.sl
     subst hu9
     have S9 := hide hsl9
     clear hsl9
     have r0 := XS.out.2.1.c0
     have r1 := XS.out.2.1.c1
     have rf := XS.out.2.1.frozen
     have o0 := XS.out.2.2.1.c0
     have o1 := XS.out.2.2.1.c1
     go_wp2_with fail
     refine bodyPost_ret (v := .agg #[.string s, .slice a9 M.length c9]) (by simp [results, Tryz.results134, go_sem, World.cell?_setCell_same, World.cell?_setCell_other, r0, r1, hML]) rfl ?_
     have hmm := HMM.out
     refine ⟨s, a9, M.length, c9, m, rfl, (XS.out.2.2.2.1.setOther _ _ (by omega)).setOther _ _ (by omega), (XS.out.1.setNew (by omega) _ _).setNew (by omega) _ _, fun h => ⟨by rw [hz]; omega, rfl, rfl, (S9.out.kept fun b hb => ?_).mono fun b hb _ => ?_⟩, fun h => by omega⟩
     ·have hb' : O + 1 ≤ b := hb.elim False.elim id
      rw [Below.heap_setCell _ _ _ _ (by simp; omega), Below.heap_setCell _ _ _ _ (by simp; omega)]
     ·have hb' : O + 1 ≤ b := hb.elim False.elim id
      omega
   ·have XS := hide hset
    clear hset
    have f0 : ∀ o, (wr.alloc o).cell? ⟨F, 0, none⟩ = some (.int .i64 (-1)) := fun o => (XS.out.2.2.2.1.alloc o).cell 0
    by_cases hlt : k < l.length
    ·obtain ⟨b, o, a', c', rfl, d0, d1, hx⟩ := (HS.out.ex XS.out.1 HXF.out).get (Below.refl _ _) (fun _ _ h => h) k hlt
     clear hx
     have o0 : ∀ o, (wr.alloc o).cell? ⟨O, 0, none⟩ = some (.string s) := fun o => (XS.out.2.2.1.alloc o).cell 0
     have o1 : ∀ o, (wr.alloc o).cell? ⟨O, 1, none⟩ = some (.slice a9 l9 c9) := fun o => (XS.out.2.2.1.alloc o).cell 1
     have r0 := XS.out.2.1.c0
     have r1 := XS.out.2.1.c1
     have rf := XS.out.2.1.frozen
     have hRl : w.heap.size + 1 < wr.heap.size := XS.out.2.1.lt
     go_wp2_with fail
     refine bodyPost_ret (v := .agg #[.string s, .slice a9 l9 c9]) (by simp [results, Tryz.results134, go_sem, World.cell?_setCell_same, World.cell?_setCell_other, r0, r1, hRl, World.cell?_alloc_old]) rfl ?_
     exact ⟨s, a9, l9, c9, -1, rfl, ((XS.out.2.2.2.1.setOther _ _ (by omega)).setOther _ _ (by omega)).alloc _, ((XS.out.1.setNew (by omega) _ _).setNew (by omega) _ _).alloc _, fun h => by omega, fun _ => rfl⟩
    ·have r0 := XS.out.2.1.c0
     have r1 := XS.out.2.1.c1
     have rf := XS.out.2.1.frozen
     have o0 := XS.out.2.2.1.c0
     have o1 := XS.out.2.2.1.c1
     go_wp2_with fail
     refine bodyPost_ret (v := .agg #[.string s, .slice a9 l9 c9]) (by simp [results, Tryz.results134, go_sem, World.cell?_setCell_same, World.cell?_setCell_other, r0, r1]) rfl ?_
     exact ⟨s, a9, l9, c9, -1, rfl, (XS.out.2.2.2.1.setOther _ _ (by omega)).setOther _ _ (by omega), (XS.out.1.setNew (by omega) _ _).setNew (by omega) _ _, fun h => by omega, fun _ => rfl⟩
theorem ffillR_any (F : Nat) (r rl rc : Nat) (rn : ByteArray) (ra : Option Addr) (ls : List Bd) (L : List (ByteArray × Value)) (t : Tm) (n : Nat) (a : Option Addr) (c : Nat) (w : World) (X : Nat → Prop) (hn : n ≤ 1000000) (hXF : ∀ b, X b → b ≠ F) (hrF : r ≠ F) (hs : Sl w X a t.args) (hF : Blk w F #[.int .i64 (n : Int), .func (.func 89) #[.agg #[.string rn, .slice ra rl rc, .map (some r)]] #[]] 167) (hE : EnvR w r X ls L) :
  Calls Tryz.prog 117 #[.pointer (some ⟨F, 0, none⟩), .agg #[.string t.name, .slice a t.args.length c]] w fun e w' => CpPost w F (.func (.func 89) #[.agg #[.string rn, .slice ra rl rc, .map (some r)]] #[]) (fT ls t) n e w' :=
 ffillR_of F r rl rc rn ra ls L t n a c w X hn hXF hrF hs hF hE (fun w' h1 h2 h3 => knotR_any F r rl rc rn ra ls L hrF t n _ w' X ⟨a, c, rfl, h1⟩ hXF hn h2 h3)
set_option maxHeartbeats 1000000 in
theorem fillR_any (r rl rc : Nat) (rn : ByteArray) (ra : Option Addr) (ls : List Bd) (L : List (ByteArray × Value)) (t : Tm) (n : Nat) (a : Option Addr) (c : Nat) (w : World) (X : Nat → Prop) (hn : n ≤ 1000000) (hs : Sl w X a t.args) (hE : EnvR w r X ls L) :
  Calls Tryz.prog 88 #[.agg #[.string t.name, .slice a t.args.length c], .int .i64 (n : Int), .func (.func 89) #[.agg #[.string rn, .slice ra rl rc, .map (some r)]] #[]] w fun e w' => Below w.heap.size w w' ∧
   ((sizeL [fT ls t] ≤ n ∧ ∃ a' c', e = .returned (.tuple #[.agg #[.string (fT ls t).name, .slice a' (fT ls t).args.length c'], .bool true]) ∧ Sl w' (fun b => w.heap.size ≤ b) a' (fT ls t).args) ∨ (n < sizeL [fT ls t] ∧ e = .returned (.tuple #[.agg #[.string ⟨#[]⟩, .slice none 0 0], .bool false]))) := by
 have hmf : ∀ (fn : Fn) (first cap : Array Value) (w : World), (Instr.makeFunc fn first cap).run Tryz.prog w = .ok (.func fn first cap) w := fun _ _ _ _ => rfl
 have HS := hide (hs.mono (Y := fun b => X b ∧ b < w.heap.size) fun b h1 h2 => ⟨h1, h2⟩)
 have HE : Hid (EnvR w r (fun b => X b ∧ b < w.heap.size) ls L) := ⟨hE.1, hE.2.imp fun a l hs => hs.mono fun b h1 h2 => ⟨h1, h2⟩⟩
 have hrl : r < w.heap.size := hE.1.lt
 clear hs hE
 go_enter Tryz.func88, Tryz.ntmps88
 go_wp2_with fail
 have HB3 : Hid (Below w.heap.size w (((w.alloc (.cells #[.string t.name, .slice a t.args.length c] 27)).alloc (.cells #[.string ⟨#[]⟩, .slice none 0 0] 27)).alloc (.cells #[.int .i64 (n : Int), .func (.func 89) #[.agg #[.string rn, .slice ra rl rc, .map (some r)]] #[]] 167))) := ((((Below.refl w.heap.size w).alloc (Nat.le_refl _) _).alloc (by simp) _).alloc (by simp; omega) _)
 have F3 : Hid (Blk (((w.alloc (.cells #[.string t.name, .slice a t.args.length c] 27)).alloc (.cells #[.string ⟨#[]⟩, .slice none 0 0] 27)).alloc (.cells #[.int .i64 (n : Int), .func (.func 89) #[.agg #[.string rn, .slice ra rl rc, .map (some r)]] #[]] 167)) (w.heap.size + 1 + 1) #[.int .i64 (n : Int), .func (.func 89) #[.agg #[.string rn, .slice ra rl rc, .map (some r)]] #[]] 167) := by
  have h := Blk.new ((w.alloc (.cells #[.string t.name, .slice a t.args.length c] 27)).alloc (.cells #[.string ⟨#[]⟩, .slice none 0 0] 27)) #[.int .i64 (n : Int), .func (.func 89) #[.agg #[.string rn, .slice ra rl rc, .map (some r)]] #[]] 167
  unfold Hid
  simpa using h
 have R3 : Hid (Blk (((w.alloc (.cells #[.string t.name, .slice a t.args.length c] 27)).alloc (.cells #[.string ⟨#[]⟩, .slice none 0 0] 27)).alloc (.cells #[.int .i64 (n : Int), .func (.func 89) #[.agg #[.string rn, .slice ra rl rc, .map (some r)]] #[]] 167)) (w.heap.size + 1) #[.string ⟨#[]⟩, .slice none 0 0] 27) := by
  have h := (Blk.new (w.alloc (.cells #[.string t.name, .slice a t.args.length c] 27)) #[.string ⟨#[]⟩, .slice none 0 0] 27).alloc (.cells #[.int .i64 (n : Int), .func (.func 89) #[.agg #[.string rn, .slice ra rl rc, .map (some r)]] #[]] 167)
  unfold Hid
  simpa using h
 have z3 : (((w.alloc (.cells #[.string t.name, .slice a t.args.length c] 27)).alloc (.cells #[.string ⟨#[]⟩, .slice none 0 0] 27)).alloc (.cells #[.int .i64 (n : Int), .func (.func 89) #[.agg #[.string rn, .slice ra rl rc, .map (some r)]] #[]] 167)).heap.size = w.heap.size + 3 := by simp
 generalize (((w.alloc (.cells #[.string t.name, .slice a t.args.length c] 27)).alloc (.cells #[.string ⟨#[]⟩, .slice none 0 0] 27)).alloc (.cells #[.int .i64 (n : Int), .func (.func 89) #[.agg #[.string rn, .slice ra rl rc, .map (some r)]] #[]] 167)) = w3 at *
 refine (ffillR_any (w.heap.size + 1 + 1) r rl rc rn ra ls L t n a c w3 (fun b => X b ∧ b < w.heap.size) hn (fun b hb => by have := hb.2; omega) (by omega) (HS.out.later HB3.out) F3.out (HE.out.later HB3.out)).mono ?_
 rintro e w9 ⟨s', a', l', c', m, rfl, hF9, hx9, hy, hno⟩
 have HF9 := hide hF9
 have HX9 := hide hx9
 have R9 := hide (R3.out.ex hx9 (by omega))
 have hz9 := hx9.size
 clear hF9 hx9
 have r0 := R9.out.c0
 have r1 := R9.out.c1
 have rf := R9.out.frozen
 have hRl : w.heap.size + 1 < w9.heap.size := R9.out.lt
 have HBW : Hid (Below w.heap.size w w9) := ⟨HX9.out.os.trans HB3.out.os, HX9.out.tape.trans HB3.out.tape, HX9.out.output.trans HB3.out.output, by omega, fun k hk => (HX9.out.block k (by omega) (by omega)).trans (HB3.out.block k hk)⟩
 by_cases hle : sizeL [fT ls t] ≤ n
 ·obtain ⟨rfl, rfl, rfl, hsl⟩ := hy hle
  have HSL := hide hsl
  clear hy hno hsl
  have f0 : ∀ o, (w9.alloc o).cell? ⟨w.heap.size + 1 + 1, 0, none⟩ = some (.int .i64 ((n : Int) - sizeL [fT ls t])) := fun o => (HF9.out.alloc o).cell 0
  have hlt : ¬ ((n : Int) - sizeL [fT ls t]) < 0 := by omega
  go_wp2_with fail
  refine bodyPost_ret (v := .tuple #[.agg #[.string (fT ls t).name, .slice a' (fT ls t).args.length c'], .bool true]) (by simp [results, Tryz.results88, go_sem, World.cell?_setCell_same, World.cell?_setCell_other, r0, r1, hRl, World.cell?_alloc_old]) rfl ?_
  refine ⟨((HBW.out.setCell (by simp) _).setCell (by simp) _).alloc (by simp [World.setCell]; omega) _, Or.inl ⟨hle, a', c', rfl, ((HSL.out.kept fun b hb => ?_).later ((Below.refl _ _).alloc (Nat.le_refl _) _)).mono fun b hb _ => by omega⟩⟩
  rw [Below.heap_setCell _ _ _ _ (by simp; omega), Below.heap_setCell _ _ _ _ (by simp; omega)]
 ·obtain rfl := hno (by omega)
  clear hy hno
  have f0 : ∀ o, (w9.alloc o).cell? ⟨w.heap.size + 1 + 1, 0, none⟩ = some (.int .i64 (-1)) := fun o => (HF9.out.alloc o).cell 0
  go_wp2_with fail
  refine bodyPost_ret (v := .tuple #[.agg #[.string ⟨#[]⟩, .slice none 0 0], .bool false]) (by simp [results, Tryz.results88, go_sem, World.cell?_setCell_same, World.cell?_setCell_other, r0, r1, hRl, World.cell?_alloc_old]) rfl ?_
  exact ⟨((HBW.out.setCell (by simp) _).setCell (by simp) _).alloc (by simp [World.setCell]; omega) _, Or.inr ⟨by omega, rfl⟩⟩
def outC (y : Ft) : Tm := fT y.2 y.1.r
def isFull (t : Tm) (d : Dn) (y : Ft) : Prop := 2000 < sizeL [t] - sizeL [d.2] + sizeL [outC y]
def TkPost (w : World) (X : Nat → Prop) (t : Tm) (d : Dn) (y : Ft) (e : Ending) (w' : World) : Prop :=
 Below w.heap.size w w' ∧ ((¬ isFull t d y ∧ ∃ a' c', e = .returned (.tuple #[.agg #[.string (putT (outC y) d.1 t).name, .slice a' (putT (outC y) d.1 t).args.length c'], .int .i64 0]) ∧ Sl w' (fun b => (X b ∧ b < w.heap.size) ∨ w.heap.size ≤ b) a' (putT (outC y) d.1 t).args) ∨
  (isFull t d y ∧ e = .returned (.tuple #[.agg #[.string ⟨#[]⟩, .slice none 0 0], .int .i64 8])))
theorem size_at : ∀ (p : List Int) (t x : Tm), atT t p = some x → sizeL [x] ≤ sizeL [t]
 | [], t, x, h => by simp [atT] at h; subst h; exact Nat.le_refl _
 | i :: r, t, x, h => by
  rw [atT] at h
  split at h
  next hi =>
   have h1 := size_at r _ x h
   obtain ⟨s, l⟩ := t
   have h2 := sizeL_ge1 l i.toNat hi.2
   have e : sizeL [(⟨s, l⟩ : Tm)] = 1 + sizeL l := by simp [sizeL]
   rw [e]
   simp only at h1
   omega
  next => cases h
set_option maxHeartbeats 2000000 in
theorem take_step (d : Dn) (y : Ft) (t : Tm) (ua xa ra aa : Option Addr) (uc xc rc ca q : Nat) (Lm : List (ByteArray × Value)) (w : World) (X Z : Nat → Prop) (hp : PV w Z (.slice ua d.1.length uc) d.1) (hx : Sl w Z xa d.2.args) (hr : Sl w Z ra y.1.r.args) (hen : EnvR w q Z y.2 Lm) (hs : Sl w X aa t.args) (hat : atT t d.1 = some d.2) (hz : sizeL [t] ≤ 2000) :
  Calls Tryz.prog 64 #[.agg #[.slice ua d.1.length uc, .string d.2.name, .slice xa d.2.args.length xc, .string y.1.r.name, .slice ra y.1.r.args.length rc, .map (some q)], .agg #[.string t.name, .slice aa t.args.length ca]] w fun e w' => TkPost w X t d y e w' := by
 have hmf : ∀ (fn : Fn) (first cap : Array Value) (w : World), (Instr.makeFunc fn first cap).run Tryz.prog w = .ok (.func fn first cap) w := fun _ _ _ _ => rfl
 have hzx := size_at _ _ _ hat
 have HP := hide hp
 have HX := hide hx
 have HR := hide hr
 have HEN := hide hen
 have HS := hide hs
 have HAT : Hid ((atT t d.1).isSome = true) := by unfold Hid; rw [hat]; rfl
 clear hp hx hr hen hs hat
 have hB3 : Below w.heap.size w (((w.alloc (.cells #[.slice ua d.1.length uc, .string d.2.name, .slice xa d.2.args.length xc, .string y.1.r.name, .slice ra y.1.r.args.length rc, .map (some q)] 104)).alloc (.cells #[.string t.name, .slice aa t.args.length ca] 27)).alloc (.cells #[.string ⟨#[]⟩, .slice none 0 0] 27)) := below3 _ _ _
 have hz3 : (((w.alloc (.cells #[.slice ua d.1.length uc, .string d.2.name, .slice xa d.2.args.length xc, .string y.1.r.name, .slice ra y.1.r.args.length rc, .map (some q)] 104)).alloc (.cells #[.string t.name, .slice aa t.args.length ca] 27)).alloc (.cells #[.string ⟨#[]⟩, .slice none 0 0] 27)).heap.size = w.heap.size + 3 := by simp
 have hC : Blk (((w.alloc (.cells #[.slice ua d.1.length uc, .string d.2.name, .slice xa d.2.args.length xc, .string y.1.r.name, .slice ra y.1.r.args.length rc, .map (some q)] 104)).alloc (.cells #[.string t.name, .slice aa t.args.length ca] 27)).alloc (.cells #[.string ⟨#[]⟩, .slice none 0 0] 27)) w.heap.size #[.slice ua d.1.length uc, .string d.2.name, .slice xa d.2.args.length xc, .string y.1.r.name, .slice ra y.1.r.args.length rc, .map (some q)] 104 := ((Blk.new w _ _).alloc _).alloc _
 have hT : Blk (((w.alloc (.cells #[.slice ua d.1.length uc, .string d.2.name, .slice xa d.2.args.length xc, .string y.1.r.name, .slice ra y.1.r.args.length rc, .map (some q)] 104)).alloc (.cells #[.string t.name, .slice aa t.args.length ca] 27)).alloc (.cells #[.string ⟨#[]⟩, .slice none 0 0] 27)) (w.heap.size + 1) #[.string t.name, .slice aa t.args.length ca] 27 := by
  have h := (Blk.new (w.alloc (.cells #[.slice ua d.1.length uc, .string d.2.name, .slice xa d.2.args.length xc, .string y.1.r.name, .slice ra y.1.r.args.length rc, .map (some q)] 104)) #[.string t.name, .slice aa t.args.length ca] 27).alloc (.cells #[.string ⟨#[]⟩, .slice none 0 0] 27)
  rw [World.size_alloc] at h
  exact h
 have hO : Blk (((w.alloc (.cells #[.slice ua d.1.length uc, .string d.2.name, .slice xa d.2.args.length xc, .string y.1.r.name, .slice ra y.1.r.args.length rc, .map (some q)] 104)).alloc (.cells #[.string t.name, .slice aa t.args.length ca] 27)).alloc (.cells #[.string ⟨#[]⟩, .slice none 0 0] 27)) (w.heap.size + 1 + 1) #[.string ⟨#[]⟩, .slice none 0 0] 27 := by
  have h := Blk.new ((w.alloc (.cells #[.slice ua d.1.length uc, .string d.2.name, .slice xa d.2.args.length xc, .string y.1.r.name, .slice ra y.1.r.args.length rc, .map (some q)] 104)).alloc (.cells #[.string t.name, .slice aa t.args.length ca] 27)) #[.string ⟨#[]⟩, .slice none 0 0] 27
  rw [World.size_alloc, World.size_alloc] at h
  exact h
 have HB3 := hide hB3
 have HC := hide hC
 have HT := hide hT
 have HO := hide hO
 clear hB3 hC hT hO
 go_enter Tryz.func64, Tryz.ntmps64
 go_upto_region 1 with fail
 generalize (((w.alloc (.cells #[.slice ua d.1.length uc, .string d.2.name, .slice xa d.2.args.length xc, .string y.1.r.name, .slice ra y.1.r.args.length rc, .map (some q)] 104)).alloc (.cells #[.string t.name, .slice aa t.args.length ca] 27)).alloc (.cells #[.string ⟨#[]⟩, .slice none 0 0] 27)) = W at *
 go_cut [6] (fun v wc => v = .int .i64 ((sizeL [t] : Int) - sizeL [d.2]) ∧ Below W.heap.size W wc)
 case first =>
  have hw1 : IntKind.i64.wrap ((sizeL [t] : Int) - sizeL [d.2]) = (sizeL [t] : Int) - sizeL [d.2] := by rw [IntKind.wrap_i64]; omega
  have BD : Hid (Below W.heap.size W W.drew) := below_drewN (Below.refl _ _) 1
  refine wp_region_held_drew (S := fun w' => Below W.heap.size W w') (by kernel_rfl) BD.out (fun hHeld => ?_)
  refine tkq (v := ?_) 0 rfl ?_ ?_
  rotate_left
  ·intro w' hSw
   have c0 : w'.cell? ⟨w.heap.size + 1, 0, none⟩ = some (.string t.name) := (HT.out.below hSw HT.out.lt).cell 0
   have c1 : w'.cell? ⟨w.heap.size + 1, 1, none⟩ = some (.slice aa t.args.length ca) := (HT.out.below hSw HT.out.lt).cell 1
   go_simp <;> with_reducible rfl
  try simp only [Act.put, sq]
  refine tkq (v := ?_) 2 rfl ?_ ?_
  rotate_left
  ·intro w' hSw
   go_simp <;> with_reducible rfl
  try simp only [Act.put, sq]
  refine tkq (v := ?_) 3 rfl ?_ ?_
  rotate_left
  ·intro w' hSw
   have c0 : w'.cell? ⟨w.heap.size, 1, none⟩ = some (.string d.2.name) := (HC.out.below hSw HC.out.lt).cell 1
   have c1 : w'.cell? ⟨w.heap.size, 2, none⟩ = some (.slice xa d.2.args.length xc) := (HC.out.below hSw HC.out.lt).cell 2
   go_simp <;> with_reducible rfl
  try simp only [Act.put, sq]
  generalize W.drew = wd at *
  refine rdq 1 rfl fun K hK => ?_
  go_simp
  go_at_call 71
  refine (count_any 2000 (by omega) (by omega) t _ _ _ ⟨aa, ca, rfl, (HS.out.later HB3.out).later BD.out⟩).mono ?_
  rintro e v1 ⟨rfl, hb⟩
  have Bv1 := hide (BD.out.trans (hb.mono BD.out.size))
  clear hb
  have em : min (sizeL [t] : Int) (2000 + 1) = sizeL [t] := by omega
  rw [em]
  clear em
  go_simp
  refine hK.out _ _ (by exact Bv1.out) (fun hHeld => ?_)
  clear hK K
  try simp only [Act.put, sq]
  refine rdq 4 rfl fun K hK => ?_
  go_simp
  go_at_call 71
  refine (count_any 2000 (by omega) (by omega) d.2 _ _ _ ⟨xa, xc, rfl, (HX.out.later HB3.out).later Bv1.out⟩).mono ?_
  rintro e v2 ⟨rfl, hb⟩
  have Bv2 := hide (Bv1.out.trans (hb.mono Bv1.out.size))
  clear hb
  have em : min (sizeL [d.2] : Int) (2000 + 1) = sizeL [d.2] := by omega
  rw [em]
  clear em
  go_simp
  refine hK.out _ _ (by exact Bv2.out) (fun hHeld => ?_)
  clear hK K
  try simp only [Act.put, sq]
  refine tkq (v := ?_) 5 rfl ?_ ?_
  rotate_left
  ·intro w' hSw
   go_simp <;> with_reducible rfl
  try simp only [Act.put, sq]
  refine tkq (v := ?_) 6 rfl ?_ ?_
  rotate_left
  ·intro w' hSw
   go_simp <;> with_reducible rfl
  try simp only [Act.put, sq]
  refine wpAnyH_done (by kernel_rfl) ?_ _
  go_wp2_with fail
  go_meet
  exact ⟨rfl, Bv2.out⟩
 case rest =>
  obtain ⟨rfl, hb⟩ := hcut
  have HB := hide (HB3.out.trans (hb.mono HB3.out.size))
  have C1 := hide (HC.out.below hb HC.out.lt)
  have T1 := hide (HT.out.below hb HT.out.lt)
  have O1 := hide (HO.out.below hb HO.out.lt)
  clear hb
  obtain ⟨n, hn⟩ : ∃ n : Nat, n + (sizeL [t] - sizeL [d.2]) = 2000 := ⟨2000 - (sizeL [t] - sizeL [d.2]), by omega⟩
  have e1 : (2000 : Int) - ((sizeL [t] : Int) - sizeL [d.2]) = (n : Int) := by omega
  have hw2 : IntKind.i64.wrap (2000 - ((sizeL [t] : Int) - sizeL [d.2])) = (n : Int) := by rw [IntKind.wrap_i64]; omega
  have hnb : (n : Int) ≤ 2000 := by omega
  have HFUL : Hid (isFull t d y ↔ n < sizeL [outC y]) := by unfold Hid isFull; omega
  have c0 := C1.out.c3
  have c1 : wc.cell? ⟨w.heap.size, 4, none⟩ = some (.slice ra y.1.r.args.length rc) := C1.out.cell 4
  have c2 : wc.cell? ⟨w.heap.size, 5, none⟩ = some (.map (some q)) := C1.out.cell 5
  go_wp2_with fail
  refine (fillR_any q y.1.r.args.length rc y.1.r.name ra y.2 Lm y.1.r n ra rc wc Z (by omega) (HR.out.later HB.out) (HEN.out.later HB.out)).mono ?_
  rintro e w9 ⟨hb9, ⟨hle, a9, c9, rfl, hs9⟩ | ⟨hgt, rfl⟩⟩
  ·have HB9 := hide (HB.out.trans (hb9.mono HB.out.size))
   have C9 := hide (C1.out.below hb9 C1.out.lt)
   have T9 := hide (T1.out.below hb9 T1.out.lt)
   have O9 := hide (O1.out.below hb9 O1.out.lt)
   have HS9 := hide hs9
   have HLE := hide hle
   have hzw := hb9.size
   have hzc : w.heap.size + 3 ≤ wc.heap.size := by have := O1.out.lt; have := HB.out.size; omega
   clear hb9 hs9 hle c0 c1 c2
   have t0 : ∀ o, (w9.alloc o).cell? ⟨w.heap.size + 1, 0, none⟩ = some (.string t.name) := fun o => (T9.out.alloc o).cell 0
   have t1 : ∀ o, (w9.alloc o).cell? ⟨w.heap.size + 1, 1, none⟩ = some (.slice aa t.args.length ca) := fun o => (T9.out.alloc o).cell 1
   have p0 : ∀ o, (w9.alloc o).cell? ⟨w.heap.size, 0, none⟩ = some (.slice ua d.1.length uc) := fun o => (C9.out.alloc o).cell 0
   go_wp2_with fail
   refine (kputY_any (outC y) d.1 t _ _ _ _ (fun b => (X b ∧ b < w.heap.size) ∨ wc.heap.size ≤ b) (fun b => Z b ∧ b < w.heap.size) ⟨aa, ca, rfl, ((HS.out.mono (Y := fun b => X b ∧ b < w.heap.size) fun b h1 h2 => ⟨h1, h2⟩).later (HB9.out.alloc HB9.out.size _)).mono fun b hb _ => Or.inl hb⟩ ((HP.out.mono (Y := fun b => Z b ∧ b < w.heap.size) fun b h1 h2 => ⟨h1, h2⟩).later (HB9.out.alloc HB9.out.size _)) ⟨a9, c9, rfl, (HS9.out.later ((Below.refl _ _).alloc (Nat.le_refl _) _)).mono fun b hb _ => Or.inr hb⟩ HAT.out (by omega)).mono ?_
   rintro e v1 ⟨v', rfl, ⟨aF, cF, rfl, hsF⟩, hbF⟩
   have HBF := hide ((HB9.out.alloc HB9.out.size (.cells #[.string (outC y).name, .slice a9 (outC y).args.length c9] 27)).trans (hbF.mono (by have := HB9.out.size; simp; omega)))
   have OF := hide ((O9.out.alloc (.cells #[.string (outC y).name, .slice a9 (outC y).args.length c9] 27)).below hbF (by have := O9.out.lt; simp; omega))
   have HSF := hide hsF
   have hzF := hbF.size
   clear hsF hbF t0 t1 p0
   have r0 := OF.out.c0
   have r1 := OF.out.c1
   have rf := OF.out.frozen
   have hOl : w.heap.size + 1 + 1 < v1.heap.size := OF.out.lt
   go_wp2_with fail
   refine bodyPost_ret (v := .tuple #[.agg #[.string (putT (outC y) d.1 t).name, .slice aF (putT (outC y) d.1 t).args.length cF], .int .i64 0]) (by simp [results, Tryz.results64, go_sem, World.cell?_setCell_same, World.cell?_setCell_other, r0, r1, hOl]) rfl ?_
   refine ⟨(HBF.out.setCell (by simp; omega) _).setCell (by simp; omega) _, Or.inl ⟨fun h => by have := HFUL.out.1 h; have := HLE.out; unfold outC at *; omega, aF, cF, rfl, (HSF.out.kept fun b hb => ?_).mono fun b hb _ => ?_⟩⟩
   ·have hbn : b ≠ w.heap.size + 1 + 1 := by
     rcases hb with ⟨(h | h), _⟩ | h
     ·have := h.2; omega
     ·omega
     ·simp at h; omega
    rw [Below.heap_setCell _ _ _ _ (by simpa using hbn), Below.heap_setCell _ _ _ _ (by simpa using hbn)]
   ·rcases hb with ⟨(h | h), _⟩ | h
    ·exact Or.inl h
    ·right; omega
    ·right; simp at h; omega
  ·have HB9 := hide (HB.out.trans (hb9.mono HB.out.size))
   have O9 := hide (O1.out.below hb9 O1.out.lt)
   have HGT := hide hgt
   clear hb9 hgt c0 c1 c2
   have r0 := O9.out.c0
   have r1 := O9.out.c1
   have rf := O9.out.frozen
   have hOl : w.heap.size + 1 + 1 < w9.heap.size := O9.out.lt
   go_wp2_with fail
   refine bodyPost_ret (v := .tuple #[.agg #[.string ⟨#[]⟩, .slice none 0 0], .int .i64 8]) (by simp [results, Tryz.results64, go_sem, World.cell?_setCell_same, World.cell?_setCell_other, r0, r1, hOl, World.cell?_alloc_old]) rfl ?_
   exact ⟨by first | exact ((HB9.out.setCell (by simp; omega) _).setCell (by simp; omega) _).alloc (by have := HB9.out.size; simp [World.setCell]; omega) _ | exact ((HB9.out.alloc HB9.out.size _).setCell (by simp; omega) _).setCell (by simp; omega) _, Or.inr ⟨HFUL.out.2 HGT.out, rfl⟩⟩
open Go.RowKit Go.Shelf
def calmQ (Q : Exit → Act → World → Prop) : Exit → Act → World → Prop := fun e a w => e ≠ .outgrown ∧ Q e a w
theorem calmQ_out (Q : Exit → Act → World → Prop) : ¬ LetsOut (calmQ Q) := fun ⟨_, _, h⟩ => h.1 rfl
theorem oper_round {P : Program} {o : Oper} {a : Act} {w : World} {K : Act → World → Prop} {Q : Exit → Act → World → Prop} {l n : Nat} (hnd : ∀ c, o.op ≠ .defer c) (h : Oper.wp P o a w K (calmQ Q)) : Oper.wpIn (Fence.wide.inRound l) n P o a w K Q := by
 unfold Oper.wp at h
 unfold Oper.wpIn
 refine ⟨fun f _ => trivial, ?_⟩
 rw [show (Fence.wide.inRound l).round = some l from rfl, Oper.semAt_some l _ _ hnd]
 generalize (execOp a.eval o).run P w = r at h ⊢
 cases r with
 | ok x w' =>
  cases x with
  | value v => exact h
  | skip => exact h
  | defer d => exact h
  | enter f args =>
   refine ⟨fun h => by simp [Fence.wide] at h, CallsIn.inRound l (callsIn_wide.2 (h.mono ?_))⟩
   intro e w'' he
   cases e with
   | returned v => exact he
   | panicked c => exact he.2
   | outgrown => exact absurd he (calmQ_out Q)
  | row row args => exact ⟨fun h => by simp [Fence.wide] at h, fun c cs _ => let ⟨v, w'', r, s⟩ := h c cs; ⟨v, w'', r, stepsIn_wide.2 s⟩⟩
  | round _ _ _ _ _ => exact h.elim
  | _ => exact h.elim
 | halt x w' => 
  cases x with
  | panic v => exact h.2
  | _ => exact h.elim
theorem any_round {P : Program} {md : Region.Mode} {ops : Array Oper} {Q : Exit → Act → World → Prop} {l n : Nat} (hnd : ∀ (i : Nat) (o : Oper), ops[i]? = some o → ∀ c, o.op ≠ .defer c) : ∀ (fuel : Nat) (listed : Array Bool) (a : Act) (w : World), wpAny P md ops (calmQ Q) fuel listed a w → wpAnyIn (Fence.wide.inRound l) n P md ops Q fuel listed a w
 | 0, _, _, _, h => ⟨h.1, h.2.2⟩
 | fuel + 1, listed, a, w, h => by
  refine ⟨fun h0 => (h.1 h0).2, fun i hi => ?_⟩
  have h1 := h.2 i hi
  unfold wpOp at h1
  unfold wpOpIn
  cases ho : ops[i]? with
  | none =>
   simp only [ho] at h1
   exact any_round hnd fuel _ _ _ h1
  | some o =>
   simp only [ho] at h1
   have hn := hnd i o ho
   split at h1
   next hw =>
    simp only [hw, if_true]
    rcases h1 with h1 | h1
    ·exact Oper.wpIn_mono (fun a' w' h' => any_round hnd fuel _ a' w' h') (oper_round hn h1)
    ·exact absurd h1.2 (calmQ_out Q)
   next hw =>
    dsimp only
    rw [if_neg hw]
    exact ⟨fun f _ => trivial, any_round hnd fuel _ _ _ h1⟩
theorem region_round {P : Program} {ops : Array Oper} {Q : Exit → Act → World → Prop} {S : World → Prop} {l n id : Nat} {a : Act} {w : World} (hm : P.follows .mixedOrders = true) (hnd : ∀ (i : Nat) (o : Oper), ops[i]? = some o → ∀ c, o.op ≠ .defer c) (hS : S w.drew)
  (h : S w.drew → wpAnyH P .any ops (calmQ Q) S ops.size (Array.replicate ops.size false) a w.drew) : (Code.region id ops true).wpIn (Fence.wide.inRound l) n P Q a w :=
 wpIn_region_any hm (any_round hnd _ _ _ _ (wpAny_of_held _ _ _ _ (h hS)))
attribute [local go_sem] Oper.semAt_some
theorem downF_any (s : ByteArray) (aa fa : Option Addr) (n ca fn fc : Nat) (w : World) :
  Calls Tryz.prog 63 #[.agg #[.string s, .slice aa n ca], .slice fa fn fc] w fun e w' => e = .returned (.func (.func 86) #[] #[.pointer (some ⟨w.heap.size, 0, none⟩), .pointer (some ⟨w.heap.size + 1, 0, none⟩)]) ∧ w' = (w.alloc (.cells #[.string s, .slice aa n ca] 27)).alloc (.cells #[.slice fa fn fc] 22) := by
 have hmf : ∀ (fn : Fn) (first cap : Array Value) (w : World), (Instr.makeFunc fn first cap).run Tryz.prog w = .ok (.func fn first cap) w := fun _ _ _ _ => rfl
 go_enter Tryz.func63, Tryz.ntmps63
 go_wp2_with fail
 go_ret
 exact ⟨rfl, rfl⟩
theorem chancesF_any (ua : Option Addr) (un uc : Nat) (fn : Fn) (c1 c2 : Array Value) (w : World) :
  Calls Tryz.prog 62 #[.slice ua un uc, .func fn c1 c2] w fun e w' => e = .returned (.func (.func 84) #[] #[.pointer (some ⟨w.heap.size + 1, 0, none⟩), .pointer (some ⟨w.heap.size, 0, none⟩)]) ∧ w' = (w.alloc (.cells #[.slice ua un uc] 23)).alloc (.cells #[.func fn c1 c2] 98) := by
 have hmf : ∀ (fn : Fn) (first cap : Array Value) (w : World), (Instr.makeFunc fn first cap).run Tryz.prog w = .ok (.func fn first cap) w := fun _ _ _ _ => rfl
 go_enter Tryz.func62, Tryz.ntmps62
 go_wp2_with fail
 go_ret
 exact ⟨rfl, rfl⟩
def allocs (w : World) (os : List Obj) : World := os.foldl (fun w o => w.alloc o) w
theorem allocs_facts : ∀ (os : List Obj) (w : World), Below w.heap.size w (allocs w os) ∧ (allocs w os).heap.size = w.heap.size + os.length ∧ ∀ (i : Nat) (o : Obj), os[i]? = some o → (allocs w os).heap[w.heap.size + i]? = some o
 | [], w => ⟨Below.refl _ _, rfl, fun i o h => by simp at h⟩
 | o :: os, w => by
  obtain ⟨h1, h2, h3⟩ := allocs_facts os (w.alloc o)
  have e : allocs w (o :: os) = allocs (w.alloc o) os := rfl
  rw [e]
  refine ⟨((Below.refl _ _).alloc (Nat.le_refl _) o).trans (h1.mono (by simp)), by rw [h2]; simp; omega, fun i o' hi => ?_⟩
  cases i with
  | zero =>
   simp at hi
   subst hi
   have := h1.block w.heap.size (by simp)
   rw [Nat.add_zero, this]
   exact World.alloc_heap_new w o
  | succ i =>
   have := h3 i o' (by simpa using hi)
   rw [World.size_alloc] at this
   rw [show w.heap.size + (i + 1) = w.heap.size + 1 + i by omega]
   exact this
theorem dnL_at : ∀ (l : List Tm) (hs : List Int) (j st : Nat) (r : List Int) (d : Dn), d ∈ dnL hs j st r l → ∃ (k : Nat) (p : List Int) (h : k < l.length), d.1 = hs ++ ((j + k : Nat) : Int) :: p ∧ atT l[k] p = some d.2 := by
 intro l
 induction l using Tm.indL with
 | h0 => intro hs j st r d h; simp [dnL] at h
 | h s l rest ih1 ih2 =>
  intro hs j st r d h
  rw [dnL_cons] at h
  rcases List.mem_append.1 h with h | h
  ·split at h
   ·simp at h
   ·unfold dnT at h
    rcases List.mem_cons.1 h with h | h
    ·subst h
     exact ⟨0, [], by simp, by simp, by simp [atT]⟩
    ·obtain ⟨k, p, hk, e1, e2⟩ := ih1 _ _ _ _ _ h
     refine ⟨0, ((0 + k : Nat) : Int) :: p, by simp, by rw [e1]; simp, ?_⟩
     have e : ((0 + k : Nat) : Int).toNat = k := by omega
     simp only [List.getElem_cons_zero, atT]
     rw [dif_pos ⟨by omega, by rw [e]; exact hk⟩]
     simp only [e]
     exact e2
  ·obtain ⟨k, p, hk, e1, e2⟩ := ih2 _ _ _ _ _ h
   exact ⟨k + 1, p, by simp; omega, by rw [e1, show j + 1 + k = j + (k + 1) by omega], by simpa using e2⟩
theorem dnT_at {hs fs : List Int} {t : Tm} {d : Dn} (h : d ∈ dnT hs fs t) : ∃ p, d.1 = hs ++ p ∧ atT t p = some d.2 := by
 unfold dnT at h
 rcases List.mem_cons.1 h with h | h
 ·subst h
  exact ⟨[], by simp, by simp [atT]⟩
 ·obtain ⟨k, p, hk, e1, e2⟩ := dnL_at _ _ _ _ _ _ h
  refine ⟨((0 + k : Nat) : Int) :: p, e1, ?_⟩
  have e : ((0 + k : Nat) : Int).toNat = k := by omega
  rw [atT, dif_pos ⟨by omega, by rw [e]; exact hk⟩]
  simp only [e]
  exact e2
theorem chL_at {rs : List Pr} {t : Tm} {fs : List Int} {c : Ch} (h : c ∈ chL rs t fs) : atT t c.1.1 = some c.1.2 := by
 obtain ⟨d, hd, hc⟩ := List.mem_flatMap.1 h
 obtain ⟨y, _, rfl⟩ := List.mem_map.1 hc
 obtain ⟨p, e1, e2⟩ := dnT_at hd
 rw [List.nil_append] at e1
 rw [e1]
 exact e2
theorem dnL_len : ∀ (l : List Tm) (hs : List Int) (j st : Nat) (r : List Int), (dnL hs j st r l).length ≤ sizeL l := by
 intro l
 induction l using Tm.indL with
 | h0 => intro hs j st r; simp [dnL]
 | h s l rest ih1 ih2 =>
  intro hs j st r
  rw [dnL_cons, List.length_append]
  have h2 := ih2 hs (j + 1) st r
  have e : sizeL ((⟨s, l⟩ : Tm) :: rest) = 1 + sizeL l + sizeL rest := by simp [sizeL]
  rw [e]
  split
  ·simp; omega
  ·unfold dnT
   have h1 := ih1 (hs ++ [(j : Int)]) 0 (hdN (if j = st then r else [])) (if j = st then r else []).tail
   rw [List.length_cons]
   have e2 : (⟨s, l⟩ : Tm).args = l := rfl
   rw [e2]
   omega
theorem chL_len (rs : List Pr) (t : Tm) (fs : List Int) : (chL rs t fs).length ≤ sizeL [t] * rs.length := by
 have h1 : ∀ ds : List Dn, (ds.flatMap (chG rs)).length ≤ ds.length * rs.length := by
  intro ds
  induction ds with
  | nil => simp
  | cons d ds ih =>
   rw [List.flatMap_cons, List.length_append, List.length_cons, Nat.add_mul, Nat.one_mul]
   have : (chG rs d).length ≤ rs.length := by unfold chG fitsL; rw [List.length_map]; exact List.length_filterMap_le _ _
   omega
 have h2 : (dnT [] fs t).length ≤ sizeL [t] := by
  obtain ⟨s, l⟩ := t
  unfold dnT
  have := dnL_len l [] 0 (hdN fs) fs.tail
  have e : sizeL [(⟨s, l⟩ : Tm)] = 1 + sizeL l := by simp [sizeL]
  rw [e, List.length_cons]
  simp only
  omega
 exact Nat.le_trans (h1 _) (Nat.mul_le_mul_right _ h2)
theorem row_last {w3 : World} {N T n g cap : Nat} {xs : List Value} {z1 z2 u1 u2 : Value} (h : w3.ownsRow N T 2 (.slice (some ⟨g, 0, none⟩) (n + 1) cap) (n + 1) (xs ++ [z1, z2])) (hx : xs.length = n * 2) :
  w3.cell? ⟨g, n * 2, none⟩ = some z1 ∧ w3.cell? ⟨g, n * 2 + 1, none⟩ = some z2 ∧ (∀ i, w3.frozen? ⟨g, i, none⟩ = false) ∧ ∀ wF : World, wF.heap[g]? = ((w3.setCell ⟨g, n * 2, none⟩ u1).setCell ⟨g, n * 2 + 1, none⟩ u2).heap[g]? → wF.ownsRow N T 2 (.slice (some ⟨g, 0, none⟩) (n + 1) cap) (n + 1) (xs ++ [u1, u2]) := by
 obtain ⟨hl, h1⟩ := h
 rcases h1 with ⟨h1, _⟩ | ⟨g', cap', cur, hv, hg, hh, hnc, hcm, hcs, htk⟩
 ·cases h1
 ·simp at hv
  obtain ⟨rfl, rfl⟩ := hv
  have hlt : n * 2 + 1 < cur.size := by omega
  have c1 : cur.toList[n * 2]? = some z1 := by
   have := congrArg (fun l => l[n * 2]?) htk
   rw [List.getElem?_take_of_lt (by omega), List.getElem?_append_right (by omega), hx] at this
   simpa using this
  have c2 : cur.toList[n * 2 + 1]? = some z2 := by
   have := congrArg (fun l => l[n * 2 + 1]?) htk
   rw [List.getElem?_take_of_lt (by omega), List.getElem?_append_right (by omega), hx] at this
   simpa using this
  refine ⟨by simpa [World.cell?, hh] using c1, by simpa [World.cell?, hh] using c2, fun i => by simp [World.frozen?, hh], fun wF hF => ⟨by simp [hx]; omega, Or.inr ⟨g, cap, (cur.setIfInBounds (n * 2) u1).setIfInBounds (n * 2 + 1) u2, rfl, hg, ?_, hnc, hcm, by simpa using hcs, ?_⟩⟩⟩
  ·rw [hF]
   simp [World.setCell, Array.getElem?_modify, hh]
  ·rw [Array.toList_setIfInBounds, Array.toList_setIfInBounds, List.take_set, List.take_set, htk]
   rw [List.set_append_right _ _ (by omega), List.set_append_right _ _ (by omega), hx]
   simp
theorem Blk.set1R {w : World} {A T : Nat} {q v : Value} (h : Blk w A #[q] T) : Blk (w.setCell ⟨A, 0, none⟩ v) A #[v] T := by
 unfold Blk at *
 simp [World.setCell, Array.getElem?_modify, h]
structure FwW (w3 : World) (A g n cap T : Nat) (u1 u2 : Value) (wF : World) : Prop where
 os : wF.os = w3.os
 tape : wF.tape = w3.tape
 output : wF.output = w3.output
 size : wF.heap.size = w3.heap.size
 other : ∀ b, b ≠ g → b ≠ A → wF.heap[b]? = w3.heap[b]?
 box : Blk wF A #[.slice (some ⟨g, 0, none⟩) (n + 1) cap] T
 row : wF.heap[g]? = ((w3.setCell ⟨g, n * 2, none⟩ u1).setCell ⟨g, n * 2 + 1, none⟩ u2).heap[g]?
theorem fw_a {w3 : World} {A g n cap T : Nat} {u1 u2 v : Value} (hne : A ≠ g) (hA : Blk w3 A #[v] T) : FwW w3 A g n cap T u1 u2 (((w3.setCell ⟨g, n * 2, none⟩ u1).setCell ⟨g, n * 2 + 1, none⟩ u2).setCell ⟨A, 0, none⟩ (.slice (some ⟨g, 0, none⟩) (n + 1) cap)) :=
 ⟨rfl, rfl, rfl, by simp [World.setCell], fun b h1 h2 => by rw [Below.heap_setCell _ _ _ _ (by simpa using h2), Below.heap_setCell _ _ _ _ (by simpa using h1), Below.heap_setCell _ _ _ _ (by simpa using h1)], Blk.set1R ((hA.setOther _ _ hne).setOther _ _ hne), Below.heap_setCell _ _ _ _ (by simpa using fun e => hne e.symm)⟩
theorem fw_b {w3 : World} {A g n cap T : Nat} {u1 u2 v : Value} (hne : A ≠ g) (hA : Blk w3 A #[v] T) : FwW w3 A g n cap T u1 u2 (((w3.setCell ⟨A, 0, none⟩ (.slice (some ⟨g, 0, none⟩) (n + 1) cap)).setCell ⟨g, n * 2, none⟩ u1).setCell ⟨g, n * 2 + 1, none⟩ u2) := by
 refine ⟨rfl, rfl, rfl, by simp [World.setCell], fun b h1 h2 => by rw [Below.heap_setCell _ _ _ _ (by simpa using h1), Below.heap_setCell _ _ _ _ (by simpa using h1), Below.heap_setCell _ _ _ _ (by simpa using h2)], ((Blk.set1R hA).setOther _ _ hne).setOther _ _ hne, ?_⟩
 have e : (w3.setCell ⟨A, 0, none⟩ (.slice (some ⟨g, 0, none⟩) (n + 1) cap)).heap[g]? = w3.heap[g]? := Below.heap_setCell _ _ _ _ (by simpa using fun e => hne e.symm)
 simp only [World.setCell, Array.getElem?_modify] at e ⊢
 simp only [e]
theorem own_form {w : World} {N e z n : Nat} {v : Value} {xs : List Value} (h : w.ownsRow N e z v n xs) : ∃ a c, v = .slice a n c := by
 rcases h.2 with ⟨rfl, rfl⟩ | ⟨g, cap, cur, hv, _⟩
 ·exact ⟨none, 0, rfl⟩
 ·exact ⟨_, _, hv⟩
def outA (t : Tm) (c : Ch) : Tm := putT (outC c.2) c.1.1 t
def JA (t : Tm) (X K : Nat → Prop) (A R4 R5 L : Nat) (r rd : Loop) (W0 : World) : Tk Ch := fun pre s f W =>
 (∀ b, K b → b < W0.heap.size ∧ ¬ f b) ∧ W0.heap.size ≤ W.heap.size ∧ (∀ b, K b → W.heap[b]? = W0.heap[b]?) ∧ W.heap[L]? = some (.loop (if s = true then r else rd)) ∧ Blk W R4 #[.slice none 0 0] 25 ∧ Blk W R5 #[.int .i64 (if s = true then 0 else 8)] 36 ∧
 (∃ (v : Value) (l : List Tm) (xs : List Value) (E : Nat → Prop), (∀ b, f b ↔ b = L ∨ b = A ∨ b = R4 ∨ b = R5 ∨ v.ownBlock = some b ∨ E b) ∧ (∀ b, E b → W0.heap.size ≤ b ∧ b < W.heap.size ∧ v.ownBlock ≠ some b) ∧ Blk W A #[v] 25 ∧ W.ownsRow W0.heap.size 27 2 v l.length xs ∧ RowT W (fun b => X b ∨ E b) l xs ∧ (s = true → l = pre.map (outA t))) ∧
 (s = true → ∀ c ∈ pre, ¬ isFull t c.1 c.2) ∧ (s = false → ∃ c ∈ pre, isFull t c.1 c.2)
theorem JA.ok {t : Tm} {X K : Nat → Prop} {A R4 R5 L : Nat} {r rd : Loop} {W0 : World} (hXK : ∀ b, X b → K b) : TkOk (JA t X K A R4 R5 L r rd W0) K where
 inside := by
  rintro pre s f W ⟨hK, hz, hC, hL, h4, h5, ⟨v, l, xs, E, hf, hE, hA, ho, hr, hl⟩, h1, h2⟩ b hb
  rcases hb with hb | hb
  ·rcases (hf b).1 hb with h | h | h | h | h | h
   ·subst h; exact (Array.getElem?_eq_some_iff.1 hL).1
   ·subst h; exact hA.lt
   ·subst h; exact h4.lt
   ·subst h; exact h5.lt
   ·exact (ho.lt b h).2
   ·exact (hE b h).2.1
  ·have := (hK b hb).1; omega
 apart := by
  rintro pre s f W ⟨hK, hz, hC, hL, h4, h5, ⟨v, l, xs, E, hf, hE, hA, ho, hr, hl⟩, h1, h2⟩ b hb
  exact (hK b hb).2
 abide := by
  rintro pre s f W W' ⟨hK, hz, hC, hL, h4, h5, ⟨v, l, xs, E, hf, hE, hA, ho, hr, hl⟩, h1, h2⟩ hs hk
  refine ⟨hK, Nat.le_trans hz hs, fun b hb => (hk b (Or.inr hb)).trans (hC b hb), (hk L (Or.inl ((hf L).2 (Or.inl rfl)))).trans hL, (hk R4 (Or.inl ((hf R4).2 (Or.inr (Or.inr (Or.inl rfl)))))).trans h4, (hk R5 (Or.inl ((hf R5).2 (Or.inr (Or.inr (Or.inr (Or.inl rfl))))))).trans h5, ⟨v, l, xs, E, hf, fun b hb => ⟨(hE b hb).1, Nat.lt_of_lt_of_le (hE b hb).2.1 hs, (hE b hb).2.2⟩, (hk A (Or.inl ((hf A).2 (Or.inr (Or.inl rfl))))).trans hA, ownsRow_at ho fun g hg => hk g (Or.inl ((hf g).2 (Or.inr (Or.inr (Or.inr (Or.inr (Or.inl hg))))))), hr.imp fun a l hsl => hsl.kept fun b hb => ?_, hl⟩, h1, h2⟩
  rcases hb with hb | hb
  ·exact hk b (Or.inr (hXK b hb))
  ·exact hk b (Or.inl ((hf b).2 (Or.inr (Or.inr (Or.inr (Or.inr (Or.inr hb)))))))
def AllPost (rs : List Pr) (t : Tm) (X : Nat → Prop) (w : World) (e : Ending) (w' : World) : Prop :=
 Below w.heap.size w w' ∧ (((∀ c ∈ chL rs t [], ¬ isFull t c.1 c.2) ∧ ∃ v xs, e = .returned (.tuple #[v, .int .i64 0]) ∧ w'.ownsRow w.heap.size 27 2 v ((chL rs t []).map (outA t)).length xs ∧ RowT w' (fun b => (X b ∧ b < w.heap.size) ∨ (w.heap.size ≤ b ∧ v.ownBlock ≠ some b)) ((chL rs t []).map (outA t)) xs) ∨
  ((∃ c ∈ chL rs t [], isFull t c.1 c.2) ∧ e = .returned (.tuple #[.slice none 0 0, .int .i64 8])))
set_option maxHeartbeats 2000000 in
theorem all_any (rs : List Pr) (t : Tm) (u : Value) (aa : Option Addr) (ca : Nat) (w : World) (X0 : Nat → Prop) (hu : QV w X0 u rs) (hs : Sl w X0 aa t.args) (hz : sizeL [t] ≤ 2000) (hrs : rs.length ≤ 400) :
  Calls Tryz.prog 44 #[u, .agg #[.string t.name, .slice aa t.args.length ca]] w fun e w' => AllPost rs t X0 w e w' := by
 obtain ⟨X, hX, hXX, hu, hs⟩ : ∃ X : Nat → Prop, (∀ b, X b → b < w.heap.size) ∧ (∀ b, X b → X0 b) ∧ QV w X u rs ∧ Sl w X aa t.args := ⟨fun b => X0 b ∧ b < w.heap.size, fun _ h => h.2, fun _ h => h.1, hu.mono fun b h1 h2 => ⟨h1, h2⟩, hs.mono fun b h1 h2 => ⟨h1, h2⟩⟩
 have HX := hide hX
 have HXX := hide hXX
 have HU := hide hu
 have HS := hide hs
 obtain ⟨ua, uc, rfl, hul, _⟩ := hu
 clear hX hXX hs
 refine (callsIn_wide (n := 3)).1 ?_
 refine callsIn_of_wp_marks Tryz.func44 rfl trivial ?_ rfl
 simp only [Tryz.ntmps44, List.size_toArray, List.length_cons, List.length_nil, Nat.reduceAdd, Nat.reduceSub, Array.replicate_succ, Array.replicate_zero, List.push_toArray, List.append_toArray, List.nil_append, List.cons_append]
 have hf1 : Fence.wide.fn 63 := trivial
 have hf2 : Fence.wide.fn 62 := trivial
 gi_wp2_with (first | (gi_at_call 63; refine (callsIn_wide.2 (downF_any _ _ _ _ _ _ _ _)).mono ?_; rintro e w' ⟨rfl, rfl⟩) | (gi_at_call 62; refine (callsIn_wide.2 (chancesF_any _ _ _ _ _ _ _)).mono ?_; rintro e w' ⟨rfl, rfl⟩))
 refine wp_range2 (gf := 84) (lb := #[.pointer (some ⟨w.heap.size + 7, 0, none⟩), .pointer (some ⟨w.heap.size + 6, 0, none⟩)]) rfl (enters_of Tryz.func84 (by kernel_rfl) rfl) ?_
 intro r hr1 hr2 hr3 hr4 hr5 hr6
 have hz8 : ((((((((w.alloc (.cells #[.string t.name, .slice aa t.args.length ca] 27)).alloc (.cells #[.slice none 0 0] 25)).alloc (.cells #[.int .i64 0] 36)).alloc (.cells #[.slice none 0 0] 25)).alloc (.cells #[.string t.name, .slice aa t.args.length ca] 27)).alloc (.cells #[.slice none 0 0] 22)).alloc (.cells #[.slice ua rs.length uc] 23)).alloc (.cells #[.func (.func 86) #[] #[.pointer (some ⟨w.heap.size + 4, 0, none⟩), .pointer (some ⟨w.heap.size + 5, 0, none⟩)]] 98)).heap.size = w.heap.size + 8 := by simp
 have hW10 : ((((((((((w.alloc (.cells #[.string t.name, .slice aa t.args.length ca] 27)).alloc (.cells #[.slice none 0 0] 25)).alloc (.cells #[.int .i64 0] 36)).alloc (.cells #[.slice none 0 0] 25)).alloc (.cells #[.string t.name, .slice aa t.args.length ca] 27)).alloc (.cells #[.slice none 0 0] 22)).alloc (.cells #[.slice ua rs.length uc] 23)).alloc (.cells #[.func (.func 86) #[] #[.pointer (some ⟨w.heap.size + 4, 0, none⟩), .pointer (some ⟨w.heap.size + 5, 0, none⟩)]] 98)).alloc (.deferred (some []))).alloc (.loop r)) = allocs w [(.cells #[.string t.name, .slice aa t.args.length ca] 27 : Obj), (.cells #[.slice none 0 0] 25 : Obj), (.cells #[.int .i64 0] 36 : Obj), (.cells #[.slice none 0 0] 25 : Obj), (.cells #[.string t.name, .slice aa t.args.length ca] 27 : Obj), (.cells #[.slice none 0 0] 22 : Obj), (.cells #[.slice ua rs.length uc] 23 : Obj), (.cells #[.func (.func 86) #[] #[.pointer (some ⟨w.heap.size + 4, 0, none⟩), .pointer (some ⟨w.heap.size + 5, 0, none⟩)]] 98 : Obj), (.deferred (some []) : Obj), (.loop r : Obj)] := rfl
 rw [hz8]
 have HAF := hide (allocs_facts [(.cells #[.string t.name, .slice aa t.args.length ca] 27 : Obj), (.cells #[.slice none 0 0] 25 : Obj), (.cells #[.int .i64 0] 36 : Obj), (.cells #[.slice none 0 0] 25 : Obj), (.cells #[.string t.name, .slice aa t.args.length ca] 27 : Obj), (.cells #[.slice none 0 0] 22 : Obj), (.cells #[.slice ua rs.length uc] 23 : Obj), (.cells #[.func (.func 86) #[] #[.pointer (some ⟨w.heap.size + 4, 0, none⟩), .pointer (some ⟨w.heap.size + 5, 0, none⟩)]] 98 : Obj), (.deferred (some []) : Obj), (.loop r : Obj)] w)
 rw [← hW10] at HAF
 clear hW10
 generalize ((((((((((w.alloc (.cells #[.string t.name, .slice aa t.args.length ca] 27)).alloc (.cells #[.slice none 0 0] 25)).alloc (.cells #[.int .i64 0] 36)).alloc (.cells #[.slice none 0 0] 25)).alloc (.cells #[.string t.name, .slice aa t.args.length ca] 27)).alloc (.cells #[.slice none 0 0] 22)).alloc (.cells #[.slice ua rs.length uc] 23)).alloc (.cells #[.func (.func 86) #[] #[.pointer (some ⟨w.heap.size + 4, 0, none⟩), .pointer (some ⟨w.heap.size + 5, 0, none⟩)]] 98)).alloc (.deferred (some []))).alloc (.loop r)) = W5 at *
 have hz5 : W5.heap.size = w.heap.size + 10 := HAF.out.2.1
 have HB5 : Hid (Below w.heap.size w W5) := HAF.out.1
 have H0 : Hid (Blk W5 w.heap.size #[.string t.name, .slice aa t.args.length ca] 27) := HAF.out.2.2 0 _ rfl
 have H1 : Hid (Blk W5 (w.heap.size + 1) #[.slice none 0 0] 25) := HAF.out.2.2 1 _ rfl
 have H2 : Hid (Blk W5 (w.heap.size + 2) #[.int .i64 0] 36) := HAF.out.2.2 2 _ rfl
 have H3 : Hid (Blk W5 (w.heap.size + 3) #[.slice none 0 0] 25) := HAF.out.2.2 3 _ rfl
 have H4 : Hid (Blk W5 (w.heap.size + 4) #[.string t.name, .slice aa t.args.length ca] 27) := HAF.out.2.2 4 _ rfl
 have H5 : Hid (Blk W5 (w.heap.size + 5) #[.slice none 0 0] 22) := HAF.out.2.2 5 _ rfl
 have H6 : Hid (Blk W5 (w.heap.size + 6) #[.slice ua rs.length uc] 23) := HAF.out.2.2 6 _ rfl
 have H7 : Hid (Blk W5 (w.heap.size + 7) #[.func (.func 86) #[] #[.pointer (some ⟨w.heap.size + 4, 0, none⟩), .pointer (some ⟨w.heap.size + 5, 0, none⟩)]] 98) := HAF.out.2.2 7 _ rfl
 have H8 : Hid (W5.heap[w.heap.size + 8]? = some (.deferred (some []))) := HAF.out.2.2 8 _ rfl
 have H9 : Hid (W5.heap[w.heap.size + 9]? = some (.loop r)) := HAF.out.2.2 9 _ rfl
 clear HAF
 obtain ⟨K, hK⟩ : ∃ K : Nat → Prop, K = fun b => X b ∨ b = w.heap.size := ⟨_, rfl⟩
 have HKX : Hid (∀ b, X b → K b) := fun b hb => by rw [hK]; exact Or.inl hb
 have HKT : Hid (K w.heap.size) := by unfold Hid; rw [hK]; exact Or.inr rfl
 have HKl : Hid (∀ b, K b → b ≤ w.heap.size) := fun b hb => by
  rw [hK] at hb
  rcases hb with h | h
  ·have := HX.out b h; omega
  ·omega
 clear hK
 obtain ⟨rd, hrd⟩ : ∃ rd : Loop, rd = { r with state := .done, pending := some .ret } := ⟨_, rfl⟩
 obtain ⟨rb, hrb⟩ : ∃ rb : Loop, rb = { r with state := .busy } := ⟨_, rfl⟩
 have hok : TkOk (JA t X K (w.heap.size + 3) (w.heap.size + 1) (w.heap.size + 2) (w.heap.size + 9) r rd W5) K := JA.ok HKX.out
 have RH : Rnd (w.heap.size + 9) LpC (JA t X K (w.heap.size + 3) (w.heap.size + 1) (w.heap.size + 2) (w.heap.size + 9) r rd W5) (chL rs t []) := by
  have HR1 := hide hr1
  have HR2 := hide hr2
  have HR3 := hide hr3
  have HR4 := hide hr4
  have HR5 := hide hr5
  have HR6 := hide hr6
  clear hr1 hr2 hr3 hr4 hr5 hr6 hok hz8
  intro n pre c args Z f W hpfx hj hl hZ
  have hat : atT t c.1.1 = some c.1.2 := chL_at (hpfx.subset (by simp))
  have hlen : pre.length ≤ 1000000 := by
   have h1 := hpfx.length_le
   have h2 := chL_len rs t []
   have h3 : sizeL [t] * rs.length ≤ 2000 * 400 := Nat.mul_le_mul hz hrs
   rw [List.length_append] at h1
   omega
  clear hpfx
  obtain ⟨hK1, hzW, hC, hL, h4, h5, ⟨v, l, xs, E, hf, hE, hA, ho, hr, hll⟩, hnf, -⟩ := hj
  obtain ⟨ja, jc, xa, xc, ra, rc, q, Lm, rfl, hp, hxs, hrs', hq, hen⟩ := hl
  simp only [if_true] at hL h5
  have HLL := hide (hll rfl)
  have HNF := hide (hnf rfl)
  have HF := hide hf
  have HE := hide hE
  have HA := hide hA
  have HO := hide ho
  have HRW := hide hr
  have HK1 := hide hK1
  have HC := hide hC
  have H4W := hide h4
  have H5W := hide h5
  have HP := hide hp
  have HXS := hide hxs
  have HRS := hide hrs'
  have HEN := hide hen
  have HZ := hide hZ
  have HAT := hide hat
  have hlL : w.heap.size + 9 < W.heap.size := (Array.getElem?_eq_some_iff.1 hL).1
  clear hf hE hA ho hr hK1 hC h4 h5 hp hxs hrs' hen hZ hat hll hnf
  refine yield_two hrb hrd HR5.out HR6.out HR4.out HR3.out hL HR1.out HR2.out rfl ?_
  have hL2 : (W.alloc (.cells #[.slice ja c.1.1.length jc, .string c.1.2.name, .slice xa c.1.2.args.length xc, .string c.2.1.r.name, .slice ra c.2.1.r.args.length rc, .map (some q)] 104)).heap[w.heap.size + 9]? = some (.loop r) := (Below.heap_alloc _ _ _ hlL).trans hL
  have kV : ∀ b, b < W.heap.size → b ≠ w.heap.size + 9 → ((W.alloc (.cells #[.slice ja c.1.1.length jc, .string c.1.2.name, .slice xa c.1.2.args.length xc, .string c.2.1.r.name, .slice ra c.2.1.r.args.length rc, .map (some q)] 104)).putObj (w.heap.size + 9) (.loop rb)).heap[b]? = W.heap[b]? := fun b hb hne => (World.putObj_heap_other hne).trans (Below.heap_alloc _ _ _ hb)
  have hzV : ((W.alloc (.cells #[.slice ja c.1.1.length jc, .string c.1.2.name, .slice xa c.1.2.args.length xc, .string c.2.1.r.name, .slice ra c.2.1.r.args.length rc, .map (some q)] 104)).putObj (w.heap.size + 9) (.loop rb)).heap.size = W.heap.size + 1 := by simp
  have hCB : Blk ((W.alloc (.cells #[.slice ja c.1.1.length jc, .string c.1.2.name, .slice xa c.1.2.args.length xc, .string c.2.1.r.name, .slice ra c.2.1.r.args.length rc, .map (some q)] 104)).putObj (w.heap.size + 9) (.loop rb)) W.heap.size #[.slice ja c.1.1.length jc, .string c.1.2.name, .slice xa c.1.2.args.length xc, .string c.2.1.r.name, .slice ra c.2.1.r.args.length rc, .map (some q)] 104 := (World.putObj_heap_other (by omega)).trans (Blk.new W _ _)
  have hLV : ((W.alloc (.cells #[.slice ja c.1.1.length jc, .string c.1.2.name, .slice xa c.1.2.args.length xc, .string c.2.1.r.name, .slice ra c.2.1.r.args.length rc, .map (some q)] 104)).putObj (w.heap.size + 9) (.loop rb)).heap[w.heap.size + 9]? = some (.loop rb) := World.putObj_heap_same (by simp; omega)
  have hT0 : Blk ((W.alloc (.cells #[.slice ja c.1.1.length jc, .string c.1.2.name, .slice xa c.1.2.args.length xc, .string c.2.1.r.name, .slice ra c.2.1.r.args.length rc, .map (some q)] 104)).putObj (w.heap.size + 9) (.loop rb)) w.heap.size #[.string t.name, .slice aa t.args.length ca] 27 := (kV _ (by omega) (by omega)).trans ((HC.out _ HKT.out).trans H0.out)
  have c0 : ((W.alloc (.cells #[.slice ja c.1.1.length jc, .string c.1.2.name, .slice xa c.1.2.args.length xc, .string c.2.1.r.name, .slice ra c.2.1.r.args.length rc, .map (some q)] 104)).putObj (w.heap.size + 9) (.loop rb)).cell? ⟨W.heap.size, 0, none⟩ = some (.slice ja c.1.1.length jc) := hCB.cell 0
  have c1 : ((W.alloc (.cells #[.slice ja c.1.1.length jc, .string c.1.2.name, .slice xa c.1.2.args.length xc, .string c.2.1.r.name, .slice ra c.2.1.r.args.length rc, .map (some q)] 104)).putObj (w.heap.size + 9) (.loop rb)).cell? ⟨W.heap.size, 1, none⟩ = some (.string c.1.2.name) := hCB.cell 1
  have c2 : ((W.alloc (.cells #[.slice ja c.1.1.length jc, .string c.1.2.name, .slice xa c.1.2.args.length xc, .string c.2.1.r.name, .slice ra c.2.1.r.args.length rc, .map (some q)] 104)).putObj (w.heap.size + 9) (.loop rb)).cell? ⟨W.heap.size, 2, none⟩ = some (.slice xa c.1.2.args.length xc) := hCB.cell 2
  have c3 : ((W.alloc (.cells #[.slice ja c.1.1.length jc, .string c.1.2.name, .slice xa c.1.2.args.length xc, .string c.2.1.r.name, .slice ra c.2.1.r.args.length rc, .map (some q)] 104)).putObj (w.heap.size + 9) (.loop rb)).cell? ⟨W.heap.size, 3, none⟩ = some (.string c.2.1.r.name) := hCB.cell 3
  have c4 : ((W.alloc (.cells #[.slice ja c.1.1.length jc, .string c.1.2.name, .slice xa c.1.2.args.length xc, .string c.2.1.r.name, .slice ra c.2.1.r.args.length rc, .map (some q)] 104)).putObj (w.heap.size + 9) (.loop rb)).cell? ⟨W.heap.size, 4, none⟩ = some (.slice ra c.2.1.r.args.length rc) := hCB.cell 4
  have c5 : ((W.alloc (.cells #[.slice ja c.1.1.length jc, .string c.1.2.name, .slice xa c.1.2.args.length xc, .string c.2.1.r.name, .slice ra c.2.1.r.args.length rc, .map (some q)] 104)).putObj (w.heap.size + 9) (.loop rb)).cell? ⟨W.heap.size, 5, none⟩ = some (.map (some q)) := hCB.cell 5
  have t0 : ((W.alloc (.cells #[.slice ja c.1.1.length jc, .string c.1.2.name, .slice xa c.1.2.args.length xc, .string c.2.1.r.name, .slice ra c.2.1.r.args.length rc, .map (some q)] 104)).putObj (w.heap.size + 9) (.loop rb)).cell? ⟨w.heap.size, 0, none⟩ = some (.string t.name) := hT0.cell 0
  have t1 : ((W.alloc (.cells #[.slice ja c.1.1.length jc, .string c.1.2.name, .slice xa c.1.2.args.length xc, .string c.2.1.r.name, .slice ra c.2.1.r.args.length rc, .map (some q)] 104)).putObj (w.heap.size + 9) (.loop rb)).cell? ⟨w.heap.size, 1, none⟩ = some (.slice aa t.args.length ca) := hT0.cell 1
  have HOSV : Hid (((W.alloc (.cells #[.slice ja c.1.1.length jc, .string c.1.2.name, .slice xa c.1.2.args.length xc, .string c.2.1.r.name, .slice ra c.2.1.r.args.length rc, .map (some q)] 104)).putObj (w.heap.size + 9) (.loop rb)).os = W.os ∧ ((W.alloc (.cells #[.slice ja c.1.1.length jc, .string c.1.2.name, .slice xa c.1.2.args.length xc, .string c.2.1.r.name, .slice ra c.2.1.r.args.length rc, .map (some q)] 104)).putObj (w.heap.size + 9) (.loop rb)).tape = W.tape ∧ ((W.alloc (.cells #[.slice ja c.1.1.length jc, .string c.1.2.name, .slice xa c.1.2.args.length xc, .string c.2.1.r.name, .slice ra c.2.1.r.args.length rc, .map (some q)] 104)).putObj (w.heap.size + 9) (.loop rb)).output = W.output) := ⟨rfl, rfl, rfl⟩
  have HLV := hide hLV
  have HKV := hide kV
  clear hrb hrd hCB hT0 hLV kV
  gi_wp2
  refine ⟨(Array.getElem?_eq_some_iff.1 hL2).2, ?_⟩
  clear hL2
  generalize ((W.alloc (.cells #[.slice ja c.1.1.length jc, .string c.1.2.name, .slice xa c.1.2.args.length xc, .string c.2.1.r.name, .slice ra c.2.1.r.args.length rc, .map (some q)] 104)).putObj (w.heap.size + 9) (.loop rb)) = V at *
  gi_wp2
  clear c0 c1 c2 c3 c4 c5 t0 t1
  have hKne : ∀ b, K b → b < W.heap.size ∧ b ≠ w.heap.size + 9 := fun b hb => by have := HKl.out b hb; omega
  have hZne : ∀ b, Z b → b < W.heap.size ∧ b ≠ w.heap.size + 9 := fun b hb => ⟨(HZ.out b hb).1, fun h => (HZ.out b hb).2 ((HF.out b).2 (Or.inl h))⟩
  have hSV : Sl V X aa t.args := ((HS.out.later HB5.out).kept fun b hb => (HKV.out b (hKne b (HKX.out b hb)).1 (hKne b (HKX.out b hb)).2).trans (HC.out b (HKX.out b hb)))
  refine ⟨trivial, (fun h => by simp [Fence.wide] at h), ?_⟩
  refine (CallsIn.inRound _ (callsIn_wide.2 (take_step c.1 c.2 t ja xa ra aa jc xc rc ca q Lm V X Z (HP.out.kept fun b hb => HKV.out b (hZne b hb).1 (hZne b hb).2) (HXS.out.kept fun b hb => HKV.out b (hZne b hb).1 (hZne b hb).2) (HRS.out.kept fun b hb => HKV.out b (hZne b hb).1 (hZne b hb).2) ⟨HEN.out.1.kept (HKV.out q (hZne q hq).1 (hZne q hq).2), HEN.out.2.imp fun a l hs => hs.kept fun b hb => HKV.out b (hZne b hb).1 (hZne b hb).2⟩ hSV HAT.out hz))).mono ?_
  clear hSV
  rintro e w9 ⟨hb9, ⟨hnf, a9, c9, rfl, hs9⟩ | ⟨hfl, rfl⟩⟩
  ·have hz9 := hb9.size
   have k9a : ∀ b, b < W.heap.size → b ≠ w.heap.size + 9 → w9.heap[b]? = W.heap[b]? := fun b hb hne => (hb9.block b (by omega)).trans (HKV.out b hb hne)
   have e0 : putT (outC c.2) c.1.1 t = outA t c := rfl
   rw [e0] at hs9 ⊢
   have HS9 := hide hs9
   have HNF9 := hide hnf
   have HB9 := hide hb9
   have HK9 := hide k9a
   have hmo : Tryz.prog.follows .mixedOrders = true := by kernel_rfl
   have hBA : Blk w9 (w.heap.size + 3) #[v] 25 := (k9a _ HA.out.lt (by omega)).trans HA.out
   have HBA := hide hBA
   have hAl := hBA.lt
   have hn1 : l.length ≤ 1000000 := by rw [HLL.out, List.length_map]; exact hlen
   have hxl : xs.length = l.length * 2 := HRW.out.len
   have hltv := HO.out.lt
   have hOV : (w9.alloc (.cells #[.string (outA t c).name, .slice a9 (outA t c).args.length c9] 27)).drew.ownsRow W5.heap.size 27 2 v l.length xs := ownsRow_at HO.out fun g hg => by
    have h1 := hltv g hg
    exact (Below.heap_alloc _ _ _ (by omega)).trans (k9a g h1.2 (by omega))
   clear hs9 hnf hb9 k9a hBA e0
   gi_wp2
   have XB8 := hide ((Blk.new w9 #[.string (outA t c).name, .slice a9 (outA t c).args.length c9] 27))
   have A8 := hide (HBA.out.alloc (.cells #[.string (outA t c).name, .slice a9 (outA t c).args.length c9] 27))
   have hz8 : (w9.alloc (.cells #[.string (outA t c).name, .slice a9 (outA t c).args.length c9] 27)).heap.size = w9.heap.size + 1 := by simp
   have HW8 : Hid (∀ b, b < w9.heap.size → (w9.alloc (.cells #[.string (outA t c).name, .slice a9 (outA t c).args.length c9] 27)).heap[b]? = w9.heap[b]?) := fun b hb => Below.heap_alloc _ _ _ hb
   have HOS8 : Hid ((w9.alloc (.cells #[.string (outA t c).name, .slice a9 (outA t c).args.length c9] 27)).os = w9.os ∧ (w9.alloc (.cells #[.string (outA t c).name, .slice a9 (outA t c).args.length c9] 27)).tape = w9.tape ∧ (w9.alloc (.cells #[.string (outA t c).name, .slice a9 (outA t c).args.length c9] 27)).output = w9.output) := ⟨rfl, rfl, rfl⟩
   have HOV := hide hOV
   clear hOV
   generalize (w9.alloc (.cells #[.string (outA t c).name, .slice a9 (outA t c).args.length c9] 27)) = V8 at *
   obtain ⟨i0, hi, hz0, hz1, hz2⟩ := info_parts Tryz.infoTerm
   obtain ⟨g, cap, w3, hrun, hown, hgrow, hgat, hglt⟩ := run_append_lies (P := Tryz.prog) (w := (V8.alloc (.cells #[.string ⟨#[]⟩, .slice none 0 0] 27)).drew) 25 25 W5.heap.size 27 i0 _ 2 40 Tryz.underlying25 hi hz0 hz1 hz2 rfl (by decide) v l.length xs (ownsRow_at HOV.out fun g hg => Below.heap_alloc _ _ _ (HOV.out.lt g hg).2)
    ⟨V8.heap.size, 0, none⟩ 1 1 [.string ⟨#[]⟩, .slice none 0 0] rfl (cell_term_new V8 _ _ _) (fun y hy => by simp at hy; rcases hy with rfl | rfl <;> rfl) (by decide) (by unfold maxLen; omega) (by omega) (by simp; omega) _ rfl
   have HRUN := hide hrun
   obtain ⟨q1, q2, q3, hlast⟩ := row_last (u1 := .string (outA t c).name) (u2 := .slice a9 (outA t c).args.length c9) hown hxl
   have hgN : W5.heap.size ≤ g := by
    rcases hgat with e | e
    ·exact (HO.out.lt g e).1
    ·simp at e; omega
   have hgv : ∀ b, b < V8.heap.size + 1 → v.ownBlock ≠ some b → w3.heap[b]? = (V8.alloc (.cells #[.string ⟨#[]⟩, .slice none 0 0] 27)).drew.heap[b]? := fun b hb hne => hgrow.block b (by simp; omega) (fun e => hne e.symm)
   have hz3 : V8.heap.size + 1 ≤ w3.heap.size := by have := hgrow.size; simp at this; omega
   have hnv : ∀ b, b < W5.heap.size → v.ownBlock ≠ some b := fun b hb e => by have := (hltv b e).1; omega
   have hA3 : Blk w3 (w.heap.size + 3) #[v] 25 := (hgv _ (by omega) (hnv _ (by omega))).trans ((A8.out.alloc _).drewN 1)
   have hX3 : Blk w3 w9.heap.size #[.string (outA t c).name, .slice a9 (outA t c).args.length c9] 27 := (hgv _ (by omega) (fun e => by have := (hltv _ e).2; omega)).trans ((XB8.out.alloc _).drewN 1)
   obtain ⟨va, vc, hv⟩ := own_form HO.out
   have hAg : w.heap.size + 3 ≠ g := by omega
   have hXg : w9.heap.size ≠ g := by
    rcases hgat with e | e
    ·have := (hltv _ e).2; omega
    ·simp at e; omega
   have a0 : V8.drew.cell? ⟨w.heap.size + 1 + 1 + 1, 0, none⟩ = some (.slice va l.length vc) := by rw [← hv]; exact (A8.out.drewN 1).cell 0
   have a1 : (V8.alloc (.cells #[.string ⟨#[]⟩, .slice none 0 0] 27)).drew.cell? ⟨w.heap.size + 1 + 1 + 1, 0, none⟩ = some (.slice va l.length vc) := by rw [← hv]; exact ((A8.out.alloc _).drewN 1).cell 0
   have a2 : (V8.alloc (.cells #[.string ⟨#[]⟩, .slice none 0 0] 27)).cell? ⟨w.heap.size + 1 + 1 + 1, 0, none⟩ = some (.slice va l.length vc) := by rw [← hv]; exact (A8.out.alloc _).cell 0
   have a4 : V8.cell? ⟨w.heap.size + 1 + 1 + 1, 0, none⟩ = some (.slice va l.length vc) := by rw [← hv]; exact A8.out.cell 0
   have a3 := hA3.c0
   have af : w3.frozen? ⟨w.heap.size + 1 + 1 + 1, 0, none⟩ = false := hA3.frozen 0
   have XD := hide (XB8.out.drewN 1)
   have XZ := hide ((XB8.out.alloc (.cells #[.string ⟨#[]⟩, .slice none 0 0] 27)).drewN 1)
   have X3 := hide hX3
   have HRUN2 : Hid ((Builtin.append_ #[25, 25] 25 #[.slice va l.length vc, .slice (some ⟨w9.heap.size + 1, 0, none⟩) 1 1]).run Tryz.prog (V8.alloc (.cells #[.string ⟨#[]⟩, .slice none 0 0] 27)).drew = .ok (.slice (some ⟨g, 0, none⟩) (l.length + 1) cap) w3) := by unfold Hid; rw [← hv, ← hz8]; exact HRUN.out
   have HGO : Hid (w3.os = V8.os ∧ w3.tape = V8.tape ∧ w3.output = V8.output) := ⟨hgrow.os, hgrow.tape, hgrow.output⟩
   have hl5 : (l.length : Int) < (l.length : Int) + 1 := by omega
   have X36 := hide ((X3.out.setOther (l.length * 2) (.string (outA t c).name) hXg).setOther (l.length * 2 + 1) (.slice a9 (outA t c).args.length c9) hXg)
   have hXA : w9.heap.size ≠ w.heap.size + 1 + 1 + 1 := by omega
   have X367 := hide (X36.out.setOther 0 (.slice (some ⟨g, 0, none⟩) (l.length + 1) cap) hXA)
   have X37 := hide (X3.out.setOther 0 (.slice (some ⟨g, 0, none⟩) (l.length + 1) cap) hXA)
   have X376 := hide ((X37.out.setOther (l.length * 2) (.string (outA t c).name) hXg).setOther (l.length * 2 + 1) (.slice a9 (outA t c).args.length c9) hXg)
   have HFIN : Hid (∀ wF, FwW w3 (w.heap.size + 3) g l.length cap 25 (.string (outA t c).name) (.slice a9 (outA t c).args.length c9) wF → wF.heap[w.heap.size + 9]? = some (.loop rb) ∧ ∃ f', JA t X K (w.heap.size + 3) (w.heap.size + 1) (w.heap.size + 2) (w.heap.size + 9) r rd W5 (pre ++ [c]) true f' (wF.putObj (w.heap.size + 9) (.loop r)) ∧ ExQ f W (wF.putObj (w.heap.size + 9) (.loop r)) ∧ ∀ b, f' b → f b ∨ W.heap.size ≤ b) := fun wF hF => by
    have hbg : ∀ b, b < V8.heap.size + 1 → v.ownBlock ≠ some b → b ≠ g := fun b hb hne e => by
     rcases hgat with h | h
     ·rw [e] at hne; exact hne h
     ·simp at h; omega
    have kF9 : ∀ b, b < w9.heap.size → b ≠ w.heap.size + 3 → v.ownBlock ≠ some b → wF.heap[b]? = w9.heap[b]? := fun b hb h3 hne => (hF.other b (hbg b (by omega) hne) h3).trans ((hgv b (by omega) hne).trans ((Below.heap_alloc V8 _ b (by omega)).trans (HW8.out b hb)))
    have kF : ∀ b, b < W.heap.size → b ≠ w.heap.size + 9 → b ≠ w.heap.size + 3 → v.ownBlock ≠ some b → wF.heap[b]? = W.heap[b]? := fun b hb h9 h3 hne => (kF9 b (by omega) h3 hne).trans (HK9.out b hb h9)
    have hzF : wF.heap.size = w3.heap.size := hF.size
    have hLv : v.ownBlock ≠ some (w.heap.size + 9) := hnv _ (by omega)
    have po : ∀ b, b ≠ w.heap.size + 9 → (wF.putObj (w.heap.size + 9) (.loop r)).heap[b]? = wF.heap[b]? := fun b hb => World.putObj_heap_other hb
    have hKK : ∀ b, K b → b < W.heap.size ∧ b ≠ w.heap.size + 9 ∧ b ≠ w.heap.size + 3 ∧ v.ownBlock ≠ some b := fun b hb => by
     have := HKl.out b hb
     exact ⟨by omega, by omega, by omega, hnv b (by omega)⟩
    refine ⟨(kF9 _ (by omega) (by omega) hLv).trans ((HB9.out.block _ (by omega)).trans HLV.out), fun b => b = w.heap.size + 9 ∨ b = w.heap.size + 3 ∨ b = w.heap.size + 1 ∨ b = w.heap.size + 2 ∨ (Value.slice (some ⟨g, 0, none⟩) (l.length + 1) cap).ownBlock = some b ∨ ((E b ∨ W.heap.size ≤ b) ∧ b < wF.heap.size ∧ b ≠ g), ⟨fun b hb => ⟨(HK1.out b hb).1, fun h => ?_⟩, by simp; omega, fun b hb => ?_, World.putObj_heap_same (by omega), (po _ (by omega)).trans ((kF _ H4W.out.lt (by omega) (by omega) (hnv _ (by omega))).trans H4W.out), (po _ (by omega)).trans ((kF _ H5W.out.lt (by omega) (by omega) (hnv _ (by omega))).trans H5W.out), ⟨.slice (some ⟨g, 0, none⟩) (l.length + 1) cap, l ++ [outA t c], xs ++ [.string (outA t c).name, .slice a9 (outA t c).args.length c9], fun b => (E b ∨ W.heap.size ≤ b) ∧ b < wF.heap.size ∧ b ≠ g, fun b => Iff.rfl, fun b hb => ⟨?_, by simpa using hb.2.1, fun e => hb.2.2 (by simpa [Value.ownBlock] using e.symm)⟩, (po _ (by omega)).trans hF.box, ?_, ?_, fun _ => by rw [HLL.out]; simp⟩, fun _ c' hc' => ?_, fun h => by cases h⟩, ⟨?_, ?_, ?_, by simp; omega, fun b hb hn => ?_⟩, fun b hb => ?_⟩
    ·have h1 := HKl.out b hb
     rcases h with h | h | h | h | h | h
     ·omega
     ·omega
     ·omega
     ·omega
     ·simp [Value.ownBlock] at h; omega
     ·rcases h.1 with h | h
      ·have := (HE.out b h).1; omega
      ·omega
    ·have h1 := hKK b hb
     exact (po b h1.2.1).trans ((kF b h1.1 h1.2.1 h1.2.2.1 h1.2.2.2).trans (HC.out b hb))
    ·rcases hb.1 with h | h
     ·exact (HE.out b h).1
     ·omega
    ·have h1 := hlast (wF.putObj (w.heap.size + 9) (.loop r)) ((po g (by omega)).trans hF.row)
     rw [List.length_append, List.length_singleton]
     exact h1
    ·refine RowT.append (HRW.out.imp fun a' k' hs' => ?_) ⟨a9, c9, [], rfl, ?_, rfl⟩
     ·refine ((hs'.mono (Y := fun b => (X b ∨ E b) ∧ b < W.heap.size) fun b h1 h2 => ⟨h1, h2⟩).kept (w' := wF.putObj (w.heap.size + 9) (.loop r)) fun b hb => ?_).mono fun b hb _ => ?_
      ·rcases hb.1 with h | h
       ·have h1 := hKK b (HKX.out b h)
        exact (po b h1.2.1).trans (kF b h1.1 h1.2.1 h1.2.2.1 h1.2.2.2)
       ·have h1 := HE.out b h
        exact (po b (by omega)).trans (kF b hb.2 (by omega) (by omega) h1.2.2)
      ·rcases hb.1 with h | h
       ·exact Or.inl h
       ·have h1 := HE.out b h
        exact Or.inr ⟨Or.inl h, by omega, hbg b (by omega) h1.2.2⟩
     ·refine ((HS9.out.mono (Y := fun b => ((X b ∧ b < V.heap.size) ∨ V.heap.size ≤ b) ∧ b < w9.heap.size) fun b h1 h2 => ⟨h1, h2⟩).kept (w' := wF.putObj (w.heap.size + 9) (.loop r)) fun b hb => ?_).mono fun b hb _ => ?_
      ·rcases hb.1 with h | h
       ·have h1 := hKK b (HKX.out b h.1)
        exact (po b h1.2.1).trans (kF9 b hb.2 h1.2.2.1 h1.2.2.2)
       ·exact (po b (by omega)).trans (kF9 b hb.2 (by omega) (fun e => by have := (hltv b e).2; omega))
      ·rcases hb.1 with h | h
       ·exact Or.inl h.1
       ·exact Or.inr ⟨Or.inr (by omega), by omega, hbg b (by omega) (fun e => by have := (hltv b e).2; omega)⟩
    ·rcases List.mem_append.1 hc' with h | h
     ·exact HNF.out c' h
     ·simp at h; subst h; exact HNF9.out
    ·exact hF.os.trans (HGO.out.1.trans (HOS8.out.1.trans (HB9.out.os.trans HOSV.out.1)))
    ·exact hF.tape.trans (HGO.out.2.1.trans (HOS8.out.2.1.trans (HB9.out.tape.trans HOSV.out.2.1)))
    ·exact hF.output.trans (HGO.out.2.2.trans (HOS8.out.2.2.trans (HB9.out.output.trans HOSV.out.2.2)))
    ·have h9 : b ≠ w.heap.size + 9 := fun h => hn ((HF.out b).2 (Or.inl h))
     have h3 : b ≠ w.heap.size + 3 := fun h => hn ((HF.out b).2 (Or.inr (Or.inl h)))
     exact (po b h9).trans (kF b hb h9 h3 (fun h => hn ((HF.out b).2 (Or.inr (Or.inr (Or.inr (Or.inr (Or.inl h))))))))
    ·rcases hb with h | h | h | h | h | h
     ·exact Or.inl ((HF.out b).2 (Or.inl h))
     ·exact Or.inl ((HF.out b).2 (Or.inr (Or.inl h)))
     ·exact Or.inl ((HF.out b).2 (Or.inr (Or.inr (Or.inl h))))
     ·exact Or.inl ((HF.out b).2 (Or.inr (Or.inr (Or.inr (Or.inl h)))))
     ·have e : g = b := by simpa [Value.ownBlock] using h
      subst e
      rcases hgat with h1 | h1
      ·exact Or.inl ((HF.out g).2 (Or.inr (Or.inr (Or.inr (Or.inr (Or.inl h1))))))
      ·right; simp at h1; omega
     ·rcases h.1 with h1 | h1
      ·exact Or.inl ((HF.out b).2 (Or.inr (Or.inr (Or.inr (Or.inr (Or.inr h1))))))
      ·exact Or.inr h1
   have HA3 := hide hA3
   clear hA3 hX3 hrun hown hlast hgrow
   refine region_round (S := fun w' => Blk w' w9.heap.size #[.string (outA t c).name, .slice a9 (outA t c).args.length c9] 27) hmo ?_ XD.out (fun hHeld => ?_)
   ·intro i o ho c' hc'
    match i, ho with
    | 0, ho => simp at ho; subst ho; cases hc'
    | 1, ho => simp at ho; subst ho; cases hc'
    | 2, ho => simp at ho; subst ho; cases hc'
    | 3, ho => simp at ho; subst ho; cases hc'
    | 4, ho => simp at ho; subst ho; cases hc'
    | 5, ho => simp at ho; subst ho; cases hc'
    | 6, ho => simp at ho; subst ho; cases hc'
    | 7, ho => simp at ho; subst ho; cases hc'
    | i + 8, ho => simp at ho
   refine tkq (v := ?_) 1 rfl ?_ ?_
   rotate_left
   ·intro w' hSw
    have c0 : w'.cell? ⟨w9.heap.size, 0, none⟩ = some (.string (outA t c).name) := Blk.cell hSw 0
    have c1 : w'.cell? ⟨w9.heap.size, 1, none⟩ = some (.slice a9 (outA t c).args.length c9) := Blk.cell hSw 1
    go_simp <;> with_reducible rfl
   try simp only [Act.put, sq]
   refine wpAnyH_ready (rs := [0, 3]) (by kernel_rfl) (by simp) ?_
   refine AllReadyH.cons rfl (fun K hK => ?_) (AllReadyH.cons rfl (fun K hK => ?_) AllReadyH.nil)
   ·go_simp
    refine hK.out _ _ (by exact XD.out) (fun hHeld => ?_)
    clear hK K
    try simp only [Act.put, sq]
    refine tkq (v := ?_) 2 rfl ?_ ?_
    rotate_left
    ·intro w' hSw
     go_simp <;> with_reducible rfl
    try simp only [Act.put, sq]
    refine rdq 3 rfl fun K hK => ?_
    go_simp
    refine hK.out _ _ (by exact XZ.out) (fun hHeld => ?_)
    clear hK K
    try simp only [Act.put, sq]
    refine rdq 4 rfl fun K hK => ?_
    refine step_append_eq rfl _ _ _ _ rfl rfl rfl HRUN2.out ?_
    refine hK.out _ _ (by exact X3.out) (fun hHeld => ?_)
    clear hK K
    try simp only [Act.put, sq]
    refine tkq (v := ?_) 5 rfl ?_ ?_
    rotate_left
    ·intro w' hSw
     go_simp <;> with_reducible rfl
    try simp only [Act.put, sq]
    refine wpAnyH_ready (rs := [6, 7]) (by kernel_rfl) (by simp) ?_
    refine AllReadyH.cons rfl (fun K hK => ?_) (AllReadyH.cons rfl (fun K hK => ?_) AllReadyH.nil)
    ·go_simp
     refine hK.out _ _ (by exact X36.out) (fun hHeld => ?_)
     clear hK K
     try simp only [Act.put, sq]
     refine rdq 7 rfl fun K hK => ?_
     go_simp
     refine hK.out _ _ (by exact X367.out) (fun hHeld => ?_)
     clear hK K
     try simp only [Act.put, sq]
     refine wpAnyH_done (by kernel_rfl) ?_ _
     refine ⟨by simp, ?_⟩
     refine HFIN.out _ ?_
     exact fw_a hAg HA3.out
    ·go_simp
     refine hK.out _ _ (by exact X37.out) (fun hHeld => ?_)
     clear hK K
     try simp only [Act.put, sq]
     refine rdq 6 rfl fun K hK => ?_
     go_simp
     refine hK.out _ _ (by exact X376.out) (fun hHeld => ?_)
     clear hK K
     try simp only [Act.put, sq]
     refine wpAnyH_done (by kernel_rfl) ?_ _
     refine ⟨by simp, ?_⟩
     refine HFIN.out _ ?_
     exact fw_b hAg HA3.out
   ·go_simp
    refine hK.out _ _ (by exact XZ.out) (fun hHeld => ?_)
    clear hK K
    try simp only [Act.put, sq]
    refine rdq 0 rfl fun K hK => ?_
    go_simp
    refine hK.out _ _ (by exact XZ.out) (fun hHeld => ?_)
    clear hK K
    try simp only [Act.put, sq]
    refine tkq (v := ?_) 2 rfl ?_ ?_
    rotate_left
    ·intro w' hSw
     go_simp <;> with_reducible rfl
    try simp only [Act.put, sq]
    refine rdq 4 rfl fun K hK => ?_
    refine step_append_eq rfl _ _ _ _ rfl rfl rfl HRUN2.out ?_
    refine hK.out _ _ (by exact X3.out) (fun hHeld => ?_)
    clear hK K
    try simp only [Act.put, sq]
    refine tkq (v := ?_) 5 rfl ?_ ?_
    rotate_left
    ·intro w' hSw
     go_simp <;> with_reducible rfl
    try simp only [Act.put, sq]
    refine wpAnyH_ready (rs := [6, 7]) (by kernel_rfl) (by simp) ?_
    refine AllReadyH.cons rfl (fun K hK => ?_) (AllReadyH.cons rfl (fun K hK => ?_) AllReadyH.nil)
    ·go_simp
     refine hK.out _ _ (by exact X36.out) (fun hHeld => ?_)
     clear hK K
     try simp only [Act.put, sq]
     refine rdq 7 rfl fun K hK => ?_
     go_simp
     refine hK.out _ _ (by exact X367.out) (fun hHeld => ?_)
     clear hK K
     try simp only [Act.put, sq]
     refine wpAnyH_done (by kernel_rfl) ?_ _
     refine ⟨by simp, ?_⟩
     refine HFIN.out _ ?_
     exact fw_a hAg HA3.out
    ·go_simp
     refine hK.out _ _ (by exact X37.out) (fun hHeld => ?_)
     clear hK K
     try simp only [Act.put, sq]
     refine rdq 6 rfl fun K hK => ?_
     go_simp
     refine hK.out _ _ (by exact X376.out) (fun hHeld => ?_)
     clear hK K
     try simp only [Act.put, sq]
     refine wpAnyH_done (by kernel_rfl) ?_ _
     refine ⟨by simp, ?_⟩
     refine HFIN.out _ ?_
     exact fw_b hAg HA3.out
  ·have hz9 := hb9.size
   have k9 : ∀ b, b < W.heap.size → b ≠ w.heap.size + 9 → w9.heap[b]? = W.heap[b]? := fun b hb hne => (hb9.block b (by omega)).trans (HKV.out b hb hne)
   have B4 : Blk w9 (w.heap.size + 1) #[.slice none 0 0] 25 := (k9 _ H4W.out.lt (by omega)).trans H4W.out
   have B5 : Blk w9 (w.heap.size + 1 + 1) #[.int .i64 0] 36 := (k9 _ H5W.out.lt (by omega)).trans H5W.out
   have b4 := B4.c0
   have b5 := B5.c0
   have f4 : w9.frozen? ⟨w.heap.size + 1, 0, none⟩ = false := B4.frozen 0
   have f5 : w9.frozen? ⟨w.heap.size + 1 + 1, 0, none⟩ = false := B5.frozen 0
   have hl4 := B4.lt
   have hl5 := B5.lt
   gi_wp2
   have po : ∀ b, b ≠ w.heap.size + 9 → b ≠ w.heap.size + 1 → b ≠ w.heap.size + 2 → b < W.heap.size → ((((w9.setCell ⟨w.heap.size + 1, 0, none⟩ (.slice none 0 0)).setCell ⟨w.heap.size + 1 + 1, 0, none⟩ (.int .i64 8)).alloc (.cells #[.string ⟨#[]⟩, .slice none 0 0] 27)).putObj (w.heap.size + 9) (.loop rd)).heap[b]? = W.heap[b]? := fun b h9 h1 h2 hb => by
    rw [World.putObj_heap_other h9, Below.heap_alloc _ _ _ (by simp [World.setCell]; omega), Below.heap_setCell _ _ _ _ (by simpa using h2), Below.heap_setCell _ _ _ _ (by simpa using h1), k9 b hb h9]
   have hltv := HO.out.lt
   refine ⟨?_, f, ⟨HK1.out, by simp [World.setCell]; omega, fun b hb => ?_, World.putObj_heap_same (by simp [World.setCell]; omega), ?_, ?_, ⟨v, l, xs, E, HF.out, fun b hb => ⟨(HE.out b hb).1, by have := (HE.out b hb).2.1; simp [World.setCell]; omega, (HE.out b hb).2.2⟩, ?_, ownsRow_at HO.out fun g hg => ?_, HRW.out.imp fun a' k' hs' => ?_, fun h => by cases h⟩, (fun h => by cases h), fun _ => ⟨c, by simp, hfl⟩⟩, ⟨?_, ?_, ?_, by simp [World.setCell]; omega, fun b hb hn => ?_⟩, fun b hb => Or.inl hb⟩
   ·rw [Below.heap_alloc _ _ _ (by simp [World.setCell]; omega), Below.heap_setCell _ _ _ _ (by simp), Below.heap_setCell _ _ _ _ (by simp), hb9.block _ (by omega)]
    exact HLV.out
   ·have h1 := HKl.out b hb
    exact (po b (by omega) (by omega) (by omega) (by omega)).trans (HC.out b hb)
   ·exact (World.putObj_heap_other (by omega)).trans ((Blk.setOther (Blk.set1R B4) _ _ (by omega)).alloc _)
   ·exact (World.putObj_heap_other (by omega)).trans ((Blk.set1R (B5.setOther _ _ (by omega))).alloc _)
   ·exact (po _ (by omega) (by omega) (by omega) HA.out.lt).trans HA.out
   ·have h1 := hltv g hg
    exact po g (by omega) (by omega) (by omega) h1.2
   ·refine ((hs'.mono (Y := fun b => (X b ∨ E b) ∧ b < W.heap.size) fun b h1 h2 => ⟨h1, h2⟩).kept fun b hb => ?_).mono fun b hb _ => hb.1
    rcases hb.1 with h | h
    ·have h1 := HKl.out b (HKX.out b h)
     exact po b (by omega) (by omega) (by omega) hb.2
    ·have h1 := HE.out b h
     exact po b (by omega) (by omega) (by omega) hb.2
   ·exact hb9.os.trans HOSV.out.1
   ·exact hb9.tape.trans HOSV.out.2.1
   ·exact hb9.output.trans HOSV.out.2.2
   ·exact po b (fun h => hn ((HF.out b).2 (Or.inl h))) (fun h => hn ((HF.out b).2 (Or.inr (Or.inr (Or.inl h))))) (fun h => hn ((HF.out b).2 (Or.inr (Or.inr (Or.inr (Or.inl h)))))) hb
 have hst : JA t X K (w.heap.size + 3) (w.heap.size + 1) (w.heap.size + 2) (w.heap.size + 9) r rd W5 [] true (fun b => b = w.heap.size + 9 ∨ b = w.heap.size + 3 ∨ b = w.heap.size + 1 ∨ b = w.heap.size + 2 ∨ (Value.slice none 0 0).ownBlock = some b ∨ False) W5 := by
  refine ⟨fun b hb => ⟨by have := HKl.out b hb; omega, fun h => ?_⟩, Nat.le_refl _, fun b _ => rfl, H9.out, H1.out, H2.out, ⟨.slice none 0 0, [], [], fun _ => False, fun b => Iff.rfl, fun b hb => hb.elim, H3.out, World.ownsRow_nil _ _ _ _, rfl, fun _ => rfl⟩, fun _ c hc => by simp at hc, fun h => by cases h⟩
  have := HKl.out b hb
  rcases h with h | h | h | h | h | h
  ·omega
  ·omega
  ·omega
  ·omega
  ·simp [Value.ownBlock] at h
  ·exact h
 have hHX : ∀ b, X b → b < w.heap.size := HX.out
 refine (chances1I_any hok (w.heap.size + 9) RH rs t [] (w.heap.size + 7) (w.heap.size + 6) (w.heap.size + 4) (w.heap.size + 5) (.slice ua rs.length uc) aa ca (.slice none 0 0) [] _ W5 X H7.out H6.out (HU.out.later HB5.out) H4.out (HS.out.later HB5.out) H5.out ⟨none, 0, rfl, by simp, Or.inl rfl⟩ rfl (fun b hb => ⟨by have := hHX b hb; omega, fun h => by
  have := hHX b hb
  rcases h with h | h | h | h | h | h
  ·omega
  ·omega
  ·omega
  ·omega
  ·simp [Value.ownBlock] at h
  ·exact h⟩) (fun h => by
  rcases h with h | h | h | h | h | h
  ·omega
  ·omega
  ·omega
  ·omega
  ·simp [Value.ownBlock] at h
  ·exact h) hst (by omega) (by simp)).mono ?_
 rintro e Wf ⟨hret, s, hw⟩
 obtain ⟨m, f', hm, hms, hj, he, hff⟩ := hw
 rw [List.nil_append] at hj
 obtain ⟨hK9, hz9, hC9, hL9, h49, h59, ⟨v, l, xs, E, hf9, hE9, hA9, ho9, hr9, hl9⟩, hnf9, hfl9⟩ := hj
 have hlt9 := ho9.lt
 have HD9 : Hid (Wf.heap[w.heap.size + 8]? = some (.deferred (some []))) := (he.block _ (by omega) (fun h => by
  rcases h with (h | h | h | h | h | h) | h
  ·omega
  ·omega
  ·omega
  ·omega
  ·simp [Value.ownBlock] at h
  ·exact h
  ·exact h)).trans H8.out
 have HBF : Hid (∀ b, b < w.heap.size → Wf.heap[b]? = w.heap[b]?) := fun b hb => (he.block b (by omega) (fun h => by
  rcases h with (h | h | h | h | h | h) | h
  ·omega
  ·omega
  ·omega
  ·omega
  ·simp [Value.ownBlock] at h
  ·exact h
  ·exact h)).trans (HB5.out.block b hb)
 have HOSF : Hid (Wf.os = w.os ∧ Wf.tape = w.tape ∧ Wf.output = w.output) := ⟨he.os.trans HB5.out.os, he.tape.trans HB5.out.tape, he.output.trans HB5.out.output⟩
 have HRET := hide hret
 have HL9 := hide hL9
 have HHX := hide hHX
 clear he hff hst RH hok hret
 refine ⟨HRET.out, ?_⟩
 cases s with
 | true =>
  left
  refine ⟨HL9.out, ?_⟩
  have em := hms rfl
  subst em
  rw [List.take_length] at hl9 hnf9
  have HLL := hide (hl9 rfl)
  have HNF := hide (hnf9 rfl)
  clear hl9 hnf9 hfl9 hms hm hr1 hr2 hr3 hr4 hr5 hr6
  obtain ⟨va, vc, rfl⟩ := own_form ho9
  have q4 : ∀ o, (Wf.putObj (w.heap.size + 9) o).cell? ⟨w.heap.size + 1, 0, none⟩ = some (.slice none 0 0) := fun o => (World.cell?_of_block (World.putObj_heap_other (by simp))).trans (h49.cell 0)
  have q5 : ∀ o, (Wf.putObj (w.heap.size + 9) o).cell? ⟨w.heap.size + 1 + 1, 0, none⟩ = some (.int .i64 0) := fun o => (World.cell?_of_block (World.putObj_heap_other (by simp))).trans (h59.cell 0)
  have qa : ∀ o, (Wf.putObj (w.heap.size + 9) o).cell? ⟨w.heap.size + 1 + 1 + 1, 0, none⟩ = some (.slice va l.length vc) := fun o => (World.cell?_of_block (World.putObj_heap_other (by simp))).trans (hA9.cell 0)
  have g4 : ∀ o, (Wf.putObj (w.heap.size + 9) o).frozen? ⟨w.heap.size + 1, 0, none⟩ = false := fun o => Blk.frozen (show Blk (Wf.putObj (w.heap.size + 9) o) (w.heap.size + 1) _ _ from (World.putObj_heap_other (by simp)).trans h49) 0
  have g5 : ∀ o, (Wf.putObj (w.heap.size + 9) o).frozen? ⟨w.heap.size + 1 + 1, 0, none⟩ = false := fun o => Blk.frozen (show Blk (Wf.putObj (w.heap.size + 9) o) (w.heap.size + 1 + 1) _ _ from (World.putObj_heap_other (by simp)).trans h59) 0
  have pf : ∀ (o o1 : Obj) b, b ≠ w.heap.size + 9 → b ≠ w.heap.size + 8 → b ≠ w.heap.size + 1 → b ≠ w.heap.size + 2 → ((((Wf.putObj (w.heap.size + 9) o).setCell ⟨w.heap.size + 1, 0, none⟩ (.slice va l.length vc)).setCell ⟨w.heap.size + 1 + 1, 0, none⟩ (.int .i64 0)).putObj (w.heap.size + 8) o1).heap[b]? = Wf.heap[b]? := fun o o1 b h9 h8 h1 h2 => by
   rw [World.putObj_heap_other h8, Below.heap_setCell _ _ _ _ (by simpa using h2), Below.heap_setCell _ _ _ _ (by simpa using h1), World.putObj_heap_other h9]
  have HDD : Hid (∀ o, (((Wf.putObj (w.heap.size + 9) o).setCell ⟨w.heap.size + 1, 0, none⟩ (.slice va l.length vc)).setCell ⟨w.heap.size + 1 + 1, 0, none⟩ (.int .i64 0)).heap[w.heap.size + 8]? = some (.deferred (some []))) := fun o => by
   rw [Below.heap_setCell _ _ _ _ (by simp), Below.heap_setCell _ _ _ _ (by simp), World.putObj_heap_other (by omega)]
   exact HD9.out
  have r4 : ∀ (o o1 : Obj), ((((Wf.putObj (w.heap.size + 9) o).setCell ⟨w.heap.size + 1, 0, none⟩ (.slice va l.length vc)).setCell ⟨w.heap.size + 1 + 1, 0, none⟩ (.int .i64 0)).putObj (w.heap.size + 8) o1).cell? ⟨w.heap.size + 1, 0, none⟩ = some (.slice va l.length vc) := fun o o1 => by
   have h : Blk ((((Wf.putObj (w.heap.size + 9) o).setCell ⟨w.heap.size + 1, 0, none⟩ (.slice va l.length vc)).setCell ⟨w.heap.size + 1 + 1, 0, none⟩ (.int .i64 0)).putObj (w.heap.size + 8) o1) (w.heap.size + 1) #[.slice va l.length vc] 25 := (World.putObj_heap_other (by omega)).trans ((Blk.set1R ((World.putObj_heap_other (by omega)).trans h49)).setOther _ _ (by omega))
   exact h.cell 0
  have r5 : ∀ (o o1 : Obj), ((((Wf.putObj (w.heap.size + 9) o).setCell ⟨w.heap.size + 1, 0, none⟩ (.slice va l.length vc)).setCell ⟨w.heap.size + 1 + 1, 0, none⟩ (.int .i64 0)).putObj (w.heap.size + 8) o1).cell? ⟨w.heap.size + 1 + 1, 0, none⟩ = some (.int .i64 0) := fun o o1 => by
   have h : Blk ((((Wf.putObj (w.heap.size + 9) o).setCell ⟨w.heap.size + 1, 0, none⟩ (.slice va l.length vc)).setCell ⟨w.heap.size + 1 + 1, 0, none⟩ (.int .i64 0)).putObj (w.heap.size + 8) o1) (w.heap.size + 1 + 1) #[.int .i64 0] 36 := (World.putObj_heap_other (by omega)).trans (Blk.set1R (Blk.setOther (show Blk (Wf.putObj (w.heap.size + 9) o) (w.heap.size + 1 + 1) #[.int .i64 0] 36 from (World.putObj_heap_other (by omega)).trans h59) _ _ (by omega)))
   exact h.cell 0
  have HFIN : Hid (∀ (o o1 : Obj), AllPost rs t X0 w (.returned (.tuple #[.slice va l.length vc, .int .i64 0])) ((((Wf.putObj (w.heap.size + 9) o).setCell ⟨w.heap.size + 1, 0, none⟩ (.slice va l.length vc)).setCell ⟨w.heap.size + 1 + 1, 0, none⟩ (.int .i64 0)).putObj (w.heap.size + 8) o1)) := fun o o1 => by
   refine ⟨⟨HOSF.out.1, HOSF.out.2.1, HOSF.out.2.2, by simp [World.setCell]; omega, fun b hb => (pf o o1 b (by omega) (by omega) (by omega) (by omega)).trans (HBF.out b hb)⟩, Or.inl ⟨HNF.out, _, xs, rfl, ?_, ?_⟩⟩
   ·rw [← HLL.out]
    exact owns_mono (ownsRow_at ho9 fun g hg => by have := hlt9 g hg; exact pf o o1 g (by omega) (by omega) (by omega) (by omega)) (by omega)
   ·rw [← HLL.out]
    refine hr9.imp fun a' k' hs' => (hs'.kept fun b hb => ?_).mono fun b hb _ => ?_
    ·rcases hb with h | h
     ·have := HHX.out b h; exact pf o o1 b (by omega) (by omega) (by omega) (by omega)
     ·have := hE9 b h; exact pf o o1 b (by omega) (by omega) (by omega) (by omega)
    ·rcases hb with h | h
     ·exact Or.inl ⟨HXX.out b h, HHX.out b h⟩
     ·have h1 := hE9 b h
      exact Or.inr ⟨by omega, h1.2.2⟩
  gi_wp2
  refine ⟨by simp, .inl ⟨_, _, rfl, run_takeDeferred (HDD.out _), ?_⟩⟩
  exact ⟨.tuple #[.slice va l.length vc, .int .i64 0], by simp [results, Tryz.results44, go_sem, r4, r5], HFIN.out _ _⟩
 | false =>
  right
  refine ⟨by rw [← hrd]; exact HL9.out, ?_⟩
  have HFL := hide (hfl9 rfl)
  clear hl9 hnf9 hfl9 hms hm hr1 hr2 hr3 hr4 hr5 hr6
  simp only [Bool.false_eq_true, if_false] at h59
  have pf : ∀ (o o1 : Obj) b, b ≠ w.heap.size + 9 → b ≠ w.heap.size + 8 → ((Wf.putObj (w.heap.size + 9) o).putObj (w.heap.size + 8) o1).heap[b]? = Wf.heap[b]? := fun o o1 b h9 h8 => (World.putObj_heap_other h8).trans (World.putObj_heap_other h9)
  have HDD : Hid (∀ o, (Wf.putObj (w.heap.size + 9) o).heap[w.heap.size + 8]? = some (.deferred (some []))) := fun o => (World.putObj_heap_other (by omega)).trans HD9.out
  have r4 : ∀ (o o1 : Obj), ((Wf.putObj (w.heap.size + 9) o).putObj (w.heap.size + 8) o1).cell? ⟨w.heap.size + 1, 0, none⟩ = some (.slice none 0 0) := fun o o1 => (World.cell?_of_block (pf o o1 _ (by simp) (by simp))).trans (h49.cell 0)
  have r5 : ∀ (o o1 : Obj), ((Wf.putObj (w.heap.size + 9) o).putObj (w.heap.size + 8) o1).cell? ⟨w.heap.size + 1 + 1, 0, none⟩ = some (.int .i64 8) := fun o o1 => (World.cell?_of_block (pf o o1 _ (by simp) (by simp))).trans (h59.cell 0)
  have HFIN : Hid (∀ (o o1 : Obj), AllPost rs t X0 w (.returned (.tuple #[.slice none 0 0, .int .i64 8])) ((Wf.putObj (w.heap.size + 9) o).putObj (w.heap.size + 8) o1)) := fun o o1 => by
   refine ⟨⟨HOSF.out.1, HOSF.out.2.1, HOSF.out.2.2, by simp; omega, fun b hb => (pf o o1 b (by omega) (by omega)).trans (HBF.out b hb)⟩, Or.inr ⟨?_, rfl⟩⟩
   obtain ⟨c, hc, h⟩ := HFL.out
   exact ⟨c, List.mem_of_mem_take hc, h⟩
  gi_wp2
  refine ⟨by simp, .inl ⟨_, _, rfl, run_takeDeferred (HDD.out _), ?_⟩⟩
  exact ⟨.tuple #[.slice none 0 0, .int .i64 8], by simp [results, Tryz.results44, go_sem, r4, r5], HFIN.out _ _⟩
theorem errL_partsR {s : ByteArray} {a r : List Tm} (h : errL (⟨s, a⟩ :: r) = 0) : (varB s = true → a = []) ∧ errL a = 0 ∧ errL r = 0 := by
 rw [errL] at h
 split at h
 ·split at h
  ·cases h
  ·rename_i h1 h2
   split at h
   ·rename_i h3
    refine ⟨fun hv => ?_, h3, h⟩
    cases a with
    | nil => rfl
    | cons x y => simp [hv] at h2
   ·rename_i h3; exact absurd h h3
 ·cases h
def VarN (ls : List Bd) : Prop := ∀ d ∈ ls, varB d.nm = true
theorem forT_memR : ∀ {ls : List Bd} {s : ByteArray} {x : Tm}, forT ls s = some x → ∃ d ∈ ls, d.nm = s
 | [], s, x, h => by simp [forT] at h
 | d :: ls, s, x, h => by
  unfold forT at h
  split at h
  ·rename_i h1
   exact ⟨d, by simp, h1⟩
  ·obtain ⟨d', hd, e⟩ := forT_memR h
   exact ⟨d', by simp [hd], e⟩
theorem fN_onR {ls : List Bd} (h : VarN ls) (s : ByteArray) (a bs : List Tm) (hv : varB s = true → a = []) : fN ls s bs = onN ls s a bs := by
 unfold fN onN
 cases hs : varB s with
 | true => rw [hv hs]; cases forT ls s <;> rfl
 | false =>
  cases hf : forT ls s with
  | none => rfl
  | some x =>
   obtain ⟨d, hd, e⟩ := forT_memR hf
   have := h d hd
   rw [e, hs] at this
   cases this
theorem fL_onR {ls : List Bd} (h : VarN ls) : ∀ l : List Tm, errL l = 0 → fL ls l = onL ls l
 | [], _ => by simp [fL, onL]
 | ⟨s, a⟩ :: r, he => by
  obtain ⟨h1, h2, h3⟩ := errL_partsR he
  rw [fL, onL, fL_onR h a h2, fL_onR h r h3, fN_onR h s a _ h1]
theorem fT_onR {ls : List Bd} (h : VarN ls) (t : Tm) (ht : mayE t = 0) : fT ls t = onT ls t := by
 unfold mayE at ht
 split at ht
 ·cases ht
 ·obtain ⟨s, a⟩ := t
  obtain ⟨h1, h2, _⟩ := errL_partsR ht
  unfold fT onT
  rw [fL_onR h a h2, fN_onR h s a _ h1]
theorem mtT_varOne {p t : Tm} {h h' : List Bd} (ih : ∀ ts g g', mtL p.args ts g = some g' → VarN g → VarN g') (he : mtT p t h = some h') (hv : VarN h) : VarN h' := by
 unfold mtT at he
 obtain ⟨s, l⟩ := p
 simp only at he
 cases hs : varB s with
 | true =>
  simp only [hs, if_true] at he
  cases hf : forT h s with
  | none =>
   simp only [hf] at he
   cases he
   intro d hd
   rcases List.mem_append.1 hd with hd | hd
   ·exact hv d hd
   ·simp at hd; subst hd; exact hs
  | some x =>
   simp only [hf] at he
   split at he
   ·cases he; exact hv
   ·cases he
 | false =>
  simp only [hs] at he
  split at he
  ·rename_i h0; cases h0
  ·split at he
   ·exact ih _ _ _ he hv
   ·cases he
theorem mtL_var : ∀ (l ts : List Tm) (h h' : List Bd), mtL l ts h = some h' → VarN h → VarN h' := by
 intro l
 induction l using Tm.indL with
 | h0 =>
  intro ts h h' he hv
  cases ts with
  | nil => simp [mtL] at he; subst he; exact hv
  | cons t ts => first | (simp [mtL] at he; done) | (simp [mtL] at he; subst he; exact hv)
 | h s l r ihl ihr =>
  intro ts h h' he hv
  cases ts with
  | nil => first | (simp [mtL] at he; done) | (simp [mtL] at he; subst he; exact hv)
  | cons t ts =>
   rw [mtL_cons] at he
   cases h1 : mtT ⟨s, l⟩ t h with
   | none => simp only [h1] at he; cases he
   | some g =>
    simp only [h1] at he
    exact ihr _ _ _ he (mtT_varOne (p := ⟨s, l⟩) ihl h1 hv)
theorem mtT_var {p t : Tm} {h' : List Bd} (he : mtT p t [] = some h') : VarN h' := mtT_varOne (fun ts g g' h1 h2 => mtL_var p.args ts g g' h1 h2) he (by intro d hd; simp at hd)
theorem put_size (x : Tm) : ∀ (p : List Int) (t y : Tm), atT t p = some y → sizeL [putT x p t] + sizeL [y] = sizeL [t] + sizeL [x]
 | [], t, y, h => by simp [atT] at h; subst h; simp [putT, Nat.add_comm]
 | i :: r, t, y, h => by
  obtain ⟨k, hk, rfl, h2⟩ := atT_cons h
  have ih := put_size x r _ y h2
  obtain ⟨s, l⟩ := t
  have e1 := putL_set (putT x r) l 0 k hk
  rw [Nat.zero_add] at e1
  have e2 := size_set l k hk (putT x r l[k])
  have e3 : sizeL [putT x ((k : Int) :: r) ⟨s, l⟩] = 1 + sizeL (l.set k (putT x r l[k])) := by rw [putT, e1]; simp [sizeL]
  have e4 : sizeL [(⟨s, l⟩ : Tm)] = 1 + sizeL l := by simp [sizeL]
  rw [e3, e4]
  simp only at ih
  omega
theorem filterMap_sameR {α β : Type} {f g : α → Option β} : ∀ {l : List α}, (∀ x ∈ l, f x = g x) → l.filterMap f = l.filterMap g
 | [], _ => rfl
 | x :: l, h => by
  rw [List.filterMap_cons, List.filterMap_cons, h x (by simp), filterMap_sameR fun y hy => h y (by simp [hy])]
theorem outs_all {rs : List Pr} {t : Tm} (hr : rulesE rs = 0) : (chL rs t []).map (outA t) = stAll rs t := by
 have hm : ∀ p ∈ rs, mayE p.r = 0 := fun p hp => (ruleE_parts (rulesE_all hr p hp)).2.1
 have h1 : ∀ (p : List Int) (x : Tm), (chG rs (p, x)).map (outA t) = rs.filterMap fun r => (fitT r x).map fun y => putT y p t := by
  intro p x
  unfold chG fitsL
  rw [List.map_map, List.map_filterMap]
  refine filterMap_sameR fun r hrm => ?_
  unfold fitT
  cases hf : mtT r.l x [] with
  | none => rfl
  | some g =>
   simp only [Option.map_some, Function.comp]
   unfold outA outC
   simp only
   rw [fT_onR (mtT_var hf) r.r (hm r hrm)]
 unfold chL stAll
 rw [List.map_flatMap]
 exact plc_dnT (fun p x => (chG rs (p, x)).map (outA t)) t (stAt rs t) (fun p x hx => by rw [h1]; unfold stAt; rw [hx])
theorem full_size {t : Tm} {d : Dn} {y : Ft} (h : atT t d.1 = some d.2) : isFull t d y ↔ 2000 < sizeL [putT (outC y) d.1 t] := by
 have h1 := put_size (outC y) d.1 t d.2 h
 have h2 := size_at _ _ _ h
 unfold isFull
 omega
theorem fulls_all {rs : List Pr} {t : Tm} (hr : rulesE rs = 0) : ((∀ c ∈ chL rs t [], ¬ isFull t c.1 c.2) ↔ ∀ y ∈ stAll rs t, sizeL [y] ≤ 2000) ∧ ((∃ c ∈ chL rs t [], isFull t c.1 c.2) ↔ ∃ y ∈ stAll rs t, 2000 < sizeL [y]) := by
 rw [← outs_all hr]
 constructor
 ·constructor
  ·intro h y hy
   obtain ⟨c, hc, rfl⟩ := List.mem_map.1 hy
   have h1 := h c hc
   rw [full_size (chL_at hc)] at h1
   unfold outA
   omega
  ·intro h c hc
   rw [full_size (chL_at hc)]
   have := h _ (List.mem_map.2 ⟨c, hc, rfl⟩)
   unfold outA at this
   omega
 ·constructor
  ·rintro ⟨c, hc, h⟩
   exact ⟨_, List.mem_map.2 ⟨c, hc, rfl⟩, (full_size (chL_at hc)).1 h⟩
  ·rintro ⟨y, hy, h⟩
   obtain ⟨c, hc, rfl⟩ := List.mem_map.1 hy
   exact ⟨c, hc, (full_size (chL_at hc)).2 h⟩
def insB (d : Bd) : List Bd → List Bd
 | [] => [d]
 | e :: r => if ltB d.nm e.nm = true then d :: e :: r else e :: insB d r
def srtB : List Bd → List Bd
 | [] => []
 | d :: r => insB d (srtB r)
theorem insB_perm (d : Bd) : ∀ l, (insB d l).Perm (d :: l)
 | [] => List.Perm.refl _
 | e :: r => by
  rw [insB]
  split
  ·exact List.Perm.refl _
  ·exact ((insB_perm d r).cons e).trans (List.Perm.swap d e r)
theorem srtB_perm : ∀ l, (srtB l).Perm l
 | [] => List.Perm.refl _
 | d :: r => (insB_perm d _).trans ((srtB_perm r).cons d)
inductive UO where
 | go (s : List Bd) (l : List Pr)
 | stop (e : Int) (s : List Bd)
def putB (x : ByteArray) (t : Tm) (d : Bd) : Bd := ⟨d.nm, onT [⟨x, t⟩] d.t⟩
theorem forT_mem {s : ByteArray} {x : Tm} : ∀ {ls : List Bd}, forT ls s = some x → ∃ d, d ∈ ls ∧ d.nm = s ∧ d.t = x
 | [], h => by cases h
 | d :: r, h => by
  rw [forT] at h
  split at h
  ·rename_i e
   exact ⟨d, by simp, e, by simpa using h⟩
  ·obtain ⟨d', h1, h2, h3⟩ := forT_mem h
   exact ⟨d', by simp [h1], h2, h3⟩
theorem errL_parts {s : ByteArray} {a r : List Tm} (h : errL (⟨s, a⟩ :: r) = 0) : (varB s = true → a = []) ∧ errL a = 0 ∧ errL r = 0 := by
 rw [errL] at h
 split at h
 ·split at h
  ·cases h
  ·rename_i h1 h2
   split at h
   ·rename_i h3
    refine ⟨fun hv => ?_, h3, h⟩
    cases a with
    | nil => rfl
    | cons x y => simp [hv] at h2
   ·rename_i h3; exact absurd h h3
 ·cases h
theorem errL_name {s : ByteArray} {a r : List Tm} (h : errL (⟨s, a⟩ :: r) = 0) : nameB s = true := by
 rw [errL] at h
 split at h
 ·assumption
 ·cases h
theorem onT_leaf (l : List Bd) (n : ByteArray) : onT l ⟨n, []⟩ = (forT l n).getD ⟨n, []⟩ := by
 cases h : forT l n with
 | none => rw [onT_deep (Or.inr h)]; simp [onL]
 | some t => rw [onT_some h]; rfl
theorem forT_some_of {ls : List Bd} {d : Bd} (h : d ∈ ls) : ∃ t, forT ls d.nm = some t := by
 induction ls with
 | nil => cases h
 | cons a r ih =>
  rw [forT]
  split
  ·exact ⟨_, rfl⟩
  ·rename_i hne
   rcases List.mem_cons.1 h with rfl | h
   ·exact absurd rfl hne
   ·exact ih h
theorem varsP_sub : ∀ (ks : List Tm) (acc : List ByteArray) (n : ByteArray), n ∈ varsP acc ks → n ∈ acc ∨ ∃ k ∈ ks, k.name = n ∧ varB n = true
 | [], acc, n, h => Or.inl (by simpa [varsP] using h)
 | k :: r, acc, n, h => by
  have e : varsP acc (k :: r) = varsP (addV acc k.name) r := rfl
  rw [e] at h
  rcases varsP_sub r _ n h with h1 | ⟨k', h1, h2⟩
  ·cases hv : varB k.name with
   | false => rw [addV_no hv] at h1; exact Or.inl h1
   | true =>
    cases hi : inB k.name acc with
    | true => rw [addV_in hv hi] at h1; exact Or.inl h1
    | false =>
     rw [addV_yes hv hi] at h1
     rcases List.mem_append.1 h1 with h1 | h1
     ·exact Or.inl h1
     ·have e2 : n = k.name := by simpa using h1
      exact Or.inr ⟨k, by simp, e2.symm, by rw [e2]; exact hv⟩
  ·exact Or.inr ⟨k', by simp [h1], h2⟩
theorem varsP_has : ∀ (ks : List Tm) (acc : List ByteArray), (∀ n ∈ acc, n ∈ varsP acc ks) ∧ ∀ k ∈ ks, varB k.name = true → k.name ∈ varsP acc ks
 | [], acc => ⟨fun n h => by simpa [varsP] using h, fun k h => by cases h⟩
 | k :: r, acc => by
  have e : varsP acc (k :: r) = varsP (addV acc k.name) r := rfl
  rw [e]
  obtain ⟨h1, h2⟩ := varsP_has r (addV acc k.name)
  have hsub : ∀ n ∈ acc, n ∈ addV acc k.name := fun n hn => by
   cases hv : varB k.name with
   | false => rw [addV_no hv]; exact hn
   | true =>
    cases hi : inB k.name acc with
    | true => rw [addV_in hv hi]; exact hn
    | false => rw [addV_yes hv hi]; simp [hn]
  refine ⟨fun n hn => h1 n (hsub n hn), fun k' hk' hv' => ?_⟩
  rcases List.mem_cons.1 hk' with rfl | hk'
  ·refine h1 _ ?_
   cases hi : inB k'.name acc with
   | true =>
    rw [addV_in hv' hi]
    unfold inB at hi
    obtain ⟨y, hy, e2⟩ := List.any_eq_true.1 hi
    have e3 : y = k'.name := bytes_inj (by simpa using e2)
    rw [← e3]; exact hy
   | false => rw [addV_yes hv' hi]; simp
  ·exact h2 k' hk' hv'
theorem mod_nat {x : Int} (hx : 0 ≤ x) {n : Nat} (hn : 0 < n) : ∃ k : Nat, x % (n : Int) = k ∧ k < n := by
 have h1 := Int.emod_nonneg x (b := (n : Int)) (by omega)
 have h2 := Int.emod_lt_of_pos x (b := (n : Int)) (by omega)
 exact ⟨(x % (n : Int)).toNat, by omega, by omega⟩
theorem pick_any (c : Int) (n : Nat) (hn : 0 < n) (hn2 : n ≤ 2000000) (hc : -9223372036854775808 ≤ c ∧ c ≤ 9223372036854775807) (w : World) :
  Calls Tryz.prog 6 #[.int .i64 c, .int .i64 (n : Int)] w fun e w' => ∃ k : Nat, e = .returned (.int .i64 (k : Int)) ∧ k < n ∧ w' = w := by
 go_enter Tryz.func6, Tryz.ntmps6
 by_cases h : c < 0
 ·go_wp2_with fail
  go_ret
  obtain ⟨k, hk, hkn⟩ := mod_nat (x := -(c + 1)) (by omega) hn
  refine ⟨k, ?_, hkn, rfl⟩
  have h1 : -(c + 1).tmod (n : Int) = k := by rw [← Int.neg_tmod, Int.tmod_eq_emod_of_nonneg (by omega)]; exact hk
  simp [h1]
 ·go_wp2_with fail
  go_ret
  obtain ⟨k, hk, hkn⟩ := mod_nat (x := c) (by omega) hn
  exact ⟨k, by simp [hk], hkn, rfl⟩
def pickN (c : Int) (n : Nat) : Nat := if c < 0 then (-(c + 1) % (n : Int)).toNat else (c % (n : Int)).toNat
theorem pickN_lt (c : Int) (n : Nat) (hn : 0 < n) : pickN c n < n := by
 unfold pickN
 split
 ·obtain ⟨k, hk, hkn⟩ := mod_nat (x := -(c + 1)) (by omega) hn
  rw [hk]; simpa using hkn
 ·obtain ⟨k, hk, hkn⟩ := mod_nat (x := c) (by omega) hn
  rw [hk]; simpa using hkn
theorem pick_eq (c : Int) (n : Nat) (hn : 0 < n) (hn2 : n ≤ 2000000) (hc : -9223372036854775808 ≤ c ∧ c ≤ 9223372036854775807) (w : World) :
  Calls Tryz.prog 6 #[.int .i64 c, .int .i64 (n : Int)] w fun e w' => e = .returned (.int .i64 (pickN c n : Int)) ∧ w' = w := by
 go_enter Tryz.func6, Tryz.ntmps6
 by_cases h : c < 0
 ·have HK : Hid (((pickN c n : Nat) : Int) = -(c + 1).tmod (n : Int)) := by
   obtain ⟨k, hk, hkn⟩ := mod_nat (x := -(c + 1)) (by omega) hn
   have h1 : -(c + 1).tmod (n : Int) = k := by rw [← Int.neg_tmod, Int.tmod_eq_emod_of_nonneg (by omega)]; exact hk
   unfold Hid pickN
   rw [h1, if_pos h, hk]; simp
  go_wp2_with fail
  go_ret
  exact ⟨by simp [HK.out], rfl⟩
 ·have HK : Hid (((pickN c n : Nat) : Int) = c % (n : Int)) := by
   obtain ⟨k, hk, hkn⟩ := mod_nat (x := c) (by omega) hn
   unfold Hid pickN
   rw [if_neg h, hk]; simp
  go_wp2_with fail
  go_ret
  exact ⟨by simp [HK.out], rfl⟩
theorem wrapI (x : Int) (h : -9223372036854775808 ≤ x ∧ x ≤ 9223372036854775807) : IntKind.i64.wrap x = x := by
 rw [IntKind.wrap_i64]; omega
def Rng (z : Int) : Prop := -9223372036854775808 ≤ z ∧ z ≤ 9223372036854775807
set_option maxHeartbeats 1000000 in
theorem raw_any (zs : List Int) (u : Value) (w : World) (X : Nat → Prop) (hu : PV w X u zs) (hr : ∀ z ∈ zs, Rng z) (i : Nat) (hi : i ≤ 1000000) (hzl : zs.length ≤ 1000000) :
  Calls Tryz.prog 32 #[u, .int .i64 (i : Int)] w fun e w' => ∃ k : Nat, e = .returned (.int .i64 (k : Int)) ∧ k ≤ 100000000000 ∧ Below w.heap.size w w' := by
 obtain ⟨a, c, rfl, hl, h⟩ := hu
 by_cases h0 : zs.length = 0
 ·go_enter Tryz.func32, Tryz.ntmps32
  go_wp2_with fail
  go_ret
  exact ⟨i * 31, by simp, by omega, Below.refl _ _⟩
 ·rcases h with h | ⟨b, o, rfl, hX, hc⟩
  ·subst h; simp at h0
  ·have hpos : 0 < zs.length := by omega
   obtain ⟨m, hm, hlt⟩ := mod_nat (x := (i : Int)) (by omega) hpos
   obtain ⟨d, hd, hdl⟩ : ∃ d : Nat, (i : Int) / (zs.length : Int) = d ∧ d ≤ i := ⟨i / zs.length, by simp, Nat.div_le_self _ _⟩
   have hm2 : (i : Int).tmod (zs.length : Int) = m := by rw [Int.tmod_eq_emod_of_nonneg (by omega)]; exact hm
   have hd2 : (i : Int).tdiv (zs.length : Int) = d := by rw [Int.tdiv_eq_ediv_of_nonneg (by omega)]; exact hd
   have hcc := hc m hlt
   have hrg := hr _ (List.getElem_mem hlt)
   generalize zs[m] = z at *
   have hm0 : (0 : Int) ≤ (m : Int) := by omega
   have hm1 : (m : Int) < (zs.length : Int) := by omega
   clear hc hr
   go_enter Tryz.func32, Tryz.ntmps32
   go_wp2_with fail
   go_region_held3 (fun w' => w'.cell? ⟨b, o + m, none⟩ = some (.int .i64 z)) (first | exact hcc | go_keep)
    ((go_at_call 6; refine (pick_any z 1000003 (by decide) (by decide) hrg _).mono ?_; rintro e w1 ⟨k, rfl, hk, rfl⟩))
   go_wp2_with fail
   go_ret
   refine ⟨k + d * 7919, by simp [wrapI (d : Int) (by omega), wrapI ((d : Int) * 7919) (by omega), wrapI ((k : Int) + (d : Int) * 7919) (by omega)], by omega, ?_⟩
   exact (Below.refl _ _).drew
end Go.Proofs.YtmkendjmfdaedaaGreat
