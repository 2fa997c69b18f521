/- Several texts in one. -/
import Derived.Test.YtbnmlkaejdpigaaGreatDoorZTopLocalOwn
import Derived.Laws.EntriesVeiled
import Derived.Deep.RegionHeld3
import Derived.Deep.RegionHeld
namespace Go.Proofs.YtbnmlkaejdpigaaGreatDoor
open Go.RowKit
set_option linter.unusedSimpArgs false
set_option linter.unusedVariables false
set_option maxRecDepth 8000
theorem fL_map (ls : List Bd) : ∀ l : List Tm, fL ls l = l.map (fT ls)
 | [] => by simp [fL]
 | ⟨s, a⟩ :: r => by rw [fL, fL_map ls r]; rfl
set_option maxHeartbeats 1000000 in
theorem knotF_any (F B r : Nat) (ls : List Bd) (L : List (ByteArray × Value)) (hBF : B ≠ F) (hrF : r ≠ F) (t : Tm) : ∀ (n : Nat) (v : Value) (w : World) (X : Nat → Prop), TV w X v t → (∀ b, X b → b ≠ F) → n ≤ 1000000 → Blk w F #[.int .i64 (n : Int), .func (.func 72) #[] #[.pointer (some ⟨B, 0, none⟩)]] 113 → Env w B r X ls L →
  Calls Tryz.prog 90 #[.pointer (some ⟨F, 0, none⟩), v, .func (.func 73) #[.pointer (some ⟨F, 0, none⟩)] #[]] w fun e w' => CpPost w F (.func (.func 72) #[] #[.pointer (some ⟨B, 0, none⟩)]) ⟨t.name, fL ls t.args⟩ n e w' := by
 induction t using Tm.ind with
 | h s l ih =>
  intro n v w X hv hXF hn hF hE
  obtain ⟨a, c, rfl, hs⟩ := hv
  dsimp only
  generalize hsv : Value.func (.func 72) #[] #[.pointer (some ⟨B, 0, none⟩)] = sv at *
  obtain ⟨M, hM⟩ : ∃ M, fL ls l = M := ⟨_, rfl⟩
  rw [hM]
  have hML : M.length = l.length := by rw [← hM, fL_map]; simp
  have HMK : Hid (∀ k (h : k < M.length) (h' : k < l.length), M[k] = fT ls l[k]) := fun k h h' => by subst hM; simp [fL_map]
  have HE := hide hE
  clear hE hM
  have IH := hide ih
  clear ih
  obtain ⟨i0, hi0, hz0, hz1, hz2⟩ := info_parts Tryz.infoTerm
  have f0 : ∀ o, (w.alloc o).cell? ⟨F, 0, none⟩ = some (.int .i64 (n : Int)) := fun o => (hF.alloc o).cell 0
  have ff : ∀ o, (w.alloc o).frozen? ⟨F, 0, none⟩ = false := fun o => (hF.alloc o).frozen 0
  have hFl : F < w.heap.size := hF.lt
  go_enter Tryz.func90, Tryz.ntmps90
  go_wp2_with fail
  have E3 : Hid (KnSet w F (w.heap.size + 1 + 1) s (.slice none 0 0) #[.int .i64 ((n : Int) - 1), sv] ((((w.setCell ⟨F, 0, none⟩ (.int .i64 ((n : Int) - 1))).alloc (.cells #[.string s, .slice a l.length c] 32)).alloc (.cells #[.string ⟨#[]⟩, .slice none 0 0] 32)).alloc (.cells #[.string s, .slice none 0 0] 32))) := by
   refine ⟨((((Ex.refl F w).set 0 _).alloc _).alloc _).alloc _, ?_, ?_, (((hF.set 0 _).alloc _).alloc _).alloc _, by simp [World.setCell]⟩
   ·have h := (Blk.new ((w.setCell ⟨F, 0, none⟩ (.int .i64 ((n : Int) - 1))).alloc (.cells #[.string s, .slice a l.length c] 32)) #[.string ⟨#[]⟩, .slice none 0 0] 32).alloc (.cells #[.string s, .slice none 0 0] 32)
    simpa [World.setCell] using h
   ·have h := Blk.new (((w.setCell ⟨F, 0, none⟩ (.int .i64 ((n : Int) - 1))).alloc (.cells #[.string s, .slice a l.length c] 32)).alloc (.cells #[.string ⟨#[]⟩, .slice none 0 0] 32)) #[.string s, .slice none 0 0] 32
    simpa [World.setCell] using h
  generalize ((((w.setCell ⟨F, 0, none⟩ (.int .i64 ((n : Int) - 1))).alloc (.cells #[.string s, .slice a l.length c] 32)).alloc (.cells #[.string ⟨#[]⟩, .slice none 0 0] 32)).alloc (.cells #[.string s, .slice none 0 0] 32)) = w3 at *
  generalize hOe : w.heap.size + 1 + 1 = O at *
  have hO : w.heap.size + 2 ≤ O := by omega
  clear hOe
  clear f0 ff
  have HS := hide hs
  have hl := hs.1
  have HXF := hide hXF
  have hz : sizeL [(⟨s, M⟩ : Tm)] = 1 + sizeL M := by simp [sizeL]
  clear hs hXF
  go_loopw [23] (fun i wr => KnInv w F O s sv M n i wr) (fun i wr => l.length - (intOf i).toNat)
  case atStart =>
   refine ⟨0, .slice none 0 0, Nat.zero_le _, rfl, ?_⟩
   by_cases hn0 : n = 0
   ·subst hn0
    exact Or.inr ⟨by omega, E3.out, none, 0, 0, rfl⟩
   ·refine Or.inl ⟨n - 1, [], by simp [sizeL]; omega, ?_, Row.start _ _ _ _⟩
    rw [show ((n - 1 : Nat) : Int) = (n : Int) - 1 by omega]
    exact E3.out
  case round =>
   obtain ⟨k, u, hk, rfl, hcase⟩ := hrel
   rcases hcase with ⟨m, xs, hm, hset, hrow⟩ | ⟨hbig, hset, a9, l9, c9, rfl⟩
   ·have XS := hide hset
    have XW := hide hrow
    have HMM := hide hm
    clear hset hrow
    by_cases hlt : k < l.length
    ·obtain ⟨b, o, a', c', rfl, d0, d1, hx⟩ := (HS.out.ex XS.out.1 HXF.out).get (Below.refl _ _) (fun _ _ h => h) k hlt
     obtain ⟨av, cv, ev, hsx⟩ := hx
     simp at ev
     obtain ⟨rfl, rfl⟩ := ev
     have hltM : k < M.length := by omega
     obtain ⟨y, hy⟩ : ∃ y, fT ls l[k] = y := ⟨_, rfl⟩
     have hMy : Hid (M[k] = y) := by unfold Hid; rw [HMK.out k hltM hlt, hy]
     have hmn : m ≤ 1000000 := by omega
     have HOF : Hid (O ≠ F) := by unfold Hid; omega
     have HFO1 : Hid (F < O + 1) := by unfold Hid; omega
     have hlen := sizeL_len M
     have hsk : (M.take k).length = k := by simp; omega
     have hkn : k ≤ 1000000 := by have h1 := sizeL_len (M.take k); rw [hsk] at h1; omega
     have HL1 : Hid ((M.take k).length + 1 ≤ maxLen ∧ ((M.take k).length + 1) * 40 ≤ 140737488355328) := by unfold Hid; rw [hsk]; exact ⟨by unfold maxLen; omega, by omega⟩
     clear hsk
     have IHQ : Hid (Calls Tryz.prog 73 #[.pointer (some ⟨F, 0, none⟩), .agg #[.string l[k].name, .slice a' l[k].args.length c']] (wr.alloc (.cells #[.string l[k].name, .slice a' l[k].args.length c'] 32)).drew fun e w'' => CpPost (wr.alloc (.cells #[.string l[k].name, .slice a' l[k].args.length c'] 32)).drew F sv y m e w'') := by
      have hEr : Env (wr.alloc (.cells #[.string l[k].name, .slice a' l[k].args.length c'] 32)).drew B r X ls L := ((HE.out.ex XS.out.1 hBF hrF HXF.out).later ((Below.refl _ _).alloc (Nat.le_refl _) _)).later ((Below.refl _ _).drew)
      have hFr : Blk (wr.alloc (.cells #[.string l[k].name, .slice a' l[k].args.length c'] 32)).drew F #[.int .i64 (m : Int), sv] 113 := (XS.out.2.2.2.1.alloc _).drewN 1
      have hSr : Sl (wr.alloc (.cells #[.string l[k].name, .slice a' l[k].args.length c'] 32)).drew X a' l[k].args := (hsx.later ((Below.refl _ _).alloc (Nat.le_refl _) _)).later ((Below.refl _ _).drew)
      have IH2 := IH.out l[k] (List.getElem_mem hlt) m
      rw [← hy]
      clear HMM XS XW
      subst hsv
      exact ffill_of F B r ls L l[k] m a' c' _ X hmn HXF.out hBF hrF hSr hFr hEr (fun w' h1 h2 h3 => IH2 _ w' X ⟨a', c', rfl, h1⟩ HXF.out hmn h2 h3)
     have f0 : ∀ o, (wr.alloc o).cell? ⟨F, 0, none⟩ = some (.int .i64 (m : Int)) := fun o => (XS.out.2.2.2.1.alloc o).cell 0
     have o1 : ∀ o, (wr.alloc o).cell? ⟨O, 1, none⟩ = some u := fun o => (XS.out.2.2.1.alloc o).cell 1
     have hm0 : ¬ (m : Int) < 0 := by omega
     by_cases hle : sizeL [y] ≤ m
     ·have IHG : Hid (Calls Tryz.prog 73 #[.pointer (some ⟨F, 0, none⟩), .agg #[.string l[k].name, .slice a' l[k].args.length c']] (wr.alloc (.cells #[.string l[k].name, .slice a' l[k].args.length c'] 32)).drew fun e w'' => ∃ a1 c1, e = .returned (.agg #[.string y.name, .slice a1 y.args.length c1]) ∧ Blk w'' F #[.int .i64 ((m : Int) - sizeL [y]), sv] 113 ∧ Ex F wr w'' ∧ Sl w'' (fun b => wr.heap.size ≤ b) a1 y.args) := IHQ.out.mono fun e w'' hp => by
       obtain ⟨s1, a1, l1, c1, m1, h1, h2, h3, h4, _⟩ := hp
       obtain ⟨rfl, rfl, rfl, h5⟩ := h4 hle
       exact ⟨a1, c1, h1, h2, (((Ex.refl F wr).alloc _).drew).trans h3, h5.mono fun b hb _ => by simp at hb; omega⟩
      clear IHQ
      go_wp2_with fail
      go_region_law (first
       | (go_simp; go_at_call 73; refine IHG.out.mono ?_; rintro e w1 ⟨a1, c1, rfl, hF1, he1, hs1⟩; have hc3 : ∀ o, (w1.alloc o).cell? ⟨O, 1, none⟩ = some u := fun o => ((Blk.ex XS.out.2.2.1 he1 HOF.out).alloc o).cell 1; have hc4 : w1.cell? ⟨O, 1, none⟩ = some u := (Blk.ex XS.out.2.2.1 he1 HOF.out).cell 1)
       | (refine step_append_lies _ rfl _ _ 30 rfl (O + 1) 32 i0 _ 2 40 Tryz.underlying30 hi0 hz0 hz1 hz2 rfl (by decide) u (M.take k).length xs rfl (by exact (Row.ex (B := F) XW.out he1 HFO1.out (fun h => h)).own.alloc _) ⟨w1.heap.size, 0, none⟩ 1 1 [.string y.name, .slice a1 y.args.length c1] rfl rfl (cell_two_new _ _ _ _) (fun x hx => by simp at hx; rcases hx with rfl | rfl <;> rfl) (by decide) HL1.out.1 HL1.out.2 (by have := he1.size; have := XS.out.2.2.2.2; simp; omega) _ rfl ?_; intro g cap w3 hown3 hgrow3 hat3 hlt3; have hB3 := hide (((Blk.ex XS.out.2.2.1 he1 HOF.out).alloc _).grown hgrow3 (XW.out.ne (Nat.lt_succ_self _))); have hc5 : w3.cell? ⟨O, 1, none⟩ = some u := hB3.out.cell 1; have hf5 := hB3.out.frozen 1))
      all_goals
       have HK := hide (kn_set (v := .slice (some ⟨g, 0, none⟩) ((M.take k).length + 1) cap) hFl hO XS.out (fun j hj => (XW.out.own.lt j hj).1) he1 hF1 hgrow3)
       have HRW := hide (kn_row (by omega) XS.out.2.2.2.2 XW.out he1 ⟨a1, c1, rfl, hs1⟩ hown3 hgrow3 hat3)
       clear hown3 hgrow3 hat3 hc3 hc4 hc5 hf5 hB3 hF1 he1 hs1 hlt3
       go_wp2_with fail
       go_roundw
       case rel =>
        have hkl : (M.take k).length = k := by simp; omega
        have h1 := HK.out
        have h2 := HRW.out
        have hmm := HMM.out
        simp only [hkl] at h1 h2
        have hmk : min k l.length = k := by omega
        simp only [hmk]
        refine ⟨k + 1, .slice (some ⟨g, 0, none⟩) (k + 1) cap, by omega, by go_num, Or.inl ⟨m - sizeL [y], xs ++ [.string y.name, .slice a1 y.args.length c1], by rw [sizeL_take M k hltM, hMy.out]; omega, ?_, ?_⟩⟩
        ·rw [show ((m - sizeL [y] : Nat) : Int) = (m : Int) - sizeL [y] by omega]
         exact h1
        ·rw [List.take_succ_eq_append_getElem hltM, hMy.out]
         exact h2
       case measure => simp [intOf]; omega
     ·have IHG : Hid (Calls Tryz.prog 73 #[.pointer (some ⟨F, 0, none⟩), .agg #[.string l[k].name, .slice a' l[k].args.length c']] (wr.alloc (.cells #[.string l[k].name, .slice a' l[k].args.length c'] 32)).drew fun e w'' => ∃ s1 a1 l1 c1, e = .returned (.agg #[.string s1, .slice a1 l1 c1]) ∧ Blk w'' F #[.int .i64 (-1), sv] 113 ∧ Ex F wr w'') := IHQ.out.mono fun e w'' hp => by
       obtain ⟨s1, a1, l1, c1, m1, h1, h2, h3, _, h4⟩ := hp
       obtain rfl := h4 (by omega)
       exact ⟨s1, a1, l1, c1, h1, h2, (((Ex.refl F wr).alloc _).drew).trans h3⟩
      clear IHQ
      go_wp2_with fail
      go_region_law (first
       | (go_simp; go_at_call 73; refine IHG.out.mono ?_; rintro e w1 ⟨s1, a1, l1, c1, rfl, hF1, he1⟩; have hc3 : ∀ o, (w1.alloc o).cell? ⟨O, 1, none⟩ = some u := fun o => ((Blk.ex XS.out.2.2.1 he1 HOF.out).alloc o).cell 1; have hc4 : w1.cell? ⟨O, 1, none⟩ = some u := (Blk.ex XS.out.2.2.1 he1 HOF.out).cell 1)
       | (refine step_append_lies _ rfl _ _ 30 rfl (O + 1) 32 i0 _ 2 40 Tryz.underlying30 hi0 hz0 hz1 hz2 rfl (by decide) u (M.take k).length xs rfl (by exact (Row.ex (B := F) XW.out he1 HFO1.out (fun h => h)).own.alloc _) ⟨w1.heap.size, 0, none⟩ 1 1 [.string s1, .slice a1 l1 c1] rfl rfl (cell_two_new _ _ _ _) (fun x hx => by simp at hx; rcases hx with rfl | rfl <;> rfl) (by decide) HL1.out.1 HL1.out.2 (by have := he1.size; have := XS.out.2.2.2.2; simp; omega) _ rfl ?_; intro g cap w3 hown3 hgrow3 hat3 hlt3; have hB3 := hide (((Blk.ex XS.out.2.2.1 he1 HOF.out).alloc _).grown hgrow3 (XW.out.ne (Nat.lt_succ_self _))); have hc5 : w3.cell? ⟨O, 1, none⟩ = some u := hB3.out.cell 1; have hf5 := hB3.out.frozen 1))
      all_goals
       have HK := hide (kn_set (v := .slice (some ⟨g, 0, none⟩) ((M.take k).length + 1) cap) hFl hO XS.out (fun j hj => (XW.out.own.lt j hj).1) he1 hF1 hgrow3)
       clear hown3 hgrow3 hat3 hc3 hc4 hc5 hf5 hB3 hF1 he1 hlt3
       go_wp2_with fail
       go_roundw
       case rel =>
        have hkl : (M.take k).length = k := by simp; omega
        have h0 := HK.out
        have hmm := HMM.out
        simp only [hkl] at h0
        have hmk : min k l.length = k := by omega
        simp only [hmk]
        refine ⟨k + 1, .slice (some ⟨g, 0, none⟩) (k + 1) cap, by omega, by go_num, Or.inr ⟨?_, h0, _, _, _, rfl⟩⟩
        have h1 := sizeL_take M k hltM
        rw [hMy.out] at h1
        have h2 := sizeL_take_le M (k + 1)
        omega
       case measure => simp [intOf]; omega
    ·have htk : M.take k = M := List.take_of_length_le (by omega)
     rw [htk] at XW HMM
     obtain ⟨a9, c9, hu9, hsl9⟩ := XW.out.sl
     subst hu9
     have S9 := hide hsl9
     clear hsl9
     have r0 := XS.out.2.1.c0
     have r1 := XS.out.2.1.c1
     have rf := XS.out.2.1.frozen
     have o0 := XS.out.2.2.1.c0
     have o1 := XS.out.2.2.1.c1
     go_wp2_with fail
     refine bodyPost_ret (v := .agg #[.string s, .slice a9 M.length c9]) (by simp [results, Tryz.results90, go_sem, World.cell?_setCell_same, World.cell?_setCell_other, r0, r1, hML]) rfl ?_
     have hmm := HMM.out
     refine ⟨s, a9, M.length, c9, m, rfl, (XS.out.2.2.2.1.setOther _ _ (by omega)).setOther _ _ (by omega), (XS.out.1.setNew (by omega) _ _).setNew (by omega) _ _, fun h => ⟨by rw [hz]; omega, rfl, rfl, (S9.out.kept fun b hb => ?_).mono fun b hb _ => ?_⟩, fun h => by omega⟩
     ·have hb' : O + 1 ≤ b := hb.elim False.elim id
      rw [Below.heap_setCell _ _ _ _ (by simp; omega), Below.heap_setCell _ _ _ _ (by simp; omega)]
     ·have hb' : O + 1 ≤ b := hb.elim False.elim id
      omega
   ·have XS := hide hset
    clear hset
    have f0 : ∀ o, (wr.alloc o).cell? ⟨F, 0, none⟩ = some (.int .i64 (-1)) := fun o => (XS.out.2.2.2.1.alloc o).cell 0
    by_cases hlt : k < l.length
    ·obtain ⟨b, o, a', c', rfl, d0, d1, hx⟩ := (HS.out.ex XS.out.1 HXF.out).get (Below.refl _ _) (fun _ _ h => h) k hlt
     clear hx
     have o0 : ∀ o, (wr.alloc o).cell? ⟨O, 0, none⟩ = some (.string s) := fun o => (XS.out.2.2.1.alloc o).cell 0
     have o1 : ∀ o, (wr.alloc o).cell? ⟨O, 1, none⟩ = some (.slice a9 l9 c9) := fun o => (XS.out.2.2.1.alloc o).cell 1
     have r0 := XS.out.2.1.c0
     have r1 := XS.out.2.1.c1
     have rf := XS.out.2.1.frozen
     have hRl : w.heap.size + 1 < wr.heap.size := XS.out.2.1.lt
     go_wp2_with fail
     refine bodyPost_ret (v := .agg #[.string s, .slice a9 l9 c9]) (by simp [results, Tryz.results90, go_sem, World.cell?_setCell_same, World.cell?_setCell_other, r0, r1, hRl, World.cell?_alloc_old]) rfl ?_
     exact ⟨s, a9, l9, c9, -1, rfl, ((XS.out.2.2.2.1.setOther _ _ (by omega)).setOther _ _ (by omega)).alloc _, ((XS.out.1.setNew (by omega) _ _).setNew (by omega) _ _).alloc _, fun h => by omega, fun _ => rfl⟩
    ·have r0 := XS.out.2.1.c0
     have r1 := XS.out.2.1.c1
     have rf := XS.out.2.1.frozen
     have o0 := XS.out.2.2.1.c0
     have o1 := XS.out.2.2.1.c1
     go_wp2_with fail
     refine bodyPost_ret (v := .agg #[.string s, .slice a9 l9 c9]) (by simp [results, Tryz.results90, go_sem, World.cell?_setCell_same, World.cell?_setCell_other, r0, r1]) rfl ?_
     exact ⟨s, a9, l9, c9, -1, rfl, (XS.out.2.2.2.1.setOther _ _ (by omega)).setOther _ _ (by omega), (XS.out.1.setNew (by omega) _ _).setNew (by omega) _ _, fun h => by omega, fun _ => rfl⟩
theorem ffill_any (F B r : Nat) (ls : List Bd) (L : List (ByteArray × Value)) (t : Tm) (n : Nat) (a : Option Addr) (c : Nat) (w : World) (X : Nat → Prop) (hn : n ≤ 1000000) (hXF : ∀ b, X b → b ≠ F) (hBF : B ≠ F) (hrF : r ≠ F) (hs : Sl w X a t.args) (hF : Blk w F #[.int .i64 (n : Int), .func (.func 72) #[] #[.pointer (some ⟨B, 0, none⟩)]] 113) (hE : Env w B r X ls L) :
  Calls Tryz.prog 73 #[.pointer (some ⟨F, 0, none⟩), .agg #[.string t.name, .slice a t.args.length c]] w fun e w' => CpPost w F (.func (.func 72) #[] #[.pointer (some ⟨B, 0, none⟩)]) (fT ls t) n e w' :=
 ffill_of F B r ls L t n a c w X hn hXF hBF hrF hs hF hE (fun w' h1 h2 h3 => knotF_any F B r ls L hBF hrF t n _ w' X ⟨a, c, rfl, h1⟩ hXF hn h2 h3)
set_option maxHeartbeats 1000000 in
theorem fill_any (B r : Nat) (ls : List Bd) (L : List (ByteArray × Value)) (t : Tm) (n : Nat) (a : Option Addr) (c : Nat) (w : World) (X : Nat → Prop) (hn : n ≤ 1000000) (hs : Sl w X a t.args) (hE : Env w B r X ls L) :
  Calls Tryz.prog 49 #[.agg #[.string t.name, .slice a t.args.length c], .int .i64 (n : Int), .func (.func 72) #[] #[.pointer (some ⟨B, 0, none⟩)]] w fun e w' => Below w.heap.size w w' ∧
   ((sizeL [fT ls t] ≤ n ∧ ∃ a' c', e = .returned (.tuple #[.agg #[.string (fT ls t).name, .slice a' (fT ls t).args.length c'], .bool true]) ∧ Sl w' (fun b => w.heap.size ≤ b) a' (fT ls t).args) ∨ (n < sizeL [fT ls t] ∧ e = .returned (.tuple #[.agg #[.string ⟨#[]⟩, .slice none 0 0], .bool false]))) := by
 have hmf : ∀ (fn : Fn) (first cap : Array Value) (w : World), (Instr.makeFunc fn first cap).run Tryz.prog w = .ok (.func fn first cap) w := fun _ _ _ _ => rfl
 have HS := hide (hs.mono (Y := fun b => X b ∧ b < w.heap.size) fun b h1 h2 => ⟨h1, h2⟩)
 have HE : Hid (Env w B r (fun b => X b ∧ b < w.heap.size) ls L) := ⟨hE.1, hE.2.1, hE.2.2.imp fun a l hs => hs.mono fun b h1 h2 => ⟨h1, h2⟩⟩
 have hBl : B < w.heap.size := hE.1.lt
 have hrl : r < w.heap.size := hE.2.1.lt
 clear hs hE
 go_enter Tryz.func49, Tryz.ntmps49
 go_wp2_with fail
 have HB3 : Hid (Below w.heap.size w (((w.alloc (.cells #[.string t.name, .slice a t.args.length c] 32)).alloc (.cells #[.string ⟨#[]⟩, .slice none 0 0] 32)).alloc (.cells #[.int .i64 (n : Int), .func (.func 72) #[] #[.pointer (some ⟨B, 0, none⟩)]] 113))) := ((((Below.refl w.heap.size w).alloc (Nat.le_refl _) _).alloc (by simp) _).alloc (by simp; omega) _)
 have F3 : Hid (Blk (((w.alloc (.cells #[.string t.name, .slice a t.args.length c] 32)).alloc (.cells #[.string ⟨#[]⟩, .slice none 0 0] 32)).alloc (.cells #[.int .i64 (n : Int), .func (.func 72) #[] #[.pointer (some ⟨B, 0, none⟩)]] 113)) (w.heap.size + 1 + 1) #[.int .i64 (n : Int), .func (.func 72) #[] #[.pointer (some ⟨B, 0, none⟩)]] 113) := by
  have h := Blk.new ((w.alloc (.cells #[.string t.name, .slice a t.args.length c] 32)).alloc (.cells #[.string ⟨#[]⟩, .slice none 0 0] 32)) #[.int .i64 (n : Int), .func (.func 72) #[] #[.pointer (some ⟨B, 0, none⟩)]] 113
  unfold Hid
  simpa using h
 have R3 : Hid (Blk (((w.alloc (.cells #[.string t.name, .slice a t.args.length c] 32)).alloc (.cells #[.string ⟨#[]⟩, .slice none 0 0] 32)).alloc (.cells #[.int .i64 (n : Int), .func (.func 72) #[] #[.pointer (some ⟨B, 0, none⟩)]] 113)) (w.heap.size + 1) #[.string ⟨#[]⟩, .slice none 0 0] 32) := by
  have h := (Blk.new (w.alloc (.cells #[.string t.name, .slice a t.args.length c] 32)) #[.string ⟨#[]⟩, .slice none 0 0] 32).alloc (.cells #[.int .i64 (n : Int), .func (.func 72) #[] #[.pointer (some ⟨B, 0, none⟩)]] 113)
  unfold Hid
  simpa using h
 have z3 : (((w.alloc (.cells #[.string t.name, .slice a t.args.length c] 32)).alloc (.cells #[.string ⟨#[]⟩, .slice none 0 0] 32)).alloc (.cells #[.int .i64 (n : Int), .func (.func 72) #[] #[.pointer (some ⟨B, 0, none⟩)]] 113)).heap.size = w.heap.size + 3 := by simp
 generalize (((w.alloc (.cells #[.string t.name, .slice a t.args.length c] 32)).alloc (.cells #[.string ⟨#[]⟩, .slice none 0 0] 32)).alloc (.cells #[.int .i64 (n : Int), .func (.func 72) #[] #[.pointer (some ⟨B, 0, none⟩)]] 113)) = w3 at *
 refine (ffill_any (w.heap.size + 1 + 1) B r ls L t n a c w3 (fun b => X b ∧ b < w.heap.size) hn (fun b hb => by have := hb.2; omega) (by omega) (by omega) (HS.out.later HB3.out) F3.out (HE.out.later HB3.out)).mono ?_
 rintro e w9 ⟨s', a', l', c', m, rfl, hF9, hx9, hy, hno⟩
 have HF9 := hide hF9
 have HX9 := hide hx9
 have R9 := hide (R3.out.ex hx9 (by omega))
 have hz9 := hx9.size
 clear hF9 hx9
 have r0 := R9.out.c0
 have r1 := R9.out.c1
 have rf := R9.out.frozen
 have hRl : w.heap.size + 1 < w9.heap.size := R9.out.lt
 have HBW : Hid (Below w.heap.size w w9) := ⟨HX9.out.os.trans HB3.out.os, HX9.out.tape.trans HB3.out.tape, HX9.out.output.trans HB3.out.output, by omega, fun k hk => (HX9.out.block k (by omega) (by omega)).trans (HB3.out.block k hk)⟩
 by_cases hle : sizeL [fT ls t] ≤ n
 ·obtain ⟨rfl, rfl, rfl, hsl⟩ := hy hle
  have HSL := hide hsl
  clear hy hno hsl
  have f0 : ∀ o, (w9.alloc o).cell? ⟨w.heap.size + 1 + 1, 0, none⟩ = some (.int .i64 ((n : Int) - sizeL [fT ls t])) := fun o => (HF9.out.alloc o).cell 0
  have hlt : ¬ ((n : Int) - sizeL [fT ls t]) < 0 := by omega
  go_wp2_with fail
  refine bodyPost_ret (v := .tuple #[.agg #[.string (fT ls t).name, .slice a' (fT ls t).args.length c'], .bool true]) (by simp [results, Tryz.results49, go_sem, World.cell?_setCell_same, World.cell?_setCell_other, r0, r1, hRl, World.cell?_alloc_old]) rfl ?_
  refine ⟨((HBW.out.setCell (by simp) _).setCell (by simp) _).alloc (by simp [World.setCell]; omega) _, Or.inl ⟨hle, a', c', rfl, ((HSL.out.kept fun b hb => ?_).later ((Below.refl _ _).alloc (Nat.le_refl _) _)).mono fun b hb _ => by omega⟩⟩
  rw [Below.heap_setCell _ _ _ _ (by simp; omega), Below.heap_setCell _ _ _ _ (by simp; omega)]
 ·obtain rfl := hno (by omega)
  clear hy hno
  have f0 : ∀ o, (w9.alloc o).cell? ⟨w.heap.size + 1 + 1, 0, none⟩ = some (.int .i64 (-1)) := fun o => (HF9.out.alloc o).cell 0
  go_wp2_with fail
  refine bodyPost_ret (v := .tuple #[.agg #[.string ⟨#[]⟩, .slice none 0 0], .bool false]) (by simp [results, Tryz.results49, go_sem, World.cell?_setCell_same, World.cell?_setCell_other, r0, r1, hRl, World.cell?_alloc_old]) rfl ?_
  exact ⟨((HBW.out.setCell (by simp) _).setCell (by simp) _).alloc (by simp [World.setCell]; omega) _, Or.inr ⟨by omega, rfl⟩⟩
theorem forT_mem {s : ByteArray} {x : Tm} : ∀ {ls : List Bd}, forT ls s = some x → ∃ d, d ∈ ls ∧ d.nm = s ∧ d.t = x
 | [], h => by cases h
 | d :: r, h => by
  rw [forT] at h
  split at h
  ·rename_i e
   exact ⟨d, by simp, e, by simpa using h⟩
  ·obtain ⟨d', h1, h2, h3⟩ := forT_mem h
   exact ⟨d', by simp [h1], h2, h3⟩
theorem errL_parts {s : ByteArray} {a r : List Tm} (h : errL (⟨s, a⟩ :: r) = 0) : (varB s = true → a = []) ∧ errL a = 0 ∧ errL r = 0 := by
 rw [errL] at h
 split at h
 ·split at h
  ·cases h
  ·rename_i h1 h2
   split at h
   ·rename_i h3
    refine ⟨fun hv => ?_, h3, h⟩
    cases a with
    | nil => rfl
    | cons x y => simp [hv] at h2
   ·rename_i h3; exact absurd h h3
 ·cases h
theorem errL_name {s : ByteArray} {a r : List Tm} (h : errL (⟨s, a⟩ :: r) = 0) : nameB s = true := by
 rw [errL] at h
 split at h
 ·assumption
 ·cases h
theorem forT_of {l : List Bd} (ha : ApartB l) {d : Bd} (hd : d ∈ l) : forT l d.nm = some d.t := by
 induction l with
 | nil => cases hd
 | cons a r ih =>
  obtain ⟨h1, h2⟩ := List.pairwise_cons.1 ha
  rcases List.mem_cons.1 hd with rfl | hd
  ·simp [forT]
  ·rw [forT, if_neg (h1 d hd)]
   exact ih h2 hd
theorem forT_append (a b : List Bd) (n : ByteArray) : forT (a ++ b) n = (forT a n).or (forT b n) := by
 induction a with
 | nil => simp [forT]
 | cons d r ih =>
  rw [List.cons_append, forT, forT]
  split
  ·rfl
  ·exact ih
theorem onT_leaf (l : List Bd) (n : ByteArray) : onT l ⟨n, []⟩ = (forT l n).getD ⟨n, []⟩ := by
 cases h : forT l n with
 | none => rw [onT_deep (Or.inr h)]; simp [onL]
 | some t => rw [onT_some h]; rfl
theorem forT_some_of {ls : List Bd} {d : Bd} (h : d ∈ ls) : ∃ t, forT ls d.nm = some t := by
 induction ls with
 | nil => cases h
 | cons a r ih =>
  rw [forT]
  split
  ·exact ⟨_, rfl⟩
  ·rename_i hne
   rcases List.mem_cons.1 h with rfl | h
   ·exact absurd rfl hne
   ·exact ih h
theorem varsP_sub : ∀ (ks : List Tm) (acc : List ByteArray) (n : ByteArray), n ∈ varsP acc ks → n ∈ acc ∨ ∃ k ∈ ks, k.name = n ∧ varB n = true
 | [], acc, n, h => Or.inl (by simpa [varsP] using h)
 | k :: r, acc, n, h => by
  have e : varsP acc (k :: r) = varsP (addV acc k.name) r := rfl
  rw [e] at h
  rcases varsP_sub r _ n h with h1 | ⟨k', h1, h2⟩
  ·cases hv : varB k.name with
   | false => rw [addV_no hv] at h1; exact Or.inl h1
   | true =>
    cases hi : inB k.name acc with
    | true => rw [addV_in hv hi] at h1; exact Or.inl h1
    | false =>
     rw [addV_yes hv hi] at h1
     rcases List.mem_append.1 h1 with h1 | h1
     ·exact Or.inl h1
     ·have e2 : n = k.name := by simpa using h1
      exact Or.inr ⟨k, by simp, e2.symm, by rw [e2]; exact hv⟩
  ·exact Or.inr ⟨k', by simp [h1], h2⟩
theorem varsP_has : ∀ (ks : List Tm) (acc : List ByteArray), (∀ n ∈ acc, n ∈ varsP acc ks) ∧ ∀ k ∈ ks, varB k.name = true → k.name ∈ varsP acc ks
 | [], acc => ⟨fun n h => by simpa [varsP] using h, fun k h => by cases h⟩
 | k :: r, acc => by
  have e : varsP acc (k :: r) = varsP (addV acc k.name) r := rfl
  rw [e]
  obtain ⟨h1, h2⟩ := varsP_has r (addV acc k.name)
  have hsub : ∀ n ∈ acc, n ∈ addV acc k.name := fun n hn => by
   cases hv : varB k.name with
   | false => rw [addV_no hv]; exact hn
   | true =>
    cases hi : inB k.name acc with
    | true => rw [addV_in hv hi]; exact hn
    | false => rw [addV_yes hv hi]; simp [hn]
  refine ⟨fun n hn => h1 n (hsub n hn), fun k' hk' hv' => ?_⟩
  rcases List.mem_cons.1 hk' with rfl | hk'
  ·refine h1 _ ?_
   cases hi : inB k'.name acc with
   | true =>
    rw [addV_in hv' hi]
    unfold inB at hi
    obtain ⟨y, hy, e2⟩ := List.any_eq_true.1 hi
    have e3 : y = k'.name := bytes_inj (by simpa using e2)
    rw [← e3]; exact hy
   | false => rw [addV_yes hv' hi]; simp
  ·exact h2 k' hk' hv'
theorem mod_nat {x : Int} (hx : 0 ≤ x) {n : Nat} (hn : 0 < n) : ∃ k : Nat, x % (n : Int) = k ∧ k < n := by
 have h1 := Int.emod_nonneg x (b := (n : Int)) (by omega)
 have h2 := Int.emod_lt_of_pos x (b := (n : Int)) (by omega)
 exact ⟨(x % (n : Int)).toNat, by omega, by omega⟩
theorem pick_any (c : Int) (n : Nat) (hn : 0 < n) (hn2 : n ≤ 2000000) (hc : -9223372036854775808 ≤ c ∧ c ≤ 9223372036854775807) (w : World) :
  Calls Tryz.prog 9 #[.int .i64 c, .int .i64 (n : Int)] w fun e w' => ∃ k : Nat, e = .returned (.int .i64 (k : Int)) ∧ k < n ∧ w' = w := by
 go_enter Tryz.func9, Tryz.ntmps9
 by_cases h : c < 0
 ·go_wp2_with fail
  go_ret
  obtain ⟨k, hk, hkn⟩ := mod_nat (x := -(c + 1)) (by omega) hn
  refine ⟨k, ?_, hkn, rfl⟩
  have h1 : -(c + 1).tmod (n : Int) = k := by rw [← Int.neg_tmod, Int.tmod_eq_emod_of_nonneg (by omega)]; exact hk
  simp [h1]
 ·go_wp2_with fail
  go_ret
  obtain ⟨k, hk, hkn⟩ := mod_nat (x := c) (by omega) hn
  exact ⟨k, by simp [hk], hkn, rfl⟩
theorem err_leaf {s : ByteArray} (h : nameB s = true) : errL [(⟨s, []⟩ : Tm)] = 0 := by simp [errL, h]
theorem err_node {s : ByteArray} {l : List Tm} (h : nameB s = true) (hv : varB s = false) (hl : errL l = 0) : errL [(⟨s, l⟩ : Tm)] = 0 := by simp [errL, h, hv, hl]
section
variable {P : Program} {ops : Array Oper} {Q : Exit → Act → World → Prop} {md : Region.Mode}
end
def TwoS (w5 w6 : World) (t5 t6 : Tm) (a5 a6 : Option Addr) (c5 c6 : Nat) (w' : World) : Prop :=
 Blk w' w5.heap.size #[.string t5.name, .slice a5 t5.args.length c5] 32 ∧ Blk w' w6.heap.size #[.string t6.name, .slice a6 t6.args.length c6] 32
def TwoF (w5 w6 : World) (t5 t6 : Tm) (a5 a6 : Option Addr) (c5 c6 : Nat) (b : Nat) (w' : World) : Prop :=
 TwoS w5 w6 t5 t6 a5 a6 c5 c6 w' ∧ Blk w' b #[.string ⟨#[102]⟩, .string ⟨#[103]⟩] 9
theorem TwoS.alloc {w5 w6 : World} {t5 t6 : Tm} {a5 a6 : Option Addr} {c5 c6 : Nat} {w' : World} (h : TwoS w5 w6 t5 t6 a5 a6 c5 c6 w') (o : Obj) : TwoS w5 w6 t5 t6 a5 a6 c5 c6 (w'.alloc o) := ⟨h.1.alloc o, h.2.alloc o⟩
theorem TwoF.alloc {w5 w6 : World} {t5 t6 : Tm} {a5 a6 : Option Addr} {c5 c6 b : Nat} {w' : World} (h : TwoF w5 w6 t5 t6 a5 a6 c5 c6 b w') (o : Obj) : TwoF w5 w6 t5 t6 a5 a6 c5 c6 b (w'.alloc o) := ⟨h.1.alloc o, h.2.alloc o⟩
def occL (x : ByteArray) (l : List Tm) : Prop := ∃ k ∈ preL l, k.name = x
theorem occL_node {x s : ByteArray} {l r : List Tm} : occL x (⟨s, l⟩ :: r) ↔ s = x ∨ occL x l ∨ occL x r := by
 unfold occL
 rw [preL]
 constructor
 ·rintro ⟨k, hk, e⟩
  rcases List.mem_cons.1 hk with rfl | hk
  ·exact Or.inl e
  ·rcases List.mem_append.1 hk with hk | hk
   ·exact Or.inr (Or.inl ⟨k, hk, e⟩)
   ·exact Or.inr (Or.inr ⟨k, hk, e⟩)
 ·rintro (e | ⟨k, hk, e⟩ | ⟨k, hk, e⟩)
  ·exact ⟨⟨s, l⟩, by simp, e⟩
  ·exact ⟨k, by simp [hk], e⟩
  ·exact ⟨k, by simp [hk], e⟩
theorem occL_nil {x : ByteArray} : ¬ occL x [] := by
 rintro ⟨k, hk, _⟩
 simp [preL] at hk
theorem occL_cons {x : ByteArray} {t : Tm} {r : List Tm} : occL x (t :: r) ↔ occL x [t] ∨ occL x r := by
 obtain ⟨s, l⟩ := t
 rw [occL_node, occL_node]
 have h0 : ¬ occL x [] := occL_nil
 constructor
 ·rintro (h | h | h)
  ·exact Or.inl (Or.inl h)
  ·exact Or.inl (Or.inr (Or.inl h))
  ·exact Or.inr h
 ·rintro ((h | h | h) | h)
  ·exact Or.inl h
  ·exact Or.inr (Or.inl h)
  ·exact absurd h h0
  ·exact Or.inr (Or.inr h)
theorem occL_append {x : ByteArray} {a b : List Tm} : occL x (a ++ b) ↔ occL x a ∨ occL x b := by
 induction a with
 | nil =>
  have h0 : ¬ occL x [] := occL_nil
  simp [h0]
 | cons t r ih => rw [List.cons_append, occL_cons, occL_cons (r := r), ih, or_assoc]
def OkS (s : List Bd) : Prop := ApartB s ∧ (∀ d ∈ s, varB d.nm = true ∧ errL [d.t] = 0) ∧ ∀ d ∈ s, ∀ e ∈ s, ¬ occL e.nm [d.t]
theorem okS_nil : OkS [] := ⟨by simp [ApartB], by simp, by simp⟩
theorem onT_sym2 {s : List Bd} (h : ∀ d ∈ s, varB d.nm = true) {n : ByteArray} (hn : varB n = false) (l : List Tm) : onT s ⟨n, l⟩ = ⟨n, onL s l⟩ := by
 refine onT_deep (Or.inr ?_)
 cases hf : forT s n with
 | none => rfl
 | some x =>
  obtain ⟨d, hd, e, _⟩ := forT_mem hf
  have h1 := h d hd
  rw [e, hn] at h1
  cases h1
theorem onL_id {s : List Bd} : ∀ l : List Tm, (∀ e ∈ s, ¬ occL e.nm l) → onL s l = l := by
 intro l
 induction l using Tm.indL with
 | h0 => intro _; simp [onL]
 | h n l r ihl ihr =>
  intro h
  rw [onL_cons, ihr fun e he ho => h e he (occL_node.2 (Or.inr (Or.inr ho)))]
  congr 1
  rw [onT_deep (Or.inr ?_), ihl fun e he ho => h e he (occL_node.2 (Or.inr (Or.inl ho)))]
  cases hf : forT s n with
  | none => rfl
  | some x =>
   obtain ⟨d, hd, e, _⟩ := forT_mem hf
   exact absurd (occL_node.2 (Or.inl e.symm)) (h d hd)
theorem occ_on {s : List Bd} (hs : ∀ d ∈ s, varB d.nm = true) {y : ByteArray} (hy : varB y = true) : ∀ l : List Tm, errL l = 0 → occL y (onL s l) → (occL y l ∧ forT s y = none) ∨ ∃ d ∈ s, occL d.nm l ∧ occL y [d.t] := by
 intro l
 induction l using Tm.indL with
 | h0 => intro _ h; simp only [onL] at h; exact absurd h occL_nil
 | h n l r ihl ihr =>
  intro he h
  obtain ⟨g1, g2, g3⟩ := errL_parts he
  rw [onL_cons, occL_cons] at h
  rcases h with h | h
  ·cases hv : varB n with
   | false =>
    rw [onT_sym2 hs hv, occL_node] at h
    rcases h with h | h | h
    ·rw [h, hy] at hv; cases hv
    ·rcases ihl g2 h with ⟨h1, h2⟩ | ⟨d, hd, h1, h2⟩
     ·exact Or.inl ⟨occL_node.2 (Or.inr (Or.inl h1)), h2⟩
     ·exact Or.inr ⟨d, hd, occL_node.2 (Or.inr (Or.inl h1)), h2⟩
    ·exact absurd h occL_nil
   | true =>
    have e := g1 hv
    subst e
    rw [onT_leaf] at h
    cases hf : forT s n with
    | none =>
     rw [hf] at h
     rcases occL_node.1 h with h | h | h
     ·subst h; exact Or.inl ⟨occL_node.2 (Or.inl rfl), hf⟩
     ·exact absurd h occL_nil
     ·exact absurd h occL_nil
    | some x =>
     rw [hf] at h
     obtain ⟨d, hd, e1, e2⟩ := forT_mem hf
     refine Or.inr ⟨d, hd, occL_node.2 (Or.inl e1.symm), ?_⟩
     rw [e2]; exact h
  ·rcases ihr g3 h with ⟨h1, h2⟩ | ⟨d, hd, h1, h2⟩
   ·exact Or.inl ⟨occL_node.2 (Or.inr (Or.inr h1)), h2⟩
   ·exact Or.inr ⟨d, hd, occL_node.2 (Or.inr (Or.inr h1)), h2⟩
theorem OkS.vars {s : List Bd} (h : OkS s) : ∀ d ∈ s, varB d.nm = true := fun d hd => (h.2.1 d hd).1
theorem OkS.gone {s : List Bd} (h : OkS s) {l : List Tm} (he : errL l = 0) : ∀ e ∈ s, ¬ occL e.nm (onL s l) := by
 intro e hm ho
 rcases occ_on h.vars (h.vars e hm) l he ho with ⟨_, h2⟩ | ⟨d, hd, _, h2⟩
 ·obtain ⟨t, ht⟩ := forT_some_of hm
  rw [ht] at h2; cases h2
 ·exact h.2.2 d hd e hm h2
theorem OkS.idem {s : List Bd} (h : OkS s) {l : List Tm} (he : errL l = 0) : onL s (onL s l) = onL s l := onL_id _ (h.gone he)
theorem errL_on2 {s : List Bd} (h : OkS s) : ∀ l : List Tm, errL l = 0 → errL (onL s l) = 0 := by
 intro l
 induction l using Tm.indL with
 | h0 => intro _; simp [onL, errL]
 | h n l r ihl ihr =>
  intro he
  obtain ⟨g1, g2, g3⟩ := errL_parts he
  have hn := errL_name he
  rw [onL_cons]
  have key : errL [onT s ⟨n, l⟩] = 0 := by
   cases hv : varB n with
   | false => rw [onT_sym2 h.vars hv]; exact err_node hn hv (ihl g2)
   | true =>
    have e := g1 hv
    subst e
    rw [onT_leaf]
    cases hf : forT s n with
    | none => exact err_leaf hn
    | some x =>
     obtain ⟨d, hd, _, e2⟩ := forT_mem hf
     have h3 := (h.2.1 d hd).2
     rw [e2] at h3
     exact h3
  rw [errL_cons, if_pos key]
  exact ihr g3
theorem onT_of {P : List Tm → List Tm → Prop} {s : List Bd} {t : Tm} (h : P [t] (onL s [t])) : P [t] [onT s t] := by
 rw [onL_cons] at h
 simpa [onL] using h
theorem errL_onT2 {s : List Bd} (h : OkS s) {t : Tm} (he : errL [t] = 0) : errL [onT s t] = 0 := onT_of (P := fun _ b => errL b = 0) (errL_on2 h [t] he)
theorem OkS.goneT {s : List Bd} (h : OkS s) {t : Tm} (he : errL [t] = 0) : ∀ e ∈ s, ¬ occL e.nm [onT s t] := onT_of (P := fun _ b => ∀ e ∈ s, ¬ occL e.nm b) (h.gone he)
theorem forT_perm {a b : List Bd} (hp : a.Perm b) (ha : ApartB b) (n : ByteArray) : forT a n = forT b n := by
 have ha' : ApartB a := ha.perm hp
 cases h1 : forT b n with
 | some x =>
  obtain ⟨d, hd, e1, e2⟩ := forT_mem h1
  have h2 := forT_of ha' (hp.symm.subset hd)
  rw [e1, e2] at h2
  exact h2
 | none =>
  cases h2 : forT a n with
  | none => rfl
  | some x =>
   obtain ⟨d, hd, e1, e2⟩ := forT_mem h2
   have h3 := forT_of ha (hp.subset hd)
   rw [e1, h1] at h3
   cases h3
theorem forT_put (x : ByteArray) (t : Tm) (s : List Bd) (n : ByteArray) : forT (s.map (putB x t)) n = (forT s n).map (onT [⟨x, t⟩]) := by
 induction s with
 | nil => rfl
 | cons d r ih =>
  rw [List.map_cons, forT, forT]
  by_cases e : d.nm = n
  ·rw [if_pos e, if_pos (show (putB x t d).nm = n from e)]; rfl
  ·rw [if_neg e, if_neg (show ¬ (putB x t d).nm = n from e)]; exact ih
def addS (s : List Bd) (x : ByteArray) (t : Tm) : List Bd := srtB (s.map (putB x t) ++ [⟨x, t⟩])
theorem add_apart {s : List Bd} {x : ByteArray} {t : Tm} (h : ApartB s) (hx : ∀ d ∈ s, d.nm ≠ x) : ApartB (s.map (putB x t) ++ [⟨x, t⟩]) := by
 refine List.pairwise_append.2 ⟨List.pairwise_map.2 h, by simp, fun a ha b hb => ?_⟩
 obtain ⟨d, hd, rfl⟩ := List.mem_map.1 ha
 have e : b = ⟨x, t⟩ := by simpa using hb
 rw [e]
 exact hx d hd
theorem add_val {s : List Bd} {x : ByteArray} {t : Tm} (h : ApartB s) (hx : ∀ d ∈ s, d.nm ≠ x) (n : ByteArray) : onT (addS s x t) ⟨n, []⟩ = onT [⟨x, t⟩] (onT s ⟨n, []⟩) := by
 rw [onT_leaf (addS s x t)]
 unfold addS
 rw [forT_perm (srtB_perm _) (add_apart h hx), forT_append, forT_put, onT_leaf s]
 cases hf : forT s n with
 | some u => rfl
 | none =>
  show (forT [⟨x, t⟩] n).getD _ = onT [⟨x, t⟩] ⟨n, []⟩
  rw [onT_leaf]
theorem one_vars {x : ByteArray} {t : Tm} (hx : varB x = true) : ∀ d ∈ [(⟨x, t⟩ : Bd)], varB d.nm = true := fun d hd => by
 have e : d = ⟨x, t⟩ := by simpa using hd
 rw [e]; exact hx
theorem OkS.add {s : List Bd} (h : OkS s) {x : ByteArray} {t : Tm} (hx : varB x = true) (hn : ∀ d ∈ s, d.nm ≠ x) (he : errL [t] = 0) (ht : ∀ e ∈ s, ¬ occL e.nm [t]) (ho : ¬ occL x [t]) : OkS (addS s x t) := by
 have O1 : OkS [(⟨x, t⟩ : Bd)] := by
  refine ⟨by simp [ApartB], fun d hd => ?_, fun d hd e hm => ?_⟩
  ·have e : d = ⟨x, t⟩ := by simpa using hd
   rw [e]; exact ⟨hx, he⟩
  ·have e1 : d = ⟨x, t⟩ := by simpa using hd
   have e2 : e = ⟨x, t⟩ := by simpa using hm
   rw [e1, e2]; exact ho
 have hp := srtB_perm (s.map (putB x t) ++ [⟨x, t⟩])
 have hmem : ∀ d ∈ addS s x t, (∃ d0 ∈ s, d = putB x t d0) ∨ d = ⟨x, t⟩ := fun d hd => by
  rcases List.mem_append.1 (hp.subset hd) with hd | hd
  ·obtain ⟨d0, h0, rfl⟩ := List.mem_map.1 hd
   exact Or.inl ⟨d0, h0, rfl⟩
  ·exact Or.inr (by simpa using hd)
 have hnot : ∀ d0 ∈ s, ∀ y, varB y = true → (y = x ∨ ∃ e ∈ s, e.nm = y) → ¬ occL y [onT [⟨x, t⟩] d0.t] := fun d0 h0 y hy hyy hoc => by
  have h1 : occL y (onL [⟨x, t⟩] [d0.t]) := by rw [onL_cons]; simpa [onL] using hoc
  rcases occ_on O1.vars hy [d0.t] (h.2.1 d0 h0).2 h1 with ⟨h2, h3⟩ | ⟨d, hd, h2, h3⟩
  ·rcases hyy with rfl | ⟨e, hm, rfl⟩
   ·simp [forT] at h3
   ·exact h.2.2 d0 h0 e hm h2
  ·have e1 : d = ⟨x, t⟩ := by simpa using hd
   subst e1
   rcases hyy with rfl | ⟨e, hm, rfl⟩
   ·exact ho h3
   ·exact ht e hm h3
 refine ⟨(add_apart h.1 hn).perm hp, fun d hd => ?_, fun d hd e hm => ?_⟩
 ·rcases hmem d hd with ⟨d0, h0, rfl⟩ | rfl
  ·exact ⟨(h.2.1 d0 h0).1, errL_onT2 O1 (h.2.1 d0 h0).2⟩
  ·exact ⟨hx, he⟩
 ·have hy : e.nm = x ∨ ∃ e0 ∈ s, e0.nm = e.nm := by
   rcases hmem e hm with ⟨e0, h0, rfl⟩ | rfl
   ·exact Or.inr ⟨e0, h0, rfl⟩
   ·exact Or.inl rfl
  have hyv : varB e.nm = true := by
   rcases hy with h1 | ⟨e0, h0, h1⟩
   ·rw [h1]; exact hx
   ·rw [← h1]; exact (h.2.1 e0 h0).1
  rcases hmem d hd with ⟨d0, h0, rfl⟩ | rfl
  ·exact hnot d0 h0 e.nm hyv hy
  ·rcases hy with h1 | ⟨e0, h0, h1⟩
   ·rw [h1]; exact ho
   ·rw [← h1]; exact ht e0 h0
theorem add_on {s : List Bd} (h : OkS s) {x : ByteArray} {t : Tm} (hx : varB x = true) (hn : ∀ d ∈ s, d.nm ≠ x) (hs : OkS (addS s x t)) : ∀ l : List Tm, errL l = 0 → onL (addS s x t) l = onL [⟨x, t⟩] (onL s l) := by
 intro l
 induction l using Tm.indL with
 | h0 => intro _; simp [onL]
 | h n l r ihl ihr =>
  intro he
  obtain ⟨g1, g2, g3⟩ := errL_parts he
  rw [onL_cons, onL_cons, onL_cons, ihr g3]
  congr 1
  cases hv : varB n with
  | false => rw [onT_sym2 hs.vars hv, onT_sym2 h.vars hv, onT_sym2 (one_vars hx) hv, ihl g2]
  | true =>
   have e := g1 hv
   subst e
   exact add_val h.1 hn n
def flatP : List Pr → List Tm
 | [] => []
 | p :: l => p.l :: p.r :: flatP l
theorem flatP_append : ∀ a b : List Pr, flatP (a ++ b) = flatP a ++ flatP b
 | [], b => rfl
 | p :: a, b => by rw [List.cons_append, flatP, flatP, flatP_append a b]; rfl
theorem size_cons (t : Tm) (r : List Tm) : sizeL (t :: r) = sizeL [t] + sizeL r := by
 obtain ⟨s, l⟩ := t
 simp [sizeL]
theorem err_two {t : Tm} {r : List Tm} : errL (t :: r) = 0 ↔ errL [t] = 0 ∧ errL r = 0 := by
 rw [errL_cons]
 constructor
 ·intro h
  by_cases e : errL [t] = 0
  ·rw [if_pos e] at h; exact ⟨e, h⟩
  ·rw [if_neg e] at h; exact absurd h e
 ·rintro ⟨h1, h2⟩
  rw [if_pos h1]; exact h2
theorem err_append : ∀ {a b : List Tm}, errL (a ++ b) = 0 ↔ errL a = 0 ∧ errL b = 0
 | [], b => by simp [errL]
 | t :: a, b => by
  rw [List.cons_append, err_two, err_append, err_two (r := a), and_assoc]
theorem zip_occ {y : ByteArray} : ∀ {a b : List Tm}, occL y (flatP (zipP a b)) → occL y a ∨ occL y b
 | [], _, h => by simp only [zipP, flatP] at h; exact absurd h occL_nil
 | _ :: _, [], h => by simp only [zipP, flatP] at h; exact absurd h occL_nil
 | t :: a, u :: b, h => by
  rw [zipP, flatP, occL_cons, occL_cons (t := u)] at h
  rw [occL_cons, occL_cons (t := u)]
  rcases h with h | h | h
  ·exact Or.inl (Or.inl h)
  ·exact Or.inr (Or.inl h)
  ·rcases zip_occ h with h | h
   ·exact Or.inl (Or.inr h)
   ·exact Or.inr (Or.inr h)
theorem zip_size : ∀ {a b : List Tm}, sizeL (flatP (zipP a b)) ≤ sizeL a + sizeL b
 | [], _ => by simp [zipP, flatP, sizeL]
 | _ :: _, [] => by simp [zipP, flatP, sizeL]
 | t :: a, u :: b => by
  rw [zipP, flatP]
  have h0 := zip_size (a := a) (b := b)
  have h1 := size_cons t (u :: flatP (zipP a b))
  have h2 := size_cons u (flatP (zipP a b))
  have h3 := size_cons t a
  have h4 := size_cons u b
  simp only at h1 h2 ⊢
  omega
theorem zip_err : ∀ {a b : List Tm}, errL a = 0 → errL b = 0 → errL (flatP (zipP a b)) = 0
 | [], _, _, _ => by simp [zipP, flatP, errL]
 | _ :: _, [], _, _ => by simp [zipP, flatP, errL]
 | t :: a, u :: b, h1, h2 => by
  rw [zipP, flatP]
  obtain ⟨g1, g2⟩ := err_two.1 h1
  obtain ⟨g3, g4⟩ := err_two.1 h2
  exact err_two.2 ⟨g1, err_two.2 ⟨g3, zip_err g2 g4⟩⟩
def occB (y : ByteArray) (l : List Tm) : Bool := (preL l).any fun k => k.name.toList == y.toList
theorem occB_iff {y : ByteArray} {l : List Tm} : occB y l = true ↔ occL y l := by
 unfold occB occL
 rw [List.any_eq_true]
 constructor
 ·rintro ⟨k, hk, e⟩
  exact ⟨k, hk, bytes_inj (by simpa using e)⟩
 ·rintro ⟨k, hk, e⟩
  exact ⟨k, hk, bytes_yes e⟩
def cntV (V : List ByteArray) (l : List Tm) : Nat := (V.filter fun y => occB y l).length
theorem filter_le {α : Type} {p q : α → Bool} : ∀ V : List α, (∀ y ∈ V, q y = true → p y = true) → (V.filter q).length ≤ (V.filter p).length
 | [], _ => by simp
 | v :: V, h => by
  have ih := filter_le V fun y hy => h y (by simp [hy])
  cases hq : q v with
  | true =>
   rw [List.filter_cons_of_pos hq, List.filter_cons_of_pos (h v (by simp) hq)]
   simp only [List.length_cons]
   omega
  | false =>
   rw [List.filter_cons_of_neg (by rw [hq]; simp)]
   cases hp : p v with
   | true => rw [List.filter_cons_of_pos hp]; simp only [List.length_cons]; omega
   | false => rw [List.filter_cons_of_neg (by rw [hp]; simp)]; exact ih
theorem filter_lt {α : Type} {p q : α → Bool} : ∀ V : List α, (∀ y ∈ V, q y = true → p y = true) → (∃ x ∈ V, p x = true ∧ q x = false) → (V.filter q).length < (V.filter p).length
 | [], _, ⟨x, hx, _⟩ => by cases hx
 | v :: V, h, ⟨x, hx, h1, h2⟩ => by
  have hle := filter_le V fun y hy => h y (by simp [hy])
  rcases List.mem_cons.1 hx with rfl | hx
  ·rw [List.filter_cons_of_neg (by rw [h2]; simp), List.filter_cons_of_pos h1]
   simp only [List.length_cons]
   omega
  ·have ih := filter_lt V (fun y hy => h y (by simp [hy])) ⟨x, hx, h1, h2⟩
   cases hq : q v with
   | true =>
    rw [List.filter_cons_of_pos hq, List.filter_cons_of_pos (h v (by simp) hq)]
    simp only [List.length_cons]
    omega
   | false =>
    rw [List.filter_cons_of_neg (by rw [hq]; simp)]
    cases hp : p v with
    | true => rw [List.filter_cons_of_pos hp]; simp only [List.length_cons]; omega
    | false => rw [List.filter_cons_of_neg (by rw [hp]; simp)]; exact ih
theorem not_inB {x : ByteArray} {t : Tm} (hx : varB x = true) (h : ¬ inB x (varsP [] (preL [t])) = true) : ¬ occL x [t] := by
 rintro ⟨k, hk, e⟩
 have h1 := (varsP_has (preL [t]) []).2 k hk (by rw [e]; exact hx)
 refine h ?_
 unfold inB
 rw [List.any_eq_true]
 exact ⟨k.name, h1, bytes_yes e⟩
theorem bind_facts {s : List Bd} {L : List Tm} {x : ByteArray} {t : Tm} (h : OkS s) (hx : varB x = true) (hn : ∀ d ∈ s, d.nm ≠ x) (he : errL [t] = 0) (ht : ∀ e ∈ s, ¬ occL e.nm [t]) (ho : ¬ occL x [t]) (hL : errL L = 0) :
  OkS (addS s x t) ∧ (∀ y, varB y = true → occL y (onL (addS s x t) L) → occL y (onL s L) ∨ occL y [t]) ∧ ¬ occL x (onL (addS s x t) L) := by
 have h1 := h.add hx hn he ht ho
 have h2 := add_on h hx hn h1 L hL
 have key : ∀ y, varB y = true → occL y (onL (addS s x t) L) → (occL y (onL s L) ∧ forT [⟨x, t⟩] y = none) ∨ occL y [t] := fun y hy hoc => by
  rw [h2] at hoc
  rcases occ_on (one_vars hx) hy _ (errL_on2 h L hL) hoc with h3 | ⟨d, hd, _, h4⟩
  ·exact Or.inl h3
  ·have e : d = ⟨x, t⟩ := by simpa using hd
   rw [e] at h4
   exact Or.inr h4
 refine ⟨h1, fun y hy hoc => (key y hy hoc).imp (fun h => h.1) id, fun hoc => ?_⟩
 rcases key x hx hoc with ⟨_, h3⟩ | h3
 ·simp [forT] at h3
 ·exact ho h3
theorem u_ends (V : List ByteArray) : ∀ (c z : Nat) (s : List Bd) (l : List Pr), OkS s → errL (flatP l) = 0 → (∀ y, varB y = true → occL y (onL s (flatP l)) → y ∈ V) → cntV (V.filter varB) (onL s (flatP l)) ≤ c → sizeL (onL s (flatP l)) ≤ z → ∃ n r, uRun false n s l = some r := by
 intro c
 induction c using Nat.strongRecOn with
 | _ c ihc =>
  intro z
  induction z using Nat.strongRecOn with
  | _ z ihz =>
   intro s l hs he hV hc hz
   have stop : ∀ e s', uNext false s l = .stop e s' → ∃ n r, uRun false n s l = some r := fun e s' h => ⟨1, (e, s'), by rw [uRun, h]⟩
   have go : ∀ s' l', uNext false s l = .go s' l' → (∃ n r, uRun false n s' l' = some r) → ∃ n r, uRun false n s l = some r := fun s' l' h ⟨n, r, h2⟩ => ⟨n + 1, r, by rw [uRun, h]; exact h2⟩
   cases l with
   | nil => exact stop 0 s rfl
   | cons p l =>
    obtain ⟨e1, e2⟩ := err_two.1 he
    obtain ⟨e2, e3⟩ := err_two.1 e2
    have ea := errL_onT2 hs e1
    have eb := errL_onT2 hs e2
    have ga := hs.goneT e1
    have gb := hs.goneT e2
    rw [flatP, onL_cons, onL_cons] at hV hc hz
    rw [uNext_cons] at stop go
    generalize onT s p.l = a at *
    generalize onT s p.r = b at *
    have hself : ∀ u : Tm, occL u.name [u] := fun u => by obtain ⟨n, k⟩ := u; exact occL_node.2 (Or.inl rfl)
    have inA : ∀ y, occL y [a] → occL y (a :: b :: onL s (flatP l)) := fun y h => occL_cons.2 (Or.inl h)
    have inBb : ∀ y, occL y [b] → occL y (a :: b :: onL s (flatP l)) := fun y h => occL_cons.2 (Or.inr (occL_cons.2 (Or.inl h)))
    have inL : ∀ y, occL y (onL s (flatP l)) → occL y (a :: b :: onL s (flatP l)) := fun y h => occL_cons.2 (Or.inr (occL_cons.2 (Or.inr h)))
    have hsz : sizeL (a :: b :: onL s (flatP l)) = sizeL [a] + (sizeL [b] + sizeL (onL s (flatP l))) := by rw [size_cons, size_cons b]
    have pa := sizeL_pos a
    have pb := sizeL_pos b
    have same : ∀ l2, errL (flatP l2) = 0 → (∀ y, occL y (onL s (flatP l2)) → occL y (a :: b :: onL s (flatP l))) → sizeL (onL s (flatP l2)) < sizeL (a :: b :: onL s (flatP l)) → ∃ n r, uRun false n s l2 = some r := fun l2 h1 h2 h3 =>
     ihz _ (Nat.lt_of_lt_of_le h3 hz) s l2 hs h1 (fun y hy ho => hV y hy (h2 y ho)) (Nat.le_trans (filter_le _ fun y hy hq => occB_iff.2 (h2 y (occB_iff.1 hq))) hc) (Nat.le_refl _)
    have bind : ∀ x t, varB x = true → (∀ d ∈ s, d.nm ≠ x) → errL [t] = 0 → (∀ e ∈ s, ¬ occL e.nm [t]) → occL x (a :: b :: onL s (flatP l)) → (∀ y, occL y [t] → occL y (a :: b :: onL s (flatP l))) → uPair false s l a b = uBind false s l x t → ∃ n r, uRun false n s (p :: l) = some r := fun x t hx hn het ht hox hot h => by
     unfold uBind at h
     by_cases hin : inB x (varsP [] (preL [t])) = true
     ·rw [if_pos hin] at h
      exact stop 6 s h
     ·rw [if_neg hin, if_neg (by simp)] at h
      have ho := not_inB hx hin
      obtain ⟨f1, f2, f3⟩ := bind_facts (L := flatP l) hs hx hn het ht ho e3
      have f2' : ∀ y, varB y = true → occL y (onL (addS s x t) (flatP l)) → occL y (a :: b :: onL s (flatP l)) := fun y hy hoc => (f2 y hy hoc).elim (inL y) (hot y)
      have hlt : cntV (V.filter varB) (onL (addS s x t) (flatP l)) < c := by
       refine Nat.lt_of_lt_of_le (filter_lt _ (fun y hy hq => occB_iff.2 (f2' y (List.mem_filter.1 hy).2 (occB_iff.1 hq))) ⟨x, List.mem_filter.2 ⟨hV x hx hox, hx⟩, occB_iff.2 hox, ?_⟩) hc
       cases hq : occB x (onL (addS s x t) (flatP l)) with
       | false => rfl
       | true => exact absurd (occB_iff.1 hq) f3
      exact go _ l h (ihc _ hlt _ _ _ f1 e3 (fun y hy hoc => hV y hy (f2' y hy hoc)) (Nat.le_refl _) (Nat.le_refl _))
    by_cases h1 : 2000 < sizeL [a] ∨ 2000 < sizeL [b]
    ·exact stop 8 s (by unfold uPair; rw [if_pos h1])
    ·by_cases h2 : varB a.name = true
     ·by_cases h3 : a.name = b.name
      ·exact go s l (by unfold uPair; rw [if_neg h1, if_pos h2, if_pos h3]) (same l e3 inL (by omega))
      ·exact bind a.name b h2 (fun d hd e => ga d hd (by rw [e]; exact hself a)) eb gb (inA _ (hself a)) inBb (by unfold uPair; rw [if_neg h1, if_pos h2, if_neg h3])
     ·by_cases h3 : varB b.name = true
      ·exact bind b.name a h3 (fun d hd e => gb d hd (by rw [e]; exact hself b)) ea ga (inBb _ (hself b)) inA (by unfold uPair; rw [if_neg h1, if_neg h2, if_pos h3])
      ·by_cases h4 : a.name = b.name ∧ a.args.length = b.args.length
       ·refine go s (zipP a.args b.args ++ l) (by unfold uPair; rw [if_neg h1, if_neg h2, if_neg h3, if_pos h4]) ?_
        have sub : ∀ (u : Tm) y, occL y u.args → occL y [u] := fun u y h => by obtain ⟨n, k⟩ := u; exact occL_node.2 (Or.inr (Or.inl h))
        have erg : ∀ u : Tm, errL [u] = 0 → errL u.args = 0 := fun u h => by obtain ⟨n, k⟩ := u; exact (errL_parts h).2.1
        have szg : ∀ u : Tm, sizeL [u] = 1 + sizeL u.args := fun u => by obtain ⟨n, k⟩ := u; simp [sizeL]
        have hfl : onL s (flatP (zipP a.args b.args ++ l)) = flatP (zipP a.args b.args) ++ onL s (flatP l) := by
         rw [flatP_append, onL_append, onL_id]
         intro e hm hoc
         rcases zip_occ hoc with hoc | hoc
         ·exact ga e hm (sub a _ hoc)
         ·exact gb e hm (sub b _ hoc)
        refine same _ ?_ ?_ ?_
        ·rw [flatP_append]
         exact err_append.2 ⟨zip_err (erg a ea) (erg b eb), e3⟩
        ·intro y hoc
         rw [hfl] at hoc
         rcases occL_append.1 hoc with hoc | hoc
         ·rcases zip_occ hoc with hoc | hoc
          ·exact inA y (sub a y hoc)
          ·exact inBb y (sub b y hoc)
         ·exact inL y hoc
        ·rw [hfl, sizeL_append, hsz, szg a, szg b]
         have := zip_size (a := a.args) (b := b.args)
         omega
       ·exact stop 5 s (by unfold uPair; rw [if_neg h1, if_neg h2, if_neg h3, if_neg h4])
theorem u_ends0 (l : List Pr) (h : errL (flatP l) = 0) : ∃ n r, uRun false n [] l = some r := by
 refine u_ends ((preL (onL [] (flatP l))).map (·.name)) _ _ [] l okS_nil h (fun y _ hoc => ?_) (Nat.le_refl _) (Nat.le_refl _)
 obtain ⟨k, hk, e⟩ := hoc
 exact List.mem_map.2 ⟨k, hk, e⟩
def sAt (h : List (ByteArray × Tm)) : List Bd := h.foldl (fun s p => addS s p.1 p.2) []
theorem sAt_snoc (h : List (ByteArray × Tm)) (p : ByteArray × Tm) : sAt (h ++ [p]) = addS (sAt h) p.1 p.2 := by simp [sAt]
theorem sAt_take {h : List (ByteArray × Tm)} {j : Nat} (hj : j < h.length) : sAt (h.take (j + 1)) = addS (sAt (h.take j)) h[j].1 h[j].2 := by
 rw [List.take_succ_eq_append_getElem hj, sAt_snoc]
def MayAdd (s : List Bd) (x : ByteArray) (t : Tm) : Prop := varB x = true ∧ (∀ d ∈ s, d.nm ≠ x) ∧ errL [t] = 0 ∧ (∀ e ∈ s, ¬ occL e.nm [t]) ∧ ¬ occL x [t]
def GoodH (h : List (ByteArray × Tm)) : Prop := ∀ j (hj : j < h.length), MayAdd (sAt (h.take j)) h[j].1 h[j].2
theorem goodH_nil : GoodH [] := fun j hj => by simp at hj
theorem GoodH.snoc {h : List (ByteArray × Tm)} (g : GoodH h) {x : ByteArray} {t : Tm} (m : MayAdd (sAt h) x t) : GoodH (h ++ [(x, t)]) := by
 intro j hj
 by_cases e : j < h.length
 ·have h1 := g j e
  rw [List.take_append_of_le_length (by omega)]
  rw [List.getElem_append_left e]
  exact h1
 ·have e2 : j = h.length := by simp at hj; omega
  subst e2
  rw [List.take_append_of_le_length (by omega), List.take_length]
  simpa using m
theorem GoodH.ok {h : List (ByteArray × Tm)} (g : GoodH h) : ∀ j, j ≤ h.length → OkS (sAt (h.take j))
 | 0, _ => by simpa [sAt] using okS_nil
 | j + 1, hj => by
  rw [sAt_take (by omega)]
  obtain ⟨m1, m2, m3, m4, m5⟩ := g j (by omega)
  exact (g.ok j (by omega)).add m1 m2 m3 m4 m5
theorem GoodH.all {h : List (ByteArray × Tm)} (g : GoodH h) : OkS (sAt h) := by
 have := g.ok h.length (Nat.le_refl _)
 rwa [List.take_length] at this
theorem GoodH.absorb {h : List (ByteArray × Tm)} (g : GoodH h) {i : Nat} : ∀ j, i ≤ j → j ≤ h.length → ∀ L : List Tm, errL L = 0 → onL (sAt (h.take j)) (onL (sAt (h.take i)) L) = onL (sAt (h.take j)) L
 | 0, hi, _, L, he => by
  have e : i = 0 := by omega
  subst e
  exact (g.ok 0 (Nat.zero_le _)).idem he
 | j + 1, hi, hj, L, he => by
  by_cases e : i = j + 1
  ·subst e
   exact (g.ok _ hj).idem he
  ·have ih := g.absorb (i := i) j (by omega) (by omega) L he
   have o1 := g.ok j (by omega)
   have o2 := g.ok (j + 1) hj
   have hjl2 : j < h.length := by omega
   obtain ⟨m1, m2, _⟩ := g j hjl2
   rw [sAt_take (h := h) (j := j) (by omega)] at o2 ⊢
   rw [add_on o1 m1 m2 o2 _ (errL_on2 (g.ok i (by omega)) L he), add_on o1 m1 m2 o2 L he, ih]
theorem GoodH.bound {h : List (ByteArray × Tm)} (g : GoodH h) : ∀ j, j ≤ h.length → ∀ y, (∃ d ∈ sAt (h.take j), d.nm = y) ↔ ∃ i, ∃ hi : i < h.length, i < j ∧ h[i].1 = y
 | 0, _, y => by simp [sAt]
 | j + 1, hj, y => by
  have ih := g.bound j (by omega) y
  rw [sAt_take (by omega)]
  have hp := srtB_perm ((sAt (h.take j)).map (putB h[j].1 h[j].2) ++ [⟨h[j].1, h[j].2⟩])
  constructor
  ·rintro ⟨d, hd, e⟩
   rcases List.mem_append.1 (hp.subset hd) with hd | hd
   ·obtain ⟨d0, h0, rfl⟩ := List.mem_map.1 hd
    obtain ⟨i, hi, h1, h2⟩ := ih.1 ⟨d0, h0, e⟩
    exact ⟨i, hi, by omega, h2⟩
   ·have e2 : d = ⟨h[j].1, h[j].2⟩ := by simpa using hd
    rw [e2] at e
    exact ⟨j, by omega, by omega, e⟩
  ·rintro ⟨i, hi, h1, h2⟩
   by_cases e : i = j
   ·subst e
    exact ⟨⟨h[i].1, h[i].2⟩, hp.symm.subset (by simp), h2⟩
   ·obtain ⟨d0, h0, e0⟩ := ih.2 ⟨i, hi, by omega, h2⟩
    exact ⟨putB h[j].1 h[j].2 d0, hp.symm.subset (List.mem_append.2 (Or.inl (List.mem_map.2 ⟨d0, h0, rfl⟩))), e0⟩
theorem GoodH.once {h : List (ByteArray × Tm)} (g : GoodH h) {i j : Nat} (hi : i < h.length) (hj : j < h.length) (e : h[i].1 = h[j].1) : i = j := by
 have key : ∀ a b (ha : a < h.length) (hb : b < h.length), a < b → h[a].1 ≠ h[b].1 := fun a b ha hb hab e => by
  obtain ⟨d, hd, e1⟩ := (g.bound b (by omega) h[a].1).2 ⟨a, ha, hab, rfl⟩
  exact (g b hb).2.1 d hd (e1.trans e)
 rcases Nat.lt_trichotomy i j with h1 | h1 | h1
 ·exact absurd e (key i j hi hj h1)
 ·exact h1
 ·exact absurd e.symm (key j i hj hi h1)
def stood (h : List (ByteArray × Tm)) (i j : Nat) (hi : i < h.length) : Tm := onT (sAt (h.take j)) ⟨h[i].1, []⟩
theorem onT_absorb {h : List (ByteArray × Tm)} (g : GoodH h) {i j : Nat} (hij : i ≤ j) (hj : j ≤ h.length) {t : Tm} (he : errL [t] = 0) : onT (sAt (h.take j)) (onT (sAt (h.take i)) t) = onT (sAt (h.take j)) t := by
 have h1 := g.absorb j hij hj [t] he
 rw [onL_cons, onL_cons, onL_cons] at h1
 simpa [onL] using h1
theorem stood_on {h : List (ByteArray × Tm)} (g : GoodH h) {i j : Nat} (hi : i < h.length) (hj : j ≤ h.length) (hn : nameB h[i].1 = true) : onT (sAt h) (stood h i j hi) = stood h i h.length hi := by
 have h1 := onT_absorb g hj (Nat.le_refl _) (err_leaf hn)
 unfold stood
 rw [List.take_length] at h1 ⊢
 exact h1
theorem stood_later {h : List (ByteArray × Tm)} (g : GoodH h) {i j k : Nat} (hi : i < h.length) (hj : j ≤ h.length) (hn : nameB h[i].1 = true) (hk : k < h.length) (ho : occL h[k].1 [stood h i j hi]) : j ≤ k := by
 rcases Nat.lt_or_ge k j with h1 | h1
 ·obtain ⟨d, hd, e⟩ := (g.bound j hj h[k].1).2 ⟨k, hk, h1, rfl⟩
  have h2 := (g.ok j hj).goneT (err_leaf hn) d hd
  rw [e] at h2
  exact absurd ho h2
 ·exact h1
def gNu (lk : ByteArray → Option Tm) (s : ByteArray) (bs : List Tm) : Tm := if varB s = true then (match lk s with | some x => x | none => ⟨s, bs⟩) else ⟨s, bs⟩
def gLu (lk : ByteArray → Option Tm) : List Tm → List Tm
 | [] => []
 | ⟨s, a⟩ :: r => gNu lk s (gLu lk a) :: gLu lk r
def gTu (lk : ByteArray → Option Tm) (t : Tm) : Tm := gNu lk t.name (gLu lk t.args)
theorem gL_mapu (lk : ByteArray → Option Tm) : ∀ l : List Tm, gLu lk l = l.map (gTu lk)
 | [] => by simp [gLu]
 | ⟨s, a⟩ :: r => by rw [gLu, gL_mapu lk r]; rfl
theorem gL_append (lk : ByteArray → Option Tm) (a b : List Tm) : gLu lk (a ++ b) = gLu lk a ++ gLu lk b := by simp [gL_mapu]
abbrev Ev := Bool → (Nat → Prop) → World → Prop
structure EvOk (E : Ev) (Mt : Nat → Prop) : Prop where
 keep : ∀ f Y w w', E f Y w → (∀ b, Y b → w'.heap[b]? = w.heap[b]?) → E f Y w'
 inY : ∀ f Y w, E f Y w → ∀ b, Y b → b < w.heap.size
 mt : ∀ f Y w, E f Y w → ∀ b, Mt b → Y b
theorem EvOk.below {E : Ev} {Mt : Nat → Prop} (h : EvOk E Mt) {f : Bool} {Y : Nat → Prop} {w w' : World} (he : E f Y w) (hb : Below w.heap.size w w') : E f Y w' := h.keep f Y w w' he fun b hy => hb.block b (h.inY f Y w he b hy)
def sV (S : Nat) : Value := .func (.func 119) #[.pointer (some ⟨S, 0, none⟩)] #[]
def LkPost (E : Ev) (Mt : Nat → Prop) (o : Option Tm) (f : Bool) (Y : Nat → Prop) (w : World) (e : Ending) (w' : World) : Prop :=
 ∃ (s : ByteArray) (a : Option Addr) (n c : Nat) (ok : Bool) (f' : Bool) (Y' : Nat → Prop), e = .returned (.tuple #[.agg #[.string s, .slice a n c], .bool ok]) ∧ E f' Y' w' ∧ (∀ b, Y' b → Y b ∨ w.heap.size ≤ b) ∧ (f = true → f' = true) ∧ ExQ Mt w w' ∧
  ((ok = true ∧ ∃ x : Tm, s = x.name ∧ n = x.args.length ∧ Sl w' Y' a x.args ∧ (f' = false → o = some x)) ∨ (ok = false ∧ (f' = false → o = none)))
def LkC (E : Ev) (Mt : Nat → Prop) (S : Nat) (o : Option Tm) (nm : ByteArray) : Prop :=
 ∀ (f : Bool) (Y : Nat → Prop) (w : World), E f Y w → Calls Tryz.prog 119 #[.pointer (some ⟨S, 0, none⟩), .string nm] w fun e w' => LkPost E Mt o f Y w e w'
def FlC (w : World) (tgt : Tm) (n : Nat) (f' : Bool) (s' : ByteArray) (a' : Option Addr) (l' : Nat) (m : Int) (k : Nat) (w' : World) : Prop :=
 (∃ y : Tm, s' = y.name ∧ l' = y.args.length ∧ m = (n : Int) - sizeL [y] ∧ sizeL [y] ≤ n ∧ Sl w' (fun b => w.heap.size + k ≤ b) a' y.args ∧ (f' = false → y = tgt)) ∨ (m = -1 ∧ (f' = false → n < sizeL [tgt]))
def FlPost (E : Ev) (Mt : Nat → Prop) (F : Nat) (sv : Value) (tgt : Tm) (n : Nat) (f : Bool) (Y : Nat → Prop) (w : World) (e : Ending) (w' : World) : Prop :=
 ∃ (s' : ByteArray) (a' : Option Addr) (l' c' : Nat) (m : Int) (f' : Bool) (Y' : Nat → Prop), e = .returned (.agg #[.string s', .slice a' l' c']) ∧ Blk w' F #[.int .i64 m, sv] 113 ∧ ExQ (fun b => b = F ∨ Mt b) w w' ∧ E f' Y' w' ∧ (∀ b, Y' b → Y b ∨ w.heap.size ≤ b) ∧ (f = true → f' = true) ∧ FlC w tgt n f' s' a' l' m 0 w'
theorem fl_end {E : Ev} {Mt : Nat → Prop} (hE : EvOk E Mt) {w w9 : World} {F : Nat} {sv : Value} {tgt : Tm} {n : Nat} {f f' : Bool} {Y Y' : Nat → Prop} {s' : ByteArray} {a' : Option Addr} {l' c' : Nat} {m : Int} {v0 v1 : Value} (hF : F < w.heap.size) (hY : ∀ b, Y b → b < w.heap.size)
  (h1 : Blk w9 F #[.int .i64 m, sv] 113) (hx : ExQ (fun b => b = F ∨ Mt b) w w9) (hE9 : E f' Y' w9) (hsub : ∀ b, Y' b → Y b ∨ w.heap.size + 2 ≤ b) (hff : f = true → f' = true) (hc : FlC w tgt n f' s' a' l' m 2 w9) :
  FlPost E Mt F sv tgt n f Y w (.returned (.agg #[.string s', .slice a' l' c'])) ((w9.setCell ⟨w.heap.size + 1, 0, none⟩ v0).setCell ⟨w.heap.size + 1, 1, none⟩ v1) := by
 have hk : ∀ b, b ≠ w.heap.size + 1 → ((w9.setCell ⟨w.heap.size + 1, 0, none⟩ v0).setCell ⟨w.heap.size + 1, 1, none⟩ v1).heap[b]? = w9.heap[b]? := fun b hb => by
  rw [Below.heap_setCell _ _ _ _ (by simpa using hb), Below.heap_setCell _ _ _ _ (by simpa using hb)]
 refine ⟨s', a', l', c', m, f', Y', rfl, (h1.setOther _ _ (by omega)).setOther _ _ (by omega), (hx.setNew (by omega) _ _).setNew (by omega) _ _, hE.keep _ _ _ _ hE9 fun b hb => hk b fun e => ?_, fun b hb => ?_, hff, ?_⟩
 ·rcases hsub b hb with h | h
  ·have := hY b h; omega
  ·omega
 ·rcases hsub b hb with h | h
  ·exact Or.inl h
  ·exact Or.inr (by omega)
 ·rcases hc with ⟨y, e1, e2, e3, e4, e5, e6⟩ | hc
  ·exact Or.inl ⟨y, e1, e2, e3, e4, (e5.kept fun b hb => hk b (by omega)).mono fun b hb _ => by omega, e6⟩
  ·exact Or.inr hc
theorem wayq1 {Q : Nat → Prop} {w0 w1 : World} (h : ExQ Q w0.drew w1) : ExQ Q w0 w1 := ((ExQ.refl Q w0).drew).trans h
theorem wayq2 {Q : Nat → Prop} {w0 w1 : World} {o : Obj} (h : ExQ Q (w0.alloc o).drew w1) : ExQ Q w0 w1 := (((ExQ.refl Q w0).alloc o).drew).trans h
theorem wayq2b {Q : Nat → Prop} {w0 w1 : World} {cs : Array Value} {T : Nat} (h : ExQ Q (w0.alloc (.cells cs T)).drew w1) (hQ : ¬ Q w0.heap.size) : Blk w1 w0.heap.size cs T := ((Blk.new w0 cs T).drewN 1).exq h hQ
set_option maxHeartbeats 1000000 in
theorem ffillL_of {E : Ev} {Mt : Nat → Prop} (hE : EvOk E Mt) (F S : Nat) (lk : ByteArray → Option Tm) (t : Tm) (n : Nat) (a : Option Addr) (c : Nat) (w : World) (X Y : Nat → Prop) (f : Bool) (hn : n ≤ 1000000) (hXF : ∀ b, X b → b ≠ F ∧ ¬ Mt b) (hYF : ¬ Y F) (hs : Sl w X a t.args) (hF : Blk w F #[.int .i64 (n : Int), sV S] 113) (hEv : E f Y w)
  (hL : varB t.name = true → LkC E Mt S (lk t.name) t.name)
  (h : ∀ (w' : World) (f' : Bool) (Y' : Nat → Prop), Sl w' X a t.args → Blk w' F #[.int .i64 (n : Int), sV S] 113 → E f' Y' w' → ¬ Y' F → Calls Tryz.prog 90 #[.pointer (some ⟨F, 0, none⟩), .agg #[.string t.name, .slice a t.args.length c], .func (.func 73) #[.pointer (some ⟨F, 0, none⟩)] #[]] w' fun e w'' => FlPost E Mt F (sV S) ⟨t.name, gLu lk t.args⟩ n f' Y' w' e w'') :
  Calls Tryz.prog 73 #[.pointer (some ⟨F, 0, none⟩), .agg #[.string t.name, .slice a t.args.length c]] w fun e w' => FlPost E Mt F (sV S) (gTu lk t) n f Y w e w' := by
 have hmf : ∀ (fn : Fn) (first cap : Array Value) (w : World), (Instr.makeFunc fn first cap).run Tryz.prog w = .ok (.func fn first cap) w := fun _ _ _ _ => rfl
 have H := hide h
 have HS := hide hs
 have HF := hide hF
 have HE := hide hEv
 have HL := hide hL
 have HXF := hide hXF
 have hFl : F < w.heap.size := hF.lt
 have HYW : Hid (∀ b, Y b → b < w.heap.size) := hE.inY _ _ _ hEv
 have HMT : Hid (∀ b, Mt b → Y b) := hE.mt _ _ _ hEv
 have hFM : ¬ Mt F := fun h => hYF (HMT.out F h)
 clear h hs hF hEv hL hXF
 have HB0 := hide (((Below.refl w.heap.size w).alloc (Nat.le_refl _) (.cells #[.string t.name, .slice a t.args.length c] 32)).alloc (by simp) (.cells #[.string ⟨#[]⟩, .slice none 0 0] 32))
 have f1 : ∀ o o', ((w.alloc o).alloc o').cell? ⟨F, 1, none⟩ = some (sV S) := fun o o' => ((HF.out.alloc o).alloc o').cell 1
 have RW : Hid (Blk ((w.alloc (.cells #[.string t.name, .slice a t.args.length c] 32)).alloc (.cells #[.string ⟨#[]⟩, .slice none 0 0] 32)) (w.heap.size + 1) #[.string ⟨#[]⟩, .slice none 0 0] 32) := by
  have h := Blk.new (w.alloc (.cells #[.string t.name, .slice a t.args.length c] 32)) #[.string ⟨#[]⟩, .slice none 0 0] 32
  unfold Hid
  simpa using h
 have EXW := hide (((ExQ.refl (fun b => b = F ∨ Mt b) w).alloc (.cells #[.string t.name, .slice a t.args.length c] 32)).alloc (.cells #[.string ⟨#[]⟩, .slice none 0 0] 32))
 have hW2 : Hid (((w.alloc (.cells #[.string t.name, .slice a t.args.length c] 32)).alloc (.cells #[.string ⟨#[]⟩, .slice none 0 0] 32)).heap.size = w.heap.size + 2) := by unfold Hid; simp
 have hR1 : ¬ (w.heap.size + 1 = F ∨ Mt (w.heap.size + 1)) := fun h => by
  rcases h with h | h
  ·omega
  ·have := HYW.out _ (HMT.out _ h); omega
 cases hv : varB t.name with
 | false =>
  have HV := hide hv
  have HT : Hid (gTu lk t = ⟨t.name, gLu lk t.args⟩) := by unfold Hid gTu gNu; rw [hv]; rfl
  clear hv
  go_enter Tryz.func73, Tryz.ntmps73
  go_wp2_with (go_at_call 36; refine (isVariable_all _ _).mono ?_; rintro e w' ⟨rfl, rfl⟩; rw [HV.out])
  refine (H.out _ f Y (HS.out.later HB0.out) (by exact (HF.out.alloc _).alloc _) (hE.below HE.out HB0.out) hYF).mono ?_
  rintro e w9 ⟨s', a', l', c', m, f', Y', rfl, hF1, hx1, hE1, hsub1, hff1, hc1⟩
  have R9 := hide (RW.out.exq hx1 hR1)
  have HX9 := hide (EXW.out.trans hx1)
  have HF9 := hide hF1
  have HE9 := hide hE1
  have HSUB := hide hsub1
  have HFF := hide hff1
  have HC := hide hc1
  clear hF1 hx1 hE1 hsub1 hff1 hc1
  have r0 := R9.out.c0
  have r1 := R9.out.c1
  have rf := R9.out.frozen
  go_wp2_with fail
  refine bodyPost_ret (v := .agg #[.string s', .slice a' l' c']) (by simp [results, Tryz.results73, go_sem, World.cell?_setCell_same, World.cell?_setCell_other, r0, r1]) rfl ?_
  rw [HT.out]
  refine fl_end hE (by omega) HYW.out HF9.out HX9.out HE9.out (fun b hb => (HSUB.out b hb).imp id fun h => by rw [hW2.out] at h; exact h) HFF.out ?_
  rcases HC.out with ⟨y, e1, e2, e3, e4, e5, e6⟩ | h
  ·exact Or.inl ⟨y, e1, e2, e3, e4, e5.mono fun b hb _ => by have := hW2.out; omega, e6⟩
  ·exact Or.inr h
 | true =>
  have HV := hide hv
  have HLK := hide (HL.out hv)
  clear hv HL
  have E0 := hide (hE.below HE.out HB0.out)
  have F0 := hide ((HF.out.alloc (.cells #[.string t.name, .slice a t.args.length c] 32)).alloc (.cells #[.string ⟨#[]⟩, .slice none 0 0] 32))
  have S0 := hide (HS.out.later HB0.out)
  have T0 := hide ((Blk.new w #[.string t.name, .slice a t.args.length c] 32).alloc (.cells #[.string ⟨#[]⟩, .slice none 0 0] 32))
  have g1 := F0.out.cell 1
  have g0 := T0.out.cell 0
  simp only [List.getElem?_toArray, List.getElem?_cons_succ, List.getElem?_cons_zero] at g1 g0
  have LKA : Hid (∀ w', Below ((w.alloc (.cells #[.string t.name, .slice a t.args.length c] 32)).alloc (.cells #[.string ⟨#[]⟩, .slice none 0 0] 32)).heap.size ((w.alloc (.cells #[.string t.name, .slice a t.args.length c] 32)).alloc (.cells #[.string ⟨#[]⟩, .slice none 0 0] 32)) w' → Calls Tryz.prog 119 #[.pointer (some ⟨S, 0, none⟩), .string t.name] w' fun e w'' => LkPost E Mt (lk t.name) f Y w' e w'') := fun w' hb => HLK.out f Y w' (hE.below E0.out hb)
  have HKP : Hid (∀ w', ExQ Mt ((w.alloc (.cells #[.string t.name, .slice a t.args.length c] 32)).alloc (.cells #[.string ⟨#[]⟩, .slice none 0 0] 32)) w' → w'.cell? ⟨F, 1, none⟩ = some (sV S) ∧ w'.cell? ⟨w.heap.size, 0, none⟩ = some (.string t.name)) := fun w' hb => ⟨(F0.out.exq hb hFM).cell 1, (T0.out.exq hb (fun h => by have := HYW.out _ (HMT.out _ h); omega)).cell 0⟩
  have nF : ((w.alloc (.cells #[.string t.name, .slice a t.args.length c] 32)).alloc (.cells #[.string ⟨#[]⟩, .slice none 0 0] 32)).heap.size ≠ F := by have := hW2.out; omega
  have nT : ((w.alloc (.cells #[.string t.name, .slice a t.args.length c] 32)).alloc (.cells #[.string ⟨#[]⟩, .slice none 0 0] 32)).heap.size ≠ w.heap.size := by have := hW2.out; omega
  have nM : ¬ Mt ((w.alloc (.cells #[.string t.name, .slice a t.args.length c] 32)).alloc (.cells #[.string ⟨#[]⟩, .slice none 0 0] 32)).heap.size := fun h => by have := HYW.out _ (HMT.out _ h); have := hW2.out; omega
  clear f1
  unfold sV at g1 HKP
  go_enter Tryz.func73, Tryz.ntmps73
  go_wp2_with (go_at_call 36; refine (isVariable_all _ _).mono ?_; rintro e w' ⟨rfl, rfl⟩; rw [HV.out])
  generalize ((w.alloc (.cells #[.string t.name, .slice a t.args.length c] 32)).alloc (.cells #[.string ⟨#[]⟩, .slice none 0 0] 32)) = w0 at *
  go_region_held3 (fun w' => w'.cell? ⟨F, 1, none⟩ = some (.func (.func 119) #[.pointer (some ⟨S, 0, none⟩)] #[]) ∧ w'.cell? ⟨w.heap.size, 0, none⟩ = some (.string t.name)) (first | exact hS | exact ⟨g1, g0⟩ | exact two_keep hS nF nT | exact two_keep (two_keep hS nF nT) nF nT | go_keep)
   ((go_at_call 119; refine (LKA.out _ (by first | exact (Below.refl _ _).drew | exact ((Below.refl _ _).alloc (Nat.le_refl _) _).drew)).mono ?_; rintro e w1 ⟨s1, a1, n1, c1, ok1, f1, Y1, rfl, hE1, hsub1, hff1, hx1, hc1⟩; have HE1 := hide hE1; have HSUB1 := hide hsub1; have HFF1 := hide hff1; have HC1 := hide hc1; clear hE1 hsub1 hff1 hc1; (first | (have hB0 := wayq1 hx1; have hS := HKP.out _ hB0) | (have hB0 := wayq2 hx1; have xb := hide (wayq2b hx1 nM); have x0 := xb.out.cell 0; have x1 := xb.out.cell 1; have xf := xb.out.frozen; have hS := HKP.out _ hB0)); have HX1 := hide hx1; clear hx1))
  ·generalize hz : (w1.alloc (Obj.cells #[Value.string s1, Value.slice a1 n1 c1] 32)) = wz at *
   have hkz : ∀ b, b < w1.heap.size → wz.heap[b]? = w1.heap[b]? := fun b hb => by rw [← hz]; exact Below.heap_alloc _ _ _ hb
   have hxz : ExQ Mt w0 wz := by rw [← hz]; exact hB0.alloc _
   have HS1 : Hid (∀ b, Y1 b → wz.heap[b]? = w1.heap[b]?) := fun b hb => hkz b (hE.inY _ _ _ HE1.out b hb)
   have HU1 : Hid (∀ b, Y1 b → Y b ∨ w.heap.size + 2 ≤ b) := fun b hb => (HSUB1.out b hb).imp id fun h => by have h2 := hW2.out; have h3 : w0.heap.size ≤ b := h; omega
   have q0 : wz.cell? ⟨w1.heap.size, 0, none⟩ = some (.string s1) := by rw [← hz]; exact (Blk.new w1 _ _).cell 0
   have q1 : wz.cell? ⟨w1.heap.size, 1, none⟩ = some (.slice a1 n1 c1) := by rw [← hz]; exact (Blk.new w1 _ _).cell 1
   have HXZ := hide hxz
   have HEZ : Hid (E f1 Y1 wz) := hE.keep _ _ _ _ HE1.out HS1.out
   have HFZ := hide (F0.out.exq hxz hFM)
   have HRZ := hide (RW.out.exq hxz (fun h => hR1 (Or.inr h)))
   have HTZ := hide (T0.out.exq hxz (fun h => by have := HYW.out _ (HMT.out _ h); omega))
   have HY1F : Hid (¬ Y1 F) := fun h => by
    rcases HU1.out F h with h1 | h1
    ·exact hYF h1
    ·omega
   have HSZ2 : Hid (w.heap.size + 2 ≤ wz.heap.size) := by have := hxz.size; have := hW2.out; unfold Hid; omega
   clear hxz hz hS hB0
   rcases HC1.out with ⟨rfl, x, rfl, rfl, hsx, hox⟩ | ⟨rfl, hox⟩
   ·have HSX : Hid (Sl wz Y1 a1 x.args) := hsx.kept HS1.out
    have HOX := hide hox
    clear hsx hox HC1
    go_wp2_with fail
    refine (knotC_any F _ x n _ wz Y1 ⟨a1, c1, rfl, HSX.out⟩ (fun b hb e => HY1F.out (e ▸ hb)) hn HFZ.out).mono ?_
    rintro e w9 ⟨s', a', l', c', m, rfl, hF1, hx1, hy1, hn1⟩
    have R9 := hide (HRZ.out.ex hx1 (by omega))
    have HX9 : Hid (ExQ (fun b => b = F ∨ Mt b) w w9) := (EXW.out.trans (HXZ.out.mono fun b hb _ => Or.inr hb)).trans (ExQ.ofEx hx1 (Or.inl rfl))
    have HE9 : Hid (E f1 Y1 w9) := hE.keep _ _ _ _ HEZ.out fun b hb => hx1.block b (hE.inY _ _ _ HEZ.out b hb) (fun e => HY1F.out (e ▸ hb))
    have HF9 := hide hF1
    have HCC : Hid (FlC w (gTu lk t) n f1 s' a' l' m 2 w9) := by
     by_cases hle : sizeL [x] ≤ n
     ·obtain ⟨e1, e2, e3, e4⟩ := hy1 hle
      exact Or.inl ⟨x, e2, e3, e1, hle, e4.mono fun b hb _ => by have := HSZ2.out; omega, fun hf => by unfold gTu gNu; rw [HV.out, HOX.out hf]; rfl⟩
     ·exact Or.inr ⟨hn1 (by omega), fun hf => by unfold gTu gNu; rw [HV.out, HOX.out hf]; simpa using hle⟩
    clear hF1 hx1 hy1 hn1
    have r0 := R9.out.c0
    have r1 := R9.out.c1
    have rf := R9.out.frozen
    go_wp2_with fail
    refine bodyPost_ret (v := .agg #[.string s', .slice a' l' c']) (by simp [results, Tryz.results73, go_sem, World.cell?_setCell_same, World.cell?_setCell_other, r0, r1]) rfl ?_
    exact fl_end hE (by omega) HYW.out HF9.out HX9.out HE9.out HU1.out HFF1.out HCC.out
   ·have HOX := hide hox
    clear hox HC1
    have t0 := HTZ.out.c0
    have t1 := HTZ.out.c1
    go_wp2_with fail
    refine (H.out wz f1 Y1 (S0.out.exq HXZ.out (fun b hb => (HXF.out b hb).2)) HFZ.out HEZ.out HY1F.out).mono ?_
    rintro e w9 ⟨s', a', l', c', m, f', Y', rfl, hF1, hx1, hE1, hsub1, hff1, hc1⟩
    have R9 := hide (HRZ.out.exq hx1 hR1)
    have HX9 : Hid (ExQ (fun b => b = F ∨ Mt b) w w9) := (EXW.out.trans (HXZ.out.mono fun b hb _ => Or.inr hb)).trans hx1
    have HE9 := hide hE1
    have HF9 := hide hF1
    have HU9 : Hid (∀ b, Y' b → Y b ∨ w.heap.size + 2 ≤ b) := fun b hb => by
     rcases hsub1 b hb with h | h
     ·exact HU1.out b h
     ·right; have := HSZ2.out; omega
    have HFF9 : Hid (f = true → f' = true) := fun h => hff1 (HFF1.out h)
    have HCC : Hid (FlC w (gTu lk t) n f' s' a' l' m 2 w9) := by
     have hT : f' = false → gTu lk t = ⟨t.name, gLu lk t.args⟩ := fun hf => by
      have hf1 : f1 = false := by
       cases h : f1 with
       | false => rfl
       | true => have := hff1 h; rw [hf] at this; cases this
      unfold gTu gNu; rw [HV.out, HOX.out hf1]; rfl
     rcases hc1 with ⟨y, e1, e2, e3, e4, e5, e6⟩ | ⟨e1, e2⟩
     ·exact Or.inl ⟨y, e1, e2, e3, e4, e5.mono fun b hb _ => by have := HSZ2.out; omega, fun hf => by rw [hT hf]; exact e6 hf⟩
     ·exact Or.inr ⟨e1, fun hf => by rw [hT hf]; exact e2 hf⟩
    clear hF1 hx1 hE1 hsub1 hff1 hc1
    have r0 := R9.out.c0
    have r1 := R9.out.c1
    have rf := R9.out.frozen
    go_wp2_with fail
    refine bodyPost_ret (v := .agg #[.string s', .slice a' l' c']) (by simp [results, Tryz.results73, go_sem, World.cell?_setCell_same, World.cell?_setCell_other, r0, r1]) rfl ?_
    exact fl_end hE (by omega) HYW.out HF9.out HX9.out HE9.out HU9.out HFF9.out HCC.out
  ·generalize hz : ((w1.setCell { block := w0.heap.size, off := 0 } (Value.string s1)).setCell { block := w0.heap.size, off := 1 } (Value.slice a1 n1 c1)) = wz at *
   have hxz : ExQ Mt w0 wz := by rw [← hz]; exact (hB0.setNew (Nat.le_refl _) _ _).setNew (Nat.le_refl _) _ _
   have HU1 : Hid (∀ b, Y1 b → Y b ∨ w.heap.size + 2 ≤ b) := fun b hb => (HSUB1.out b hb).imp id fun h => by have h2 := hW2.out; simp at h; omega
   have HS1 : Hid (∀ b, Y1 b → wz.heap[b]? = w1.heap[b]?) := fun b hb => by
    have hne : b ≠ w0.heap.size := fun e => by
     rcases HSUB1.out b hb with h | h
     ·have := HYW.out b h; have := hW2.out; omega
     ·simp at h; omega
    rw [← hz, Below.heap_setCell _ _ _ _ (by simpa using hne), Below.heap_setCell _ _ _ _ (by simpa using hne)]
   have q0 : wz.cell? ⟨w0.heap.size, 0, none⟩ = some (.string s1) := by rw [← hz]; simp [World.cell?_setCell_same, World.cell?_setCell_other, x0, x1]
   have q1 : wz.cell? ⟨w0.heap.size, 1, none⟩ = some (.slice a1 n1 c1) := by rw [← hz]; simp [World.cell?_setCell_same, World.cell?_setCell_other, x0, x1]
   have HXZ := hide hxz
   have HEZ : Hid (E f1 Y1 wz) := hE.keep _ _ _ _ HE1.out HS1.out
   have HFZ := hide (F0.out.exq hxz hFM)
   have HRZ := hide (RW.out.exq hxz (fun h => hR1 (Or.inr h)))
   have HTZ := hide (T0.out.exq hxz (fun h => by have := HYW.out _ (HMT.out _ h); omega))
   have HY1F : Hid (¬ Y1 F) := fun h => by
    rcases HU1.out F h with h1 | h1
    ·exact hYF h1
    ·omega
   have HSZ2 : Hid (w.heap.size + 2 ≤ wz.heap.size) := by have := hxz.size; have := hW2.out; unfold Hid; omega
   clear hxz hz hS hB0
   rcases HC1.out with ⟨rfl, x, rfl, rfl, hsx, hox⟩ | ⟨rfl, hox⟩
   ·have HSX : Hid (Sl wz Y1 a1 x.args) := hsx.kept HS1.out
    have HOX := hide hox
    clear hsx hox HC1
    go_wp2_with fail
    refine (knotC_any F _ x n _ wz Y1 ⟨a1, c1, rfl, HSX.out⟩ (fun b hb e => HY1F.out (e ▸ hb)) hn HFZ.out).mono ?_
    rintro e w9 ⟨s', a', l', c', m, rfl, hF1, hx1, hy1, hn1⟩
    have R9 := hide (HRZ.out.ex hx1 (by omega))
    have HX9 : Hid (ExQ (fun b => b = F ∨ Mt b) w w9) := (EXW.out.trans (HXZ.out.mono fun b hb _ => Or.inr hb)).trans (ExQ.ofEx hx1 (Or.inl rfl))
    have HE9 : Hid (E f1 Y1 w9) := hE.keep _ _ _ _ HEZ.out fun b hb => hx1.block b (hE.inY _ _ _ HEZ.out b hb) (fun e => HY1F.out (e ▸ hb))
    have HF9 := hide hF1
    have HCC : Hid (FlC w (gTu lk t) n f1 s' a' l' m 2 w9) := by
     by_cases hle : sizeL [x] ≤ n
     ·obtain ⟨e1, e2, e3, e4⟩ := hy1 hle
      exact Or.inl ⟨x, e2, e3, e1, hle, e4.mono fun b hb _ => by have := HSZ2.out; omega, fun hf => by unfold gTu gNu; rw [HV.out, HOX.out hf]; rfl⟩
     ·exact Or.inr ⟨hn1 (by omega), fun hf => by unfold gTu gNu; rw [HV.out, HOX.out hf]; simpa using hle⟩
    clear hF1 hx1 hy1 hn1
    have r0 := R9.out.c0
    have r1 := R9.out.c1
    have rf := R9.out.frozen
    go_wp2_with fail
    refine bodyPost_ret (v := .agg #[.string s', .slice a' l' c']) (by simp [results, Tryz.results73, go_sem, World.cell?_setCell_same, World.cell?_setCell_other, r0, r1]) rfl ?_
    exact fl_end hE (by omega) HYW.out HF9.out HX9.out HE9.out HU1.out HFF1.out HCC.out
   ·have HOX := hide hox
    clear hox HC1
    have t0 := HTZ.out.c0
    have t1 := HTZ.out.c1
    go_wp2_with fail
    refine (H.out wz f1 Y1 (S0.out.exq HXZ.out (fun b hb => (HXF.out b hb).2)) HFZ.out HEZ.out HY1F.out).mono ?_
    rintro e w9 ⟨s', a', l', c', m, f', Y', rfl, hF1, hx1, hE1, hsub1, hff1, hc1⟩
    have R9 := hide (HRZ.out.exq hx1 hR1)
    have HX9 : Hid (ExQ (fun b => b = F ∨ Mt b) w w9) := (EXW.out.trans (HXZ.out.mono fun b hb _ => Or.inr hb)).trans hx1
    have HE9 := hide hE1
    have HF9 := hide hF1
    have HU9 : Hid (∀ b, Y' b → Y b ∨ w.heap.size + 2 ≤ b) := fun b hb => by
     rcases hsub1 b hb with h | h
     ·exact HU1.out b h
     ·right; have := HSZ2.out; omega
    have HFF9 : Hid (f = true → f' = true) := fun h => hff1 (HFF1.out h)
    have HCC : Hid (FlC w (gTu lk t) n f' s' a' l' m 2 w9) := by
     have hT : f' = false → gTu lk t = ⟨t.name, gLu lk t.args⟩ := fun hf => by
      have hf1 : f1 = false := by
       cases h : f1 with
       | false => rfl
       | true => have := hff1 h; rw [hf] at this; cases this
      unfold gTu gNu; rw [HV.out, HOX.out hf1]; rfl
     rcases hc1 with ⟨y, e1, e2, e3, e4, e5, e6⟩ | ⟨e1, e2⟩
     ·exact Or.inl ⟨y, e1, e2, e3, e4, e5.mono fun b hb _ => by have := HSZ2.out; omega, fun hf => by rw [hT hf]; exact e6 hf⟩
     ·exact Or.inr ⟨e1, fun hf => by rw [hT hf]; exact e2 hf⟩
    clear hF1 hx1 hE1 hsub1 hff1 hc1
    have r0 := R9.out.c0
    have r1 := R9.out.c1
    have rf := R9.out.frozen
    go_wp2_with fail
    refine bodyPost_ret (v := .agg #[.string s', .slice a' l' c']) (by simp [results, Tryz.results73, go_sem, World.cell?_setCell_same, World.cell?_setCell_other, r0, r1]) rfl ?_
    exact fl_end hE (by omega) HYW.out HF9.out HX9.out HE9.out HU9.out HFF9.out HCC.out
theorem gL_onL {s : List Bd} (hs : ∀ d ∈ s, varB d.nm = true) : ∀ l : List Tm, errL l = 0 → gLu (forT s) l = onL s l := by
 intro l
 induction l using Tm.indL with
 | h0 => intro _; simp [gLu, onL]
 | h n l r ihl ihr =>
  intro he
  obtain ⟨g1, g2, g3⟩ := errL_parts he
  rw [gLu, onL_cons, ihr g3, ihl g2]
  congr 1
  cases hv : varB n with
  | false => rw [onT_sym2 hs hv, gNu, hv]; rfl
  | true =>
   have e := g1 hv
   subst e
   rw [onT_leaf, gNu, hv]
   cases forT s n with
   | none => simp [onL]
   | some x => rfl
theorem gT_onT {s : List Bd} (hs : ∀ d ∈ s, varB d.nm = true) {t : Tm} (he : errL [t] = 0) : gTu (forT s) t = onT s t := by
 have h := gL_onL hs [t] he
 rw [gL_mapu, onL_cons] at h
 simpa [onL] using h
def NamesH (h : List (ByteArray × Tm)) : Prop := ∀ i (hi : i < h.length), nameB h[i].1 = true
def StE (w : World) (Y : Nat → Prop) (h : List (ByteArray × Tm)) (i : Nat) (hi : i < h.length) (v : Value) : Prop :=
 ∃ (j : Nat) (a : Option Addr) (c : Nat), j ≤ h.length ∧ v = .agg #[.string (stood h i (max j (i + 1)) hi).name, .slice a (stood h i (max j (i + 1)) hi).args.length c, .int .i64 (j : Int)] ∧ Sl w Y a (stood h i (max j (i + 1)) hi).args
def StMap (w : World) (Y : Nat → Prop) (h : List (ByteArray × Tm)) (L : List (ByteArray × Value)) : Prop :=
 L.length = h.length ∧ ∀ i (hi : i < h.length) (hl : i < L.length), L[i].1 = h[i].1 ∧ StE w Y h i hi L[i].2
theorem StE.imp {w w' : World} {Y Z : Nat → Prop} {h : List (ByteArray × Tm)} {i : Nat} {hi : i < h.length} {v : Value} (hs : ∀ a l, Sl w Y a l → Sl w' Z a l) (e : StE w Y h i hi v) : StE w' Z h i hi v := by
 obtain ⟨j, a, c, h1, h2, h3⟩ := e
 exact ⟨j, a, c, h1, h2, hs _ _ h3⟩
theorem StMap.imp {w w' : World} {Y Z : Nat → Prop} {h : List (ByteArray × Tm)} {L : List (ByteArray × Value)} (hs : ∀ a l, Sl w Y a l → Sl w' Z a l) (e : StMap w Y h L) : StMap w' Z h L :=
 ⟨e.1, fun i hi hl => ⟨(e.2 i hi hl).1, (e.2 i hi hl).2.imp hs⟩⟩
theorem mapGet_at : ∀ (L : List (ByteArray × Value)) (i : Nat) (hi : i < L.length), (∀ k (hk : k < L.length), k < i → L[k].1 ≠ L[i].1) → mapGet L L[i].1 = some L[i].2
 | [], i, hi, _ => by simp at hi
 | p :: r, 0, hi, _ => by simp [mapGet]
 | p :: r, i + 1, hi, h => by
  have h0 := h 0 (by simp) (by omega)
  simp only [List.getElem_cons_zero, List.getElem_cons_succ] at h0 ⊢
  rw [mapGet, if_neg h0]
  refine mapGet_at r i (by simpa using hi) fun k hk hki => ?_
  have := h (k + 1) (by simpa using hk) (by omega)
  simpa using this
theorem mapGet_none : ∀ (L : List (ByteArray × Value)) (n : ByteArray), (∀ k (hk : k < L.length), L[k].1 ≠ n) → mapGet L n = none
 | [], n, _ => rfl
 | p :: r, n, h => by
  have h0 := h 0 (by simp)
  simp only [List.getElem_cons_zero] at h0
  rw [mapGet, if_neg h0]
  exact mapGet_none r n fun k hk => by have := h (k + 1) (by simpa using hk); simpa using this
theorem setAt_get : ∀ (L : List (ByteArray × Value)) (i : Nat) (hi : i < L.length) (v : Value), (∀ k (hk : k < L.length), k < i → L[k].1 ≠ L[i].1) → setAt L L[i].1 v = L.set i (L[i].1, v)
 | [], i, hi, v, _ => by simp at hi
 | p :: r, 0, hi, v, _ => by simp [setAt]
 | p :: r, i + 1, hi, v, h => by
  have h0 := h 0 (by simp) (by omega)
  simp only [List.getElem_cons_zero, List.getElem_cons_succ] at h0 ⊢
  rw [setAt, if_neg h0, setAt_get r i (by simpa using hi) v fun k hk hki => by have := h (k + 1) (by simpa using hk) (by omega); simpa using this]
  rfl
theorem StMap.apart {w : World} {Y : Nat → Prop} {h : List (ByteArray × Tm)} {L : List (ByteArray × Value)} (e : StMap w Y h L) (g : GoodH h) (i : Nat) (hi : i < L.length) : ∀ k (hk : k < L.length), k < i → L[k].1 ≠ L[i].1 := fun k hk hki hh => by
 have hl := e.1
 rw [(e.2 k (by omega) hk).1, (e.2 i (by omega) hi).1] at hh
 have := g.once (by omega) (by omega) hh
 omega
theorem StMap.get {w : World} {Y : Nat → Prop} {h : List (ByteArray × Tm)} {L : List (ByteArray × Value)} (e : StMap w Y h L) (g : GoodH h) {i : Nat} (hi : i < h.length) : ∃ v, mapGet L h[i].1 = some v ∧ StE w Y h i hi v := by
 have hl : i < L.length := by rw [e.1]; exact hi
 have h1 := mapGet_at L i hl (e.apart g i hl)
 rw [(e.2 i hi hl).1] at h1
 exact ⟨_, h1, (e.2 i hi hl).2⟩
theorem StMap.none {w : World} {Y : Nat → Prop} {h : List (ByteArray × Tm)} {L : List (ByteArray × Value)} (e : StMap w Y h L) {n : ByteArray} (hn : ∀ i (hi : i < h.length), h[i].1 ≠ n) : mapGet L n = none :=
 mapGet_none L n fun k hk => by rw [(e.2 k (by rw [← e.1]; exact hk) hk).1]; exact hn k _
theorem StMap.set {w : World} {Y : Nat → Prop} {h : List (ByteArray × Tm)} {L : List (ByteArray × Value)} (e : StMap w Y h L) (g : GoodH h) {i : Nat} (hi : i < h.length) {v : Value} (hv : StE w Y h i hi v) : StMap w Y h (setAt L h[i].1 v) := by
 have hl : i < L.length := by rw [e.1]; exact hi
 have h1 := setAt_get L i hl v (e.apart g i hl)
 rw [(e.2 i hi hl).1] at h1
 rw [h1]
 refine ⟨by simp [e.1], fun k hk hkl => ?_⟩
 by_cases hki : i = k
 ·subst hki
  simp only [List.getElem_set_self]
  exact ⟨trivial, hv⟩
 ·rw [List.getElem_set_ne hki]
  exact e.2 k hk (by simpa using hkl)
theorem forT_at {h : List (ByteArray × Tm)} (g : GoodH h) {i : Nat} (hi : i < h.length) : forT (sAt h) h[i].1 = some (stood h i h.length hi) := by
 obtain ⟨d, hd, e⟩ := (g.bound h.length (Nat.le_refl _) h[i].1).2 ⟨i, hi, hi, rfl⟩
 rw [List.take_length] at hd
 obtain ⟨t, ht⟩ := forT_some_of hd
 rw [e] at ht
 rw [ht]
 unfold stood
 rw [List.take_length, onT_some ht]
theorem forT_free {h : List (ByteArray × Tm)} (g : GoodH h) {n : ByteArray} (hn : ∀ i (hi : i < h.length), h[i].1 ≠ n) : forT (sAt h) n = none := by
 cases hf : forT (sAt h) n with
 | none => rfl
 | some x =>
  obtain ⟨d, hd, e, _⟩ := forT_mem hf
  have h1 := (g.bound h.length (Nat.le_refl _) n).1 ⟨d, by rw [List.take_length]; exact hd, e⟩
  obtain ⟨i, hi, _, h2⟩ := h1
  exact absurd h2 (hn i hi)
theorem stood_err {h : List (ByteArray × Tm)} (g : GoodH h) (hn : NamesH h) {i : Nat} (hi : i < h.length) {j : Nat} (hj : j ≤ h.length) : errL [stood h i j hi] = 0 := errL_onT2 (g.ok j hj) (err_leaf (hn i hi))
theorem stood_fill {h : List (ByteArray × Tm)} (g : GoodH h) (hn : NamesH h) {i : Nat} (hi : i < h.length) {j : Nat} (hj : j ≤ h.length) : gTu (forT (sAt h)) (stood h i j hi) = stood h i h.length hi := by
 rw [gT_onT g.all.vars (stood_err g hn hi hj), stood_on g hi hj (hn i hi)]
theorem stood_great {h : List (ByteArray × Tm)} (g : GoodH h) {i : Nat} (hi : i < h.length) (hz : 2000 < sizeL [stood h i h.length hi]) : grtB (sAt h) = true := by
 obtain ⟨d, hd, e1, e2⟩ := forT_mem (forT_at g hi)
 unfold grtB
 rw [List.any_eq_true]
 exact ⟨d, hd, by rw [e2]; simpa using hz⟩
def SolE (S q : Nat) (td : Value) (h : List (ByteArray × Tm)) : Ev := fun f Y w =>
 (∃ L, Blk w S #[td, .map (some q), .bool f] 128 ∧ MapAt w q L ∧ StMap w (fun b => Y b ∧ b ≠ S ∧ b ≠ q) h L) ∧ Y S ∧ Y q ∧ (∀ b, Y b → b < w.heap.size) ∧ (f = true → grtB (sAt h) = true)
def SolM (S q : Nat) : Nat → Prop := fun b => b = S ∨ b = q
theorem solE_ok (S q : Nat) (td : Value) (h : List (ByteArray × Tm)) : EvOk (SolE S q td h) (SolM S q) := by
 refine ⟨fun f Y w w' he hk => ?_, fun f Y w he => he.2.2.2.1, fun f Y w he b hb => ?_⟩
 ·obtain ⟨⟨L, h1, h2, h3⟩, h4, h5, h6, h7⟩ := he
  refine ⟨⟨L, ?_, h2.kept (hk q h5), h3.imp fun a l hs => hs.kept fun b hb => hk b hb.1⟩, h4, h5, fun b hb => ?_, h7⟩
  ·unfold Blk at *; rw [hk S h4]; exact h1
  ·have h8 := hk b hb
   have h9 := h6 b hb
   apply Classical.byContradiction
   intro hn
   rw [Array.getElem?_eq_none (by omega), Array.getElem?_eq_getElem h9] at h8
   cases h8
 ·rcases hb with rfl | rfl
  ·exact he.2.1
  ·exact he.2.2.1
def KlSet (Mt : Nat → Prop) (w : World) (F O : Nat) (s : ByteArray) (u : Value) (cF : Array Value) (wr : World) : Prop :=
 ExQ (fun b => b = F ∨ Mt b) w wr ∧ Blk wr (w.heap.size + 1) #[.string ⟨#[]⟩, .slice none 0 0] 32 ∧ Blk wr O #[.string s, u] 32 ∧ Blk wr F cF 113 ∧ O < wr.heap.size
theorem kl_set {Mt : Nat → Prop} {w wr w1 w3 : World} {F O : Nat} {s : ByteArray} {u v : Value} {cF cF' : Array Value} {o2 : Obj} (hFw : F < w.heap.size) (hM : ∀ b, Mt b → b < w.heap.size) (hO : w.heap.size + 2 ≤ O) (h : KlSet Mt w F O s u cF wr) (hu : ∀ k, u.ownBlock = some k → O + 1 ≤ k)
  (he1 : ExQ (fun b => b = F ∨ Mt b) wr w1) (hF1 : Blk w1 F cF' 113) (hg : (w1.alloc o2).grownBy w3 u.ownBlock) : KlSet Mt w F O s v cF' (w3.setCell ⟨O, 1, none⟩ v) := by
 obtain ⟨h1, h2, h3, h4, h5⟩ := h
 have hne : ∀ b, b < O + 1 → some b ≠ u.ownBlock := fun b hb e => by have := hu b e.symm; omega
 have hQ : ∀ b, w.heap.size ≤ b → ¬ (b = F ∨ Mt b) := fun b hb h => by
  rcases h with h | h
  ·omega
  ·have := hM b h; omega
 have hs1 := he1.size
 have hs3 := hg.size
 simp at hs3
 refine ⟨(((h1.trans he1).alloc o2).grown hg (fun k hk => Or.inl (by have := hu k hk; omega))).setNew (by omega) _ _, ?_, ?_, ?_, by simp [World.setCell]; omega⟩
 ·exact (((h2.exq he1 (hQ _ (by omega))).alloc o2).grown hg (hne _ (by omega))).setOther _ _ (by omega)
 ·exact (((h3.exq he1 (hQ _ (by omega))).alloc o2).grown hg (hne _ (by omega))).set 1 _
 ·exact ((hF1.alloc o2).grown hg (hne _ (by omega))).setOther _ _ (by omega)
theorem kl_row {Q : Nat → Prop} {wr w1 w3 : World} {O : Nat} {u : Value} {L : List Tm} {xs : List Value} {o2 : Obj} {s' : ByteArray} {a1 : Option Addr} {n1 c1 g cap : Nat} {t : Tm} (hQ : ∀ b, Q b → b < O) (hOr : O < wr.heap.size) (hrow : Row wr (O + 1) 32 (fun _ => False) u L xs)
  (he1 : ExQ Q wr w1) (ht : TV w1 (fun b => wr.heap.size ≤ b) (.agg #[.string s', .slice a1 n1 c1]) t)
  (hown : w3.ownsRow (O + 1) 32 2 (.slice (some ⟨g, 0, none⟩) (L.length + 1) cap) (L.length + 1) (xs ++ [.string s', .slice a1 n1 c1])) (hg : (w1.alloc o2).grownBy w3 u.ownBlock) (hat : u.ownBlock = some g ∨ g = (w1.alloc o2).heap.size) :
  Row (w3.setCell ⟨O, 1, none⟩ (.slice (some ⟨g, 0, none⟩) (L.length + 1) cap)) (O + 1) 32 (fun _ => False) (.slice (some ⟨g, 0, none⟩) (L.length + 1) cap) (L ++ [t]) (xs ++ [.string s', .slice a1 n1 c1]) := by
 obtain ⟨wm, hbm, hsm, hem⟩ := he1.mid
 have hrm := hrow.exq hem (fun b hb => by have := hQ b hb; omega) (fun _ _ h => h)
 exact (hrm.push (w1 := w1) (w2 := w1.alloc o2) (w3 := w3) (by omega) (fun _ h => h.elim) hbm (ht.mono fun b h _ => Or.inr (by omega)) o2 rfl hown hg hat).setCell (by omega) (fun h => h) _
def KlE (E : Ev) (O : Nat) (f : Bool) (Y : Nat → Prop) (u : Value) (f' : Bool) (Y' : Nat → Prop) (wr : World) : Prop :=
 E f' Y' wr ∧ (∀ b, Y' b → Y b ∨ O + 1 ≤ b) ∧ (∀ b, Y' b → some b ≠ u.ownBlock) ∧ (f = true → f' = true)
def KlInv (E : Ev) (Mt : Nat → Prop) (lk : ByteArray → Option Tm) (w : World) (F O : Nat) (s : ByteArray) (sv : Value) (l : List Tm) (n : Nat) (f : Bool) (Y : Nat → Prop) (i : Value) (wr : World) : Prop :=
 ∃ (k : Nat) (u : Value) (f' : Bool) (Y' : Nat → Prop), k ≤ l.length ∧ i = .int .i64 (k : Int) ∧ KlE E O f Y u f' Y' wr ∧
  ((∃ (m : Nat) (xs : List Value) (Mk : List Tm), Mk.length = k ∧ (m : Int) = (n : Int) - 1 - sizeL Mk ∧ KlSet Mt w F O s u #[.int .i64 (m : Int), sv] wr ∧ Row wr (O + 1) 32 (fun _ => False) u Mk xs ∧ (f' = false → Mk = gLu lk (l.take k))) ∨
   (KlSet Mt w F O s u #[.int .i64 (-1), sv] wr ∧ (∃ a9 l9 c9, u = .slice a9 l9 c9) ∧ (f' = false → n < 1 + sizeL (gLu lk l))))
theorem kl_ev {E : Ev} {Mt : Nat → Prop} (hE : EvOk E Mt) {O : Nat} {f f' f1 : Bool} {Y Y' Y1 : Nat → Prop} {u : Value} {wr w1 w3 : World} {o2 : Obj} {g cap n9 : Nat} {x : Value} (hYw : ∀ b, Y b → b < O) (h : KlE E O f Y u f' Y' wr) (hu : ∀ k, u.ownBlock = some k → k < wr.heap.size) (hOr : O < wr.heap.size) (hsz : wr.heap.size ≤ w1.heap.size)
  (hE1 : E f1 Y1 w1) (hsub : ∀ b, Y1 b → Y' b ∨ wr.heap.size ≤ b) (hff : f' = true → f1 = true) (hg : (w1.alloc o2).grownBy w3 u.ownBlock) (hat : u.ownBlock = some g ∨ g = (w1.alloc o2).heap.size) :
  KlE E O f Y (.slice (some ⟨g, 0, none⟩) n9 cap) f1 Y1 (w3.setCell ⟨O, 1, none⟩ x) := by
 obtain ⟨h1, h2, h3, h4⟩ := h
 have hin := hE.inY _ _ _ hE1
 have hno : ∀ b, Y1 b → some b ≠ u.ownBlock := fun b hb e => by
  rcases hsub b hb with h | h
  ·exact h3 b h e
  ·have := hu b e.symm; omega
 have hsb : ∀ b, Y1 b → Y b ∨ O + 1 ≤ b := fun b hb => by
  rcases hsub b hb with h | h
  ·exact h2 b h
  ·right; omega
 refine ⟨hE.keep _ _ _ _ hE1 fun b hb => ?_, hsb, fun b hb e => ?_, fun h => hff (h4 h)⟩
 ·have hbO : b ≠ O := fun e => by
   rcases hsb b hb with h | h
   ·have := hYw b h; omega
   ·omega
  have hbl := hin b hb
  rw [Below.heap_setCell _ _ _ _ (by simpa using hbO), hg.block b (by simp; omega) (hno b hb), Below.heap_alloc _ _ _ hbl]
 ·have e2 : b = g := by simpa [Value.ownBlock] using e
  subst e2
  rcases hat with h | h
  ·exact hno b hb h.symm
  ·have := hin b hb; simp at h; omega
theorem kl_end {E : Ev} {Mt : Nat → Prop} (hE : EvOk E Mt) {w wr : World} {F O : Nat} {s : ByteArray} {u sv : Value} {tgt : Tm} {n : Nat} {f f' : Bool} {Y Y' : Nat → Prop} {a' : Option Addr} {l' c' : Nat} {m : Int} {v0 v1 : Value} (hF : F < w.heap.size) (hY : ∀ b, Y b → b < w.heap.size) (hO : w.heap.size + 2 ≤ O)
  (h1 : KlSet Mt w F O s u #[.int .i64 m, sv] wr) (h2 : KlE E O f Y u f' Y' wr) (hc : FlC w tgt n f' s a' l' m 2 wr) :
  FlPost E Mt F sv tgt n f Y w (.returned (.agg #[.string s, .slice a' l' c'])) ((wr.setCell ⟨w.heap.size + 1, 0, none⟩ v0).setCell ⟨w.heap.size + 1, 1, none⟩ v1) :=
 fl_end hE hF hY h1.2.2.2.1 h1.1 h2.1 (fun b hb => (h2.2.1 b hb).imp id fun h => by omega) h2.2.2.2 hc
theorem fl_alloc {E : Ev} {Mt : Nat → Prop} (hE : EvOk E Mt) {w w' : World} {F : Nat} {sv : Value} {tgt : Tm} {n : Nat} {f : Bool} {Y : Nat → Prop} {e : Ending} (h : FlPost E Mt F sv tgt n f Y w e w') (o : Obj) : FlPost E Mt F sv tgt n f Y w e (w'.alloc o) := by
 obtain ⟨s', a', l', c', m, f', Y', he, h1, h2, h3, h4, h5, h6⟩ := h
 refine ⟨s', a', l', c', m, f', Y', he, h1.alloc o, h2.alloc o, hE.below h3 ((Below.refl _ _).alloc (Nat.le_refl _) o), h4, h5, ?_⟩
 rcases h6 with ⟨y, e1, e2, e3, e4, e5, e6⟩ | h6
 ·exact Or.inl ⟨y, e1, e2, e3, e4, e5.later ((Below.refl _ _).alloc (Nat.le_refl _) o), e6⟩
 ·exact Or.inr h6
theorem occ_get {nm : ByteArray} {l : List Tm} {k : Nat} (h : k < l.length) (ho : occL nm [l[k]]) : occL nm l := by
 have : l = l.take k ++ (l[k] :: l.drop (k + 1)) := by rw [List.getElem_cons_drop, List.take_append_drop]
 rw [this, occL_append, occL_cons]
 exact Or.inr (Or.inl ho)
set_option maxHeartbeats 1000000 in
theorem knotL_any {E : Ev} {Mt : Nat → Prop} (hE : EvOk E Mt) (F S : Nat) (lk : ByteArray → Option Tm) (t : Tm) : ∀ (n : Nat) (v : Value) (w : World) (X Y : Nat → Prop) (f : Bool), TV w X v t → (∀ b, X b → b ≠ F ∧ ¬ Mt b) → n ≤ 1000000 → Blk w F #[.int .i64 (n : Int), sV S] 113 → E f Y w → ¬ Y F → (∀ nm, occL nm t.args → varB nm = true → LkC E Mt S (lk nm) nm) →
  Calls Tryz.prog 90 #[.pointer (some ⟨F, 0, none⟩), v, .func (.func 73) #[.pointer (some ⟨F, 0, none⟩)] #[]] w fun e w' => FlPost E Mt F (sV S) ⟨t.name, gLu lk t.args⟩ n f Y w e w' := by
 induction t using Tm.ind with
 | h s l ih =>
  intro n v w X Y f hv hXF hn hF hEv hYF hL
  obtain ⟨a, c, rfl, hs⟩ := hv
  dsimp only
  have HYW : Hid (∀ b, Y b → b < w.heap.size) := hE.inY _ _ _ hEv
  have HMT : Hid (∀ b, Mt b → b < w.heap.size) := fun b hb => HYW.out b (hE.mt _ _ _ hEv b hb)
  have HL := hide hL
  have HEV := hide hEv
  clear hL hEv
  generalize hsv : sV S = sv at *
  have IH := hide ih
  clear ih
  obtain ⟨i0, hi0, hz0, hz1, hz2⟩ := info_parts Tryz.infoTerm
  have f0 : ∀ o, (w.alloc o).cell? ⟨F, 0, none⟩ = some (.int .i64 (n : Int)) := fun o => (hF.alloc o).cell 0
  have ff : ∀ o, (w.alloc o).frozen? ⟨F, 0, none⟩ = false := fun o => (hF.alloc o).frozen 0
  have hFl : F < w.heap.size := hF.lt
  go_enter Tryz.func90, Tryz.ntmps90
  go_wp2_with fail
  have E3 : Hid (KlSet Mt w F (w.heap.size + 1 + 1) s (.slice none 0 0) #[.int .i64 ((n : Int) - 1), sv] ((((w.setCell ⟨F, 0, none⟩ (.int .i64 ((n : Int) - 1))).alloc (.cells #[.string s, .slice a l.length c] 32)).alloc (.cells #[.string ⟨#[]⟩, .slice none 0 0] 32)).alloc (.cells #[.string s, .slice none 0 0] 32))) := by
   refine ⟨((((ExQ.refl _ w).set (Or.inl rfl) 0 _).alloc _).alloc _).alloc _, ?_, ?_, (((hF.set 0 _).alloc _).alloc _).alloc _, by simp [World.setCell]⟩
   ·have h := (Blk.new ((w.setCell ⟨F, 0, none⟩ (.int .i64 ((n : Int) - 1))).alloc (.cells #[.string s, .slice a l.length c] 32)) #[.string ⟨#[]⟩, .slice none 0 0] 32).alloc (.cells #[.string s, .slice none 0 0] 32)
    simpa [World.setCell] using h
   ·have h := Blk.new (((w.setCell ⟨F, 0, none⟩ (.int .i64 ((n : Int) - 1))).alloc (.cells #[.string s, .slice a l.length c] 32)).alloc (.cells #[.string ⟨#[]⟩, .slice none 0 0] 32)) #[.string s, .slice none 0 0] 32
    simpa [World.setCell] using h
  have EV3 : Hid (KlE E (w.heap.size + 1 + 1) f Y (.slice none 0 0) f Y ((((w.setCell ⟨F, 0, none⟩ (.int .i64 ((n : Int) - 1))).alloc (.cells #[.string s, .slice a l.length c] 32)).alloc (.cells #[.string ⟨#[]⟩, .slice none 0 0] 32)).alloc (.cells #[.string s, .slice none 0 0] 32))) := by
   refine ⟨hE.keep _ _ _ _ HEV.out fun b hb => ?_, fun b hb => Or.inl hb, fun b _ e => by simp [Value.ownBlock] at e, fun h => h⟩
   have h1 := HYW.out b hb
   rw [Below.heap_alloc _ _ _ (by simp [World.setCell]; omega), Below.heap_alloc _ _ _ (by simp [World.setCell]; omega), Below.heap_alloc _ _ _ (by simpa [World.setCell] using h1), Below.heap_setCell _ _ _ _ (by simp; intro e; subst e; exact hYF hb)]
  generalize ((((w.setCell ⟨F, 0, none⟩ (.int .i64 ((n : Int) - 1))).alloc (.cells #[.string s, .slice a l.length c] 32)).alloc (.cells #[.string ⟨#[]⟩, .slice none 0 0] 32)).alloc (.cells #[.string s, .slice none 0 0] 32)) = w3 at *
  generalize hOe : w.heap.size + 1 + 1 = O at *
  have hO : w.heap.size + 2 ≤ O := by omega
  clear hOe
  clear f0 ff
  have HS := hide hs
  have hl := hs.1
  have HXF := hide hXF
  clear hs hXF
  have HQ : Hid (∀ b, w.heap.size ≤ b → ¬ (b = F ∨ Mt b)) := fun b hb h => by
   rcases h with h | h
   ·omega
   ·have := HMT.out b h; omega
  go_loopw [23] (fun i wr => KlInv E Mt lk w F O s sv l n f Y i wr) (fun i wr => l.length - (intOf i).toNat)
  case atStart =>
   refine ⟨0, .slice none 0 0, f, Y, Nat.zero_le _, rfl, EV3.out, ?_⟩
   by_cases hn0 : n = 0
   ·subst hn0
    exact Or.inr ⟨E3.out, ⟨none, 0, 0, rfl⟩, fun _ => by omega⟩
   ·refine Or.inl ⟨n - 1, [], [], rfl, by simp [sizeL]; omega, ?_, Row.start _ _ _ _, fun _ => by simp [gLu]⟩
    rw [show ((n - 1 : Nat) : Int) = (n : Int) - 1 by omega]
    exact E3.out
  case round =>
   obtain ⟨k, u, f', Y', hk, rfl, hev, hcase⟩ := hrel
   have EV := hide hev
   clear hev
   rcases hcase with ⟨m, xs, Mk, hMk, hm, hset, hrow, hgd⟩ | ⟨hset, ⟨a9, l9, c9, rfl⟩, hbig⟩
   ·have XS := hide hset
    have XW := hide hrow
    have HMM := hide hm
    have HGD := hide hgd
    clear hset hrow hgd
    by_cases hlt : k < l.length
    ·obtain ⟨b, o, a', c', rfl, d0, d1, hx⟩ := (HS.out.exq XS.out.1 (fun b hb h => by rcases h with h | h; exact (HXF.out b hb).1 h; exact (HXF.out b hb).2 h)).get (Below.refl _ _) (fun _ _ h => h) k hlt
     obtain ⟨av, cv, ev, hsx⟩ := hx
     simp at ev
     obtain ⟨rfl, rfl⟩ := ev
     have hmn : m ≤ 1000000 := by omega
     have hOF : ¬ (O = F ∨ Mt O) := HQ.out O (by omega)
     have HQO : Hid (∀ b, (b = F ∨ Mt b) → b < O) := fun b h => by
      rcases h with h | h
      ·omega
      ·have := HMT.out b h; omega
     have hkn : k ≤ 1000000 := by have h1 := sizeL_len Mk; rw [hMk] at h1; omega
     have HL1 : Hid (Mk.length + 1 ≤ maxLen ∧ (Mk.length + 1) * 40 ≤ 140737488355328) := by unfold Hid; rw [hMk]; exact ⟨by unfold maxLen; omega, by omega⟩
     have hY'F : ¬ Y' F := fun h => by
      rcases EV.out.2.1 F h with h1 | h1
      ·exact hYF h1
      ·omega
     have IHQ : Hid (Calls Tryz.prog 73 #[.pointer (some ⟨F, 0, none⟩), .agg #[.string l[k].name, .slice a' l[k].args.length c']] (wr.alloc (.cells #[.string l[k].name, .slice a' l[k].args.length c'] 32)).drew fun e w'' => FlPost E Mt F sv (gTu lk l[k]) m f' Y' (wr.alloc (.cells #[.string l[k].name, .slice a' l[k].args.length c'] 32)).drew e w'') := by
      have hB1 : Below wr.heap.size wr (wr.alloc (.cells #[.string l[k].name, .slice a' l[k].args.length c'] 32)).drew := ((Below.refl _ _).alloc (Nat.le_refl _) _).drew
      have hEr : E f' Y' (wr.alloc (.cells #[.string l[k].name, .slice a' l[k].args.length c'] 32)).drew := hE.below EV.out.1 hB1
      have hFr : Blk (wr.alloc (.cells #[.string l[k].name, .slice a' l[k].args.length c'] 32)).drew F #[.int .i64 (m : Int), sv] 113 := (XS.out.2.2.2.1.alloc _).drewN 1
      have hSr : Sl (wr.alloc (.cells #[.string l[k].name, .slice a' l[k].args.length c'] 32)).drew X a' l[k].args := hsx.later hB1
      have IH2 := IH.out l[k] (List.getElem_mem hlt) m
      clear HMM XS XW
      subst hsv
      refine ffillL_of hE F S lk l[k] m a' c' _ X Y' f' hmn HXF.out hY'F hSr hFr hEr (fun hv => HL.out _ (occ_get hlt ?_) hv) (fun w' f2 Y2 h1 h2 h3 h4 => IH2 _ w' X Y2 f2 ⟨a', c', rfl, h1⟩ HXF.out hmn h2 h3 h4 (fun nm ho hv => HL.out nm (occ_get hlt ?_) hv))
      ·generalize l[k] = y
       obtain ⟨n1, k1⟩ := y
       exact occL_node.2 (Or.inl rfl)
      ·generalize l[k] = y at ho ⊢
       obtain ⟨n1, k1⟩ := y
       exact occL_node.2 (Or.inr (Or.inl ho))
     have f0 : ∀ o, (wr.alloc o).cell? ⟨F, 0, none⟩ = some (.int .i64 (m : Int)) := fun o => (XS.out.2.2.2.1.alloc o).cell 0
     have o1 : ∀ o, (wr.alloc o).cell? ⟨O, 1, none⟩ = some u := fun o => (XS.out.2.2.1.alloc o).cell 1
     have hm0 : ¬ (m : Int) < 0 := by omega
     go_wp2_with fail
     go_region_law (first
      | (go_simp; go_at_call 73; refine IHQ.out.mono ?_; rintro e w1 ⟨s1, a1, l1, c1, m1, f1, Y1, rfl, hF1, he0, hE1, hsub1, hff1, hc1⟩; have he1 := (((ExQ.refl (fun b => b = F ∨ Mt b) wr).alloc (.cells #[.string l[k].name, .slice a' l[k].args.length c'] 32)).drew).trans he0; have HSUB := hide hsub1; have HFF := hide hff1; have HC1 := hide hc1; have HE1 := hide hE1; clear he0 hsub1 hff1 hc1 hE1; have hc3 : ∀ o, (w1.alloc o).cell? ⟨O, 1, none⟩ = some u := fun o => ((Blk.exq XS.out.2.2.1 he1 hOF).alloc o).cell 1; have hc4 : w1.cell? ⟨O, 1, none⟩ = some u := (Blk.exq XS.out.2.2.1 he1 hOF).cell 1)
      | (refine step_append_lies _ rfl _ _ 30 rfl (O + 1) 32 i0 _ 2 40 Tryz.underlying30 hi0 hz0 hz1 hz2 rfl (by decide) u Mk.length xs rfl (by exact (Row.exq XW.out he1 (fun b hb => by have := HQO.out b hb; omega) (fun _ _ h => h)).own.alloc _) ⟨w1.heap.size, 0, none⟩ 1 1 [.string s1, .slice a1 l1 c1] rfl rfl (cell_two_new _ _ _ _) (fun x hx => by simp at hx; rcases hx with rfl | rfl <;> rfl) (by decide) HL1.out.1 HL1.out.2 (by have := he1.size; have := XS.out.2.2.2.2; simp; omega) _ rfl ?_; intro g cap w3 hown3 hgrow3 hat3 hlt3; have hB3 := hide (((Blk.exq XS.out.2.2.1 he1 hOF).alloc _).grown hgrow3 (XW.out.ne (Nat.lt_succ_self _))); have hc5 : w3.cell? ⟨O, 1, none⟩ = some u := hB3.out.cell 1; have hf5 := hB3.out.frozen 1))
     all_goals
      have HK := hide (kl_set (v := .slice (some ⟨g, 0, none⟩) (Mk.length + 1) cap) hFl HMT.out hO XS.out (fun j hj => (XW.out.own.lt j hj).1) he1 hF1 hgrow3)
      have HEV2 := hide (kl_ev (n9 := Mk.length + 1) (cap := cap) (x := .slice (some ⟨g, 0, none⟩) (Mk.length + 1) cap) hE (fun b hb => by have := HYW.out b hb; omega) EV.out (fun j hj => (XW.out.own.lt j hj).2) XS.out.2.2.2.2 he1.size HE1.out (fun b hb => (HSUB.out b hb).imp id fun h => by simp at h; omega) HFF.out hgrow3 hat3)
      have HRW : Hid (∀ y : Tm, TV w1 (fun b => wr.heap.size ≤ b) (.agg #[.string s1, .slice a1 l1 c1]) y → Row (w3.setCell ⟨O, 1, none⟩ (.slice (some ⟨g, 0, none⟩) (Mk.length + 1) cap)) (O + 1) 32 (fun _ => False) (.slice (some ⟨g, 0, none⟩) (Mk.length + 1) cap) (Mk ++ [y]) (xs ++ [.string s1, .slice a1 l1 c1])) := fun y hy => kl_row HQO.out XS.out.2.2.2.2 XW.out he1 hy hown3 hgrow3 hat3
      clear hown3 hgrow3 hat3 hc3 hc4 hc5 hf5 hB3 hF1 he1 hlt3
      go_wp2_with fail
      go_roundw
      case rel =>
       have h1 := HK.out
       have h2 := HRW.out
       have h3 := HEV2.out
       have hmm := HMM.out
       simp only [hMk] at h1 h2 h3
       refine ⟨k + 1, .slice (some ⟨g, 0, none⟩) (k + 1) cap, f1, Y1, by omega, by go_num, h3, ?_⟩
       have hgl : gLu lk (l.take (k + 1)) = gLu lk (l.take k) ++ [gTu lk l[k]] := by rw [List.take_succ_eq_append_getElem hlt, gL_append]; simp [gL_mapu]
       have hf1 : f1 = false → f' = false := fun hf => by
        cases h : f' with
        | false => rfl
        | true => have := HFF.out h; rw [hf] at this; cases this
       rcases HC1.out with ⟨y, rfl, rfl, rfl, e4, e5, e6⟩ | ⟨rfl, e2⟩
       ·refine Or.inl ⟨m - sizeL [y], xs ++ [.string y.name, .slice a1 y.args.length c1], Mk ++ [y], by simp [hMk], by rw [sizeL_append]; omega, ?_, h2 y ⟨a1, c1, rfl, e5.mono fun b hb _ => by simp at hb; omega⟩, fun hf => by rw [hgl, HGD.out (hf1 hf), e6 hf]⟩
        rw [show ((m - sizeL [y] : Nat) : Int) = (m : Int) - sizeL [y] by omega]
        exact h1
       ·refine Or.inr ⟨h1, ⟨_, _, _, rfl⟩, fun hf => ?_⟩
        have h4 := e2 hf
        have h5 := HGD.out (hf1 hf)
        have h6 : sizeL (gLu lk (l.take (k + 1))) = sizeL Mk + sizeL [gTu lk l[k]] := by rw [hgl, sizeL_append, h5]
        have h7 : gLu lk l = gLu lk (l.take (k + 1)) ++ gLu lk (l.drop (k + 1)) := by rw [← gL_append, List.take_append_drop]
        rw [h7, sizeL_append]
        omega
      case measure => simp [intOf]; omega
    ·have htk : l.take k = l := List.take_of_length_le (by omega)
     rw [htk] at HGD
     obtain ⟨a9, c9, hu9, hsl9⟩ := XW.out.sl
     subst hu9
     have S9 := hide hsl9
     clear hsl9
     have r0 := XS.out.2.1.c0
     have r1 := XS.out.2.1.c1
     have rf := XS.out.2.1.frozen
     have o0 := XS.out.2.2.1.c0
     have o1 := XS.out.2.2.1.c1
     go_wp2_with fail
     refine bodyPost_ret (v := .agg #[.string s, .slice a9 Mk.length c9]) (by simp [results, Tryz.results90, go_sem, World.cell?_setCell_same, World.cell?_setCell_other, r0, r1, hMk]) rfl ?_
     have hmm := HMM.out
     have hzy : sizeL [(⟨s, Mk⟩ : Tm)] = 1 + sizeL Mk := by simp [sizeL]
     refine kl_end hE hFl HYW.out hO XS.out EV.out (Or.inl ⟨⟨s, Mk⟩, rfl, rfl, by rw [hzy]; omega, by rw [hzy]; omega, S9.out.mono fun b hb _ => ?_, fun hf => by rw [HGD.out hf]⟩)
     have hb' : O + 1 ≤ b := hb.elim False.elim id
     omega
   ·have XS := hide hset
    have HBIG := hide hbig
    clear hset hbig
    have hzt : sizeL [(⟨s, gLu lk l⟩ : Tm)] = 1 + sizeL (gLu lk l) := by simp [sizeL]
    have f0 : ∀ o, (wr.alloc o).cell? ⟨F, 0, none⟩ = some (.int .i64 (-1)) := fun o => (XS.out.2.2.2.1.alloc o).cell 0
    by_cases hlt : k < l.length
    ·obtain ⟨b, o, a', c', rfl, d0, d1, hx⟩ := (HS.out.exq XS.out.1 (fun b hb h => by rcases h with h | h; exact (HXF.out b hb).1 h; exact (HXF.out b hb).2 h)).get (Below.refl _ _) (fun _ _ h => h) k hlt
     clear hx
     have o0 : ∀ o, (wr.alloc o).cell? ⟨O, 0, none⟩ = some (.string s) := fun o => (XS.out.2.2.1.alloc o).cell 0
     have o1 : ∀ o, (wr.alloc o).cell? ⟨O, 1, none⟩ = some (.slice a9 l9 c9) := fun o => (XS.out.2.2.1.alloc o).cell 1
     have r0 := XS.out.2.1.c0
     have r1 := XS.out.2.1.c1
     have rf := XS.out.2.1.frozen
     have hRl : w.heap.size + 1 < wr.heap.size := XS.out.2.1.lt
     go_wp2_with fail
     refine bodyPost_ret (v := .agg #[.string s, .slice a9 l9 c9]) (by simp [results, Tryz.results90, go_sem, World.cell?_setCell_same, World.cell?_setCell_other, r0, r1, hRl, World.cell?_alloc_old]) rfl ?_
     exact fl_alloc hE (kl_end hE hFl HYW.out hO XS.out EV.out (Or.inr ⟨rfl, fun hf => by rw [hzt]; exact HBIG.out hf⟩)) _
    ·have r0 := XS.out.2.1.c0
     have r1 := XS.out.2.1.c1
     have rf := XS.out.2.1.frozen
     have o0 := XS.out.2.2.1.c0
     have o1 := XS.out.2.2.1.c1
     go_wp2_with fail
     refine bodyPost_ret (v := .agg #[.string s, .slice a9 l9 c9]) (by simp [results, Tryz.results90, go_sem, World.cell?_setCell_same, World.cell?_setCell_other, r0, r1]) rfl ?_
     exact kl_end hE hFl HYW.out hO XS.out EV.out (Or.inr ⟨rfl, fun hf => by rw [hzt]; exact HBIG.out hf⟩)
theorem ffillL_any {E : Ev} {Mt : Nat → Prop} (hE : EvOk E Mt) (F S : Nat) (lk : ByteArray → Option Tm) (t : Tm) (n : Nat) (a : Option Addr) (c : Nat) (w : World) (X Y : Nat → Prop) (f : Bool) (hn : n ≤ 1000000) (hXF : ∀ b, X b → b ≠ F ∧ ¬ Mt b) (hYF : ¬ Y F) (hs : Sl w X a t.args) (hF : Blk w F #[.int .i64 (n : Int), sV S] 113) (hEv : E f Y w)
  (hL : ∀ nm, occL nm [t] → varB nm = true → LkC E Mt S (lk nm) nm) :
  Calls Tryz.prog 73 #[.pointer (some ⟨F, 0, none⟩), .agg #[.string t.name, .slice a t.args.length c]] w fun e w' => FlPost E Mt F (sV S) (gTu lk t) n f Y w e w' :=
 ffillL_of hE F S lk t n a c w X Y f hn hXF hYF hs hF hEv (fun hv => hL _ (by obtain ⟨s, l⟩ := t; exact occL_node.2 (Or.inl rfl)) hv)
  (fun w' f' Y' h1 h2 h3 h4 => knotL_any hE F S lk t n _ w' X Y' f' ⟨a, c, rfl, h1⟩ hXF hn h2 h3 h4 (fun nm ho hv => hL nm (by obtain ⟨s, l⟩ := t; exact occL_node.2 (Or.inr (Or.inl ho))) hv))
def FiPost (E : Ev) (Mt : Nat → Prop) (tgt : Tm) (n : Nat) (f : Bool) (Y : Nat → Prop) (w : World) (e : Ending) (w' : World) : Prop :=
 ∃ (s' : ByteArray) (a' : Option Addr) (l' c' : Nat) (ok : Bool) (f' : Bool) (Y' : Nat → Prop), e = .returned (.tuple #[.agg #[.string s', .slice a' l' c'], .bool ok]) ∧ E f' Y' w' ∧ (∀ b, Y' b → Y b ∨ w.heap.size ≤ b) ∧ (f = true → f' = true) ∧ ExQ Mt w w' ∧
  ((ok = true ∧ ∃ y : Tm, s' = y.name ∧ l' = y.args.length ∧ sizeL [y] ≤ n ∧ Sl w' (fun b => w.heap.size ≤ b) a' y.args ∧ (f' = false → y = tgt)) ∨ (ok = false ∧ s' = ⟨#[]⟩ ∧ a' = none ∧ l' = 0 ∧ c' = 0 ∧ (f' = false → n < sizeL [tgt])))
set_option maxHeartbeats 1000000 in
theorem fillL_any {E : Ev} {Mt : Nat → Prop} (hE : EvOk E Mt) (S : Nat) (lk : ByteArray → Option Tm) (t : Tm) (n : Nat) (a : Option Addr) (c : Nat) (w : World) (X Y : Nat → Prop) (f : Bool) (hn : n ≤ 1000000) (hXM : ∀ b, X b → ¬ Mt b) (hs : Sl w X a t.args) (hEv : E f Y w)
  (hL : ∀ nm, occL nm [t] → varB nm = true → LkC E Mt S (lk nm) nm) :
  Calls Tryz.prog 49 #[.agg #[.string t.name, .slice a t.args.length c], .int .i64 (n : Int), sV S] w fun e w' => FiPost E Mt (gTu lk t) n f Y w e w' := by
 have hmf : ∀ (fn : Fn) (first cap : Array Value) (w : World), (Instr.makeFunc fn first cap).run Tryz.prog w = .ok (.func fn first cap) w := fun _ _ _ _ => rfl
 have HS := hide (hs.mono (Y := fun b => X b ∧ b < w.heap.size) fun b h1 h2 => ⟨h1, h2⟩)
 have HE := hide hEv
 have HL := hide hL
 have HXM := hide hXM
 have HYW : Hid (∀ b, Y b → b < w.heap.size) := hE.inY _ _ _ hEv
 have HMT : Hid (∀ b, Mt b → b < w.heap.size) := fun b hb => HYW.out b (hE.mt _ _ _ hEv b hb)
 clear hs hEv hL hXM
 have HSV : Hid (sV S = .func (.func 119) #[.pointer (some ⟨S, 0, none⟩)] #[]) := rfl
 rw [HSV.out]
 go_enter Tryz.func49, Tryz.ntmps49
 go_wp2_with fail
 rw [← HSV.out]
 have HB3 : Hid (Below w.heap.size w (((w.alloc (.cells #[.string t.name, .slice a t.args.length c] 32)).alloc (.cells #[.string ⟨#[]⟩, .slice none 0 0] 32)).alloc (.cells #[.int .i64 (n : Int), sV S] 113))) := ((((Below.refl w.heap.size w).alloc (Nat.le_refl _) _).alloc (by simp) _).alloc (by simp; omega) _)
 have F3 : Hid (Blk (((w.alloc (.cells #[.string t.name, .slice a t.args.length c] 32)).alloc (.cells #[.string ⟨#[]⟩, .slice none 0 0] 32)).alloc (.cells #[.int .i64 (n : Int), sV S] 113)) (w.heap.size + 1 + 1) #[.int .i64 (n : Int), sV S] 113) := by
  have h := Blk.new ((w.alloc (.cells #[.string t.name, .slice a t.args.length c] 32)).alloc (.cells #[.string ⟨#[]⟩, .slice none 0 0] 32)) #[.int .i64 (n : Int), sV S] 113
  unfold Hid
  simpa using h
 have R3 : Hid (Blk (((w.alloc (.cells #[.string t.name, .slice a t.args.length c] 32)).alloc (.cells #[.string ⟨#[]⟩, .slice none 0 0] 32)).alloc (.cells #[.int .i64 (n : Int), sV S] 113)) (w.heap.size + 1) #[.string ⟨#[]⟩, .slice none 0 0] 32) := by
  have h := (Blk.new (w.alloc (.cells #[.string t.name, .slice a t.args.length c] 32)) #[.string ⟨#[]⟩, .slice none 0 0] 32).alloc (.cells #[.int .i64 (n : Int), sV S] 113)
  unfold Hid
  simpa using h
 have z3 : (((w.alloc (.cells #[.string t.name, .slice a t.args.length c] 32)).alloc (.cells #[.string ⟨#[]⟩, .slice none 0 0] 32)).alloc (.cells #[.int .i64 (n : Int), sV S] 113)).heap.size = w.heap.size + 3 := by simp
 generalize (((w.alloc (.cells #[.string t.name, .slice a t.args.length c] 32)).alloc (.cells #[.string ⟨#[]⟩, .slice none 0 0] 32)).alloc (.cells #[.int .i64 (n : Int), sV S] 113)) = w3 at *
 refine (ffillL_any hE (w.heap.size + 1 + 1) S lk t n a c w3 (fun b => X b ∧ b < w.heap.size) Y f hn (fun b hb => ⟨by have := hb.2; omega, HXM.out b hb.1⟩) (fun h => by have := HYW.out _ h; omega) (HS.out.later HB3.out) F3.out (hE.below HE.out HB3.out) HL.out).mono ?_
 rintro e w9 ⟨s', a', l', c', m, f', Y', rfl, hF9, hx9, hE9, hsub9, hff9, hc9⟩
 have HF9 := hide hF9
 have R9 := hide (R3.out.exq hx9 (fun h => by rcases h with h | h; omega; have := HMT.out _ h; omega))
 have hz9 := hx9.size
 have HXW : Hid (ExQ Mt w w9) := (ExQ.ofBelow HB3.out).transN hx9 (fun i hi hl => by rcases hi with h | h; omega; exact h)
 have HE9 := hide hE9
 have HSUB : Hid (∀ b, Y' b → Y b ∨ w.heap.size + 3 ≤ b) := fun b hb => (hsub9 b hb).imp id fun h => by omega
 have HFF := hide hff9
 have HC := hide hc9
 clear hF9 hx9 hE9 hsub9 hff9 hc9
 have r0 := R9.out.c0
 have r1 := R9.out.c1
 have rf := R9.out.frozen
 have hRl : w.heap.size + 1 < w9.heap.size := R9.out.lt
 have HKE : Hid (∀ v0 v1 o, E f' Y' (((w9.setCell ⟨w.heap.size + 1, 0, none⟩ v0).setCell ⟨w.heap.size + 1, 1, none⟩ v1).alloc o)) := fun v0 v1 o => hE.keep _ _ _ _ HE9.out fun b hb => by
  have hne : b ≠ w.heap.size + 1 := fun e => by
   rcases HSUB.out b hb with h | h
   ·have := HYW.out b h; omega
   ·omega
  have hl := hE.inY _ _ _ HE9.out b hb
  rw [Below.heap_alloc _ _ _ (by simpa [World.setCell] using hl), Below.heap_setCell _ _ _ _ (by simpa using hne), Below.heap_setCell _ _ _ _ (by simpa using hne)]
 have HSUB2 : Hid (∀ b, Y' b → Y b ∨ w.heap.size ≤ b) := fun b hb => (HSUB.out b hb).imp id fun h => by omega
 rcases HC.out with ⟨y, rfl, rfl, rfl, hle, hsl, hgd⟩ | ⟨rfl, hgd⟩
 ·have HSL := hide hsl
  have HGD := hide hgd
  clear hsl hgd
  have f0 : ∀ o, (w9.alloc o).cell? ⟨w.heap.size + 1 + 1, 0, none⟩ = some (.int .i64 ((n : Int) - sizeL [y])) := fun o => (HF9.out.alloc o).cell 0
  have hlt : ¬ ((n : Int) - sizeL [y]) < 0 := by omega
  go_wp2_with fail
  refine bodyPost_ret (v := .tuple #[.agg #[.string y.name, .slice a' y.args.length c'], .bool true]) (by simp [results, Tryz.results49, go_sem, World.cell?_setCell_same, World.cell?_setCell_other, r0, r1, hRl, World.cell?_alloc_old]) rfl ?_
  refine ⟨y.name, a', y.args.length, c', true, f', Y', rfl, HKE.out _ _ _, HSUB2.out, HFF.out, ((HXW.out.setNew (by omega) _ _).setNew (by omega) _ _).alloc _, Or.inl ⟨rfl, y, rfl, rfl, hle, ((HSL.out.kept fun b hb => ?_).later ((Below.refl _ _).alloc (Nat.le_refl _) _)).mono fun b hb _ => by omega, HGD.out⟩⟩
  rw [Below.heap_setCell _ _ _ _ (by simp; omega), Below.heap_setCell _ _ _ _ (by simp; omega)]
 ·have HGD := hide hgd
  clear hgd
  have f0 : ∀ o, (w9.alloc o).cell? ⟨w.heap.size + 1 + 1, 0, none⟩ = some (.int .i64 (-1)) := fun o => (HF9.out.alloc o).cell 0
  go_wp2_with fail
  refine bodyPost_ret (v := .tuple #[.agg #[.string ⟨#[]⟩, .slice none 0 0], .bool false]) (by simp [results, Tryz.results49, go_sem, World.cell?_setCell_same, World.cell?_setCell_other, r0, r1, hRl, World.cell?_alloc_old]) rfl ?_
  exact ⟨⟨#[]⟩, none, 0, 0, false, f', Y', rfl, HKE.out _ _ _, HSUB2.out, HFF.out, ((HXW.out.setNew (by omega) _ _).setNew (by omega) _ _).alloc _, Or.inr ⟨rfl, rfl, rfl, rfl, rfl, HGD.out⟩⟩
def FsPostU (S q : Nat) (td : Value) (h : List (ByteArray × Tm)) (tgt : Tm) (f : Bool) (Y : Nat → Prop) (w : World) (e : Ending) (w' : World) : Prop :=
 ∃ (y : Tm) (a' : Option Addr) (c' : Nat) (ok : Bool) (f' : Bool) (Y' : Nat → Prop), e = .returned (.tuple #[.agg #[.string y.name, .slice a' y.args.length c'], .bool ok]) ∧ SolE S q td h f' Y' w' ∧ (∀ b, Y' b → Y b ∨ w.heap.size ≤ b) ∧ (f = true → f' = true) ∧ ExQ (SolM S q) w w' ∧ Sl w' (fun b => w.heap.size ≤ b) a' y.args ∧
  (ok = true → f' = false ∧ y = tgt ∧ sizeL [y] ≤ 2000) ∧ (ok = false → f' = true ∨ 2000 < sizeL [tgt])
theorem fs_end {S q : Nat} {td : Value} {h : List (ByteArray × Tm)} {f f' : Bool} {Y Y' : Nat → Prop} {w w1 : World} {o : Obj} {y tgt : Tm} {a' : Option Addr} {c' : Nat} {ok : Bool} {v0 v1 : Value} (hE : SolE S q td h f' Y' w1) (hY : ∀ b, Y b → b < w.heap.size) (hsub : ∀ b, Y' b → Y b ∨ w.heap.size + 2 ≤ b) (hff : f = true → f' = true) (hx : ExQ (SolM S q) w w1) (hs : Sl w1 (fun b => w.heap.size + 2 ≤ b) a' y.args)
  (h1 : ok = true → f' = false ∧ y = tgt ∧ sizeL [y] ≤ 2000) (h2 : ok = false → f' = true ∨ 2000 < sizeL [tgt]) :
  FsPostU S q td h tgt f Y w (.returned (.tuple #[.agg #[.string y.name, .slice a' y.args.length c'], .bool ok])) (((w1.alloc o).setCell ⟨w.heap.size + 1, 0, none⟩ v0).setCell ⟨w.heap.size + 1, 1, none⟩ v1).drew := by
 have hk : ∀ b, b < w1.heap.size → b ≠ w.heap.size + 1 → ((((w1.alloc o).setCell ⟨w.heap.size + 1, 0, none⟩ v0).setCell ⟨w.heap.size + 1, 1, none⟩ v1).drew).heap[b]? = w1.heap[b]? := fun b hb hn => by
  show (((w1.alloc o).setCell ⟨w.heap.size + 1, 0, none⟩ v0).setCell ⟨w.heap.size + 1, 1, none⟩ v1).heap[b]? = _
  rw [Below.heap_setCell _ _ _ _ (by simpa using hn), Below.heap_setCell _ _ _ _ (by simpa using hn), Below.heap_alloc _ _ _ hb]
 refine ⟨y, a', c', ok, f', Y', rfl, (solE_ok S q td h).keep _ _ _ _ hE fun b hb => hk b (hE.2.2.2.1 b hb) fun e => ?_, fun b hb => (hsub b hb).imp id fun h => by omega, hff, (((hx.alloc o).setNew (by omega) _ _).setNew (by omega) _ _).drew, ((hs.mono (Y := fun b => w.heap.size + 2 ≤ b ∧ b < w1.heap.size) fun b h1 h2 => ⟨h1, h2⟩).kept fun b hb => hk b hb.2 (by omega)).mono fun b hb _ => by omega, h1, h2⟩
 rcases hsub b hb with h | h
 ·have := hY b h; omega
 ·omega
set_option maxHeartbeats 1000000 in
theorem sfill_of (S q : Nat) (td : Value) (h : List (ByteArray × Tm)) (t : Tm) (a : Option Addr) (c : Nat) (w : World) (X Y : Nat → Prop) (f : Bool) (hXM : ∀ b, X b → ¬ SolM S q b) (hs : Sl w X a t.args) (hEv : SolE S q td h f Y w)
  (hL : ∀ nm, occL nm [t] → varB nm = true → LkC (SolE S q td h) (SolM S q) S (forT (sAt h) nm) nm) :
  Calls Tryz.prog 107 #[.pointer (some ⟨S, 0, none⟩), .agg #[.string t.name, .slice a t.args.length c]] w fun e w' => FsPostU S q td h (gTu (forT (sAt h)) t) f Y w e w' := by
 have hmf : ∀ (fn : Fn) (first cap : Array Value) (w : World), (Instr.makeFunc fn first cap).run Tryz.prog w = .ok (.func fn first cap) w := fun _ _ _ _ => rfl
 have HS := hide hs
 have HE := hide hEv
 have HL := hide hL
 have HXM := hide hXM
 have hSl : S < w.heap.size := hEv.2.2.2.1 S hEv.2.1
 clear hs hEv hL hXM
 have HYW : Hid (∀ b, Y b → b < w.heap.size) := HE.out.2.2.2.1
 have HMT : Hid (∀ b, SolM S q b → b < w.heap.size) := fun b hb => HYW.out b ((solE_ok S q td h).mt _ _ _ HE.out b hb)
 have FA : Hid (∀ w', Below w.heap.size w w' → Calls Tryz.prog 49 #[.agg #[.string t.name, .slice a t.args.length c], .int .i64 2000, .func (.func 119) #[.pointer (some ⟨S, 0, none⟩)] #[]] w' fun e w'' => FiPost (SolE S q td h) (SolM S q) (gTu (forT (sAt h)) t) 2000 f Y w' e w'') := fun w' hb =>
  fillL_any (solE_ok S q td h) S (forT (sAt h)) t 2000 a c w' X Y f (by omega) HXM.out (HS.out.later hb) ((solE_ok S q td h).below HE.out hb) HL.out
 have HB2 : Hid (Below w.heap.size w ((w.alloc (.cells #[.string t.name, .slice a t.args.length c] 32)).alloc (.cells #[.string ⟨#[]⟩, .slice none 0 0] 32))) := below2 _ _
 have R2 : Hid (Blk ((w.alloc (.cells #[.string t.name, .slice a t.args.length c] 32)).alloc (.cells #[.string ⟨#[]⟩, .slice none 0 0] 32)) (w.heap.size + 1) #[.string ⟨#[]⟩, .slice none 0 0] 32) := by
  have h := Blk.new (w.alloc (.cells #[.string t.name, .slice a t.args.length c] 32)) #[.string ⟨#[]⟩, .slice none 0 0] 32
  unfold Hid
  simpa using h
 have z2 : ((w.alloc (.cells #[.string t.name, .slice a t.args.length c] 32)).alloc (.cells #[.string ⟨#[]⟩, .slice none 0 0] 32)).heap.size = w.heap.size + 2 := by simp
 go_enter Tryz.func107, Tryz.ntmps107
 go_wp2_with fail
 generalize ((w.alloc (.cells #[.string t.name, .slice a t.args.length c] 32)).alloc (.cells #[.string ⟨#[]⟩, .slice none 0 0] 32)) = w2 at *
 refine (FA.out _ HB2.out).mono ?_
 rintro e w1 ⟨s', a', l', c', ok, f', Y', rfl, hE1, hsub, hff, hx, hc⟩
 have HE1 := hide hE1
 have HSUB : Hid (∀ b, Y' b → Y b ∨ w.heap.size + 2 ≤ b) := fun b hb => (hsub b hb).imp id fun h => by omega
 have HFF := hide hff
 have HX : Hid (ExQ (SolM S q) w w1) := (ExQ.ofBelow HB2.out).trans hx
 have R1 := hide (R2.out.exq hx (fun h => by have := HMT.out _ h; omega))
 have HZ1 : Hid (w.heap.size + 2 ≤ w1.heap.size) := by have := hx.size; unfold Hid; omega
 have HC := hide hc
 obtain ⟨⟨L, hB1, _, _⟩, _⟩ := hE1
 have b2 : ∀ o, (w1.alloc o).cell? ⟨S, 2, none⟩ = some (.bool f') := fun o => (hB1.alloc o).cell 2
 have r0 : ∀ o, (w1.alloc o).cell? ⟨w.heap.size + 1, 0, none⟩ = some (.string ⟨#[]⟩) := fun o => (R1.out.alloc o).cell 0
 have r1 : ∀ o, (w1.alloc o).cell? ⟨w.heap.size + 1, 1, none⟩ = some (.slice none 0 0) := fun o => (R1.out.alloc o).cell 1
 have rf := R1.out.frozen
 clear hB1 hsub hff hx hc FA
 go_wp2_with fail
 have p0 : ∀ o, (w1.alloc o).frozen? ⟨w.heap.size + 1, 0, none⟩ = false := fun o => (R1.out.alloc o).frozen 0
 have p1 : ∀ o, (w1.alloc o).frozen? ⟨w.heap.size + 1, 1, none⟩ = false := fun o => (R1.out.alloc o).frozen 1
 rcases HC.out with ⟨rfl, y, rfl, rfl, hz, hsl, hgd⟩ | ⟨rfl, rfl, rfl, rfl, rfl, hgd⟩
 ·have HSL : Hid (Sl w1 (fun b => w.heap.size + 2 ≤ b) a' y.args) := hsl.mono fun b hb _ => by omega
  have HGD := hide hgd
  have HZ := hide hz
  clear hsl hgd hz
  cases f' with
  | true =>
   go_region
   all_goals
    go_wp2_with fail
    refine bodyPost_ret (v := .tuple #[.agg #[.string y.name, .slice a' y.args.length c'], .bool false]) (by simp [results, Tryz.results107, go_sem, World.cell?_setCell_same, World.cell?_setCell_other, r0, r1]) rfl ?_
    exact fs_end HE1.out HYW.out HSUB.out (fun _ => rfl) HX.out HSL.out (fun h => by cases h) (fun _ => Or.inl rfl)
  | false =>
   go_region
   all_goals
    go_wp2_with fail
    refine bodyPost_ret (v := .tuple #[.agg #[.string y.name, .slice a' y.args.length c'], .bool true]) (by simp [results, Tryz.results107, go_sem, World.cell?_setCell_same, World.cell?_setCell_other, r0, r1]) rfl ?_
    exact fs_end HE1.out HYW.out HSUB.out HFF.out HX.out HSL.out (fun _ => ⟨rfl, HGD.out trivial, HZ.out⟩) (fun h => by cases h)
 ·have HGD := hide hgd
  clear hgd
  have HSL : Hid (Sl w1 (fun b => w.heap.size + 2 ≤ b) none (⟨⟨#[]⟩, []⟩ : Tm).args) := ⟨by simp, Or.inl rfl⟩
  go_region
  all_goals
   go_wp2_with fail
   refine bodyPost_ret (v := .tuple #[.agg #[.string (⟨⟨#[]⟩, []⟩ : Tm).name, .slice none (⟨⟨#[]⟩, []⟩ : Tm).args.length 0], .bool false]) (by simp [results, Tryz.results107, go_sem, World.cell?_setCell_same, World.cell?_setCell_other, r0, r1]) rfl ?_
   exact fs_end HE1.out HYW.out HSUB.out HFF.out HX.out HSL.out (fun h => by cases h) (fun _ => by
    cases hf : f' with
    | true => exact Or.inl rfl
    | false => exact Or.inr (HGD.out hf))
theorem stE_lit {w : World} {Y : Nat → Prop} {h : List (ByteArray × Tm)} {i : Nat} {hi : i < h.length} {v : Value} (e : StE w Y h i hi v) : ∃ (T : Tm) (j : Nat) (a : Option Addr) (c : Nat), T = stood h i (max j (i + 1)) hi ∧ j ≤ h.length ∧ v = .agg #[.string T.name, .slice a T.args.length c, .int .i64 (j : Int)] ∧ Sl w Y a T.args := by
 obtain ⟨j, a, c, h1, h2, h3⟩ := e
 exact ⟨_, j, a, c, rfl, h1, h2, h3⟩
theorem run_len {P : Program} {w : World} {T kt et : TypeId} {r : Nat} {L : List (ByteArray × Value)} (hm : P.underlying T = some (.map kt et)) (h : MapAt w r L) (ty : TypeId) : (Builtin.len_ #[T] ty #[.map (some r)]).run P w = .ok (.int .i64 (L.length : Int)) w := by
 obtain ⟨es, clk, hb, he, _⟩ := h
 have hl : es.size = L.length := by have := congrArg List.length he; simpa using this
 simp [Builtin.len_, run_underlying hm, MapKept.run_getObj_map hb, goInt, Result.andThen, hl]
set_option maxHeartbeats 1000000 in
theorem look_free (S q : Nat) (td : Value) (h : List (ByteArray × Tm)) (g : GoodH h) (nm : ByteArray) (hn : ∀ i (hi : i < h.length), h[i].1 ≠ nm) : LkC (SolE S q td h) (SolM S q) S (forT (sAt h) nm) nm := by
 intro f Y w hE
 have HE := hide hE
 obtain ⟨⟨L, hB, hM, hSt⟩, hYS, hYq, hY, hg⟩ := hE
 have hz : ∀ w', (zeroValue 165).run Tryz.prog w' = .ok (.agg #[.string ⟨#[]⟩, .slice none 0 0, .int .i64 0]) w' := fun w' => Tryz.zeroValue165 w'
 have hml := hM.lt
 have hSl := hB.lt
 have HF := hide (forT_free g hn)
 have b1 : ∀ o, (w.alloc o).cell? ⟨S, 1, none⟩ = some (.map (some q)) := fun o => (hB.alloc o).cell 1
 have hlk : ∀ o, (Instr.lookup 125 (.map (some q)) (.string nm) true).run Tryz.prog (w.alloc o) = .ok (.tuple #[.agg #[.string ⟨#[]⟩, .slice none 0 0, .int .i64 0], .bool false]) (w.alloc o) := fun o => by
  rw [run_look (P := Tryz.prog) Tryz.underlying125 Tryz.underlying9 (hz _) (hM.kept (Below.heap_alloc _ _ _ hml)) nm, hSt.none hn]; rfl
 have HB := hide hB
 clear hB hM hSt hg
 go_enter Tryz.func119, Tryz.ntmps119
 go_wp2_with fail
 go_region
 all_goals go_wp2_with fail
 all_goals
  refine bodyPost_ret (v := .tuple #[.agg #[.string ⟨#[]⟩, .slice none 0 0], .bool false]) (by simp [results, Tryz.results119, go_sem]) rfl ?_
  exact ⟨⟨#[]⟩, none, 0, 0, false, f, Y, rfl, (solE_ok S q td h).below HE.out (((Below.refl _ _).alloc (Nat.le_refl _) _).alloc (by simp) _).drew, fun b hb => Or.inl hb, fun h => h, (((ExQ.refl _ _).alloc _).alloc _).drew, Or.inr ⟨rfl, fun _ => HF.out⟩⟩
theorem look_put {S q : Nat} {td : Value} {h : List (ByteArray × Tm)} (g : GoodH h) {i : Nat} (hi : i < h.length) {f' : Bool} {Y' Z : Nat → Prop} {w1 WS : World} (hE : SolE S q td h f' Y' w1) (hk : ∀ b, Y' b → WS.heap[b]? = w1.heap[b]?) {a' : Option Addr} {c' : Nat} {y : Tm} (hy : y = stood h i h.length hi) (hZ : ∀ b, Z b → b < WS.heap.size ∧ b ≠ S ∧ b ≠ q) (hs : Sl WS Z a' y.args) {nm : ByteArray} (hnm : h[i].1 = nm) :
  ∃ w5, (Instr.mapUpdate 125 (.map (some q)) (.string nm) (.agg #[.string y.name, .slice a' y.args.length c', .int .i64 (h.length : Int)])).run Tryz.prog WS = .ok () w5 ∧ SolE S q td h f' (fun b => Y' b ∨ Z b) w5 ∧ w5.heap.size = WS.heap.size ∧ w5.os = WS.os ∧ w5.tape = WS.tape ∧ w5.output = WS.output ∧ ∀ b, b ≠ q → w5.heap[b]? = WS.heap[b]? := by
 have hE2 := (solE_ok S q td h).keep _ _ _ _ hE hk
 obtain ⟨⟨L, e1, e2, e3⟩, e4, e5, e6, e7⟩ := hE2
 obtain ⟨v0, hv0, _⟩ := e3.get g hi
 have hSq : S ≠ q := fun e => by
  obtain ⟨es, clk, h1, _⟩ := e2
  subst e
  unfold Blk at e1
  rw [h1] at e1; cases e1
 obtain ⟨w5, h1, h2, h3, h4, h5, h6, h7⟩ := run_set (P := Tryz.prog) Tryz.underlying125 Tryz.underlying9 e2 h[i].1 (.agg #[.string y.name, .slice a' y.args.length c', .int .i64 (h.length : Int)]) v0 hv0
 refine ⟨w5, by rw [← hnm]; exact h1, ⟨⟨_, ?_, h2, ?_⟩, Or.inl e4, Or.inl e5, fun b hb => ?_, e7⟩, h3, h4, h5, h6, h7⟩
 ·unfold Blk at *; rw [h7 S hSq]; exact e1
 ·have kp : ∀ (X : Nat → Prop) a l, (∀ b, X b → (Y' b ∨ Z b) ∧ b ≠ S ∧ b ≠ q) → Sl WS X a l → Sl w5 (fun b => (Y' b ∨ Z b) ∧ b ≠ S ∧ b ≠ q) a l := fun X a l hX hsl => (hsl.kept fun b hb => h7 b (hX b hb).2.2).mono fun b hb _ => hX b hb
  refine (e3.imp fun a l hsl => kp _ a l (fun b hb => ⟨Or.inl hb.1, hb.2⟩) hsl).set g hi ⟨h.length, a', c', Nat.le_refl _, ?_, ?_⟩
  ·rw [Nat.max_eq_left (by omega), ← hy]
  ·rw [Nat.max_eq_left (by omega), ← hy]
   exact kp _ _ _ (fun b hb => ⟨Or.inr hb, (hZ b hb).2⟩) hs
 ·rw [h3]
  rcases hb with hb | hb
  ·exact e6 b hb
  ·exact (hZ b hb).1
theorem look_full {S q : Nat} {td : Value} {h : List (ByteArray × Tm)} {f' : Bool} {Y' Z : Nat → Prop} {w1 WS : World} (hE : SolE S q td h f' Y' w1) (hk : ∀ b, Y' b → WS.heap[b]? = w1.heap[b]?) (hg : grtB (sAt h) = true) (hZ : ∀ b, Z b → b < WS.heap.size ∧ b ≠ S ∧ b ≠ q) : SolE S q td h true (fun b => Y' b ∨ Z b) (WS.setCell ⟨S, 2, none⟩ (.bool true)) := by
 have hE2 := (solE_ok S q td h).keep _ _ _ _ hE hk
 obtain ⟨⟨L, e1, e2, e3⟩, e4, e5, e6, e7⟩ := hE2
 have hSq : S ≠ q := fun e => by
  obtain ⟨es, clk, h1, _⟩ := e2
  subst e
  unfold Blk at e1
  rw [h1] at e1; cases e1
 have hk2 : ∀ b, b ≠ S → (WS.setCell ⟨S, 2, none⟩ (.bool true)).heap[b]? = WS.heap[b]? := fun b hb => Below.heap_setCell _ _ _ _ (by simpa using hb)
 refine ⟨⟨L, ?_, e2.kept (hk2 q (Ne.symm hSq)), e3.imp fun a l hsl => (hsl.kept fun b hb => hk2 b hb.2.1).mono fun b hb _ => ⟨Or.inl hb.1, hb.2⟩⟩, Or.inl e4, Or.inl e5, fun b hb => ?_, fun _ => hg⟩
 ·have := e1.set 2 (.bool true)
  simpa using this
 ·have hz : (WS.setCell ⟨S, 2, none⟩ (.bool true)).heap.size = WS.heap.size := by simp [World.setCell]
  rw [hz]
  rcases hb with hb | hb
  ·exact e6 b hb
  ·exact (hZ b hb).1
set_option maxHeartbeats 1000000 in
theorem look_at (S q : Nat) (td : Value) (h : List (ByteArray × Tm)) (g : GoodH h) (hN : NamesH h) (i : Nat) (hi : i < h.length)
  (hrec : ∀ k (hk : k < h.length), i < k → LkC (SolE S q td h) (SolM S q) S (forT (sAt h) h[k].1) h[k].1) : LkC (SolE S q td h) (SolM S q) S (forT (sAt h) h[i].1) h[i].1 := by
 intro f Y w hE
 have HE := hide hE
 obtain ⟨⟨L, hB, hM, hSt⟩, hYS, hYq, hY, hg⟩ := hE
 obtain ⟨v, hgv, hst⟩ := hSt.get g hi
 obtain ⟨T, j, a, c, hT, hj, rfl, hsl⟩ := stE_lit hst
 have HST := hide hSt
 have HSL := hide hsl
 have HGV := hide hgv
 have HMM := hide hM
 have HG := hide hg
 have HY := hide hY
 have hz : ∀ w', (zeroValue 165).run Tryz.prog w' = .ok (.agg #[.string ⟨#[]⟩, .slice none 0 0, .int .i64 0]) w' := fun w' => Tryz.zeroValue165 w'
 have hml := hM.lt
 have hSl := hB.lt
 have hF := forT_at g hi
 obtain ⟨nm, hnm⟩ : ∃ nm, h[i].1 = nm := ⟨_, rfl⟩
 rw [hnm] at hgv hF HGV ⊢
 have HF := hide hF
 clear hF
 have HNM := hide hnm
 have HT := hide hT
 have hSq : S ≠ q := fun e => by
  obtain ⟨es, clk, h1, _⟩ := hM
  subst e
  unfold Blk at hB
  rw [h1] at hB; cases hB
 have HB := hide hB
 have b1 : ∀ o o', ((w.alloc o).alloc o').cell? ⟨S, 1, none⟩ = some (.map (some q)) := fun o o' => ((hB.alloc o).alloc o').cell 1
 have b1' : ∀ o, (w.alloc o).cell? ⟨S, 1, none⟩ = some (.map (some q)) := fun o => (hB.alloc o).cell 1
 have b2 : ∀ o o', ((w.alloc o).alloc o').cell? ⟨S, 2, none⟩ = some (.bool f) := fun o o' => ((hB.alloc o).alloc o').cell 2
 have hlk : ∀ o, (Instr.lookup 125 (.map (some q)) (.string nm) true).run Tryz.prog (w.alloc o) = .ok (.tuple #[.agg #[.string T.name, .slice a T.args.length c, .int .i64 (j : Int)], .bool true]) (w.alloc o) := fun o => by
  rw [run_look (P := Tryz.prog) Tryz.underlying125 Tryz.underlying9 (hz _) (hM.kept (Below.heap_alloc _ _ _ hml)) nm, hgv]; rfl
 have hln : Hid (L.length = h.length) := hSt.1
 have hlen : ∀ o o', Sem.run Tryz.prog (Builtin.len_ #[125] 3 #[.map (some q)]) ((w.alloc o).alloc o').drew = .ok (.int .i64 (h.length : Int)) ((w.alloc o).alloc o').drew := fun o o' => by
  have h1 : MapAt ((w.alloc o).alloc o').drew q L := HMM.out.below ((((Below.refl w.heap.size w).alloc (Nat.le_refl _) o).alloc (by simp) o').drew) hml
  rw [run_len Tryz.underlying125 h1, hln.out]
 clear hB hSt hg hY hsl hgv hst hnm hT hM
 cases f with
 | true =>
  go_enter Tryz.func119, Tryz.ntmps119
  go_wp2_with fail
  go_region
  all_goals go_wp2_with fail
  all_goals
   refine bodyPost_ret (v := .tuple #[.agg #[.string T.name, .slice a T.args.length c], .bool true]) (by simp [results, Tryz.results119, go_sem]) rfl ?_
   exact ⟨T.name, a, T.args.length, c, true, true, Y, rfl, (solE_ok S q td h).below HE.out (((Below.refl _ _).alloc (Nat.le_refl _) _).alloc (by simp) _).drew, fun b hb => Or.inl hb, fun h => h, (((ExQ.refl _ _).alloc _).alloc _).drew, Or.inl ⟨rfl, T, rfl, rfl, (HSL.out.later (((Below.refl _ _).alloc (Nat.le_refl _) _).alloc (by simp) _).drew).mono fun b hb _ => hb.1, fun h => by cases h⟩⟩
 | false =>
  by_cases hjl : j = h.length
  ·have HJ := hide hjl
   have hT2 : Hid (forT (sAt h) nm = some T) := by
    unfold Hid
    rw [HF.out, HT.out, hjl, Nat.max_eq_left (by omega)]
   have hje : ((j : Int) == (h.length : Int)) = true := by rw [hjl]; simp
   clear hjl
   go_enter Tryz.func119, Tryz.ntmps119
   go_wp2_with fail
   go_region
   all_goals go_wp2_with fail
   all_goals
    refine bodyPost_ret (v := .tuple #[.agg #[.string T.name, .slice a T.args.length c], .bool true]) (by simp [results, Tryz.results119, go_sem]) rfl ?_
    exact ⟨T.name, a, T.args.length, c, true, false, Y, rfl, (solE_ok S q td h).below HE.out (((Below.refl _ _).alloc (Nat.le_refl _) _).alloc (by simp) _).drew, fun b hb => Or.inl hb, fun h => h, (((ExQ.refl _ _).alloc _).alloc _).drew, Or.inl ⟨rfl, T, rfl, rfl, (HSL.out.later (((Below.refl _ _).alloc (Nat.le_refl _) _).alloc (by simp) _).drew).mono fun b hb _ => hb.1, fun _ => hT2.out⟩⟩
  ·have HJ := hide hjl
   have hje : ((j : Int) == (h.length : Int)) = false := beq_eq_false_iff_ne.2 (by omega)
   clear hjl
   go_enter Tryz.func119, Tryz.ntmps119
   go_wp2_with fail
   go_region
   go_wp2_with fail
   have HB0 : Hid (Below w.heap.size w ((w.alloc (.cells #[.string ⟨#[]⟩, .slice none 0 0] 32)).alloc (.cells #[.string T.name, .slice a T.args.length c, .int .i64 (h.length : Int)] 165)).drew) := (((Below.refl _ _).alloc (Nat.le_refl _) _).alloc (by simp) _).drew
   have R0 : Hid (Blk ((w.alloc (.cells #[.string ⟨#[]⟩, .slice none 0 0] 32)).alloc (.cells #[.string T.name, .slice a T.args.length c, .int .i64 (h.length : Int)] 165)).drew w.heap.size #[.string ⟨#[]⟩, .slice none 0 0] 32) := ((Blk.new w _ _).alloc _).drewN 1
   have X0 : Hid (Blk ((w.alloc (.cells #[.string ⟨#[]⟩, .slice none 0 0] 32)).alloc (.cells #[.string T.name, .slice a T.args.length c, .int .i64 (h.length : Int)] 165)).drew (w.heap.size + 1) #[.string T.name, .slice a T.args.length c, .int .i64 (h.length : Int)] 165) := by
    have h1 := Blk.new (w.alloc (.cells #[.string ⟨#[]⟩, .slice none 0 0] 32)) #[.string T.name, .slice a T.args.length c, .int .i64 (h.length : Int)] 165
    rw [World.size_alloc] at h1
    exact h1
   have z0 : ((w.alloc (.cells #[.string ⟨#[]⟩, .slice none 0 0] 32)).alloc (.cells #[.string T.name, .slice a T.args.length c, .int .i64 (h.length : Int)] 165)).drew.heap.size = w.heap.size + 2 := by simp
   generalize ((w.alloc (.cells #[.string ⟨#[]⟩, .slice none 0 0] 32)).alloc (.cells #[.string T.name, .slice a T.args.length c, .int .i64 (h.length : Int)] 165)).drew = w0 at *
   have HTG : Hid (gTu (forT (sAt h)) T = stood h i h.length hi) := by
    unfold Hid
    rw [HT.out]
    exact stood_fill g hN hi (Nat.max_le.2 ⟨hj, hi⟩)
   have SF := sfill_of S q td h T a c w0 (fun b => Y b ∧ b ≠ S ∧ b ≠ q) Y false (fun b hb hm => by rcases hm with h | h; exact hb.2.1 h; exact hb.2.2 h) (HSL.out.later HB0.out) ((solE_ok S q td h).below HE.out HB0.out) (fun n2 ho hv => by
    by_cases hbd : ∃ k, ∃ hk : k < h.length, h[k].1 = n2
    ·obtain ⟨k, hk, rfl⟩ := hbd
     rw [HT.out] at ho
     have h1 := stood_later g hi (Nat.max_le.2 ⟨hj, hi⟩) (hN i hi) hk ho
     exact hrec k hk (by omega)
    ·exact look_free S q td h g n2 fun k hk e => hbd ⟨k, hk, e⟩)
   rw [HTG.out] at SF
   refine SF.mono ?_
   clear SF
   rintro e w1 ⟨y, a', c', ok, f', Y', rfl, hE1, hsub, hff, hx, hs1, hk1, hk2⟩
   have HX1 : Hid (ExQ (SolM S q) w w1) := (ExQ.ofBelow HB0.out).trans hx
   have hmn : ∀ b, SolM S q b → b < w.heap.size := fun b hb => by rcases hb with rfl | rfl; exact hSl; exact hml
   have R1 := hide (R0.out.exq hx (fun h => by have := hmn _ h; omega))
   have X1 := hide (X0.out.exq hx (fun h => by have := hmn _ h; omega))
   have HZ1 : Hid (w.heap.size + 2 ≤ w1.heap.size) := by have := hx.size; unfold Hid; omega
   have HSUB : Hid (∀ b, Y' b → Y b ∨ w.heap.size + 2 ≤ b) := fun b hb => (hsub b hb).imp id fun h => by omega
   have HS1 : Hid (Sl w1 (fun b => w.heap.size + 2 ≤ b ∧ b < w1.heap.size) a' y.args) := hs1.mono fun b hb h2 => ⟨by omega, h2⟩
   have HE1 := hide hE1
   have HYX : Hid (∀ b, Y' b → b ≠ w.heap.size ∧ b ≠ w.heap.size + 1) := fun b hb => by
    rcases HSUB.out b hb with h1 | h1
    ·have := HY.out b h1; omega
    ·omega
   have x0 := X1.out.c0
   have x1 := X1.out.c1
   have x2 := X1.out.c2
   have xf := X1.out.frozen
   have HK1 := hide hk1
   have HK2 := hide hk2
   clear hsub hx hs1 hk1 hk2 hE1 hff hmn
   cases ok with
   | true =>
    obtain ⟨rfl, hyT, hyz⟩ := HK1.out rfl
    have HYT := hide hyT
    clear hyT hyz HK1 HK2
    have hkS : ∀ b, b ≠ w.heap.size + 1 → ((w1.setCell ⟨w.heap.size + 1, 0, none⟩ (.string y.name)).setCell ⟨w.heap.size + 1, 1, none⟩ (.slice a' y.args.length c')).drew.heap[b]? = w1.heap[b]? := fun b hb => by
     show ((w1.setCell ⟨w.heap.size + 1, 0, none⟩ (.string y.name)).setCell ⟨w.heap.size + 1, 1, none⟩ (.slice a' y.args.length c')).heap[b]? = _
     rw [Below.heap_setCell _ _ _ _ (by simpa using hb), Below.heap_setCell _ _ _ _ (by simpa using hb)]
    have hzS : ((w1.setCell ⟨w.heap.size + 1, 0, none⟩ (.string y.name)).setCell ⟨w.heap.size + 1, 1, none⟩ (.slice a' y.args.length c')).drew.heap.size = w1.heap.size := by simp [World.setCell]
    obtain ⟨w5, hput, hE5, hz5, ho5, ht5, hu5, hk5⟩ := look_put (WS := ((w1.setCell ⟨w.heap.size + 1, 0, none⟩ (.string y.name)).setCell ⟨w.heap.size + 1, 1, none⟩ (.slice a' y.args.length c')).drew) (Z := fun b => w.heap.size + 2 ≤ b ∧ b < w1.heap.size) (c' := c') g hi HE1.out (fun b hb => hkS b (HYX.out b hb).2) HYT.out (fun b hb => ⟨by rw [hzS]; exact hb.2, by omega, by omega⟩) (HS1.out.kept fun b hb => hkS b (by omega)) HNM.out
    have HE5 := hide hE5
    have XS : Hid (Blk w5 (w.heap.size + 1) #[.string y.name, .slice a' y.args.length c', .int .i64 (h.length : Int)] 165) := by
     have h1 := (X1.out.set 0 (.string y.name)).set 1 (.slice a' y.args.length c')
     unfold Hid Blk
     rw [hk5 _ (by omega)]
     show ((w1.setCell ⟨w.heap.size + 1, 0, none⟩ (.string y.name)).setCell ⟨w.heap.size + 1, 1, none⟩ (.slice a' y.args.length c')).heap[w.heap.size + 1]? = _
     unfold Blk at h1
     rw [h1]
     simp
    have RS : Hid (Blk w5 w.heap.size #[.string ⟨#[]⟩, .slice none 0 0] 32) := by
     unfold Hid Blk
     rw [hk5 _ (by omega), hkS _ (by omega)]
     exact R1.out
    have HX5 : Hid (ExQ (SolM S q) w w5) := by
     have h1 := ((HX1.out.setNew (b := w.heap.size + 1) (by omega) 0 (.string y.name)).setNew (b := w.heap.size + 1) (by omega) 1 (.slice a' y.args.length c')).drew
     exact ⟨ho5.trans h1.os, ht5.trans h1.tape, hu5.trans h1.output, by rw [hz5]; exact h1.size, fun b hb hn => (hk5 b (fun e => hn (Or.inr e))).trans (h1.block b hb hn)⟩
    have s1 : ((w1.setCell ⟨w.heap.size + 1, 0, none⟩ (.string y.name)).setCell ⟨w.heap.size + 1, 1, none⟩ (.slice a' y.args.length c')).cell? ⟨S, 1, none⟩ = some (.map (some q)) := by
     obtain ⟨⟨L1, hB1, _⟩, _⟩ := HE1.out
     exact ((hB1.setOther _ _ (by omega)).setOther _ _ (by omega)).cell 1
    have y0 : ((w1.setCell ⟨w.heap.size + 1, 0, none⟩ (.string y.name)).setCell ⟨w.heap.size + 1, 1, none⟩ (.slice a' y.args.length c')).cell? ⟨w.heap.size + 1, 0, none⟩ = some (.string y.name) := by
     have := ((X1.out.set 0 (.string y.name)).set 1 (.slice a' y.args.length c')).cell 0
     simpa using this
    have y1 : ((w1.setCell ⟨w.heap.size + 1, 0, none⟩ (.string y.name)).setCell ⟨w.heap.size + 1, 1, none⟩ (.slice a' y.args.length c')).cell? ⟨w.heap.size + 1, 1, none⟩ = some (.slice a' y.args.length c') := by
     have := ((X1.out.set 0 (.string y.name)).set 1 (.slice a' y.args.length c')).cell 1
     simpa using this
    have y2 : ((w1.setCell ⟨w.heap.size + 1, 0, none⟩ (.string y.name)).setCell ⟨w.heap.size + 1, 1, none⟩ (.slice a' y.args.length c')).cell? ⟨w.heap.size + 1, 2, none⟩ = some (.int .i64 (h.length : Int)) := by
     have := ((X1.out.set 0 (.string y.name)).set 1 (.slice a' y.args.length c')).cell 2
     simpa using this
    have q0 := XS.out.c0
    have q1 := XS.out.c1
    have r0 := RS.out.c0
    have r1 := RS.out.c1
    have rf := RS.out.frozen
    have HZ5 : Hid (w5.heap.size = w1.heap.size) := by unfold Hid; rw [hz5, hzS]
    have HS5 : Hid (Sl w5 (fun b => w.heap.size + 2 ≤ b ∧ b < w1.heap.size) a' y.args) := (HS1.out.kept fun b hb => hkS b (by omega)).kept fun b hb => hk5 b (by omega)
    clear hE5 hz5 ho5 ht5 hu5 hk5 hzS hkS
    go_wp2_with fail
    go_region
    all_goals go_wp2_with fail
    all_goals
     refine bodyPost_ret (v := .tuple #[.agg #[.string y.name, .slice a' y.args.length c'], .bool true]) (by simp [results, Tryz.results119, go_sem, World.cell?_setCell_same, World.cell?_setCell_other, r0, r1]) rfl ?_
     have hkF : ∀ b, b ≠ w.heap.size → ((w5.setCell ⟨w.heap.size, 0, none⟩ (.string y.name)).setCell ⟨w.heap.size, 1, none⟩ (.slice a' y.args.length c')).heap[b]? = w5.heap[b]? := fun b hb => by
      rw [Below.heap_setCell _ _ _ _ (by simpa using hb), Below.heap_setCell _ _ _ _ (by simpa using hb)]
     refine ⟨y.name, a', y.args.length, c', true, false, _, rfl, (solE_ok S q td h).keep _ _ _ _ HE5.out (fun b hb => hkF b ?_), fun b hb => ?_, fun h => h, (HX5.out.setNew (by omega) _ _).setNew (by omega) _ _, Or.inl ⟨rfl, y, rfl, rfl, (HS5.out.kept fun b hb => hkF b (by omega)).mono fun b hb _ => Or.inr hb, fun _ => by rw [HF.out, HYT.out]⟩⟩
     ·rcases hb with hb | hb
      ·exact (HYX.out b hb).1
      ·omega
     ·rcases hb with hb | hb
      ·exact (HSUB.out b hb).imp id fun h => by omega
      ·right; omega
   | false =>
    have HGR : Hid (grtB (sAt h) = true) := by
     rcases HK2.out rfl with h1 | h1
     ·exact HE1.out.2.2.2.2 h1
     ·exact stood_great g hi h1
    have hkS : ∀ b, b ≠ w.heap.size + 1 → ((w1.setCell ⟨w.heap.size + 1, 0, none⟩ (.string y.name)).setCell ⟨w.heap.size + 1, 1, none⟩ (.slice a' y.args.length c')).heap[b]? = w1.heap[b]? := fun b hb => by
     rw [Below.heap_setCell _ _ _ _ (by simpa using hb), Below.heap_setCell _ _ _ _ (by simpa using hb)]
    have hzS : ((w1.setCell ⟨w.heap.size + 1, 0, none⟩ (.string y.name)).setCell ⟨w.heap.size + 1, 1, none⟩ (.slice a' y.args.length c')).heap.size = w1.heap.size := by simp [World.setCell]
    have HE5 := hide (look_full (WS := ((w1.setCell ⟨w.heap.size + 1, 0, none⟩ (.string y.name)).setCell ⟨w.heap.size + 1, 1, none⟩ (.slice a' y.args.length c'))) (Z := fun b => w.heap.size + 2 ≤ b ∧ b < w1.heap.size) HE1.out (fun b hb => hkS b (HYX.out b hb).2) HGR.out (fun b hb => ⟨by rw [hzS]; exact hb.2, by omega, by omega⟩))
    obtain ⟨⟨L1, hB1, hM1, hST1⟩, hYS1, hrest1⟩ := HE1.out
    have BS := hide ((hB1.setOther (b' := w.heap.size + 1) 0 (.string y.name) (by omega)).setOther (b' := w.heap.size + 1) 1 (.slice a' y.args.length c') (by omega))
    have XS := hide ((X1.out.set 0 (.string y.name)).set 1 (.slice a' y.args.length c'))
    have RS := hide ((R1.out.setOther (b' := w.heap.size + 1) 0 (.string y.name) (by omega)).setOther (b' := w.heap.size + 1) 1 (.slice a' y.args.length c') (by omega))
    have HX5 := hide ((HX1.out.setNew (b := w.heap.size + 1) (by omega) 0 (.string y.name)).setNew (b := w.heap.size + 1) (by omega) 1 (.slice a' y.args.length c'))
    have HS5 : Hid (Sl ((w1.setCell ⟨w.heap.size + 1, 0, none⟩ (.string y.name)).setCell ⟨w.heap.size + 1, 1, none⟩ (.slice a' y.args.length c')) (fun b => w.heap.size + 2 ≤ b ∧ b < w1.heap.size) a' y.args) := HS1.out.kept fun b hb => hkS b (by omega)
    have s2 : ((w1.setCell ⟨w.heap.size + 1, 0, none⟩ (.string y.name)).setCell ⟨w.heap.size + 1, 1, none⟩ (.slice a' y.args.length c')).cell? ⟨S, 2, none⟩ = some (.bool f') := BS.out.cell 2
    have sf := BS.out.frozen 2
    have y0 : (((w1.setCell ⟨w.heap.size + 1, 0, none⟩ (.string y.name)).setCell ⟨w.heap.size + 1, 1, none⟩ (.slice a' y.args.length c')).setCell ⟨S, 2, none⟩ (.bool true)).cell? ⟨w.heap.size + 1, 0, none⟩ = some (.string y.name) := by
     have := (XS.out.setOther (b' := S) 2 (.bool true) (by omega)).cell 0
     simpa using this
    have y1 : (((w1.setCell ⟨w.heap.size + 1, 0, none⟩ (.string y.name)).setCell ⟨w.heap.size + 1, 1, none⟩ (.slice a' y.args.length c')).setCell ⟨S, 2, none⟩ (.bool true)).cell? ⟨w.heap.size + 1, 1, none⟩ = some (.slice a' y.args.length c') := by
     have := (XS.out.setOther (b' := S) 2 (.bool true) (by omega)).cell 1
     simpa using this
    have r0 : (((w1.setCell ⟨w.heap.size + 1, 0, none⟩ (.string y.name)).setCell ⟨w.heap.size + 1, 1, none⟩ (.slice a' y.args.length c')).setCell ⟨S, 2, none⟩ (.bool true)).cell? ⟨w.heap.size, 0, none⟩ = some (.string ⟨#[]⟩) := (RS.out.setOther (b' := S) 2 (.bool true) (by omega)).cell 0
    have r1 : (((w1.setCell ⟨w.heap.size + 1, 0, none⟩ (.string y.name)).setCell ⟨w.heap.size + 1, 1, none⟩ (.slice a' y.args.length c')).setCell ⟨S, 2, none⟩ (.bool true)).cell? ⟨w.heap.size, 1, none⟩ = some (.slice none 0 0) := (RS.out.setOther (b' := S) 2 (.bool true) (by omega)).cell 1
    have rf := R1.out.frozen
    have hnS : w.heap.size + 1 ≠ S := by omega
    have hnS2 : w.heap.size ≠ S := by omega
    clear hB1 hM1 hST1 hYS1 hrest1 HK2 hkS hzS
    go_wp2_with fail
    refine bodyPost_ret (v := .tuple #[.agg #[.string y.name, .slice a' y.args.length c'], .bool true]) (by simp [results, Tryz.results119, go_sem, World.cell?_setCell_same, World.cell?_setCell_other, r0, r1]) rfl ?_
    have hkF : ∀ b, b ≠ w.heap.size → (((((w1.setCell ⟨w.heap.size + 1, 0, none⟩ (.string y.name)).setCell ⟨w.heap.size + 1, 1, none⟩ (.slice a' y.args.length c')).setCell ⟨S, 2, none⟩ (.bool true)).setCell ⟨w.heap.size, 0, none⟩ (.string y.name)).setCell ⟨w.heap.size, 1, none⟩ (.slice a' y.args.length c')).heap[b]? = (((w1.setCell ⟨w.heap.size + 1, 0, none⟩ (.string y.name)).setCell ⟨w.heap.size + 1, 1, none⟩ (.slice a' y.args.length c')).setCell ⟨S, 2, none⟩ (.bool true)).heap[b]? := fun b hb => by
     rw [Below.heap_setCell _ _ _ _ (by simpa using hb), Below.heap_setCell _ _ _ _ (by simpa using hb)]
    refine ⟨y.name, a', y.args.length, c', true, true, _, rfl, (solE_ok S q td h).keep _ _ _ _ HE5.out (fun b hb => hkF b ?_), fun b hb => ?_, fun h => rfl, ((HX5.out.set (Or.inl rfl) _ _).setNew (by omega) _ _).setNew (by omega) _ _, Or.inl ⟨rfl, y, rfl, rfl, ((HS5.out.kept fun b hb => Below.heap_setCell _ _ _ _ (by simp; omega)).kept fun b hb => hkF b (by omega)).mono fun b hb _ => Or.inr hb, fun h => by cases h⟩⟩
    ·rcases hb with hb | hb
     ·exact (HYX.out b hb).1
     ·omega
    ·rcases hb with hb | hb
     ·exact (HSUB.out b hb).imp id fun h => by omega
     ·right; omega
theorem look_all (S q : Nat) (td : Value) (h : List (ByteArray × Tm)) (g : GoodH h) (hN : NamesH h) : ∀ (d i : Nat) (hi : i < h.length), h.length - i ≤ d → LkC (SolE S q td h) (SolM S q) S (forT (sAt h) h[i].1) h[i].1
 | 0, i, hi, hd => by omega
 | d + 1, i, hi, hd => look_at S q td h g hN i hi fun k hk hik => look_all S q td h g hN d k hk (by omega)
theorem look_any2 (S q : Nat) (td : Value) (h : List (ByteArray × Tm)) (g : GoodH h) (hN : NamesH h) (nm : ByteArray) : LkC (SolE S q td h) (SolM S q) S (forT (sAt h) nm) nm := by
 by_cases hbd : ∃ k, ∃ hk : k < h.length, h[k].1 = nm
 ·obtain ⟨k, hk, rfl⟩ := hbd
  exact look_all S q td h g hN _ k hk (Nat.le_refl _)
 ·exact look_free S q td h g nm fun k hk e => hbd ⟨k, hk, e⟩
theorem ufill_any (S q : Nat) (td : Value) (h : List (ByteArray × Tm)) (g : GoodH h) (hN : NamesH h) (t : Tm) (he : errL [t] = 0) (a : Option Addr) (c : Nat) (w : World) (X Y : Nat → Prop) (f : Bool) (hXM : ∀ b, X b → ¬ SolM S q b) (hs : Sl w X a t.args) (hEv : SolE S q td h f Y w) :
  Calls Tryz.prog 107 #[.pointer (some ⟨S, 0, none⟩), .agg #[.string t.name, .slice a t.args.length c]] w fun e w' => FsPostU S q td h (onT (sAt h) t) f Y w e w' := by
 have h1 := sfill_of S q td h t a c w X Y f hXM hs hEv fun nm _ _ => look_any2 S q td h g hN nm
 rw [gT_onT g.all.vars he] at h1
 exact h1
theorem le_of_apart {α : Type} : ∀ (l V : List α), l.Nodup → (∀ x ∈ l, x ∈ V) → l.length ≤ V.length
 | [], V, _, _ => by simp
 | a :: l, V, h, hs => by
  classical
  obtain ⟨h1, h2⟩ := List.nodup_cons.1 h
  have ih := le_of_apart l (V.filter fun x => decide (x ≠ a)) h2 fun x hx => List.mem_filter.2 ⟨hs x (by simp [hx]), by simp; rintro rfl; exact h1 hx⟩
  have hlt := filter_lt (p := fun _ => true) (q := fun x => decide (x ≠ a)) V (fun _ _ _ => rfl) ⟨a, hs a (by simp), rfl, by simp⟩
  have e : V.filter (fun _ => true) = V := List.filter_eq_self.2 (by simp)
  rw [e] at hlt
  simp only [List.length_cons]
  omega
structure UI (V : List ByteArray) (h : List (ByteArray × Tm)) (l : List Pr) : Prop where
 good : GoodH h
 names : NamesH h
 inV : ∀ i (hi : i < h.length), h[i].1 ∈ V
 err : errL (flatP l) = 0
 vars : ∀ y, varB y = true → occL y (onL (sAt h) (flatP l)) → y ∈ V
 size : ∀ p ∈ l, sizeL [p.l] ≤ 2000 ∧ sizeL [p.r] ≤ 2000
 len : ∃ l1 l2, l = l1 ++ l2 ∧ (∀ p ∈ l1, onT (sAt h) p.l = p.l ∧ onT (sAt h) p.r = p.r) ∧ sizeL (l1.map (·.l)) ≤ 2000 ∧ l2.length ≤ 40 + 2000 * h.length
theorem UI.hlen {V : List ByteArray} {h : List (ByteArray × Tm)} {l : List Pr} (u : UI V h l) : h.length ≤ V.length := by
 have h1 := le_of_apart (h.map (·.1)) V ?_ ?_
 ·simpa using h1
 ·rw [List.nodup_iff_pairwise_ne, List.pairwise_map, List.pairwise_iff_getElem]
  intro i j hi hj hij e
  have := u.good.once hi hj e
  omega
 ·intro x hx
  obtain ⟨p, hp, rfl⟩ := List.mem_map.1 hx
  obtain ⟨i, hi, rfl⟩ := List.getElem_of_mem hp
  exact u.inV i hi
theorem map_len_size : ∀ l : List Pr, l.length ≤ sizeL (l.map (·.l))
 | [] => by simp
 | p :: l => by
  have := map_len_size l
  rw [List.map_cons, size_cons]
  have := sizeL_pos p.l
  simp only [List.length_cons]
  omega
theorem UI.llen {V : List ByteArray} {h : List (ByteArray × Tm)} {l : List Pr} (u : UI V h l) : l.length ≤ 2040 + 2000 * V.length := by
 obtain ⟨l1, l2, rfl, _, h2, h3⟩ := u.len
 have h4 := map_len_size l1
 have h5 := u.hlen
 rw [List.length_append]
 have : 2000 * h.length ≤ 2000 * V.length := Nat.mul_le_mul_left _ h5
 omega
theorem UI.start {l : List Pr} (he : errL (flatP l) = 0) (hs : ∀ p ∈ l, sizeL [p.l] ≤ 2000 ∧ sizeL [p.r] ≤ 2000) (hl : l.length ≤ 40) : UI ((preL (onL [] (flatP l))).map (·.name)) [] l :=
 ⟨goodH_nil, fun i hi => by simp at hi, fun i hi => by simp at hi, he, fun y _ ho => by obtain ⟨k, hk, e⟩ := ho; exact List.mem_map.2 ⟨k, hk, e⟩, hs, [], l, rfl, by simp, by simp [sizeL], by simpa using hl⟩
theorem UI.drop {V : List ByteArray} {h : List (ByteArray × Tm)} {p : Pr} {l : List Pr} (u : UI V h (p :: l)) : UI V h l := by
 obtain ⟨g1, g2, g3, g4, g5, g6, l1, l2, e, g7, g8, g9⟩ := u
 rw [flatP] at g4 g5
 refine ⟨g1, g2, g3, (err_two.1 (err_two.1 g4).2).2, fun y hy ho => g5 y hy ?_, fun q hq => g6 q (by simp [hq]), ?_⟩
 ·rw [onL_cons, onL_cons]
  exact occL_cons.2 (Or.inr (occL_cons.2 (Or.inr ho)))
 ·cases l1 with
  | nil =>
   cases l2 with
   | nil => cases e
   | cons q l2 =>
    simp only [List.nil_append, List.cons.injEq] at e
    obtain ⟨rfl, rfl⟩ := e
    simp only [List.length_cons] at g9
    exact ⟨[], l, rfl, by simp, by simp [sizeL], by omega⟩
  | cons q l1 =>
   simp only [List.cons_append, List.cons.injEq] at e
   obtain ⟨rfl, rfl⟩ := e
   rw [List.map_cons, size_cons] at g8
   exact ⟨l1, l2, rfl, fun q hq => g7 q (by simp [hq]), by omega, g9⟩
theorem UI.head {V : List ByteArray} {h : List (ByteArray × Tm)} {p : Pr} {l : List Pr} (u : UI V h (p :: l)) : errL [p.l] = 0 ∧ errL [p.r] = 0 := by
 have g := u.err
 rw [flatP] at g
 exact ⟨(err_two.1 g).1, (err_two.1 (err_two.1 g).2).1⟩
theorem occ_self (u : Tm) : occL u.name [u] := by obtain ⟨n, k⟩ := u; exact occL_node.2 (Or.inl rfl)
theorem occ_sub {u : Tm} {y : ByteArray} (h : occL y u.args) : occL y [u] := by obtain ⟨n, k⟩ := u; exact occL_node.2 (Or.inr (Or.inl h))
theorem err_sub {u : Tm} (h : errL [u] = 0) : errL u.args = 0 := by obtain ⟨n, k⟩ := u; exact (errL_parts h).2.1
theorem size_sub (u : Tm) : sizeL [u] = 1 + sizeL u.args := by obtain ⟨n, k⟩ := u; simp [sizeL]
theorem name_of_err {u : Tm} (h : errL [u] = 0) : nameB u.name = true := by obtain ⟨n, k⟩ := u; exact errL_name h
theorem UI.bindV {V : List ByteArray} {h : List (ByteArray × Tm)} {p : Pr} {l : List Pr} (u : UI V h (p :: l)) {x : ByteArray} {t : Tm} (hx : varB x = true) (hxt : (x = (onT (sAt h) p.l).name ∧ t = onT (sAt h) p.r) ∨ (x = (onT (sAt h) p.r).name ∧ t = onT (sAt h) p.l)) (ho : ¬ inB x (varsP [] (preL [t])) = true) :
  MayAdd (sAt h) x t ∧ UI V (h ++ [(x, t)]) l := by
 have ok := u.good.all
 obtain ⟨e1, e2⟩ := u.head
 have ea := errL_onT2 ok e1
 have eb := errL_onT2 ok e2
 have ga := ok.goneT e1
 have gb := ok.goneT e2
 have hV := u.vars
 rw [flatP, onL_cons, onL_cons] at hV
 have e3 : errL (flatP l) = 0 := u.drop.err
 have both : (∀ d ∈ sAt h, d.nm ≠ x) ∧ errL [t] = 0 ∧ (∀ e ∈ sAt h, ¬ occL e.nm [t]) ∧ nameB x = true ∧ x ∈ V ∧ (∀ y, occL y [t] → occL y (onT (sAt h) p.l :: onT (sAt h) p.r :: onL (sAt h) (flatP l))) := by
  rcases hxt with ⟨rfl, rfl⟩ | ⟨rfl, rfl⟩
  ·exact ⟨fun d hd e => ga d hd (by rw [e]; exact occ_self _), eb, gb, name_of_err ea, hV _ hx (occL_cons.2 (Or.inl (occ_self _))), fun y hy => occL_cons.2 (Or.inr (occL_cons.2 (Or.inl hy)))⟩
  ·exact ⟨fun d hd e => gb d hd (by rw [e]; exact occ_self _), ea, ga, name_of_err eb, hV _ hx (occL_cons.2 (Or.inr (occL_cons.2 (Or.inl (occ_self _))))), fun y hy => occL_cons.2 (Or.inl hy)⟩
 obtain ⟨b1, b2, b3, b4, b5, b6⟩ := both
 have hoc := not_inB hx ho
 have may : MayAdd (sAt h) x t := ⟨hx, b1, b2, b3, hoc⟩
 obtain ⟨f1, f2, f3⟩ := bind_facts (L := flatP l) ok hx b1 b2 b3 hoc e3
 refine ⟨may, u.good.snoc may, fun i hi => ?_, fun i hi => ?_, e3, fun y hy hoc => ?_, u.drop.size, [], l, rfl, by simp, by simp [sizeL], ?_⟩
 ·by_cases e : i < h.length
  ·rw [List.getElem_append_left e]; exact u.names i e
  ·have : i = h.length := by simp at hi; omega
   subst this
   simpa using b4
 ·by_cases e : i < h.length
  ·rw [List.getElem_append_left e]; exact u.inV i e
  ·have : i = h.length := by simp at hi; omega
   subst this
   simpa using b5
 ·rw [sAt_snoc] at hoc
  rcases f2 y hy hoc with h1 | h1
  ·exact hV y hy (occL_cons.2 (Or.inr (occL_cons.2 (Or.inr h1))))
  ·exact hV y hy (b6 y h1)
 ·obtain ⟨l1, l2, e, g7, g8, g9⟩ := u.len
  have h4 := map_len_size l1
  have h5 : l.length + 1 = l1.length + l2.length := by rw [← List.length_append, ← e]; simp
  simp only [List.length_append, List.length_cons, List.length_nil]
  omega
theorem zip_mem : ∀ {a b : List Tm} {p : Pr}, p ∈ zipP a b → p.l ∈ a ∧ p.r ∈ b
 | [], _, p, h => by simp [zipP] at h
 | _ :: _, [], p, h => by simp [zipP] at h
 | t :: a, u :: b, p, h => by
  rw [zipP] at h
  rcases List.mem_cons.1 h with rfl | h
  ·exact ⟨by simp, by simp⟩
  ·have := zip_mem h
   exact ⟨by simp [this.1], by simp [this.2]⟩
theorem zip_left : ∀ {a b : List Tm}, a.length = b.length → (zipP a b).map (·.l) = a
 | [], [], _ => rfl
 | [], _ :: _, h => by simp at h
 | _ :: _, [], h => by simp at h
 | t :: a, u :: b, h => by rw [zipP, List.map_cons, zip_left (by simpa using h)]
theorem size_mem {l : List Tm} {t : Tm} (h : t ∈ l) : sizeL [t] ≤ sizeL l := by
 induction l with
 | nil => cases h
 | cons a r ih =>
  have hc := size_cons a r
  rcases List.mem_cons.1 h with rfl | h
  ·omega
  ·have := ih h; omega
theorem onT_id {s : List Bd} {t : Tm} (h : ∀ e ∈ s, ¬ occL e.nm [t]) : onT s t = t := by
 have h1 := onL_id [t] h
 rw [onL_cons] at h1
 simpa [onL] using h1
theorem occ_mem {y : ByteArray} {l : List Tm} {t : Tm} (h : t ∈ l) (ho : occL y [t]) : occL y l := by
 induction l with
 | nil => cases h
 | cons a r ih =>
  rcases List.mem_cons.1 h with rfl | h
  ·exact occL_cons.2 (Or.inl ho)
  ·exact occL_cons.2 (Or.inr (ih h))
theorem UI.deep {V : List ByteArray} {h : List (ByteArray × Tm)} {p : Pr} {l : List Pr} (u : UI V h (p :: l)) (ha : sizeL [onT (sAt h) p.l] ≤ 2000) (hb : sizeL [onT (sAt h) p.r] ≤ 2000) (hl : (onT (sAt h) p.l).args.length = (onT (sAt h) p.r).args.length) :
  UI V h (zipP (onT (sAt h) p.l).args (onT (sAt h) p.r).args ++ l) ∧ ∀ q ∈ zipP (onT (sAt h) p.l).args (onT (sAt h) p.r).args, onT (sAt h) q.l = q.l ∧ onT (sAt h) q.r = q.r := by
 have ok := u.good.all
 obtain ⟨e1, e2⟩ := u.head
 have ea := errL_onT2 ok e1
 have eb := errL_onT2 ok e2
 have ga := ok.goneT e1
 have gb := ok.goneT e2
 have hV := u.vars
 rw [flatP, onL_cons, onL_cons] at hV
 have hset : ∀ q ∈ zipP (onT (sAt h) p.l).args (onT (sAt h) p.r).args, onT (sAt h) q.l = q.l ∧ onT (sAt h) q.r = q.r := fun q hq => by
  obtain ⟨m1, m2⟩ := zip_mem hq
  exact ⟨onT_id fun e he ho => ga e he (occ_sub (occ_mem m1 ho)), onT_id fun e he ho => gb e he (occ_sub (occ_mem m2 ho))⟩
 have sa := size_sub (onT (sAt h) p.l)
 have sb := size_sub (onT (sAt h) p.r)
 refine ⟨⟨u.good, u.names, u.inV, ?_, fun y hy ho => ?_, fun q hq => ?_, ?_⟩, hset⟩
 ·rw [flatP_append]
  exact err_append.2 ⟨zip_err (err_sub ea) (err_sub eb), u.drop.err⟩
 ·rw [flatP_append, onL_append] at ho
  rcases occL_append.1 ho with ho | ho
  ·rw [onL_id] at ho
   ·rcases zip_occ ho with ho | ho
    ·exact hV y hy (occL_cons.2 (Or.inl (occ_sub ho)))
    ·exact hV y hy (occL_cons.2 (Or.inr (occL_cons.2 (Or.inl (occ_sub ho)))))
   ·intro e he hoc
    rcases zip_occ hoc with hoc | hoc
    ·exact ga e he (occ_sub hoc)
    ·exact gb e he (occ_sub hoc)
  ·exact hV y hy (occL_cons.2 (Or.inr (occL_cons.2 (Or.inr ho))))
 ·rcases List.mem_append.1 hq with hq | hq
  ·obtain ⟨m1, m2⟩ := zip_mem hq
   have := size_mem m1
   have := size_mem m2
   omega
  ·exact u.size q (by simp [hq])
 ·obtain ⟨l1, l2, e, g7, g8, g9⟩ := u.len
  cases l1 with
  | nil =>
   cases l2 with
   | nil => cases e
   | cons q l2 =>
    simp only [List.nil_append, List.cons.injEq] at e
    obtain ⟨rfl, rfl⟩ := e
    simp only [List.length_cons] at g9
    exact ⟨_, l, rfl, hset, by rw [zip_left hl]; omega, by omega⟩
  | cons q l1 =>
   simp only [List.cons_append, List.cons.injEq] at e
   obtain ⟨rfl, rfl⟩ := e
   rw [List.map_cons, size_cons] at g8
   have hp := (g7 p (by simp)).1
   refine ⟨zipP (onT (sAt h) p.l).args (onT (sAt h) p.r).args ++ l1, l2, by rw [List.append_assoc], fun q hq => ?_, ?_, g9⟩
   ·rcases List.mem_append.1 hq with hq | hq
    ·exact hset q hq
    ·exact g7 q (by simp [hq])
   ·rw [List.map_append, sizeL_append, zip_left hl]
    rw [hp] at sa ⊢
    omega
def SortedKeys : Prop := ∀ (q : Nat) (L : List (ByteArray × Value)) (w : World), MapAt w q L → (L.map (·.1)).Pairwise (· ≠ ·) → (∀ p ∈ L, p.1.size ≤ 8) → L.length ≤ 1000000 →
 (Calls Tryz.prog 106 #[.map (some q)] w fun e w' => e = .returned (.func (.func 118) #[] #[.pointer (some ⟨w.heap.size, 0, none⟩)]) ∧ w' = w.alloc (.cells #[.map (some q)] 125)) ∧
 (Calls Tryz.prog 105 #[.func (.func 118) #[] #[.pointer (some ⟨w.heap.size, 0, none⟩)]] (w.alloc (.cells #[.map (some q)] 125)) fun e w' => ∃ (v : Value) (nl : List ByteArray), e = .returned v ∧ nl.Perm (L.map (·.1)) ∧ (nl.Pairwise fun a b => ltB b a = false) ∧ LV Value.string w' (fun b => w.heap.size + 1 ≤ b) v nl ∧ Below (w.heap.size + 1) (w.alloc (.cells #[.map (some q)] 125)) w')
theorem field0_run (a b c : Value) (w : World) : Sem.run Tryz.prog (Instr.field 165 (.agg #[a, b, c]) 0) w = .ok (.agg #[a, b]) w := by
 rfl
theorem binds_append6 {w w1 : World} {N : Nat} {Y : Nat → Prop} {v : Value} {cs : List Bc} (h : BRow w N Y v cs) (hN : N ≤ w.heap.size) (hY : ∀ b, Y b → b < N) (hb : Below w.heap.size w w1) (x : Bc) (ht : Sl w1 (fun b => Y b ∨ w.heap.size ≤ b) x.2.1 x.1.t.args) (hn : cs.length ≤ 1000000) (A : Nat) (hA : w1.heap.size = A) :
  ∃ v2 w3, (Builtin.append_ #[46, 46] 46 #[v, .slice (some ⟨A, 0, none⟩) 1 1]).run Tryz.prog (w1.alloc (.cells #[.string x.1.nm, .string x.1.t.name, .slice x.2.1 x.1.t.args.length x.2.2] 50)) = .ok v2 w3 ∧ BRow w3 N Y v2 (cs ++ [x]) ∧
   (w1.alloc (.cells #[.string x.1.nm, .string x.1.t.name, .slice x.2.1 x.1.t.args.length x.2.2] 50)).grownBy w3 v.ownBlock ∧ ∀ k, v2.ownBlock = some k → v.ownBlock = some k ∨ w1.heap.size ≤ k := by
 subst hA
 obtain ⟨i0, hi, hz0, hz1, hz2⟩ := info_parts Tryz.infoBind
 have hs := hb.size
 obtain ⟨g, cap, w3, hr, ho, hg, hat, hlt⟩ := run_append_lies (P := Tryz.prog) (w := w1.alloc (.cells #[.string x.1.nm, .string x.1.t.name, .slice x.2.1 x.1.t.args.length x.2.2] 50)) 46 46 N 50 i0 _ 3 56 Tryz.underlying46 hi hz0 hz1 hz2 rfl (by decide) v cs.length (flat3 cs) ((h.below hb).own.alloc _)
  ⟨w1.heap.size, 0, none⟩ 1 1 (enc3 x) rfl (cell_three_new _ _ _ _ _) (fun y hy => by simp [enc3] at hy; rcases hy with rfl | rfl | rfl <;> rfl) (by decide) (by unfold maxLen; omega) (by omega) (by simp; omega) _ rfl
 refine ⟨_, w3, hr, h.push hN hY hb ht _ rfl ho hg hat, hg, fun k hk => ?_⟩
 have e : g = k := by simpa [Value.ownBlock] using hk
 rcases hat with h1 | h1
 ·exact Or.inl (by rw [h1, e])
 ·right; simp at h1; omega
def valN (s : List Bd) (n : ByteArray) : Bd := ⟨n, (forT s n).getD ⟨n, []⟩⟩
def IuInv (S q : Nat) (td : Value) (h : List (ByteArray × Tm)) (nl : List ByteArray) (Y : Nat → Prop) (w2 : World) (u i : Value) (wr : World) : Prop :=
 ∃ (k : Nat) (f' : Bool) (Y' : Nat → Prop) (cs : List Bc), k ≤ nl.length ∧ i = .int .i64 (k : Int) ∧ BRow wr w2.heap.size (fun _ => False) u cs ∧ cs.map (·.1) = (nl.take k).map (valN (sAt h)) ∧ (∀ x ∈ cs, sizeL [x.1.t] ≤ 2000) ∧ SolE S q td h f' Y' wr ∧ (∀ b, Y' b → Y b ∨ w2.heap.size ≤ b) ∧ (∀ b, Y' b → some b ≠ u.ownBlock) ∧ ExQ (SolM S q) w2 wr
def IuPost (h : List (ByteArray × Tm)) (S q : Nat) (w : World) (e : Ending) (w' : World) : Prop :=
 ExQ (SolM S q) w w' ∧ ((grtB (sAt h) = true ∧ e = .returned (.tuple #[.slice none 0 0, .bool false])) ∨ (grtB (sAt h) = false ∧ ∃ v, e = .returned (.tuple #[v, .bool true]) ∧ BV w' (fun b => w.heap.size ≤ b) v (sAt h)))
theorem sAt_sorted : ∀ {h : List (ByteArray × Tm)}, GoodH h → SortedB (sAt h) := fun {h} g => by
 rcases List.eq_nil_or_concat h with rfl | ⟨k, p, rfl⟩
 ·simp [sAt, SortedB]
 ·rw [List.concat_eq_append] at g ⊢
  rw [sAt_snoc]
  have hk : k.length < (k ++ [p]).length := by simp
  have m := g k.length hk
  rw [List.take_append_of_le_length (Nat.le_refl _), List.take_length] at m
  have gk := g.ok k.length (by simp)
  rw [List.take_append_of_le_length (Nat.le_refl _), List.take_length] at gk
  have m2 : ∀ d ∈ sAt k, d.nm ≠ p.1 := fun d hd => by
   have := m.2.1 d hd
   simpa using this
  exact srtB_sorted _ (add_apart gk.1 m2)
theorem vals_all {h : List (ByteArray × Tm)} (g : GoodH h) {nl : List ByteArray} (hp : nl.Perm (h.map (·.1))) (ho : nl.Pairwise fun a b => ltB b a = false) : nl.map (valN (sAt h)) = sAt h := by
 have ok := g.all
 have hnd : (h.map (·.1)).Nodup := by
  rw [List.nodup_iff_pairwise_ne, List.pairwise_map, List.pairwise_iff_getElem]
  intro i j hi hj hij e
  have := g.once hi hj e
  omega
 have hnl : nl.Nodup := hp.symm.nodup hnd
 have hperm : (nl.map (valN (sAt h))).Perm (sAt h) := by
  have h1 : ((h.map (·.1)).map (valN (sAt h))).Perm (sAt h) := by
   refine (List.perm_ext_iff_of_nodup ?_ ?_).2 fun d => ?_
   ·rw [List.nodup_iff_pairwise_ne, List.pairwise_map]
    refine (List.nodup_iff_pairwise_ne.1 hnd).imp fun {a b} hab e => hab ?_
    have := congrArg Bd.nm e
    exact this
   ·exact (List.Pairwise.imp (fun {a b} hab e => hab (by rw [e])) ok.1 : (sAt h).Pairwise (· ≠ ·))
   ·constructor
    ·intro hd
     obtain ⟨n, hn, rfl⟩ := List.mem_map.1 hd
     obtain ⟨p, hp2, rfl⟩ := List.mem_map.1 hn
     obtain ⟨i, hi, rfl⟩ := List.getElem_of_mem hp2
     obtain ⟨d, hd2, e1, e2⟩ := forT_mem (forT_at g hi)
     have : valN (sAt h) h[i].1 = d := by
      unfold valN
      rw [forT_at g hi, Option.getD_some, ← e2, ← e1]
     rw [this]; exact hd2
    ·intro hd
     have h2 := (g.bound h.length (Nat.le_refl _) d.nm).1 ⟨d, by rw [List.take_length]; exact hd, rfl⟩
     obtain ⟨i, hi, _, e⟩ := h2
     refine List.mem_map.2 ⟨d.nm, List.mem_map.2 ⟨h[i], List.getElem_mem hi, e⟩, ?_⟩
     unfold valN
     rw [forT_of ok.1 hd, Option.getD_some]
  exact (hp.map _).trans h1
 refine sortedB_unique hperm (sortedB_of (ok.1.perm hperm) ?_) (sAt_sorted g)
 rw [List.pairwise_map]
 exact ho
set_option maxHeartbeats 2000000 in
theorem inOrderU_of (HSK : Hid SortedKeys) (S q : Nat) (td : Value) (h : List (ByteArray × Tm)) (g : GoodH h) (hN : NamesH h) (hh : h.length ≤ 1000000) (w : World) (Y : Nat → Prop) (f : Bool) (hE : SolE S q td h f Y w) :
  Calls Tryz.prog 86 #[.pointer (some ⟨S, 0, none⟩)] w fun e w' => IuPost h S q w e w' := by
 have HE := hide hE
 obtain ⟨⟨L, hB, hM, hSt⟩, hYS, hYq, hY, hg⟩ := hE
 have hSl := hB.lt
 have hml := hM.lt
 have hln := hSt.1
 have HY := hide hY
 have HLN : Hid (L.map (·.1) = h.map (·.1)) := by
  refine List.ext_getElem (by simp [hln]) fun i h1 h2 => ?_
  simp only [List.getElem_map]
  exact (hSt.2 i (by simpa using h2) (by simpa using h1)).1
 have SK := HSK.out q L w hM (by
   rw [HLN.out, List.pairwise_map, List.pairwise_iff_getElem]
   intro i j hi hj hij e
   have := g.once hi hj e
   omega) (fun p hp => by
   obtain ⟨i, hi, rfl⟩ := List.getElem_of_mem hp
   rw [(hSt.2 i (by omega) hi).1]
   have h1 := hN i (by omega)
   simp [nameB] at h1
   omega) (by omega)
 rw [HLN.out] at SK
 have s1 : w.cell? ⟨S, 1, none⟩ = some (.map (some q)) := hB.cell 1
 clear hB hM hSt hg hY
 go_enter Tryz.func86, Tryz.ntmps86
 go_wp2_with (first
  | (go_at_call 106; refine SK.1.mono ?_; rintro e w1 ⟨rfl, rfl⟩)
  | (go_at_call 105; refine SK.2.mono ?_; rintro e w2 ⟨v2, nl, rfl, hp2, ho2, hl2, hb2⟩; have HL2 := hide hl2; obtain ⟨na, nc, rfl, hnl, hnc⟩ := hl2; clear hnc))
 have HP := hide hp2
 have HO := hide ho2
 have HB2 : Hid (Below w.heap.size w w2) := ((Below.refl _ _).alloc (Nat.le_refl _) _).trans (hb2.mono (by omega))
 have hz2 : w.heap.size + 1 ≤ w2.heap.size := by have := hb2.size; simp at this; omega
 have HE2 := hide ((solE_ok S q td h).below HE.out HB2.out)
 have hnlen : nl.length ≤ 1000000 := by have := hp2.length_eq; simp at this; omega
 obtain ⟨hnl1, hnl2⟩ := hnl
 clear hp2 ho2 hb2 SK s1
 go_wp2_with fail
 go_loopw [4, 16] (fun u i wr => IuInv S q td h nl Y w2 u i wr) (fun u i wr => nl.length - (intOf i).toNat)
 case atStart => exact ⟨0, f, Y, [], Nat.zero_le _, rfl, BRow.start _ _ _, by simp, by simp, HE2.out, fun b hb => Or.inl hb, fun b _ e => by simp [Value.ownBlock] at e, ExQ.refl _ _⟩
 case round =>
  obtain ⟨k, f', Y', cs, hk, rfl, hR, hC, hZ, hE', hsub, hown, hx⟩ := hrel
  have HR := hide hR
  have HC := hide hC
  have HZ := hide hZ
  have HE' := hide hE'
  have HSUB := hide hsub
  have HOWN := hide hown
  have HX := hide hx
  have hzr := hx.size
  clear hR hC hZ hsub hown hx
  by_cases hlt : k < nl.length
  ·have hlt2 : (k : Int) < (nl.length : Int) := by omega
   have hLr : LV Value.string wr (fun b => w.heap.size + 1 ≤ b ∧ b < w2.heap.size) (.slice na nl.length nc) nl := (HL2.out.mono (Y := fun b => w.heap.size + 1 ≤ b ∧ b < w2.heap.size) fun b h1 h2 => ⟨h1, h2⟩).kept fun b hb => HX.out.block b hb.2 (fun hm => by rcases hm with e | e <;> omega)
   obtain ⟨na', nc', e0, _, hcell⟩ := hLr
   obtain ⟨bn, on, rfl, hbn, hcell⟩ := hcell.resolve_left (fun e => by rw [e] at hlt; simp at hlt)
   simp at e0
   obtain ⟨rfl, rfl⟩ := e0
   have nk := hcell k hlt
   obtain ⟨i, hi, hik⟩ : ∃ i, ∃ hi : i < h.length, h[i].1 = nl[k] := by
    have h1 := HP.out.subset (List.getElem_mem hlt)
    obtain ⟨p, hp, e⟩ := List.mem_map.1 h1
    obtain ⟨i, hi, rfl⟩ := List.getElem_of_mem hp
    exact ⟨i, hi, e⟩
   have htk : nl.take (k + 1) = nl.take k ++ [nl[k]] := List.take_succ_eq_append_getElem hlt
   have HTK := hide htk
   obtain ⟨⟨L', hB', hM', hSt'⟩, hYS', hYq', hY', hg'⟩ := hE'
   obtain ⟨v, hgv, hst⟩ := hSt'.get g hi
   obtain ⟨T, j, ta, tc, hT, hj, rfl, hsl⟩ := stE_lit hst
   have HSL := hide hsl
   have HT := hide hT
   have HYr := hide hY'
   have hz : ∀ w', (zeroValue 165).run Tryz.prog w' = .ok (.agg #[.string ⟨#[]⟩, .slice none 0 0, .int .i64 0]) w' := fun w' => Tryz.zeroValue165 w'
   have HIK := hide hik
   rw [hik] at hgv
   have HVN : Hid (valN (sAt h) nl[k] = ⟨nl[k], stood h i h.length hi⟩) := by
    unfold Hid valN
    rw [← hik, forT_at g hi, Option.getD_some]
   generalize nl[k] = nm at *
   have hlk : (Instr.lookup 125 (.map (some q)) (.string nm) false).run Tryz.prog wr = .ok (.agg #[.string T.name, .slice ta T.args.length tc, .int .i64 (j : Int)]) wr := by
    rw [run_look1 (P := Tryz.prog) Tryz.underlying125 Tryz.underlying9 (hz _) hM' nm, hgv]; rfl
   have hfd : Sem.run Tryz.prog (Instr.field 165 (.agg #[.string T.name, .slice ta T.args.length tc, .int .i64 (j : Int)]) 0) wr = .ok (.agg #[.string T.name, .slice ta T.args.length tc]) wr := field0_run _ _ _ _
   have s1 : wr.cell? ⟨S, 1, none⟩ = some (.map (some q)) := hB'.cell 1
   have HTG : Hid (onT (sAt h) T = stood h i h.length hi) := by
    unfold Hid
    rw [HT.out]
    exact stood_on g hi (Nat.max_le.2 ⟨hj, hi⟩) (hN i hi)
   have HTE : Hid (errL [T] = 0) := by
    unfold Hid
    rw [HT.out]
    exact stood_err g hN hi (Nat.max_le.2 ⟨hj, hi⟩)
   have FI := ufill_any S q td h g hN T HTE.out ta tc wr (fun b => Y' b ∧ b ≠ S ∧ b ≠ q) Y' f' (fun b hb hm => by rcases hm with e | e; exact hb.2.1 e; exact hb.2.2 e) HSL.out HE'.out
   rw [HTG.out] at FI
   have HCL : Hid (cs.length ≤ 1000000) := by
    have h1 := congrArg List.length HC.out
    simp at h1
    unfold Hid
    omega
   clear hB' hM' hSt' hYS' hYq' hY' hg' hgv hst hsl hT htk hcell hik HT
   go_wp2_with fail
   refine FI.mono ?_
   clear FI
   rintro e w4 ⟨y, ya, yc, ok, f2, Y2, rfl, hE4, hsub4, hff4, hx4, hsl4, hk1, hk2⟩
   have HE4 := hide hE4
   have HX4 : Hid (ExQ (SolM S q) w2 w4) := HX.out.trans hx4
   have HXX4 := hide hx4
   have HSL4 := hide hsl4
   have HS4 := hide hsub4
   have HK1 := hide hk1
   have HK2 := hide hk2
   have hz4 := hx4.size
   clear hE4 hsub4 hff4 hx4 hsl4 hk1 hk2 hlk s1 nk
   cases ok with
   | false =>
    have HGR : Hid (grtB (sAt h) = true) := by
     rcases HK2.out rfl with h1 | h1
     ·exact HE4.out.2.2.2.2 h1
     ·exact stood_great g hi h1
    clear HK1 HK2
    go_wp2_with fail
    refine bodyPost_ret (v := .tuple #[.slice none 0 0, .bool false]) (by simp [results, Tryz.results86, go_sem]) rfl ?_
    exact ⟨((ExQ.ofBelow HB2.out).trans HX4.out).alloc _, Or.inl ⟨HGR.out, rfl⟩⟩
   | true =>
    obtain ⟨rfl, hyT, hyz⟩ := HK1.out rfl
    have HYT := hide hyT
    have HYZ := hide hyz
    clear hyT hyz HK1 HK2
    obtain ⟨wm, hbm, hsm, hem⟩ := HXX4.out.mid
    have hRm := HR.out.exq hem (fun b hb => by rcases hb with rfl | rfl <;> omega) (fun _ _ h => h)
    have hz5 : (w4.alloc (.cells #[.string y.name, .slice ya y.args.length yc] 32)).heap.size = w4.heap.size + 1 := by simp
    have hb5 : Below wm.heap.size wm (w4.alloc (.cells #[.string y.name, .slice ya y.args.length yc] 32)) := hbm.alloc (by omega) _
    obtain ⟨v6, w6, hrun, hR6, hg6, ho6⟩ := binds_append6 hRm (by omega) (fun _ h => h.elim) hb5 (⟨nm, y⟩, ya, yc) ((HSL4.out.later ((Below.refl _ _).alloc (Nat.le_refl _) _)).mono fun b hb _ => Or.inr (by omega)) HCL.out (w4.heap.size + 1) hz5
    have HRUN := hide hrun
    have HR6 := hide hR6
    have hgs := hg6.size
    simp at hgs
    have HX6 : Hid (ExQ (SolM S q) w2 w6) := ((HX4.out.alloc _).alloc _).grown hg6 (fun b hb => Or.inl (HR.out.own.lt b hb).1)
    have HS6 : Hid (∀ b, Y2 b → Y b ∨ w2.heap.size ≤ b) := fun b hb => by
     rcases HS4.out b hb with h1 | h1
     ·exact HSUB.out b h1
     ·right; omega
    have HO4 : Hid (∀ b, Y2 b → some b ≠ u4.ownBlock) := fun b hb e => by
     rcases HS4.out b hb with h1 | h1
     ·exact HOWN.out b h1 e
     ·have := (HR.out.own.lt b e.symm).2; omega
    have HY4 : Hid (∀ b, Y2 b → b < w4.heap.size) := HE4.out.2.2.2.1
    have HE6 : Hid (SolE S q td h false Y2 w6) := (solE_ok S q td h).keep _ _ _ _ HE4.out fun b hb => by
     have h1 := HY4.out b hb
     rw [hg6.block b (by simp; omega) (HO4.out b hb), Below.heap_alloc _ _ _ (by simp; omega), Below.heap_alloc _ _ _ h1]
    have HO6 : Hid (∀ b, Y2 b → some b ≠ v6.ownBlock) := fun b hb e => by
     rcases ho6 b e.symm with h1 | h1
     ·exact HO4.out b hb h1.symm
     ·have := HY4.out b hb; omega
    clear hbm hem hRm hb5 hrun hR6 hg6 ho6 hgs
    go_wp2_with (at_builtin; refine wpList_append_eq rfl _ _ _ _ rfl rfl rfl HRUN.out ?_)
    go_roundw
    case rel =>
     refine ⟨k + 1, false, Y2, cs ++ [(⟨nm, y⟩, ya, yc)], by omega, by go_num, HR6.out, ?_, fun x hx => ?_, HE6.out, HS6.out, HO6.out, HX6.out⟩
     ·rw [HTK.out, List.map_append, List.map_append, HC.out]
      simp only [List.map_cons, List.map_nil]
      rw [HVN.out, HYT.out]
     ·rcases List.mem_append.1 hx with hx | hx
      ·exact HZ.out x hx
      ·have e : x = (⟨nm, y⟩, ya, yc) := by simpa using hx
       rw [e]; exact HYZ.out
    case measure => simp [intOf]; omega
  ·have htk : nl.take k = nl := List.take_of_length_le (by omega)
   rw [htk] at HC
   have HVA := hide (vals_all g HP.out HO.out)
   have HGF : Hid (grtB (sAt h) = false) := by
    unfold Hid
    rw [← HVA.out, ← HC.out]
    unfold grtB
    rw [List.any_eq_false]
    intro d hd
    obtain ⟨x, hx, rfl⟩ := List.mem_map.1 hd
    have := HZ.out x hx
    simp; omega
   clear hE' htk
   go_wp2_with fail
   refine bodyPost_ret (v := .tuple #[u4, .bool true]) (by simp [results, Tryz.results86, go_sem]) rfl ?_
   refine ⟨(ExQ.ofBelow HB2.out).trans HX.out, Or.inr ⟨HGF.out, u4, rfl, ?_⟩⟩
   have h1 := HR.out.bv
   rw [HC.out, HVA.out] at h1
   exact h1.mono fun b hb _ => by rcases hb with hb | hb; exact hb.elim; omega
theorem occB_take {p : ByteArray} {l : List Tm} {k : Nat} (h : k < l.length) : occB p (l.take (k + 1)) = (occB p (l.take k) || occB p [l[k]]) := by
 unfold occB
 rw [preL_take l k h, List.any_append]
theorem occB_yes {p : ByteArray} {l : List Tm} {k : Nat} (h : k < l.length) (h0 : occB p [l[k]] = true) : occB p l = true := by
 have e : l = l.take (k + 1) ++ l.drop (k + 1) := (List.take_append_drop _ _).symm
 have h1 := occB_take (p := p) h
 rw [h0, Bool.or_true] at h1
 unfold occB at h1 ⊢
 rw [e, preL_append, List.any_append, h1]
 rfl
theorem occB_eq (s : ByteArray) (l : List Tm) (p : ByteArray) : occB p [⟨s, l⟩] = ((s.toList == p.toList) || occB p l) := by
 unfold occB
 simp [preL]
def IhInv (p : ByteArray) (l : List Tm) (w : World) (v : Value) (wr : World) : Prop := ∃ k : Nat, k ≤ l.length ∧ v = .int .i64 (k : Int) ∧ occB p (l.take k) = false ∧ Below w.heap.size w wr
set_option maxHeartbeats 400000 in
theorem indexFuncH_of (P : Nat) (p : ByteArray) (l : List Tm) (a : Option Addr) (c : Nat) (w : World) (X : Nat → Prop) (hs : Sl w X a l)
  (hcl : ∀ x ∈ l, ∀ a' c' w', Below w.heap.size w w' → Sl w' X a' x.args → Calls Tryz.prog 67 #[.agg #[.string x.name, .slice a' x.args.length c'], .pointer (some ⟨P, 0, none⟩)] w' fun e w'' => e = .returned (.bool (occB p [x])) ∧ Below w'.heap.size w' w'') :
  Calls Tryz.prog 88 #[.slice a l.length c, .func (.func 67) #[] #[.pointer (some ⟨P, 0, none⟩)]] w fun e w' => (∃ i : Int, e = .returned (.int .i64 i) ∧ decide (0 ≤ i) = occB p l) ∧ Below w.heap.size w w' := by
 have HS := hide hs
 have HCL := hide hcl
 have hl := hs.1
 clear hs hcl
 go_enter Tryz.func88, Tryz.ntmps88
 go_wp2_with fail
 go_loopw [8] (fun v wr => IhInv p l w v wr) (fun v wr => l.length - (intOf v).toNat)
 case atStart => exact ⟨0, Nat.zero_le _, rfl, by simp [occB, preL], Below.refl _ _⟩
 case round =>
  obtain ⟨k, hk, rfl, hT, hb⟩ := hrel
  have HT := hide hT
  have HB := hide hb
  clear hT
  by_cases hlt : k < l.length
  ·have hlt2 : (k : Int) < (l.length : Int) := by omega
   obtain ⟨b, o, a', c', rfl, d0, d1, hx⟩ := HS.out.get hb (fun _ _ h => h) k hlt
   obtain ⟨av, cv, ev, hsx⟩ := hx
   simp at ev
   obtain ⟨rfl, rfl⟩ := ev
   have CK := hide (HCL.out l[k] (List.getElem_mem hlt) a' c' wr hb hsx)
   have HTK := hide (occB_take (p := p) hlt)
   have HYS := hide (occB_yes (p := p) hlt)
   clear hsx hb
   generalize l[k] = y at *
   go_wp2_with fail
   refine CK.out.mono ?_
   rintro e w1 ⟨rfl, hb1⟩
   have HB1 := hide (HB.out.trans (hb1.mono HB.out.size))
   clear hb1
   cases hm : occB p [y] with
   | true =>
    have HF := hide (HYS.out hm)
    go_wp2_with fail
    go_ret
    exact ⟨⟨_, rfl, by rw [HF.out]; simp⟩, HB1.out⟩
   | false =>
    rw [hm] at HTK
    go_wp2_with fail
    go_roundw
    case rel => exact ⟨k + 1, by omega, by go_num, by rw [HTK.out, HT.out]; rfl, HB1.out⟩
    case measure => simp [intOf]; omega
  ·have HF : Hid (false = occB p l) := by
    unfold Hid
    rw [← HT.out, List.take_of_length_le (by omega)]
   go_wp2_with fail
   go_ret
   exact ⟨⟨-1, rfl, by rw [← HF.out]; decide⟩, HB.out⟩
set_option maxHeartbeats 400000 in
theorem containsFuncH_of (P : Nat) (p : ByteArray) (l : List Tm) (a : Option Addr) (c : Nat) (w : World) (X : Nat → Prop) (hs : Sl w X a l)
  (hcl : ∀ x ∈ l, ∀ a' c' w', Below w.heap.size w w' → Sl w' X a' x.args → Calls Tryz.prog 67 #[.agg #[.string x.name, .slice a' x.args.length c'], .pointer (some ⟨P, 0, none⟩)] w' fun e w'' => e = .returned (.bool (occB p [x])) ∧ Below w'.heap.size w' w'') :
  Calls Tryz.prog 66 #[.slice a l.length c, .func (.func 67) #[] #[.pointer (some ⟨P, 0, none⟩)]] w fun e w' => e = .returned (.bool (occB p l)) ∧ Below w.heap.size w w' := by
 have IC := hide (indexFuncH_of P p l a c w X hs hcl)
 clear hs hcl
 go_enter Tryz.func66, Tryz.ntmps66
 go_wp2_with fail
 refine IC.out.mono ?_
 rintro e w1 ⟨⟨i, rfl, hi⟩, hb1⟩
 have HI := hide hi
 have HB1 := hide hb1
 clear hi hb1
 go_wp2_with fail
 go_ret
 exact ⟨ret_bool (by rw [← HI.out]), HB1.out⟩
set_option maxHeartbeats 400000 in
theorem holds_any (n : ByteArray) (t : Tm) : ∀ (tv : Value) (w : World) (X : Nat → Prop), TV w X tv t →
  Calls Tryz.prog 40 #[tv, .string n] w fun e w' => e = .returned (.bool (occB n [t])) ∧ Below w.heap.size w w' := by
 induction t using Tm.ind with
 | h s l ih =>
  intro tv w X ht
  obtain ⟨a, c, rfl, hs⟩ := ht
  have IH := hide ih
  have HS := hide hs
  have HEQ := hide (occB_eq s l n)
  clear ih hs
  dsimp only
  have HB2 : Hid (Below w.heap.size w ((w.alloc (.cells #[.string s, .slice a l.length c] 32)).alloc (.cells #[.string n] 9))) := below2 _ _
  have PA := hide ((Blk.new w #[.string s, .slice a l.length c] 32).alloc (.cells #[.string n] 9))
  have PB : Hid (Blk ((w.alloc (.cells #[.string s, .slice a l.length c] 32)).alloc (.cells #[.string n] 9)) (w.heap.size + 1) #[.string n] 9) := by
   have h := Blk.new (w.alloc (.cells #[.string s, .slice a l.length c] 32)) #[.string n] 9
   unfold Hid
   simpa using h
  have hmf : ∀ (fn : Fn) (first cap : Array Value) (w : World), (Instr.makeFunc fn first cap).run Tryz.prog w = .ok (.func fn first cap) w := fun _ _ _ _ => rfl
  cases hm : (s.toList == n.toList) with
  | true =>
   have HF : Hid (true = occB n [⟨s, l⟩]) := by unfold Hid; rw [HEQ.out, hm]; rfl
   go_enter Tryz.func40, Tryz.ntmps40
   go_wp2_with fail
   go_ret
   exact ⟨ret_bool HF.out, HB2.out⟩
  | false =>
   have HF : Hid (occB n l = occB n [⟨s, l⟩]) := by unfold Hid; rw [HEQ.out, hm]; rfl
   go_enter Tryz.func40, Tryz.ntmps40
   go_wp2_with fail
   generalize (w.alloc (.cells #[.string s, .slice a l.length c] 32)).alloc (.cells #[.string n] 9) = w3 at *
   have CF := hide (containsFuncH_of (w.heap.size + 1) n l a c w3 X (HS.out.later HB2.out) (fun x hx a' c' w' hb' hsx => by
    have PBx := hide (PB.out.below hb' PB.out.lt)
    have b0 : ∀ o, (w'.alloc o).cell? ⟨w.heap.size + 1, 0, none⟩ = some (.string n) := fun o => (PBx.out.alloc o).cell 0
    have IHX := hide (IH.out x hx (.agg #[.string x.name, .slice a' x.args.length c']) (w'.alloc (.cells #[.string x.name, .slice a' x.args.length c'] 32)) X ⟨_, _, rfl, hsx.later ((Below.refl _ _).alloc (Nat.le_refl _) _)⟩)
    clear hsx hb'
    go_enter Tryz.func67, Tryz.ntmps67
    go_wp2_with fail
    refine IHX.out.mono ?_
    rintro e w1 ⟨rfl, hb1⟩
    have HB1 := hide (((Below.refl w'.heap.size w').alloc (Nat.le_refl _) _).trans (hb1.mono (by simp)))
    clear hb1
    go_wp2_with fail
    go_ret
    exact ⟨rfl, HB1.out⟩))
   refine CF.out.mono ?_
   rintro e w4 ⟨rfl, hb4⟩
   have HB4 := hide (HB2.out.trans (hb4.mono HB2.out.size))
   clear hb4
   go_wp2_with fail
   go_ret
   exact ⟨ret_bool HF.out, HB4.out⟩
def PtC (ta tb : Tm) (s1 : ByteArray) (a1 : Option Addr) (n1 : Nat) (s2 : ByteArray) (a2 : Option Addr) (n2 : Nat) (ok f' : Bool) (Z : Nat → Prop) (w' : World) : Prop :=
 (ok = true ∧ f' = false ∧ s1 = ta.name ∧ n1 = ta.args.length ∧ s2 = tb.name ∧ n2 = tb.args.length ∧ sizeL [ta] ≤ 2000 ∧ sizeL [tb] ≤ 2000 ∧ Sl w' Z a1 ta.args ∧ Sl w' Z a2 tb.args) ∨ (ok = false ∧ (f' = true ∨ 2000 < sizeL [ta] ∨ 2000 < sizeL [tb]))
def PtPost (S q : Nat) (td : Value) (h : List (ByteArray × Tm)) (ta tb : Tm) (X Y : Nat → Prop) (w : World) (e : Ending) (w' : World) : Prop :=
 ∃ (s1 : ByteArray) (a1 : Option Addr) (n1 c1 : Nat) (s2 : ByteArray) (a2 : Option Addr) (n2 c2 : Nat) (ok f' : Bool) (Y' : Nat → Prop), e = .returned (.tuple #[.agg #[.string s1, .slice a1 n1 c1], .agg #[.string s2, .slice a2 n2 c2], .bool ok]) ∧ SolE S q td h f' Y' w' ∧ (∀ b, Y' b → Y b ∨ w.heap.size ≤ b) ∧ ExQ (SolM S q) w w' ∧ PtC ta tb s1 a1 n1 s2 a2 n2 ok f' (fun b => (X b ∧ b < w.heap.size) ∨ w.heap.size ≤ b) w'
theorem drew_heap (w : World) : w.drew.heap = w.heap := rfl
theorem set6 {w : World} {c1 c2 c3 c4 c5 c6 o1 o2 o3 o4 o5 o6 : Nat} {v1 v2 v3 v4 v5 v6 : Value} {b : Nat} (h1 : b ≠ c1) (h2 : b ≠ c2) (h3 : b ≠ c3) (h4 : b ≠ c4) (h5 : b ≠ c5) (h6 : b ≠ c6) :
  ((((((w.setCell ⟨c1, o1, none⟩ v1).setCell ⟨c2, o2, none⟩ v2).setCell ⟨c3, o3, none⟩ v3).setCell ⟨c4, o4, none⟩ v4).setCell ⟨c5, o5, none⟩ v5).setCell ⟨c6, o6, none⟩ v6).drew.heap[b]? = w.heap[b]? := by
 rw [drew_heap]
 rw [Below.heap_setCell _ _ _ _ (by simpa using h6), Below.heap_setCell _ _ _ _ (by simpa using h5), Below.heap_setCell _ _ _ _ (by simpa using h4), Below.heap_setCell _ _ _ _ (by simpa using h3), Below.heap_setCell _ _ _ _ (by simpa using h2), Below.heap_setCell _ _ _ _ (by simpa using h1)]
theorem set6x {Q : Nat → Prop} {a w : World} {c1 c2 c3 c4 c5 c6 o1 o2 o3 o4 o5 o6 : Nat} {v1 v2 v3 v4 v5 v6 : Value} (h : ExQ Q a w) (h1 : a.heap.size ≤ c1) (h2 : a.heap.size ≤ c2) (h3 : a.heap.size ≤ c3) (h4 : a.heap.size ≤ c4) (h5 : a.heap.size ≤ c5) (h6 : a.heap.size ≤ c6) :
  ExQ Q a ((((((w.setCell ⟨c1, o1, none⟩ v1).setCell ⟨c2, o2, none⟩ v2).setCell ⟨c3, o3, none⟩ v3).setCell ⟨c4, o4, none⟩ v4).setCell ⟨c5, o5, none⟩ v5).setCell ⟨c6, o6, none⟩ v6).drew :=
 ((((((h.setNew h1 _ _).setNew h2 _ _).setNew h3 _ _).setNew h4 _ _).setNew h5 _ _).setNew h6 _ _).drew
set_option maxHeartbeats 1000000 in
theorem put_any2 (S q : Nat) (td : Value) (h : List (ByteArray × Tm)) (g : GoodH h) (hN : NamesH h) (p : Pr) (he : errL [p.l] = 0 ∧ errL [p.r] = 0) (j : Nat) (hj : j ≤ h.length) (hid : j = h.length → (onT (sAt h) p.l = p.l ∧ onT (sAt h) p.r = p.r)) (hsz : sizeL [p.l] ≤ 2000 ∧ sizeL [p.r] ≤ 2000) (a1 : Option Addr) (c1 : Nat) (a2 : Option Addr) (c2 : Nat) (w : World) (X Y : Nat → Prop) (hXM : ∀ b, X b → ¬ SolM S q b) (hs1 : Sl w X a1 p.l.args) (hs2 : Sl w X a2 p.r.args) (hEv : SolE S q td h false Y w) :
  Calls Tryz.prog 102 #[.pointer (some ⟨S, 0, none⟩), .agg #[.string p.l.name, .slice a1 p.l.args.length c1, .string p.r.name, .slice a2 p.r.args.length c2, .int .i64 (j : Int)]] w fun e w' => PtPost S q td h (onT (sAt h) p.l) (onT (sAt h) p.r) X Y w e w' := by
 have HS1 := hide hs1
 have HS2 := hide hs2
 have HE := hide hEv
 have HXM := hide hXM
 have HID := hide hid
 have HSZ := hide hsz
 obtain ⟨⟨L, hB, hM, hSt⟩, hYS, hYq, hY, hg⟩ := hEv
 have hSl := hB.lt
 have hml := hM.lt
 have HY := hide hY
 have hln : Hid (L.length = h.length) := hSt.1
 have HMM := hide hM
 have HB := hide hB
 clear hs1 hs2 hXM hid hsz hSt hg hY hM
 have s1 : ∀ o o' o'', (((w.alloc o).alloc o').alloc o'').cell? ⟨S, 1, none⟩ = some (.map (some q)) := fun o o' o'' => (((hB.alloc o).alloc o').alloc o'').cell 1
 have hlen : ∀ o o' o'', Sem.run Tryz.prog (Builtin.len_ #[125] 3 #[.map (some q)]) (((w.alloc o).alloc o').alloc o'').drew = .ok (.int .i64 (h.length : Int)) (((w.alloc o).alloc o').alloc o'').drew := fun o o' o'' => by
  have h1 : MapAt (((w.alloc o).alloc o').alloc o'').drew q L := HMM.out.below (((((Below.refl w.heap.size w).alloc (Nat.le_refl _) o).alloc (by simp) o').alloc (by simp; omega) o'').drew) hml
  rw [run_len Tryz.underlying125 h1, hln.out]
 clear hB
 by_cases hjl : j = h.length
 ·have hje : ((j : Int) == (h.length : Int)) = true := by rw [hjl]; simp
  have HI := hide (HID.out hjl)
  have HJ := hide hjl
  clear hjl
  go_enter Tryz.func102, Tryz.ntmps102
  go_wp2_with fail
  go_region
  go_wp2_with fail
  go_region
  all_goals go_wp2_with fail
  all_goals
   refine bodyPost_ret (v := .tuple #[.agg #[.string p.l.name, .slice a1 p.l.args.length c1], .agg #[.string p.r.name, .slice a2 p.r.args.length c2], .bool true]) (by simp [results, Tryz.results102, go_sem]) rfl ?_
   have hBw : Below w.heap.size w (((w.alloc (.cells #[.string p.l.name, .slice a1 p.l.args.length c1, .string p.r.name, .slice a2 p.r.args.length c2, .int .i64 (j : Int)] 133)).alloc (.cells #[.string p.l.name, .slice a1 p.l.args.length c1] 32)).alloc (.cells #[.string p.r.name, .slice a2 p.r.args.length c2] 32)).drew.drew := (((((Below.refl w.heap.size w).alloc (Nat.le_refl _) _).alloc (by simp) _).alloc (by simp; omega) _).drew).drew
   exact ⟨p.l.name, a1, p.l.args.length, c1, p.r.name, a2, p.r.args.length, c2, true, false, Y, rfl, (solE_ok S q td h).below HE.out hBw, fun b hb => Or.inl hb, ExQ.ofBelow hBw, Or.inl ⟨rfl, rfl, by rw [HI.out.1], by rw [HI.out.1], by rw [HI.out.2], by rw [HI.out.2], by rw [HI.out.1]; exact HSZ.out.1, by rw [HI.out.2]; exact HSZ.out.2, by rw [HI.out.1]; exact (HS1.out.mono (Y := fun b => X b ∧ b < w.heap.size) fun b h1 h2 => ⟨h1, h2⟩).later hBw |>.mono fun b hb _ => Or.inl hb, by rw [HI.out.2]; exact (HS2.out.mono (Y := fun b => X b ∧ b < w.heap.size) fun b h1 h2 => ⟨h1, h2⟩).later hBw |>.mono fun b hb _ => Or.inl hb⟩⟩
 ·have hje : ((j : Int) == (h.length : Int)) = false := beq_eq_false_iff_ne.2 (by omega)
  clear hjl HID
  have HSX1 := hide (HS1.out.mono (Y := fun b => X b ∧ b < w.heap.size) fun b h1 h2 => ⟨h1, h2⟩)
  have HSX2 := hide (HS2.out.mono (Y := fun b => X b ∧ b < w.heap.size) fun b h1 h2 => ⟨h1, h2⟩)
  have HB3 : Hid (Below w.heap.size w (((w.alloc (.cells #[.string p.l.name, .slice a1 p.l.args.length c1, .string p.r.name, .slice a2 p.r.args.length c2, .int .i64 (j : Int)] 133)).alloc (.cells #[.string ⟨#[]⟩, .slice none 0 0] 32)).alloc (.cells #[.string ⟨#[]⟩, .slice none 0 0] 32)).drew) := ((((Below.refl w.heap.size w).alloc (Nat.le_refl _) _).alloc (by simp) _).alloc (by simp; omega) _).drew
  have Q3 : Hid (Blk (((w.alloc (.cells #[.string p.l.name, .slice a1 p.l.args.length c1, .string p.r.name, .slice a2 p.r.args.length c2, .int .i64 (j : Int)] 133)).alloc (.cells #[.string ⟨#[]⟩, .slice none 0 0] 32)).alloc (.cells #[.string ⟨#[]⟩, .slice none 0 0] 32)).drew w.heap.size #[.string p.l.name, .slice a1 p.l.args.length c1, .string p.r.name, .slice a2 p.r.args.length c2, .int .i64 (j : Int)] 133) := ((Blk.new w _ _).alloc _).alloc _
  have A3 : Hid (Blk (((w.alloc (.cells #[.string p.l.name, .slice a1 p.l.args.length c1, .string p.r.name, .slice a2 p.r.args.length c2, .int .i64 (j : Int)] 133)).alloc (.cells #[.string ⟨#[]⟩, .slice none 0 0] 32)).alloc (.cells #[.string ⟨#[]⟩, .slice none 0 0] 32)).drew (w.heap.size + 1) #[.string ⟨#[]⟩, .slice none 0 0] 32) := by
   have h1 := (Blk.new (w.alloc (.cells #[.string p.l.name, .slice a1 p.l.args.length c1, .string p.r.name, .slice a2 p.r.args.length c2, .int .i64 (j : Int)] 133)) #[.string ⟨#[]⟩, .slice none 0 0] 32).alloc (.cells #[.string ⟨#[]⟩, .slice none 0 0] 32)
   rw [World.size_alloc] at h1
   exact h1
  have B3 : Hid (Blk (((w.alloc (.cells #[.string p.l.name, .slice a1 p.l.args.length c1, .string p.r.name, .slice a2 p.r.args.length c2, .int .i64 (j : Int)] 133)).alloc (.cells #[.string ⟨#[]⟩, .slice none 0 0] 32)).alloc (.cells #[.string ⟨#[]⟩, .slice none 0 0] 32)).drew (w.heap.size + 1 + 1) #[.string ⟨#[]⟩, .slice none 0 0] 32) := by
   have h1 := Blk.new ((w.alloc (.cells #[.string p.l.name, .slice a1 p.l.args.length c1, .string p.r.name, .slice a2 p.r.args.length c2, .int .i64 (j : Int)] 133)).alloc (.cells #[.string ⟨#[]⟩, .slice none 0 0] 32)) #[.string ⟨#[]⟩, .slice none 0 0] 32
   rw [World.size_alloc, World.size_alloc] at h1
   exact h1
  have z3 : (((w.alloc (.cells #[.string p.l.name, .slice a1 p.l.args.length c1, .string p.r.name, .slice a2 p.r.args.length c2, .int .i64 (j : Int)] 133)).alloc (.cells #[.string ⟨#[]⟩, .slice none 0 0] 32)).alloc (.cells #[.string ⟨#[]⟩, .slice none 0 0] 32)).drew.heap.size = w.heap.size + 3 := by simp
  go_enter Tryz.func102, Tryz.ntmps102
  go_wp2_with fail
  go_region
  go_wp2_with fail
  generalize (((w.alloc (.cells #[.string p.l.name, .slice a1 p.l.args.length c1, .string p.r.name, .slice a2 p.r.args.length c2, .int .i64 (j : Int)] 133)).alloc (.cells #[.string ⟨#[]⟩, .slice none 0 0] 32)).alloc (.cells #[.string ⟨#[]⟩, .slice none 0 0] 32)).drew = w3 at *
  refine (ufill_any S q td h g hN p.l he.1 a1 c1 w3 _ Y false (fun b hb => HXM.out b hb.1) (HSX1.out.later HB3.out) ((solE_ok S q td h).below HE.out HB3.out)).mono ?_
  rintro e w4 ⟨y, ya, yc, ok, f', Y', rfl, hE4, hsub, hff, hx, hsl, hk1, hk2⟩
  have hmn : ∀ b, SolM S q b → b < w.heap.size := fun b hb => by rcases hb with rfl | rfl; exact hSl; exact hml
  have HX4 : Hid (ExQ (SolM S q) w w4) := (ExQ.ofBelow HB3.out).trans hx
  have Q4 := hide (Q3.out.exq hx (fun h => by have := hmn _ h; omega))
  have A4 := hide (A3.out.exq hx (fun h => by have := hmn _ h; omega))
  have B4 := hide (B3.out.exq hx (fun h => by have := hmn _ h; omega))
  have HZ4 : Hid (w.heap.size + 3 ≤ w4.heap.size) := by have := hx.size; unfold Hid; omega
  have HSUB : Hid (∀ b, Y' b → Y b ∨ w.heap.size + 3 ≤ b) := fun b hb => (hsub b hb).imp id fun h => by omega
  have HE4 := hide hE4
  have HSL4 : Hid (Sl w4 (fun b => w.heap.size + 3 ≤ b ∧ b < w4.heap.size) ya y.args) := hsl.mono fun b hb h2 => ⟨by omega, h2⟩
  have HK1 := hide hk1
  have HK2 := hide hk2
  have HMN := hide hmn
  clear hsub hx hsl hk1 hk2 hE4 hff hmn
  have q2 := Q4.out.c2
  have q3 := Q4.out.c3
  have x0 := A4.out.c0
  have x1 := A4.out.c1
  have xf := A4.out.frozen
  have y0 := B4.out.c0
  have y1 := B4.out.c1
  cases ok with
  | true =>
   obtain ⟨rfl, hyT, hyz⟩ := HK1.out rfl
   have HYT := hide hyT
   have HYZ := hide hyz
   clear hyT hyz HK1 HK2
   have hk5 : ∀ b, b ≠ w.heap.size + 1 → ((w4.setCell ⟨w.heap.size + 1, 0, none⟩ (.string y.name)).setCell ⟨w.heap.size + 1, 1, none⟩ (.slice ya y.args.length yc)).heap[b]? = w4.heap[b]? := fun b hb => by
    rw [Below.heap_setCell _ _ _ _ (by simpa using hb), Below.heap_setCell _ _ _ _ (by simpa using hb)]
   have A5 : Hid (Blk ((w4.setCell ⟨w.heap.size + 1, 0, none⟩ (.string y.name)).setCell ⟨w.heap.size + 1, 1, none⟩ (.slice ya y.args.length yc)) (w.heap.size + 1) #[.string y.name, .slice ya y.args.length yc] 32) := by
    have := (A4.out.set 0 (.string y.name)).set 1 (.slice ya y.args.length yc)
    unfold Hid
    simpa using this
   have B5 := hide ((B4.out.setOther (b' := w.heap.size + 1) 0 (.string y.name) (by omega)).setOther (b' := w.heap.size + 1) 1 (.slice ya y.args.length yc) (by omega))
   have HE5 := hide ((solE_ok S q td h).keep _ _ _ _ HE4.out fun b hb => hk5 b (fun e => by rcases HSUB.out b hb with h1 | h1; have := HY.out b h1; omega; omega))
   have HX5 := hide ((HX4.out.setNew (b := w.heap.size + 1) (by omega) 0 (.string y.name)).setNew (b := w.heap.size + 1) (by omega) 1 (.slice ya y.args.length yc))
   have HSL5 := hide (HSL4.out.kept fun b hb => hk5 b (by omega))
   have HSX5 : Hid (Sl ((w4.setCell ⟨w.heap.size + 1, 0, none⟩ (.string y.name)).setCell ⟨w.heap.size + 1, 1, none⟩ (.slice ya y.args.length yc)) (fun b => X b ∧ b < w.heap.size) a2 p.r.args) := HSX2.out.exq HX5.out (fun b hb => HXM.out b hb.1)
   have hz5 : ((w4.setCell ⟨w.heap.size + 1, 0, none⟩ (.string y.name)).setCell ⟨w.heap.size + 1, 1, none⟩ (.slice ya y.args.length yc)).heap.size = w4.heap.size := by simp [World.setCell]
   go_wp2_with fail
   clear x0 x1 y0 y1 q2 q3 hk5 xf
   generalize ((w4.setCell ⟨w.heap.size + 1, 0, none⟩ (.string y.name)).setCell ⟨w.heap.size + 1, 1, none⟩ (.slice ya y.args.length yc)) = w5 at *
   refine (ufill_any S q td h g hN p.r he.2 a2 c2 w5 _ Y' false (fun b hb => HXM.out b hb.1) HSX5.out HE5.out).mono ?_
   rintro e w6 ⟨y2, ya2, yc2, ok, f', Y2, rfl, hE6, hsub, hff, hx, hsl, hk1, hk2⟩
   have HX6 : Hid (ExQ (SolM S q) w w6) := HX5.out.trans hx
   have A6 := hide (A5.out.exq hx (fun h => by have := HMN.out _ h; omega))
   have B6 := hide (B5.out.exq hx (fun h => by have := HMN.out _ h; omega))
   have HZ6 : Hid (w4.heap.size ≤ w6.heap.size) := by have := hx.size; unfold Hid; omega
   have HSUB6 : Hid (∀ b, Y2 b → Y b ∨ w.heap.size + 3 ≤ b) := fun b hb => by
    rcases hsub b hb with h1 | h1
    ·exact HSUB.out b h1
    ·have := HZ4.out; right; omega
   have HE6 := hide hE6
   have HSL6 : Hid (Sl w6 (fun b => w.heap.size + 3 ≤ b) ya y.args) := (HSL5.out.exq hx (fun b hb h => by have := HMN.out _ h; omega)).mono fun b hb _ => hb.1
   have HSL7 : Hid (Sl w6 (fun b => w.heap.size + 3 ≤ b) ya2 y2.args) := hsl.mono fun b hb h2 => by have := HZ4.out; omega
   have HCC : Hid (∀ W : World, Sl W (fun b => w.heap.size + 3 ≤ b) ya y.args → Sl W (fun b => w.heap.size + 3 ≤ b) ya2 y2.args → PtC (onT (sAt h) p.l) (onT (sAt h) p.r) y.name ya y.args.length y2.name ya2 y2.args.length ok f' (fun b => (X b ∧ b < w.heap.size) ∨ w.heap.size ≤ b) W) := fun W g1 g2 => by
    cases ok with
    | true =>
     obtain ⟨e1, e2, e3⟩ := hk1 rfl
     exact Or.inl ⟨rfl, e1, by rw [HYT.out], by rw [HYT.out], by rw [e2], by rw [e2], by rw [← HYT.out]; exact HYZ.out, by rw [← e2]; exact e3, by rw [← HYT.out]; exact g1.mono fun b hb _ => Or.inr (by omega), by rw [← e2]; exact g2.mono fun b hb _ => Or.inr (by omega)⟩
    | false =>
     rcases hk2 rfl with h1 | h1
     ·exact Or.inr ⟨rfl, Or.inl h1⟩
     ·exact Or.inr ⟨rfl, Or.inr (Or.inr h1)⟩
   clear hsub hx hsl hk1 hk2 hE6 hff
   have x0 := A6.out.c0
   have x1 := A6.out.c1
   have xf := A6.out.frozen
   have y0 := B6.out.c0
   have y1 := B6.out.c1
   have yf := B6.out.frozen
   have hnb : ∀ b, (Y2 b ∨ w.heap.size + 3 ≤ b) → b ≠ w.heap.size + 1 ∧ b ≠ w.heap.size + 1 + 1 := fun b hb => by
    have h1 : Y b ∨ w.heap.size + 3 ≤ b := hb.elim (HSUB6.out b) Or.inr
    rcases h1 with h1 | h1
    ·have := HY.out b h1; omega
    ·omega
   have HNB := hide hnb
   clear hnb
   have FA := hide ((((((A6.out.setOther (b' := w.heap.size + 1 + 1) 0 (.string y2.name) (by omega)).setOther (b' := w.heap.size + 1 + 1) 1 (.slice ya2 y2.args.length yc2) (by omega)).set 0 (.string y.name)).set 1 (.slice ya y.args.length yc)).setOther (b' := w.heap.size + 1 + 1) 0 (.string y2.name) (by omega)).setOther (b' := w.heap.size + 1 + 1) 1 (.slice ya2 y2.args.length yc2) (by omega))
   have FB := hide ((((((B6.out.set 0 (.string y2.name)).set 1 (.slice ya2 y2.args.length yc2)).setOther (b' := w.heap.size + 1) 0 (.string y.name) (by omega)).setOther (b' := w.heap.size + 1) 1 (.slice ya y.args.length yc) (by omega)).set 0 (.string y2.name)).set 1 (.slice ya2 y2.args.length yc2))
   have fa0 := FA.out.cell 0
   have fa1 := FA.out.cell 1
   have fb0 := FB.out.cell 0
   have fb1 := FB.out.cell 1
   simp only [List.setIfInBounds_toArray, List.set_cons_zero, List.set_cons_succ, List.getElem?_toArray, List.getElem?_cons_zero, List.getElem?_cons_succ] at fa0 fa1 fb0 fb1
   go_wp2_with fail
   go_region
   all_goals go_wp2_with fail
   all_goals
    refine bodyPost_ret (v := .tuple #[.agg #[.string y.name, .slice ya y.args.length yc], .agg #[.string y2.name, .slice ya2 y2.args.length yc2], .bool ok]) (by simp [results, Tryz.results102, go_sem, fa0, fa1, fb0, fb1]) rfl ?_
    refine ⟨y.name, ya, y.args.length, yc, y2.name, ya2, y2.args.length, yc2, ok, f', Y2, rfl, (solE_ok S q td h).keep _ _ _ _ HE6.out (fun b hb => set6 (HNB.out b (Or.inl hb)).2 (HNB.out b (Or.inl hb)).2 (HNB.out b (Or.inl hb)).1 (HNB.out b (Or.inl hb)).1 (HNB.out b (Or.inl hb)).2 (HNB.out b (Or.inl hb)).2), fun b hb => (HSUB6.out b hb).imp id fun h => by omega, set6x HX6.out (by omega) (by omega) (by omega) (by omega) (by omega) (by omega), HCC.out _ (HSL6.out.kept fun b hb => set6 (by omega) (by omega) (by omega) (by omega) (by omega) (by omega)) (HSL7.out.kept fun b hb => set6 (by omega) (by omega) (by omega) (by omega) (by omega) (by omega))⟩
  | false =>
   have yf := B4.out.frozen
   have HNB : Hid (∀ b, Y' b → b ≠ w.heap.size + 1 ∧ b ≠ w.heap.size + 1 + 1) := fun b hb => by
    rcases HSUB.out b hb with h1 | h1
    ·have := HY.out b h1; omega
    ·omega
   have HCC : Hid (f' = true ∨ 2000 < sizeL [onT (sAt h) p.l]) := HK2.out rfl
   clear HK1 HK2
   have FA := hide ((((((A4.out.set 0 (.string y.name)).set 1 (.slice ya y.args.length yc)).set 0 (.string y.name)).set 1 (.slice ya y.args.length yc)).setOther (b' := w.heap.size + 1 + 1) 0 (.string ⟨#[]⟩) (by omega)).setOther (b' := w.heap.size + 1 + 1) 1 (.slice none 0 0) (by omega))
   have FB := hide ((((((B4.out.setOther (b' := w.heap.size + 1) 0 (.string y.name) (by omega)).setOther (b' := w.heap.size + 1) 1 (.slice ya y.args.length yc) (by omega)).setOther (b' := w.heap.size + 1) 0 (.string y.name) (by omega)).setOther (b' := w.heap.size + 1) 1 (.slice ya y.args.length yc) (by omega)).set 0 (.string ⟨#[]⟩)).set 1 (.slice none 0 0))
   have fa0 := FA.out.cell 0
   have fa1 := FA.out.cell 1
   have fb0 := FB.out.cell 0
   have fb1 := FB.out.cell 1
   simp only [List.setIfInBounds_toArray, List.set_cons_zero, List.set_cons_succ, List.getElem?_toArray, List.getElem?_cons_zero, List.getElem?_cons_succ] at fa0 fa1 fb0 fb1
   go_wp2_with fail
   go_region
   all_goals go_wp2_with fail
   all_goals
    refine bodyPost_ret (v := .tuple #[.agg #[.string y.name, .slice ya y.args.length yc], .agg #[.string ⟨#[]⟩, .slice none 0 0], .bool false]) (by simp only [results, Tryz.results102]; simp [go_sem, fa0, fa1, fb0, fb1]) rfl ?_
    refine ⟨y.name, ya, y.args.length, yc, ⟨#[]⟩, none, 0, 0, false, f', Y', rfl, (solE_ok S q td h).keep _ _ _ _ HE4.out (fun b hb => set6 (HNB.out b hb).1 (HNB.out b hb).1 (HNB.out b hb).1 (HNB.out b hb).1 (HNB.out b hb).2 (HNB.out b hb).2), fun b hb => (HSUB.out b hb).imp id fun h => by omega, set6x HX4.out (by omega) (by omega) (by omega) (by omega) (by omega) (by omega), Or.inr ⟨rfl, ?_⟩⟩
    rcases HCC.out with h1 | h1
    ·exact Or.inl h1
    ·exact Or.inr (Or.inl h1)
theorem stood_snoc {h : List (ByteArray × Tm)} {p : ByteArray × Tm} {i j : Nat} (hi : i < h.length) (hi2 : i < (h ++ [p]).length) (hj : j ≤ h.length) : stood (h ++ [p]) i j hi2 = stood h i j hi := by
 unfold stood
 rw [List.take_append_of_le_length hj, List.getElem_append_left hi]
theorem stood_new {h : List (ByteArray × Tm)} {x : ByteArray} {t : Tm} (g : GoodH h) (m : MayAdd (sAt h) x t) (hi : h.length < (h ++ [(x, t)]).length) : stood (h ++ [(x, t)]) h.length (h.length + 1) hi = t := by
 have g2 := g.snoc m
 have h1 := forT_at g2 hi
 have e1 : (h ++ [(x, t)])[h.length].1 = x := by simp
 rw [e1] at h1
 have h2 : (h ++ [(x, t)]).length = h.length + 1 := by simp
 unfold stood
 rw [e1, show (h ++ [(x, t)]).take (h.length + 1) = h ++ [(x, t)] from List.take_of_length_le (by omega), sAt_snoc, add_val g.all.1 m.2.1 x]
 have h3 : forT (sAt h) x = none := by
  cases hf : forT (sAt h) x with
  | none => rfl
  | some u =>
   obtain ⟨d, hd, e, _⟩ := forT_mem hf
   exact absurd e (m.2.1 d hd)
 rw [onT_leaf (sAt h), h3]
 show onT [⟨x, t⟩] ⟨x, []⟩ = t
 exact onT_some (by simp [forT])
theorem StMap.snoc {w : World} {Z : Nat → Prop} {h : List (ByteArray × Tm)} (g : GoodH h) {L : List (ByteArray × Value)} (e : StMap w Z h L) {x : ByteArray} {t : Tm} (m : MayAdd (sAt h) x t) {a : Option Addr} {c : Nat} (hs : Sl w Z a t.args) : StMap w Z (h ++ [(x, t)]) (L ++ [(x, .agg #[.string t.name, .slice a t.args.length c, .int .i64 (h.length : Int)])]) := by
 have hl := e.1
 refine ⟨by simp [hl], fun i hi hli => ?_⟩
 by_cases hlt : i < h.length
 ·have hlL : i < L.length := by omega
  rw [List.getElem_append_left hlt, List.getElem_append_left hlL]
  obtain ⟨e1, j, a1, c1, e2, e3, e4⟩ := e.2 i hlt hlL
  have hmx : max j (i + 1) ≤ h.length := Nat.max_le.2 ⟨e2, hlt⟩
  refine ⟨e1, j, a1, c1, by simp; omega, ?_, ?_⟩
  ·rw [stood_snoc hlt hi hmx]; exact e3
  ·rw [stood_snoc hlt hi hmx]; exact e4
 ·have hi2 : i = h.length := by simp at hi; omega
  subst hi2
  have e1 : (h ++ [(x, t)])[h.length] = (x, t) := by simp
  have e2 : (L ++ [(x, Value.agg #[.string t.name, .slice a t.args.length c, .int .i64 (h.length : Int)])])[h.length] = (x, .agg #[.string t.name, .slice a t.args.length c, .int .i64 (h.length : Int)]) := by simp [← hl]
  rw [e1, e2]
  have hst := stood_new g m hi
  refine ⟨rfl, h.length, a, c, by simp, ?_, ?_⟩
  ·rw [Nat.max_eq_right (by omega), hst]
  ·rw [Nat.max_eq_right (by omega), hst]; exact hs
def BdPost (S q : Nat) (td : Value) (h : List (ByteArray × Tm)) (nm : ByteArray) (t : Tm) (X Y : Nat → Prop) (w : World) (e : Ending) (w' : World) : Prop :=
 ExQ (SolM S q) w w' ∧ ((t.name = nm ∧ e = .returned (.int .i64 0) ∧ SolE S q td h false Y w') ∨ (t.name ≠ nm ∧ occB nm [t] = true ∧ e = .returned (.int .i64 6) ∧ SolE S q td h false Y w') ∨
  (t.name ≠ nm ∧ occB nm [t] = false ∧ e = .returned (.int .i64 0) ∧ SolE S q td (h ++ [(nm, t)]) false (fun b => Y b ∨ (X b ∧ b < w.heap.size)) w'))
set_option maxHeartbeats 1000000 in
theorem bind_any2 (S q : Nat) (td : Value) (h : List (ByteArray × Tm)) (g : GoodH h) (nm : ByteArray) (t : Tm) (hmay : t.name ≠ nm → occB nm [t] = false → MayAdd (sAt h) nm t) (a : Option Addr) (c : Nat) (w : World) (X Y : Nat → Prop) (hXM : ∀ b, X b → ¬ SolM S q b) (hs : Sl w X a t.args) (hEv : SolE S q td h false Y w) :
  Calls Tryz.prog 103 #[.pointer (some ⟨S, 0, none⟩), .string nm, .agg #[.string t.name, .slice a t.args.length c]] w fun e w' => BdPost S q td h nm t X Y w e w' := by
 have HE := hide hEv
 have HS := hide hs
 have HXM := hide hXM
 have HMAY := hide hmay
 obtain ⟨⟨L, hB, hM, hSt⟩, hYS, hYq, hY, hg⟩ := hEv
 have hSl := hB.lt
 have hml := hM.lt
 have HY := hide hY
 have hln : Hid (L.length = h.length) := hSt.1
 have HSTM := hide hSt
 have HMM := hide hM
 have HB := hide hB
 clear hs hXM hSt hg hY hM hmay
 by_cases hn : t.name = nm
 ·have hn2 := bytes_yes hn
  have HN := hide hn
  clear hn
  go_enter Tryz.func103, Tryz.ntmps103
  go_wp2_with fail
  go_ret
  exact ⟨(ExQ.refl _ _).alloc _, Or.inl ⟨HN.out, rfl, (solE_ok S q td h).below HE.out ((Below.refl _ _).alloc (Nat.le_refl _) _)⟩⟩
 ·have hn2 := bytes_no hn
  have HN := hide hn
  clear hn
  have hB1 : Below w.heap.size w (w.alloc (.cells #[.string t.name, .slice a t.args.length c] 32)) := (Below.refl _ _).alloc (Nat.le_refl _) _
  have HB1 := hide hB1
  have T1 := hide (Blk.new w #[.string t.name, .slice a t.args.length c] 32)
  have hz1 : (w.alloc (.cells #[.string t.name, .slice a t.args.length c] 32)).heap.size = w.heap.size + 1 := by simp
  clear hB1
  go_enter Tryz.func103, Tryz.ntmps103
  go_wp2_with fail
  generalize (w.alloc (.cells #[.string t.name, .slice a t.args.length c] 32)) = w1 at *
  refine (holds_any nm t _ w1 X ⟨a, c, rfl, HS.out.later HB1.out⟩).mono ?_
  rintro e w2 ⟨rfl, hb2⟩
  have HB2 := hide (HB1.out.trans (hb2.mono HB1.out.size))
  have T2 := hide (T1.out.below hb2 (by omega))
  have HZ2 : Hid (w.heap.size + 1 ≤ w2.heap.size) := by have := hb2.size; unfold Hid; omega
  clear hb2
  cases ho : occB nm [t] with
  | true =>
   go_wp2_with fail
   go_ret
   exact ⟨ExQ.ofBelow HB2.out, Or.inr (Or.inl ⟨HN.out, ho, rfl, (solE_ok S q td h).below HE.out HB2.out⟩)⟩
  | false =>
   have HO := hide ho
   have hmayadd := HMAY.out HN.out ho
   have HMA := hide hmayadd
   have B2 := hide (HB.out.below HB2.out hSl)
   have s1 : w2.cell? ⟨S, 1, none⟩ = some (.map (some q)) := B2.out.cell 1
   have t0 := T2.out.c0
   have t1 := T2.out.c1
   have hM2 : MapAt w2.drew q L := HMM.out.below (HB2.out.drew) hml
   have hlen : Sem.run Tryz.prog (Builtin.len_ #[125] 3 #[.map (some q)]) w2.drew = .ok (.int .i64 (h.length : Int)) w2.drew := by
    rw [run_len Tryz.underlying125 hM2, hln.out]
   have hfree : mapGet L nm = none := HSTM.out.none fun i hi e => by
    obtain ⟨d, hd, e1⟩ := (g.bound h.length (Nat.le_refl _) h[i].1).2 ⟨i, hi, hi, rfl⟩
    rw [List.take_length] at hd
    exact hmayadd.2.1 d hd (e1.trans e)
   obtain ⟨w5, hrun, hM5, hz5, ho5, ht5, hu5, hk5⟩ := run_put (P := Tryz.prog) Tryz.underlying125 Tryz.underlying9 hM2 nm (.agg #[.string t.name, .slice a t.args.length c, .int .i64 (h.length : Int)]) hfree
   have HX5 : Hid (ExQ (SolM S q) w w5) := by
    have h1 : ExQ (SolM S q) w w2.drew := ExQ.ofBelow HB2.out.drew
    exact ⟨ho5.trans h1.os, ht5.trans h1.tape, hu5.trans h1.output, by rw [hz5]; exact h1.size, fun b hb hn => (hk5 b (fun e => hn (Or.inr e))).trans (h1.block b hb hn)⟩
   have HE5 : Hid (SolE S q td (h ++ [(nm, t)]) false (fun b => Y b ∨ (X b ∧ b < w.heap.size)) w5) := by
    have hSq : S ≠ q := fun e => by
     obtain ⟨es, clk, h1, _⟩ := HMM.out
     have h2 := HB.out
     subst e
     unfold Blk at h2
     rw [h1] at h2; cases h2
    have keep : ∀ (Z : Nat → Prop) a l, (∀ b, Z b → ((Y b ∨ (X b ∧ b < w.heap.size)) ∧ b ≠ S ∧ b ≠ q) ∧ b < w.heap.size) → Sl w Z a l → Sl w5 (fun b => (Y b ∨ (X b ∧ b < w.heap.size)) ∧ b ≠ S ∧ b ≠ q) a l := fun Z a l hZ hsl => (hsl.kept fun b hb => (hk5 b (hZ b hb).1.2.2).trans (HB2.out.drew.block b (hZ b hb).2)).mono fun b hb _ => (hZ b hb).1
    refine ⟨⟨_, ?_, hM5, ?_⟩, Or.inl hYS, Or.inl hYq, fun b hb => ?_, fun hf => by cases hf⟩
    ·have h1 := B2.out
     unfold Blk at *
     rw [hk5 S hSq]
     exact h1
    ·exact StMap.snoc g (HSTM.out.imp fun a l hsl => keep _ a l (fun b hb => ⟨⟨Or.inl hb.1, hb.2⟩, HY.out b hb.1⟩) hsl) HMA.out (keep (fun b => X b ∧ b < w.heap.size) a t.args (fun b hb => ⟨⟨Or.inr hb, fun e => HXM.out b hb.1 (Or.inl e), fun e => HXM.out b hb.1 (Or.inr e)⟩, hb.2⟩) (HS.out.mono fun b h1 h2 => ⟨h1, h2⟩))
    ·rw [hz5]
     show b < w2.heap.size
     have hb2 : b < w.heap.size := by
      rcases hb with hb | hb
      ·exact HY.out b hb
      ·exact hb.2
     have := HZ2.out
     omega
   clear hM5 hz5 ho5 ht5 hu5 hk5 hM2 hfree hmayadd ho
   go_wp2_with fail
   go_region
   all_goals go_wp2_with fail
   all_goals go_ret
   all_goals exact ⟨HX5.out, Or.inr (Or.inr ⟨HN.out, HO.out, rfl, HE5.out⟩)⟩
abbrev Ec := Pc × Nat
def enc5 (x : Ec) : List Value := [.string x.1.1.l.name, .slice x.1.2.1.1 x.1.1.l.args.length x.1.2.1.2, .string x.1.1.r.name, .slice x.1.2.2.1 x.1.1.r.args.length x.1.2.2.2, .int .i64 (x.2 : Int)]
def flat5 : List Ec → List Value
 | [] => []
 | x :: r => enc5 x ++ flat5 r
theorem flat5_append (b : List Ec) : ∀ a, flat5 (a ++ b) = flat5 a ++ flat5 b
 | [] => rfl
 | x :: r => by rw [List.cons_append, flat5, flat5, flat5_append b r, List.append_assoc]
theorem flat5_length : ∀ a : List Ec, (flat5 a).length = a.length * 5
 | [] => rfl
 | x :: r => by rw [flat5, List.length_append, flat5_length r]; simp [enc5]; omega
theorem flat5_get : ∀ (a : List Ec) (i : Nat) (h : i < a.length) (j : Nat), j < 5 → (flat5 a)[i * 5 + j]? = (enc5 a[i])[j]?
 | [], i, h, j, hj => by simp at h
 | x :: r, 0, h, j, hj => by
  rw [flat5, List.getElem?_append_left (by simp [enc5]; omega)]; simp
 | x :: r, i + 1, h, j, hj => by
  rw [flat5, List.getElem?_append_right (by simp [enc5]; omega)]
  have e : (i + 1) * 5 + j - (enc5 x).length = i * 5 + j := by simp [enc5]; omega
  rw [e, flat5_get r i (by simpa using h) j hj]
  simp
structure ERow (w : World) (N : Nat) (Y : Nat → Prop) (v : Value) (cs : List Ec) : Prop where
 own : w.ownsRow N 133 5 v cs.length (flat5 cs)
 row : ∀ x ∈ cs, Sl w (fun b => Y b ∨ (N ≤ b ∧ some b ≠ v.ownBlock)) x.1.2.1.1 x.1.1.l.args ∧ Sl w (fun b => Y b ∨ (N ≤ b ∧ some b ≠ v.ownBlock)) x.1.2.2.1 x.1.1.r.args
theorem ERow.start (w : World) (N : Nat) (Y : Nat → Prop) : ERow w N Y (.slice none 0 0) [] := ⟨World.ownsRow_nil w N _ 5, by simp⟩
theorem ERow.below {w w' : World} {N : Nat} {Y : Nat → Prop} {v : Value} {cs : List Ec} (h : ERow w N Y v cs) (hb : Below w.heap.size w w') : ERow w' N Y v cs :=
 ⟨h.own.kept (w' := w') (row := none) ⟨hb.os, hb.tape, hb.output, hb.size, fun j hj _ => hb.block j hj⟩ (by rcases Option.eq_none_or_eq_some (Value.ownBlock v) with h | ⟨x, h⟩; exact Or.inl h; exact Or.inr (by rw [h]; simp)),
  fun x hx => ⟨(h.row x hx).1.later hb, (h.row x hx).2.later hb⟩⟩
theorem ERow.ne {w : World} {N : Nat} {Y : Nat → Prop} {v : Value} {cs : List Ec} (h : ERow w N Y v cs) {b : Nat} (hb : b < N) : some b ≠ v.ownBlock := fun e => by
 have := (h.own.lt b e.symm).1; omega
theorem ERow.push {w w1 w2 w3 : World} {N : Nat} {Y : Nat → Prop} {v : Value} {cs : List Ec} (h : ERow w N Y v cs) (hN : N ≤ w.heap.size) (hY : ∀ b, Y b → b < N) (hb : Below w.heap.size w w1) {x : Ec}
  (ht : Sl w1 (fun b => Y b ∨ w.heap.size ≤ b) x.1.2.1.1 x.1.1.l.args ∧ Sl w1 (fun b => Y b ∨ w.heap.size ≤ b) x.1.2.2.1 x.1.1.r.args) (o : Obj) (hw2 : w2 = w1.alloc o) {g cap : Nat}
  (hown : w3.ownsRow N 133 5 (.slice (some ⟨g, 0, none⟩) (cs.length + 1) cap) (cs.length + 1) (flat5 cs ++ enc5 x)) (hg : w2.grownBy w3 v.ownBlock) (hg1 : v.ownBlock = some g ∨ g = w2.heap.size) :
  ERow w3 N Y (.slice (some ⟨g, 0, none⟩) (cs.length + 1) cap) (cs ++ [x]) := by
 subst hw2
 have hlt := h.own.lt
 have hsz : w1.heap.size ≤ (w1.alloc o).heap.size := by simp
 have hbs := hb.size
 have hgN : N ≤ g := by
  rcases hg1 with e | e
  ·exact (hlt g e).1
  ·simp at e; omega
 have old : ∀ (a : Option Addr) (l : List Tm), Sl w (fun b => Y b ∨ (N ≤ b ∧ some b ≠ v.ownBlock)) a l → Sl w3 (fun b => Y b ∨ (N ≤ b ∧ some b ≠ (Value.slice (some ⟨g, 0, none⟩) (cs.length + 1) cap).ownBlock)) a l := fun a l h0 => by
  have h1 : Sl w (fun b => (Y b ∨ (N ≤ b ∧ some b ≠ v.ownBlock)) ∧ b < w.heap.size) a l := h0.mono fun b h1 h2 => ⟨h1, h2⟩
  have h2 : Sl w3 (fun b => (Y b ∨ (N ≤ b ∧ some b ≠ v.ownBlock)) ∧ b < w.heap.size) a l := h1.kept fun b hx => by
   have hne : some b ≠ v.ownBlock := by
    rcases hx.1 with hy | hy
    ·exact h.ne (hY b hy)
    ·exact hy.2
   rw [hg.block b (by simp; omega) hne, Below.heap_alloc _ _ _ (by omega), hb.block b hx.2]
  refine h2.mono fun b hx _ => ?_
  rcases hx.1 with hy | hy
  ·exact Or.inl hy
  ·refine Or.inr ⟨hy.1, fun e => ?_⟩
   simp [Value.ownBlock] at e
   rcases hg1 with e' | e'
   ·exact hy.2 (by rw [e', e])
   ·simp at e'; omega
 have new : ∀ (a : Option Addr) (l : List Tm), Sl w1 (fun b => Y b ∨ w.heap.size ≤ b) a l → Sl w3 (fun b => Y b ∨ (N ≤ b ∧ some b ≠ (Value.slice (some ⟨g, 0, none⟩) (cs.length + 1) cap).ownBlock)) a l := fun a l h0 => by
  have h1 : Sl w1 (fun b => (Y b ∨ w.heap.size ≤ b) ∧ b < w1.heap.size) a l := h0.mono fun b h1 h2 => ⟨h1, h2⟩
  have h2 : Sl w3 (fun b => (Y b ∨ w.heap.size ≤ b) ∧ b < w1.heap.size) a l := h1.kept fun b hx => by
   have hne : some b ≠ v.ownBlock := by
    rcases hx.1 with hy | hy
    ·exact h.ne (hY b hy)
    ·intro e; have := (hlt b e.symm).2; omega
   rw [hg.block b (by simp; omega) hne, Below.heap_alloc _ _ _ hx.2]
  refine h2.mono fun b hx _ => ?_
  rcases hx.1 with hy | hy
  ·exact Or.inl hy
  ·refine Or.inr ⟨by omega, fun e => ?_⟩
   simp [Value.ownBlock] at e
   rcases hg1 with e' | e'
   ·have := (hlt g e').2; omega
   ·simp at e'; omega
 refine ⟨by rw [flat5_append]; simpa [flat5] using hown, fun y hy => ?_⟩
 rcases List.mem_append.1 hy with hy | hy
 ·exact ⟨old _ _ (h.row y hy).1, old _ _ (h.row y hy).2⟩
 ·have e : y = x := by simpa using hy
  subst e
  exact ⟨new _ _ ht.1, new _ _ ht.2⟩
theorem Tryz.infoEq : (Tryz.prog.info? 133).map (fun i => (i.zero, i.size, i.bytes)) = some (some (.agg #[.string ByteArray.empty, .slice none 0 0, .string ByteArray.empty, .slice none 0 0, .int .i64 0]), 5, 88) := by kernel_rfl
theorem cell_five_new (w : World) (c0 c1 c2 c3 c4 : Value) (T : Nat) : ∀ j u, [c0, c1, c2, c3, c4][j]? = some u → (w.alloc (.cells #[c0, c1, c2, c3, c4] T)).cell? ((⟨w.heap.size, 0, none⟩ : Addr).add j) = some u :=
 World.news_of_block (cs := #[c0, c1, c2, c3, c4]) (heap_alloc_new w _)
theorem ERow.exq {w w' : World} {Q : Nat → Prop} {N : Nat} {Y : Nat → Prop} {v : Value} {cs : List Ec} (h : ERow w N Y v cs) (he : ExQ Q w w') (hQ : ∀ b, Q b → b < N) (hY : ∀ b, Q b → ¬ Y b) : ERow w' N Y v cs :=
 ⟨ownsRow_at h.own fun g hg => he.block g (h.own.lt g hg).2 (fun hq => by have := hQ g hq; have := (h.own.lt g hg).1; omega),
  fun x hx => ⟨(h.row x hx).1.exq he fun b hb hq => by
   rcases hb with h1 | h1
   ·exact hY b hq h1
   ·have := hQ b hq; omega,
   (h.row x hx).2.exq he fun b hb hq => by
   rcases hb with h1 | h1
   ·exact hY b hq h1
   ·have := hQ b hq; omega⟩⟩
theorem sl_push {w1 w3 : World} {N n cap : Nat} {Y : Nat → Prop} {v : Value} {o : Obj} {g : Nat} (hv : ∀ b, Y b → some b ≠ v.ownBlock) (hg : (w1.alloc o).grownBy w3 v.ownBlock) (hg1 : v.ownBlock = some g ∨ g = (w1.alloc o).heap.size) {a : Option Addr} {l : List Tm} (h0 : Sl w1 (fun b => Y b ∨ (N ≤ b ∧ some b ≠ v.ownBlock)) a l) :
  Sl w3 (fun b => Y b ∨ (N ≤ b ∧ some b ≠ (Value.slice (some ⟨g, 0, none⟩) n cap).ownBlock)) a l := by
 have h1 : Sl w1 (fun b => (Y b ∨ (N ≤ b ∧ some b ≠ v.ownBlock)) ∧ b < w1.heap.size) a l := h0.mono fun b h1 h2 => ⟨h1, h2⟩
 refine (h1.kept fun b hx => ?_).mono fun b hx _ => ?_
 ·have hne : some b ≠ v.ownBlock := by
   rcases hx.1 with hy | hy
   ·exact hv b hy
   ·exact hy.2
  rw [hg.block b (by simp; omega) hne, Below.heap_alloc _ _ _ hx.2]
 ·rcases hx.1 with hy | hy
  ·exact Or.inl hy
  ·refine Or.inr ⟨hy.1, fun e => ?_⟩
   simp [Value.ownBlock] at e
   rcases hg1 with e' | e'
   ·exact hy.2 (by rw [e', e])
   ·simp at e'; omega
theorem ERow.push2 {w w1 w3 : World} {N : Nat} {Y : Nat → Prop} {v : Value} {cs : List Ec} (h : ERow w N Y v cs) (hY : ∀ b, Y b → b < N) (hb : Below w.heap.size w w1) {x : Ec}
  (ht : Sl w1 (fun b => Y b ∨ (N ≤ b ∧ some b ≠ v.ownBlock)) x.1.2.1.1 x.1.1.l.args ∧ Sl w1 (fun b => Y b ∨ (N ≤ b ∧ some b ≠ v.ownBlock)) x.1.2.2.1 x.1.1.r.args) (o : Obj) {g cap : Nat}
  (hown : w3.ownsRow N 133 5 (.slice (some ⟨g, 0, none⟩) (cs.length + 1) cap) (cs.length + 1) (flat5 cs ++ enc5 x)) (hg : (w1.alloc o).grownBy w3 v.ownBlock) (hg1 : v.ownBlock = some g ∨ g = (w1.alloc o).heap.size) :
  ERow w3 N Y (.slice (some ⟨g, 0, none⟩) (cs.length + 1) cap) (cs ++ [x]) := by
 have hv : ∀ b, Y b → some b ≠ v.ownBlock := fun b hb => h.ne (hY b hb)
 refine ⟨by rw [flat5_append]; simpa [flat5] using hown, fun y hy => ?_⟩
 rcases List.mem_append.1 hy with hy | hy
 ·exact ⟨sl_push hv hg hg1 ((h.row y hy).1.later hb), sl_push hv hg hg1 ((h.row y hy).2.later hb)⟩
 ·have e : y = x := by simpa using hy
  subst e
  exact ⟨sl_push hv hg hg1 ht.1, sl_push hv hg hg1 ht.2⟩
theorem ERow.setCell {w : World} {N : Nat} {Y : Nat → Prop} {v : Value} {cs : List Ec} (h : ERow w N Y v cs) {b i : Nat} (hb : b < N) (hY : ¬ Y b) (u : Value) : ERow (w.setCell ⟨b, i, none⟩ u) N Y v cs :=
 h.exq (Q := fun c => c = b) ((ExQ.refl (fun c => c = b) w).set (B := b) rfl i u) (fun c hc => by omega) (fun c hc => by rw [hc]; exact hY)
theorem sole_todo {S q : Nat} {td td' : Value} {h : List (ByteArray × Tm)} {Y : Nat → Prop} {w w3 : World} (he : SolE S q td h false Y w) (hk : ∀ b, Y b → w3.heap[b]? = w.heap[b]?) : SolE S q td' h false Y (w3.setCell ⟨S, 0, none⟩ td') := by
 have he3 := (solE_ok S q td h).keep _ _ _ _ he hk
 obtain ⟨⟨L, e1, e2, e3⟩, e4, e5, e6, e7⟩ := he3
 have hSq : S ≠ q := fun e => by
  obtain ⟨es, clk, h1, _⟩ := e2
  subst e
  unfold Blk at e1
  rw [h1] at e1; cases e1
 have hk2 : ∀ b, b ≠ S → (w3.setCell ⟨S, 0, none⟩ td').heap[b]? = w3.heap[b]? := fun b hb => Below.heap_setCell _ _ _ _ (by simpa using hb)
 refine ⟨⟨L, ?_, e2.kept (hk2 q (Ne.symm hSq)), e3.imp fun a l hsl => (hsl.kept fun b hb => hk2 b hb.2.1)⟩, e4, e5, fun b hb => by simpa [World.setCell] using e6 b hb, e7⟩
 have := e1.set 0 td'
 simpa using this
def ecP (x : Ec) : Pr × Nat := (x.1.1, x.2)
theorem Sl.blk {w : World} {X : Nat → Prop} {b o : Nat} {l : List Tm} (h : Sl w X (some ⟨b, o, none⟩) l) (hl : 0 < l.length) : X b := by
 rcases h.2 with h1 | ⟨b', o', e, h1⟩
 ·subst h1; simp at hl
 ·simp at e
  obtain ⟨rfl, rfl⟩ := e
  exact (lies_get _ _ _ h1 0 hl).1
theorem zip_len : ∀ {a b : List Tm}, a.length = b.length → (zipP a b).length = a.length
 | [], [], _ => rfl
 | [], _ :: _, h => by simp at h
 | _ :: _, [], h => by simp at h
 | t :: a, u :: b, h => by rw [zipP, List.length_cons, zip_len (by simpa using h), List.length_cons]
theorem zip_get : ∀ {a b : List Tm} (k : Nat) (h1 : k < a.length) (h2 : k < b.length) (h3 : k < (zipP a b).length), (zipP a b)[k] = ⟨a[k], b[k]⟩
 | [], _, k, h1, _, _ => by simp at h1
 | _ :: _, [], k, _, h2, _ => by simp at h2
 | t :: a, u :: b, 0, _, _, _ => rfl
 | t :: a, u :: b, k + 1, h1, h2, h3 => by
  simp only [zipP, List.getElem_cons_succ]
  exact zip_get k (by simpa using h1) (by simpa using h2) _
def SolT (S q N : Nat) (h : List (ByteArray × Tm)) (cs : List Ec) (w : World) : Prop :=
 ∃ (td : Value) (Y : Nat → Prop), SolE S q td h false Y w ∧ ERow w N (fun b => b < N ∧ b ≠ S ∧ b ≠ q) td cs ∧ (∀ b, Y b → some b ≠ td.ownBlock) ∧ S < N ∧ q < N ∧ N ≤ w.heap.size
def AhInv (S q N : Nat) (h : List (ByteArray × Tm)) (cs : List Ec) (Y : Nat → Prop) (td0 : Value) (w : World) (lA lB : List Tm) (a1 a2 : Option Addr) (i : Value) (wr : World) : Prop :=
 ∃ (k : Nat) (td : Value) (cs' : List Ec), k ≤ lA.length ∧ i = .int .i64 ((k : Int) - 1) ∧ SolE S q td h false Y wr ∧ ERow wr N (fun b => b < N ∧ b ≠ S ∧ b ≠ q) td cs' ∧ (∀ b, Y b → some b ≠ td.ownBlock) ∧ cs'.map ecP = cs.map ecP ++ ((zipP lA lB).drop k).reverse.map (fun p => (p, h.length)) ∧
  Sl wr (fun b => (b < N ∧ b ≠ S ∧ b ≠ q) ∨ (N ≤ b ∧ some b ≠ td.ownBlock)) a1 lA ∧ Sl wr (fun b => (b < N ∧ b ≠ S ∧ b ≠ q) ∨ (N ≤ b ∧ some b ≠ td.ownBlock)) a2 lB ∧ ExQ (fun b => b = S ∨ some b = td0.ownBlock) w wr ∧ N ≤ wr.heap.size ∧ ∀ k, td.ownBlock = some k → td0.ownBlock = some k ∨ w.heap.size ≤ k
theorem ah_step {S q N : Nat} {h : List (ByteArray × Tm)} {cs cs' : List Ec} {Y : Nat → Prop} {w wr w3 : World} {lA lB : List Tm} {a1 a2 : Option Addr} {k : Nat} {td td0 : Value} (hSN : S < N) (hqN : q < N) (hl : lA.length = lB.length) (hk : k < lA.length) (hE : SolE S q td h false Y wr) (hR : ERow wr N (fun b => b < N ∧ b ≠ S ∧ b ≠ q) td cs') (hY : ∀ b, Y b → some b ≠ td.ownBlock) (hC : cs'.map ecP = cs.map ecP ++ ((zipP lA lB).drop (k + 1)).reverse.map (fun p => (p, h.length)))
  (hs1 : Sl wr (fun b => (b < N ∧ b ≠ S ∧ b ≠ q) ∨ (N ≤ b ∧ some b ≠ td.ownBlock)) a1 lA) (hs2 : Sl wr (fun b => (b < N ∧ b ≠ S ∧ b ≠ q) ∨ (N ≤ b ∧ some b ≠ td.ownBlock)) a2 lB) (hx : ExQ (fun b => b = S ∨ some b = td0.ownBlock) w wr) (hN : N ≤ wr.heap.size) (hNw : N ≤ w.heap.size) (hob : ∀ k, td.ownBlock = some k → td0.ownBlock = some k ∨ w.heap.size ≤ k)
  {x1 x2 : Option Addr} {d1 d2 : Nat} (hx1 : Sl wr (fun b => (b < N ∧ b ≠ S ∧ b ≠ q) ∨ (N ≤ b ∧ some b ≠ td.ownBlock)) x1 (lA[k]'hk).args) (hx2 : Sl wr (fun b => (b < N ∧ b ≠ S ∧ b ≠ q) ∨ (N ≤ b ∧ some b ≠ td.ownBlock)) x2 (lB[k]'(by omega)).args) {o : Obj} {g cap : Nat}
  (hown : w3.ownsRow N 133 5 (.slice (some ⟨g, 0, none⟩) (cs'.length + 1) cap) (cs'.length + 1) (flat5 cs' ++ enc5 ((⟨lA[k]'hk, lB[k]'(by omega)⟩, (x1, d1), (x2, d2)), h.length))) (hg : (wr.drew.alloc o).grownBy w3 td.ownBlock) (hat : td.ownBlock = some g ∨ g = (wr.drew.alloc o).heap.size) :
  AhInv S q N h cs Y td0 w lA lB a1 a2 (.int .i64 ((k : Int) - 1)) (w3.setCell ⟨S, 0, none⟩ (.slice (some ⟨g, 0, none⟩) (cs'.length + 1) cap)) := by
 have hbd : Below wr.heap.size wr wr.drew := (Below.refl _ _).drew
 have hvY : ∀ b, (b < N ∧ b ≠ S ∧ b ≠ q) → some b ≠ td.ownBlock := fun b hb => hR.ne hb.1
 have hYl := hE.2.2.2.1
 have hgs := hg.size
 simp at hgs
 refine ⟨k, .slice (some ⟨g, 0, none⟩) (cs'.length + 1) cap, cs' ++ [((⟨lA[k]'hk, lB[k]'(by omega)⟩, (x1, d1), (x2, d2)), h.length)], by omega, rfl, sole_todo hE (fun b hb => ?_), ?_, fun b hb e => ?_, ?_, ?_, ?_, ?_, by simp [World.setCell]; omega, fun k2 hk2 => ?_⟩
 ·rw [hg.block b (by have := hYl b hb; simp; omega) (hY b hb), Below.heap_alloc _ _ _ (by have := hYl b hb; simpa using this)]
  rfl
 ·exact (hR.push2 (fun b hb => hb.1) hbd (x := ((⟨lA[k]'hk, lB[k]'(by omega)⟩, (x1, d1), (x2, d2)), h.length)) ⟨hx1.later hbd, hx2.later hbd⟩ o hown hg hat).setCell hSN (fun hb => hb.2.1 rfl) _
 ·have e2 : b = g := by simpa [Value.ownBlock] using e
  subst e2
  rcases hat with h1 | h1
  ·exact hY b hb h1.symm
  ·have := hYl b hb; simp at h1; omega
 ·have hzl : k < (zipP lA lB).length := by rw [zip_len hl]; exact hk
  rw [List.map_append, hC, List.drop_eq_getElem_cons hzl, List.reverse_cons, List.map_append, zip_get k hk (by omega) hzl]
  simp [ecP]
 ·exact (sl_push hvY hg hat (hs1.later hbd)).kept fun b hb => Below.heap_setCell _ _ _ _ (by
   simp
   rcases hb with hb | hb
   ·exact hb.2.1
   ·omega)
 ·exact (sl_push hvY hg hat (hs2.later hbd)).kept fun b hb => Below.heap_setCell _ _ _ _ (by
   simp
   rcases hb with hb | hb
   ·exact hb.2.1
   ·omega)
 ·refine ((((hx.drew).alloc o).grown hg (fun b hb => ?_)).set (Or.inl rfl) _ _)
  rcases hob b hb with h1 | h1
  ·exact Or.inr (Or.inr h1.symm)
  ·exact Or.inl h1
 ·have e : g = k2 := by simpa [Value.ownBlock] using hk2
  subst e
  rcases hat with h1 | h1
  ·exact hob g h1
  ·right
   have := hx.size
   simp at h1
   omega
def FvS (S q b1 b2 o1 o2 : Nat) (tA tB : Tm) (x1 x2 : Option Addr) (d1 d2 n : Nat) (w' : World) : Prop :=
 w'.cell? ⟨S, 1, none⟩ = some (.map (some q)) ∧ w'.cell? ⟨b1, o1, none⟩ = some (.string tA.name) ∧ w'.cell? ⟨b1, o1 + 1, none⟩ = some (.slice x1 tA.args.length d1) ∧ w'.cell? ⟨b2, o2, none⟩ = some (.string tB.name) ∧ w'.cell? ⟨b2, o2 + 1, none⟩ = some (.slice x2 tB.args.length d2) ∧ Sem.run Tryz.prog (Builtin.len_ #[125] 3 #[.map (some q)]) w' = .ok (.int .i64 (n : Int)) w'
def AhPost (S q N : Nat) (h : List (ByteArray × Tm)) (cs : List Ec) (lA lB : List Tm) (td0 : Value) (w : World) (e : Ending) (w' : World) : Prop :=
 e = .returned (.tuple #[]) ∧ ∃ cs', SolT S q N h cs' w' ∧ cs'.map ecP = cs.map ecP ++ (zipP lA lB).reverse.map (fun p => (p, h.length)) ∧ ExQ (fun b => b = S ∨ some b = td0.ownBlock) w w'
set_option maxHeartbeats 4000000 in
theorem ahead_any (S q N : Nat) (h : List (ByteArray × Tm)) (cs : List Ec) (lA lB : List Tm) (hl : lA.length = lB.length) (hsz : cs.length + lA.length ≤ 1000000000) (hh : h.length ≤ 1000000000) (a1 a2 : Option Addr) (c1 c2 : Nat) (w : World) (td : Value) (Y : Nat → Prop) (hE : SolE S q td h false Y w) (hR : ERow w N (fun b => b < N ∧ b ≠ S ∧ b ≠ q) td cs) (hY : ∀ b, Y b → some b ≠ td.ownBlock) (hSN : S < N) (hqN : q < N) (hNw : N ≤ w.heap.size)
  (hs1 : Sl w (fun b => (b < N ∧ b ≠ S ∧ b ≠ q) ∨ (N ≤ b ∧ some b ≠ td.ownBlock)) a1 lA) (hs2 : Sl w (fun b => (b < N ∧ b ≠ S ∧ b ≠ q) ∨ (N ≤ b ∧ some b ≠ td.ownBlock)) a2 lB) :
  Calls Tryz.prog 104 #[.pointer (some ⟨S, 0, none⟩), .slice a1 lA.length c1, .slice a2 lB.length c2] w fun e w' => AhPost S q N h cs lA lB td w e w' := by
 obtain ⟨i0, hi0, hz0, hz1, hz2⟩ := info_parts Tryz.infoEq
 have HE := hide hE
 have HR := hide hR
 have HY := hide hY
 have HS1 := hide hs1
 have HS2 := hide hs2
 have hl1 := hs1.1
 have hl2 := hs2.1
 have HL := hide hl
 have hle : Hid (lA.length ≤ 1000000000) := by unfold Hid; omega
 clear hE hR hY hs1 hs2
 rw [← hl]
 clear hl
 go_enter Tryz.func104, Tryz.ntmps104
 go_wp2_with fail
 go_loopw [6] (fun i wr => AhInv S q N h cs Y td w lA lB a1 a2 i wr) (fun i wr => ((intOf i) + 1).toNat)
 case atStart =>
  refine ⟨lA.length, td, cs, Nat.le_refl _, ?_, HE.out, HR.out, HY.out, ?_, HS1.out, HS2.out, ExQ.refl _ _, hNw, fun k hk => Or.inl hk⟩
  ·have := hle.out
   go_num
  ·rw [List.drop_eq_nil_of_le (by rw [zip_len HL.out]; exact Nat.le_refl _)]
   simp
 case round =>
  obtain ⟨k, td', cs', hk, rfl, hE', hR', hY', hC', hs1', hs2', hx', hN', hob'⟩ := hrel
  have HE' := hide hE'
  have HR' := hide hR'
  have HY' := hide hY'
  have HC' := hide hC'
  have HX' := hide hx'
  have HOB := hide hob'
  clear hob'
  have HS1' := hide hs1'
  have HS2' := hide hs2'
  have HLC : Hid (cs'.length ≤ 1000000000) := by
   have h1 := congrArg List.length hC'
   simp [zip_len HL.out] at h1
   unfold Hid
   omega
  cases k with
  | zero =>
   clear hE' hR' hY' hC' hx' hs1' hs2'
   go_wp2_with fail
   go_end0
   refine ⟨rfl, cs', ⟨td', Y, HE'.out, HR'.out, HY'.out, hSN, hqN, hN'⟩, ?_, HX'.out⟩
   have := HC'.out
   simpa using this
  | succ k =>
   have hkk : ((k + 1 : Nat) : Int) - 1 = k := by omega
   rw [hkk]
   obtain ⟨b1, o1, x1, d1, rfl, p0, p1, hx1⟩ := hs1'.get (Below.refl _ _) (fun _ _ h => h) k hk
   obtain ⟨b2, o2, x2, d2, rfl, r0, r1, hx2⟩ := hs2'.get (Below.refl _ _) (fun _ _ h => h) k (by have := HL.out; omega)
   obtain ⟨av, cv, ev, hsx1⟩ := hx1
   simp at ev
   obtain ⟨rfl, rfl⟩ := ev
   obtain ⟨av, cv, ev, hsx2⟩ := hx2
   simp at ev
   obtain ⟨rfl, rfl⟩ := ev
   obtain ⟨⟨L, hB, hM, hSt⟩, hYS, hYq, hYl, hg⟩ := hE'
   have HX1 := hide hsx1
   have HX2 := hide hsx2
   have HB := hide hB
   have s0 : wr.cell? ⟨S, 0, none⟩ = some td' := hB.cell 0
   have s0' : ∀ o, (wr.alloc o).cell? ⟨S, 0, none⟩ = some td' := fun o => (hB.alloc o).cell 0
   have s1 : wr.cell? ⟨S, 1, none⟩ = some (.map (some q)) := hB.cell 1
   have hlen : Sem.run Tryz.prog (Builtin.len_ #[125] 3 #[.map (some q)]) wr.drew = .ok (.int .i64 (h.length : Int)) wr.drew := by
    have h1 : MapAt wr.drew q L := hM.below ((Below.refl wr.heap.size wr).drew) hM.lt
    rw [run_len Tryz.underlying125 h1, hSt.1]
   have hkl : (k : Int) < (lA.length : Int) := by omega
   have hkB : k < lB.length := by have := HL.out; omega
   have HOWN := hide (HR'.out.below ((Below.refl wr.heap.size wr).drew)).own
   have HSNE : Hid (some S ≠ td'.ownBlock) := HR'.out.ne hSN
   have HML : Hid (MapAt wr q L ∧ L.length = h.length) := ⟨hM, hSt.1⟩
   have HQS : Hid (q ≠ S) := fun e => by
    obtain ⟨es, clk, h1, _⟩ := hM
    subst e
    unfold Blk at hB
    rw [h1] at hB; cases hB
   have HNQ : Hid (some q ≠ td'.ownBlock) := HR'.out.ne hqN
   have HB1S : Hid (b1 ≠ S) := by
    rcases HS1'.out.blk (by omega) with h1 | h1
    ·exact h1.2.1
    ·unfold Hid; omega
   have HB2S : Hid (b2 ≠ S) := by
    rcases HS2'.out.blk (by omega) with h1 | h1
    ·exact h1.2.1
    ·unfold Hid; omega
   have HNB1 : Hid (some b1 ≠ td'.ownBlock) := by
    rcases HS1'.out.blk (by omega) with h1 | h1
    ·exact HR'.out.ne h1.1
    ·exact h1.2
   have HNB2 : Hid (some b2 ≠ td'.ownBlock) := by
    rcases HS2'.out.blk (by omega) with h1 | h1
    ·exact HR'.out.ne h1.1
    ·exact h1.2
   clear hR' hY' hC' hx' hs1' hs2' hsx1 hsx2 hB hM hSt hg hYl
   have HST : Hid (∀ (g cap : Nat) (w3 : World), w3.ownsRow N 133 5 (.slice (some ⟨g, 0, none⟩) (cs'.length + 1) cap) (cs'.length + 1) (flat5 cs' ++ enc5 ((⟨lA[k], lB[k]⟩, (x1, d1), (x2, d2)), h.length)) → (wr.drew.alloc (.cells #[.string lA[k].name, .slice x1 lA[k].args.length d1, .string lB[k].name, .slice x2 lB[k].args.length d2, .int .i64 (h.length : Int)] 133)).grownBy w3 td'.ownBlock → (td'.ownBlock = some g ∨ g = (wr.drew.alloc (.cells #[.string lA[k].name, .slice x1 lA[k].args.length d1, .string lB[k].name, .slice x2 lB[k].args.length d2, .int .i64 (h.length : Int)] 133)).heap.size) → AhInv S q N h cs Y td w lA lB (some ⟨b1, o1, none⟩) (some ⟨b2, o2, none⟩) (.int .i64 ((k : Int) - 1)) (w3.setCell ⟨S, 0, none⟩ (.slice (some ⟨g, 0, none⟩) (cs'.length + 1) cap))) := fun g cap w3 h1 h2 h3 => ah_step hSN hqN HL.out hk HE'.out HR'.out HY'.out HC'.out HS1'.out HS2'.out HX'.out hN' hNw HOB.out HX1.out HX2.out h1 h2 h3
   unfold enc5 at HST
   generalize lA[k] = tA at *
   generalize lB[k] = tB at *
   generalize flat5 cs' = fl at *
   dsimp only at HST
   clear HX1 HX2 HE' HR' HY' HC' HX' HS1' HS2' HE HR HY HS1 HS2
   have hS0 : FvS S q b1 b2 (o1 + k * 2) (o2 + k * 2) tA tB x1 x2 d1 d2 h.length wr.drew := ⟨s1, p0, p1, r0, r1, hlen⟩
   have hqb : ∀ W : World, W.heap[q]? = wr.heap[q]? → Sem.run Tryz.prog (Builtin.len_ #[125] 3 #[.map (some q)]) W = .ok (.int .i64 (h.length : Int)) W := fun W hW => by
    rw [run_len Tryz.underlying125 (HML.out.1.kept hW), HML.out.2]
   have KP : Hid (∀ W : World, W.heap[S]? = wr.heap[S]? → W.heap[b1]? = wr.heap[b1]? → W.heap[b2]? = wr.heap[b2]? → W.heap[q]? = wr.heap[q]? → FvS S q b1 b2 (o1 + k * 2) (o2 + k * 2) tA tB x1 x2 d1 d2 h.length W) := fun W h1 h2 h3 h4 => ⟨by rw [World.cell?_of_block h1]; exact s1, by rw [World.cell?_of_block h2]; exact p0, by rw [World.cell?_of_block h2]; exact p1, by rw [World.cell?_of_block h3]; exact r0, by rw [World.cell?_of_block h3]; exact r1, hqb W h4⟩
   have hSl : S < wr.heap.size := HB.out.lt
   have hb1l : b1 < wr.heap.size := cell_lt p0
   have hb2l : b2 < wr.heap.size := cell_lt r0
   have hqll : q < wr.heap.size := HML.out.1.lt
   have HSA : Hid (∀ o, FvS S q b1 b2 (o1 + k * 2) (o2 + k * 2) tA tB x1 x2 d1 d2 h.length (wr.drew.alloc o)) := fun o => KP.out (wr.drew.alloc o) (Below.heap_alloc _ _ _ (by simpa using hSl)) (Below.heap_alloc _ _ _ (by simpa using hb1l)) (Below.heap_alloc _ _ _ (by simpa using hb2l)) (Below.heap_alloc _ _ _ (by simpa using hqll))
   have KG : Hid (∀ (o : Obj) (w3 : World), (wr.drew.alloc o).grownBy w3 td'.ownBlock → w3.heap[S]? = wr.heap[S]? ∧ w3.heap[b1]? = wr.heap[b1]? ∧ w3.heap[b2]? = wr.heap[b2]? ∧ w3.heap[q]? = wr.heap[q]?) := fun o w3 hg => ⟨(hg.block S (by simp; omega) HSNE.out).trans (Below.heap_alloc _ _ _ (by simpa using hSl)), (hg.block b1 (by simp; omega) HNB1.out).trans (Below.heap_alloc _ _ _ (by simpa using hb1l)), (hg.block b2 (by simp; omega) HNB2.out).trans (Below.heap_alloc _ _ _ (by simpa using hb2l)), (hg.block q (by simp; omega) HNQ.out).trans (Below.heap_alloc _ _ _ (by simpa using hqll))⟩
   have KS : Hid (∀ (w3 : World) (v : Value), (w3.heap[S]? = wr.heap[S]? ∧ w3.heap[b1]? = wr.heap[b1]? ∧ w3.heap[b2]? = wr.heap[b2]? ∧ w3.heap[q]? = wr.heap[q]?) → FvS S q b1 b2 (o1 + k * 2) (o2 + k * 2) tA tB x1 x2 d1 d2 h.length (w3.setCell ⟨S, 0, none⟩ v)) := fun w3 v hh => by
    obtain ⟨e1, e2, e3, e4, e5, e6⟩ := KP.out w3 hh.1 hh.2.1 hh.2.2.1 hh.2.2.2
    have hb1S : b1 ≠ S := fun e => by have h1 := HB1S.out; exact h1 e
    have hb2S : b2 ≠ S := fun e => by have h1 := HB2S.out; exact h1 e
    refine ⟨(World.cell?_setCell_other _ _ _ _ (by simp)).trans e1, (World.cell?_setCell_other _ _ _ _ (fun e => hb1S (by injection e with e; exact e.symm))).trans e2, (World.cell?_setCell_other _ _ _ _ (fun e => hb1S (by injection e with e; exact e.symm))).trans e3, (World.cell?_setCell_other _ _ _ _ (fun e => hb2S (by injection e with e; exact e.symm))).trans e4, (World.cell?_setCell_other _ _ _ _ (fun e => hb2S (by injection e with e; exact e.symm))).trans e5, hqb _ ?_⟩
    rw [Below.heap_setCell _ _ _ _ (by simpa using HQS.out)]
    exact hh.2.2.2
   clear p0 p1 r0 r1 s1 hlen hqb
   go_wp2_with fail
   refine wp_region_held_drew (S := FvS S q b1 b2 (o1 + k * 2) (o2 + k * 2) tA tB x1 x2 d1 d2 h.length) (by kernel_rfl) hS0 (fun hHeld => ?_)
   clear hS0
   refine tkq (v := ?_) 0 rfl ?_ ?_
   rotate_left
   ·intro w' hSw
    obtain ⟨k1, k2, k3, k4, k5, k6⟩ := hSw
    go_simp <;> with_reducible rfl
   try simp only [Act.put, sq]
   refine tkq (v := ?_) 1 rfl ?_ ?_
   rotate_left
   ·intro w' hSw
    obtain ⟨k1, k2, k3, k4, k5, k6⟩ := hSw
    go_simp <;> with_reducible rfl
   try simp only [Act.put, sq]
   refine tkq (v := ?_) 2 rfl ?_ ?_
   rotate_left
   ·intro w' hSw
    obtain ⟨k1, k2, k3, k4, k5, k6⟩ := hSw
    go_simp <;> with_reducible rfl
   try simp only [Act.put, sq]
   refine tkq (v := ?_) 3 rfl ?_ ?_
   rotate_left
   ·intro w' hSw
    obtain ⟨k1, k2, k3, k4, k5, k6⟩ := hSw
    go_simp <;> with_reducible rfl
   try simp only [Act.put, sq]
   refine tkq (v := ?_) 5 rfl ?_ ?_
   rotate_left
   ·intro w' hSw
    obtain ⟨k1, k2, k3, k4, k5, k6⟩ := hSw
    go_simp <;> with_reducible rfl
   try simp only [Act.put, sq]
   refine tkq (v := ?_) 6 rfl ?_ ?_
   rotate_left
   ·intro w' hSw
    obtain ⟨k1, k2, k3, k4, k5, k6⟩ := hSw
    go_simp <;> with_reducible rfl
   try simp only [Act.put, sq]
   refine tkq (v := ?_) 7 rfl ?_ ?_
   rotate_left
   ·intro w' hSw
    obtain ⟨k1, k2, k3, k4, k5, k6⟩ := hSw
    go_simp <;> with_reducible rfl
   try simp only [Act.put, sq]
   refine tkq (v := ?_) 8 rfl ?_ ?_
   rotate_left
   ·intro w' hSw
    obtain ⟨k1, k2, k3, k4, k5, k6⟩ := hSw
    go_simp <;> with_reducible rfl
   try simp only [Act.put, sq]
   refine tkq (v := ?_) 9 rfl ?_ ?_
   rotate_left
   ·intro w' hSw
    obtain ⟨k1, k2, k3, k4, k5, k6⟩ := hSw
    go_simp <;> with_reducible rfl
   try simp only [Act.put, sq]
   refine tkq (v := ?_) 10 rfl ?_ ?_
   rotate_left
   ·intro w' hSw
    obtain ⟨k1, k2, k3, k4, k5, k6⟩ := hSw
    go_simp <;> with_reducible rfl
   try simp only [Act.put, sq]
   refine tkq (v := ?_) 11 rfl ?_ ?_
   rotate_left
   ·intro w' hSw
    obtain ⟨k1, k2, k3, k4, k5, k6⟩ := hSw
    go_simp <;> with_reducible rfl
   try simp only [Act.put, sq]
   refine tkq (v := ?_) 12 rfl ?_ ?_
   rotate_left
   ·intro w' hSw
    obtain ⟨k1, k2, k3, k4, k5, k6⟩ := hSw
    go_simp <;> with_reducible rfl
   try simp only [Act.put, sq]
   refine tkq (v := ?_) 13 rfl ?_ ?_
   rotate_left
   ·intro w' hSw
    obtain ⟨k1, k2, k3, k4, k5, k6⟩ := hSw
    go_simp <;> with_reducible rfl
   try simp only [Act.put, sq]
   refine tkq (v := ?_) 14 rfl ?_ ?_
   rotate_left
   ·intro w' hSw
    obtain ⟨k1, k2, k3, k4, k5, k6⟩ := hSw
    go_simp <;> with_reducible rfl
   try simp only [Act.put, sq]
   refine tkq (v := ?_) 15 rfl ?_ ?_
   rotate_left
   ·intro w' hSw
    obtain ⟨k1, k2, k3, k4, k5, k6⟩ := hSw
    go_simp <;> with_reducible rfl
   try simp only [Act.put, sq]
   refine tkq (v := ?_) 16 rfl ?_ ?_
   rotate_left
   ·intro w' hSw
    obtain ⟨k1, k2, k3, k4, k5, k6⟩ := hSw
    go_simp <;> with_reducible rfl
   try simp only [Act.put, sq]
   refine tkq (v := ?_) 17 rfl ?_ ?_
   rotate_left
   ·intro w' hSw
    obtain ⟨k1, k2, k3, k4, k5, k6⟩ := hSw
    go_simp <;> with_reducible rfl
   try simp only [Act.put, sq]
   refine tkq (v := ?_) 18 rfl ?_ ?_
   rotate_left
   ·intro w' hSw
    obtain ⟨k1, k2, k3, k4, k5, k6⟩ := hSw
    go_simp <;> with_reducible rfl
   try simp only [Act.put, sq]
   refine wpAnyH_ready (rs := [4, 19]) (by kernel_rfl) (by simp) ?_
   refine AllReadyH.cons rfl (fun K hK => ?_) (AllReadyH.cons rfl (fun K hK => ?_) AllReadyH.nil)
   ·go_simp
    refine hK.out _ _ (by exact hHeld) (fun hHeld => ?_)
    clear hK K
    try simp only [Act.put, sq]
    refine rdq 19 rfl fun K hK => ?_
    go_simp
    refine hK.out _ _ (by exact HSA.out _) (fun hHeld => ?_)
    clear hK K
    try simp only [Act.put, sq]
    refine rdq 20 rfl fun K hK => ?_
    refine step_append_lies _ rfl _ _ 126 rfl N 133 i0 _ 5 88 Tryz.underlying126 hi0 hz0 hz1 hz2 rfl (by decide) td' cs'.length fl rfl (by exact HOWN.out.alloc _) ⟨wr.heap.size, 0, none⟩ 1 1 [.string tA.name, .slice x1 tA.args.length d1, .string tB.name, .slice x2 tB.args.length d2, .int .i64 (h.length : Int)] rfl rfl (by exact cell_five_new _ _ _ _ _ _ _) (fun x hx => by simp at hx; rcases hx with rfl | rfl | rfl | rfl | rfl <;> rfl) (by decide) (by have := HLC.out; unfold maxLen; omega) (by have := HLC.out; omega) (by simp; omega) _ rfl ?_
    intro g cap w3 hown3 hgrow3 hat3 hlt3
    have hB3 := hide (((HB.out.drewN 1).alloc _).grown hgrow3 HSNE.out)
    have hc5 : w3.cell? ⟨S, 0, none⟩ = some td' := hB3.out.cell 0
    have hf5 := hB3.out.frozen 0
    have HS9 := hide (HST.out g cap w3 hown3 hgrow3 hat3)
    have HK3 := hide (KG.out _ _ hgrow3)
    refine hK.out _ _ (by exact KP.out w3 HK3.out.1 HK3.out.2.1 HK3.out.2.2.1 HK3.out.2.2.2) (fun hHeld => ?_)
    clear hown3 hgrow3 hat3 hB3 hlt3
    clear hK K
    try simp only [Act.put, sq]
    refine tkq (v := ?_) 21 rfl ?_ ?_
    rotate_left
    ·intro w' hSw
     obtain ⟨k1, k2, k3, k4, k5, k6⟩ := hSw
     go_simp <;> with_reducible rfl
    try simp only [Act.put, sq]
    refine tkq (v := ?_) 22 rfl ?_ ?_
    rotate_left
    ·intro w' hSw
     obtain ⟨k1, k2, k3, k4, k5, k6⟩ := hSw
     go_simp <;> with_reducible rfl
    try simp only [Act.put, sq]
    refine rdq 23 rfl fun K hK => ?_
    go_simp
    refine hK.out _ _ (by exact KS.out w3 _ HK3.out) (fun hHeld => ?_)
    clear hK K
    try simp only [Act.put, sq]
    refine wpAnyH_done (by kernel_rfl) ?_ _
    clear hHeld hc5 hf5
    go_wp2_with fail
    go_roundw
    case rel => exact HS9.out
    case measure => simp [intOf]
   ·go_simp
    refine hK.out _ _ (by exact HSA.out _) (fun hHeld => ?_)
    clear hK K
    try simp only [Act.put, sq]
    refine rdq 4 rfl fun K hK => ?_
    go_simp
    refine hK.out _ _ (by exact HSA.out _) (fun hHeld => ?_)
    clear hK K
    try simp only [Act.put, sq]
    refine rdq 20 rfl fun K hK => ?_
    refine step_append_lies _ rfl _ _ 126 rfl N 133 i0 _ 5 88 Tryz.underlying126 hi0 hz0 hz1 hz2 rfl (by decide) td' cs'.length fl rfl (by exact HOWN.out.alloc _) ⟨wr.heap.size, 0, none⟩ 1 1 [.string tA.name, .slice x1 tA.args.length d1, .string tB.name, .slice x2 tB.args.length d2, .int .i64 (h.length : Int)] rfl rfl (by exact cell_five_new _ _ _ _ _ _ _) (fun x hx => by simp at hx; rcases hx with rfl | rfl | rfl | rfl | rfl <;> rfl) (by decide) (by have := HLC.out; unfold maxLen; omega) (by have := HLC.out; omega) (by simp; omega) _ rfl ?_
    intro g cap w3 hown3 hgrow3 hat3 hlt3
    have hB3 := hide (((HB.out.drewN 1).alloc _).grown hgrow3 HSNE.out)
    have hc5 : w3.cell? ⟨S, 0, none⟩ = some td' := hB3.out.cell 0
    have hf5 := hB3.out.frozen 0
    have HS9 := hide (HST.out g cap w3 hown3 hgrow3 hat3)
    have HK3 := hide (KG.out _ _ hgrow3)
    refine hK.out _ _ (by exact KP.out w3 HK3.out.1 HK3.out.2.1 HK3.out.2.2.1 HK3.out.2.2.2) (fun hHeld => ?_)
    clear hown3 hgrow3 hat3 hB3 hlt3
    clear hK K
    try simp only [Act.put, sq]
    refine tkq (v := ?_) 21 rfl ?_ ?_
    rotate_left
    ·intro w' hSw
     obtain ⟨k1, k2, k3, k4, k5, k6⟩ := hSw
     go_simp <;> with_reducible rfl
    try simp only [Act.put, sq]
    refine tkq (v := ?_) 22 rfl ?_ ?_
    rotate_left
    ·intro w' hSw
     obtain ⟨k1, k2, k3, k4, k5, k6⟩ := hSw
     go_simp <;> with_reducible rfl
    try simp only [Act.put, sq]
    refine rdq 23 rfl fun K hK => ?_
    go_simp
    refine hK.out _ _ (by exact KS.out w3 _ HK3.out) (fun hHeld => ?_)
    clear hK K
    try simp only [Act.put, sq]
    refine wpAnyH_done (by kernel_rfl) ?_ _
    clear hHeld hc5 hf5
    go_wp2_with fail
    go_roundw
    case rel => exact HS9.out
    case measure => simp [intOf]
end Go.Proofs.YtbnmlkaejdpigaaGreatDoor
