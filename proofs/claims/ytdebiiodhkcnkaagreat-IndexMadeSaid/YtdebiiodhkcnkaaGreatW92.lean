import Derived.Test.YtdebiiodhkcnkaaGreatZIndexMadeOwn
import Derived.Test.YtdebiiodhkcnkaaGreatW50
import Derived.Test.YtdebiiodhkcnkaaGreatW82
import Derived.Test.YtdebiiodhkcnkaaGreatW85
namespace Go.Proofs.YtdebiiodhkcnkaaGreat
open Go.RowKit
set_option linter.unusedSimpArgs false
set_option linter.unusedVariables false
set_option maxRecDepth 8000
def MtPost (w : World) (N : Nat) (Y : Nat → Prop) (hv : Value) (r : Option (List Bd)) (e : Ending) (w' : World) : Prop :=
 w.grownBy w' hv.ownBlock ∧ ((r = none ∧ ∃ v, e = .returned (.tuple #[v, .bool false])) ∨
  ∃ (h' : List Bd) (v : Value) (cs' : List Bc), r = some h' ∧ e = .returned (.tuple #[v, .bool true]) ∧ cs'.map (·.1) = h' ∧ BRow w' N Y v cs' ∧ (∀ k, v.ownBlock = some k → hv.ownBlock = some k ∨ w.heap.size ≤ k))
theorem grown_alloc2 (w : World) (o o' : Obj) (row : Option Nat) : w.grownBy ((w.alloc o).alloc o') row := (World.grownBy_alloc w o row).andThen (World.grownBy_alloc (w.alloc o) o' none) (by simp)
theorem grown_below {w w' w'' : World} {row : Option Nat} (h : w.grownBy w' row) (hb : Below w'.heap.size w' w'') : w.grownBy w'' row :=
 h.andThen (row' := none) ⟨hb.os, hb.tape, hb.output, hb.size, fun j hj _ => hb.block j hj⟩ (by simp)
theorem binds_append2 {w : World} {N : Nat} {Y : Nat → Prop} {v : Value} {cs : List Bc} (h : BRow w N Y v cs) (hN : N ≤ w.heap.size) (hY : ∀ b, Y b → b < N) (x : Bc) (ht : Sl w (fun b => Y b ∨ w.heap.size ≤ b) x.2.1 x.1.t.args) (hn : cs.length ≤ 1000000) (A : Nat) (hA : w.heap.size = A) :
  ∃ v2 w3, (Builtin.append_ #[39, 39] 39 #[v, .slice (some ⟨A, 0, none⟩) 1 1]).run Tryz.prog (w.alloc (.cells #[.string x.1.nm, .string x.1.t.name, .slice x.2.1 x.1.t.args.length x.2.2] 82)) = .ok v2 w3 ∧ BRow w3 N Y v2 (cs ++ [x]) ∧ w.grownBy w3 v.ownBlock ∧ ∀ k, v2.ownBlock = some k → v.ownBlock = some k ∨ w.heap.size ≤ k := by
 subst hA
 obtain ⟨i0, hi, hz0, hz1, hz2⟩ := info_parts Tryz.infoBind
 have hb := Below.refl w.heap.size w
 obtain ⟨g, cap, w3, hr, ho, hg, hat, hlt⟩ := run_append_lies (P := Tryz.prog) (w := w.alloc (.cells #[.string x.1.nm, .string x.1.t.name, .slice x.2.1 x.1.t.args.length x.2.2] 82)) 39 39 N 82 i0 _ 3 56 Tryz.underlying39 hi hz0 hz1 hz2 rfl (by decide) v cs.length (flat3 cs) (h.own.alloc _)
  ⟨w.heap.size, 0, none⟩ 1 1 (enc3 x) rfl (cell_three_new _ _ _ _ _) (fun y hy => by simp [enc3] at hy; rcases hy with rfl | rfl | rfl <;> rfl) (by decide) (by unfold maxLen; omega) (by omega) (by simp; omega) _ rfl
 refine ⟨_, w3, hr, h.push hN hY hb ht _ rfl ho hg hat, (World.grownBy_alloc w _ _).andThen hg (fun j hj => Or.inr hj), fun k hk => ?_⟩
 have e : g = k := by simpa [Value.ownBlock] using hk
 rcases hat with h1 | h1
 ·exact Or.inl (by rw [h1, e])
 ·right; simp at h1; omega
def MlInv (w2 : World) (N : Nat) (Y : Nat → Prop) (hv : Value) (l m : List Tm) (h : List Bd) (v i : Value) (wr : World) : Prop :=
 ∃ (k : Nat) (cs' : List Bc), k ≤ l.length ∧ i = .int .i64 (k : Int) ∧ mtL (l.take k) (m.take k) h = some (cs'.map (·.1)) ∧ BRow wr N Y v cs' ∧ w2.grownBy wr hv.ownBlock ∧ (∀ j, v.ownBlock = some j → hv.ownBlock = some j ∨ w2.heap.size ≤ j)
set_option maxHeartbeats 400000 in
theorem matched_any (p : Tm) : ∀ (t : Tm) (cs : List Bc) (pv tv hv : Value) (w : World) (N : Nat) (Y : Nat → Prop), TV w Y pv p → TV w Y tv t → BRow w N Y hv cs → N ≤ w.heap.size → (∀ b, Y b → b < N) → cs.length + sizeL [p] ≤ 1000000 → ApartB (cs.map (·.1)) →
  Calls Tryz.prog 37 #[pv, tv, hv] w fun e w' => MtPost w N Y hv (mtT p t (cs.map (·.1))) e w' := by
 induction p using Tm.ind with
 | h s l ih =>
  intro t cs pv tv hv w N Y hp ht hrow hN hY hsz hap
  obtain ⟨s2, m⟩ := t
  obtain ⟨a, c, rfl, hs⟩ := hp
  obtain ⟨a2, c2, rfl, hs2⟩ := ht
  have IH := hide ih
  have HS := hide hs
  have HS2 := hide hs2
  have HROW := hide hrow
  have HY := hide hY
  have HAP := hide hap
  have hlt := hrow.own.lt
  have hl := hs.1
  have hl2 := hs2.1
  clear ih hs hs2 hrow hY hap
  dsimp only
  have HG2 := hide (grown_alloc2 w (.cells #[.string s, .slice a l.length c] 26) (.cells #[.string s2, .slice a2 m.length c2] 26) hv.ownBlock)
  have HB2 : Hid (Below w.heap.size w ((w.alloc (.cells #[.string s, .slice a l.length c] 26)).alloc (.cells #[.string s2, .slice a2 m.length c2] 26))) := below2 _ _
  have PA := hide ((Blk.new w #[.string s, .slice a l.length c] 26).alloc (.cells #[.string s2, .slice a2 m.length c2] 26))
  have PB : Hid (Blk ((w.alloc (.cells #[.string s, .slice a l.length c] 26)).alloc (.cells #[.string s2, .slice a2 m.length c2] 26)) (w.heap.size + 1) #[.string s2, .slice a2 m.length c2] 26) := by
   have h := Blk.new (w.alloc (.cells #[.string s, .slice a l.length c] 26)) #[.string s2, .slice a2 m.length c2] 26
   unfold Hid
   simpa using h
  have hz2 : ((w.alloc (.cells #[.string s, .slice a l.length c] 26)).alloc (.cells #[.string s2, .slice a2 m.length c2] 26)).heap.size = w.heap.size + 2 := by simp
  cases hvb : varB s with
  | true =>
   have HVB := hide hvb
   clear hvb
   go_enter Tryz.func37, Tryz.ntmps37
   go_wp2_with (go_at_call 36; refine (isVarR_any _ _).mono ?_; rintro e w' ⟨rfl, rfl⟩; rw [HVB.out])
   have HGW : Hid (∀ o o', w.grownBy ((w.alloc o).alloc o') hv.ownBlock) := fun o o' => grown_alloc2 w o o' _
   clear HGW
   generalize (w.alloc (.cells #[.string s, .slice a l.length c] 26)).alloc (.cells #[.string s2, .slice a2 m.length c2] 26) = w2 at *
   refine (for_any (cs.map (·.1)) s hv w2 _ (HROW.out.below HB2.out).bv).mono ?_
   rintro e w3 ⟨hb3, hc3⟩
   have HB3 := hide (HB2.out.trans (hb3.mono HB2.out.size))
   have HG3 := hide (grown_below HG2.out hb3)
   have HROW3 := hide (HROW.out.below HB3.out)
   have PA3 := hide (PA.out.below hb3 PA.out.lt)
   have PB3 := hide (PB.out.below hb3 PB.out.lt)
   have hz3 := hb3.size
   clear hb3
   rcases hc3 with ⟨x, ax, cx, hf, rfl, hsx⟩ | ⟨hf, rfl⟩
   ·have HSX := hide hsx
    have HR := hide (mtT_old (l := l) (t := ⟨s2, m⟩) HVB.out hf)
    clear hf hsx
    have b0 : ∀ o, (w3.alloc o).cell? ⟨w.heap.size + 1, 0, none⟩ = some (.string s2) := fun o => (PB3.out.alloc o).cell 0
    have b1 : ∀ o, (w3.alloc o).cell? ⟨w.heap.size + 1, 1, none⟩ = some (.slice a2 m.length c2) := fun o => (PB3.out.alloc o).cell 1
    go_wp2_with fail
    have HB4 := hide (HB3.out.alloc HB3.out.size (.cells #[.string x.name, .slice ax x.args.length cx] 26))
    have HG4 := hide (grown_below HG3.out ((Below.refl _ _).alloc (Nat.le_refl _) (.cells #[.string x.name, .slice ax x.args.length cx] 26)))
    have HSX4 := hide (HSX.out.later ((Below.refl _ _).alloc (Nat.le_refl _) (.cells #[.string x.name, .slice ax x.args.length cx] 26)))
    generalize w3.alloc (.cells #[.string x.name, .slice ax x.args.length cx] 26) = w4 at *
    refine (sameR_all x ⟨s2, m⟩ _ _ w4 _ _ ⟨ax, cx, rfl, HSX4.out⟩ ⟨a2, c2, rfl, HS2.out.later HB4.out⟩).mono ?_
    rintro e w5 ⟨rfl, hb5⟩
    have HG5 := hide (grown_below HG4.out hb5)
    have HROW5 := hide (HROW.out.below (HB4.out.trans (hb5.mono HB4.out.size)))
    clear hb5 b0 b1
    go_wp2_with fail
    refine bodyPost_ret (v := .tuple #[hv, .bool (sameB x ⟨s2, m⟩)]) (by simp [results, Tryz.results37, go_sem]) rfl ?_
    rw [HR.out]
    refine ⟨HG5.out, ?_⟩
    cases hsm : sameB x ⟨s2, m⟩ with
    | true => exact Or.inr ⟨_, hv, cs, by rw [if_pos rfl], rfl, rfl, HROW5.out, fun k hk => Or.inl hk⟩
    | false => exact Or.inl ⟨by rw [if_neg (by simp)], hv, rfl⟩
   ·have HR := hide (mtT_new (l := l) (t := ⟨s2, m⟩) HVB.out hf)
    clear hf
    have hbA : Below w3.heap.size w3 (w3.alloc (.cells #[.string ⟨#[]⟩, .slice none 0 0] 26)) := (Below.refl _ _).alloc (Nat.le_refl _) _
    have HB4 := hide (HB3.out.trans (hbA.mono HB3.out.size))
    have HG4 := hide (grown_below HG3.out hbA)
    have HROW4 := hide (HROW3.out.below hbA)
    have a0 : (w3.alloc (.cells #[.string ⟨#[]⟩, .slice none 0 0] 26)).cell? ⟨w.heap.size, 0, none⟩ = some (.string s) := (PA3.out.below hbA PA3.out.lt).cell 0
    have b0 : (w3.alloc (.cells #[.string ⟨#[]⟩, .slice none 0 0] 26)).cell? ⟨w.heap.size + 1, 0, none⟩ = some (.string s2) := (PB3.out.below hbA PB3.out.lt).cell 0
    have b1 : (w3.alloc (.cells #[.string ⟨#[]⟩, .slice none 0 0] 26)).cell? ⟨w.heap.size + 1, 1, none⟩ = some (.slice a2 m.length c2) := (PB3.out.below hbA PB3.out.lt).cell 1
    have a0' := fun o => (PA3.out.alloc o).cell 0
    clear hbA
    have hz4 : w3.heap.size ≤ (w3.alloc (.cells #[.string ⟨#[]⟩, .slice none 0 0] 26)).heap.size := by simp
    have hsz' : cs.length ≤ 1000000 := by omega
    obtain ⟨v5, w5, hrun, hB5, hg5, hob⟩ := binds_append2 HROW4.out (by omega) HY.out (⟨s, ⟨s2, m⟩⟩, a2, c2) ((HS2.out.later HB4.out).mono fun b h _ => Or.inl h) hsz' (w3.heap.size + 1) (by simp)
    have HRUN := hide hrun
    have HB5 := hide hB5
    have HG5 : Hid (w.grownBy w5 hv.ownBlock) := HG4.out.andThen hg5 (fun j hj => Or.inr hj)
    have HOB : Hid (∀ k, v5.ownBlock = some k → hv.ownBlock = some k ∨ w.heap.size ≤ k) := fun k hk => (hob k hk).imp id (fun h => Nat.le_trans HG4.out.size h)
    clear hrun hB5 hg5 hob a0'
    go_wp2_with (at_builtin; refine wpList_append_eq rfl _ _ _ _ rfl rfl rfl HRUN.out ?_)
    refine bodyPost_ret (v := .tuple #[v5, .bool true]) (by simp [results, Tryz.results37, go_sem]) rfl ?_
    rw [HR.out]
    exact ⟨HG5.out, Or.inr ⟨_, v5, _, rfl, rfl, by simp, HB5.out, HOB.out⟩⟩
  | false =>
   have HVB := hide hvb
   clear hvb
   cases hn : (s.toList == s2.toList) with
   | false =>
    have HR := hide (mtT_off (h := cs.map (·.1)) HVB.out (show ((s.toList == s2.toList) && (l.length == m.length)) = false by rw [hn]; rfl))
    go_enter Tryz.func37, Tryz.ntmps37
    go_wp2_with (go_at_call 36; refine (isVarR_any _ _).mono ?_; rintro e w' ⟨rfl, rfl⟩; rw [HVB.out])
    refine bodyPost_ret (v := .tuple #[.slice none 0 0, .bool false]) (by simp [results, Tryz.results37, go_sem]) rfl ?_
    rw [HR.out]
    exact ⟨HG2.out, Or.inl ⟨rfl, _, rfl⟩⟩
   | true =>
    by_cases hm : l.length = m.length
    case neg =>
     have HR := hide (mtT_off (h := cs.map (·.1)) HVB.out (show ((s.toList == s2.toList) && (l.length == m.length)) = false by rw [hn]; simpa using hm))
     have hm2 : ((l.length : Int) == (m.length : Int)) = false := beq_eq_false_iff_ne.2 (by omega)
     clear hm
     go_enter Tryz.func37, Tryz.ntmps37
     go_wp2_with (go_at_call 36; refine (isVarR_any _ _).mono ?_; rintro e w' ⟨rfl, rfl⟩; rw [HVB.out])
     refine bodyPost_ret (v := .tuple #[.slice none 0 0, .bool false]) (by simp [results, Tryz.results37, go_sem]) rfl ?_
     rw [HR.out]
     exact ⟨HG2.out, Or.inl ⟨rfl, _, rfl⟩⟩
    case pos =>
     have HR := hide (mtT_deep (h := cs.map (·.1)) HVB.out hn hm)
     have HM := hide hm
     rw [← hm] at HG2 HB2 PA PB hz2 hl2 ⊢
     clear hm
     go_enter Tryz.func37, Tryz.ntmps37
     go_wp2_with (go_at_call 36; refine (isVarR_any _ _).mono ?_; rintro e w' ⟨rfl, rfl⟩; rw [HVB.out])
     generalize (w.alloc (.cells #[.string s, .slice a l.length c] 26)).alloc (.cells #[.string s2, .slice a2 l.length c2] 26) = w2 at *
     go_loopw [2, 10] (fun v i wr => MlInv w2 N Y hv l m (cs.map (·.1)) v i wr) (fun v i wr => l.length - (intOf i).toNat)
     case atStart => exact ⟨0, cs, Nat.zero_le _, rfl, by simp [mtL], HROW.out.below HB2.out, ⟨rfl, rfl, rfl, Nat.le_refl _, fun _ _ _ => rfl⟩, fun j hj => Or.inl hj⟩
     case round =>
      obtain ⟨k, cs', hk, rfl, hT, hrow, hg, hob⟩ := hrel
      have HT := hide hT
      have HROWK := hide hrow
      have HGK := hide hg
      have HOB := hide hob
      have hne : ∀ b, b < w.heap.size + 2 → (b < N ∨ w.heap.size ≤ b) → some b ≠ hv.ownBlock := fun b _ h e => by
       have h1 := hlt b e.symm
       rcases h with h | h
       ·omega
       ·omega
      have hwr : w.heap.size + 2 ≤ wr.heap.size := by have := hg.size; omega
      have PAK : Hid (Blk wr w.heap.size #[.string s, .slice a l.length c] 26) := (hg.block w.heap.size (by omega) (hne _ (by omega) (Or.inr (Nat.le_refl _)))).trans PA.out
      have PBK : Hid (Blk wr (w.heap.size + 1) #[.string s2, .slice a2 l.length c2] 26) := (hg.block (w.heap.size + 1) (by omega) (hne _ (by omega) (Or.inr (by omega)))).trans PB.out
      have HSK : Hid (Sl wr Y a l) := (HS.out.later HB2.out).kept fun b hb => by
       have h1 := HY.out b hb
       exact hg.block b (by omega) (hne _ (by omega) (Or.inl h1))
      have HSK2 : Hid (Sl wr Y a2 m) := (HS2.out.later HB2.out).kept fun b hb => by
       have h1 := HY.out b hb
       exact hg.block b (by omega) (hne _ (by omega) (Or.inl h1))
      have a1 := PAK.out.c1
      clear hT hrow hg hob
      by_cases hlt' : k < l.length
      ·have hltm : k < m.length := by have := HM.out; omega
       obtain ⟨b, o, a', c', rfl, d0, d1, hx⟩ := HSK.out.get (Below.refl _ _) (fun _ _ h => h) k hlt'
       obtain ⟨b2, o2, a2', c2', rfl, e0, e1, hx2⟩ := HSK2.out.get (Below.refl _ _) (fun _ _ h => h) k hltm
       have HX := hide hx
       have HX2 := hide hx2
       have b1 : wr.cell? ⟨w.heap.size + 1, 1, none⟩ = some (.slice (some ⟨b2, o2, none⟩) l.length c2) := PBK.out.cell 1
       have HS0 := hide (And.intro a1 (And.intro b1 (And.intro d0 (And.intro d1 (And.intro e0 e1)))))
       have hbN : b < N := by
        obtain ⟨_, h1⟩ := HSK.out
        rcases h1 with h1 | ⟨b', o', e', h1⟩
        ·rw [h1] at hlt'; simp at hlt'
        ·cases e'; exact HY.out _ (lies_get _ _ _ h1 k hlt').1
       have hb2N : b2 < N := by
        obtain ⟨_, h1⟩ := HSK2.out
        rcases h1 with h1 | ⟨b', o', e', h1⟩
        ·rw [h1] at hltm; simp at hltm
        ·cases e'; exact HY.out _ (lies_get _ _ _ h1 k hltm).1
       have hob1 : ∀ j, (j < N ∨ (w.heap.size ≤ j ∧ j < w.heap.size + 2)) → some j ≠ u2.ownBlock := fun j hj e => by
        have h1 := HROWK.out.own.lt j e.symm
        rcases hj with hj | hj
        ·omega
        ·rcases HOB.out j e.symm with h2 | h2
         ·have := (hlt j h2).2; omega
         ·omega
       have hAL := mtL_apart _ _ _ _ HT.out HAP.out
       have hsk : cs'.length + sizeL [l[k]] ≤ 1000000 := by
        have h1 := hAL.2
        have h2 := sizeL_take l k hlt'
        have h3 := sizeL_take_le l (k + 1)
        have h4 : sizeL [(⟨s, l⟩ : Tm)] = 1 + sizeL l := by simp [sizeL]
        rw [h4] at hsz
        simp at h1
        omega
       have IHK := hide (IH.out l[k] (List.getElem_mem hlt') m[k] cs' (.agg #[.string l[k].name, .slice a' l[k].args.length c']) (.agg #[.string m[k].name, .slice a2' m[k].args.length c2']) u2 wr.drew N Y (by exact HX.out.later (below_drewN (Below.refl _ _) 1)) (by exact HX2.out.later (below_drewN (Below.refl _ _) 1)) (by exact HROWK.out.below (below_drewN (Below.refl _ _) 1)) (by simp; omega) HY.out hsk hAL.1)
       have SIX : Hid (∀ w1, wr.drew.grownBy w1 u2.ownBlock → w1.cell? ⟨w.heap.size, 1, none⟩ = some (.slice (some ⟨b, o, none⟩) l.length c) ∧ w1.cell? ⟨w.heap.size + 1, 1, none⟩ = some (.slice (some ⟨b2, o2, none⟩) l.length c2) ∧ w1.cell? ⟨b, o + k * 2, none⟩ = some (.string l[k].name) ∧ w1.cell? ⟨b, o + k * 2 + 1, none⟩ = some (.slice a' l[k].args.length c') ∧ w1.cell? ⟨b2, o2 + k * 2, none⟩ = some (.string m[k].name) ∧ w1.cell? ⟨b2, o2 + k * 2 + 1, none⟩ = some (.slice a2' m[k].args.length c2')) := fun w1 hg1 => by
        have kp : ∀ b o, (b < N ∨ (w.heap.size ≤ b ∧ b < w.heap.size + 2)) → w1.cell? ⟨b, o, none⟩ = wr.cell? ⟨b, o, none⟩ := fun b o hb => hg1.cell_far ⟨b, o, none⟩ (by simp; omega) (by simpa using hob1 b hb)
        exact ⟨(kp _ _ (Or.inr (by omega))).trans HS0.out.1, (kp _ _ (Or.inr (by omega))).trans HS0.out.2.1, (kp _ _ (Or.inl hbN)).trans HS0.out.2.2.1, (kp _ _ (Or.inl hbN)).trans HS0.out.2.2.2.1, (kp _ _ (Or.inl hb2N)).trans HS0.out.2.2.2.2.1, (kp _ _ (Or.inl hb2N)).trans HS0.out.2.2.2.2.2⟩
       have HNO := hide (fun h0 => mtL_no hlt' HM.out HT.out h0)
       have HNX := hide (fun h'' (h0 : mtT l[k] m[k] (cs'.map (·.1)) = some h'') => mtL_next hlt' hltm HT.out h0)
       have HGO : Hid (∀ w1, wr.drew.grownBy w1 u2.ownBlock → w2.grownBy w1 hv.ownBlock) := fun w1 hg1 => (grown_below HGK.out (below_drewN (Below.refl _ _) 1)).andThen hg1 (fun j hj => (HOB.out j hj).symm)
       have HW2 : Hid (w.grownBy w2 hv.ownBlock) := HG2.out
       clear hx hx2 hAL hsk hob1
       generalize l[k] = y at *
       generalize m[k] = z at *
       go_wp2_with fail
       cases hr : mtT y z (cs'.map (·.1)) with
       | none =>
        have IHN : Hid (Calls Tryz.prog 37 #[.agg #[.string y.name, .slice a' y.args.length c'], .agg #[.string z.name, .slice a2' z.args.length c2'], u2] wr.drew fun e w' => ∃ v1, e = .returned (.tuple #[v1, .bool false]) ∧ wr.drew.grownBy w' u2.ownBlock) := by
         refine IHK.out.mono ?_
         rintro e w1 ⟨hg1, ⟨_, v1, rfl⟩ | ⟨h', v1, cs1, h0, _⟩⟩
         ·exact ⟨v1, rfl, hg1⟩
         ·rw [hr] at h0; cases h0
        have HF : Hid (mtT ⟨s, l⟩ ⟨s2, m⟩ (cs.map (·.1)) = none) := by unfold Hid; rw [HR.out, HNO.out hr]
        go_region_held3 (fun w' => w'.cell? ⟨w.heap.size, 1, none⟩ = some (.slice (some ⟨b, o, none⟩) l.length c) ∧ w'.cell? ⟨w.heap.size + 1, 1, none⟩ = some (.slice (some ⟨b2, o2, none⟩) l.length c2) ∧ w'.cell? ⟨b, o + k * 2, none⟩ = some (.string y.name) ∧ w'.cell? ⟨b, o + k * 2 + 1, none⟩ = some (.slice a' y.args.length c') ∧ w'.cell? ⟨b2, o2 + k * 2, none⟩ = some (.string z.name) ∧ w'.cell? ⟨b2, o2 + k * 2 + 1, none⟩ = some (.slice a2' z.args.length c2')) (first | exact HS0.out | exact hS1 | go_keep)
         ((go_at_call 37; refine IHN.out.mono ?_; rintro e w1 ⟨v1, rfl, hg1⟩; have hS1 := SIX.out w1 hg1))
        have HG1 := hide (HGO.out w1 hg1)
        clear hg1 hS1
        go_wp2_with fail
        refine bodyPost_ret (v := .tuple #[.slice none 0 0, .bool false]) (by simp [results, Tryz.results37, go_sem]) rfl ?_
        rw [HF.out]
        exact ⟨HW2.out.andThen HG1.out (fun j hj => Or.inr hj), Or.inl ⟨rfl, _, rfl⟩⟩
       | some h' =>
        have IHS : Hid (Calls Tryz.prog 37 #[.agg #[.string y.name, .slice a' y.args.length c'], .agg #[.string z.name, .slice a2' z.args.length c2'], u2] wr.drew fun e w' => ∃ v1 cs1, e = .returned (.tuple #[v1, .bool true]) ∧ wr.drew.grownBy w' u2.ownBlock ∧ cs1.map (·.1) = h' ∧ BRow w' N Y v1 cs1 ∧ (∀ k, v1.ownBlock = some k → u2.ownBlock = some k ∨ wr.heap.size ≤ k)) := by
         refine IHK.out.mono ?_
         rintro e w1 ⟨hg1, ⟨h0, _⟩ | ⟨h'', v1, cs1, h0, rfl, h2, h3, h4⟩⟩
         ·rw [hr] at h0; cases h0
         ·rw [hr] at h0
          cases h0
          exact ⟨v1, cs1, rfl, hg1, h2, h3, h4⟩
        have HN := hide (HNX.out h' hr)
        go_region_held3 (fun w' => w'.cell? ⟨w.heap.size, 1, none⟩ = some (.slice (some ⟨b, o, none⟩) l.length c) ∧ w'.cell? ⟨w.heap.size + 1, 1, none⟩ = some (.slice (some ⟨b2, o2, none⟩) l.length c2) ∧ w'.cell? ⟨b, o + k * 2, none⟩ = some (.string y.name) ∧ w'.cell? ⟨b, o + k * 2 + 1, none⟩ = some (.slice a' y.args.length c') ∧ w'.cell? ⟨b2, o2 + k * 2, none⟩ = some (.string z.name) ∧ w'.cell? ⟨b2, o2 + k * 2 + 1, none⟩ = some (.slice a2' z.args.length c2')) (first | exact HS0.out | exact hS1 | go_keep)
         ((go_at_call 37; refine IHS.out.mono ?_; rintro e w1 ⟨v1, cs1, rfl, hg1, hc1, hr1, ho1⟩; have hS1 := SIX.out w1 hg1))
        have HG1 := hide (HGO.out w1 hg1)
        have HC1 := hide hc1
        have HR1 := hide hr1
        have HO1 : Hid (∀ j, v1.ownBlock = some j → hv.ownBlock = some j ∨ w2.heap.size ≤ j) := fun j hj => by
         rcases ho1 j hj with h1 | h1
         ·exact HOB.out j h1
         ·right; have := HGK.out.size; omega
        clear hg1 hS1 hc1 hr1 ho1
        go_wp2_with fail
        go_roundw
        case rel => exact ⟨k + 1, cs1, by omega, by go_num, by rw [HC1.out]; exact HN.out, HR1.out, HG1.out, HO1.out⟩
        case measure => simp [intOf]; omega
      ·have HF : Hid (mtT ⟨s, l⟩ ⟨s2, m⟩ (cs.map (·.1)) = some (cs'.map (·.1))) := by
        unfold Hid
        rw [HR.out, ← HT.out, List.take_of_length_le (by omega), List.take_of_length_le (by have := HM.out; omega)]
       have HGF := hide (HG2.out.andThen HGK.out (fun j hj => Or.inr hj))
       go_wp2_with fail
       refine bodyPost_ret (v := .tuple #[u2, .bool true]) (by simp [results, Tryz.results37, go_sem]) rfl ?_
       rw [HF.out]
       exact ⟨HGF.out, Or.inr ⟨_, u2, cs', rfl, rfl, rfl, HROWK.out, fun j hj => (HOB.out j hj).imp id (fun h => by omega)⟩⟩
end Go.Proofs.YtdebiiodhkcnkaaGreat
