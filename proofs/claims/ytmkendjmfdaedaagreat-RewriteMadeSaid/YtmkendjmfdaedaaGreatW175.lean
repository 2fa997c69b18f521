import Derived.Test.YtmkendjmfdaedaaGreatZDRewriteMadeOwn
import Derived.Test.YtmkendjmfdaedaaGreatW163
import Derived.Test.YtmkendjmfdaedaaGreatZRewriteMadeOwn
import Derived.Test.YtmkendjmfdaedaaGreatZBRewriteMadeOwn
namespace Go.Proofs.YtmkendjmfdaedaaGreat
open Go.RowKit
set_option linter.unusedSimpArgs false
set_option linter.unusedVariables false
set_option maxRecDepth 8000
def allE (rs : List Pr) (l : List Tm) : Int := if rulesE rs = 0 then firstE l else rulesE rs
theorem checkAll_any (rs : List Pr) (l : List Tm) (u : Value) (a : Option Addr) (c : Nat) (w : World) (X : Nat → Prop) (hu : QV w X u rs) (hs : Sl w X a l) :
  Calls Tryz.prog 43 #[u, .slice a l.length c] w fun e w' => e = .returned (.int .i64 (allE rs l)) ∧ Below w.heap.size w w' := by
 have HU := hide hu
 have HS := hide hs
 obtain ⟨ua, uc, rfl, _⟩ := hu
 clear hs
 go_enter Tryz.func43, Tryz.ntmps43
 go_wp2_with fail
 refine (rCheck_any rs _ _ X HU.out).mono ?_
 rintro e w1 ⟨rfl, hb1⟩
 have HB1 := hide hb1
 clear hb1
 by_cases h0 : rulesE rs = 0
 ·have HP : Hid (allE rs l = firstE l) := if_pos h0
  rw [h0]
  clear h0
  go_wp2_with fail
  refine (checkTerms_any l a c _ X (HS.out.later HB1.out)).mono ?_
  rintro e w2 ⟨rfl, hb2⟩
  have HB2 := hide (HB1.out.trans (hb2.mono HB1.out.size))
  clear hb2
  go_wp2_with fail
  go_ret
  exact ⟨ret_int HP.out.symm, HB2.out⟩
 ·have HP : Hid (allE rs l = rulesE rs) := if_neg h0
  have h1 : (rulesE rs == 0) = false := by simpa using h0
  have h2 : (rulesE rs != 0) = true := by simpa using h0
  go_wp2_with fail
  go_ret
  exact ⟨ret_int HP.out.symm, HB1.out⟩
theorem row_put {w3 : World} {N T n g cap k : Nat} {xs : List Value} {u1 u2 : Value} (h : w3.ownsRow N T 2 (.slice (some ⟨g, 0, none⟩) n cap) n xs) (hk : k < n) :
  ((w3.setCell ⟨g, k * 2, none⟩ u1).setCell ⟨g, k * 2 + 1, none⟩ u2).ownsRow N T 2 (.slice (some ⟨g, 0, none⟩) n cap) n ((xs.set (k * 2) u1).set (k * 2 + 1) u2) := by
 obtain ⟨hl, h1⟩ := h
 rcases h1 with ⟨h1, _⟩ | ⟨g', cap', cur, hv, hg, hh, hnc, hcm, hcs, htk⟩
 ·cases h1
 ·simp at hv
  obtain ⟨rfl, rfl⟩ := hv
  refine ⟨by simpa using hl, Or.inr ⟨g, cap, (cur.setIfInBounds (k * 2) u1).setIfInBounds (k * 2 + 1) u2, rfl, hg, ?_, hnc, hcm, by simpa using hcs, ?_⟩⟩
  ·simp [World.setCell, Array.getElem?_modify, hh]
  ·rw [Array.toList_setIfInBounds, Array.toList_setIfInBounds, List.take_set, List.take_set, htk]
def StpE (rs : List Pr) (t : Tm) : Int := if rulesE rs = 0 then (if mayE t = 0 then (if ∃ y ∈ stAll rs t, 2000 < sizeL [y] then 8 else 0) else mayE t) else rulesE rs
theorem sl_oneR {w : World} {B : Nat} {t : Tm} {a : Option Addr} {c T : Nat} (hb : Blk w B #[.string t.name, .slice a t.args.length c] T) (h : Sl w (fun _ => True) a t.args) : Sl w (fun _ => True) (some ⟨B, 0, none⟩) [t] := by
 obtain ⟨s, l⟩ := t
 refine ⟨by simp, Or.inr ⟨B, 0, rfl, ?_⟩⟩
 simp only [Lies]
 exact ⟨trivial, hb.cell 0, ⟨a, c, hb.cell 1, h.1, h.2⟩, trivial⟩
theorem firstE_one (t : Tm) : firstE [t] = mayE t := by
 simp only [firstE]
 split <;> simp_all
def StpPost (rs : List Pr) (t : Tm) (w : World) (e : Ending) (w' : World) : Prop :=
 Below w.heap.size w w' ∧ ((StpE rs t = 0 ∧ ∃ v xs, e = .returned (.tuple #[v, .int .i64 0]) ∧ w'.ownsRow w.heap.size 27 2 v (stAll rs t).length xs ∧ RowT w' (fun _ => True) (stAll rs t) xs) ∨ (StpE rs t ≠ 0 ∧ e = .returned (.tuple #[.slice none 0 0, .int .i64 (StpE rs t)])))
def CpyInv (outs : List Tm) (w w0 : World) (v o : Value) (wr : World) : Prop :=
 ∃ (k : Nat) (xs : List Value), k ≤ outs.length ∧ o = .int .i64 (k : Int) ∧ wr.ownsRow w.heap.size 27 2 v outs.length xs ∧ RowT wr (fun b => v.ownBlock ≠ some b) outs xs ∧ Below w.heap.size w wr
set_option maxHeartbeats 1000000 in
theorem steps_any (rs : List Pr) (t : Tm) (u : Value) (aa : Option Addr) (ca : Nat) (w : World) (X : Nat → Prop) (hu : QV w X u rs) (hs : Sl w X aa t.args) :
  Calls Tryz.prog 18 #[u, .agg #[.string t.name, .slice aa t.args.length ca]] w fun e w' => StpPost rs t w e w' := by
 have HU := hide hu
 have HS := hide hs
 obtain ⟨ua, uc, rfl, _⟩ := hu
 clear hs
 have hB2 : Below w.heap.size w ((w.alloc (.cells #[.string t.name, .slice aa t.args.length ca] 27)).alloc (.cells #[.string t.name, .slice aa t.args.length ca] 27)) := below2 _ _
 have hT0 : Blk ((w.alloc (.cells #[.string t.name, .slice aa t.args.length ca] 27)).alloc (.cells #[.string t.name, .slice aa t.args.length ca] 27)) w.heap.size #[.string t.name, .slice aa t.args.length ca] 27 := (Blk.new w _ _).alloc _
 have hT1 : Blk ((w.alloc (.cells #[.string t.name, .slice aa t.args.length ca] 27)).alloc (.cells #[.string t.name, .slice aa t.args.length ca] 27)) (w.heap.size + 1) #[.string t.name, .slice aa t.args.length ca] 27 := by
  have h := Blk.new (w.alloc (.cells #[.string t.name, .slice aa t.args.length ca] 27)) #[.string t.name, .slice aa t.args.length ca] 27
  rw [World.size_alloc] at h
  exact h
 go_enter Tryz.func18, Tryz.ntmps18
 go_wp2_with fail
 generalize ((w.alloc (.cells #[.string t.name, .slice aa t.args.length ca] 27)).alloc (.cells #[.string t.name, .slice aa t.args.length ca] 27)) = W at *
 refine (checkAll_any rs [t] _ _ 1 W (fun _ => True) ((HU.out.later hB2).mono fun _ _ _ => trivial) (sl_oneR hT1 ((HS.out.later hB2).mono fun _ _ _ => trivial))).mono ?_
 rintro e w1 ⟨rfl, hb1⟩
 have hal : allE rs [t] = if rulesE rs = 0 then mayE t else rulesE rs := by unfold allE; rw [firstE_one]
 rw [hal]
 clear hal
 have HB1 := hide (hB2.trans (hb1.mono hB2.size))
 have T1 := hide (hT0.below hb1 hT0.lt)
 clear hb1 hB2 hT0 hT1
 by_cases h0 : (if rulesE rs = 0 then mayE t else rulesE rs) = 0
 ·rw [h0]
  have hr : rulesE rs = 0 := by
   apply Classical.byContradiction
   intro h
   rw [if_neg h] at h0
   exact h h0
  have hm : mayE t = 0 := by rw [if_pos hr] at h0; exact h0
  have HE : Hid (StpE rs t = if ∃ y ∈ stAll rs t, 2000 < sizeL [y] then 8 else 0) := by unfold Hid StpE; rw [if_pos hr, if_pos hm]
  have HR := hide hr
  have hz := may_le hm
  have hrl := rulesE_len hr
  have t0 := T1.out.c0
  have t1 := T1.out.c1
  clear h0 hr hm
  go_wp2_with fail
  refine (all_any rs t _ aa ca w1 X (HU.out.later HB1.out) (HS.out.later HB1.out) (by omega) (by omega)).mono ?_
  rintro e w2 ⟨hb2, ⟨hnf, v, xs, rfl, ho, hrw⟩ | ⟨hfl, rfl⟩⟩
  ·have HNF := hide (((fulls_all HR.out).1).1 hnf)
   rw [outs_all HR.out] at ho hrw
   have HB2 := hide (HB1.out.trans (hb2.mono HB1.out.size))
   have HO := hide (owns_mono ho HB1.out.size)
   have HRW : Hid (RowT w2 (fun b => v.ownBlock ≠ some b) (stAll rs t) xs) := hrw.imp fun a l h => h.mono fun b hb _ => by
    rcases hb with h | h
    ·exact fun e => by have := (ho.lt b e).1; omega
    ·exact h.2
   have HZ : Hid (StpE rs t = 0) := by
    unfold Hid
    rw [HE.out, if_neg]
    rintro ⟨y, hy, h⟩
    have := HNF.out y hy
    omega
   clear hb2 ho hrw hnf
   have hln : (stAll rs t).length ≤ 1000000 := by
    rw [← outs_all HR.out, List.length_map]
    have h1 := chL_len rs t []
    have h2 : sizeL [t] * rs.length ≤ 400 * 40 := Nat.mul_le_mul hz hrl
    omega
   obtain ⟨outs, hout⟩ : ∃ outs, stAll rs t = outs := ⟨_, rfl⟩
   have HOUT := hide hout
   rw [hout] at HO HRW HNF hln
   clear hout
   obtain ⟨va, vc, hv⟩ := own_form HO.out
   subst hv
   go_wp2_with fail
   go_loopw [29] (fun o wr => CpyInv outs w w2 (.slice va outs.length vc) o wr) (fun o wr => outs.length - (intOf o).toNat)
   case atStart => exact ⟨0, xs, Nat.zero_le _, rfl, HO.out, HRW.out, HB2.out⟩
   case round =>
    obtain ⟨k, ys, hk, rfl, ho, hrw, hb⟩ := hrel
    have HOK := hide ho
    have HRK := hide hrw
    have HBK := hide hb
    have hsz := hb.size
    clear ho hrw hb
    by_cases hlt : k < outs.length
    ·obtain ⟨g, cap, e1, hgN, hgl, hcells⟩ := owned_val HOK.out (by omega)
     simp at e1
     obtain ⟨rfl, rfl⟩ := e1
     obtain ⟨x0, ax, cx, x1, hsx⟩ := HRK.out.get k hlt
     have d0 : wr.cell? ⟨g, k * 2, none⟩ = some (.string outs[k].name) := hcells _ _ x0
     have d1 : wr.cell? ⟨g, k * 2 + 1, none⟩ = some (.slice ax outs[k].args.length cx) := hcells _ _ x1
     have hlt2 : (k : Int) < (outs.length : Int) := by omega
     have HSX := hide hsx
     have HSZ := hide (HNF.out _ (List.getElem_mem hlt))
     clear hsx hcells x0 x1
     go_wp2_with fail
     have hbA : Below wr.heap.size wr (wr.alloc (.cells #[.string outs[k].name, .slice ax outs[k].args.length cx] 27)) := (Below.refl _ _).alloc (Nat.le_refl _) _
     refine (copyOf_any outs[k] _ _ (fun b => (Value.slice (some ⟨g, 0, none⟩) outs.length vc).ownBlock ≠ some b) ⟨ax, cx, rfl, HSX.out.later hbA⟩ (by have := HSZ.out; omega)).mono ?_
     rintro e w5 ⟨v', rfl, ⟨a5, c5, rfl, hs5⟩, hb5⟩
     have hb6 : Below wr.heap.size wr w5 := hbA.trans (hb5.mono (by simp))
     have HB6 := hide hb6
     have HS5 := hide hs5
     have f0 : w5.cell? ⟨g, k * 2, none⟩ = some (.string outs[k].name) := (hb6.cell (p := ⟨g, k * 2, none⟩) hgl).trans d0
     have f1 : w5.cell? ⟨g, k * 2 + 1, none⟩ = some (.slice ax outs[k].args.length cx) := (hb6.cell (p := ⟨g, k * 2 + 1, none⟩) hgl).trans d1
     have ff : ∀ i, w5.frozen? ⟨g, i, none⟩ = false := fun i => by
      rcases HOK.out.2 with ⟨h1, _⟩ | ⟨g', cap', cur, h1, _, hh, _⟩
      ·cases h1
      ·simp at h1
       obtain ⟨rfl, rfl⟩ := h1
       simp [World.frozen?, hb6.block g hgl, hh]
     have hg5 : g < w5.heap.size := Nat.lt_of_lt_of_le hgl hb6.size
     clear d0 d1 hs5 hb5 hb6 hbA
     go_wp2_with fail
     go_roundw
     case rel =>
      refine ⟨k + 1, (ys.set (k * 2) (.string outs[k].name)).set (k * 2 + 1) (.slice a5 outs[k].args.length c5), by omega, by go_num, row_put (ownsRow_at HOK.out fun b hb => HB6.out.block b (HOK.out.lt b hb).2) hlt, ?_, ((HBK.out.trans (HB6.out.mono hsz)).setCell (by simpa using hgN) _).setCell (by simpa using hgN) _⟩
      have h1 : RowT ((w5.setCell ⟨g, k * 2, none⟩ (.string outs[k].name)).setCell ⟨g, k * 2 + 1, none⟩ (.slice a5 outs[k].args.length c5)) (fun b => (Value.slice (some ⟨g, 0, none⟩) outs.length vc).ownBlock ≠ some b) outs ys := HRK.out.imp fun a l h => (h.later HB6.out).kept fun b hb => by
       have hne : b ≠ g := fun e => hb (by rw [e]; rfl)
       rw [Below.heap_setCell _ _ _ _ (by simpa using hne), Below.heap_setCell _ _ _ _ (by simpa using hne)]
      have h2 := RowT.put (y := outs[k]) (a := a5) (c := c5) ((HS5.out.mono (Y := fun b => (Value.slice (some ⟨g, 0, none⟩) outs.length vc).ownBlock ≠ some b) fun b hb _ e => by
       simp [Value.ownBlock] at e
       simp at hb
       omega).kept fun b hb => by
       have hne : b ≠ g := fun e => hb (by rw [e]; rfl)
       rw [Below.heap_setCell _ _ _ _ (by simpa using hne), Below.heap_setCell _ _ _ _ (by simpa using hne)]) k h1 hlt
      rwa [List.set_getElem_self] at h2
     case measure => simp [intOf]; omega
    ·have hge : ¬ ((k : Int) < (outs.length : Int)) := by omega
     go_wp2_with fail
     refine bodyPost_ret (v := .tuple #[.slice va outs.length vc, .int .i64 0]) (by simp [results, Tryz.results18, go_sem]) rfl ?_
     exact ⟨HBK.out, Or.inl ⟨HZ.out, _, ys, rfl, by rw [HOUT.out]; exact HOK.out, by rw [HOUT.out]; exact HRK.out.imp fun a l h => h.mono fun _ _ _ => trivial⟩⟩
  ·have HZ : Hid (StpE rs t = 8) := by unfold Hid; rw [HE.out, if_pos (((fulls_all HR.out).2).1 hfl)]
   have HB2 := hide (HB1.out.trans (hb2.mono HB1.out.size))
   clear hb2 hfl
   go_wp2_with fail
   refine bodyPost_ret (v := .tuple #[.slice none 0 0, .int .i64 8]) (by simp [results, Tryz.results18, go_sem]) rfl ?_
   exact ⟨HB2.out, Or.inr ⟨by rw [HZ.out]; decide, by rw [HZ.out]⟩⟩
 ·have HZ : Hid (StpE rs t = (if rulesE rs = 0 then mayE t else rulesE rs)) := by
   unfold Hid StpE
   by_cases hr : rulesE rs = 0
   ·rw [if_pos hr, if_pos hr] at *
    rw [if_neg h0]
   ·rw [if_neg hr, if_neg hr]
  have HN : Hid (StpE rs t ≠ 0) := by unfold Hid; rw [HZ.out]; exact h0
  rw [← HZ.out] at h0 ⊢
  obtain ⟨z, hz⟩ : ∃ z, StpE rs t = z := ⟨_, rfl⟩
  have HZZ := hide hz
  rw [hz] at h0 ⊢
  clear hz
  have h1 : (z == 0) = false := by simpa using h0
  have h2 : (z != 0) = true := by simpa using h0
  clear HZ
  go_wp2_with fail
  refine bodyPost_ret (v := .tuple #[.slice none 0 0, .int .i64 z]) (by simp [results, Tryz.results18, go_sem]) rfl ?_
  exact ⟨HB1.out, Or.inr ⟨HN.out, by rw [HZZ.out]⟩⟩
end Go.Proofs.YtmkendjmfdaedaaGreat
