import Derived.Test.YtdebiiodhkcnkaaGreatZTopIndexOwn
import Derived.Test.YtdebiiodhkcnkaaGreatIx14a
namespace Go.Proofs.YtdebiiodhkcnkaaGreat
open Go.RowKit
set_option linter.unusedSimpArgs false
set_option linter.unusedVariables false
set_option maxRecDepth 8000
def SrR (k : Nat) (t : Tm) (W0 : World) (v : Value) (wc : World) : Prop :=
 ∃ Bs g cap, v = .pointer (some ⟨Bs, 0, none⟩) ∧ SrS W0 W0.heap.size Bs g cap k (spL 0 [t]) [] (.slice none 0 0) wc ∧ W0.heap.size ≤ Bs ∧ W0.heap.size ≤ g
theorem srr_a {k : Nat} {t : Tm} {W0 w7 : World} {g cap : Nat} (hb : Below W0.heap.size W0 w7) (ho : w7.ownsRow W0.heap.size 87 3 (.slice (some ⟨g, 0, none⟩) (sizeL [t]) cap) (sizeL [t]) (spX (spL 0 [t]))) : SrR k t W0 (.pointer (some ⟨w7.heap.size, 0, none⟩)) (w7.alloc (.cells #[.int .i64 (k : Int), .slice (some ⟨g, 0, none⟩) (sizeL [t]) cap, .slice none 0 0] 90)) := by
 have hl := spL_length [t] 0
 refine ⟨w7.heap.size, g, cap, rfl, ⟨hb.alloc hb.size _, by rw [hl]; exact Blk.new _ _ _, World.ownsRow_nil _ _ _ _, by rw [hl]; exact ho.alloc _⟩, hb.size, (ho.lt g rfl).1⟩
theorem srr_b {k : Nat} {t : Tm} {W0 w7 : World} {g cap Bs : Nat} (hBs : W0.heap.size ≤ Bs) (hb : Below W0.heap.size W0 w7) (hx : Blk w7 Bs #[.int .i64 0, .slice none 0 0, .slice none 0 0] 90) (ho : w7.ownsRow W0.heap.size 87 3 (.slice (some ⟨g, 0, none⟩) (sizeL [t]) cap) (sizeL [t]) (spX (spL 0 [t]))) :
  SrR k t W0 (.pointer (some ⟨Bs, 0, none⟩)) (((w7.setCell ⟨Bs, 0, none⟩ (.int .i64 (k : Int))).setCell ⟨Bs, 1, none⟩ (.slice (some ⟨g, 0, none⟩) (sizeL [t]) cap)).setCell ⟨Bs, 2, none⟩ (.slice none 0 0)) := by
 have hl := spL_length [t] 0
 have hgb : g ≠ Bs := fun e => by
  rcases ho.2 with ⟨h2, _⟩ | ⟨g', cap', cur, h2, _, hg, _⟩
  ·cases h2
  ·simp only [Value.slice.injEq, Option.some.injEq, Addr.mk.injEq, and_true, true_and] at h2
   obtain ⟨rfl, rfl⟩ := h2
   unfold Blk at hx
   rw [e, hx] at hg
   injection hg with h3; injection h3 with h4 h5; exact absurd h5 (by decide)
 refine ⟨Bs, g, cap, rfl, ⟨((hb.setCell (p := ⟨Bs, 0, none⟩) hBs _).setCell (p := ⟨Bs, 1, none⟩) hBs _).setCell (p := ⟨Bs, 2, none⟩) hBs _, ?_, World.ownsRow_nil _ _ _ _, ?_⟩, hBs, (ho.lt g rfl).1⟩
 ·rw [hl]
  exact ((hx.set 0 (.int .i64 (k : Int))).set 1 (.slice (some ⟨g, 0, none⟩) (sizeL [t]) cap)).set 2 (.slice none 0 0)
 ·rw [hl]
  exact ownsRow_at ho fun b hb2 => by
   have e := own_g hb2
   subst e
   rw [Below.heap_setCell _ _ _ _ hgb, Below.heap_setCell _ _ _ _ hgb, Below.heap_setCell _ _ _ _ hgb]
set_option maxHeartbeats 4000000 in
theorem ask_any (k : Nat) (hk : k ≤ 2) {t : Tm} {ts : List Tm} (hts : ∀ x ∈ ts, mayE x = 0) (hl : ts.length ≤ 40) (N X : Nat) (w : World) (hI : IdxW w N X ts) (ta : Option Addr) (tc : Nat) (hst : Sl w (fun _ => True) ta t.args) :
  Calls Tryz.prog 27 #[.pointer (some ⟨X, 0, none⟩), .int .i64 (k : Int), .agg #[.string t.name, .slice ta t.args.length tc]] w fun e w' => AskP k ts t w e w' := by
 have H3 : Hid (Below w.heap.size w (((w.alloc (.cells #[.pointer (some ⟨X, 0, none⟩)] 32)).alloc (.cells #[.int .i64 (k : Int)] 65)).alloc (.cells #[.string t.name, .slice ta t.args.length tc] 26))) := (((Below.refl _ _).alloc (Nat.le_refl _) _).alloc (by simp) _).alloc (by simp; omega) _
 have HTV : Hid (TV (((w.alloc (.cells #[.pointer (some ⟨X, 0, none⟩)] 32)).alloc (.cells #[.int .i64 (k : Int)] 65)).alloc (.cells #[.string t.name, .slice ta t.args.length tc] 26)) (fun _ => True) (.agg #[.string t.name, .slice ta t.args.length tc]) t) := ⟨ta, tc, rfl, hst.later H3.out⟩
 have P3 : Hid (Blk (((w.alloc (.cells #[.pointer (some ⟨X, 0, none⟩)] 32)).alloc (.cells #[.int .i64 (k : Int)] 65)).alloc (.cells #[.string t.name, .slice ta t.args.length tc] 26)) w.heap.size #[.pointer (some ⟨X, 0, none⟩)] 32) := ((Blk.new _ _ _).alloc _).alloc _
 have P4 : Hid (Blk (((w.alloc (.cells #[.pointer (some ⟨X, 0, none⟩)] 32)).alloc (.cells #[.int .i64 (k : Int)] 65)).alloc (.cells #[.string t.name, .slice ta t.args.length tc] 26)) (w.heap.size + 1) #[.int .i64 (k : Int)] 65) := by
  have h := (Blk.new (w.alloc (.cells #[.pointer (some ⟨X, 0, none⟩)] 32)) #[.int .i64 (k : Int)] 65).alloc (.cells #[.string t.name, .slice ta t.args.length tc] 26)
  rw [World.size_alloc] at h
  exact h
 have P5 : Hid (Blk (((w.alloc (.cells #[.pointer (some ⟨X, 0, none⟩)] 32)).alloc (.cells #[.int .i64 (k : Int)] 65)).alloc (.cells #[.string t.name, .slice ta t.args.length tc] 26)) (w.heap.size + 2) #[.string t.name, .slice ta t.args.length tc] 26) := by
  have h := Blk.new ((w.alloc (.cells #[.pointer (some ⟨X, 0, none⟩)] 32)).alloc (.cells #[.int .i64 (k : Int)] 65)) #[.string t.name, .slice ta t.args.length tc] 26
  rw [World.size_alloc, World.size_alloc] at h
  exact h
 have HI3 := hide (hI.later H3.out)
 have HST := hide (hst.later H3.out)
 clear hI hst
 rw [show w.heap.size + 2 = w.heap.size + 1 + 1 from rfl] at P5
 by_cases h0 : mayE t = 0
 case neg =>
  have hb0 : (mayE t == 0) = false := beq_eq_false_iff_ne.2 h0
  have hn0 : (mayE t != 0) = true := by simp [bne, hb0]
  have H0 := hide h0
  clear h0
  go_enter Tryz.func27, Tryz.ntmps27
  go_upto_region 1 with fail
  generalize (((w.alloc (.cells #[.pointer (some ⟨X, 0, none⟩)] 32)).alloc (.cells #[.int .i64 (k : Int)] 65)).alloc (.cells #[.string t.name, .slice ta t.args.length tc] 26)) = w3 at *
  have t0 := P5.out.c0
  have t1 := P5.out.c1
  go_wp2_with (go_at_call 23; refine (check_any t _ _ _ HTV.out).mono ?_; rintro e w4 ⟨rfl, hb4⟩; have HB4 := hide hb4; clear hb4 t0 t1)
  refine bodyPost_ret (v := .tuple #[.slice none 0 0, .int .i64 (mayE t)]) (by simp [results, Tryz.results27, go_sem]) rfl ?_
  exact ⟨H3.out.trans (HB4.out.mono H3.out.size), Or.inl ⟨H0.out, rfl⟩⟩
 case pos =>
  have H0 := hide h0
  clear h0
  go_enter Tryz.func27, Tryz.ntmps27
  go_upto_region 1 with fail
  generalize (((w.alloc (.cells #[.pointer (some ⟨X, 0, none⟩)] 32)).alloc (.cells #[.int .i64 (k : Int)] 65)).alloc (.cells #[.string t.name, .slice ta t.args.length tc] 26)) = w3 at *
  have t0 := P5.out.c0
  have t1 := P5.out.c1
  go_upto_region 6 with (go_at_call 23; refine (check_any t _ _ _ HTV.out).mono ?_; rintro e w4 ⟨rfl, hb4⟩; rw [H0.out]; have HB4 := hide hb4; clear hb4 t0 t1; have x4 := (P3.out.below HB4.out P3.out.lt).c0)
  clear x4
  have Q3 := hide (P3.out.below HB4.out P3.out.lt)
  have Q4 := hide (P4.out.below HB4.out P4.out.lt)
  have Q5 := hide (P5.out.below HB4.out P5.out.lt)
  have HI4 := hide (HI3.out.later HB4.out)
  have HST4 := hide (HST.out.later HB4.out)
  have HW4 := hide (H3.out.trans (HB4.out.mono H3.out.size))
  clear P3 P4 P5 HI3 HST HTV H3 HB4 w3
  go_cut [9] (fun v wc => SrR k t w4.drew v wc)
  case first =>
   have KS : Hid (∀ w', Below w4.drew.heap.size w4.drew w' → w'.cell? ⟨w.heap.size + 1, 0, none⟩ = some (.int .i64 (k : Int)) ∧ w'.cell? ⟨w.heap.size + 1 + 1, 0, none⟩ = some (.string t.name) ∧ w'.cell? ⟨w.heap.size + 1 + 1, 1, none⟩ = some (.slice ta t.args.length tc)) := fun w' hb => ⟨((show Blk w4.drew (w.heap.size + 1) #[.int .i64 (k : Int)] 65 from Q4.out).below hb Q4.out.lt).c0, ((show Blk w4.drew (w.heap.size + 1 + 1) #[.string t.name, .slice ta t.args.length tc] 26 from Q5.out).below hb Q5.out.lt).c0, ((show Blk w4.drew (w.heap.size + 1 + 1) #[.string t.name, .slice ta t.args.length tc] 26 from Q5.out).below hb Q5.out.lt).c1⟩
   have HTV0 : Hid (TV w4.drew (fun b => b < w4.drew.heap.size) (.agg #[.string t.name, .slice ta t.args.length tc]) t) := ⟨ta, tc, rfl, (HST4.out.later (Below.refl _ _).drew).mono fun b _ hl => hl⟩
   have HSZ := hide (mayE_zero H0.out).1
   clear Q3 Q4 Q5 HI4 HST4 HW4
   refine wp_region_held_drew (S := fun w' => w'.cell? ⟨w.heap.size + 1, 0, none⟩ = some (.int .i64 (k : Int)) ∧ w'.cell? ⟨w.heap.size + 1 + 1, 0, none⟩ = some (.string t.name) ∧ w'.cell? ⟨w.heap.size + 1 + 1, 1, none⟩ = some (.slice ta t.args.length tc)) (by kernel_rfl) (by exact KS.out _ (Below.refl _ _)) (fun hHeld => ?_)
   generalize w4.drew = W0 at *
   refine tkq (v := ?_) 0 rfl ?_ ?_
   rotate_left
   ·intro w' hSw
    obtain ⟨x0, x1, x2⟩ := hSw
    go_simp <;> with_reducible rfl
   try simp only [Act.put, sq]
   refine tkq (v := ?_) 1 rfl ?_ ?_
   rotate_left
   ·intro w' hSw
    obtain ⟨x0, x1, x2⟩ := hSw
    go_simp <;> with_reducible rfl
   try simp only [Act.put, sq]
   refine wpAnyH_ready (rs := [2, 4]) (by kernel_rfl) (by simp) ?_
   refine AllReadyH.cons rfl (fun K hK => ?_) (AllReadyH.cons rfl (fun K hK => ?_) AllReadyH.nil)
   ·go_simp
    go_at_call 26
    refine (spots_any t [] (.slice none 0 0) _ W0 (fun b => b < W0.heap.size) W0.heap.size HTV0.out (by have h := HSZ.out; show 0 + sizeL [t] ≤ 100000; omega) (Nat.le_refl _) (fun b hb => hb) (World.ownsRow_nil _ _ _ _)).mono ?_
    rintro e w7 ⟨g, cap, rfl, ho, he, hat⟩
    simp only [List.length_nil, Nat.zero_add, List.nil_append] at ho
    have hbe : Below W0.heap.size W0 w7 := ⟨he.os, he.tape, he.output, he.size, fun b hb => he.block b hb (fun e => by cases e)⟩
    have HB7 : Hid (Below W0.heap.size W0 w7) := hbe
    have HO7 := hide ho
    clear ho he hat hbe
    simp only [List.length_nil, Nat.zero_add]
    go_simp
    refine hK.out _ _ (by exact KS.out _ HB7.out) (fun hHeld => ?_)
    clear hK K
    try simp only [Act.put, sq]
    refine tkq (v := ?_) 3 rfl ?_ ?_
    rotate_left
    ·intro w' hSw
     obtain ⟨x0, x1, x2⟩ := hSw
     go_simp <;> with_reducible rfl
    try simp only [Act.put, sq]
    refine rdq 4 rfl fun K hK => ?_
    go_simp
    refine hK.out _ _ (by exact KS.out _ (HB7.out.alloc HB7.out.size _)) (fun hHeld => ?_)
    clear hK K
    try simp only [Act.put, sq]
    refine rdq 5 rfl fun K hK => ?_
    go_simp
    refine hK.out _ _ (by exact KS.out _ (HB7.out.alloc HB7.out.size _)) (fun hHeld => ?_)
    clear hK K
    try simp only [Act.put, sq]
    refine wpAnyH_done (by kernel_rfl) ?_ _
    go_wp2_with fail
    go_meet
    exact srr_a HB7.out HO7.out
   ·have HB6 : Hid (Below W0.heap.size W0 (W0.alloc (.cells #[.int .i64 0, .slice none 0 0, .slice none 0 0] 90))) := (Below.refl _ _).alloc (Nat.le_refl _) _
    have HX6 : Hid (Blk (W0.alloc (.cells #[.int .i64 0, .slice none 0 0, .slice none 0 0] 90)) W0.heap.size #[.int .i64 0, .slice none 0 0, .slice none 0 0] 90) := Blk.new _ _ _
    go_simp
    refine hK.out _ _ (by exact KS.out _ HB6.out) (fun hHeld => ?_)
    clear hK K
    try simp only [Act.put, sq]
    generalize W0.alloc (.cells #[.int .i64 0, .slice none 0 0, .slice none 0 0] 90) = w6 at *
    refine rdq 2 rfl fun K hK => ?_
    go_simp
    go_at_call 26
    refine (spots_any t [] (.slice none 0 0) _ w6 (fun b => b < W0.heap.size) W0.heap.size (HTV0.out.later HB6.out) (by have h := HSZ.out; show 0 + sizeL [t] ≤ 100000; omega) HB6.out.size (fun b hb => hb) (World.ownsRow_nil _ _ _ _)).mono ?_
    rintro e w7 ⟨g, cap, rfl, ho, he, hat⟩
    simp only [List.length_nil, Nat.zero_add, List.nil_append] at ho
    have hbe : Below w6.heap.size w6 w7 := ⟨he.os, he.tape, he.output, he.size, fun b hb => he.block b hb (fun e => by cases e)⟩
    have HB7 : Hid (Below W0.heap.size W0 w7) := HB6.out.trans (hbe.mono HB6.out.size)
    have HO7 := hide ho
    have HX7 := hide (HX6.out.below hbe HX6.out.lt)
    clear ho he hat hbe
    simp only [List.length_nil, Nat.zero_add]
    go_simp
    refine hK.out _ _ (by exact KS.out _ HB7.out) (fun hHeld => ?_)
    clear hK K
    try simp only [Act.put, sq]
    refine tkq (v := ?_) 3 rfl ?_ ?_
    rotate_left
    ·intro w' hSw
     obtain ⟨x0, x1, x2⟩ := hSw
     go_simp <;> with_reducible rfl
    try simp only [Act.put, sq]
    refine rdq 5 rfl fun K hK => ?_
    have b0 := HX7.out.c0
    have b1 := HX7.out.c1
    have b2 := HX7.out.c2
    have bf := HX7.out.frozen
    have bl := HX7.out.lt
    go_simp
    refine hK.out _ _ (by exact KS.out _ (((HB7.out.setCell (p := ⟨W0.heap.size, 0, none⟩) (Nat.le_refl _) _).setCell (p := ⟨W0.heap.size, 1, none⟩) (Nat.le_refl _) _).setCell (p := ⟨W0.heap.size, 2, none⟩) (Nat.le_refl _) _)) (fun hHeld => ?_)
    clear hK K
    try simp only [Act.put, sq]
    clear b0 b1 b2 bf bl
    refine wpAnyH_done (by kernel_rfl) ?_ _
    go_wp2_with fail
    go_meet
    exact srr_b (Nat.le_refl _) HB7.out HX7.out HO7.out
  case rest =>
   obtain ⟨Bs, g, cap, rfl, hS, hBs, hg⟩ := hcut
   rename World => w5
   have HI0 := hide (HI4.out.later (Below.refl _ _).drew)
   have R3 : Hid (Blk w4.drew w.heap.size #[.pointer (some ⟨X, 0, none⟩)] 32) := Q3.out
   have R4 : Hid (Blk w4.drew (w.heap.size + 1) #[.int .i64 (k : Int)] 65) := Q4.out
   have R5 : Hid (Blk w4.drew (w.heap.size + 1 + 1) #[.string t.name, .slice ta t.args.length tc] 26) := Q5.out
   have HST0 := hide (HST4.out.later (Below.refl _ _).drew)
   have HW0 : Hid (Below w.heap.size w w4.drew) := HW4.out.drew
   have HS := hide hS
   clear Q3 Q4 Q5 HI4 HST4 HW4 hS
   generalize w4.drew = W0 at *
   clear w4
   obtain ⟨y, tv, Z, hNw⟩ := HI0.out
   obtain ⟨zt, et⟩ := mayE_zero H0.out
   have hCx : Ctx W0 N W0.heap.size Bs g cap 0 tv (wsL ts) y (spL 0 [t]) := ⟨hNw.tri, rfl, hBs, hg, fun x hx => by
     obtain ⟨x', hx', rfl⟩ := List.mem_map.1 hx
     have h1 := (mayE_zero (hts x' hx')).1
     rw [← spL_words [x'] 0, List.length_map, spL_length]; omega, by rw [wsL_length]; omega, fun s hs => sg_ok [t] et (by omega) s.1 (by rw [← spL_words [t] 0]; exact List.mem_map.2 ⟨s, hs, rfl⟩), by rw [spL_length]; omega⟩
   have hz5 : W0.heap.size ≤ w5.heap.size := HS.out.old.size
   have CL := walk_any (k := k) hCx (sizeL [t]) [t] (Nat.le_refl _) et (by omega) 0 [] [] (.slice none 0 0) w5 (SpAt.start t) (Nd.nil _) ⟨List.nodup_nil, fun n hn => by cases hn⟩ HS.out hz5
   unfold ndV at CL
   rw [hNw.here, show ofN [] = 1 from if_pos rfl, show ((0 : Nat) : Int) = 0 from rfl] at CL
   have HCL := hide CL
   obtain ⟨xs, hrx⟩ := hNw.row
   obtain ⟨wa, wc, hwv⟩ := hrx.shape
   subst hwv
   have hslw := hrx.sl
   have HSLW : Hid (∀ w', Below W0.heap.size W0 w' → Sl w' (fun _ => True) wa ts) := fun w' hb => (hslw.later hb).mono fun _ _ _ => trivial
   have HXB : Hid (∀ w', Below W0.heap.size W0 w' → Blk w' X #[.slice wa ts.length wc, .map (y.mp []), y.nv []] 59) := fun w' hb => hNw.blk.below hb hNw.xlt
   have x5 := (R3.out.below HS.out.old R3.out.lt).c0
   clear CL hrx hslw hNw hCx HI0
   have hmf : ∀ (fn : Fn) (first cap : Array Value) (w : World), (Instr.makeFunc fn first cap).run Tryz.prog w = .ok (.func fn first cap) w := fun _ _ _ _ => rfl
   go_upto_region 8 with (go_at_call 45; refine HCL.out.mono ?_; rintro e w6 ⟨rfl, gs, nv', hgs, hS6, hE6, hO6⟩; have HGS := hide hgs; have HS6 := hide hS6; clear hgs hS6 hE6 hO6)
   clear x5 HCL HS
   rw [List.nil_append] at HS6
   obtain ⟨met, hmet⟩ : ∃ met : Nat → Bool, ∀ n (h : n < ts.length), met n = true ↔ MetP k ts[n] t := by
    classical
    exact ⟨fun n => if h : n < ts.length then decide (MetP k ts[n] t) else false, fun n h => by simp [h]⟩
   have HMET := hide hmet
   have hin : ∀ n, n ∈ gs ↔ n < ts.length ∧ ∃ x, ts[n]? = some x ∧ Rch k [t] (wdL [x]) := fun n => by
    rw [HGS.out.2]
    constructor
    ·rintro ⟨v, hv, hr⟩
     rw [List.nil_append] at hv
     unfold wsL at hv
     rw [List.getElem?_map] at hv
     cases hx : ts[n]? with
     | none => rw [hx] at hv; cases hv
     | some x =>
      rw [hx] at hv
      have e : wdL [x] = v := by simpa using hv
      exact ⟨(List.getElem?_eq_some_iff.1 hx).1, x, rfl, by rw [e]; exact hr⟩
    ·rintro ⟨hn, x, hx, hr⟩
     exact ⟨wdL [x], by rw [List.nil_append]; unfold wsL; rw [List.getElem?_map, hx]; rfl, hr⟩
   have HPM : Hid ((gs.filter met).Perm ((List.range ts.length).filter met)) := told_nums (q := fun n => ∃ x, ts[n]? = some x ∧ Rch k [t] (wdL [x])) HGS.out.1 hin fun n hn hm => by
    exact ⟨ts[n], List.getElem?_eq_getElem hn, met_reach hk (hts _ (List.getElem_mem hn)) H0.out ((hmet n hn).1 hm)⟩
   have hgl : gs.length ≤ ts.length := nodup_len HGS.out.1 fun n hn => ((hin n).1 hn).1
   obtain ⟨va, vc, hva⟩ := own_sliceI HS6.out.row
   subst hva
   have HOG : Hid (∀ b, (Value.slice va gs.length vc).ownBlock = some b → W0.heap.size ≤ b) := fun b hb => (HS6.out.row.lt b hb).1
   have HCLO : Hid (CloC gs met #[.pointer (some ⟨w.heap.size + 1, 0, none⟩), .pointer (some ⟨w.heap.size, 0, none⟩), .pointer (some ⟨w.heap.size + 1 + 1, 0, none⟩)] (.slice va gs.length vc) w6) := fun n hn w' hx => by
    have hlt := ((hin n).1 hn).1
    have hb' : Below W0.heap.size W0 w' := HS6.out.old.trans (hx.below HS6.out.old.size HOG.out)
    exact ask1_any k hk H0.out hts (met n) n hlt (HMET.out n hlt) _ _ _ X wa ta wc tc _ _ w' (R3.out.below hb' R3.out.lt) (R4.out.below hb' R4.out.lt) (R5.out.below hb' R5.out.lt) (HXB.out w' hb') (HSLW.out w' hb') (HST0.out.later hb')
   have CD := hide (deleteF_any HCLO.out w6 (ExQ.refl _ _) HS6.out.row (by omega))
   have s6 := HS6.out.box.c2
   clear hin hmet HCLO
   go_upto_region 9 with (go_at_call 46; refine CD.out.mono ?_; rintro e w7 ⟨a7, c7, rfl, hx7, hr7⟩; have HX7 := hide hx7; have HR7 := hide hr7; clear hx7 hr7)
   clear s6 CD
   have HB7 : Hid (Below W0.heap.size W0 w7) := HS6.out.old.trans (HX7.out.below HS6.out.old.size HOG.out)
   have hfl : (gs.filter met).length ≤ gs.length := List.length_filter_le _ _
   have CS := sortI_any ((gs.filter met).map fun n : Nat => (n : Int)) a7 c7 w7 (by rw [List.length_map]; omega) (by
    rcases HR7.out with h | ⟨g9, rfl, hg9, hc9, hh⟩
    ·exact Or.inl (by rw [h]; rfl)
    ·have hg6 := (HS6.out.row.lt g9 hg9).2
     exact Or.inr ⟨g9, rfl, by have := HX7.out.size; omega, by rw [List.length_map]; exact hc9, fun j hj => by
      have hj' : j < (gs.filter met).length := by simpa using hj
      rw [List.getElem_map]
      exact hh j hj'⟩)
   rw [asc_sorted HPM.out, List.length_map] at CS
   have HCS := hide CS
   have HG7 : Hid (∀ b, ((gs.filter met).map (fun n : Nat => (n : Int)) ≠ [] ∧ ∃ g9, a7 = some ⟨g9, 0, none⟩ ∧ b = g9) → W0.heap.size ≤ b) := fun b hb => by
    obtain ⟨hne, g9, e9, rfl⟩ := hb
    rcases HR7.out with h | ⟨g8, e8, hg8, _, _⟩
    ·exact absurd (by rw [h]; rfl) hne
    ·rw [e9] at e8
     have e : b = g8 := by simpa using e8
     rw [e]; exact HOG.out g8 hg8
   obtain ⟨nn, hnn⟩ : ∃ nn, (gs.filter met).length = nn := ⟨_, rfl⟩
   rw [hnn] at HCS
   rw [hnn]
   have HNN := hide hnn
   clear hnn CS hfl
   go_wp2_with (go_at_call 49; refine HCS.out.mono ?_; rintro e w8 ⟨rfl, hlv, hx8⟩; have HLV := hide hlv; have HX8 := hide hx8; clear hlv hx8)
   refine bodyPost_ret (v := .tuple #[.slice a7 nn c7, .int .i64 0]) (by simp [results, Tryz.results27, go_sem]) rfl ?_
   exact ⟨HW0.out.trans ((HB7.out.trans (HX8.out.below HB7.out.size HG7.out)).mono HW0.out.size), Or.inr ⟨H0.out, _, met, rfl, HMET.out, HLV.out⟩⟩
end Go.Proofs.YtdebiiodhkcnkaaGreat
