import Derived.Test.YtofebfjkodceeaaSq
import Derived.Test.YtofebfjkodceeaaZTAutoMadeOwn
import Derived.Test.YtofebfjkodceeaaL4
namespace Go.Proofs.Ytofebfjkodceeaa
open Go.RowKit
open Go.WideMaps
set_option linter.unusedSimpArgs false
set_option linter.unusedVariables false
set_option maxRecDepth 8000
theorem TabB.setOther {w : World} {N : Nat} {Y : Nat → Prop} {r O : Nat} {ms : List Mv} {L : List Sy} {ov : Value} {gs : List (Value × List Value)} (h : TabB w N Y r O ms L ov gs) {R : Nat} (hR : R < N) (h1 : R ≠ r) (h2 : R ≠ O) (h3 : ¬ Y R) (i : Nat) (v : Value) : TabB (w.setCell ⟨R, i, none⟩ v) N Y r O ms L ov gs := by
 have k : ∀ b, b ≠ R → (w.setCell ⟨R, i, none⟩ v).heap[b]? = w.heap[b]? := fun b hb => Below.heap_setCell _ _ _ _ (by simpa using hb)
 exact ⟨h.map.kept (k r (fun e => h1 e.symm)), h.blk.setOther (b' := R) i v (fun e => h2 e.symm), h.rn, h.on, h.ro, h.len, h.nd, h.all, ownsRow_at h.own fun g hg => k g (fun e => by have := (h.own.lt g hg).1; omega),
  fun j p q => ⟨ownsRow_at (h.inn j p q).1 fun g hg => k g (fun e => by have := ((h.inn j p q).1.lt g hg).1; omega), (h.inn j p q).2.imp fun v l hp => hp.kept fun b hb => k b (fun e => h3 (e ▸ hb))⟩, h.apart, h.outer, h.hY⟩
theorem own_shape {w : World} {N T s n : Nat} {v : Value} {xs : List Value} (h : w.ownsRow N T s v n xs) : ∃ a c, v = .slice a n c ∧ n ≤ 9223372036854775807 := by
 rcases h.2 with ⟨hv, h0⟩ | ⟨g, cap, cur, hv, _, _, h1, h2, _⟩
 ·exact ⟨none, 0, by rw [hv, h0], by omega⟩
 ·unfold maxLen at h2
  exact ⟨_, _, hv, by omega⟩
theorem cell_below3 {w w' : World} {b o : Nat} {v : Value} (hb : Below w.heap.size w w') (h : w.cell? ⟨b, o, none⟩ = some v) : w'.cell? ⟨b, o, none⟩ = some v := (hb.cell (p := ⟨b, o, none⟩) (cell_ltA h)).trans h
structure TbI (w : World) (N : Nat) (R r O A : Nat) (ms : List Mv) (mc : Array Value) (s : Sy) (most : Nat) (n : Value) (w' : World) : Prop where
 ex : ∃ (i : Nat) (L : List Sy) (ov : Value) (gs : List (Value × List Value)) (hi : i < L.length), n = .int .i64 (i : Int) ∧ L[i] = s ∧ TabB w' N (fun b => b < w.heap.size) r O ms L ov gs ∧ (L.length ≤ most ∧ NeS ms s L) ∧ (∀ j (hj : j < gs.length) b, gs[j].1.ownBlock = some b → b ≠ A) ∧ some A ≠ ov.ownBlock
 bl : Below w.heap.size w w'
 box : Blk w' A mc 40
 res : Blk w' R #[.map none, .slice none 0 0] 75
 sz : N ≤ w'.heap.size ∧ N ≤ A
set_option maxHeartbeats 4000000 in
theorem tableOf_any (ms : List Mv) (hlm : ms.length ≤ 1000) (hok : ∀ m ∈ ms, SyOk (symM m)) (am : Option Addr) (cm : Nat) (w : World) (X : Nat → Prop) (hp : SlV w X am ms) :
  Calls Try.prog 40 #[.slice am ms.length cm] w fun e w' => ∃ v, e = .returned v ∧ TabV w' v ms ∧ Below w.heap.size w w' := by
 have hmm := @run_makeMap Try.prog
 have HP := hide hp
 have HOK := hide hok
 have hpl := hp.1
 have B3 : Hid (Below w.heap.size w (((w.alloc (.cells #[.map none, .slice none 0 0] 75)).alloc (.map #[] 0)).alloc (.cells #[.map (some (w.heap.size + 1)), .slice none 0 0] 75))) := (((Below.refl _ _).alloc (Nat.le_refl _) _).alloc (by simp) _).alloc (by simp; omega) _
 have R3 : Hid (Blk (((w.alloc (.cells #[.map none, .slice none 0 0] 75)).alloc (.map #[] 0)).alloc (.cells #[.map (some (w.heap.size + 1)), .slice none 0 0] 75)) w.heap.size #[.map none, .slice none 0 0] 75) := ((Blk.new w _ _).alloc _).alloc _
 have T3 : Hid (TabB (((w.alloc (.cells #[.map none, .slice none 0 0] 75)).alloc (.map #[] 0)).alloc (.cells #[.map (some (w.heap.size + 1)), .slice none 0 0] 75)) (w.heap.size + 3) (fun b => b < w.heap.size) (w.heap.size + 1) (w.heap.size + 2) [] [] (.slice none 0 0) []) := by
  have hm := MapY.new (w.alloc (.cells #[.map none, .slice none 0 0] 75))
  rw [World.size_alloc] at hm
  have hO := Blk.new ((w.alloc (.cells #[.map none, .slice none 0 0] 75)).alloc (.map #[] 0)) #[.map (some (w.heap.size + 1)), .slice none 0 0] 75
  rw [World.size_alloc, World.size_alloc] at hO
  have h := TabB.start (Y := fun b => b < w.heap.size) (r := w.heap.size + 1) (hm.kept (Below.heap_alloc _ _ _ (by simp))) hO (by omega) (fun b hb => by simp; omega)
  rw [World.size_alloc, World.size_alloc, World.size_alloc] at h
  exact h
 have SZ3 : Hid ((((w.alloc (.cells #[.map none, .slice none 0 0] 75)).alloc (.map #[] 0)).alloc (.cells #[.map (some (w.heap.size + 1)), .slice none 0 0] 75)).heap.size = w.heap.size + 3) := by unfold Hid; simp
 clear hp hok
 go_enter Try.func40, Try.ntmps40
 go_wp2_with fail
 generalize (((w.alloc (.cells #[.map none, .slice none 0 0] 75)).alloc (.map #[] 0)).alloc (.cells #[.map (some (w.heap.size + 1)), .slice none 0 0] 75)) = w3 at *
 clear hmm
 obtain ⟨r, hr⟩ : ∃ r, r = w.heap.size + 1 := ⟨_, rfl⟩
 obtain ⟨O, hO⟩ : ∃ O, O = w.heap.size + 2 := ⟨_, rfl⟩
 obtain ⟨N, hN⟩ : ∃ N, N = w.heap.size + 3 := ⟨_, rfl⟩
 have e1 : w.heap.size + 1 + 1 = O := by omega
 try rw [e1]
 rw [← hr, ← hO, ← hN] at T3
 try rw [← hr]
 try rw [← hO]
 have HE : Hid (r = w.heap.size + 1 ∧ O = w.heap.size + 2 ∧ N = w.heap.size + 3) := ⟨hr, hO, hN⟩
 have hzz : N ≤ w3.heap.size := by rw [SZ3.out]; omega
 have HZ := hide hzz
 clear e1 hr hO hN SZ3 hzz
 go_loopw [13] (fun i wr => ∃ (k : Nat) (L : List Sy) (ov : Value) (gs : List (Value × List Value)), (k ≤ ms.length ∧ L.length ≤ k ∧ NeG (ms.take k) L) ∧ i = .int .i64 (k : Int) ∧ TabB wr N (fun b => b < w.heap.size) r O (ms.take k) L ov gs ∧ Below w.heap.size w wr ∧ Blk wr w.heap.size #[.map none, .slice none 0 0] 75 ∧ N ≤ wr.heap.size) (fun i wr => ms.length - (intOf i).toNat)
 case atStart => exact ⟨0, [], .slice none 0 0, [], ⟨Nat.zero_le _, by simp, fun x hx => by cases hx⟩, rfl, T3.out, B3.out, R3.out, HZ.out⟩
 case round =>
  obtain ⟨k, L, ov, gs, ⟨hk, hLk⟩, rfl, htab, hbr, hres, hsz⟩ := hrel
  have TAB := hide htab
  have HBR := hide hbr
  have RES := hide hres
  have HSZ := hide hsz
  have HLK := hide hLk
  clear htab hbr hres hsz hLk
  by_cases hlt : k < ms.length
  ·have hki : (k : Int) < (ms.length : Int) := by omega
   obtain ⟨b, o, af, cf, rfl, hb, x0, x1, x2, hpv⟩ := HP.out.get HBR.out k hlt
   have hpl2 := hpv.len.1
   have PVK := hide ((hpv.mono (Y := fun b => b < wr.heap.size) fun b _ h => h))
   have PV0 : Hid (∀ w', Below w.heap.size w w' → PV w' (fun b => b < w.heap.size) (.slice af ms[k].frm.length cf) ms[k].frm) := by
    intro w' hb'
    rcases HP.out.2 with h0 | ⟨b0, o0, e0, hx0, h1⟩
    ·rw [h0] at hlt; simp at hlt
    ·obtain ⟨g0, ⟨a', c', g1, g2⟩, g3⟩ := h1 k hlt
     have eb : b0 = b ∧ o0 = o := by cases e0; exact ⟨rfl, rfl⟩
     obtain ⟨rfl, rfl⟩ := eb
     have e2 := cell_below3 HBR.out g1
     rw [x1] at e2
     simp at e2
     obtain ⟨rfl, rfl⟩ := e2
     exact (g2.mono (Y := fun b => b < w.heap.size) fun b _ h => h).later hb'
   have SOK := hide (HOK.out ms[k] (List.getElem_mem hlt))
   have WB := hide ((one1 wr (.cells #[.string ms[k].name, .slice af ms[k].frm.length cf, .int .i64 ms[k].to] 40)).trans ((one1 (wr.alloc (.cells #[.string ms[k].name, .slice af ms[k].frm.length cf, .int .i64 ms[k].to] 40)) (.cells #[.string ms[k].name, .int .i64 (ms[k].frm.length : Int)] 105)).mono (by simp)))
   have M2 : Hid (Blk ((wr.alloc (.cells #[.string ms[k].name, .slice af ms[k].frm.length cf, .int .i64 ms[k].to] 40)).alloc (.cells #[.string ms[k].name, .int .i64 (ms[k].frm.length : Int)] 105)) wr.heap.size #[.string ms[k].name, .slice af ms[k].frm.length cf, .int .i64 ms[k].to] 40) := (Blk.new _ _ _).alloc _
   have S2 : Hid (Blk ((wr.alloc (.cells #[.string ms[k].name, .slice af ms[k].frm.length cf, .int .i64 ms[k].to] 40)).alloc (.cells #[.string ms[k].name, .int .i64 (ms[k].frm.length : Int)] 105)) (wr.heap.size + 1) #[.string ms[k].name, .int .i64 (ms[k].frm.length : Int)] 105) := by
    have h := Blk.new (wr.alloc (.cells #[.string ms[k].name, .slice af ms[k].frm.length cf, .int .i64 ms[k].to] 40)) #[.string ms[k].name, .int .i64 (ms[k].frm.length : Int)] 105
    rw [World.size_alloc] at h
    exact h
   have m0 := (Blk.new wr #[.string ms[k].name, .slice af ms[k].frm.length cf, .int .i64 ms[k].to] 40).cell 0
   have m1 := (Blk.new wr #[.string ms[k].name, .slice af ms[k].frm.length cf, .int .i64 ms[k].to] 40).cell 1
   clear hpv
   go_upto_region 6 with fail
   generalize ((wr.alloc (.cells #[.string ms[k].name, .slice af ms[k].frm.length cf, .int .i64 ms[k].to] 40)).alloc (.cells #[.string ms[k].name, .int .i64 (ms[k].frm.length : Int)] 105)) = wa at *
   clear m0 m1 x0 x1 x2
   have TA := hide (TAB.out.below WB.out)
   have BA := hide (HBR.out.trans (WB.out.mono HBR.out.size))
   have RA := hide (RES.out.below WB.out RES.out.lt)
   have ZA : Hid (N ≤ wa.heap.size ∧ N ≤ wr.heap.size) := ⟨Nat.le_trans HSZ.out WB.out.size, HSZ.out⟩
   have NA : Hid ((∀ j (hj : j < gs.length) b, gs[j].1.ownBlock = some b → b < wr.heap.size) ∧ ∀ b, ov.ownBlock = some b → b < wr.heap.size) := ⟨fun j hj b e => ((TAB.out.inn j hj (by have := TAB.out.len; omega)).1.lt b e).2, fun b e => (TAB.out.own.lt b e).2⟩
   obtain ⟨A, hA⟩ : ∃ A, A = wr.heap.size := ⟨_, rfl⟩
   rw [← hA] at M2 S2 NA ZA ⊢
   clear hA HBR WB RES HSZ TAB
   have s0 := S2.out.cell 0
   have s1 := S2.out.cell 1
   have o0 := TA.out.blk.cell 0
   have o1 := TA.out.blk.cell 1
   obtain ⟨ao, co, rfl, hol⟩ := own_shape TA.out.own
   have hgl : gs.length = L.length := TA.out.len
   have hlook := run_lookY TA.out.map (symM ms[k]) SOK.out
   unfold symV symM at hlook
   simp only at hlook
   rcases hlook with ⟨i, hi, hLi, hl⟩ | ⟨hnL, hl⟩
   ·have HLI := hide hLi
    clear hLi hgl
    go_upto_if 31 with fail
    go_cut [7] (fun n w' => TbI w N w.heap.size r O A (ms.take k) #[.string ms[k].name, .slice af ms[k].frm.length cf, .int .i64 ms[k].to] (symM ms[k]) (k + 1) n w')
    case first =>
     clear s0 s1 o0 o1 hl
     go_wp2_with fail
     go_meet
     exact ⟨⟨i, L, _, gs, hi, rfl, HLI.out, TA.out, ⟨by have := HLK.out.1; omega, HLK.out.2.toS _⟩, fun j hj b e => by have := NA.out.1 j hj b e; omega, fun e => by have := NA.out.2 A e.symm; omega⟩, BA.out, M2.out, RA.out, ZA.out⟩
    case rest =>
     have hI := hcut
     clear hcut s0 s1 o0 o1 hl
     rename World => wb
     obtain ⟨⟨i, L2, ov2, gs2, hi, rfl, hLi, htab, hll, hna, hno⟩, hbl, hbx, hrs, hzs⟩ := hI
     have hgl2 : gs2.length = L2.length := htab.len
     have hig : i < gs2.length := by omega
     obtain ⟨og, cap0, rfl, hog1, hog2, hcs⟩ := owned_val htab.own (by omega)
     obtain ⟨g, cap, w5, hap, ⟨hc5, hf5, hl5⟩, ht5, hk5, hbl5⟩ := tab_add (htab.below ((Below.refl wb.heap.size wb).drew)) hzs.1 hig hi hLi (PV0.out wb.drew (hbl.drew)) (by simp; omega)
     have HAP := hide hap
     have HT5 := hide ht5
     have HK5 := hide hk5
     have HB5 := hide (hbl5 w.heap.size (by have := HE.out; omega))
     have hii : (i : Int) < (gs2.length : Int) := by omega
     have hOA : O < wb.heap.size := htab.blk.lt
     have hog3 : og ≠ O := by have := htab.on; omega
     have oN := htab.on
     have hown := (htab.inn i hig hi).1.lt
     have S0 : Hid ((wb.drew.cell? ⟨O, 1, none⟩ = some (.slice (some ⟨og, 0, none⟩) gs2.length cap0)) ∧ wb.drew.cell? ⟨A, 0, none⟩ = some (.string ms[k].name) ∧ wb.drew.cell? ⟨A, 1, none⟩ = some (.slice af ms[k].frm.length cf) ∧ wb.drew.cell? ⟨A, 2, none⟩ = some (.int .i64 ms[k].to)) := ⟨htab.blk.cell 1, hbx.cell 0, hbx.cell 1, hbx.cell 2⟩
     have KPS : Hid (∀ w' : World, w'.heap[O]? = wb.heap[O]? → w'.heap[A]? = wb.heap[A]? → (w'.cell? ⟨O, 1, none⟩ = some (.slice (some ⟨og, 0, none⟩) gs2.length cap0)) ∧ w'.cell? ⟨A, 0, none⟩ = some (.string ms[k].name) ∧ w'.cell? ⟨A, 1, none⟩ = some (.slice af ms[k].frm.length cf) ∧ w'.cell? ⟨A, 2, none⟩ = some (.int .i64 ms[k].to)) := fun w' h1 h2 =>
      ⟨(World.cell?_of_block (a := ⟨O, 1, none⟩) h1).trans S0.out.1, (World.cell?_of_block (a := ⟨A, 0, none⟩) h2).trans S0.out.2.1, (World.cell?_of_block (a := ⟨A, 1, none⟩) h2).trans S0.out.2.2.1, (World.cell?_of_block (a := ⟨A, 2, none⟩) h2).trans S0.out.2.2.2⟩
     have kO := HK5.out O hOA (fun e => hog3 e.symm) (fun e => by have := (hown O e.symm).1; omega)
     have kA := HK5.out A hbx.lt (fun e => hno (by rw [e]; rfl)) (fun e => hna i hig A e.symm rfl)
     have kR := HK5.out w.heap.size hrs.lt (fun e => by have := HE.out; omega) (fun e => by have := (hown w.heap.size e.symm).1; have := HE.out; omega)
     have SA := hide (KPS.out _ kO.1 kA.1)
     have SB := hide (KPS.out _ kO.2.1 kA.2.1)
     have SC := hide (KPS.out _ kO.2.2 kA.2.2)
     have RS5 : Hid (Blk (w5.setCell ⟨og, i, none⟩ (.slice (some ⟨g, 0, none⟩) ((grp (ms.take k) L2[i]).length + 1) cap)) w.heap.size #[.map none, .slice none 0 0] 75) := kR.2.2.trans hrs
     have BL5 := hide (hbl.drew.trans HB5.out)
     have ci : wb.drew.cell? ⟨og, i, none⟩ = some gs2[i].1 := by
      have := hcs i gs2[i].1 (by simp [hig])
      exact this
     have ci2 : (wb.drew.alloc (.cells #[.string ms[k].name, .slice af ms[k].frm.length cf, .int .i64 ms[k].to] 40)).cell? ⟨og, i, none⟩ = some gs2[i].1 := (World.cell?_of_block (a := ⟨og, i, none⟩) (Below.heap_alloc _ _ _ hog2)).trans ci
     obtain ⟨ai, ci3, hgv, hgvl⟩ := own_shape (htab.inn i hig hi).1
     have HLL := hide hll
     have HZS : Hid (N ≤ wb.drew.heap.size) := hzs.1
     have HTK : Hid (ms.take (k + 1) = ms.take k ++ [ms[k]]) := List.take_succ_eq_append_getElem hlt
     rw [hgv] at ci ci2 hc5 HAP
     clear hap ht5 hk5 hbl5 htab hll hna hno hbl hbx hrs hzs kO kA kR hLi hcs oN hown KPS HK5
     go_upto_region 11 with fail
     refine wp_region_held_drew (S := fun w' => (w'.cell? ⟨O, 1, none⟩ = some (.slice (some ⟨og, 0, none⟩) gs2.length cap0)) ∧ w'.cell? ⟨A, 0, none⟩ = some (.string ms[k].name) ∧ w'.cell? ⟨A, 1, none⟩ = some (.slice af ms[k].frm.length cf) ∧ w'.cell? ⟨A, 2, none⟩ = some (.int .i64 ms[k].to)) (by kernel_rfl) S0.out (fun hHeld => ?_)
     generalize wb.drew = wd at *
     refine tkq (v := ?_) 0 rfl ?_ ?_
     rotate_left
     ·intro w' hSw
      go_simp <;> with_reducible rfl
     try simp only [Act.put, sqA, sqB, sqC, sqD, sqE, sqF]
     refine tkq (v := ?_) 1 rfl ?_ ?_
     rotate_left
     ·intro w' hSw
      obtain ⟨x0, x1, x2, x3⟩ := hSw
      go_simp <;> with_reducible rfl
     try simp only [Act.put, sqA, sqB, sqC, sqD, sqE, sqF]
     refine tkq (v := ?_) 2 rfl ?_ ?_
     rotate_left
     ·intro w' hSw
      go_simp <;> with_reducible rfl
     try simp only [Act.put, sqA, sqB, sqC, sqD, sqE, sqF]
     refine tkq (v := ?_) 3 rfl ?_ ?_
     rotate_left
     ·intro w' hSw
      go_simp <;> with_reducible rfl
     try simp only [Act.put, sqA, sqB, sqC, sqD, sqE, sqF]
     refine tkq (v := ?_) 4 rfl ?_ ?_
     rotate_left
     ·intro w' hSw
      obtain ⟨x0, x1, x2, x3⟩ := hSw
      go_simp <;> with_reducible rfl
     try simp only [Act.put, sqA, sqB, sqC, sqD, sqE, sqF]
     refine tkq (v := ?_) 5 rfl ?_ ?_
     rotate_left
     ·intro w' hSw
      go_simp <;> with_reducible rfl
     try simp only [Act.put, sqA, sqB, sqC, sqD, sqE, sqF]
     refine tkq (v := ?_) 6 rfl ?_ ?_
     rotate_left
     ·intro w' hSw
      go_simp <;> with_reducible rfl
     try simp only [Act.put, sqA, sqB, sqC, sqD, sqE, sqF]
     refine tkq (v := ?_) 8 rfl ?_ ?_
     rotate_left
     ·intro w' hSw
      obtain ⟨x0, x1, x2, x3⟩ := hSw
      go_simp <;> with_reducible rfl
     try simp only [Act.put, sqA, sqB, sqC, sqD, sqE, sqF]
     refine wpAnyH_ready (rs := [7, 9]) (by kernel_rfl) (by simp) ?_
     refine AllReadyH.cons rfl (fun K hK => ?_) (AllReadyH.cons rfl (fun K hK => ?_) AllReadyH.nil)
     ·go_simp
      refine hK.out _ _ (by exact S0.out) (fun hHeld => ?_)
      clear hK K
      try simp only [Act.put, sqA, sqB, sqC, sqD, sqE, sqF]
      refine rdq 9 rfl fun K hK => ?_
      go_simp
      refine hK.out _ _ (by exact SA.out) (fun hHeld => ?_)
      clear hK K
      try simp only [Act.put, sqA, sqB, sqC, sqD, sqE, sqF]
      refine rdq 10 rfl fun K hK => ?_
      refine step_append_eqM rfl _ _ _ _ rfl rfl rfl HAP.out ?_
      refine hK.out _ _ (by exact SB.out) (fun hHeld => ?_)
      clear hK K
      try simp only [Act.put, sqA, sqB, sqC, sqD, sqE, sqF]
      refine tkq (v := ?_) 11 rfl ?_ ?_
      rotate_left
      ·intro w' hSw
       go_simp <;> with_reducible rfl
      try simp only [Act.put, sqA, sqB, sqC, sqD, sqE, sqF]
      refine rdq 12 rfl fun K hK => ?_
      go_simp
      refine hK.out _ _ (by exact SC.out) (fun hHeld => ?_)
      clear hK K
      try simp only [Act.put, sqA, sqB, sqC, sqD, sqE, sqF]
      refine wpAnyH_done (by kernel_rfl) ?_ _
      clear ci ci2 hc5 hf5 hl5
      go_wp2_with fail
      go_roundw
      case rel => exact ⟨k + 1, L2, _, _, ⟨by omega, HLL.out.1, by rw [HTK.out]; exact HLL.out.2.snoc⟩, by go_num, by rw [HTK.out]; exact HT5.out, BL5.out, RS5.out, Nat.le_trans HZS.out HB5.out.size⟩
      case measure => simp [intOf]; omega
     ·go_simp
      refine hK.out _ _ (by exact SA.out) (fun hHeld => ?_)
      clear hK K
      try simp only [Act.put, sqA, sqB, sqC, sqD, sqE, sqF]
      refine rdq 7 rfl fun K hK => ?_
      go_simp
      refine hK.out _ _ (by exact SA.out) (fun hHeld => ?_)
      clear hK K
      try simp only [Act.put, sqA, sqB, sqC, sqD, sqE, sqF]
      refine rdq 10 rfl fun K hK => ?_
      refine step_append_eqM rfl _ _ _ _ rfl rfl rfl HAP.out ?_
      refine hK.out _ _ (by exact SB.out) (fun hHeld => ?_)
      clear hK K
      try simp only [Act.put, sqA, sqB, sqC, sqD, sqE, sqF]
      refine tkq (v := ?_) 11 rfl ?_ ?_
      rotate_left
      ·intro w' hSw
       go_simp <;> with_reducible rfl
      try simp only [Act.put, sqA, sqB, sqC, sqD, sqE, sqF]
      refine rdq 12 rfl fun K hK => ?_
      go_simp
      refine hK.out _ _ (by exact SC.out) (fun hHeld => ?_)
      clear hK K
      try simp only [Act.put, sqA, sqB, sqC, sqD, sqE, sqF]
      refine wpAnyH_done (by kernel_rfl) ?_ _
      clear ci ci2 hc5 hf5 hl5
      go_wp2_with fail
      go_roundw
      case rel => exact ⟨k + 1, L2, _, _, ⟨by omega, HLL.out.1, by rw [HTK.out]; exact HLL.out.2.snoc⟩, by go_num, by rw [HTK.out]; exact HT5.out, BL5.out, RS5.out, Nat.le_trans HZS.out HB5.out.size⟩
      case measure => simp [intOf]; omega
   ·obtain ⟨w1, hu, hb1, g, cap, w2, hap, hb2, ht2, hk2, hbl2, hat2⟩ := tab_new TA.out ZA.out.1 SOK.out hnL (by have := HLK.out.1; omega)
    unfold symV symM at hu
    simp only at hu
    rw [← hgl] at hu
    have HAP := hide hap
    have HT2 := hide ht2
    have HK2 := hide hk2
    have HB2 := hide (hbl2 w.heap.size (by have := HE.out; omega) (by have := HE.out; omega) (by have := HE.out; omega))
    have p1 := hb1.cell 1
    have p0 := hb1.cell 0
    have q1 := hb2.cell 1
    have qf := hb2.frozen
    have ql := hb2.lt
    have HGL := hide hgl
    have HAT2 : Hid (Value.ownBlock (Value.slice ao gs.length co) = some g ∨ A < g) := hat2.imp id (fun h => by have := M2.out.lt; omega)
    clear hat2
    clear hnL hap ht2 hk2 hbl2 hb1 hb2 hgl
    go_upto_if 31 with fail
    go_cut [7] (fun n w' => TbI w N w.heap.size r O A (ms.take k) #[.string ms[k].name, .slice af ms[k].frm.length cf, .int .i64 ms[k].to] (symM ms[k]) (k + 1) n w')
    case first =>
     go_wp2_with (at_builtin; refine wpList_append_eq rfl _ _ _ _ rfl rfl rfl HAP.out ?_)
     go_meet
     have keep : ∀ b, b < wa.heap.size → b ≠ r → b ≠ O → some b ≠ Value.ownBlock (.slice ao gs.length co) → (w2.setCell ⟨O, 1, none⟩ (.slice (some ⟨g, 0, none⟩) (gs.length + 1) cap)).heap[b]? = wa.heap[b]? := fun b h1 h2 h3 h4 => (HK2.out b h1 h2 h3 h4).2.2
     have hE := HE.out
     have hNA := ZA.out.2
     refine ⟨⟨gs.length, L ++ [symM ms[k]], _, _, by rw [HGL.out]; simp, rfl, ?_, HT2.out, ⟨by have := HLK.out.1; simp; omega, HLK.out.2.new _⟩, fun j hj b e => ?_, fun e => ?_⟩, BA.out.trans HB2.out, ?_, ?_, ⟨by have := HB2.out.size; have := ZA.out.1; omega, ZA.out.2⟩⟩
     ·rw [List.getElem_append_right (by rw [HGL.out]; exact Nat.le_refl _)]; simp
     ·rw [List.getElem_append] at e
      split at e
      ·have := NA.out.1 j (by assumption) b e; omega
      ·simp [Value.ownBlock] at e
     ·have := HT2.out.own.lt A e.symm
      have hAg : A = g := by simpa [Value.ownBlock] using e
      exact absurd e (by
       intro e
       rcases HAT2.out with h | h
       ·exact absurd (NA.out.2 g h) (by omega)
       ·omega)
     ·exact (keep A M2.out.lt (by omega) (by omega) (fun e => by have := NA.out.2 A e.symm; omega)).trans M2.out
     ·exact (keep w.heap.size RA.out.lt (by omega) (by omega) (fun e => by have := (TA.out.own.lt w.heap.size e.symm).1; omega)).trans RA.out
    case rest =>
     have hI := hcut
     clear hcut s0 s1 o0 o1 hl hu p0 p1 q1 qf ql
     rename World => wb
     obtain ⟨⟨i, L2, ov2, gs2, hi, rfl, hLi, htab, hll, hna, hno⟩, hbl, hbx, hrs, hzs⟩ := hI
     have hgl2 : gs2.length = L2.length := htab.len
     have hig : i < gs2.length := by omega
     obtain ⟨og, cap0, rfl, hog1, hog2, hcs⟩ := owned_val htab.own (by omega)
     obtain ⟨g, cap, w5, hap, ⟨hc5, hf5, hl5⟩, ht5, hk5, hbl5⟩ := tab_add (htab.below ((Below.refl wb.heap.size wb).drew)) hzs.1 hig hi hLi (PV0.out wb.drew (hbl.drew)) (by simp; omega)
     have HAP := hide hap
     have HT5 := hide ht5
     have HK5 := hide hk5
     have HB5 := hide (hbl5 w.heap.size (by have := HE.out; omega))
     have hii : (i : Int) < (gs2.length : Int) := by omega
     have hOA : O < wb.heap.size := htab.blk.lt
     have hog3 : og ≠ O := by have := htab.on; omega
     have oN := htab.on
     have hown := (htab.inn i hig hi).1.lt
     have S0 : Hid ((wb.drew.cell? ⟨O, 1, none⟩ = some (.slice (some ⟨og, 0, none⟩) gs2.length cap0)) ∧ wb.drew.cell? ⟨A, 0, none⟩ = some (.string ms[k].name) ∧ wb.drew.cell? ⟨A, 1, none⟩ = some (.slice af ms[k].frm.length cf) ∧ wb.drew.cell? ⟨A, 2, none⟩ = some (.int .i64 ms[k].to)) := ⟨htab.blk.cell 1, hbx.cell 0, hbx.cell 1, hbx.cell 2⟩
     have KPS : Hid (∀ w' : World, w'.heap[O]? = wb.heap[O]? → w'.heap[A]? = wb.heap[A]? → (w'.cell? ⟨O, 1, none⟩ = some (.slice (some ⟨og, 0, none⟩) gs2.length cap0)) ∧ w'.cell? ⟨A, 0, none⟩ = some (.string ms[k].name) ∧ w'.cell? ⟨A, 1, none⟩ = some (.slice af ms[k].frm.length cf) ∧ w'.cell? ⟨A, 2, none⟩ = some (.int .i64 ms[k].to)) := fun w' h1 h2 =>
      ⟨(World.cell?_of_block (a := ⟨O, 1, none⟩) h1).trans S0.out.1, (World.cell?_of_block (a := ⟨A, 0, none⟩) h2).trans S0.out.2.1, (World.cell?_of_block (a := ⟨A, 1, none⟩) h2).trans S0.out.2.2.1, (World.cell?_of_block (a := ⟨A, 2, none⟩) h2).trans S0.out.2.2.2⟩
     have kO := HK5.out O hOA (fun e => hog3 e.symm) (fun e => by have := (hown O e.symm).1; omega)
     have kA := HK5.out A hbx.lt (fun e => hno (by rw [e]; rfl)) (fun e => hna i hig A e.symm rfl)
     have kR := HK5.out w.heap.size hrs.lt (fun e => by have := HE.out; omega) (fun e => by have := (hown w.heap.size e.symm).1; have := HE.out; omega)
     have SA := hide (KPS.out _ kO.1 kA.1)
     have SB := hide (KPS.out _ kO.2.1 kA.2.1)
     have SC := hide (KPS.out _ kO.2.2 kA.2.2)
     have RS5 : Hid (Blk (w5.setCell ⟨og, i, none⟩ (.slice (some ⟨g, 0, none⟩) ((grp (ms.take k) L2[i]).length + 1) cap)) w.heap.size #[.map none, .slice none 0 0] 75) := kR.2.2.trans hrs
     have BL5 := hide (hbl.drew.trans HB5.out)
     have ci : wb.drew.cell? ⟨og, i, none⟩ = some gs2[i].1 := by
      have := hcs i gs2[i].1 (by simp [hig])
      exact this
     have ci2 : (wb.drew.alloc (.cells #[.string ms[k].name, .slice af ms[k].frm.length cf, .int .i64 ms[k].to] 40)).cell? ⟨og, i, none⟩ = some gs2[i].1 := (World.cell?_of_block (a := ⟨og, i, none⟩) (Below.heap_alloc _ _ _ hog2)).trans ci
     obtain ⟨ai, ci3, hgv, hgvl⟩ := own_shape (htab.inn i hig hi).1
     have HLL := hide hll
     have HZS : Hid (N ≤ wb.drew.heap.size) := hzs.1
     have HTK : Hid (ms.take (k + 1) = ms.take k ++ [ms[k]]) := List.take_succ_eq_append_getElem hlt
     rw [hgv] at ci ci2 hc5 HAP
     clear hap ht5 hk5 hbl5 htab hll hna hno hbl hbx hrs hzs kO kA kR hLi hcs oN hown KPS HK5
     go_upto_region 11 with fail
     refine wp_region_held_drew (S := fun w' => (w'.cell? ⟨O, 1, none⟩ = some (.slice (some ⟨og, 0, none⟩) gs2.length cap0)) ∧ w'.cell? ⟨A, 0, none⟩ = some (.string ms[k].name) ∧ w'.cell? ⟨A, 1, none⟩ = some (.slice af ms[k].frm.length cf) ∧ w'.cell? ⟨A, 2, none⟩ = some (.int .i64 ms[k].to)) (by kernel_rfl) S0.out (fun hHeld => ?_)
     generalize wb.drew = wd at *
     refine tkq (v := ?_) 0 rfl ?_ ?_
     rotate_left
     ·intro w' hSw
      go_simp <;> with_reducible rfl
     try simp only [Act.put, sqA, sqB, sqC, sqD, sqE, sqF]
     refine tkq (v := ?_) 1 rfl ?_ ?_
     rotate_left
     ·intro w' hSw
      obtain ⟨x0, x1, x2, x3⟩ := hSw
      go_simp <;> with_reducible rfl
     try simp only [Act.put, sqA, sqB, sqC, sqD, sqE, sqF]
     refine tkq (v := ?_) 2 rfl ?_ ?_
     rotate_left
     ·intro w' hSw
      go_simp <;> with_reducible rfl
     try simp only [Act.put, sqA, sqB, sqC, sqD, sqE, sqF]
     refine tkq (v := ?_) 3 rfl ?_ ?_
     rotate_left
     ·intro w' hSw
      go_simp <;> with_reducible rfl
     try simp only [Act.put, sqA, sqB, sqC, sqD, sqE, sqF]
     refine tkq (v := ?_) 4 rfl ?_ ?_
     rotate_left
     ·intro w' hSw
      obtain ⟨x0, x1, x2, x3⟩ := hSw
      go_simp <;> with_reducible rfl
     try simp only [Act.put, sqA, sqB, sqC, sqD, sqE, sqF]
     refine tkq (v := ?_) 5 rfl ?_ ?_
     rotate_left
     ·intro w' hSw
      go_simp <;> with_reducible rfl
     try simp only [Act.put, sqA, sqB, sqC, sqD, sqE, sqF]
     refine tkq (v := ?_) 6 rfl ?_ ?_
     rotate_left
     ·intro w' hSw
      go_simp <;> with_reducible rfl
     try simp only [Act.put, sqA, sqB, sqC, sqD, sqE, sqF]
     refine tkq (v := ?_) 8 rfl ?_ ?_
     rotate_left
     ·intro w' hSw
      obtain ⟨x0, x1, x2, x3⟩ := hSw
      go_simp <;> with_reducible rfl
     try simp only [Act.put, sqA, sqB, sqC, sqD, sqE, sqF]
     refine wpAnyH_ready (rs := [7, 9]) (by kernel_rfl) (by simp) ?_
     refine AllReadyH.cons rfl (fun K hK => ?_) (AllReadyH.cons rfl (fun K hK => ?_) AllReadyH.nil)
     ·go_simp
      refine hK.out _ _ (by exact S0.out) (fun hHeld => ?_)
      clear hK K
      try simp only [Act.put, sqA, sqB, sqC, sqD, sqE, sqF]
      refine rdq 9 rfl fun K hK => ?_
      go_simp
      refine hK.out _ _ (by exact SA.out) (fun hHeld => ?_)
      clear hK K
      try simp only [Act.put, sqA, sqB, sqC, sqD, sqE, sqF]
      refine rdq 10 rfl fun K hK => ?_
      refine step_append_eqM rfl _ _ _ _ rfl rfl rfl HAP.out ?_
      refine hK.out _ _ (by exact SB.out) (fun hHeld => ?_)
      clear hK K
      try simp only [Act.put, sqA, sqB, sqC, sqD, sqE, sqF]
      refine tkq (v := ?_) 11 rfl ?_ ?_
      rotate_left
      ·intro w' hSw
       go_simp <;> with_reducible rfl
      try simp only [Act.put, sqA, sqB, sqC, sqD, sqE, sqF]
      refine rdq 12 rfl fun K hK => ?_
      go_simp
      refine hK.out _ _ (by exact SC.out) (fun hHeld => ?_)
      clear hK K
      try simp only [Act.put, sqA, sqB, sqC, sqD, sqE, sqF]
      refine wpAnyH_done (by kernel_rfl) ?_ _
      clear ci ci2 hc5 hf5 hl5
      go_wp2_with fail
      go_roundw
      case rel => exact ⟨k + 1, L2, _, _, ⟨by omega, HLL.out.1, by rw [HTK.out]; exact HLL.out.2.snoc⟩, by go_num, by rw [HTK.out]; exact HT5.out, BL5.out, RS5.out, Nat.le_trans HZS.out HB5.out.size⟩
      case measure => simp [intOf]; omega
     ·go_simp
      refine hK.out _ _ (by exact SA.out) (fun hHeld => ?_)
      clear hK K
      try simp only [Act.put, sqA, sqB, sqC, sqD, sqE, sqF]
      refine rdq 7 rfl fun K hK => ?_
      go_simp
      refine hK.out _ _ (by exact SA.out) (fun hHeld => ?_)
      clear hK K
      try simp only [Act.put, sqA, sqB, sqC, sqD, sqE, sqF]
      refine rdq 10 rfl fun K hK => ?_
      refine step_append_eqM rfl _ _ _ _ rfl rfl rfl HAP.out ?_
      refine hK.out _ _ (by exact SB.out) (fun hHeld => ?_)
      clear hK K
      try simp only [Act.put, sqA, sqB, sqC, sqD, sqE, sqF]
      refine tkq (v := ?_) 11 rfl ?_ ?_
      rotate_left
      ·intro w' hSw
       go_simp <;> with_reducible rfl
      try simp only [Act.put, sqA, sqB, sqC, sqD, sqE, sqF]
      refine rdq 12 rfl fun K hK => ?_
      go_simp
      refine hK.out _ _ (by exact SC.out) (fun hHeld => ?_)
      clear hK K
      try simp only [Act.put, sqA, sqB, sqC, sqD, sqE, sqF]
      refine wpAnyH_done (by kernel_rfl) ?_ _
      clear ci ci2 hc5 hf5 hl5
      go_wp2_with fail
      go_roundw
      case rel => exact ⟨k + 1, L2, _, _, ⟨by omega, HLL.out.1, by rw [HTK.out]; exact HLL.out.2.snoc⟩, by go_num, by rw [HTK.out]; exact HT5.out, BL5.out, RS5.out, Nat.le_trans HZS.out HB5.out.size⟩
      case measure => simp [intOf]; omega
  ·have hki : ¬ (k : Int) < (ms.length : Int) := by omega
   have htk : ms.take k = ms := List.take_of_length_le (by omega)
   rw [htk] at TAB
   have o0 := TAB.out.blk.cell 0
   have o1 := TAB.out.blk.cell 1
   have r0 : wr.cell? ⟨w.heap.size, 0, none⟩ = some (.map none) := RES.out.cell 0
   have r1 : wr.cell? ⟨w.heap.size, 1, none⟩ = some (.slice none 0 0) := RES.out.cell 1
   have rf := RES.out.frozen
   have hRl := RES.out.lt
   obtain ⟨ao, co, rfl, hol⟩ := own_shape TAB.out.own
   go_wp2_with fail
   refine bodyPost_ret (v := .agg #[.map (some r), .slice ao gs.length co]) (by simp [results, Try.results40, go_sem, World.cell?_setCell_same, World.cell?_setCell_other, r0, r1, hRl]) rfl ?_
   have hE := HE.out
   refine ⟨_, rfl, ((TAB.out.setOther (R := w.heap.size) (by omega) (by omega) (by omega) (by omega) 0 _).setOther (R := w.heap.size) (by omega) (by omega) (by omega) (by omega) 1 _).v (by have := HLK.out.1; omega) (by have := HLK.out.2; rw [htk] at this; exact this), (HBR.out.setCell (p := ⟨w.heap.size, 0, none⟩) (by simp) _).setCell (p := ⟨w.heap.size, 1, none⟩) (by simp) _⟩
end Go.Proofs.Ytofebfjkodceeaa
