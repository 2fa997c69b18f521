import Derived.Test.YtofebfjkodceeaaSq
import Derived.Test.YtofebfjkodceeaaAv15
import Derived.Test.YtofebfjkodceeaaW28
import Derived.Test.YtofebfjkodceeaaAu2
namespace Go.Proofs.Ytofebfjkodceeaa
open Go.RowKit
set_option linter.unusedSimpArgs false
set_option linter.unusedVariables false
set_option maxRecDepth 8000
theorem lit_nameA {w : World} {P T : Nat} (h : Blk w P #[.string ⟨#[97]⟩, .string ⟨#[98]⟩, .string ⟨#[104]⟩, .string ⟨#[102]⟩] T) {k : Nat} (hk : k < 4) : ∃ s, w.cell? ⟨P, k, none⟩ = some (.string s) ∧ (nameB s && !varB s) = true := by
 have h0 := h.cell k
 match k, hk with
 | 0, _ => exact ⟨_, h0, by decide +kernel⟩
 | 1, _ => exact ⟨_, h0, by decide +kernel⟩
 | 2, _ => exact ⟨_, h0, by decide +kernel⟩
 | 3, _ => exact ⟨_, h0, by decide +kernel⟩
theorem lit_intA {w : World} {P T : Nat} (h : Blk w P #[.int .i64 0, .int .i64 0, .int .i64 1, .int .i64 2] T) {k : Nat} (hk : k < 4) : ∃ n : Nat, n ≤ 2 ∧ w.cell? ⟨P, k, none⟩ = some (.int .i64 (n : Int)) := by
 have h0 := h.cell k
 match k, hk with
 | 0, _ => exact ⟨0, by omega, h0⟩
 | 1, _ => exact ⟨0, by omega, h0⟩
 | 2, _ => exact ⟨1, by omega, h0⟩
 | 3, _ => exact ⟨2, by omega, h0⟩
theorem av_keptA {w w' : World} {X : Nat → Prop} {v : Value} {A : Au} (h : AV w X v A) (hk : ∀ b, X b → w'.heap[b]? = w.heap[b]?) : AV w' X v A := by
 obtain ⟨am, cm, al, cl, e, h1, h2⟩ := h
 refine ⟨am, cm, al, cl, e, ⟨h1.1, ?_⟩, h2.kept hk⟩
 rcases h1.2 with h3 | ⟨b, o, e3, hx, h3⟩
 ·exact Or.inl h3
 ·refine Or.inr ⟨b, o, e3, hx, fun i hi => ?_⟩
  obtain ⟨g0, ⟨a', c', g1, g2⟩, g3⟩ := h3 i hi
  exact ⟨(World.cell?_of_block (a := ⟨b, o + i * 3, none⟩) (hk b hx)).trans g0, ⟨a', c', (World.cell?_of_block (a := ⟨b, o + i * 3 + 1, none⟩) (hk b hx)).trans g1, g2.kept hk⟩, (World.cell?_of_block (a := ⟨b, o + i * 3 + 2, none⟩) (hk b hx)).trans g3⟩
theorem av_monoA {w : World} {X Y : Nat → Prop} {v : Value} {A : Au} (h : AV w X v A) (hk : ∀ b, X b → Y b) : AV w Y v A := by
 obtain ⟨am, cm, al, cl, e, h1, h2⟩ := h
 exact ⟨am, cm, al, cl, e, h1.mono fun b h _ => hk b h, h2.mono fun b h _ => hk b h⟩
theorem Ex.ofBelowA {O : Nat} {a b c : World} (h : Ex O a b) (hb : Below b.heap.size b c) : Ex O a c := h.trans ⟨hb.os, hb.tape, hb.output, hb.size, fun k hk _ => hb.block k hk⟩
structure AfW (w2 : World) (N O : Nat) (st : Int) (ms : List Mv) (ls : List Int) (mv lv : Value) (xs : List Value) (X : Nat → Prop) (wr : World) : Prop where
 out : OutA wr N O st ms ls mv lv xs X
 ex : Ex O w2 wr
 sz : N ≤ wr.heap.size
 ok : ∀ m ∈ ms, OkMv st m ∧ m.frm.length ≤ 2
structure AfI (w2 : World) (N O : Nat) (st : Int) (moves : Nat) (i : Value) (wr : World) : Prop where
 ex : ∃ (k : Nat) (ms : List Mv) (mv : Value) (xs : List Value) (X : Nat → Prop), k ≤ moves ∧ i = .int .i64 (k : Int) ∧ ms.length = k ∧ AfW w2 N O st ms [] mv (.slice none 0 0) xs X wr
structure AfJ (w2 : World) (N O : Nat) (st : Int) (ms : List Mv) (mv : Value) (n : Nat) (i : Value) (wr : World) : Prop where
 ex : ∃ (k : Nat) (ls : List Int) (lv : Value) (xs : List Value) (X : Nat → Prop), k ≤ n ∧ i = .int .i64 (k : Int) ∧ ls.length ≤ k ∧ (∀ z ∈ ls, 0 ≤ z ∧ z < st) ∧ AfW w2 N O st ms ls mv lv xs X wr
structure AfM (w3 : World) (Q : Nat) (s : ByteArray) (fv : Value) (td : Int) (wr : World) : Prop where
 blk : Blk wr Q #[.string s, fv, .int .i64 td] 40
 bl : Below w3.heap.size w3 wr
 ge : w3.heap.size ≤ Q
def AfP (w3 : World) (st : Int) (p : Value) (w' : World) : Prop := ∃ (Q : Nat) (s : ByteArray) (td : Nat), p = .pointer (some ⟨Q, 0, none⟩) ∧ AfM w3 Q s (.slice none 0 0) (td : Int) w' ∧ (nameB s && !varB s) = true ∧ (td : Int) < st
structure AfK (w3 : World) (Q : Nat) (s : ByteArray) (td : Int) (st : Int) (n : Nat) (i : Value) (wr : World) : Prop where
 ex : ∃ (j : Nat) (zs : List Int) (fv : Value), j ≤ n ∧ i = .int .i64 (j : Int) ∧ zs.length = j ∧ (∀ z ∈ zs, 0 ≤ z ∧ z < st) ∧ AfM w3 Q s fv td wr ∧ wr.ownsRow (Q + 1) 3 1 fv zs.length (zs.map fun z => .int .i64 z)
def AfA (n moves : Nat) (w : World) (e : Ending) (w' : World) : Prop := ∃ (v : Value) (A : Au), e = .returned v ∧ AV w' (fun b => w.heap.size ≤ b) v A ∧ OkAu 8 40 A ∧ A.st = (n : Int) ∧ A.mv.length = moves ∧ A.la.length ≤ n ∧ (∀ m ∈ A.mv, m.frm.length ≤ 2) ∧ Below w.heap.size w w'
set_option maxHeartbeats 16000000 in
theorem autoFrom_any (zs : List Int) (hr : ∀ z ∈ zs, Rng z) (hzl : zs.length ≤ 1000000) (at_ n moves : Nat) (hat : at_ ≤ 10000) (hn0 : 1 ≤ n) (hn8 : n ≤ 8) (hmv : moves ≤ 40) (u : Value) (w : World) (X : Nat → Prop) (hu : PV w X u zs) :
  Calls Try.prog 4 #[u, .int .i64 (at_ : Int), .int .i64 (n : Int), .int .i64 (moves : Int)] w fun e w' => AfA n moves w e w' := by
 have HU := hide (hu.mono (Y := fun b => X b ∧ b < w.heap.size) fun b h1 h2 => ⟨h1, h2⟩)
 obtain ⟨ua, uc, rfl, _⟩ := id hu
 have HRG := hide hr
 clear hu hr
 have B2 : Hid (Below w.heap.size w ((w.alloc (.cells #[.int .i64 0, .slice none 0 0, .slice none 0 0] 25)).alloc (.cells #[.int .i64 (n : Int), .slice none 0 0, .slice none 0 0] 25))) := ((Below.refl _ _).alloc (Nat.le_refl _) _).alloc (by simp) _
 have R2 : Hid (Blk ((w.alloc (.cells #[.int .i64 0, .slice none 0 0, .slice none 0 0] 25)).alloc (.cells #[.int .i64 (n : Int), .slice none 0 0, .slice none 0 0] 25)) w.heap.size #[.int .i64 0, .slice none 0 0, .slice none 0 0] 25) := (Blk.new _ _ _).alloc _
 have O2 : Hid (Blk ((w.alloc (.cells #[.int .i64 0, .slice none 0 0, .slice none 0 0] 25)).alloc (.cells #[.int .i64 (n : Int), .slice none 0 0, .slice none 0 0] 25)) (w.heap.size + 1) #[.int .i64 (n : Int), .slice none 0 0, .slice none 0 0] 25) := by
  have h := Blk.new (w.alloc (.cells #[.int .i64 0, .slice none 0 0, .slice none 0 0] 25)) #[.int .i64 (n : Int), .slice none 0 0, .slice none 0 0] 25
  rw [World.size_alloc] at h
  exact h
 go_enter Try.func4, Try.ntmps4
 go_wp2_with fail
 generalize ((w.alloc (.cells #[.int .i64 0, .slice none 0 0, .slice none 0 0] 25)).alloc (.cells #[.int .i64 (n : Int), .slice none 0 0, .slice none 0 0] 25)) = w2 at *
 obtain ⟨O, hO⟩ : ∃ O, O = w.heap.size + 1 := ⟨_, rfl⟩
 rw [← hO] at O2 ⊢
 have HO := hide hO
 have START := hide (OutA.start O2.out)
 clear hO
 have UP : Hid (∀ wr, Ex O w2 wr → PV wr (fun b => X b ∧ b < w.heap.size) (.slice ua zs.length uc) zs ∧ Below w.heap.size w wr) := fun wr he => by
  have hk : ∀ b, b < w.heap.size → wr.heap[b]? = w.heap[b]? := fun b hb => (he.block b (by have := B2.out.size; omega) (by have := HO.out; omega)).trans (B2.out.block b hb)
  exact ⟨HU.out.kept fun b hb => hk b hb.2, ⟨he.os.trans B2.out.os, he.tape.trans B2.out.tape, he.output.trans B2.out.output, Nat.le_trans B2.out.size he.size, hk⟩⟩
 obtain ⟨N, hN⟩ : ∃ N, N = w2.heap.size := ⟨_, rfl⟩
 rw [← hN] at START
 have HN := hide hN
 clear hN
 have HNO : Hid (O < N ∧ w.heap.size < N) := by have h1 := O2.out.lt; have h2 := HO.out; have h3 := HN.out; unfold Hid; omega
 go_loopw [10] (fun i wr => AfI w2 N O (n : Int) moves i wr) (fun i wr => moves - (intOf i).toNat)
 case atStart => exact ⟨⟨0, [], _, _, _, Nat.zero_le _, rfl, rfl, ⟨START.out, Ex.refl _ _, by have := HN.out; omega, by simp⟩⟩⟩
 case round =>
  obtain ⟨⟨k, ms, mv, xs, Xk, hk, rfl, hmsl, haw⟩⟩ := hrel
  have AW := hide haw
  have HML := hide hmsl
  clear haw hmsl
  by_cases hlt : k < moves
  ·have hki : (k : Int) < (moves : Int) := by omega
   obtain ⟨w3, hw3⟩ : ∃ w3, w3 = wr := ⟨_, rfl⟩
   subst hw3
   have RAW : Hid (∀ (c : Int) (i : Nat), c = (i : Int) → i ≤ 1000000 → ∀ w', Below w3.heap.size w3 w' → Calls Try.prog 10 #[.slice ua zs.length uc, .int .i64 c] w' fun e w'' => ∃ q : Nat, e = .returned (.int .i64 (q : Int)) ∧ q ≤ 100000000000 ∧ Below w'.heap.size w' w'') := fun c i hc hi w' hb => by
    rw [hc]
    exact raw_any zs _ w' _ (UP.out w' (AW.out.ex.ofBelowA hb)).1 HRG.out i hi hzl
   have hw1 : IntKind.i64.wrap (4 * (k : Int)) = 4 * (k : Int) := by rw [IntKind.wrap_i64]; omega
   have hw2 : IntKind.i64.wrap ((at_ : Int) + 4 * (k : Int)) = (at_ : Int) + 4 * (k : Int) := by rw [IntKind.wrap_i64]; omega
   have hw3 : IntKind.i64.wrap ((at_ : Int) + 4 * (k : Int) + 1) = (at_ : Int) + 4 * (k : Int) + 1 := by rw [IntKind.wrap_i64]; omega
   have hw4 : IntKind.i64.wrap ((at_ : Int) + 4 * (k : Int) + 2) = (at_ : Int) + 4 * (k : Int) + 2 := by rw [IntKind.wrap_i64]; omega
   go_wp2_with fail
   refine (RAW.out _ (at_ + 4 * k) (by omega) (by omega) w3 (Below.refl _ _)).mono ?_
   rintro e w4 ⟨c1, rfl, hc1, hb4⟩
   have P5 : Hid (Blk (w4.alloc (.cells #[.int .i64 0, .int .i64 0, .int .i64 1, .int .i64 2] 3)) w4.heap.size #[.int .i64 0, .int .i64 0, .int .i64 1, .int .i64 2] 3) := Blk.new _ _ _
   have B5 := hide (hb4.trans ((one1 w4 (.cells #[.int .i64 0, .int .i64 0, .int .i64 1, .int .i64 2] 3)).mono hb4.size))
   clear hb4
   go_wp2_with fail
   refine (pick_any _ 4 (by decide) (by decide) ⟨by omega, by omega⟩ _).mono ?_
   rintro e wz ⟨k2, rfl, hk2, hwz⟩
   rw [hwz]
   clear hwz
   obtain ⟨nn, hnn, hcn⟩ := lit_intA P5.out hk2
   have hk2i : (k2 : Int) < 4 := by omega
   go_upto_region 7 with fail
   generalize (w4.alloc (.cells #[.int .i64 0, .int .i64 0, .int .i64 1, .int .i64 2] 3)) = w5 at *
   clear hcn P5
   have kd : Below w5.heap.size w5 w5.drew := (Below.refl _ _).drew
   go_cut [13] (fun p w' => AfP w3 (n : Int) p w')
   case first =>
    refine wp_region_held_drew (S := Below w5.heap.size w5) (by kernel_rfl) kd (fun hHeld => ?_)
    generalize w5.drew = wd at *
    refine tkq (v := ?_) 1 rfl ?_ ?_
    rotate_left
    ·intro w' hSw
     go_simp <;> with_reducible rfl
    try simp only [Act.put, sqA, sqB, sqC, sqD, sqE, sqF]
    refine tkq (v := ?_) 5 rfl ?_ ?_
    rotate_left
    ·intro w' hSw
     go_simp <;> with_reducible rfl
    try simp only [Act.put, sqA, sqB, sqC, sqD, sqE, sqF]
    refine tkq (v := ?_) 6 rfl ?_ ?_
    rotate_left
    ·intro w' hSw
     go_simp <;> with_reducible rfl
    try simp only [Act.put, sqA, sqB, sqC, sqD, sqE, sqF]
    refine tkq (v := ?_) 7 rfl ?_ ?_
    rotate_left
    ·intro w' hSw
     go_simp <;> with_reducible rfl
    try simp only [Act.put, sqA, sqB, sqC, sqD, sqE, sqF]
    refine tkq (v := ?_) 8 rfl ?_ ?_
    rotate_left
    ·intro w' hSw
     go_simp <;> with_reducible rfl
    try simp only [Act.put, sqA, sqB, sqC, sqD, sqE, sqF]
    refine tkq (v := ?_) 9 rfl ?_ ?_
    rotate_left
    ·intro w' hSw
     go_simp <;> with_reducible rfl
    try simp only [Act.put, sqA, sqB, sqC, sqD, sqE, sqF]
    refine tkq (v := ?_) 10 rfl ?_ ?_
    rotate_left
    ·intro w' hSw
     go_simp <;> with_reducible rfl
    try simp only [Act.put, sqA, sqB, sqC, sqD, sqE, sqF]
    refine tkq (v := ?_) 12 rfl ?_ ?_
    rotate_left
    ·intro w' hSw
     go_simp <;> with_reducible rfl
    try simp only [Act.put, sqA, sqB, sqC, sqD, sqE, sqF]
    refine wpAnyH_ready (rs := [0, 2, 15]) (by kernel_rfl) (by simp) ?_
    refine AllReadyH.cons rfl (fun K hK => ?_) (AllReadyH.cons rfl (fun K hK => ?_) (AllReadyH.cons rfl (fun K hK => ?_) AllReadyH.nil))
    ·go_simp
     have k1 : Below w5.heap.size w5 (wd.alloc (.cells #[.string ⟨#[97]⟩, .string ⟨#[98]⟩, .string ⟨#[104]⟩, .string ⟨#[102]⟩] 9)) := kd.alloc kd.size _
     have SA1 : Hid (Blk (wd.alloc (.cells #[.string ⟨#[97]⟩, .string ⟨#[98]⟩, .string ⟨#[104]⟩, .string ⟨#[102]⟩] 9)) wd.heap.size #[.string ⟨#[97]⟩, .string ⟨#[98]⟩, .string ⟨#[104]⟩, .string ⟨#[102]⟩] 9) := Blk.new _ _ _
     refine hK.out _ _ (by exact k1) (fun hHeld => ?_)
     clear hK K
     try simp only [Act.put, sqA, sqB, sqC, sqD, sqE, sqF]
     generalize (wd.alloc (.cells #[.string ⟨#[97]⟩, .string ⟨#[98]⟩, .string ⟨#[104]⟩, .string ⟨#[102]⟩] 9)) = wt1 at *
     refine wpAnyH_ready (rs := [2, 15]) (by kernel_rfl) (by simp) ?_
     refine AllReadyH.cons rfl (fun K hK => ?_) (AllReadyH.cons rfl (fun K hK => ?_) AllReadyH.nil)
     ·go_simp
      go_at_call 5
      refine (pick_any _ 4 (by decide) (by decide) ⟨by omega, by omega⟩ _).mono ?_
      rintro e wz ⟨kp, rfl, hkp, hwz⟩
      rw [hwz]
      clear hwz
      have hkpi : (kp : Int) < 4 := by omega
      go_simp
      refine hK.out _ _ (by exact k1) (fun hHeld => ?_)
      clear hK K
      try simp only [Act.put, sqA, sqB, sqC, sqD, sqE, sqF]
      refine tkq (v := ?_) 3 rfl ?_ ?_
      rotate_left
      ·intro w' hSw
       go_simp <;> with_reducible rfl
      try simp only [Act.put, sqA, sqB, sqC, sqD, sqE, sqF]
      refine wpAnyH_ready (rs := [4, 11, 15]) (by kernel_rfl) (by simp) ?_
      refine AllReadyH.cons rfl (fun K hK => ?_) (AllReadyH.cons rfl (fun K hK => ?_) (AllReadyH.cons rfl (fun K hK => ?_) AllReadyH.nil))
      ·obtain ⟨s4, hs4, hs5⟩ := lit_nameA SA1.out hkp
       go_simp
       refine hK.out _ _ (by exact k1) (fun hHeld => ?_)
       clear hK K
       try simp only [Act.put, sqA, sqB, sqC, sqD, sqE, sqF]
       clear hs4
       refine wpAnyH_ready (rs := [11, 15]) (by kernel_rfl) (by simp) ?_
       refine AllReadyH.cons rfl (fun K hK => ?_) (AllReadyH.cons rfl (fun K hK => ?_) AllReadyH.nil)
       ·go_simp
        go_at_call 10
        refine (RAW.out _ (at_ + 4 * k + 1) (by omega) (by omega) _ (B5.out.trans (k1.mono B5.out.size))).mono ?_
        rintro e wt2 ⟨cr, rfl, hcr, hb2⟩
        have k2 : Below w5.heap.size w5 wt2 := k1.trans (hb2.mono k1.size)
        have SA2 := hide (SA1.out.below hb2 SA1.out.lt)
        clear hb2
        go_simp
        refine hK.out _ _ (by exact k2) (fun hHeld => ?_)
        clear hK K
        try simp only [Act.put, sqA, sqB, sqC, sqD, sqE, sqF]
        refine wpAnyH_ready (rs := [13, 15]) (by kernel_rfl) (by simp) ?_
        refine AllReadyH.cons rfl (fun K hK => ?_) (AllReadyH.cons rfl (fun K hK => ?_) AllReadyH.nil)
        ·go_simp
         go_at_call 5
         refine (pick_any _ n (by omega) (by omega) ⟨by omega, by omega⟩ _).mono ?_
         rintro e wz ⟨kq, rfl, hkq, hwz⟩
         rw [hwz]
         clear hwz
         go_simp
         refine hK.out _ _ (by exact k2) (fun hHeld => ?_)
         clear hK K
         try simp only [Act.put, sqA, sqB, sqC, sqD, sqE, sqF]
         refine tkq (v := ?_) 14 rfl ?_ ?_
         rotate_left
         ·intro w' hSw
          go_simp <;> with_reducible rfl
         try simp only [Act.put, sqA, sqB, sqC, sqD, sqE, sqF]
         refine rdq 15 rfl fun K hK => ?_
         go_simp
         have k3 : Below w5.heap.size w5 (wt2.alloc (.cells #[.string ⟨#[]⟩, .slice none 0 0, .int .i64 0] 40)) := k2.alloc k2.size _
         have MB3 : Hid (Blk (wt2.alloc (.cells #[.string ⟨#[]⟩, .slice none 0 0, .int .i64 0] 40)) wt2.heap.size #[.string ⟨#[]⟩, .slice none 0 0, .int .i64 0] 40) := Blk.new _ _ _
         have hM3 : w5.heap.size ≤ wt2.heap.size := k2.size
         have SA3 := hide (SA2.out.alloc (.cells #[.string ⟨#[]⟩, .slice none 0 0, .int .i64 0] 40))
         refine hK.out _ _ (by exact k3) (fun hHeld => ?_)
         clear hK K
         try simp only [Act.put, sqA, sqB, sqC, sqD, sqE, sqF]
         generalize (wt2.alloc (.cells #[.string ⟨#[]⟩, .slice none 0 0, .int .i64 0] 40)) = wt3 at *
         have f0 := MB3.out.cell 0
         have f1 := MB3.out.cell 1
         have f2 := MB3.out.cell 2
         have ff := MB3.out.frozen
         have fl := MB3.out.lt
         have kS : Below w5.heap.size w5 (((wt3.setCell ⟨wt2.heap.size, 0, none⟩ (.string s4)).setCell ⟨wt2.heap.size, 1, none⟩ (.slice none 0 0)).setCell ⟨wt2.heap.size, 2, none⟩ (.int .i64 (kq : Int))) := ((k3.setCell (p := ⟨wt2.heap.size, 0, none⟩) hM3 _).setCell (p := ⟨wt2.heap.size, 1, none⟩) hM3 _).setCell (p := ⟨wt2.heap.size, 2, none⟩) hM3 _
         have FIN : Hid (AfP w3 (n : Int) (.pointer (some ⟨wt2.heap.size, 0, none⟩)) (((wt3.setCell ⟨wt2.heap.size, 0, none⟩ (.string s4)).setCell ⟨wt2.heap.size, 1, none⟩ (.slice none 0 0)).setCell ⟨wt2.heap.size, 2, none⟩ (.int .i64 (kq : Int)))) := ⟨wt2.heap.size, s4, kq, rfl, ⟨((MB3.out.set 0 _).set 1 _).set 2 _, B5.out.trans (kS.mono B5.out.size), Nat.le_trans B5.out.size hM3⟩, hs5, by omega⟩
         refine rdq 16 rfl fun K hK => ?_
         go_simp
         refine hK.out _ _ (by exact kS) (fun hHeld => ?_)
         clear hK K
         try simp only [Act.put, sqA, sqB, sqC, sqD, sqE, sqF]
         refine wpAnyH_done (by kernel_rfl) ?_ _
         clear f0 f1 f2 ff fl
         go_wp2_with fail
         go_meet
         exact FIN.out
        ·go_simp
         have k4 : Below w5.heap.size w5 (wt2.alloc (.cells #[.string ⟨#[]⟩, .slice none 0 0, .int .i64 0] 40)) := k2.alloc k2.size _
         have MB4 : Hid (Blk (wt2.alloc (.cells #[.string ⟨#[]⟩, .slice none 0 0, .int .i64 0] 40)) wt2.heap.size #[.string ⟨#[]⟩, .slice none 0 0, .int .i64 0] 40) := Blk.new _ _ _
         have hM4 : w5.heap.size ≤ wt2.heap.size := k2.size
         have SA4 := hide (SA2.out.alloc (.cells #[.string ⟨#[]⟩, .slice none 0 0, .int .i64 0] 40))
         refine hK.out _ _ (by exact k4) (fun hHeld => ?_)
         clear hK K
         try simp only [Act.put, sqA, sqB, sqC, sqD, sqE, sqF]
         generalize (wt2.alloc (.cells #[.string ⟨#[]⟩, .slice none 0 0, .int .i64 0] 40)) = wt4 at *
         refine rdq 13 rfl fun K hK => ?_
         go_simp
         go_at_call 5
         refine (pick_any _ n (by omega) (by omega) ⟨by omega, by omega⟩ _).mono ?_
         rintro e wz ⟨kq, rfl, hkq, hwz⟩
         rw [hwz]
         clear hwz
         go_simp
         refine hK.out _ _ (by exact k4) (fun hHeld => ?_)
         clear hK K
         try simp only [Act.put, sqA, sqB, sqC, sqD, sqE, sqF]
         refine tkq (v := ?_) 14 rfl ?_ ?_
         rotate_left
         ·intro w' hSw
          go_simp <;> with_reducible rfl
         try simp only [Act.put, sqA, sqB, sqC, sqD, sqE, sqF]
         have f0 := MB4.out.cell 0
         have f1 := MB4.out.cell 1
         have f2 := MB4.out.cell 2
         have ff := MB4.out.frozen
         have fl := MB4.out.lt
         have kS : Below w5.heap.size w5 (((wt4.setCell ⟨wt2.heap.size, 0, none⟩ (.string s4)).setCell ⟨wt2.heap.size, 1, none⟩ (.slice none 0 0)).setCell ⟨wt2.heap.size, 2, none⟩ (.int .i64 (kq : Int))) := ((k4.setCell (p := ⟨wt2.heap.size, 0, none⟩) hM4 _).setCell (p := ⟨wt2.heap.size, 1, none⟩) hM4 _).setCell (p := ⟨wt2.heap.size, 2, none⟩) hM4 _
         have FIN : Hid (AfP w3 (n : Int) (.pointer (some ⟨wt2.heap.size, 0, none⟩)) (((wt4.setCell ⟨wt2.heap.size, 0, none⟩ (.string s4)).setCell ⟨wt2.heap.size, 1, none⟩ (.slice none 0 0)).setCell ⟨wt2.heap.size, 2, none⟩ (.int .i64 (kq : Int)))) := ⟨wt2.heap.size, s4, kq, rfl, ⟨((MB4.out.set 0 _).set 1 _).set 2 _, B5.out.trans (kS.mono B5.out.size), Nat.le_trans B5.out.size hM4⟩, hs5, by omega⟩
         refine rdq 16 rfl fun K hK => ?_
         go_simp
         refine hK.out _ _ (by exact kS) (fun hHeld => ?_)
         clear hK K
         try simp only [Act.put, sqA, sqB, sqC, sqD, sqE, sqF]
         refine wpAnyH_done (by kernel_rfl) ?_ _
         clear f0 f1 f2 ff fl
         go_wp2_with fail
         go_meet
         exact FIN.out
       ·go_simp
        have k5 : Below w5.heap.size w5 (wt1.alloc (.cells #[.string ⟨#[]⟩, .slice none 0 0, .int .i64 0] 40)) := k1.alloc k1.size _
        have MB5 : Hid (Blk (wt1.alloc (.cells #[.string ⟨#[]⟩, .slice none 0 0, .int .i64 0] 40)) wt1.heap.size #[.string ⟨#[]⟩, .slice none 0 0, .int .i64 0] 40) := Blk.new _ _ _
        have hM5 : w5.heap.size ≤ wt1.heap.size := k1.size
        have SA5 := hide (SA1.out.alloc (.cells #[.string ⟨#[]⟩, .slice none 0 0, .int .i64 0] 40))
        refine hK.out _ _ (by exact k5) (fun hHeld => ?_)
        clear hK K
        try simp only [Act.put, sqA, sqB, sqC, sqD, sqE, sqF]
        generalize (wt1.alloc (.cells #[.string ⟨#[]⟩, .slice none 0 0, .int .i64 0] 40)) = wt5 at *
        refine rdq 11 rfl fun K hK => ?_
        go_simp
        go_at_call 10
        refine (RAW.out _ (at_ + 4 * k + 1) (by omega) (by omega) _ (B5.out.trans (k5.mono B5.out.size))).mono ?_
        rintro e wt6 ⟨cr, rfl, hcr, hb6⟩
        have k6 : Below w5.heap.size w5 wt6 := k5.trans (hb6.mono k5.size)
        have SA6 := hide (SA5.out.below hb6 SA5.out.lt)
        have MB6 := hide (MB5.out.below hb6 MB5.out.lt)
        clear hb6
        go_simp
        refine hK.out _ _ (by exact k6) (fun hHeld => ?_)
        clear hK K
        try simp only [Act.put, sqA, sqB, sqC, sqD, sqE, sqF]
        refine rdq 13 rfl fun K hK => ?_
        go_simp
        go_at_call 5
        refine (pick_any _ n (by omega) (by omega) ⟨by omega, by omega⟩ _).mono ?_
        rintro e wz ⟨kq, rfl, hkq, hwz⟩
        rw [hwz]
        clear hwz
        go_simp
        refine hK.out _ _ (by exact k6) (fun hHeld => ?_)
        clear hK K
        try simp only [Act.put, sqA, sqB, sqC, sqD, sqE, sqF]
        refine tkq (v := ?_) 14 rfl ?_ ?_
        rotate_left
        ·intro w' hSw
         go_simp <;> with_reducible rfl
        try simp only [Act.put, sqA, sqB, sqC, sqD, sqE, sqF]
        have f0 := MB6.out.cell 0
        have f1 := MB6.out.cell 1
        have f2 := MB6.out.cell 2
        have ff := MB6.out.frozen
        have fl := MB6.out.lt
        have kS : Below w5.heap.size w5 (((wt6.setCell ⟨wt1.heap.size, 0, none⟩ (.string s4)).setCell ⟨wt1.heap.size, 1, none⟩ (.slice none 0 0)).setCell ⟨wt1.heap.size, 2, none⟩ (.int .i64 (kq : Int))) := ((k6.setCell (p := ⟨wt1.heap.size, 0, none⟩) hM5 _).setCell (p := ⟨wt1.heap.size, 1, none⟩) hM5 _).setCell (p := ⟨wt1.heap.size, 2, none⟩) hM5 _
        have FIN : Hid (AfP w3 (n : Int) (.pointer (some ⟨wt1.heap.size, 0, none⟩)) (((wt6.setCell ⟨wt1.heap.size, 0, none⟩ (.string s4)).setCell ⟨wt1.heap.size, 1, none⟩ (.slice none 0 0)).setCell ⟨wt1.heap.size, 2, none⟩ (.int .i64 (kq : Int)))) := ⟨wt1.heap.size, s4, kq, rfl, ⟨((MB6.out.set 0 _).set 1 _).set 2 _, B5.out.trans (kS.mono B5.out.size), Nat.le_trans B5.out.size hM5⟩, hs5, by omega⟩
        refine rdq 16 rfl fun K hK => ?_
        go_simp
        refine hK.out _ _ (by exact kS) (fun hHeld => ?_)
        clear hK K
        try simp only [Act.put, sqA, sqB, sqC, sqD, sqE, sqF]
        refine wpAnyH_done (by kernel_rfl) ?_ _
        clear f0 f1 f2 ff fl
        go_wp2_with fail
        go_meet
        exact FIN.out
      ·go_simp
       go_at_call 10
       refine (RAW.out _ (at_ + 4 * k + 1) (by omega) (by omega) _ (B5.out.trans (k1.mono B5.out.size))).mono ?_
       rintro e wt7 ⟨cr, rfl, hcr, hb7⟩
       have k7 : Below w5.heap.size w5 wt7 := k1.trans (hb7.mono k1.size)
       have SA7 := hide (SA1.out.below hb7 SA1.out.lt)
       clear hb7
       go_simp
       refine hK.out _ _ (by exact k7) (fun hHeld => ?_)
       clear hK K
       try simp only [Act.put, sqA, sqB, sqC, sqD, sqE, sqF]
       refine wpAnyH_ready (rs := [4, 13, 15]) (by kernel_rfl) (by simp) ?_
       refine AllReadyH.cons rfl (fun K hK => ?_) (AllReadyH.cons rfl (fun K hK => ?_) (AllReadyH.cons rfl (fun K hK => ?_) AllReadyH.nil))
       ·obtain ⟨s4, hs4, hs5⟩ := lit_nameA SA7.out hkp
        go_simp
        refine hK.out _ _ (by exact k7) (fun hHeld => ?_)
        clear hK K
        try simp only [Act.put, sqA, sqB, sqC, sqD, sqE, sqF]
        clear hs4
        refine wpAnyH_ready (rs := [13, 15]) (by kernel_rfl) (by simp) ?_
        refine AllReadyH.cons rfl (fun K hK => ?_) (AllReadyH.cons rfl (fun K hK => ?_) AllReadyH.nil)
        ·go_simp
         go_at_call 5
         refine (pick_any _ n (by omega) (by omega) ⟨by omega, by omega⟩ _).mono ?_
         rintro e wz ⟨kq, rfl, hkq, hwz⟩
         rw [hwz]
         clear hwz
         go_simp
         refine hK.out _ _ (by exact k7) (fun hHeld => ?_)
         clear hK K
         try simp only [Act.put, sqA, sqB, sqC, sqD, sqE, sqF]
         refine tkq (v := ?_) 14 rfl ?_ ?_
         rotate_left
         ·intro w' hSw
          go_simp <;> with_reducible rfl
         try simp only [Act.put, sqA, sqB, sqC, sqD, sqE, sqF]
         refine rdq 15 rfl fun K hK => ?_
         go_simp
         have k8 : Below w5.heap.size w5 (wt7.alloc (.cells #[.string ⟨#[]⟩, .slice none 0 0, .int .i64 0] 40)) := k7.alloc k7.size _
         have MB8 : Hid (Blk (wt7.alloc (.cells #[.string ⟨#[]⟩, .slice none 0 0, .int .i64 0] 40)) wt7.heap.size #[.string ⟨#[]⟩, .slice none 0 0, .int .i64 0] 40) := Blk.new _ _ _
         have hM8 : w5.heap.size ≤ wt7.heap.size := k7.size
         have SA8 := hide (SA7.out.alloc (.cells #[.string ⟨#[]⟩, .slice none 0 0, .int .i64 0] 40))
         refine hK.out _ _ (by exact k8) (fun hHeld => ?_)
         clear hK K
         try simp only [Act.put, sqA, sqB, sqC, sqD, sqE, sqF]
         generalize (wt7.alloc (.cells #[.string ⟨#[]⟩, .slice none 0 0, .int .i64 0] 40)) = wt8 at *
         have f0 := MB8.out.cell 0
         have f1 := MB8.out.cell 1
         have f2 := MB8.out.cell 2
         have ff := MB8.out.frozen
         have fl := MB8.out.lt
         have kS : Below w5.heap.size w5 (((wt8.setCell ⟨wt7.heap.size, 0, none⟩ (.string s4)).setCell ⟨wt7.heap.size, 1, none⟩ (.slice none 0 0)).setCell ⟨wt7.heap.size, 2, none⟩ (.int .i64 (kq : Int))) := ((k8.setCell (p := ⟨wt7.heap.size, 0, none⟩) hM8 _).setCell (p := ⟨wt7.heap.size, 1, none⟩) hM8 _).setCell (p := ⟨wt7.heap.size, 2, none⟩) hM8 _
         have FIN : Hid (AfP w3 (n : Int) (.pointer (some ⟨wt7.heap.size, 0, none⟩)) (((wt8.setCell ⟨wt7.heap.size, 0, none⟩ (.string s4)).setCell ⟨wt7.heap.size, 1, none⟩ (.slice none 0 0)).setCell ⟨wt7.heap.size, 2, none⟩ (.int .i64 (kq : Int)))) := ⟨wt7.heap.size, s4, kq, rfl, ⟨((MB8.out.set 0 _).set 1 _).set 2 _, B5.out.trans (kS.mono B5.out.size), Nat.le_trans B5.out.size hM8⟩, hs5, by omega⟩
         refine rdq 16 rfl fun K hK => ?_
         go_simp
         refine hK.out _ _ (by exact kS) (fun hHeld => ?_)
         clear hK K
         try simp only [Act.put, sqA, sqB, sqC, sqD, sqE, sqF]
         refine wpAnyH_done (by kernel_rfl) ?_ _
         clear f0 f1 f2 ff fl
         go_wp2_with fail
         go_meet
         exact FIN.out
        ·go_simp
         have k9 : Below w5.heap.size w5 (wt7.alloc (.cells #[.string ⟨#[]⟩, .slice none 0 0, .int .i64 0] 40)) := k7.alloc k7.size _
         have MB9 : Hid (Blk (wt7.alloc (.cells #[.string ⟨#[]⟩, .slice none 0 0, .int .i64 0] 40)) wt7.heap.size #[.string ⟨#[]⟩, .slice none 0 0, .int .i64 0] 40) := Blk.new _ _ _
         have hM9 : w5.heap.size ≤ wt7.heap.size := k7.size
         have SA9 := hide (SA7.out.alloc (.cells #[.string ⟨#[]⟩, .slice none 0 0, .int .i64 0] 40))
         refine hK.out _ _ (by exact k9) (fun hHeld => ?_)
         clear hK K
         try simp only [Act.put, sqA, sqB, sqC, sqD, sqE, sqF]
         generalize (wt7.alloc (.cells #[.string ⟨#[]⟩, .slice none 0 0, .int .i64 0] 40)) = wt9 at *
         refine rdq 13 rfl fun K hK => ?_
         go_simp
         go_at_call 5
         refine (pick_any _ n (by omega) (by omega) ⟨by omega, by omega⟩ _).mono ?_
         rintro e wz ⟨kq, rfl, hkq, hwz⟩
         rw [hwz]
         clear hwz
         go_simp
         refine hK.out _ _ (by exact k9) (fun hHeld => ?_)
         clear hK K
         try simp only [Act.put, sqA, sqB, sqC, sqD, sqE, sqF]
         refine tkq (v := ?_) 14 rfl ?_ ?_
         rotate_left
         ·intro w' hSw
          go_simp <;> with_reducible rfl
         try simp only [Act.put, sqA, sqB, sqC, sqD, sqE, sqF]
         have f0 := MB9.out.cell 0
         have f1 := MB9.out.cell 1
         have f2 := MB9.out.cell 2
         have ff := MB9.out.frozen
         have fl := MB9.out.lt
         have kS : Below w5.heap.size w5 (((wt9.setCell ⟨wt7.heap.size, 0, none⟩ (.string s4)).setCell ⟨wt7.heap.size, 1, none⟩ (.slice none 0 0)).setCell ⟨wt7.heap.size, 2, none⟩ (.int .i64 (kq : Int))) := ((k9.setCell (p := ⟨wt7.heap.size, 0, none⟩) hM9 _).setCell (p := ⟨wt7.heap.size, 1, none⟩) hM9 _).setCell (p := ⟨wt7.heap.size, 2, none⟩) hM9 _
         have FIN : Hid (AfP w3 (n : Int) (.pointer (some ⟨wt7.heap.size, 0, none⟩)) (((wt9.setCell ⟨wt7.heap.size, 0, none⟩ (.string s4)).setCell ⟨wt7.heap.size, 1, none⟩ (.slice none 0 0)).setCell ⟨wt7.heap.size, 2, none⟩ (.int .i64 (kq : Int)))) := ⟨wt7.heap.size, s4, kq, rfl, ⟨((MB9.out.set 0 _).set 1 _).set 2 _, B5.out.trans (kS.mono B5.out.size), Nat.le_trans B5.out.size hM9⟩, hs5, by omega⟩
         refine rdq 16 rfl fun K hK => ?_
         go_simp
         refine hK.out _ _ (by exact kS) (fun hHeld => ?_)
         clear hK K
         try simp only [Act.put, sqA, sqB, sqC, sqD, sqE, sqF]
         refine wpAnyH_done (by kernel_rfl) ?_ _
         clear f0 f1 f2 ff fl
         go_wp2_with fail
         go_meet
         exact FIN.out
       ·go_simp
        go_at_call 5
        refine (pick_any _ n (by omega) (by omega) ⟨by omega, by omega⟩ _).mono ?_
        rintro e wz ⟨kq, rfl, hkq, hwz⟩
        rw [hwz]
        clear hwz
        go_simp
        refine hK.out _ _ (by exact k7) (fun hHeld => ?_)
        clear hK K
        try simp only [Act.put, sqA, sqB, sqC, sqD, sqE, sqF]
        refine wpAnyH_ready (rs := [4, 15]) (by kernel_rfl) (by simp) ?_
        refine AllReadyH.cons rfl (fun K hK => ?_) (AllReadyH.cons rfl (fun K hK => ?_) AllReadyH.nil)
        ·obtain ⟨s4, hs4, hs5⟩ := lit_nameA SA7.out hkp
         go_simp
         refine hK.out _ _ (by exact k7) (fun hHeld => ?_)
         clear hK K
         try simp only [Act.put, sqA, sqB, sqC, sqD, sqE, sqF]
         clear hs4
         refine tkq (v := ?_) 14 rfl ?_ ?_
         rotate_left
         ·intro w' hSw
          go_simp <;> with_reducible rfl
         try simp only [Act.put, sqA, sqB, sqC, sqD, sqE, sqF]
         refine rdq 15 rfl fun K hK => ?_
         go_simp
         have k10 : Below w5.heap.size w5 (wt7.alloc (.cells #[.string ⟨#[]⟩, .slice none 0 0, .int .i64 0] 40)) := k7.alloc k7.size _
         have MB10 : Hid (Blk (wt7.alloc (.cells #[.string ⟨#[]⟩, .slice none 0 0, .int .i64 0] 40)) wt7.heap.size #[.string ⟨#[]⟩, .slice none 0 0, .int .i64 0] 40) := Blk.new _ _ _
         have hM10 : w5.heap.size ≤ wt7.heap.size := k7.size
         have SA10 := hide (SA7.out.alloc (.cells #[.string ⟨#[]⟩, .slice none 0 0, .int .i64 0] 40))
         refine hK.out _ _ (by exact k10) (fun hHeld => ?_)
         clear hK K
         try simp only [Act.put, sqA, sqB, sqC, sqD, sqE, sqF]
         generalize (wt7.alloc (.cells #[.string ⟨#[]⟩, .slice none 0 0, .int .i64 0] 40)) = wt10 at *
         have f0 := MB10.out.cell 0
         have f1 := MB10.out.cell 1
         have f2 := MB10.out.cell 2
         have ff := MB10.out.frozen
         have fl := MB10.out.lt
         have kS : Below w5.heap.size w5 (((wt10.setCell ⟨wt7.heap.size, 0, none⟩ (.string s4)).setCell ⟨wt7.heap.size, 1, none⟩ (.slice none 0 0)).setCell ⟨wt7.heap.size, 2, none⟩ (.int .i64 (kq : Int))) := ((k10.setCell (p := ⟨wt7.heap.size, 0, none⟩) hM10 _).setCell (p := ⟨wt7.heap.size, 1, none⟩) hM10 _).setCell (p := ⟨wt7.heap.size, 2, none⟩) hM10 _
         have FIN : Hid (AfP w3 (n : Int) (.pointer (some ⟨wt7.heap.size, 0, none⟩)) (((wt10.setCell ⟨wt7.heap.size, 0, none⟩ (.string s4)).setCell ⟨wt7.heap.size, 1, none⟩ (.slice none 0 0)).setCell ⟨wt7.heap.size, 2, none⟩ (.int .i64 (kq : Int)))) := ⟨wt7.heap.size, s4, kq, rfl, ⟨((MB10.out.set 0 _).set 1 _).set 2 _, B5.out.trans (kS.mono B5.out.size), Nat.le_trans B5.out.size hM10⟩, hs5, by omega⟩
         refine rdq 16 rfl fun K hK => ?_
         go_simp
         refine hK.out _ _ (by exact kS) (fun hHeld => ?_)
         clear hK K
         try simp only [Act.put, sqA, sqB, sqC, sqD, sqE, sqF]
         refine wpAnyH_done (by kernel_rfl) ?_ _
         clear f0 f1 f2 ff fl
         go_wp2_with fail
         go_meet
         exact FIN.out
        ·go_simp
         have k11 : Below w5.heap.size w5 (wt7.alloc (.cells #[.string ⟨#[]⟩, .slice none 0 0, .int .i64 0] 40)) := k7.alloc k7.size _
         have MB11 : Hid (Blk (wt7.alloc (.cells #[.string ⟨#[]⟩, .slice none 0 0, .int .i64 0] 40)) wt7.heap.size #[.string ⟨#[]⟩, .slice none 0 0, .int .i64 0] 40) := Blk.new _ _ _
         have hM11 : w5.heap.size ≤ wt7.heap.size := k7.size
         have SA11 := hide (SA7.out.alloc (.cells #[.string ⟨#[]⟩, .slice none 0 0, .int .i64 0] 40))
         refine hK.out _ _ (by exact k11) (fun hHeld => ?_)
         clear hK K
         try simp only [Act.put, sqA, sqB, sqC, sqD, sqE, sqF]
         generalize (wt7.alloc (.cells #[.string ⟨#[]⟩, .slice none 0 0, .int .i64 0] 40)) = wt11 at *
         refine rdq 4 rfl fun K hK => ?_
         obtain ⟨s4, hs4, hs5⟩ := lit_nameA SA11.out hkp
         go_simp
         refine hK.out _ _ (by exact k11) (fun hHeld => ?_)
         clear hK K
         try simp only [Act.put, sqA, sqB, sqC, sqD, sqE, sqF]
         clear hs4
         refine tkq (v := ?_) 14 rfl ?_ ?_
         rotate_left
         ·intro w' hSw
          go_simp <;> with_reducible rfl
         try simp only [Act.put, sqA, sqB, sqC, sqD, sqE, sqF]
         have f0 := MB11.out.cell 0
         have f1 := MB11.out.cell 1
         have f2 := MB11.out.cell 2
         have ff := MB11.out.frozen
         have fl := MB11.out.lt
         have kS : Below w5.heap.size w5 (((wt11.setCell ⟨wt7.heap.size, 0, none⟩ (.string s4)).setCell ⟨wt7.heap.size, 1, none⟩ (.slice none 0 0)).setCell ⟨wt7.heap.size, 2, none⟩ (.int .i64 (kq : Int))) := ((k11.setCell (p := ⟨wt7.heap.size, 0, none⟩) hM11 _).setCell (p := ⟨wt7.heap.size, 1, none⟩) hM11 _).setCell (p := ⟨wt7.heap.size, 2, none⟩) hM11 _
         have FIN : Hid (AfP w3 (n : Int) (.pointer (some ⟨wt7.heap.size, 0, none⟩)) (((wt11.setCell ⟨wt7.heap.size, 0, none⟩ (.string s4)).setCell ⟨wt7.heap.size, 1, none⟩ (.slice none 0 0)).setCell ⟨wt7.heap.size, 2, none⟩ (.int .i64 (kq : Int)))) := ⟨wt7.heap.size, s4, kq, rfl, ⟨((MB11.out.set 0 _).set 1 _).set 2 _, B5.out.trans (kS.mono B5.out.size), Nat.le_trans B5.out.size hM11⟩, hs5, by omega⟩
         refine rdq 16 rfl fun K hK => ?_
         go_simp
         refine hK.out _ _ (by exact kS) (fun hHeld => ?_)
         clear hK K
         try simp only [Act.put, sqA, sqB, sqC, sqD, sqE, sqF]
         refine wpAnyH_done (by kernel_rfl) ?_ _
         clear f0 f1 f2 ff fl
         go_wp2_with fail
         go_meet
         exact FIN.out
       ·go_simp
        have k12 : Below w5.heap.size w5 (wt7.alloc (.cells #[.string ⟨#[]⟩, .slice none 0 0, .int .i64 0] 40)) := k7.alloc k7.size _
        have MB12 : Hid (Blk (wt7.alloc (.cells #[.string ⟨#[]⟩, .slice none 0 0, .int .i64 0] 40)) wt7.heap.size #[.string ⟨#[]⟩, .slice none 0 0, .int .i64 0] 40) := Blk.new _ _ _
        have hM12 : w5.heap.size ≤ wt7.heap.size := k7.size
        have SA12 := hide (SA7.out.alloc (.cells #[.string ⟨#[]⟩, .slice none 0 0, .int .i64 0] 40))
        refine hK.out _ _ (by exact k12) (fun hHeld => ?_)
        clear hK K
        try simp only [Act.put, sqA, sqB, sqC, sqD, sqE, sqF]
        generalize (wt7.alloc (.cells #[.string ⟨#[]⟩, .slice none 0 0, .int .i64 0] 40)) = wt12 at *
        refine wpAnyH_ready (rs := [4, 13]) (by kernel_rfl) (by simp) ?_
        refine AllReadyH.cons rfl (fun K hK => ?_) (AllReadyH.cons rfl (fun K hK => ?_) AllReadyH.nil)
        ·obtain ⟨s4, hs4, hs5⟩ := lit_nameA SA12.out hkp
         go_simp
         refine hK.out _ _ (by exact k12) (fun hHeld => ?_)
         clear hK K
         try simp only [Act.put, sqA, sqB, sqC, sqD, sqE, sqF]
         clear hs4
         refine rdq 13 rfl fun K hK => ?_
         go_simp
         go_at_call 5
         refine (pick_any _ n (by omega) (by omega) ⟨by omega, by omega⟩ _).mono ?_
         rintro e wz ⟨kq, rfl, hkq, hwz⟩
         rw [hwz]
         clear hwz
         go_simp
         refine hK.out _ _ (by exact k12) (fun hHeld => ?_)
         clear hK K
         try simp only [Act.put, sqA, sqB, sqC, sqD, sqE, sqF]
         refine tkq (v := ?_) 14 rfl ?_ ?_
         rotate_left
         ·intro w' hSw
          go_simp <;> with_reducible rfl
         try simp only [Act.put, sqA, sqB, sqC, sqD, sqE, sqF]
         have f0 := MB12.out.cell 0
         have f1 := MB12.out.cell 1
         have f2 := MB12.out.cell 2
         have ff := MB12.out.frozen
         have fl := MB12.out.lt
         have kS : Below w5.heap.size w5 (((wt12.setCell ⟨wt7.heap.size, 0, none⟩ (.string s4)).setCell ⟨wt7.heap.size, 1, none⟩ (.slice none 0 0)).setCell ⟨wt7.heap.size, 2, none⟩ (.int .i64 (kq : Int))) := ((k12.setCell (p := ⟨wt7.heap.size, 0, none⟩) hM12 _).setCell (p := ⟨wt7.heap.size, 1, none⟩) hM12 _).setCell (p := ⟨wt7.heap.size, 2, none⟩) hM12 _
         have FIN : Hid (AfP w3 (n : Int) (.pointer (some ⟨wt7.heap.size, 0, none⟩)) (((wt12.setCell ⟨wt7.heap.size, 0, none⟩ (.string s4)).setCell ⟨wt7.heap.size, 1, none⟩ (.slice none 0 0)).setCell ⟨wt7.heap.size, 2, none⟩ (.int .i64 (kq : Int)))) := ⟨wt7.heap.size, s4, kq, rfl, ⟨((MB12.out.set 0 _).set 1 _).set 2 _, B5.out.trans (kS.mono B5.out.size), Nat.le_trans B5.out.size hM12⟩, hs5, by omega⟩
         refine rdq 16 rfl fun K hK => ?_
         go_simp
         refine hK.out _ _ (by exact kS) (fun hHeld => ?_)
         clear hK K
         try simp only [Act.put, sqA, sqB, sqC, sqD, sqE, sqF]
         refine wpAnyH_done (by kernel_rfl) ?_ _
         clear f0 f1 f2 ff fl
         go_wp2_with fail
         go_meet
         exact FIN.out
        ·go_simp
         go_at_call 5
         refine (pick_any _ n (by omega) (by omega) ⟨by omega, by omega⟩ _).mono ?_
         rintro e wz ⟨kq, rfl, hkq, hwz⟩
         rw [hwz]
         clear hwz
         go_simp
         refine hK.out _ _ (by exact k12) (fun hHeld => ?_)
         clear hK K
         try simp only [Act.put, sqA, sqB, sqC, sqD, sqE, sqF]
         refine rdq 4 rfl fun K hK => ?_
         obtain ⟨s4, hs4, hs5⟩ := lit_nameA SA12.out hkp
         go_simp
         refine hK.out _ _ (by exact k12) (fun hHeld => ?_)
         clear hK K
         try simp only [Act.put, sqA, sqB, sqC, sqD, sqE, sqF]
         clear hs4
         refine tkq (v := ?_) 14 rfl ?_ ?_
         rotate_left
         ·intro w' hSw
          go_simp <;> with_reducible rfl
         try simp only [Act.put, sqA, sqB, sqC, sqD, sqE, sqF]
         have f0 := MB12.out.cell 0
         have f1 := MB12.out.cell 1
         have f2 := MB12.out.cell 2
         have ff := MB12.out.frozen
         have fl := MB12.out.lt
         have kS : Below w5.heap.size w5 (((wt12.setCell ⟨wt7.heap.size, 0, none⟩ (.string s4)).setCell ⟨wt7.heap.size, 1, none⟩ (.slice none 0 0)).setCell ⟨wt7.heap.size, 2, none⟩ (.int .i64 (kq : Int))) := ((k12.setCell (p := ⟨wt7.heap.size, 0, none⟩) hM12 _).setCell (p := ⟨wt7.heap.size, 1, none⟩) hM12 _).setCell (p := ⟨wt7.heap.size, 2, none⟩) hM12 _
         have FIN : Hid (AfP w3 (n : Int) (.pointer (some ⟨wt7.heap.size, 0, none⟩)) (((wt12.setCell ⟨wt7.heap.size, 0, none⟩ (.string s4)).setCell ⟨wt7.heap.size, 1, none⟩ (.slice none 0 0)).setCell ⟨wt7.heap.size, 2, none⟩ (.int .i64 (kq : Int)))) := ⟨wt7.heap.size, s4, kq, rfl, ⟨((MB12.out.set 0 _).set 1 _).set 2 _, B5.out.trans (kS.mono B5.out.size), Nat.le_trans B5.out.size hM12⟩, hs5, by omega⟩
         refine rdq 16 rfl fun K hK => ?_
         go_simp
         refine hK.out _ _ (by exact kS) (fun hHeld => ?_)
         clear hK K
         try simp only [Act.put, sqA, sqB, sqC, sqD, sqE, sqF]
         refine wpAnyH_done (by kernel_rfl) ?_ _
         clear f0 f1 f2 ff fl
         go_wp2_with fail
         go_meet
         exact FIN.out
      ·go_simp
       have k13 : Below w5.heap.size w5 (wt1.alloc (.cells #[.string ⟨#[]⟩, .slice none 0 0, .int .i64 0] 40)) := k1.alloc k1.size _
       have MB13 : Hid (Blk (wt1.alloc (.cells #[.string ⟨#[]⟩, .slice none 0 0, .int .i64 0] 40)) wt1.heap.size #[.string ⟨#[]⟩, .slice none 0 0, .int .i64 0] 40) := Blk.new _ _ _
       have hM13 : w5.heap.size ≤ wt1.heap.size := k1.size
       have SA13 := hide (SA1.out.alloc (.cells #[.string ⟨#[]⟩, .slice none 0 0, .int .i64 0] 40))
       refine hK.out _ _ (by exact k13) (fun hHeld => ?_)
       clear hK K
       try simp only [Act.put, sqA, sqB, sqC, sqD, sqE, sqF]
       generalize (wt1.alloc (.cells #[.string ⟨#[]⟩, .slice none 0 0, .int .i64 0] 40)) = wt13 at *
       refine wpAnyH_ready (rs := [4, 11]) (by kernel_rfl) (by simp) ?_
       refine AllReadyH.cons rfl (fun K hK => ?_) (AllReadyH.cons rfl (fun K hK => ?_) AllReadyH.nil)
       ·obtain ⟨s4, hs4, hs5⟩ := lit_nameA SA13.out hkp
        go_simp
        refine hK.out _ _ (by exact k13) (fun hHeld => ?_)
        clear hK K
        try simp only [Act.put, sqA, sqB, sqC, sqD, sqE, sqF]
        clear hs4
        refine rdq 11 rfl fun K hK => ?_
        go_simp
        go_at_call 10
        refine (RAW.out _ (at_ + 4 * k + 1) (by omega) (by omega) _ (B5.out.trans (k13.mono B5.out.size))).mono ?_
        rintro e wt14 ⟨cr, rfl, hcr, hb14⟩
        have k14 : Below w5.heap.size w5 wt14 := k13.trans (hb14.mono k13.size)
        have SA14 := hide (SA13.out.below hb14 SA13.out.lt)
        have MB14 := hide (MB13.out.below hb14 MB13.out.lt)
        clear hb14
        go_simp
        refine hK.out _ _ (by exact k14) (fun hHeld => ?_)
        clear hK K
        try simp only [Act.put, sqA, sqB, sqC, sqD, sqE, sqF]
        refine rdq 13 rfl fun K hK => ?_
        go_simp
        go_at_call 5
        refine (pick_any _ n (by omega) (by omega) ⟨by omega, by omega⟩ _).mono ?_
        rintro e wz ⟨kq, rfl, hkq, hwz⟩
        rw [hwz]
        clear hwz
        go_simp
        refine hK.out _ _ (by exact k14) (fun hHeld => ?_)
        clear hK K
        try simp only [Act.put, sqA, sqB, sqC, sqD, sqE, sqF]
        refine tkq (v := ?_) 14 rfl ?_ ?_
        rotate_left
        ·intro w' hSw
         go_simp <;> with_reducible rfl
        try simp only [Act.put, sqA, sqB, sqC, sqD, sqE, sqF]
        have f0 := MB14.out.cell 0
        have f1 := MB14.out.cell 1
        have f2 := MB14.out.cell 2
        have ff := MB14.out.frozen
        have fl := MB14.out.lt
        have kS : Below w5.heap.size w5 (((wt14.setCell ⟨wt1.heap.size, 0, none⟩ (.string s4)).setCell ⟨wt1.heap.size, 1, none⟩ (.slice none 0 0)).setCell ⟨wt1.heap.size, 2, none⟩ (.int .i64 (kq : Int))) := ((k14.setCell (p := ⟨wt1.heap.size, 0, none⟩) hM13 _).setCell (p := ⟨wt1.heap.size, 1, none⟩) hM13 _).setCell (p := ⟨wt1.heap.size, 2, none⟩) hM13 _
        have FIN : Hid (AfP w3 (n : Int) (.pointer (some ⟨wt1.heap.size, 0, none⟩)) (((wt14.setCell ⟨wt1.heap.size, 0, none⟩ (.string s4)).setCell ⟨wt1.heap.size, 1, none⟩ (.slice none 0 0)).setCell ⟨wt1.heap.size, 2, none⟩ (.int .i64 (kq : Int)))) := ⟨wt1.heap.size, s4, kq, rfl, ⟨((MB14.out.set 0 _).set 1 _).set 2 _, B5.out.trans (kS.mono B5.out.size), Nat.le_trans B5.out.size hM13⟩, hs5, by omega⟩
        refine rdq 16 rfl fun K hK => ?_
        go_simp
        refine hK.out _ _ (by exact kS) (fun hHeld => ?_)
        clear hK K
        try simp only [Act.put, sqA, sqB, sqC, sqD, sqE, sqF]
        refine wpAnyH_done (by kernel_rfl) ?_ _
        clear f0 f1 f2 ff fl
        go_wp2_with fail
        go_meet
        exact FIN.out
       ·go_simp
        go_at_call 10
        refine (RAW.out _ (at_ + 4 * k + 1) (by omega) (by omega) _ (B5.out.trans (k13.mono B5.out.size))).mono ?_
        rintro e wt15 ⟨cr, rfl, hcr, hb15⟩
        have k15 : Below w5.heap.size w5 wt15 := k13.trans (hb15.mono k13.size)
        have SA15 := hide (SA13.out.below hb15 SA13.out.lt)
        have MB15 := hide (MB13.out.below hb15 MB13.out.lt)
        clear hb15
        go_simp
        refine hK.out _ _ (by exact k15) (fun hHeld => ?_)
        clear hK K
        try simp only [Act.put, sqA, sqB, sqC, sqD, sqE, sqF]
        refine wpAnyH_ready (rs := [4, 13]) (by kernel_rfl) (by simp) ?_
        refine AllReadyH.cons rfl (fun K hK => ?_) (AllReadyH.cons rfl (fun K hK => ?_) AllReadyH.nil)
        ·obtain ⟨s4, hs4, hs5⟩ := lit_nameA SA15.out hkp
         go_simp
         refine hK.out _ _ (by exact k15) (fun hHeld => ?_)
         clear hK K
         try simp only [Act.put, sqA, sqB, sqC, sqD, sqE, sqF]
         clear hs4
         refine rdq 13 rfl fun K hK => ?_
         go_simp
         go_at_call 5
         refine (pick_any _ n (by omega) (by omega) ⟨by omega, by omega⟩ _).mono ?_
         rintro e wz ⟨kq, rfl, hkq, hwz⟩
         rw [hwz]
         clear hwz
         go_simp
         refine hK.out _ _ (by exact k15) (fun hHeld => ?_)
         clear hK K
         try simp only [Act.put, sqA, sqB, sqC, sqD, sqE, sqF]
         refine tkq (v := ?_) 14 rfl ?_ ?_
         rotate_left
         ·intro w' hSw
          go_simp <;> with_reducible rfl
         try simp only [Act.put, sqA, sqB, sqC, sqD, sqE, sqF]
         have f0 := MB15.out.cell 0
         have f1 := MB15.out.cell 1
         have f2 := MB15.out.cell 2
         have ff := MB15.out.frozen
         have fl := MB15.out.lt
         have kS : Below w5.heap.size w5 (((wt15.setCell ⟨wt1.heap.size, 0, none⟩ (.string s4)).setCell ⟨wt1.heap.size, 1, none⟩ (.slice none 0 0)).setCell ⟨wt1.heap.size, 2, none⟩ (.int .i64 (kq : Int))) := ((k15.setCell (p := ⟨wt1.heap.size, 0, none⟩) hM13 _).setCell (p := ⟨wt1.heap.size, 1, none⟩) hM13 _).setCell (p := ⟨wt1.heap.size, 2, none⟩) hM13 _
         have FIN : Hid (AfP w3 (n : Int) (.pointer (some ⟨wt1.heap.size, 0, none⟩)) (((wt15.setCell ⟨wt1.heap.size, 0, none⟩ (.string s4)).setCell ⟨wt1.heap.size, 1, none⟩ (.slice none 0 0)).setCell ⟨wt1.heap.size, 2, none⟩ (.int .i64 (kq : Int)))) := ⟨wt1.heap.size, s4, kq, rfl, ⟨((MB15.out.set 0 _).set 1 _).set 2 _, B5.out.trans (kS.mono B5.out.size), Nat.le_trans B5.out.size hM13⟩, hs5, by omega⟩
         refine rdq 16 rfl fun K hK => ?_
         go_simp
         refine hK.out _ _ (by exact kS) (fun hHeld => ?_)
         clear hK K
         try simp only [Act.put, sqA, sqB, sqC, sqD, sqE, sqF]
         refine wpAnyH_done (by kernel_rfl) ?_ _
         clear f0 f1 f2 ff fl
         go_wp2_with fail
         go_meet
         exact FIN.out
        ·go_simp
         go_at_call 5
         refine (pick_any _ n (by omega) (by omega) ⟨by omega, by omega⟩ _).mono ?_
         rintro e wz ⟨kq, rfl, hkq, hwz⟩
         rw [hwz]
         clear hwz
         go_simp
         refine hK.out _ _ (by exact k15) (fun hHeld => ?_)
         clear hK K
         try simp only [Act.put, sqA, sqB, sqC, sqD, sqE, sqF]
         refine rdq 4 rfl fun K hK => ?_
         obtain ⟨s4, hs4, hs5⟩ := lit_nameA SA15.out hkp
         go_simp
         refine hK.out _ _ (by exact k15) (fun hHeld => ?_)
         clear hK K
         try simp only [Act.put, sqA, sqB, sqC, sqD, sqE, sqF]
         clear hs4
         refine tkq (v := ?_) 14 rfl ?_ ?_
         rotate_left
         ·intro w' hSw
          go_simp <;> with_reducible rfl
         try simp only [Act.put, sqA, sqB, sqC, sqD, sqE, sqF]
         have f0 := MB15.out.cell 0
         have f1 := MB15.out.cell 1
         have f2 := MB15.out.cell 2
         have ff := MB15.out.frozen
         have fl := MB15.out.lt
         have kS : Below w5.heap.size w5 (((wt15.setCell ⟨wt1.heap.size, 0, none⟩ (.string s4)).setCell ⟨wt1.heap.size, 1, none⟩ (.slice none 0 0)).setCell ⟨wt1.heap.size, 2, none⟩ (.int .i64 (kq : Int))) := ((k15.setCell (p := ⟨wt1.heap.size, 0, none⟩) hM13 _).setCell (p := ⟨wt1.heap.size, 1, none⟩) hM13 _).setCell (p := ⟨wt1.heap.size, 2, none⟩) hM13 _
         have FIN : Hid (AfP w3 (n : Int) (.pointer (some ⟨wt1.heap.size, 0, none⟩)) (((wt15.setCell ⟨wt1.heap.size, 0, none⟩ (.string s4)).setCell ⟨wt1.heap.size, 1, none⟩ (.slice none 0 0)).setCell ⟨wt1.heap.size, 2, none⟩ (.int .i64 (kq : Int)))) := ⟨wt1.heap.size, s4, kq, rfl, ⟨((MB15.out.set 0 _).set 1 _).set 2 _, B5.out.trans (kS.mono B5.out.size), Nat.le_trans B5.out.size hM13⟩, hs5, by omega⟩
         refine rdq 16 rfl fun K hK => ?_
         go_simp
         refine hK.out _ _ (by exact kS) (fun hHeld => ?_)
         clear hK K
         try simp only [Act.put, sqA, sqB, sqC, sqD, sqE, sqF]
         refine wpAnyH_done (by kernel_rfl) ?_ _
         clear f0 f1 f2 ff fl
         go_wp2_with fail
         go_meet
         exact FIN.out
     ·go_simp
      have k16 : Below w5.heap.size w5 (wt1.alloc (.cells #[.string ⟨#[]⟩, .slice none 0 0, .int .i64 0] 40)) := k1.alloc k1.size _
      have MB16 : Hid (Blk (wt1.alloc (.cells #[.string ⟨#[]⟩, .slice none 0 0, .int .i64 0] 40)) wt1.heap.size #[.string ⟨#[]⟩, .slice none 0 0, .int .i64 0] 40) := Blk.new _ _ _
      have hM16 : w5.heap.size ≤ wt1.heap.size := k1.size
      have SA16 := hide (SA1.out.alloc (.cells #[.string ⟨#[]⟩, .slice none 0 0, .int .i64 0] 40))
      refine hK.out _ _ (by exact k16) (fun hHeld => ?_)
      clear hK K
      try simp only [Act.put, sqA, sqB, sqC, sqD, sqE, sqF]
      generalize (wt1.alloc (.cells #[.string ⟨#[]⟩, .slice none 0 0, .int .i64 0] 40)) = wt16 at *
      refine rdq 2 rfl fun K hK => ?_
      go_simp
      go_at_call 5
      refine (pick_any _ 4 (by decide) (by decide) ⟨by omega, by omega⟩ _).mono ?_
      rintro e wz ⟨kp, rfl, hkp, hwz⟩
      rw [hwz]
      clear hwz
      have hkpi : (kp : Int) < 4 := by omega
      go_simp
      refine hK.out _ _ (by exact k16) (fun hHeld => ?_)
      clear hK K
      try simp only [Act.put, sqA, sqB, sqC, sqD, sqE, sqF]
      refine tkq (v := ?_) 3 rfl ?_ ?_
      rotate_left
      ·intro w' hSw
       go_simp <;> with_reducible rfl
      try simp only [Act.put, sqA, sqB, sqC, sqD, sqE, sqF]
      refine wpAnyH_ready (rs := [4, 11]) (by kernel_rfl) (by simp) ?_
      refine AllReadyH.cons rfl (fun K hK => ?_) (AllReadyH.cons rfl (fun K hK => ?_) AllReadyH.nil)
      ·obtain ⟨s4, hs4, hs5⟩ := lit_nameA SA16.out hkp
       go_simp
       refine hK.out _ _ (by exact k16) (fun hHeld => ?_)
       clear hK K
       try simp only [Act.put, sqA, sqB, sqC, sqD, sqE, sqF]
       clear hs4
       refine rdq 11 rfl fun K hK => ?_
       go_simp
       go_at_call 10
       refine (RAW.out _ (at_ + 4 * k + 1) (by omega) (by omega) _ (B5.out.trans (k16.mono B5.out.size))).mono ?_
       rintro e wt17 ⟨cr, rfl, hcr, hb17⟩
       have k17 : Below w5.heap.size w5 wt17 := k16.trans (hb17.mono k16.size)
       have SA17 := hide (SA16.out.below hb17 SA16.out.lt)
       have MB17 := hide (MB16.out.below hb17 MB16.out.lt)
       clear hb17
       go_simp
       refine hK.out _ _ (by exact k17) (fun hHeld => ?_)
       clear hK K
       try simp only [Act.put, sqA, sqB, sqC, sqD, sqE, sqF]
       refine rdq 13 rfl fun K hK => ?_
       go_simp
       go_at_call 5
       refine (pick_any _ n (by omega) (by omega) ⟨by omega, by omega⟩ _).mono ?_
       rintro e wz ⟨kq, rfl, hkq, hwz⟩
       rw [hwz]
       clear hwz
       go_simp
       refine hK.out _ _ (by exact k17) (fun hHeld => ?_)
       clear hK K
       try simp only [Act.put, sqA, sqB, sqC, sqD, sqE, sqF]
       refine tkq (v := ?_) 14 rfl ?_ ?_
       rotate_left
       ·intro w' hSw
        go_simp <;> with_reducible rfl
       try simp only [Act.put, sqA, sqB, sqC, sqD, sqE, sqF]
       have f0 := MB17.out.cell 0
       have f1 := MB17.out.cell 1
       have f2 := MB17.out.cell 2
       have ff := MB17.out.frozen
       have fl := MB17.out.lt
       have kS : Below w5.heap.size w5 (((wt17.setCell ⟨wt1.heap.size, 0, none⟩ (.string s4)).setCell ⟨wt1.heap.size, 1, none⟩ (.slice none 0 0)).setCell ⟨wt1.heap.size, 2, none⟩ (.int .i64 (kq : Int))) := ((k17.setCell (p := ⟨wt1.heap.size, 0, none⟩) hM16 _).setCell (p := ⟨wt1.heap.size, 1, none⟩) hM16 _).setCell (p := ⟨wt1.heap.size, 2, none⟩) hM16 _
       have FIN : Hid (AfP w3 (n : Int) (.pointer (some ⟨wt1.heap.size, 0, none⟩)) (((wt17.setCell ⟨wt1.heap.size, 0, none⟩ (.string s4)).setCell ⟨wt1.heap.size, 1, none⟩ (.slice none 0 0)).setCell ⟨wt1.heap.size, 2, none⟩ (.int .i64 (kq : Int)))) := ⟨wt1.heap.size, s4, kq, rfl, ⟨((MB17.out.set 0 _).set 1 _).set 2 _, B5.out.trans (kS.mono B5.out.size), Nat.le_trans B5.out.size hM16⟩, hs5, by omega⟩
       refine rdq 16 rfl fun K hK => ?_
       go_simp
       refine hK.out _ _ (by exact kS) (fun hHeld => ?_)
       clear hK K
       try simp only [Act.put, sqA, sqB, sqC, sqD, sqE, sqF]
       refine wpAnyH_done (by kernel_rfl) ?_ _
       clear f0 f1 f2 ff fl
       go_wp2_with fail
       go_meet
       exact FIN.out
      ·go_simp
       go_at_call 10
       refine (RAW.out _ (at_ + 4 * k + 1) (by omega) (by omega) _ (B5.out.trans (k16.mono B5.out.size))).mono ?_
       rintro e wt18 ⟨cr, rfl, hcr, hb18⟩
       have k18 : Below w5.heap.size w5 wt18 := k16.trans (hb18.mono k16.size)
       have SA18 := hide (SA16.out.below hb18 SA16.out.lt)
       have MB18 := hide (MB16.out.below hb18 MB16.out.lt)
       clear hb18
       go_simp
       refine hK.out _ _ (by exact k18) (fun hHeld => ?_)
       clear hK K
       try simp only [Act.put, sqA, sqB, sqC, sqD, sqE, sqF]
       refine wpAnyH_ready (rs := [4, 13]) (by kernel_rfl) (by simp) ?_
       refine AllReadyH.cons rfl (fun K hK => ?_) (AllReadyH.cons rfl (fun K hK => ?_) AllReadyH.nil)
       ·obtain ⟨s4, hs4, hs5⟩ := lit_nameA SA18.out hkp
        go_simp
        refine hK.out _ _ (by exact k18) (fun hHeld => ?_)
        clear hK K
        try simp only [Act.put, sqA, sqB, sqC, sqD, sqE, sqF]
        clear hs4
        refine rdq 13 rfl fun K hK => ?_
        go_simp
        go_at_call 5
        refine (pick_any _ n (by omega) (by omega) ⟨by omega, by omega⟩ _).mono ?_
        rintro e wz ⟨kq, rfl, hkq, hwz⟩
        rw [hwz]
        clear hwz
        go_simp
        refine hK.out _ _ (by exact k18) (fun hHeld => ?_)
        clear hK K
        try simp only [Act.put, sqA, sqB, sqC, sqD, sqE, sqF]
        refine tkq (v := ?_) 14 rfl ?_ ?_
        rotate_left
        ·intro w' hSw
         go_simp <;> with_reducible rfl
        try simp only [Act.put, sqA, sqB, sqC, sqD, sqE, sqF]
        have f0 := MB18.out.cell 0
        have f1 := MB18.out.cell 1
        have f2 := MB18.out.cell 2
        have ff := MB18.out.frozen
        have fl := MB18.out.lt
        have kS : Below w5.heap.size w5 (((wt18.setCell ⟨wt1.heap.size, 0, none⟩ (.string s4)).setCell ⟨wt1.heap.size, 1, none⟩ (.slice none 0 0)).setCell ⟨wt1.heap.size, 2, none⟩ (.int .i64 (kq : Int))) := ((k18.setCell (p := ⟨wt1.heap.size, 0, none⟩) hM16 _).setCell (p := ⟨wt1.heap.size, 1, none⟩) hM16 _).setCell (p := ⟨wt1.heap.size, 2, none⟩) hM16 _
        have FIN : Hid (AfP w3 (n : Int) (.pointer (some ⟨wt1.heap.size, 0, none⟩)) (((wt18.setCell ⟨wt1.heap.size, 0, none⟩ (.string s4)).setCell ⟨wt1.heap.size, 1, none⟩ (.slice none 0 0)).setCell ⟨wt1.heap.size, 2, none⟩ (.int .i64 (kq : Int)))) := ⟨wt1.heap.size, s4, kq, rfl, ⟨((MB18.out.set 0 _).set 1 _).set 2 _, B5.out.trans (kS.mono B5.out.size), Nat.le_trans B5.out.size hM16⟩, hs5, by omega⟩
        refine rdq 16 rfl fun K hK => ?_
        go_simp
        refine hK.out _ _ (by exact kS) (fun hHeld => ?_)
        clear hK K
        try simp only [Act.put, sqA, sqB, sqC, sqD, sqE, sqF]
        refine wpAnyH_done (by kernel_rfl) ?_ _
        clear f0 f1 f2 ff fl
        go_wp2_with fail
        go_meet
        exact FIN.out
       ·go_simp
        go_at_call 5
        refine (pick_any _ n (by omega) (by omega) ⟨by omega, by omega⟩ _).mono ?_
        rintro e wz ⟨kq, rfl, hkq, hwz⟩
        rw [hwz]
        clear hwz
        go_simp
        refine hK.out _ _ (by exact k18) (fun hHeld => ?_)
        clear hK K
        try simp only [Act.put, sqA, sqB, sqC, sqD, sqE, sqF]
        refine rdq 4 rfl fun K hK => ?_
        obtain ⟨s4, hs4, hs5⟩ := lit_nameA SA18.out hkp
        go_simp
        refine hK.out _ _ (by exact k18) (fun hHeld => ?_)
        clear hK K
        try simp only [Act.put, sqA, sqB, sqC, sqD, sqE, sqF]
        clear hs4
        refine tkq (v := ?_) 14 rfl ?_ ?_
        rotate_left
        ·intro w' hSw
         go_simp <;> with_reducible rfl
        try simp only [Act.put, sqA, sqB, sqC, sqD, sqE, sqF]
        have f0 := MB18.out.cell 0
        have f1 := MB18.out.cell 1
        have f2 := MB18.out.cell 2
        have ff := MB18.out.frozen
        have fl := MB18.out.lt
        have kS : Below w5.heap.size w5 (((wt18.setCell ⟨wt1.heap.size, 0, none⟩ (.string s4)).setCell ⟨wt1.heap.size, 1, none⟩ (.slice none 0 0)).setCell ⟨wt1.heap.size, 2, none⟩ (.int .i64 (kq : Int))) := ((k18.setCell (p := ⟨wt1.heap.size, 0, none⟩) hM16 _).setCell (p := ⟨wt1.heap.size, 1, none⟩) hM16 _).setCell (p := ⟨wt1.heap.size, 2, none⟩) hM16 _
        have FIN : Hid (AfP w3 (n : Int) (.pointer (some ⟨wt1.heap.size, 0, none⟩)) (((wt18.setCell ⟨wt1.heap.size, 0, none⟩ (.string s4)).setCell ⟨wt1.heap.size, 1, none⟩ (.slice none 0 0)).setCell ⟨wt1.heap.size, 2, none⟩ (.int .i64 (kq : Int)))) := ⟨wt1.heap.size, s4, kq, rfl, ⟨((MB18.out.set 0 _).set 1 _).set 2 _, B5.out.trans (kS.mono B5.out.size), Nat.le_trans B5.out.size hM16⟩, hs5, by omega⟩
        refine rdq 16 rfl fun K hK => ?_
        go_simp
        refine hK.out _ _ (by exact kS) (fun hHeld => ?_)
        clear hK K
        try simp only [Act.put, sqA, sqB, sqC, sqD, sqE, sqF]
        refine wpAnyH_done (by kernel_rfl) ?_ _
        clear f0 f1 f2 ff fl
        go_wp2_with fail
        go_meet
        exact FIN.out
    ·go_simp
     go_at_call 5
     refine (pick_any _ 4 (by decide) (by decide) ⟨by omega, by omega⟩ _).mono ?_
     rintro e wz ⟨kp, rfl, hkp, hwz⟩
     rw [hwz]
     clear hwz
     have hkpi : (kp : Int) < 4 := by omega
     go_simp
     refine hK.out _ _ (by exact kd) (fun hHeld => ?_)
     clear hK K
     try simp only [Act.put, sqA, sqB, sqC, sqD, sqE, sqF]
     refine wpAnyH_ready (rs := [0, 11, 15]) (by kernel_rfl) (by simp) ?_
     refine AllReadyH.cons rfl (fun K hK => ?_) (AllReadyH.cons rfl (fun K hK => ?_) (AllReadyH.cons rfl (fun K hK => ?_) AllReadyH.nil))
     ·go_simp
      have k19 : Below w5.heap.size w5 (wd.alloc (.cells #[.string ⟨#[97]⟩, .string ⟨#[98]⟩, .string ⟨#[104]⟩, .string ⟨#[102]⟩] 9)) := kd.alloc kd.size _
      have SA19 : Hid (Blk (wd.alloc (.cells #[.string ⟨#[97]⟩, .string ⟨#[98]⟩, .string ⟨#[104]⟩, .string ⟨#[102]⟩] 9)) wd.heap.size #[.string ⟨#[97]⟩, .string ⟨#[98]⟩, .string ⟨#[104]⟩, .string ⟨#[102]⟩] 9) := Blk.new _ _ _
      refine hK.out _ _ (by exact k19) (fun hHeld => ?_)
      clear hK K
      try simp only [Act.put, sqA, sqB, sqC, sqD, sqE, sqF]
      generalize (wd.alloc (.cells #[.string ⟨#[97]⟩, .string ⟨#[98]⟩, .string ⟨#[104]⟩, .string ⟨#[102]⟩] 9)) = wt19 at *
      refine tkq (v := ?_) 3 rfl ?_ ?_
      rotate_left
      ·intro w' hSw
       go_simp <;> with_reducible rfl
      try simp only [Act.put, sqA, sqB, sqC, sqD, sqE, sqF]
      refine wpAnyH_ready (rs := [4, 11, 15]) (by kernel_rfl) (by simp) ?_
      refine AllReadyH.cons rfl (fun K hK => ?_) (AllReadyH.cons rfl (fun K hK => ?_) (AllReadyH.cons rfl (fun K hK => ?_) AllReadyH.nil))
      ·obtain ⟨s4, hs4, hs5⟩ := lit_nameA SA19.out hkp
       go_simp
       refine hK.out _ _ (by exact k19) (fun hHeld => ?_)
       clear hK K
       try simp only [Act.put, sqA, sqB, sqC, sqD, sqE, sqF]
       clear hs4
       refine wpAnyH_ready (rs := [11, 15]) (by kernel_rfl) (by simp) ?_
       refine AllReadyH.cons rfl (fun K hK => ?_) (AllReadyH.cons rfl (fun K hK => ?_) AllReadyH.nil)
       ·go_simp
        go_at_call 10
        refine (RAW.out _ (at_ + 4 * k + 1) (by omega) (by omega) _ (B5.out.trans (k19.mono B5.out.size))).mono ?_
        rintro e wt20 ⟨cr, rfl, hcr, hb20⟩
        have k20 : Below w5.heap.size w5 wt20 := k19.trans (hb20.mono k19.size)
        have SA20 := hide (SA19.out.below hb20 SA19.out.lt)
        clear hb20
        go_simp
        refine hK.out _ _ (by exact k20) (fun hHeld => ?_)
        clear hK K
        try simp only [Act.put, sqA, sqB, sqC, sqD, sqE, sqF]
        refine wpAnyH_ready (rs := [13, 15]) (by kernel_rfl) (by simp) ?_
        refine AllReadyH.cons rfl (fun K hK => ?_) (AllReadyH.cons rfl (fun K hK => ?_) AllReadyH.nil)
        ·go_simp
         go_at_call 5
         refine (pick_any _ n (by omega) (by omega) ⟨by omega, by omega⟩ _).mono ?_
         rintro e wz ⟨kq, rfl, hkq, hwz⟩
         rw [hwz]
         clear hwz
         go_simp
         refine hK.out _ _ (by exact k20) (fun hHeld => ?_)
         clear hK K
         try simp only [Act.put, sqA, sqB, sqC, sqD, sqE, sqF]
         refine tkq (v := ?_) 14 rfl ?_ ?_
         rotate_left
         ·intro w' hSw
          go_simp <;> with_reducible rfl
         try simp only [Act.put, sqA, sqB, sqC, sqD, sqE, sqF]
         refine rdq 15 rfl fun K hK => ?_
         go_simp
         have k21 : Below w5.heap.size w5 (wt20.alloc (.cells #[.string ⟨#[]⟩, .slice none 0 0, .int .i64 0] 40)) := k20.alloc k20.size _
         have MB21 : Hid (Blk (wt20.alloc (.cells #[.string ⟨#[]⟩, .slice none 0 0, .int .i64 0] 40)) wt20.heap.size #[.string ⟨#[]⟩, .slice none 0 0, .int .i64 0] 40) := Blk.new _ _ _
         have hM21 : w5.heap.size ≤ wt20.heap.size := k20.size
         have SA21 := hide (SA20.out.alloc (.cells #[.string ⟨#[]⟩, .slice none 0 0, .int .i64 0] 40))
         refine hK.out _ _ (by exact k21) (fun hHeld => ?_)
         clear hK K
         try simp only [Act.put, sqA, sqB, sqC, sqD, sqE, sqF]
         generalize (wt20.alloc (.cells #[.string ⟨#[]⟩, .slice none 0 0, .int .i64 0] 40)) = wt21 at *
         have f0 := MB21.out.cell 0
         have f1 := MB21.out.cell 1
         have f2 := MB21.out.cell 2
         have ff := MB21.out.frozen
         have fl := MB21.out.lt
         have kS : Below w5.heap.size w5 (((wt21.setCell ⟨wt20.heap.size, 0, none⟩ (.string s4)).setCell ⟨wt20.heap.size, 1, none⟩ (.slice none 0 0)).setCell ⟨wt20.heap.size, 2, none⟩ (.int .i64 (kq : Int))) := ((k21.setCell (p := ⟨wt20.heap.size, 0, none⟩) hM21 _).setCell (p := ⟨wt20.heap.size, 1, none⟩) hM21 _).setCell (p := ⟨wt20.heap.size, 2, none⟩) hM21 _
         have FIN : Hid (AfP w3 (n : Int) (.pointer (some ⟨wt20.heap.size, 0, none⟩)) (((wt21.setCell ⟨wt20.heap.size, 0, none⟩ (.string s4)).setCell ⟨wt20.heap.size, 1, none⟩ (.slice none 0 0)).setCell ⟨wt20.heap.size, 2, none⟩ (.int .i64 (kq : Int)))) := ⟨wt20.heap.size, s4, kq, rfl, ⟨((MB21.out.set 0 _).set 1 _).set 2 _, B5.out.trans (kS.mono B5.out.size), Nat.le_trans B5.out.size hM21⟩, hs5, by omega⟩
         refine rdq 16 rfl fun K hK => ?_
         go_simp
         refine hK.out _ _ (by exact kS) (fun hHeld => ?_)
         clear hK K
         try simp only [Act.put, sqA, sqB, sqC, sqD, sqE, sqF]
         refine wpAnyH_done (by kernel_rfl) ?_ _
         clear f0 f1 f2 ff fl
         go_wp2_with fail
         go_meet
         exact FIN.out
        ·go_simp
         have k22 : Below w5.heap.size w5 (wt20.alloc (.cells #[.string ⟨#[]⟩, .slice none 0 0, .int .i64 0] 40)) := k20.alloc k20.size _
         have MB22 : Hid (Blk (wt20.alloc (.cells #[.string ⟨#[]⟩, .slice none 0 0, .int .i64 0] 40)) wt20.heap.size #[.string ⟨#[]⟩, .slice none 0 0, .int .i64 0] 40) := Blk.new _ _ _
         have hM22 : w5.heap.size ≤ wt20.heap.size := k20.size
         have SA22 := hide (SA20.out.alloc (.cells #[.string ⟨#[]⟩, .slice none 0 0, .int .i64 0] 40))
         refine hK.out _ _ (by exact k22) (fun hHeld => ?_)
         clear hK K
         try simp only [Act.put, sqA, sqB, sqC, sqD, sqE, sqF]
         generalize (wt20.alloc (.cells #[.string ⟨#[]⟩, .slice none 0 0, .int .i64 0] 40)) = wt22 at *
         refine rdq 13 rfl fun K hK => ?_
         go_simp
         go_at_call 5
         refine (pick_any _ n (by omega) (by omega) ⟨by omega, by omega⟩ _).mono ?_
         rintro e wz ⟨kq, rfl, hkq, hwz⟩
         rw [hwz]
         clear hwz
         go_simp
         refine hK.out _ _ (by exact k22) (fun hHeld => ?_)
         clear hK K
         try simp only [Act.put, sqA, sqB, sqC, sqD, sqE, sqF]
         refine tkq (v := ?_) 14 rfl ?_ ?_
         rotate_left
         ·intro w' hSw
          go_simp <;> with_reducible rfl
         try simp only [Act.put, sqA, sqB, sqC, sqD, sqE, sqF]
         have f0 := MB22.out.cell 0
         have f1 := MB22.out.cell 1
         have f2 := MB22.out.cell 2
         have ff := MB22.out.frozen
         have fl := MB22.out.lt
         have kS : Below w5.heap.size w5 (((wt22.setCell ⟨wt20.heap.size, 0, none⟩ (.string s4)).setCell ⟨wt20.heap.size, 1, none⟩ (.slice none 0 0)).setCell ⟨wt20.heap.size, 2, none⟩ (.int .i64 (kq : Int))) := ((k22.setCell (p := ⟨wt20.heap.size, 0, none⟩) hM22 _).setCell (p := ⟨wt20.heap.size, 1, none⟩) hM22 _).setCell (p := ⟨wt20.heap.size, 2, none⟩) hM22 _
         have FIN : Hid (AfP w3 (n : Int) (.pointer (some ⟨wt20.heap.size, 0, none⟩)) (((wt22.setCell ⟨wt20.heap.size, 0, none⟩ (.string s4)).setCell ⟨wt20.heap.size, 1, none⟩ (.slice none 0 0)).setCell ⟨wt20.heap.size, 2, none⟩ (.int .i64 (kq : Int)))) := ⟨wt20.heap.size, s4, kq, rfl, ⟨((MB22.out.set 0 _).set 1 _).set 2 _, B5.out.trans (kS.mono B5.out.size), Nat.le_trans B5.out.size hM22⟩, hs5, by omega⟩
         refine rdq 16 rfl fun K hK => ?_
         go_simp
         refine hK.out _ _ (by exact kS) (fun hHeld => ?_)
         clear hK K
         try simp only [Act.put, sqA, sqB, sqC, sqD, sqE, sqF]
         refine wpAnyH_done (by kernel_rfl) ?_ _
         clear f0 f1 f2 ff fl
         go_wp2_with fail
         go_meet
         exact FIN.out
       ·go_simp
        have k23 : Below w5.heap.size w5 (wt19.alloc (.cells #[.string ⟨#[]⟩, .slice none 0 0, .int .i64 0] 40)) := k19.alloc k19.size _
        have MB23 : Hid (Blk (wt19.alloc (.cells #[.string ⟨#[]⟩, .slice none 0 0, .int .i64 0] 40)) wt19.heap.size #[.string ⟨#[]⟩, .slice none 0 0, .int .i64 0] 40) := Blk.new _ _ _
        have hM23 : w5.heap.size ≤ wt19.heap.size := k19.size
        have SA23 := hide (SA19.out.alloc (.cells #[.string ⟨#[]⟩, .slice none 0 0, .int .i64 0] 40))
        refine hK.out _ _ (by exact k23) (fun hHeld => ?_)
        clear hK K
        try simp only [Act.put, sqA, sqB, sqC, sqD, sqE, sqF]
        generalize (wt19.alloc (.cells #[.string ⟨#[]⟩, .slice none 0 0, .int .i64 0] 40)) = wt23 at *
        refine rdq 11 rfl fun K hK => ?_
        go_simp
        go_at_call 10
        refine (RAW.out _ (at_ + 4 * k + 1) (by omega) (by omega) _ (B5.out.trans (k23.mono B5.out.size))).mono ?_
        rintro e wt24 ⟨cr, rfl, hcr, hb24⟩
        have k24 : Below w5.heap.size w5 wt24 := k23.trans (hb24.mono k23.size)
        have SA24 := hide (SA23.out.below hb24 SA23.out.lt)
        have MB24 := hide (MB23.out.below hb24 MB23.out.lt)
        clear hb24
        go_simp
        refine hK.out _ _ (by exact k24) (fun hHeld => ?_)
        clear hK K
        try simp only [Act.put, sqA, sqB, sqC, sqD, sqE, sqF]
        refine rdq 13 rfl fun K hK => ?_
        go_simp
        go_at_call 5
        refine (pick_any _ n (by omega) (by omega) ⟨by omega, by omega⟩ _).mono ?_
        rintro e wz ⟨kq, rfl, hkq, hwz⟩
        rw [hwz]
        clear hwz
        go_simp
        refine hK.out _ _ (by exact k24) (fun hHeld => ?_)
        clear hK K
        try simp only [Act.put, sqA, sqB, sqC, sqD, sqE, sqF]
        refine tkq (v := ?_) 14 rfl ?_ ?_
        rotate_left
        ·intro w' hSw
         go_simp <;> with_reducible rfl
        try simp only [Act.put, sqA, sqB, sqC, sqD, sqE, sqF]
        have f0 := MB24.out.cell 0
        have f1 := MB24.out.cell 1
        have f2 := MB24.out.cell 2
        have ff := MB24.out.frozen
        have fl := MB24.out.lt
        have kS : Below w5.heap.size w5 (((wt24.setCell ⟨wt19.heap.size, 0, none⟩ (.string s4)).setCell ⟨wt19.heap.size, 1, none⟩ (.slice none 0 0)).setCell ⟨wt19.heap.size, 2, none⟩ (.int .i64 (kq : Int))) := ((k24.setCell (p := ⟨wt19.heap.size, 0, none⟩) hM23 _).setCell (p := ⟨wt19.heap.size, 1, none⟩) hM23 _).setCell (p := ⟨wt19.heap.size, 2, none⟩) hM23 _
        have FIN : Hid (AfP w3 (n : Int) (.pointer (some ⟨wt19.heap.size, 0, none⟩)) (((wt24.setCell ⟨wt19.heap.size, 0, none⟩ (.string s4)).setCell ⟨wt19.heap.size, 1, none⟩ (.slice none 0 0)).setCell ⟨wt19.heap.size, 2, none⟩ (.int .i64 (kq : Int)))) := ⟨wt19.heap.size, s4, kq, rfl, ⟨((MB24.out.set 0 _).set 1 _).set 2 _, B5.out.trans (kS.mono B5.out.size), Nat.le_trans B5.out.size hM23⟩, hs5, by omega⟩
        refine rdq 16 rfl fun K hK => ?_
        go_simp
        refine hK.out _ _ (by exact kS) (fun hHeld => ?_)
        clear hK K
        try simp only [Act.put, sqA, sqB, sqC, sqD, sqE, sqF]
        refine wpAnyH_done (by kernel_rfl) ?_ _
        clear f0 f1 f2 ff fl
        go_wp2_with fail
        go_meet
        exact FIN.out
      ·go_simp
       go_at_call 10
       refine (RAW.out _ (at_ + 4 * k + 1) (by omega) (by omega) _ (B5.out.trans (k19.mono B5.out.size))).mono ?_
       rintro e wt25 ⟨cr, rfl, hcr, hb25⟩
       have k25 : Below w5.heap.size w5 wt25 := k19.trans (hb25.mono k19.size)
       have SA25 := hide (SA19.out.below hb25 SA19.out.lt)
       clear hb25
       go_simp
       refine hK.out _ _ (by exact k25) (fun hHeld => ?_)
       clear hK K
       try simp only [Act.put, sqA, sqB, sqC, sqD, sqE, sqF]
       refine wpAnyH_ready (rs := [4, 13, 15]) (by kernel_rfl) (by simp) ?_
       refine AllReadyH.cons rfl (fun K hK => ?_) (AllReadyH.cons rfl (fun K hK => ?_) (AllReadyH.cons rfl (fun K hK => ?_) AllReadyH.nil))
       ·obtain ⟨s4, hs4, hs5⟩ := lit_nameA SA25.out hkp
        go_simp
        refine hK.out _ _ (by exact k25) (fun hHeld => ?_)
        clear hK K
        try simp only [Act.put, sqA, sqB, sqC, sqD, sqE, sqF]
        clear hs4
        refine wpAnyH_ready (rs := [13, 15]) (by kernel_rfl) (by simp) ?_
        refine AllReadyH.cons rfl (fun K hK => ?_) (AllReadyH.cons rfl (fun K hK => ?_) AllReadyH.nil)
        ·go_simp
         go_at_call 5
         refine (pick_any _ n (by omega) (by omega) ⟨by omega, by omega⟩ _).mono ?_
         rintro e wz ⟨kq, rfl, hkq, hwz⟩
         rw [hwz]
         clear hwz
         go_simp
         refine hK.out _ _ (by exact k25) (fun hHeld => ?_)
         clear hK K
         try simp only [Act.put, sqA, sqB, sqC, sqD, sqE, sqF]
         refine tkq (v := ?_) 14 rfl ?_ ?_
         rotate_left
         ·intro w' hSw
          go_simp <;> with_reducible rfl
         try simp only [Act.put, sqA, sqB, sqC, sqD, sqE, sqF]
         refine rdq 15 rfl fun K hK => ?_
         go_simp
         have k26 : Below w5.heap.size w5 (wt25.alloc (.cells #[.string ⟨#[]⟩, .slice none 0 0, .int .i64 0] 40)) := k25.alloc k25.size _
         have MB26 : Hid (Blk (wt25.alloc (.cells #[.string ⟨#[]⟩, .slice none 0 0, .int .i64 0] 40)) wt25.heap.size #[.string ⟨#[]⟩, .slice none 0 0, .int .i64 0] 40) := Blk.new _ _ _
         have hM26 : w5.heap.size ≤ wt25.heap.size := k25.size
         have SA26 := hide (SA25.out.alloc (.cells #[.string ⟨#[]⟩, .slice none 0 0, .int .i64 0] 40))
         refine hK.out _ _ (by exact k26) (fun hHeld => ?_)
         clear hK K
         try simp only [Act.put, sqA, sqB, sqC, sqD, sqE, sqF]
         generalize (wt25.alloc (.cells #[.string ⟨#[]⟩, .slice none 0 0, .int .i64 0] 40)) = wt26 at *
         have f0 := MB26.out.cell 0
         have f1 := MB26.out.cell 1
         have f2 := MB26.out.cell 2
         have ff := MB26.out.frozen
         have fl := MB26.out.lt
         have kS : Below w5.heap.size w5 (((wt26.setCell ⟨wt25.heap.size, 0, none⟩ (.string s4)).setCell ⟨wt25.heap.size, 1, none⟩ (.slice none 0 0)).setCell ⟨wt25.heap.size, 2, none⟩ (.int .i64 (kq : Int))) := ((k26.setCell (p := ⟨wt25.heap.size, 0, none⟩) hM26 _).setCell (p := ⟨wt25.heap.size, 1, none⟩) hM26 _).setCell (p := ⟨wt25.heap.size, 2, none⟩) hM26 _
         have FIN : Hid (AfP w3 (n : Int) (.pointer (some ⟨wt25.heap.size, 0, none⟩)) (((wt26.setCell ⟨wt25.heap.size, 0, none⟩ (.string s4)).setCell ⟨wt25.heap.size, 1, none⟩ (.slice none 0 0)).setCell ⟨wt25.heap.size, 2, none⟩ (.int .i64 (kq : Int)))) := ⟨wt25.heap.size, s4, kq, rfl, ⟨((MB26.out.set 0 _).set 1 _).set 2 _, B5.out.trans (kS.mono B5.out.size), Nat.le_trans B5.out.size hM26⟩, hs5, by omega⟩
         refine rdq 16 rfl fun K hK => ?_
         go_simp
         refine hK.out _ _ (by exact kS) (fun hHeld => ?_)
         clear hK K
         try simp only [Act.put, sqA, sqB, sqC, sqD, sqE, sqF]
         refine wpAnyH_done (by kernel_rfl) ?_ _
         clear f0 f1 f2 ff fl
         go_wp2_with fail
         go_meet
         exact FIN.out
        ·go_simp
         have k27 : Below w5.heap.size w5 (wt25.alloc (.cells #[.string ⟨#[]⟩, .slice none 0 0, .int .i64 0] 40)) := k25.alloc k25.size _
         have MB27 : Hid (Blk (wt25.alloc (.cells #[.string ⟨#[]⟩, .slice none 0 0, .int .i64 0] 40)) wt25.heap.size #[.string ⟨#[]⟩, .slice none 0 0, .int .i64 0] 40) := Blk.new _ _ _
         have hM27 : w5.heap.size ≤ wt25.heap.size := k25.size
         have SA27 := hide (SA25.out.alloc (.cells #[.string ⟨#[]⟩, .slice none 0 0, .int .i64 0] 40))
         refine hK.out _ _ (by exact k27) (fun hHeld => ?_)
         clear hK K
         try simp only [Act.put, sqA, sqB, sqC, sqD, sqE, sqF]
         generalize (wt25.alloc (.cells #[.string ⟨#[]⟩, .slice none 0 0, .int .i64 0] 40)) = wt27 at *
         refine rdq 13 rfl fun K hK => ?_
         go_simp
         go_at_call 5
         refine (pick_any _ n (by omega) (by omega) ⟨by omega, by omega⟩ _).mono ?_
         rintro e wz ⟨kq, rfl, hkq, hwz⟩
         rw [hwz]
         clear hwz
         go_simp
         refine hK.out _ _ (by exact k27) (fun hHeld => ?_)
         clear hK K
         try simp only [Act.put, sqA, sqB, sqC, sqD, sqE, sqF]
         refine tkq (v := ?_) 14 rfl ?_ ?_
         rotate_left
         ·intro w' hSw
          go_simp <;> with_reducible rfl
         try simp only [Act.put, sqA, sqB, sqC, sqD, sqE, sqF]
         have f0 := MB27.out.cell 0
         have f1 := MB27.out.cell 1
         have f2 := MB27.out.cell 2
         have ff := MB27.out.frozen
         have fl := MB27.out.lt
         have kS : Below w5.heap.size w5 (((wt27.setCell ⟨wt25.heap.size, 0, none⟩ (.string s4)).setCell ⟨wt25.heap.size, 1, none⟩ (.slice none 0 0)).setCell ⟨wt25.heap.size, 2, none⟩ (.int .i64 (kq : Int))) := ((k27.setCell (p := ⟨wt25.heap.size, 0, none⟩) hM27 _).setCell (p := ⟨wt25.heap.size, 1, none⟩) hM27 _).setCell (p := ⟨wt25.heap.size, 2, none⟩) hM27 _
         have FIN : Hid (AfP w3 (n : Int) (.pointer (some ⟨wt25.heap.size, 0, none⟩)) (((wt27.setCell ⟨wt25.heap.size, 0, none⟩ (.string s4)).setCell ⟨wt25.heap.size, 1, none⟩ (.slice none 0 0)).setCell ⟨wt25.heap.size, 2, none⟩ (.int .i64 (kq : Int)))) := ⟨wt25.heap.size, s4, kq, rfl, ⟨((MB27.out.set 0 _).set 1 _).set 2 _, B5.out.trans (kS.mono B5.out.size), Nat.le_trans B5.out.size hM27⟩, hs5, by omega⟩
         refine rdq 16 rfl fun K hK => ?_
         go_simp
         refine hK.out _ _ (by exact kS) (fun hHeld => ?_)
         clear hK K
         try simp only [Act.put, sqA, sqB, sqC, sqD, sqE, sqF]
         refine wpAnyH_done (by kernel_rfl) ?_ _
         clear f0 f1 f2 ff fl
         go_wp2_with fail
         go_meet
         exact FIN.out
       ·go_simp
        go_at_call 5
        refine (pick_any _ n (by omega) (by omega) ⟨by omega, by omega⟩ _).mono ?_
        rintro e wz ⟨kq, rfl, hkq, hwz⟩
        rw [hwz]
        clear hwz
        go_simp
        refine hK.out _ _ (by exact k25) (fun hHeld => ?_)
        clear hK K
        try simp only [Act.put, sqA, sqB, sqC, sqD, sqE, sqF]
        refine wpAnyH_ready (rs := [4, 15]) (by kernel_rfl) (by simp) ?_
        refine AllReadyH.cons rfl (fun K hK => ?_) (AllReadyH.cons rfl (fun K hK => ?_) AllReadyH.nil)
        ·obtain ⟨s4, hs4, hs5⟩ := lit_nameA SA25.out hkp
         go_simp
         refine hK.out _ _ (by exact k25) (fun hHeld => ?_)
         clear hK K
         try simp only [Act.put, sqA, sqB, sqC, sqD, sqE, sqF]
         clear hs4
         refine tkq (v := ?_) 14 rfl ?_ ?_
         rotate_left
         ·intro w' hSw
          go_simp <;> with_reducible rfl
         try simp only [Act.put, sqA, sqB, sqC, sqD, sqE, sqF]
         refine rdq 15 rfl fun K hK => ?_
         go_simp
         have k28 : Below w5.heap.size w5 (wt25.alloc (.cells #[.string ⟨#[]⟩, .slice none 0 0, .int .i64 0] 40)) := k25.alloc k25.size _
         have MB28 : Hid (Blk (wt25.alloc (.cells #[.string ⟨#[]⟩, .slice none 0 0, .int .i64 0] 40)) wt25.heap.size #[.string ⟨#[]⟩, .slice none 0 0, .int .i64 0] 40) := Blk.new _ _ _
         have hM28 : w5.heap.size ≤ wt25.heap.size := k25.size
         have SA28 := hide (SA25.out.alloc (.cells #[.string ⟨#[]⟩, .slice none 0 0, .int .i64 0] 40))
         refine hK.out _ _ (by exact k28) (fun hHeld => ?_)
         clear hK K
         try simp only [Act.put, sqA, sqB, sqC, sqD, sqE, sqF]
         generalize (wt25.alloc (.cells #[.string ⟨#[]⟩, .slice none 0 0, .int .i64 0] 40)) = wt28 at *
         have f0 := MB28.out.cell 0
         have f1 := MB28.out.cell 1
         have f2 := MB28.out.cell 2
         have ff := MB28.out.frozen
         have fl := MB28.out.lt
         have kS : Below w5.heap.size w5 (((wt28.setCell ⟨wt25.heap.size, 0, none⟩ (.string s4)).setCell ⟨wt25.heap.size, 1, none⟩ (.slice none 0 0)).setCell ⟨wt25.heap.size, 2, none⟩ (.int .i64 (kq : Int))) := ((k28.setCell (p := ⟨wt25.heap.size, 0, none⟩) hM28 _).setCell (p := ⟨wt25.heap.size, 1, none⟩) hM28 _).setCell (p := ⟨wt25.heap.size, 2, none⟩) hM28 _
         have FIN : Hid (AfP w3 (n : Int) (.pointer (some ⟨wt25.heap.size, 0, none⟩)) (((wt28.setCell ⟨wt25.heap.size, 0, none⟩ (.string s4)).setCell ⟨wt25.heap.size, 1, none⟩ (.slice none 0 0)).setCell ⟨wt25.heap.size, 2, none⟩ (.int .i64 (kq : Int)))) := ⟨wt25.heap.size, s4, kq, rfl, ⟨((MB28.out.set 0 _).set 1 _).set 2 _, B5.out.trans (kS.mono B5.out.size), Nat.le_trans B5.out.size hM28⟩, hs5, by omega⟩
         refine rdq 16 rfl fun K hK => ?_
         go_simp
         refine hK.out _ _ (by exact kS) (fun hHeld => ?_)
         clear hK K
         try simp only [Act.put, sqA, sqB, sqC, sqD, sqE, sqF]
         refine wpAnyH_done (by kernel_rfl) ?_ _
         clear f0 f1 f2 ff fl
         go_wp2_with fail
         go_meet
         exact FIN.out
        ·go_simp
         have k29 : Below w5.heap.size w5 (wt25.alloc (.cells #[.string ⟨#[]⟩, .slice none 0 0, .int .i64 0] 40)) := k25.alloc k25.size _
         have MB29 : Hid (Blk (wt25.alloc (.cells #[.string ⟨#[]⟩, .slice none 0 0, .int .i64 0] 40)) wt25.heap.size #[.string ⟨#[]⟩, .slice none 0 0, .int .i64 0] 40) := Blk.new _ _ _
         have hM29 : w5.heap.size ≤ wt25.heap.size := k25.size
         have SA29 := hide (SA25.out.alloc (.cells #[.string ⟨#[]⟩, .slice none 0 0, .int .i64 0] 40))
         refine hK.out _ _ (by exact k29) (fun hHeld => ?_)
         clear hK K
         try simp only [Act.put, sqA, sqB, sqC, sqD, sqE, sqF]
         generalize (wt25.alloc (.cells #[.string ⟨#[]⟩, .slice none 0 0, .int .i64 0] 40)) = wt29 at *
         refine rdq 4 rfl fun K hK => ?_
         obtain ⟨s4, hs4, hs5⟩ := lit_nameA SA29.out hkp
         go_simp
         refine hK.out _ _ (by exact k29) (fun hHeld => ?_)
         clear hK K
         try simp only [Act.put, sqA, sqB, sqC, sqD, sqE, sqF]
         clear hs4
         refine tkq (v := ?_) 14 rfl ?_ ?_
         rotate_left
         ·intro w' hSw
          go_simp <;> with_reducible rfl
         try simp only [Act.put, sqA, sqB, sqC, sqD, sqE, sqF]
         have f0 := MB29.out.cell 0
         have f1 := MB29.out.cell 1
         have f2 := MB29.out.cell 2
         have ff := MB29.out.frozen
         have fl := MB29.out.lt
         have kS : Below w5.heap.size w5 (((wt29.setCell ⟨wt25.heap.size, 0, none⟩ (.string s4)).setCell ⟨wt25.heap.size, 1, none⟩ (.slice none 0 0)).setCell ⟨wt25.heap.size, 2, none⟩ (.int .i64 (kq : Int))) := ((k29.setCell (p := ⟨wt25.heap.size, 0, none⟩) hM29 _).setCell (p := ⟨wt25.heap.size, 1, none⟩) hM29 _).setCell (p := ⟨wt25.heap.size, 2, none⟩) hM29 _
         have FIN : Hid (AfP w3 (n : Int) (.pointer (some ⟨wt25.heap.size, 0, none⟩)) (((wt29.setCell ⟨wt25.heap.size, 0, none⟩ (.string s4)).setCell ⟨wt25.heap.size, 1, none⟩ (.slice none 0 0)).setCell ⟨wt25.heap.size, 2, none⟩ (.int .i64 (kq : Int)))) := ⟨wt25.heap.size, s4, kq, rfl, ⟨((MB29.out.set 0 _).set 1 _).set 2 _, B5.out.trans (kS.mono B5.out.size), Nat.le_trans B5.out.size hM29⟩, hs5, by omega⟩
         refine rdq 16 rfl fun K hK => ?_
         go_simp
         refine hK.out _ _ (by exact kS) (fun hHeld => ?_)
         clear hK K
         try simp only [Act.put, sqA, sqB, sqC, sqD, sqE, sqF]
         refine wpAnyH_done (by kernel_rfl) ?_ _
         clear f0 f1 f2 ff fl
         go_wp2_with fail
         go_meet
         exact FIN.out
       ·go_simp
        have k30 : Below w5.heap.size w5 (wt25.alloc (.cells #[.string ⟨#[]⟩, .slice none 0 0, .int .i64 0] 40)) := k25.alloc k25.size _
        have MB30 : Hid (Blk (wt25.alloc (.cells #[.string ⟨#[]⟩, .slice none 0 0, .int .i64 0] 40)) wt25.heap.size #[.string ⟨#[]⟩, .slice none 0 0, .int .i64 0] 40) := Blk.new _ _ _
        have hM30 : w5.heap.size ≤ wt25.heap.size := k25.size
        have SA30 := hide (SA25.out.alloc (.cells #[.string ⟨#[]⟩, .slice none 0 0, .int .i64 0] 40))
        refine hK.out _ _ (by exact k30) (fun hHeld => ?_)
        clear hK K
        try simp only [Act.put, sqA, sqB, sqC, sqD, sqE, sqF]
        generalize (wt25.alloc (.cells #[.string ⟨#[]⟩, .slice none 0 0, .int .i64 0] 40)) = wt30 at *
        refine wpAnyH_ready (rs := [4, 13]) (by kernel_rfl) (by simp) ?_
        refine AllReadyH.cons rfl (fun K hK => ?_) (AllReadyH.cons rfl (fun K hK => ?_) AllReadyH.nil)
        ·obtain ⟨s4, hs4, hs5⟩ := lit_nameA SA30.out hkp
         go_simp
         refine hK.out _ _ (by exact k30) (fun hHeld => ?_)
         clear hK K
         try simp only [Act.put, sqA, sqB, sqC, sqD, sqE, sqF]
         clear hs4
         refine rdq 13 rfl fun K hK => ?_
         go_simp
         go_at_call 5
         refine (pick_any _ n (by omega) (by omega) ⟨by omega, by omega⟩ _).mono ?_
         rintro e wz ⟨kq, rfl, hkq, hwz⟩
         rw [hwz]
         clear hwz
         go_simp
         refine hK.out _ _ (by exact k30) (fun hHeld => ?_)
         clear hK K
         try simp only [Act.put, sqA, sqB, sqC, sqD, sqE, sqF]
         refine tkq (v := ?_) 14 rfl ?_ ?_
         rotate_left
         ·intro w' hSw
          go_simp <;> with_reducible rfl
         try simp only [Act.put, sqA, sqB, sqC, sqD, sqE, sqF]
         have f0 := MB30.out.cell 0
         have f1 := MB30.out.cell 1
         have f2 := MB30.out.cell 2
         have ff := MB30.out.frozen
         have fl := MB30.out.lt
         have kS : Below w5.heap.size w5 (((wt30.setCell ⟨wt25.heap.size, 0, none⟩ (.string s4)).setCell ⟨wt25.heap.size, 1, none⟩ (.slice none 0 0)).setCell ⟨wt25.heap.size, 2, none⟩ (.int .i64 (kq : Int))) := ((k30.setCell (p := ⟨wt25.heap.size, 0, none⟩) hM30 _).setCell (p := ⟨wt25.heap.size, 1, none⟩) hM30 _).setCell (p := ⟨wt25.heap.size, 2, none⟩) hM30 _
         have FIN : Hid (AfP w3 (n : Int) (.pointer (some ⟨wt25.heap.size, 0, none⟩)) (((wt30.setCell ⟨wt25.heap.size, 0, none⟩ (.string s4)).setCell ⟨wt25.heap.size, 1, none⟩ (.slice none 0 0)).setCell ⟨wt25.heap.size, 2, none⟩ (.int .i64 (kq : Int)))) := ⟨wt25.heap.size, s4, kq, rfl, ⟨((MB30.out.set 0 _).set 1 _).set 2 _, B5.out.trans (kS.mono B5.out.size), Nat.le_trans B5.out.size hM30⟩, hs5, by omega⟩
         refine rdq 16 rfl fun K hK => ?_
         go_simp
         refine hK.out _ _ (by exact kS) (fun hHeld => ?_)
         clear hK K
         try simp only [Act.put, sqA, sqB, sqC, sqD, sqE, sqF]
         refine wpAnyH_done (by kernel_rfl) ?_ _
         clear f0 f1 f2 ff fl
         go_wp2_with fail
         go_meet
         exact FIN.out
        ·go_simp
         go_at_call 5
         refine (pick_any _ n (by omega) (by omega) ⟨by omega, by omega⟩ _).mono ?_
         rintro e wz ⟨kq, rfl, hkq, hwz⟩
         rw [hwz]
         clear hwz
         go_simp
         refine hK.out _ _ (by exact k30) (fun hHeld => ?_)
         clear hK K
         try simp only [Act.put, sqA, sqB, sqC, sqD, sqE, sqF]
         refine rdq 4 rfl fun K hK => ?_
         obtain ⟨s4, hs4, hs5⟩ := lit_nameA SA30.out hkp
         go_simp
         refine hK.out _ _ (by exact k30) (fun hHeld => ?_)
         clear hK K
         try simp only [Act.put, sqA, sqB, sqC, sqD, sqE, sqF]
         clear hs4
         refine tkq (v := ?_) 14 rfl ?_ ?_
         rotate_left
         ·intro w' hSw
          go_simp <;> with_reducible rfl
         try simp only [Act.put, sqA, sqB, sqC, sqD, sqE, sqF]
         have f0 := MB30.out.cell 0
         have f1 := MB30.out.cell 1
         have f2 := MB30.out.cell 2
         have ff := MB30.out.frozen
         have fl := MB30.out.lt
         have kS : Below w5.heap.size w5 (((wt30.setCell ⟨wt25.heap.size, 0, none⟩ (.string s4)).setCell ⟨wt25.heap.size, 1, none⟩ (.slice none 0 0)).setCell ⟨wt25.heap.size, 2, none⟩ (.int .i64 (kq : Int))) := ((k30.setCell (p := ⟨wt25.heap.size, 0, none⟩) hM30 _).setCell (p := ⟨wt25.heap.size, 1, none⟩) hM30 _).setCell (p := ⟨wt25.heap.size, 2, none⟩) hM30 _
         have FIN : Hid (AfP w3 (n : Int) (.pointer (some ⟨wt25.heap.size, 0, none⟩)) (((wt30.setCell ⟨wt25.heap.size, 0, none⟩ (.string s4)).setCell ⟨wt25.heap.size, 1, none⟩ (.slice none 0 0)).setCell ⟨wt25.heap.size, 2, none⟩ (.int .i64 (kq : Int)))) := ⟨wt25.heap.size, s4, kq, rfl, ⟨((MB30.out.set 0 _).set 1 _).set 2 _, B5.out.trans (kS.mono B5.out.size), Nat.le_trans B5.out.size hM30⟩, hs5, by omega⟩
         refine rdq 16 rfl fun K hK => ?_
         go_simp
         refine hK.out _ _ (by exact kS) (fun hHeld => ?_)
         clear hK K
         try simp only [Act.put, sqA, sqB, sqC, sqD, sqE, sqF]
         refine wpAnyH_done (by kernel_rfl) ?_ _
         clear f0 f1 f2 ff fl
         go_wp2_with fail
         go_meet
         exact FIN.out
      ·go_simp
       have k31 : Below w5.heap.size w5 (wt19.alloc (.cells #[.string ⟨#[]⟩, .slice none 0 0, .int .i64 0] 40)) := k19.alloc k19.size _
       have MB31 : Hid (Blk (wt19.alloc (.cells #[.string ⟨#[]⟩, .slice none 0 0, .int .i64 0] 40)) wt19.heap.size #[.string ⟨#[]⟩, .slice none 0 0, .int .i64 0] 40) := Blk.new _ _ _
       have hM31 : w5.heap.size ≤ wt19.heap.size := k19.size
       have SA31 := hide (SA19.out.alloc (.cells #[.string ⟨#[]⟩, .slice none 0 0, .int .i64 0] 40))
       refine hK.out _ _ (by exact k31) (fun hHeld => ?_)
       clear hK K
       try simp only [Act.put, sqA, sqB, sqC, sqD, sqE, sqF]
       generalize (wt19.alloc (.cells #[.string ⟨#[]⟩, .slice none 0 0, .int .i64 0] 40)) = wt31 at *
       refine wpAnyH_ready (rs := [4, 11]) (by kernel_rfl) (by simp) ?_
       refine AllReadyH.cons rfl (fun K hK => ?_) (AllReadyH.cons rfl (fun K hK => ?_) AllReadyH.nil)
       ·obtain ⟨s4, hs4, hs5⟩ := lit_nameA SA31.out hkp
        go_simp
        refine hK.out _ _ (by exact k31) (fun hHeld => ?_)
        clear hK K
        try simp only [Act.put, sqA, sqB, sqC, sqD, sqE, sqF]
        clear hs4
        refine rdq 11 rfl fun K hK => ?_
        go_simp
        go_at_call 10
        refine (RAW.out _ (at_ + 4 * k + 1) (by omega) (by omega) _ (B5.out.trans (k31.mono B5.out.size))).mono ?_
        rintro e wt32 ⟨cr, rfl, hcr, hb32⟩
        have k32 : Below w5.heap.size w5 wt32 := k31.trans (hb32.mono k31.size)
        have SA32 := hide (SA31.out.below hb32 SA31.out.lt)
        have MB32 := hide (MB31.out.below hb32 MB31.out.lt)
        clear hb32
        go_simp
        refine hK.out _ _ (by exact k32) (fun hHeld => ?_)
        clear hK K
        try simp only [Act.put, sqA, sqB, sqC, sqD, sqE, sqF]
        refine rdq 13 rfl fun K hK => ?_
        go_simp
        go_at_call 5
        refine (pick_any _ n (by omega) (by omega) ⟨by omega, by omega⟩ _).mono ?_
        rintro e wz ⟨kq, rfl, hkq, hwz⟩
        rw [hwz]
        clear hwz
        go_simp
        refine hK.out _ _ (by exact k32) (fun hHeld => ?_)
        clear hK K
        try simp only [Act.put, sqA, sqB, sqC, sqD, sqE, sqF]
        refine tkq (v := ?_) 14 rfl ?_ ?_
        rotate_left
        ·intro w' hSw
         go_simp <;> with_reducible rfl
        try simp only [Act.put, sqA, sqB, sqC, sqD, sqE, sqF]
        have f0 := MB32.out.cell 0
        have f1 := MB32.out.cell 1
        have f2 := MB32.out.cell 2
        have ff := MB32.out.frozen
        have fl := MB32.out.lt
        have kS : Below w5.heap.size w5 (((wt32.setCell ⟨wt19.heap.size, 0, none⟩ (.string s4)).setCell ⟨wt19.heap.size, 1, none⟩ (.slice none 0 0)).setCell ⟨wt19.heap.size, 2, none⟩ (.int .i64 (kq : Int))) := ((k32.setCell (p := ⟨wt19.heap.size, 0, none⟩) hM31 _).setCell (p := ⟨wt19.heap.size, 1, none⟩) hM31 _).setCell (p := ⟨wt19.heap.size, 2, none⟩) hM31 _
        have FIN : Hid (AfP w3 (n : Int) (.pointer (some ⟨wt19.heap.size, 0, none⟩)) (((wt32.setCell ⟨wt19.heap.size, 0, none⟩ (.string s4)).setCell ⟨wt19.heap.size, 1, none⟩ (.slice none 0 0)).setCell ⟨wt19.heap.size, 2, none⟩ (.int .i64 (kq : Int)))) := ⟨wt19.heap.size, s4, kq, rfl, ⟨((MB32.out.set 0 _).set 1 _).set 2 _, B5.out.trans (kS.mono B5.out.size), Nat.le_trans B5.out.size hM31⟩, hs5, by omega⟩
        refine rdq 16 rfl fun K hK => ?_
        go_simp
        refine hK.out _ _ (by exact kS) (fun hHeld => ?_)
        clear hK K
        try simp only [Act.put, sqA, sqB, sqC, sqD, sqE, sqF]
        refine wpAnyH_done (by kernel_rfl) ?_ _
        clear f0 f1 f2 ff fl
        go_wp2_with fail
        go_meet
        exact FIN.out
       ·go_simp
        go_at_call 10
        refine (RAW.out _ (at_ + 4 * k + 1) (by omega) (by omega) _ (B5.out.trans (k31.mono B5.out.size))).mono ?_
        rintro e wt33 ⟨cr, rfl, hcr, hb33⟩
        have k33 : Below w5.heap.size w5 wt33 := k31.trans (hb33.mono k31.size)
        have SA33 := hide (SA31.out.below hb33 SA31.out.lt)
        have MB33 := hide (MB31.out.below hb33 MB31.out.lt)
        clear hb33
        go_simp
        refine hK.out _ _ (by exact k33) (fun hHeld => ?_)
        clear hK K
        try simp only [Act.put, sqA, sqB, sqC, sqD, sqE, sqF]
        refine wpAnyH_ready (rs := [4, 13]) (by kernel_rfl) (by simp) ?_
        refine AllReadyH.cons rfl (fun K hK => ?_) (AllReadyH.cons rfl (fun K hK => ?_) AllReadyH.nil)
        ·obtain ⟨s4, hs4, hs5⟩ := lit_nameA SA33.out hkp
         go_simp
         refine hK.out _ _ (by exact k33) (fun hHeld => ?_)
         clear hK K
         try simp only [Act.put, sqA, sqB, sqC, sqD, sqE, sqF]
         clear hs4
         refine rdq 13 rfl fun K hK => ?_
         go_simp
         go_at_call 5
         refine (pick_any _ n (by omega) (by omega) ⟨by omega, by omega⟩ _).mono ?_
         rintro e wz ⟨kq, rfl, hkq, hwz⟩
         rw [hwz]
         clear hwz
         go_simp
         refine hK.out _ _ (by exact k33) (fun hHeld => ?_)
         clear hK K
         try simp only [Act.put, sqA, sqB, sqC, sqD, sqE, sqF]
         refine tkq (v := ?_) 14 rfl ?_ ?_
         rotate_left
         ·intro w' hSw
          go_simp <;> with_reducible rfl
         try simp only [Act.put, sqA, sqB, sqC, sqD, sqE, sqF]
         have f0 := MB33.out.cell 0
         have f1 := MB33.out.cell 1
         have f2 := MB33.out.cell 2
         have ff := MB33.out.frozen
         have fl := MB33.out.lt
         have kS : Below w5.heap.size w5 (((wt33.setCell ⟨wt19.heap.size, 0, none⟩ (.string s4)).setCell ⟨wt19.heap.size, 1, none⟩ (.slice none 0 0)).setCell ⟨wt19.heap.size, 2, none⟩ (.int .i64 (kq : Int))) := ((k33.setCell (p := ⟨wt19.heap.size, 0, none⟩) hM31 _).setCell (p := ⟨wt19.heap.size, 1, none⟩) hM31 _).setCell (p := ⟨wt19.heap.size, 2, none⟩) hM31 _
         have FIN : Hid (AfP w3 (n : Int) (.pointer (some ⟨wt19.heap.size, 0, none⟩)) (((wt33.setCell ⟨wt19.heap.size, 0, none⟩ (.string s4)).setCell ⟨wt19.heap.size, 1, none⟩ (.slice none 0 0)).setCell ⟨wt19.heap.size, 2, none⟩ (.int .i64 (kq : Int)))) := ⟨wt19.heap.size, s4, kq, rfl, ⟨((MB33.out.set 0 _).set 1 _).set 2 _, B5.out.trans (kS.mono B5.out.size), Nat.le_trans B5.out.size hM31⟩, hs5, by omega⟩
         refine rdq 16 rfl fun K hK => ?_
         go_simp
         refine hK.out _ _ (by exact kS) (fun hHeld => ?_)
         clear hK K
         try simp only [Act.put, sqA, sqB, sqC, sqD, sqE, sqF]
         refine wpAnyH_done (by kernel_rfl) ?_ _
         clear f0 f1 f2 ff fl
         go_wp2_with fail
         go_meet
         exact FIN.out
        ·go_simp
         go_at_call 5
         refine (pick_any _ n (by omega) (by omega) ⟨by omega, by omega⟩ _).mono ?_
         rintro e wz ⟨kq, rfl, hkq, hwz⟩
         rw [hwz]
         clear hwz
         go_simp
         refine hK.out _ _ (by exact k33) (fun hHeld => ?_)
         clear hK K
         try simp only [Act.put, sqA, sqB, sqC, sqD, sqE, sqF]
         refine rdq 4 rfl fun K hK => ?_
         obtain ⟨s4, hs4, hs5⟩ := lit_nameA SA33.out hkp
         go_simp
         refine hK.out _ _ (by exact k33) (fun hHeld => ?_)
         clear hK K
         try simp only [Act.put, sqA, sqB, sqC, sqD, sqE, sqF]
         clear hs4
         refine tkq (v := ?_) 14 rfl ?_ ?_
         rotate_left
         ·intro w' hSw
          go_simp <;> with_reducible rfl
         try simp only [Act.put, sqA, sqB, sqC, sqD, sqE, sqF]
         have f0 := MB33.out.cell 0
         have f1 := MB33.out.cell 1
         have f2 := MB33.out.cell 2
         have ff := MB33.out.frozen
         have fl := MB33.out.lt
         have kS : Below w5.heap.size w5 (((wt33.setCell ⟨wt19.heap.size, 0, none⟩ (.string s4)).setCell ⟨wt19.heap.size, 1, none⟩ (.slice none 0 0)).setCell ⟨wt19.heap.size, 2, none⟩ (.int .i64 (kq : Int))) := ((k33.setCell (p := ⟨wt19.heap.size, 0, none⟩) hM31 _).setCell (p := ⟨wt19.heap.size, 1, none⟩) hM31 _).setCell (p := ⟨wt19.heap.size, 2, none⟩) hM31 _
         have FIN : Hid (AfP w3 (n : Int) (.pointer (some ⟨wt19.heap.size, 0, none⟩)) (((wt33.setCell ⟨wt19.heap.size, 0, none⟩ (.string s4)).setCell ⟨wt19.heap.size, 1, none⟩ (.slice none 0 0)).setCell ⟨wt19.heap.size, 2, none⟩ (.int .i64 (kq : Int)))) := ⟨wt19.heap.size, s4, kq, rfl, ⟨((MB33.out.set 0 _).set 1 _).set 2 _, B5.out.trans (kS.mono B5.out.size), Nat.le_trans B5.out.size hM31⟩, hs5, by omega⟩
         refine rdq 16 rfl fun K hK => ?_
         go_simp
         refine hK.out _ _ (by exact kS) (fun hHeld => ?_)
         clear hK K
         try simp only [Act.put, sqA, sqB, sqC, sqD, sqE, sqF]
         refine wpAnyH_done (by kernel_rfl) ?_ _
         clear f0 f1 f2 ff fl
         go_wp2_with fail
         go_meet
         exact FIN.out
     ·go_simp
      go_at_call 10
      refine (RAW.out _ (at_ + 4 * k + 1) (by omega) (by omega) _ (B5.out.trans (kd.mono B5.out.size))).mono ?_
      rintro e wt34 ⟨cr, rfl, hcr, hb34⟩
      have k34 : Below w5.heap.size w5 wt34 := kd.trans (hb34.mono kd.size)
      clear hb34
      go_simp
      refine hK.out _ _ (by exact k34) (fun hHeld => ?_)
      clear hK K
      try simp only [Act.put, sqA, sqB, sqC, sqD, sqE, sqF]
      refine wpAnyH_ready (rs := [0, 13, 15]) (by kernel_rfl) (by simp) ?_
      refine AllReadyH.cons rfl (fun K hK => ?_) (AllReadyH.cons rfl (fun K hK => ?_) (AllReadyH.cons rfl (fun K hK => ?_) AllReadyH.nil))
      ·go_simp
       have k35 : Below w5.heap.size w5 (wt34.alloc (.cells #[.string ⟨#[97]⟩, .string ⟨#[98]⟩, .string ⟨#[104]⟩, .string ⟨#[102]⟩] 9)) := k34.alloc k34.size _
       have SA35 : Hid (Blk (wt34.alloc (.cells #[.string ⟨#[97]⟩, .string ⟨#[98]⟩, .string ⟨#[104]⟩, .string ⟨#[102]⟩] 9)) wt34.heap.size #[.string ⟨#[97]⟩, .string ⟨#[98]⟩, .string ⟨#[104]⟩, .string ⟨#[102]⟩] 9) := Blk.new _ _ _
       refine hK.out _ _ (by exact k35) (fun hHeld => ?_)
       clear hK K
       try simp only [Act.put, sqA, sqB, sqC, sqD, sqE, sqF]
       generalize (wt34.alloc (.cells #[.string ⟨#[97]⟩, .string ⟨#[98]⟩, .string ⟨#[104]⟩, .string ⟨#[102]⟩] 9)) = wt35 at *
       refine tkq (v := ?_) 3 rfl ?_ ?_
       rotate_left
       ·intro w' hSw
        go_simp <;> with_reducible rfl
       try simp only [Act.put, sqA, sqB, sqC, sqD, sqE, sqF]
       refine wpAnyH_ready (rs := [4, 13, 15]) (by kernel_rfl) (by simp) ?_
       refine AllReadyH.cons rfl (fun K hK => ?_) (AllReadyH.cons rfl (fun K hK => ?_) (AllReadyH.cons rfl (fun K hK => ?_) AllReadyH.nil))
       ·obtain ⟨s4, hs4, hs5⟩ := lit_nameA SA35.out hkp
        go_simp
        refine hK.out _ _ (by exact k35) (fun hHeld => ?_)
        clear hK K
        try simp only [Act.put, sqA, sqB, sqC, sqD, sqE, sqF]
        clear hs4
        refine wpAnyH_ready (rs := [13, 15]) (by kernel_rfl) (by simp) ?_
        refine AllReadyH.cons rfl (fun K hK => ?_) (AllReadyH.cons rfl (fun K hK => ?_) AllReadyH.nil)
        ·go_simp
         go_at_call 5
         refine (pick_any _ n (by omega) (by omega) ⟨by omega, by omega⟩ _).mono ?_
         rintro e wz ⟨kq, rfl, hkq, hwz⟩
         rw [hwz]
         clear hwz
         go_simp
         refine hK.out _ _ (by exact k35) (fun hHeld => ?_)
         clear hK K
         try simp only [Act.put, sqA, sqB, sqC, sqD, sqE, sqF]
         refine tkq (v := ?_) 14 rfl ?_ ?_
         rotate_left
         ·intro w' hSw
          go_simp <;> with_reducible rfl
         try simp only [Act.put, sqA, sqB, sqC, sqD, sqE, sqF]
         refine rdq 15 rfl fun K hK => ?_
         go_simp
         have k36 : Below w5.heap.size w5 (wt35.alloc (.cells #[.string ⟨#[]⟩, .slice none 0 0, .int .i64 0] 40)) := k35.alloc k35.size _
         have MB36 : Hid (Blk (wt35.alloc (.cells #[.string ⟨#[]⟩, .slice none 0 0, .int .i64 0] 40)) wt35.heap.size #[.string ⟨#[]⟩, .slice none 0 0, .int .i64 0] 40) := Blk.new _ _ _
         have hM36 : w5.heap.size ≤ wt35.heap.size := k35.size
         have SA36 := hide (SA35.out.alloc (.cells #[.string ⟨#[]⟩, .slice none 0 0, .int .i64 0] 40))
         refine hK.out _ _ (by exact k36) (fun hHeld => ?_)
         clear hK K
         try simp only [Act.put, sqA, sqB, sqC, sqD, sqE, sqF]
         generalize (wt35.alloc (.cells #[.string ⟨#[]⟩, .slice none 0 0, .int .i64 0] 40)) = wt36 at *
         have f0 := MB36.out.cell 0
         have f1 := MB36.out.cell 1
         have f2 := MB36.out.cell 2
         have ff := MB36.out.frozen
         have fl := MB36.out.lt
         have kS : Below w5.heap.size w5 (((wt36.setCell ⟨wt35.heap.size, 0, none⟩ (.string s4)).setCell ⟨wt35.heap.size, 1, none⟩ (.slice none 0 0)).setCell ⟨wt35.heap.size, 2, none⟩ (.int .i64 (kq : Int))) := ((k36.setCell (p := ⟨wt35.heap.size, 0, none⟩) hM36 _).setCell (p := ⟨wt35.heap.size, 1, none⟩) hM36 _).setCell (p := ⟨wt35.heap.size, 2, none⟩) hM36 _
         have FIN : Hid (AfP w3 (n : Int) (.pointer (some ⟨wt35.heap.size, 0, none⟩)) (((wt36.setCell ⟨wt35.heap.size, 0, none⟩ (.string s4)).setCell ⟨wt35.heap.size, 1, none⟩ (.slice none 0 0)).setCell ⟨wt35.heap.size, 2, none⟩ (.int .i64 (kq : Int)))) := ⟨wt35.heap.size, s4, kq, rfl, ⟨((MB36.out.set 0 _).set 1 _).set 2 _, B5.out.trans (kS.mono B5.out.size), Nat.le_trans B5.out.size hM36⟩, hs5, by omega⟩
         refine rdq 16 rfl fun K hK => ?_
         go_simp
         refine hK.out _ _ (by exact kS) (fun hHeld => ?_)
         clear hK K
         try simp only [Act.put, sqA, sqB, sqC, sqD, sqE, sqF]
         refine wpAnyH_done (by kernel_rfl) ?_ _
         clear f0 f1 f2 ff fl
         go_wp2_with fail
         go_meet
         exact FIN.out
        ·go_simp
         have k37 : Below w5.heap.size w5 (wt35.alloc (.cells #[.string ⟨#[]⟩, .slice none 0 0, .int .i64 0] 40)) := k35.alloc k35.size _
         have MB37 : Hid (Blk (wt35.alloc (.cells #[.string ⟨#[]⟩, .slice none 0 0, .int .i64 0] 40)) wt35.heap.size #[.string ⟨#[]⟩, .slice none 0 0, .int .i64 0] 40) := Blk.new _ _ _
         have hM37 : w5.heap.size ≤ wt35.heap.size := k35.size
         have SA37 := hide (SA35.out.alloc (.cells #[.string ⟨#[]⟩, .slice none 0 0, .int .i64 0] 40))
         refine hK.out _ _ (by exact k37) (fun hHeld => ?_)
         clear hK K
         try simp only [Act.put, sqA, sqB, sqC, sqD, sqE, sqF]
         generalize (wt35.alloc (.cells #[.string ⟨#[]⟩, .slice none 0 0, .int .i64 0] 40)) = wt37 at *
         refine rdq 13 rfl fun K hK => ?_
         go_simp
         go_at_call 5
         refine (pick_any _ n (by omega) (by omega) ⟨by omega, by omega⟩ _).mono ?_
         rintro e wz ⟨kq, rfl, hkq, hwz⟩
         rw [hwz]
         clear hwz
         go_simp
         refine hK.out _ _ (by exact k37) (fun hHeld => ?_)
         clear hK K
         try simp only [Act.put, sqA, sqB, sqC, sqD, sqE, sqF]
         refine tkq (v := ?_) 14 rfl ?_ ?_
         rotate_left
         ·intro w' hSw
          go_simp <;> with_reducible rfl
         try simp only [Act.put, sqA, sqB, sqC, sqD, sqE, sqF]
         have f0 := MB37.out.cell 0
         have f1 := MB37.out.cell 1
         have f2 := MB37.out.cell 2
         have ff := MB37.out.frozen
         have fl := MB37.out.lt
         have kS : Below w5.heap.size w5 (((wt37.setCell ⟨wt35.heap.size, 0, none⟩ (.string s4)).setCell ⟨wt35.heap.size, 1, none⟩ (.slice none 0 0)).setCell ⟨wt35.heap.size, 2, none⟩ (.int .i64 (kq : Int))) := ((k37.setCell (p := ⟨wt35.heap.size, 0, none⟩) hM37 _).setCell (p := ⟨wt35.heap.size, 1, none⟩) hM37 _).setCell (p := ⟨wt35.heap.size, 2, none⟩) hM37 _
         have FIN : Hid (AfP w3 (n : Int) (.pointer (some ⟨wt35.heap.size, 0, none⟩)) (((wt37.setCell ⟨wt35.heap.size, 0, none⟩ (.string s4)).setCell ⟨wt35.heap.size, 1, none⟩ (.slice none 0 0)).setCell ⟨wt35.heap.size, 2, none⟩ (.int .i64 (kq : Int)))) := ⟨wt35.heap.size, s4, kq, rfl, ⟨((MB37.out.set 0 _).set 1 _).set 2 _, B5.out.trans (kS.mono B5.out.size), Nat.le_trans B5.out.size hM37⟩, hs5, by omega⟩
         refine rdq 16 rfl fun K hK => ?_
         go_simp
         refine hK.out _ _ (by exact kS) (fun hHeld => ?_)
         clear hK K
         try simp only [Act.put, sqA, sqB, sqC, sqD, sqE, sqF]
         refine wpAnyH_done (by kernel_rfl) ?_ _
         clear f0 f1 f2 ff fl
         go_wp2_with fail
         go_meet
         exact FIN.out
       ·go_simp
        go_at_call 5
        refine (pick_any _ n (by omega) (by omega) ⟨by omega, by omega⟩ _).mono ?_
        rintro e wz ⟨kq, rfl, hkq, hwz⟩
        rw [hwz]
        clear hwz
        go_simp
        refine hK.out _ _ (by exact k35) (fun hHeld => ?_)
        clear hK K
        try simp only [Act.put, sqA, sqB, sqC, sqD, sqE, sqF]
        refine wpAnyH_ready (rs := [4, 15]) (by kernel_rfl) (by simp) ?_
        refine AllReadyH.cons rfl (fun K hK => ?_) (AllReadyH.cons rfl (fun K hK => ?_) AllReadyH.nil)
        ·obtain ⟨s4, hs4, hs5⟩ := lit_nameA SA35.out hkp
         go_simp
         refine hK.out _ _ (by exact k35) (fun hHeld => ?_)
         clear hK K
         try simp only [Act.put, sqA, sqB, sqC, sqD, sqE, sqF]
         clear hs4
         refine tkq (v := ?_) 14 rfl ?_ ?_
         rotate_left
         ·intro w' hSw
          go_simp <;> with_reducible rfl
         try simp only [Act.put, sqA, sqB, sqC, sqD, sqE, sqF]
         refine rdq 15 rfl fun K hK => ?_
         go_simp
         have k38 : Below w5.heap.size w5 (wt35.alloc (.cells #[.string ⟨#[]⟩, .slice none 0 0, .int .i64 0] 40)) := k35.alloc k35.size _
         have MB38 : Hid (Blk (wt35.alloc (.cells #[.string ⟨#[]⟩, .slice none 0 0, .int .i64 0] 40)) wt35.heap.size #[.string ⟨#[]⟩, .slice none 0 0, .int .i64 0] 40) := Blk.new _ _ _
         have hM38 : w5.heap.size ≤ wt35.heap.size := k35.size
         have SA38 := hide (SA35.out.alloc (.cells #[.string ⟨#[]⟩, .slice none 0 0, .int .i64 0] 40))
         refine hK.out _ _ (by exact k38) (fun hHeld => ?_)
         clear hK K
         try simp only [Act.put, sqA, sqB, sqC, sqD, sqE, sqF]
         generalize (wt35.alloc (.cells #[.string ⟨#[]⟩, .slice none 0 0, .int .i64 0] 40)) = wt38 at *
         have f0 := MB38.out.cell 0
         have f1 := MB38.out.cell 1
         have f2 := MB38.out.cell 2
         have ff := MB38.out.frozen
         have fl := MB38.out.lt
         have kS : Below w5.heap.size w5 (((wt38.setCell ⟨wt35.heap.size, 0, none⟩ (.string s4)).setCell ⟨wt35.heap.size, 1, none⟩ (.slice none 0 0)).setCell ⟨wt35.heap.size, 2, none⟩ (.int .i64 (kq : Int))) := ((k38.setCell (p := ⟨wt35.heap.size, 0, none⟩) hM38 _).setCell (p := ⟨wt35.heap.size, 1, none⟩) hM38 _).setCell (p := ⟨wt35.heap.size, 2, none⟩) hM38 _
         have FIN : Hid (AfP w3 (n : Int) (.pointer (some ⟨wt35.heap.size, 0, none⟩)) (((wt38.setCell ⟨wt35.heap.size, 0, none⟩ (.string s4)).setCell ⟨wt35.heap.size, 1, none⟩ (.slice none 0 0)).setCell ⟨wt35.heap.size, 2, none⟩ (.int .i64 (kq : Int)))) := ⟨wt35.heap.size, s4, kq, rfl, ⟨((MB38.out.set 0 _).set 1 _).set 2 _, B5.out.trans (kS.mono B5.out.size), Nat.le_trans B5.out.size hM38⟩, hs5, by omega⟩
         refine rdq 16 rfl fun K hK => ?_
         go_simp
         refine hK.out _ _ (by exact kS) (fun hHeld => ?_)
         clear hK K
         try simp only [Act.put, sqA, sqB, sqC, sqD, sqE, sqF]
         refine wpAnyH_done (by kernel_rfl) ?_ _
         clear f0 f1 f2 ff fl
         go_wp2_with fail
         go_meet
         exact FIN.out
        ·go_simp
         have k39 : Below w5.heap.size w5 (wt35.alloc (.cells #[.string ⟨#[]⟩, .slice none 0 0, .int .i64 0] 40)) := k35.alloc k35.size _
         have MB39 : Hid (Blk (wt35.alloc (.cells #[.string ⟨#[]⟩, .slice none 0 0, .int .i64 0] 40)) wt35.heap.size #[.string ⟨#[]⟩, .slice none 0 0, .int .i64 0] 40) := Blk.new _ _ _
         have hM39 : w5.heap.size ≤ wt35.heap.size := k35.size
         have SA39 := hide (SA35.out.alloc (.cells #[.string ⟨#[]⟩, .slice none 0 0, .int .i64 0] 40))
         refine hK.out _ _ (by exact k39) (fun hHeld => ?_)
         clear hK K
         try simp only [Act.put, sqA, sqB, sqC, sqD, sqE, sqF]
         generalize (wt35.alloc (.cells #[.string ⟨#[]⟩, .slice none 0 0, .int .i64 0] 40)) = wt39 at *
         refine rdq 4 rfl fun K hK => ?_
         obtain ⟨s4, hs4, hs5⟩ := lit_nameA SA39.out hkp
         go_simp
         refine hK.out _ _ (by exact k39) (fun hHeld => ?_)
         clear hK K
         try simp only [Act.put, sqA, sqB, sqC, sqD, sqE, sqF]
         clear hs4
         refine tkq (v := ?_) 14 rfl ?_ ?_
         rotate_left
         ·intro w' hSw
          go_simp <;> with_reducible rfl
         try simp only [Act.put, sqA, sqB, sqC, sqD, sqE, sqF]
         have f0 := MB39.out.cell 0
         have f1 := MB39.out.cell 1
         have f2 := MB39.out.cell 2
         have ff := MB39.out.frozen
         have fl := MB39.out.lt
         have kS : Below w5.heap.size w5 (((wt39.setCell ⟨wt35.heap.size, 0, none⟩ (.string s4)).setCell ⟨wt35.heap.size, 1, none⟩ (.slice none 0 0)).setCell ⟨wt35.heap.size, 2, none⟩ (.int .i64 (kq : Int))) := ((k39.setCell (p := ⟨wt35.heap.size, 0, none⟩) hM39 _).setCell (p := ⟨wt35.heap.size, 1, none⟩) hM39 _).setCell (p := ⟨wt35.heap.size, 2, none⟩) hM39 _
         have FIN : Hid (AfP w3 (n : Int) (.pointer (some ⟨wt35.heap.size, 0, none⟩)) (((wt39.setCell ⟨wt35.heap.size, 0, none⟩ (.string s4)).setCell ⟨wt35.heap.size, 1, none⟩ (.slice none 0 0)).setCell ⟨wt35.heap.size, 2, none⟩ (.int .i64 (kq : Int)))) := ⟨wt35.heap.size, s4, kq, rfl, ⟨((MB39.out.set 0 _).set 1 _).set 2 _, B5.out.trans (kS.mono B5.out.size), Nat.le_trans B5.out.size hM39⟩, hs5, by omega⟩
         refine rdq 16 rfl fun K hK => ?_
         go_simp
         refine hK.out _ _ (by exact kS) (fun hHeld => ?_)
         clear hK K
         try simp only [Act.put, sqA, sqB, sqC, sqD, sqE, sqF]
         refine wpAnyH_done (by kernel_rfl) ?_ _
         clear f0 f1 f2 ff fl
         go_wp2_with fail
         go_meet
         exact FIN.out
       ·go_simp
        have k40 : Below w5.heap.size w5 (wt35.alloc (.cells #[.string ⟨#[]⟩, .slice none 0 0, .int .i64 0] 40)) := k35.alloc k35.size _
        have MB40 : Hid (Blk (wt35.alloc (.cells #[.string ⟨#[]⟩, .slice none 0 0, .int .i64 0] 40)) wt35.heap.size #[.string ⟨#[]⟩, .slice none 0 0, .int .i64 0] 40) := Blk.new _ _ _
        have hM40 : w5.heap.size ≤ wt35.heap.size := k35.size
        have SA40 := hide (SA35.out.alloc (.cells #[.string ⟨#[]⟩, .slice none 0 0, .int .i64 0] 40))
        refine hK.out _ _ (by exact k40) (fun hHeld => ?_)
        clear hK K
        try simp only [Act.put, sqA, sqB, sqC, sqD, sqE, sqF]
        generalize (wt35.alloc (.cells #[.string ⟨#[]⟩, .slice none 0 0, .int .i64 0] 40)) = wt40 at *
        refine wpAnyH_ready (rs := [4, 13]) (by kernel_rfl) (by simp) ?_
        refine AllReadyH.cons rfl (fun K hK => ?_) (AllReadyH.cons rfl (fun K hK => ?_) AllReadyH.nil)
        ·obtain ⟨s4, hs4, hs5⟩ := lit_nameA SA40.out hkp
         go_simp
         refine hK.out _ _ (by exact k40) (fun hHeld => ?_)
         clear hK K
         try simp only [Act.put, sqA, sqB, sqC, sqD, sqE, sqF]
         clear hs4
         refine rdq 13 rfl fun K hK => ?_
         go_simp
         go_at_call 5
         refine (pick_any _ n (by omega) (by omega) ⟨by omega, by omega⟩ _).mono ?_
         rintro e wz ⟨kq, rfl, hkq, hwz⟩
         rw [hwz]
         clear hwz
         go_simp
         refine hK.out _ _ (by exact k40) (fun hHeld => ?_)
         clear hK K
         try simp only [Act.put, sqA, sqB, sqC, sqD, sqE, sqF]
         refine tkq (v := ?_) 14 rfl ?_ ?_
         rotate_left
         ·intro w' hSw
          go_simp <;> with_reducible rfl
         try simp only [Act.put, sqA, sqB, sqC, sqD, sqE, sqF]
         have f0 := MB40.out.cell 0
         have f1 := MB40.out.cell 1
         have f2 := MB40.out.cell 2
         have ff := MB40.out.frozen
         have fl := MB40.out.lt
         have kS : Below w5.heap.size w5 (((wt40.setCell ⟨wt35.heap.size, 0, none⟩ (.string s4)).setCell ⟨wt35.heap.size, 1, none⟩ (.slice none 0 0)).setCell ⟨wt35.heap.size, 2, none⟩ (.int .i64 (kq : Int))) := ((k40.setCell (p := ⟨wt35.heap.size, 0, none⟩) hM40 _).setCell (p := ⟨wt35.heap.size, 1, none⟩) hM40 _).setCell (p := ⟨wt35.heap.size, 2, none⟩) hM40 _
         have FIN : Hid (AfP w3 (n : Int) (.pointer (some ⟨wt35.heap.size, 0, none⟩)) (((wt40.setCell ⟨wt35.heap.size, 0, none⟩ (.string s4)).setCell ⟨wt35.heap.size, 1, none⟩ (.slice none 0 0)).setCell ⟨wt35.heap.size, 2, none⟩ (.int .i64 (kq : Int)))) := ⟨wt35.heap.size, s4, kq, rfl, ⟨((MB40.out.set 0 _).set 1 _).set 2 _, B5.out.trans (kS.mono B5.out.size), Nat.le_trans B5.out.size hM40⟩, hs5, by omega⟩
         refine rdq 16 rfl fun K hK => ?_
         go_simp
         refine hK.out _ _ (by exact kS) (fun hHeld => ?_)
         clear hK K
         try simp only [Act.put, sqA, sqB, sqC, sqD, sqE, sqF]
         refine wpAnyH_done (by kernel_rfl) ?_ _
         clear f0 f1 f2 ff fl
         go_wp2_with fail
         go_meet
         exact FIN.out
        ·go_simp
         go_at_call 5
         refine (pick_any _ n (by omega) (by omega) ⟨by omega, by omega⟩ _).mono ?_
         rintro e wz ⟨kq, rfl, hkq, hwz⟩
         rw [hwz]
         clear hwz
         go_simp
         refine hK.out _ _ (by exact k40) (fun hHeld => ?_)
         clear hK K
         try simp only [Act.put, sqA, sqB, sqC, sqD, sqE, sqF]
         refine rdq 4 rfl fun K hK => ?_
         obtain ⟨s4, hs4, hs5⟩ := lit_nameA SA40.out hkp
         go_simp
         refine hK.out _ _ (by exact k40) (fun hHeld => ?_)
         clear hK K
         try simp only [Act.put, sqA, sqB, sqC, sqD, sqE, sqF]
         clear hs4
         refine tkq (v := ?_) 14 rfl ?_ ?_
         rotate_left
         ·intro w' hSw
          go_simp <;> with_reducible rfl
         try simp only [Act.put, sqA, sqB, sqC, sqD, sqE, sqF]
         have f0 := MB40.out.cell 0
         have f1 := MB40.out.cell 1
         have f2 := MB40.out.cell 2
         have ff := MB40.out.frozen
         have fl := MB40.out.lt
         have kS : Below w5.heap.size w5 (((wt40.setCell ⟨wt35.heap.size, 0, none⟩ (.string s4)).setCell ⟨wt35.heap.size, 1, none⟩ (.slice none 0 0)).setCell ⟨wt35.heap.size, 2, none⟩ (.int .i64 (kq : Int))) := ((k40.setCell (p := ⟨wt35.heap.size, 0, none⟩) hM40 _).setCell (p := ⟨wt35.heap.size, 1, none⟩) hM40 _).setCell (p := ⟨wt35.heap.size, 2, none⟩) hM40 _
         have FIN : Hid (AfP w3 (n : Int) (.pointer (some ⟨wt35.heap.size, 0, none⟩)) (((wt40.setCell ⟨wt35.heap.size, 0, none⟩ (.string s4)).setCell ⟨wt35.heap.size, 1, none⟩ (.slice none 0 0)).setCell ⟨wt35.heap.size, 2, none⟩ (.int .i64 (kq : Int)))) := ⟨wt35.heap.size, s4, kq, rfl, ⟨((MB40.out.set 0 _).set 1 _).set 2 _, B5.out.trans (kS.mono B5.out.size), Nat.le_trans B5.out.size hM40⟩, hs5, by omega⟩
         refine rdq 16 rfl fun K hK => ?_
         go_simp
         refine hK.out _ _ (by exact kS) (fun hHeld => ?_)
         clear hK K
         try simp only [Act.put, sqA, sqB, sqC, sqD, sqE, sqF]
         refine wpAnyH_done (by kernel_rfl) ?_ _
         clear f0 f1 f2 ff fl
         go_wp2_with fail
         go_meet
         exact FIN.out
      ·go_simp
       go_at_call 5
       refine (pick_any _ n (by omega) (by omega) ⟨by omega, by omega⟩ _).mono ?_
       rintro e wz ⟨kq, rfl, hkq, hwz⟩
       rw [hwz]
       clear hwz
       go_simp
       refine hK.out _ _ (by exact k34) (fun hHeld => ?_)
       clear hK K
       try simp only [Act.put, sqA, sqB, sqC, sqD, sqE, sqF]
       refine wpAnyH_ready (rs := [0, 15]) (by kernel_rfl) (by simp) ?_
       refine AllReadyH.cons rfl (fun K hK => ?_) (AllReadyH.cons rfl (fun K hK => ?_) AllReadyH.nil)
       ·go_simp
        have k41 : Below w5.heap.size w5 (wt34.alloc (.cells #[.string ⟨#[97]⟩, .string ⟨#[98]⟩, .string ⟨#[104]⟩, .string ⟨#[102]⟩] 9)) := k34.alloc k34.size _
        have SA41 : Hid (Blk (wt34.alloc (.cells #[.string ⟨#[97]⟩, .string ⟨#[98]⟩, .string ⟨#[104]⟩, .string ⟨#[102]⟩] 9)) wt34.heap.size #[.string ⟨#[97]⟩, .string ⟨#[98]⟩, .string ⟨#[104]⟩, .string ⟨#[102]⟩] 9) := Blk.new _ _ _
        refine hK.out _ _ (by exact k41) (fun hHeld => ?_)
        clear hK K
        try simp only [Act.put, sqA, sqB, sqC, sqD, sqE, sqF]
        generalize (wt34.alloc (.cells #[.string ⟨#[97]⟩, .string ⟨#[98]⟩, .string ⟨#[104]⟩, .string ⟨#[102]⟩] 9)) = wt41 at *
        refine tkq (v := ?_) 3 rfl ?_ ?_
        rotate_left
        ·intro w' hSw
         go_simp <;> with_reducible rfl
        try simp only [Act.put, sqA, sqB, sqC, sqD, sqE, sqF]
        refine wpAnyH_ready (rs := [4, 15]) (by kernel_rfl) (by simp) ?_
        refine AllReadyH.cons rfl (fun K hK => ?_) (AllReadyH.cons rfl (fun K hK => ?_) AllReadyH.nil)
        ·obtain ⟨s4, hs4, hs5⟩ := lit_nameA SA41.out hkp
         go_simp
         refine hK.out _ _ (by exact k41) (fun hHeld => ?_)
         clear hK K
         try simp only [Act.put, sqA, sqB, sqC, sqD, sqE, sqF]
         clear hs4
         refine tkq (v := ?_) 14 rfl ?_ ?_
         rotate_left
         ·intro w' hSw
          go_simp <;> with_reducible rfl
         try simp only [Act.put, sqA, sqB, sqC, sqD, sqE, sqF]
         refine rdq 15 rfl fun K hK => ?_
         go_simp
         have k42 : Below w5.heap.size w5 (wt41.alloc (.cells #[.string ⟨#[]⟩, .slice none 0 0, .int .i64 0] 40)) := k41.alloc k41.size _
         have MB42 : Hid (Blk (wt41.alloc (.cells #[.string ⟨#[]⟩, .slice none 0 0, .int .i64 0] 40)) wt41.heap.size #[.string ⟨#[]⟩, .slice none 0 0, .int .i64 0] 40) := Blk.new _ _ _
         have hM42 : w5.heap.size ≤ wt41.heap.size := k41.size
         have SA42 := hide (SA41.out.alloc (.cells #[.string ⟨#[]⟩, .slice none 0 0, .int .i64 0] 40))
         refine hK.out _ _ (by exact k42) (fun hHeld => ?_)
         clear hK K
         try simp only [Act.put, sqA, sqB, sqC, sqD, sqE, sqF]
         generalize (wt41.alloc (.cells #[.string ⟨#[]⟩, .slice none 0 0, .int .i64 0] 40)) = wt42 at *
         have f0 := MB42.out.cell 0
         have f1 := MB42.out.cell 1
         have f2 := MB42.out.cell 2
         have ff := MB42.out.frozen
         have fl := MB42.out.lt
         have kS : Below w5.heap.size w5 (((wt42.setCell ⟨wt41.heap.size, 0, none⟩ (.string s4)).setCell ⟨wt41.heap.size, 1, none⟩ (.slice none 0 0)).setCell ⟨wt41.heap.size, 2, none⟩ (.int .i64 (kq : Int))) := ((k42.setCell (p := ⟨wt41.heap.size, 0, none⟩) hM42 _).setCell (p := ⟨wt41.heap.size, 1, none⟩) hM42 _).setCell (p := ⟨wt41.heap.size, 2, none⟩) hM42 _
         have FIN : Hid (AfP w3 (n : Int) (.pointer (some ⟨wt41.heap.size, 0, none⟩)) (((wt42.setCell ⟨wt41.heap.size, 0, none⟩ (.string s4)).setCell ⟨wt41.heap.size, 1, none⟩ (.slice none 0 0)).setCell ⟨wt41.heap.size, 2, none⟩ (.int .i64 (kq : Int)))) := ⟨wt41.heap.size, s4, kq, rfl, ⟨((MB42.out.set 0 _).set 1 _).set 2 _, B5.out.trans (kS.mono B5.out.size), Nat.le_trans B5.out.size hM42⟩, hs5, by omega⟩
         refine rdq 16 rfl fun K hK => ?_
         go_simp
         refine hK.out _ _ (by exact kS) (fun hHeld => ?_)
         clear hK K
         try simp only [Act.put, sqA, sqB, sqC, sqD, sqE, sqF]
         refine wpAnyH_done (by kernel_rfl) ?_ _
         clear f0 f1 f2 ff fl
         go_wp2_with fail
         go_meet
         exact FIN.out
        ·go_simp
         have k43 : Below w5.heap.size w5 (wt41.alloc (.cells #[.string ⟨#[]⟩, .slice none 0 0, .int .i64 0] 40)) := k41.alloc k41.size _
         have MB43 : Hid (Blk (wt41.alloc (.cells #[.string ⟨#[]⟩, .slice none 0 0, .int .i64 0] 40)) wt41.heap.size #[.string ⟨#[]⟩, .slice none 0 0, .int .i64 0] 40) := Blk.new _ _ _
         have hM43 : w5.heap.size ≤ wt41.heap.size := k41.size
         have SA43 := hide (SA41.out.alloc (.cells #[.string ⟨#[]⟩, .slice none 0 0, .int .i64 0] 40))
         refine hK.out _ _ (by exact k43) (fun hHeld => ?_)
         clear hK K
         try simp only [Act.put, sqA, sqB, sqC, sqD, sqE, sqF]
         generalize (wt41.alloc (.cells #[.string ⟨#[]⟩, .slice none 0 0, .int .i64 0] 40)) = wt43 at *
         refine rdq 4 rfl fun K hK => ?_
         obtain ⟨s4, hs4, hs5⟩ := lit_nameA SA43.out hkp
         go_simp
         refine hK.out _ _ (by exact k43) (fun hHeld => ?_)
         clear hK K
         try simp only [Act.put, sqA, sqB, sqC, sqD, sqE, sqF]
         clear hs4
         refine tkq (v := ?_) 14 rfl ?_ ?_
         rotate_left
         ·intro w' hSw
          go_simp <;> with_reducible rfl
         try simp only [Act.put, sqA, sqB, sqC, sqD, sqE, sqF]
         have f0 := MB43.out.cell 0
         have f1 := MB43.out.cell 1
         have f2 := MB43.out.cell 2
         have ff := MB43.out.frozen
         have fl := MB43.out.lt
         have kS : Below w5.heap.size w5 (((wt43.setCell ⟨wt41.heap.size, 0, none⟩ (.string s4)).setCell ⟨wt41.heap.size, 1, none⟩ (.slice none 0 0)).setCell ⟨wt41.heap.size, 2, none⟩ (.int .i64 (kq : Int))) := ((k43.setCell (p := ⟨wt41.heap.size, 0, none⟩) hM43 _).setCell (p := ⟨wt41.heap.size, 1, none⟩) hM43 _).setCell (p := ⟨wt41.heap.size, 2, none⟩) hM43 _
         have FIN : Hid (AfP w3 (n : Int) (.pointer (some ⟨wt41.heap.size, 0, none⟩)) (((wt43.setCell ⟨wt41.heap.size, 0, none⟩ (.string s4)).setCell ⟨wt41.heap.size, 1, none⟩ (.slice none 0 0)).setCell ⟨wt41.heap.size, 2, none⟩ (.int .i64 (kq : Int)))) := ⟨wt41.heap.size, s4, kq, rfl, ⟨((MB43.out.set 0 _).set 1 _).set 2 _, B5.out.trans (kS.mono B5.out.size), Nat.le_trans B5.out.size hM43⟩, hs5, by omega⟩
         refine rdq 16 rfl fun K hK => ?_
         go_simp
         refine hK.out _ _ (by exact kS) (fun hHeld => ?_)
         clear hK K
         try simp only [Act.put, sqA, sqB, sqC, sqD, sqE, sqF]
         refine wpAnyH_done (by kernel_rfl) ?_ _
         clear f0 f1 f2 ff fl
         go_wp2_with fail
         go_meet
         exact FIN.out
       ·go_simp
        have k44 : Below w5.heap.size w5 (wt34.alloc (.cells #[.string ⟨#[]⟩, .slice none 0 0, .int .i64 0] 40)) := k34.alloc k34.size _
        have MB44 : Hid (Blk (wt34.alloc (.cells #[.string ⟨#[]⟩, .slice none 0 0, .int .i64 0] 40)) wt34.heap.size #[.string ⟨#[]⟩, .slice none 0 0, .int .i64 0] 40) := Blk.new _ _ _
        have hM44 : w5.heap.size ≤ wt34.heap.size := k34.size
        refine hK.out _ _ (by exact k44) (fun hHeld => ?_)
        clear hK K
        try simp only [Act.put, sqA, sqB, sqC, sqD, sqE, sqF]
        generalize (wt34.alloc (.cells #[.string ⟨#[]⟩, .slice none 0 0, .int .i64 0] 40)) = wt44 at *
        refine rdq 0 rfl fun K hK => ?_
        go_simp
        have k45 : Below w5.heap.size w5 (wt44.alloc (.cells #[.string ⟨#[97]⟩, .string ⟨#[98]⟩, .string ⟨#[104]⟩, .string ⟨#[102]⟩] 9)) := k44.alloc k44.size _
        have SA45 : Hid (Blk (wt44.alloc (.cells #[.string ⟨#[97]⟩, .string ⟨#[98]⟩, .string ⟨#[104]⟩, .string ⟨#[102]⟩] 9)) wt44.heap.size #[.string ⟨#[97]⟩, .string ⟨#[98]⟩, .string ⟨#[104]⟩, .string ⟨#[102]⟩] 9) := Blk.new _ _ _
        have MB45 := hide (MB44.out.alloc (.cells #[.string ⟨#[97]⟩, .string ⟨#[98]⟩, .string ⟨#[104]⟩, .string ⟨#[102]⟩] 9))
        refine hK.out _ _ (by exact k45) (fun hHeld => ?_)
        clear hK K
        try simp only [Act.put, sqA, sqB, sqC, sqD, sqE, sqF]
        generalize (wt44.alloc (.cells #[.string ⟨#[97]⟩, .string ⟨#[98]⟩, .string ⟨#[104]⟩, .string ⟨#[102]⟩] 9)) = wt45 at *
        refine tkq (v := ?_) 3 rfl ?_ ?_
        rotate_left
        ·intro w' hSw
         go_simp <;> with_reducible rfl
        try simp only [Act.put, sqA, sqB, sqC, sqD, sqE, sqF]
        refine rdq 4 rfl fun K hK => ?_
        obtain ⟨s4, hs4, hs5⟩ := lit_nameA SA45.out hkp
        go_simp
        refine hK.out _ _ (by exact k45) (fun hHeld => ?_)
        clear hK K
        try simp only [Act.put, sqA, sqB, sqC, sqD, sqE, sqF]
        clear hs4
        refine tkq (v := ?_) 14 rfl ?_ ?_
        rotate_left
        ·intro w' hSw
         go_simp <;> with_reducible rfl
        try simp only [Act.put, sqA, sqB, sqC, sqD, sqE, sqF]
        have f0 := MB45.out.cell 0
        have f1 := MB45.out.cell 1
        have f2 := MB45.out.cell 2
        have ff := MB45.out.frozen
        have fl := MB45.out.lt
        have kS : Below w5.heap.size w5 (((wt45.setCell ⟨wt34.heap.size, 0, none⟩ (.string s4)).setCell ⟨wt34.heap.size, 1, none⟩ (.slice none 0 0)).setCell ⟨wt34.heap.size, 2, none⟩ (.int .i64 (kq : Int))) := ((k45.setCell (p := ⟨wt34.heap.size, 0, none⟩) hM44 _).setCell (p := ⟨wt34.heap.size, 1, none⟩) hM44 _).setCell (p := ⟨wt34.heap.size, 2, none⟩) hM44 _
        have FIN : Hid (AfP w3 (n : Int) (.pointer (some ⟨wt34.heap.size, 0, none⟩)) (((wt45.setCell ⟨wt34.heap.size, 0, none⟩ (.string s4)).setCell ⟨wt34.heap.size, 1, none⟩ (.slice none 0 0)).setCell ⟨wt34.heap.size, 2, none⟩ (.int .i64 (kq : Int)))) := ⟨wt34.heap.size, s4, kq, rfl, ⟨((MB45.out.set 0 _).set 1 _).set 2 _, B5.out.trans (kS.mono B5.out.size), Nat.le_trans B5.out.size hM44⟩, hs5, by omega⟩
        refine rdq 16 rfl fun K hK => ?_
        go_simp
        refine hK.out _ _ (by exact kS) (fun hHeld => ?_)
        clear hK K
        try simp only [Act.put, sqA, sqB, sqC, sqD, sqE, sqF]
        refine wpAnyH_done (by kernel_rfl) ?_ _
        clear f0 f1 f2 ff fl
        go_wp2_with fail
        go_meet
        exact FIN.out
      ·go_simp
       have k46 : Below w5.heap.size w5 (wt34.alloc (.cells #[.string ⟨#[]⟩, .slice none 0 0, .int .i64 0] 40)) := k34.alloc k34.size _
       have MB46 : Hid (Blk (wt34.alloc (.cells #[.string ⟨#[]⟩, .slice none 0 0, .int .i64 0] 40)) wt34.heap.size #[.string ⟨#[]⟩, .slice none 0 0, .int .i64 0] 40) := Blk.new _ _ _
       have hM46 : w5.heap.size ≤ wt34.heap.size := k34.size
       refine hK.out _ _ (by exact k46) (fun hHeld => ?_)
       clear hK K
       try simp only [Act.put, sqA, sqB, sqC, sqD, sqE, sqF]
       generalize (wt34.alloc (.cells #[.string ⟨#[]⟩, .slice none 0 0, .int .i64 0] 40)) = wt46 at *
       refine wpAnyH_ready (rs := [0, 13]) (by kernel_rfl) (by simp) ?_
       refine AllReadyH.cons rfl (fun K hK => ?_) (AllReadyH.cons rfl (fun K hK => ?_) AllReadyH.nil)
       ·go_simp
        have k47 : Below w5.heap.size w5 (wt46.alloc (.cells #[.string ⟨#[97]⟩, .string ⟨#[98]⟩, .string ⟨#[104]⟩, .string ⟨#[102]⟩] 9)) := k46.alloc k46.size _
        have SA47 : Hid (Blk (wt46.alloc (.cells #[.string ⟨#[97]⟩, .string ⟨#[98]⟩, .string ⟨#[104]⟩, .string ⟨#[102]⟩] 9)) wt46.heap.size #[.string ⟨#[97]⟩, .string ⟨#[98]⟩, .string ⟨#[104]⟩, .string ⟨#[102]⟩] 9) := Blk.new _ _ _
        have MB47 := hide (MB46.out.alloc (.cells #[.string ⟨#[97]⟩, .string ⟨#[98]⟩, .string ⟨#[104]⟩, .string ⟨#[102]⟩] 9))
        refine hK.out _ _ (by exact k47) (fun hHeld => ?_)
        clear hK K
        try simp only [Act.put, sqA, sqB, sqC, sqD, sqE, sqF]
        generalize (wt46.alloc (.cells #[.string ⟨#[97]⟩, .string ⟨#[98]⟩, .string ⟨#[104]⟩, .string ⟨#[102]⟩] 9)) = wt47 at *
        refine tkq (v := ?_) 3 rfl ?_ ?_
        rotate_left
        ·intro w' hSw
         go_simp <;> with_reducible rfl
        try simp only [Act.put, sqA, sqB, sqC, sqD, sqE, sqF]
        refine wpAnyH_ready (rs := [4, 13]) (by kernel_rfl) (by simp) ?_
        refine AllReadyH.cons rfl (fun K hK => ?_) (AllReadyH.cons rfl (fun K hK => ?_) AllReadyH.nil)
        ·obtain ⟨s4, hs4, hs5⟩ := lit_nameA SA47.out hkp
         go_simp
         refine hK.out _ _ (by exact k47) (fun hHeld => ?_)
         clear hK K
         try simp only [Act.put, sqA, sqB, sqC, sqD, sqE, sqF]
         clear hs4
         refine rdq 13 rfl fun K hK => ?_
         go_simp
         go_at_call 5
         refine (pick_any _ n (by omega) (by omega) ⟨by omega, by omega⟩ _).mono ?_
         rintro e wz ⟨kq, rfl, hkq, hwz⟩
         rw [hwz]
         clear hwz
         go_simp
         refine hK.out _ _ (by exact k47) (fun hHeld => ?_)
         clear hK K
         try simp only [Act.put, sqA, sqB, sqC, sqD, sqE, sqF]
         refine tkq (v := ?_) 14 rfl ?_ ?_
         rotate_left
         ·intro w' hSw
          go_simp <;> with_reducible rfl
         try simp only [Act.put, sqA, sqB, sqC, sqD, sqE, sqF]
         have f0 := MB47.out.cell 0
         have f1 := MB47.out.cell 1
         have f2 := MB47.out.cell 2
         have ff := MB47.out.frozen
         have fl := MB47.out.lt
         have kS : Below w5.heap.size w5 (((wt47.setCell ⟨wt34.heap.size, 0, none⟩ (.string s4)).setCell ⟨wt34.heap.size, 1, none⟩ (.slice none 0 0)).setCell ⟨wt34.heap.size, 2, none⟩ (.int .i64 (kq : Int))) := ((k47.setCell (p := ⟨wt34.heap.size, 0, none⟩) hM46 _).setCell (p := ⟨wt34.heap.size, 1, none⟩) hM46 _).setCell (p := ⟨wt34.heap.size, 2, none⟩) hM46 _
         have FIN : Hid (AfP w3 (n : Int) (.pointer (some ⟨wt34.heap.size, 0, none⟩)) (((wt47.setCell ⟨wt34.heap.size, 0, none⟩ (.string s4)).setCell ⟨wt34.heap.size, 1, none⟩ (.slice none 0 0)).setCell ⟨wt34.heap.size, 2, none⟩ (.int .i64 (kq : Int)))) := ⟨wt34.heap.size, s4, kq, rfl, ⟨((MB47.out.set 0 _).set 1 _).set 2 _, B5.out.trans (kS.mono B5.out.size), Nat.le_trans B5.out.size hM46⟩, hs5, by omega⟩
         refine rdq 16 rfl fun K hK => ?_
         go_simp
         refine hK.out _ _ (by exact kS) (fun hHeld => ?_)
         clear hK K
         try simp only [Act.put, sqA, sqB, sqC, sqD, sqE, sqF]
         refine wpAnyH_done (by kernel_rfl) ?_ _
         clear f0 f1 f2 ff fl
         go_wp2_with fail
         go_meet
         exact FIN.out
        ·go_simp
         go_at_call 5
         refine (pick_any _ n (by omega) (by omega) ⟨by omega, by omega⟩ _).mono ?_
         rintro e wz ⟨kq, rfl, hkq, hwz⟩
         rw [hwz]
         clear hwz
         go_simp
         refine hK.out _ _ (by exact k47) (fun hHeld => ?_)
         clear hK K
         try simp only [Act.put, sqA, sqB, sqC, sqD, sqE, sqF]
         refine rdq 4 rfl fun K hK => ?_
         obtain ⟨s4, hs4, hs5⟩ := lit_nameA SA47.out hkp
         go_simp
         refine hK.out _ _ (by exact k47) (fun hHeld => ?_)
         clear hK K
         try simp only [Act.put, sqA, sqB, sqC, sqD, sqE, sqF]
         clear hs4
         refine tkq (v := ?_) 14 rfl ?_ ?_
         rotate_left
         ·intro w' hSw
          go_simp <;> with_reducible rfl
         try simp only [Act.put, sqA, sqB, sqC, sqD, sqE, sqF]
         have f0 := MB47.out.cell 0
         have f1 := MB47.out.cell 1
         have f2 := MB47.out.cell 2
         have ff := MB47.out.frozen
         have fl := MB47.out.lt
         have kS : Below w5.heap.size w5 (((wt47.setCell ⟨wt34.heap.size, 0, none⟩ (.string s4)).setCell ⟨wt34.heap.size, 1, none⟩ (.slice none 0 0)).setCell ⟨wt34.heap.size, 2, none⟩ (.int .i64 (kq : Int))) := ((k47.setCell (p := ⟨wt34.heap.size, 0, none⟩) hM46 _).setCell (p := ⟨wt34.heap.size, 1, none⟩) hM46 _).setCell (p := ⟨wt34.heap.size, 2, none⟩) hM46 _
         have FIN : Hid (AfP w3 (n : Int) (.pointer (some ⟨wt34.heap.size, 0, none⟩)) (((wt47.setCell ⟨wt34.heap.size, 0, none⟩ (.string s4)).setCell ⟨wt34.heap.size, 1, none⟩ (.slice none 0 0)).setCell ⟨wt34.heap.size, 2, none⟩ (.int .i64 (kq : Int)))) := ⟨wt34.heap.size, s4, kq, rfl, ⟨((MB47.out.set 0 _).set 1 _).set 2 _, B5.out.trans (kS.mono B5.out.size), Nat.le_trans B5.out.size hM46⟩, hs5, by omega⟩
         refine rdq 16 rfl fun K hK => ?_
         go_simp
         refine hK.out _ _ (by exact kS) (fun hHeld => ?_)
         clear hK K
         try simp only [Act.put, sqA, sqB, sqC, sqD, sqE, sqF]
         refine wpAnyH_done (by kernel_rfl) ?_ _
         clear f0 f1 f2 ff fl
         go_wp2_with fail
         go_meet
         exact FIN.out
       ·go_simp
        go_at_call 5
        refine (pick_any _ n (by omega) (by omega) ⟨by omega, by omega⟩ _).mono ?_
        rintro e wz ⟨kq, rfl, hkq, hwz⟩
        rw [hwz]
        clear hwz
        go_simp
        refine hK.out _ _ (by exact k46) (fun hHeld => ?_)
        clear hK K
        try simp only [Act.put, sqA, sqB, sqC, sqD, sqE, sqF]
        refine rdq 0 rfl fun K hK => ?_
        go_simp
        have k48 : Below w5.heap.size w5 (wt46.alloc (.cells #[.string ⟨#[97]⟩, .string ⟨#[98]⟩, .string ⟨#[104]⟩, .string ⟨#[102]⟩] 9)) := k46.alloc k46.size _
        have SA48 : Hid (Blk (wt46.alloc (.cells #[.string ⟨#[97]⟩, .string ⟨#[98]⟩, .string ⟨#[104]⟩, .string ⟨#[102]⟩] 9)) wt46.heap.size #[.string ⟨#[97]⟩, .string ⟨#[98]⟩, .string ⟨#[104]⟩, .string ⟨#[102]⟩] 9) := Blk.new _ _ _
        have MB48 := hide (MB46.out.alloc (.cells #[.string ⟨#[97]⟩, .string ⟨#[98]⟩, .string ⟨#[104]⟩, .string ⟨#[102]⟩] 9))
        refine hK.out _ _ (by exact k48) (fun hHeld => ?_)
        clear hK K
        try simp only [Act.put, sqA, sqB, sqC, sqD, sqE, sqF]
        generalize (wt46.alloc (.cells #[.string ⟨#[97]⟩, .string ⟨#[98]⟩, .string ⟨#[104]⟩, .string ⟨#[102]⟩] 9)) = wt48 at *
        refine tkq (v := ?_) 3 rfl ?_ ?_
        rotate_left
        ·intro w' hSw
         go_simp <;> with_reducible rfl
        try simp only [Act.put, sqA, sqB, sqC, sqD, sqE, sqF]
        refine rdq 4 rfl fun K hK => ?_
        obtain ⟨s4, hs4, hs5⟩ := lit_nameA SA48.out hkp
        go_simp
        refine hK.out _ _ (by exact k48) (fun hHeld => ?_)
        clear hK K
        try simp only [Act.put, sqA, sqB, sqC, sqD, sqE, sqF]
        clear hs4
        refine tkq (v := ?_) 14 rfl ?_ ?_
        rotate_left
        ·intro w' hSw
         go_simp <;> with_reducible rfl
        try simp only [Act.put, sqA, sqB, sqC, sqD, sqE, sqF]
        have f0 := MB48.out.cell 0
        have f1 := MB48.out.cell 1
        have f2 := MB48.out.cell 2
        have ff := MB48.out.frozen
        have fl := MB48.out.lt
        have kS : Below w5.heap.size w5 (((wt48.setCell ⟨wt34.heap.size, 0, none⟩ (.string s4)).setCell ⟨wt34.heap.size, 1, none⟩ (.slice none 0 0)).setCell ⟨wt34.heap.size, 2, none⟩ (.int .i64 (kq : Int))) := ((k48.setCell (p := ⟨wt34.heap.size, 0, none⟩) hM46 _).setCell (p := ⟨wt34.heap.size, 1, none⟩) hM46 _).setCell (p := ⟨wt34.heap.size, 2, none⟩) hM46 _
        have FIN : Hid (AfP w3 (n : Int) (.pointer (some ⟨wt34.heap.size, 0, none⟩)) (((wt48.setCell ⟨wt34.heap.size, 0, none⟩ (.string s4)).setCell ⟨wt34.heap.size, 1, none⟩ (.slice none 0 0)).setCell ⟨wt34.heap.size, 2, none⟩ (.int .i64 (kq : Int)))) := ⟨wt34.heap.size, s4, kq, rfl, ⟨((MB48.out.set 0 _).set 1 _).set 2 _, B5.out.trans (kS.mono B5.out.size), Nat.le_trans B5.out.size hM46⟩, hs5, by omega⟩
        refine rdq 16 rfl fun K hK => ?_
        go_simp
        refine hK.out _ _ (by exact kS) (fun hHeld => ?_)
        clear hK K
        try simp only [Act.put, sqA, sqB, sqC, sqD, sqE, sqF]
        refine wpAnyH_done (by kernel_rfl) ?_ _
        clear f0 f1 f2 ff fl
        go_wp2_with fail
        go_meet
        exact FIN.out
     ·go_simp
      have k49 : Below w5.heap.size w5 (wd.alloc (.cells #[.string ⟨#[]⟩, .slice none 0 0, .int .i64 0] 40)) := kd.alloc kd.size _
      have MB49 : Hid (Blk (wd.alloc (.cells #[.string ⟨#[]⟩, .slice none 0 0, .int .i64 0] 40)) wd.heap.size #[.string ⟨#[]⟩, .slice none 0 0, .int .i64 0] 40) := Blk.new _ _ _
      have hM49 : w5.heap.size ≤ wd.heap.size := kd.size
      refine hK.out _ _ (by exact k49) (fun hHeld => ?_)
      clear hK K
      try simp only [Act.put, sqA, sqB, sqC, sqD, sqE, sqF]
      generalize (wd.alloc (.cells #[.string ⟨#[]⟩, .slice none 0 0, .int .i64 0] 40)) = wt49 at *
      refine wpAnyH_ready (rs := [0, 11]) (by kernel_rfl) (by simp) ?_
      refine AllReadyH.cons rfl (fun K hK => ?_) (AllReadyH.cons rfl (fun K hK => ?_) AllReadyH.nil)
      ·go_simp
       have k50 : Below w5.heap.size w5 (wt49.alloc (.cells #[.string ⟨#[97]⟩, .string ⟨#[98]⟩, .string ⟨#[104]⟩, .string ⟨#[102]⟩] 9)) := k49.alloc k49.size _
       have SA50 : Hid (Blk (wt49.alloc (.cells #[.string ⟨#[97]⟩, .string ⟨#[98]⟩, .string ⟨#[104]⟩, .string ⟨#[102]⟩] 9)) wt49.heap.size #[.string ⟨#[97]⟩, .string ⟨#[98]⟩, .string ⟨#[104]⟩, .string ⟨#[102]⟩] 9) := Blk.new _ _ _
       have MB50 := hide (MB49.out.alloc (.cells #[.string ⟨#[97]⟩, .string ⟨#[98]⟩, .string ⟨#[104]⟩, .string ⟨#[102]⟩] 9))
       refine hK.out _ _ (by exact k50) (fun hHeld => ?_)
       clear hK K
       try simp only [Act.put, sqA, sqB, sqC, sqD, sqE, sqF]
       generalize (wt49.alloc (.cells #[.string ⟨#[97]⟩, .string ⟨#[98]⟩, .string ⟨#[104]⟩, .string ⟨#[102]⟩] 9)) = wt50 at *
       refine tkq (v := ?_) 3 rfl ?_ ?_
       rotate_left
       ·intro w' hSw
        go_simp <;> with_reducible rfl
       try simp only [Act.put, sqA, sqB, sqC, sqD, sqE, sqF]
       refine wpAnyH_ready (rs := [4, 11]) (by kernel_rfl) (by simp) ?_
       refine AllReadyH.cons rfl (fun K hK => ?_) (AllReadyH.cons rfl (fun K hK => ?_) AllReadyH.nil)
       ·obtain ⟨s4, hs4, hs5⟩ := lit_nameA SA50.out hkp
        go_simp
        refine hK.out _ _ (by exact k50) (fun hHeld => ?_)
        clear hK K
        try simp only [Act.put, sqA, sqB, sqC, sqD, sqE, sqF]
        clear hs4
        refine rdq 11 rfl fun K hK => ?_
        go_simp
        go_at_call 10
        refine (RAW.out _ (at_ + 4 * k + 1) (by omega) (by omega) _ (B5.out.trans (k50.mono B5.out.size))).mono ?_
        rintro e wt51 ⟨cr, rfl, hcr, hb51⟩
        have k51 : Below w5.heap.size w5 wt51 := k50.trans (hb51.mono k50.size)
        have SA51 := hide (SA50.out.below hb51 SA50.out.lt)
        have MB51 := hide (MB50.out.below hb51 MB50.out.lt)
        clear hb51
        go_simp
        refine hK.out _ _ (by exact k51) (fun hHeld => ?_)
        clear hK K
        try simp only [Act.put, sqA, sqB, sqC, sqD, sqE, sqF]
        refine rdq 13 rfl fun K hK => ?_
        go_simp
        go_at_call 5
        refine (pick_any _ n (by omega) (by omega) ⟨by omega, by omega⟩ _).mono ?_
        rintro e wz ⟨kq, rfl, hkq, hwz⟩
        rw [hwz]
        clear hwz
        go_simp
        refine hK.out _ _ (by exact k51) (fun hHeld => ?_)
        clear hK K
        try simp only [Act.put, sqA, sqB, sqC, sqD, sqE, sqF]
        refine tkq (v := ?_) 14 rfl ?_ ?_
        rotate_left
        ·intro w' hSw
         go_simp <;> with_reducible rfl
        try simp only [Act.put, sqA, sqB, sqC, sqD, sqE, sqF]
        have f0 := MB51.out.cell 0
        have f1 := MB51.out.cell 1
        have f2 := MB51.out.cell 2
        have ff := MB51.out.frozen
        have fl := MB51.out.lt
        have kS : Below w5.heap.size w5 (((wt51.setCell ⟨wd.heap.size, 0, none⟩ (.string s4)).setCell ⟨wd.heap.size, 1, none⟩ (.slice none 0 0)).setCell ⟨wd.heap.size, 2, none⟩ (.int .i64 (kq : Int))) := ((k51.setCell (p := ⟨wd.heap.size, 0, none⟩) hM49 _).setCell (p := ⟨wd.heap.size, 1, none⟩) hM49 _).setCell (p := ⟨wd.heap.size, 2, none⟩) hM49 _
        have FIN : Hid (AfP w3 (n : Int) (.pointer (some ⟨wd.heap.size, 0, none⟩)) (((wt51.setCell ⟨wd.heap.size, 0, none⟩ (.string s4)).setCell ⟨wd.heap.size, 1, none⟩ (.slice none 0 0)).setCell ⟨wd.heap.size, 2, none⟩ (.int .i64 (kq : Int)))) := ⟨wd.heap.size, s4, kq, rfl, ⟨((MB51.out.set 0 _).set 1 _).set 2 _, B5.out.trans (kS.mono B5.out.size), Nat.le_trans B5.out.size hM49⟩, hs5, by omega⟩
        refine rdq 16 rfl fun K hK => ?_
        go_simp
        refine hK.out _ _ (by exact kS) (fun hHeld => ?_)
        clear hK K
        try simp only [Act.put, sqA, sqB, sqC, sqD, sqE, sqF]
        refine wpAnyH_done (by kernel_rfl) ?_ _
        clear f0 f1 f2 ff fl
        go_wp2_with fail
        go_meet
        exact FIN.out
       ·go_simp
        go_at_call 10
        refine (RAW.out _ (at_ + 4 * k + 1) (by omega) (by omega) _ (B5.out.trans (k50.mono B5.out.size))).mono ?_
        rintro e wt52 ⟨cr, rfl, hcr, hb52⟩
        have k52 : Below w5.heap.size w5 wt52 := k50.trans (hb52.mono k50.size)
        have SA52 := hide (SA50.out.below hb52 SA50.out.lt)
        have MB52 := hide (MB50.out.below hb52 MB50.out.lt)
        clear hb52
        go_simp
        refine hK.out _ _ (by exact k52) (fun hHeld => ?_)
        clear hK K
        try simp only [Act.put, sqA, sqB, sqC, sqD, sqE, sqF]
        refine wpAnyH_ready (rs := [4, 13]) (by kernel_rfl) (by simp) ?_
        refine AllReadyH.cons rfl (fun K hK => ?_) (AllReadyH.cons rfl (fun K hK => ?_) AllReadyH.nil)
        ·obtain ⟨s4, hs4, hs5⟩ := lit_nameA SA52.out hkp
         go_simp
         refine hK.out _ _ (by exact k52) (fun hHeld => ?_)
         clear hK K
         try simp only [Act.put, sqA, sqB, sqC, sqD, sqE, sqF]
         clear hs4
         refine rdq 13 rfl fun K hK => ?_
         go_simp
         go_at_call 5
         refine (pick_any _ n (by omega) (by omega) ⟨by omega, by omega⟩ _).mono ?_
         rintro e wz ⟨kq, rfl, hkq, hwz⟩
         rw [hwz]
         clear hwz
         go_simp
         refine hK.out _ _ (by exact k52) (fun hHeld => ?_)
         clear hK K
         try simp only [Act.put, sqA, sqB, sqC, sqD, sqE, sqF]
         refine tkq (v := ?_) 14 rfl ?_ ?_
         rotate_left
         ·intro w' hSw
          go_simp <;> with_reducible rfl
         try simp only [Act.put, sqA, sqB, sqC, sqD, sqE, sqF]
         have f0 := MB52.out.cell 0
         have f1 := MB52.out.cell 1
         have f2 := MB52.out.cell 2
         have ff := MB52.out.frozen
         have fl := MB52.out.lt
         have kS : Below w5.heap.size w5 (((wt52.setCell ⟨wd.heap.size, 0, none⟩ (.string s4)).setCell ⟨wd.heap.size, 1, none⟩ (.slice none 0 0)).setCell ⟨wd.heap.size, 2, none⟩ (.int .i64 (kq : Int))) := ((k52.setCell (p := ⟨wd.heap.size, 0, none⟩) hM49 _).setCell (p := ⟨wd.heap.size, 1, none⟩) hM49 _).setCell (p := ⟨wd.heap.size, 2, none⟩) hM49 _
         have FIN : Hid (AfP w3 (n : Int) (.pointer (some ⟨wd.heap.size, 0, none⟩)) (((wt52.setCell ⟨wd.heap.size, 0, none⟩ (.string s4)).setCell ⟨wd.heap.size, 1, none⟩ (.slice none 0 0)).setCell ⟨wd.heap.size, 2, none⟩ (.int .i64 (kq : Int)))) := ⟨wd.heap.size, s4, kq, rfl, ⟨((MB52.out.set 0 _).set 1 _).set 2 _, B5.out.trans (kS.mono B5.out.size), Nat.le_trans B5.out.size hM49⟩, hs5, by omega⟩
         refine rdq 16 rfl fun K hK => ?_
         go_simp
         refine hK.out _ _ (by exact kS) (fun hHeld => ?_)
         clear hK K
         try simp only [Act.put, sqA, sqB, sqC, sqD, sqE, sqF]
         refine wpAnyH_done (by kernel_rfl) ?_ _
         clear f0 f1 f2 ff fl
         go_wp2_with fail
         go_meet
         exact FIN.out
        ·go_simp
         go_at_call 5
         refine (pick_any _ n (by omega) (by omega) ⟨by omega, by omega⟩ _).mono ?_
         rintro e wz ⟨kq, rfl, hkq, hwz⟩
         rw [hwz]
         clear hwz
         go_simp
         refine hK.out _ _ (by exact k52) (fun hHeld => ?_)
         clear hK K
         try simp only [Act.put, sqA, sqB, sqC, sqD, sqE, sqF]
         refine rdq 4 rfl fun K hK => ?_
         obtain ⟨s4, hs4, hs5⟩ := lit_nameA SA52.out hkp
         go_simp
         refine hK.out _ _ (by exact k52) (fun hHeld => ?_)
         clear hK K
         try simp only [Act.put, sqA, sqB, sqC, sqD, sqE, sqF]
         clear hs4
         refine tkq (v := ?_) 14 rfl ?_ ?_
         rotate_left
         ·intro w' hSw
          go_simp <;> with_reducible rfl
         try simp only [Act.put, sqA, sqB, sqC, sqD, sqE, sqF]
         have f0 := MB52.out.cell 0
         have f1 := MB52.out.cell 1
         have f2 := MB52.out.cell 2
         have ff := MB52.out.frozen
         have fl := MB52.out.lt
         have kS : Below w5.heap.size w5 (((wt52.setCell ⟨wd.heap.size, 0, none⟩ (.string s4)).setCell ⟨wd.heap.size, 1, none⟩ (.slice none 0 0)).setCell ⟨wd.heap.size, 2, none⟩ (.int .i64 (kq : Int))) := ((k52.setCell (p := ⟨wd.heap.size, 0, none⟩) hM49 _).setCell (p := ⟨wd.heap.size, 1, none⟩) hM49 _).setCell (p := ⟨wd.heap.size, 2, none⟩) hM49 _
         have FIN : Hid (AfP w3 (n : Int) (.pointer (some ⟨wd.heap.size, 0, none⟩)) (((wt52.setCell ⟨wd.heap.size, 0, none⟩ (.string s4)).setCell ⟨wd.heap.size, 1, none⟩ (.slice none 0 0)).setCell ⟨wd.heap.size, 2, none⟩ (.int .i64 (kq : Int)))) := ⟨wd.heap.size, s4, kq, rfl, ⟨((MB52.out.set 0 _).set 1 _).set 2 _, B5.out.trans (kS.mono B5.out.size), Nat.le_trans B5.out.size hM49⟩, hs5, by omega⟩
         refine rdq 16 rfl fun K hK => ?_
         go_simp
         refine hK.out _ _ (by exact kS) (fun hHeld => ?_)
         clear hK K
         try simp only [Act.put, sqA, sqB, sqC, sqD, sqE, sqF]
         refine wpAnyH_done (by kernel_rfl) ?_ _
         clear f0 f1 f2 ff fl
         go_wp2_with fail
         go_meet
         exact FIN.out
      ·go_simp
       go_at_call 10
       refine (RAW.out _ (at_ + 4 * k + 1) (by omega) (by omega) _ (B5.out.trans (k49.mono B5.out.size))).mono ?_
       rintro e wt53 ⟨cr, rfl, hcr, hb53⟩
       have k53 : Below w5.heap.size w5 wt53 := k49.trans (hb53.mono k49.size)
       have MB53 := hide (MB49.out.below hb53 MB49.out.lt)
       clear hb53
       go_simp
       refine hK.out _ _ (by exact k53) (fun hHeld => ?_)
       clear hK K
       try simp only [Act.put, sqA, sqB, sqC, sqD, sqE, sqF]
       refine wpAnyH_ready (rs := [0, 13]) (by kernel_rfl) (by simp) ?_
       refine AllReadyH.cons rfl (fun K hK => ?_) (AllReadyH.cons rfl (fun K hK => ?_) AllReadyH.nil)
       ·go_simp
        have k54 : Below w5.heap.size w5 (wt53.alloc (.cells #[.string ⟨#[97]⟩, .string ⟨#[98]⟩, .string ⟨#[104]⟩, .string ⟨#[102]⟩] 9)) := k53.alloc k53.size _
        have SA54 : Hid (Blk (wt53.alloc (.cells #[.string ⟨#[97]⟩, .string ⟨#[98]⟩, .string ⟨#[104]⟩, .string ⟨#[102]⟩] 9)) wt53.heap.size #[.string ⟨#[97]⟩, .string ⟨#[98]⟩, .string ⟨#[104]⟩, .string ⟨#[102]⟩] 9) := Blk.new _ _ _
        have MB54 := hide (MB53.out.alloc (.cells #[.string ⟨#[97]⟩, .string ⟨#[98]⟩, .string ⟨#[104]⟩, .string ⟨#[102]⟩] 9))
        refine hK.out _ _ (by exact k54) (fun hHeld => ?_)
        clear hK K
        try simp only [Act.put, sqA, sqB, sqC, sqD, sqE, sqF]
        generalize (wt53.alloc (.cells #[.string ⟨#[97]⟩, .string ⟨#[98]⟩, .string ⟨#[104]⟩, .string ⟨#[102]⟩] 9)) = wt54 at *
        refine tkq (v := ?_) 3 rfl ?_ ?_
        rotate_left
        ·intro w' hSw
         go_simp <;> with_reducible rfl
        try simp only [Act.put, sqA, sqB, sqC, sqD, sqE, sqF]
        refine wpAnyH_ready (rs := [4, 13]) (by kernel_rfl) (by simp) ?_
        refine AllReadyH.cons rfl (fun K hK => ?_) (AllReadyH.cons rfl (fun K hK => ?_) AllReadyH.nil)
        ·obtain ⟨s4, hs4, hs5⟩ := lit_nameA SA54.out hkp
         go_simp
         refine hK.out _ _ (by exact k54) (fun hHeld => ?_)
         clear hK K
         try simp only [Act.put, sqA, sqB, sqC, sqD, sqE, sqF]
         clear hs4
         refine rdq 13 rfl fun K hK => ?_
         go_simp
         go_at_call 5
         refine (pick_any _ n (by omega) (by omega) ⟨by omega, by omega⟩ _).mono ?_
         rintro e wz ⟨kq, rfl, hkq, hwz⟩
         rw [hwz]
         clear hwz
         go_simp
         refine hK.out _ _ (by exact k54) (fun hHeld => ?_)
         clear hK K
         try simp only [Act.put, sqA, sqB, sqC, sqD, sqE, sqF]
         refine tkq (v := ?_) 14 rfl ?_ ?_
         rotate_left
         ·intro w' hSw
          go_simp <;> with_reducible rfl
         try simp only [Act.put, sqA, sqB, sqC, sqD, sqE, sqF]
         have f0 := MB54.out.cell 0
         have f1 := MB54.out.cell 1
         have f2 := MB54.out.cell 2
         have ff := MB54.out.frozen
         have fl := MB54.out.lt
         have kS : Below w5.heap.size w5 (((wt54.setCell ⟨wd.heap.size, 0, none⟩ (.string s4)).setCell ⟨wd.heap.size, 1, none⟩ (.slice none 0 0)).setCell ⟨wd.heap.size, 2, none⟩ (.int .i64 (kq : Int))) := ((k54.setCell (p := ⟨wd.heap.size, 0, none⟩) hM49 _).setCell (p := ⟨wd.heap.size, 1, none⟩) hM49 _).setCell (p := ⟨wd.heap.size, 2, none⟩) hM49 _
         have FIN : Hid (AfP w3 (n : Int) (.pointer (some ⟨wd.heap.size, 0, none⟩)) (((wt54.setCell ⟨wd.heap.size, 0, none⟩ (.string s4)).setCell ⟨wd.heap.size, 1, none⟩ (.slice none 0 0)).setCell ⟨wd.heap.size, 2, none⟩ (.int .i64 (kq : Int)))) := ⟨wd.heap.size, s4, kq, rfl, ⟨((MB54.out.set 0 _).set 1 _).set 2 _, B5.out.trans (kS.mono B5.out.size), Nat.le_trans B5.out.size hM49⟩, hs5, by omega⟩
         refine rdq 16 rfl fun K hK => ?_
         go_simp
         refine hK.out _ _ (by exact kS) (fun hHeld => ?_)
         clear hK K
         try simp only [Act.put, sqA, sqB, sqC, sqD, sqE, sqF]
         refine wpAnyH_done (by kernel_rfl) ?_ _
         clear f0 f1 f2 ff fl
         go_wp2_with fail
         go_meet
         exact FIN.out
        ·go_simp
         go_at_call 5
         refine (pick_any _ n (by omega) (by omega) ⟨by omega, by omega⟩ _).mono ?_
         rintro e wz ⟨kq, rfl, hkq, hwz⟩
         rw [hwz]
         clear hwz
         go_simp
         refine hK.out _ _ (by exact k54) (fun hHeld => ?_)
         clear hK K
         try simp only [Act.put, sqA, sqB, sqC, sqD, sqE, sqF]
         refine rdq 4 rfl fun K hK => ?_
         obtain ⟨s4, hs4, hs5⟩ := lit_nameA SA54.out hkp
         go_simp
         refine hK.out _ _ (by exact k54) (fun hHeld => ?_)
         clear hK K
         try simp only [Act.put, sqA, sqB, sqC, sqD, sqE, sqF]
         clear hs4
         refine tkq (v := ?_) 14 rfl ?_ ?_
         rotate_left
         ·intro w' hSw
          go_simp <;> with_reducible rfl
         try simp only [Act.put, sqA, sqB, sqC, sqD, sqE, sqF]
         have f0 := MB54.out.cell 0
         have f1 := MB54.out.cell 1
         have f2 := MB54.out.cell 2
         have ff := MB54.out.frozen
         have fl := MB54.out.lt
         have kS : Below w5.heap.size w5 (((wt54.setCell ⟨wd.heap.size, 0, none⟩ (.string s4)).setCell ⟨wd.heap.size, 1, none⟩ (.slice none 0 0)).setCell ⟨wd.heap.size, 2, none⟩ (.int .i64 (kq : Int))) := ((k54.setCell (p := ⟨wd.heap.size, 0, none⟩) hM49 _).setCell (p := ⟨wd.heap.size, 1, none⟩) hM49 _).setCell (p := ⟨wd.heap.size, 2, none⟩) hM49 _
         have FIN : Hid (AfP w3 (n : Int) (.pointer (some ⟨wd.heap.size, 0, none⟩)) (((wt54.setCell ⟨wd.heap.size, 0, none⟩ (.string s4)).setCell ⟨wd.heap.size, 1, none⟩ (.slice none 0 0)).setCell ⟨wd.heap.size, 2, none⟩ (.int .i64 (kq : Int)))) := ⟨wd.heap.size, s4, kq, rfl, ⟨((MB54.out.set 0 _).set 1 _).set 2 _, B5.out.trans (kS.mono B5.out.size), Nat.le_trans B5.out.size hM49⟩, hs5, by omega⟩
         refine rdq 16 rfl fun K hK => ?_
         go_simp
         refine hK.out _ _ (by exact kS) (fun hHeld => ?_)
         clear hK K
         try simp only [Act.put, sqA, sqB, sqC, sqD, sqE, sqF]
         refine wpAnyH_done (by kernel_rfl) ?_ _
         clear f0 f1 f2 ff fl
         go_wp2_with fail
         go_meet
         exact FIN.out
       ·go_simp
        go_at_call 5
        refine (pick_any _ n (by omega) (by omega) ⟨by omega, by omega⟩ _).mono ?_
        rintro e wz ⟨kq, rfl, hkq, hwz⟩
        rw [hwz]
        clear hwz
        go_simp
        refine hK.out _ _ (by exact k53) (fun hHeld => ?_)
        clear hK K
        try simp only [Act.put, sqA, sqB, sqC, sqD, sqE, sqF]
        refine rdq 0 rfl fun K hK => ?_
        go_simp
        have k55 : Below w5.heap.size w5 (wt53.alloc (.cells #[.string ⟨#[97]⟩, .string ⟨#[98]⟩, .string ⟨#[104]⟩, .string ⟨#[102]⟩] 9)) := k53.alloc k53.size _
        have SA55 : Hid (Blk (wt53.alloc (.cells #[.string ⟨#[97]⟩, .string ⟨#[98]⟩, .string ⟨#[104]⟩, .string ⟨#[102]⟩] 9)) wt53.heap.size #[.string ⟨#[97]⟩, .string ⟨#[98]⟩, .string ⟨#[104]⟩, .string ⟨#[102]⟩] 9) := Blk.new _ _ _
        have MB55 := hide (MB53.out.alloc (.cells #[.string ⟨#[97]⟩, .string ⟨#[98]⟩, .string ⟨#[104]⟩, .string ⟨#[102]⟩] 9))
        refine hK.out _ _ (by exact k55) (fun hHeld => ?_)
        clear hK K
        try simp only [Act.put, sqA, sqB, sqC, sqD, sqE, sqF]
        generalize (wt53.alloc (.cells #[.string ⟨#[97]⟩, .string ⟨#[98]⟩, .string ⟨#[104]⟩, .string ⟨#[102]⟩] 9)) = wt55 at *
        refine tkq (v := ?_) 3 rfl ?_ ?_
        rotate_left
        ·intro w' hSw
         go_simp <;> with_reducible rfl
        try simp only [Act.put, sqA, sqB, sqC, sqD, sqE, sqF]
        refine rdq 4 rfl fun K hK => ?_
        obtain ⟨s4, hs4, hs5⟩ := lit_nameA SA55.out hkp
        go_simp
        refine hK.out _ _ (by exact k55) (fun hHeld => ?_)
        clear hK K
        try simp only [Act.put, sqA, sqB, sqC, sqD, sqE, sqF]
        clear hs4
        refine tkq (v := ?_) 14 rfl ?_ ?_
        rotate_left
        ·intro w' hSw
         go_simp <;> with_reducible rfl
        try simp only [Act.put, sqA, sqB, sqC, sqD, sqE, sqF]
        have f0 := MB55.out.cell 0
        have f1 := MB55.out.cell 1
        have f2 := MB55.out.cell 2
        have ff := MB55.out.frozen
        have fl := MB55.out.lt
        have kS : Below w5.heap.size w5 (((wt55.setCell ⟨wd.heap.size, 0, none⟩ (.string s4)).setCell ⟨wd.heap.size, 1, none⟩ (.slice none 0 0)).setCell ⟨wd.heap.size, 2, none⟩ (.int .i64 (kq : Int))) := ((k55.setCell (p := ⟨wd.heap.size, 0, none⟩) hM49 _).setCell (p := ⟨wd.heap.size, 1, none⟩) hM49 _).setCell (p := ⟨wd.heap.size, 2, none⟩) hM49 _
        have FIN : Hid (AfP w3 (n : Int) (.pointer (some ⟨wd.heap.size, 0, none⟩)) (((wt55.setCell ⟨wd.heap.size, 0, none⟩ (.string s4)).setCell ⟨wd.heap.size, 1, none⟩ (.slice none 0 0)).setCell ⟨wd.heap.size, 2, none⟩ (.int .i64 (kq : Int)))) := ⟨wd.heap.size, s4, kq, rfl, ⟨((MB55.out.set 0 _).set 1 _).set 2 _, B5.out.trans (kS.mono B5.out.size), Nat.le_trans B5.out.size hM49⟩, hs5, by omega⟩
        refine rdq 16 rfl fun K hK => ?_
        go_simp
        refine hK.out _ _ (by exact kS) (fun hHeld => ?_)
        clear hK K
        try simp only [Act.put, sqA, sqB, sqC, sqD, sqE, sqF]
        refine wpAnyH_done (by kernel_rfl) ?_ _
        clear f0 f1 f2 ff fl
        go_wp2_with fail
        go_meet
        exact FIN.out
    ·go_simp
     have k56 : Below w5.heap.size w5 (wd.alloc (.cells #[.string ⟨#[]⟩, .slice none 0 0, .int .i64 0] 40)) := kd.alloc kd.size _
     have MB56 : Hid (Blk (wd.alloc (.cells #[.string ⟨#[]⟩, .slice none 0 0, .int .i64 0] 40)) wd.heap.size #[.string ⟨#[]⟩, .slice none 0 0, .int .i64 0] 40) := Blk.new _ _ _
     have hM56 : w5.heap.size ≤ wd.heap.size := kd.size
     refine hK.out _ _ (by exact k56) (fun hHeld => ?_)
     clear hK K
     try simp only [Act.put, sqA, sqB, sqC, sqD, sqE, sqF]
     generalize (wd.alloc (.cells #[.string ⟨#[]⟩, .slice none 0 0, .int .i64 0] 40)) = wt56 at *
     refine wpAnyH_ready (rs := [0, 2]) (by kernel_rfl) (by simp) ?_
     refine AllReadyH.cons rfl (fun K hK => ?_) (AllReadyH.cons rfl (fun K hK => ?_) AllReadyH.nil)
     ·go_simp
      have k57 : Below w5.heap.size w5 (wt56.alloc (.cells #[.string ⟨#[97]⟩, .string ⟨#[98]⟩, .string ⟨#[104]⟩, .string ⟨#[102]⟩] 9)) := k56.alloc k56.size _
      have SA57 : Hid (Blk (wt56.alloc (.cells #[.string ⟨#[97]⟩, .string ⟨#[98]⟩, .string ⟨#[104]⟩, .string ⟨#[102]⟩] 9)) wt56.heap.size #[.string ⟨#[97]⟩, .string ⟨#[98]⟩, .string ⟨#[104]⟩, .string ⟨#[102]⟩] 9) := Blk.new _ _ _
      have MB57 := hide (MB56.out.alloc (.cells #[.string ⟨#[97]⟩, .string ⟨#[98]⟩, .string ⟨#[104]⟩, .string ⟨#[102]⟩] 9))
      refine hK.out _ _ (by exact k57) (fun hHeld => ?_)
      clear hK K
      try simp only [Act.put, sqA, sqB, sqC, sqD, sqE, sqF]
      generalize (wt56.alloc (.cells #[.string ⟨#[97]⟩, .string ⟨#[98]⟩, .string ⟨#[104]⟩, .string ⟨#[102]⟩] 9)) = wt57 at *
      refine rdq 2 rfl fun K hK => ?_
      go_simp
      go_at_call 5
      refine (pick_any _ 4 (by decide) (by decide) ⟨by omega, by omega⟩ _).mono ?_
      rintro e wz ⟨kp, rfl, hkp, hwz⟩
      rw [hwz]
      clear hwz
      have hkpi : (kp : Int) < 4 := by omega
      go_simp
      refine hK.out _ _ (by exact k57) (fun hHeld => ?_)
      clear hK K
      try simp only [Act.put, sqA, sqB, sqC, sqD, sqE, sqF]
      refine tkq (v := ?_) 3 rfl ?_ ?_
      rotate_left
      ·intro w' hSw
       go_simp <;> with_reducible rfl
      try simp only [Act.put, sqA, sqB, sqC, sqD, sqE, sqF]
      refine wpAnyH_ready (rs := [4, 11]) (by kernel_rfl) (by simp) ?_
      refine AllReadyH.cons rfl (fun K hK => ?_) (AllReadyH.cons rfl (fun K hK => ?_) AllReadyH.nil)
      ·obtain ⟨s4, hs4, hs5⟩ := lit_nameA SA57.out hkp
       go_simp
       refine hK.out _ _ (by exact k57) (fun hHeld => ?_)
       clear hK K
       try simp only [Act.put, sqA, sqB, sqC, sqD, sqE, sqF]
       clear hs4
       refine rdq 11 rfl fun K hK => ?_
       go_simp
       go_at_call 10
       refine (RAW.out _ (at_ + 4 * k + 1) (by omega) (by omega) _ (B5.out.trans (k57.mono B5.out.size))).mono ?_
       rintro e wt58 ⟨cr, rfl, hcr, hb58⟩
       have k58 : Below w5.heap.size w5 wt58 := k57.trans (hb58.mono k57.size)
       have SA58 := hide (SA57.out.below hb58 SA57.out.lt)
       have MB58 := hide (MB57.out.below hb58 MB57.out.lt)
       clear hb58
       go_simp
       refine hK.out _ _ (by exact k58) (fun hHeld => ?_)
       clear hK K
       try simp only [Act.put, sqA, sqB, sqC, sqD, sqE, sqF]
       refine rdq 13 rfl fun K hK => ?_
       go_simp
       go_at_call 5
       refine (pick_any _ n (by omega) (by omega) ⟨by omega, by omega⟩ _).mono ?_
       rintro e wz ⟨kq, rfl, hkq, hwz⟩
       rw [hwz]
       clear hwz
       go_simp
       refine hK.out _ _ (by exact k58) (fun hHeld => ?_)
       clear hK K
       try simp only [Act.put, sqA, sqB, sqC, sqD, sqE, sqF]
       refine tkq (v := ?_) 14 rfl ?_ ?_
       rotate_left
       ·intro w' hSw
        go_simp <;> with_reducible rfl
       try simp only [Act.put, sqA, sqB, sqC, sqD, sqE, sqF]
       have f0 := MB58.out.cell 0
       have f1 := MB58.out.cell 1
       have f2 := MB58.out.cell 2
       have ff := MB58.out.frozen
       have fl := MB58.out.lt
       have kS : Below w5.heap.size w5 (((wt58.setCell ⟨wd.heap.size, 0, none⟩ (.string s4)).setCell ⟨wd.heap.size, 1, none⟩ (.slice none 0 0)).setCell ⟨wd.heap.size, 2, none⟩ (.int .i64 (kq : Int))) := ((k58.setCell (p := ⟨wd.heap.size, 0, none⟩) hM56 _).setCell (p := ⟨wd.heap.size, 1, none⟩) hM56 _).setCell (p := ⟨wd.heap.size, 2, none⟩) hM56 _
       have FIN : Hid (AfP w3 (n : Int) (.pointer (some ⟨wd.heap.size, 0, none⟩)) (((wt58.setCell ⟨wd.heap.size, 0, none⟩ (.string s4)).setCell ⟨wd.heap.size, 1, none⟩ (.slice none 0 0)).setCell ⟨wd.heap.size, 2, none⟩ (.int .i64 (kq : Int)))) := ⟨wd.heap.size, s4, kq, rfl, ⟨((MB58.out.set 0 _).set 1 _).set 2 _, B5.out.trans (kS.mono B5.out.size), Nat.le_trans B5.out.size hM56⟩, hs5, by omega⟩
       refine rdq 16 rfl fun K hK => ?_
       go_simp
       refine hK.out _ _ (by exact kS) (fun hHeld => ?_)
       clear hK K
       try simp only [Act.put, sqA, sqB, sqC, sqD, sqE, sqF]
       refine wpAnyH_done (by kernel_rfl) ?_ _
       clear f0 f1 f2 ff fl
       go_wp2_with fail
       go_meet
       exact FIN.out
      ·go_simp
       go_at_call 10
       refine (RAW.out _ (at_ + 4 * k + 1) (by omega) (by omega) _ (B5.out.trans (k57.mono B5.out.size))).mono ?_
       rintro e wt59 ⟨cr, rfl, hcr, hb59⟩
       have k59 : Below w5.heap.size w5 wt59 := k57.trans (hb59.mono k57.size)
       have SA59 := hide (SA57.out.below hb59 SA57.out.lt)
       have MB59 := hide (MB57.out.below hb59 MB57.out.lt)
       clear hb59
       go_simp
       refine hK.out _ _ (by exact k59) (fun hHeld => ?_)
       clear hK K
       try simp only [Act.put, sqA, sqB, sqC, sqD, sqE, sqF]
       refine wpAnyH_ready (rs := [4, 13]) (by kernel_rfl) (by simp) ?_
       refine AllReadyH.cons rfl (fun K hK => ?_) (AllReadyH.cons rfl (fun K hK => ?_) AllReadyH.nil)
       ·obtain ⟨s4, hs4, hs5⟩ := lit_nameA SA59.out hkp
        go_simp
        refine hK.out _ _ (by exact k59) (fun hHeld => ?_)
        clear hK K
        try simp only [Act.put, sqA, sqB, sqC, sqD, sqE, sqF]
        clear hs4
        refine rdq 13 rfl fun K hK => ?_
        go_simp
        go_at_call 5
        refine (pick_any _ n (by omega) (by omega) ⟨by omega, by omega⟩ _).mono ?_
        rintro e wz ⟨kq, rfl, hkq, hwz⟩
        rw [hwz]
        clear hwz
        go_simp
        refine hK.out _ _ (by exact k59) (fun hHeld => ?_)
        clear hK K
        try simp only [Act.put, sqA, sqB, sqC, sqD, sqE, sqF]
        refine tkq (v := ?_) 14 rfl ?_ ?_
        rotate_left
        ·intro w' hSw
         go_simp <;> with_reducible rfl
        try simp only [Act.put, sqA, sqB, sqC, sqD, sqE, sqF]
        have f0 := MB59.out.cell 0
        have f1 := MB59.out.cell 1
        have f2 := MB59.out.cell 2
        have ff := MB59.out.frozen
        have fl := MB59.out.lt
        have kS : Below w5.heap.size w5 (((wt59.setCell ⟨wd.heap.size, 0, none⟩ (.string s4)).setCell ⟨wd.heap.size, 1, none⟩ (.slice none 0 0)).setCell ⟨wd.heap.size, 2, none⟩ (.int .i64 (kq : Int))) := ((k59.setCell (p := ⟨wd.heap.size, 0, none⟩) hM56 _).setCell (p := ⟨wd.heap.size, 1, none⟩) hM56 _).setCell (p := ⟨wd.heap.size, 2, none⟩) hM56 _
        have FIN : Hid (AfP w3 (n : Int) (.pointer (some ⟨wd.heap.size, 0, none⟩)) (((wt59.setCell ⟨wd.heap.size, 0, none⟩ (.string s4)).setCell ⟨wd.heap.size, 1, none⟩ (.slice none 0 0)).setCell ⟨wd.heap.size, 2, none⟩ (.int .i64 (kq : Int)))) := ⟨wd.heap.size, s4, kq, rfl, ⟨((MB59.out.set 0 _).set 1 _).set 2 _, B5.out.trans (kS.mono B5.out.size), Nat.le_trans B5.out.size hM56⟩, hs5, by omega⟩
        refine rdq 16 rfl fun K hK => ?_
        go_simp
        refine hK.out _ _ (by exact kS) (fun hHeld => ?_)
        clear hK K
        try simp only [Act.put, sqA, sqB, sqC, sqD, sqE, sqF]
        refine wpAnyH_done (by kernel_rfl) ?_ _
        clear f0 f1 f2 ff fl
        go_wp2_with fail
        go_meet
        exact FIN.out
       ·go_simp
        go_at_call 5
        refine (pick_any _ n (by omega) (by omega) ⟨by omega, by omega⟩ _).mono ?_
        rintro e wz ⟨kq, rfl, hkq, hwz⟩
        rw [hwz]
        clear hwz
        go_simp
        refine hK.out _ _ (by exact k59) (fun hHeld => ?_)
        clear hK K
        try simp only [Act.put, sqA, sqB, sqC, sqD, sqE, sqF]
        refine rdq 4 rfl fun K hK => ?_
        obtain ⟨s4, hs4, hs5⟩ := lit_nameA SA59.out hkp
        go_simp
        refine hK.out _ _ (by exact k59) (fun hHeld => ?_)
        clear hK K
        try simp only [Act.put, sqA, sqB, sqC, sqD, sqE, sqF]
        clear hs4
        refine tkq (v := ?_) 14 rfl ?_ ?_
        rotate_left
        ·intro w' hSw
         go_simp <;> with_reducible rfl
        try simp only [Act.put, sqA, sqB, sqC, sqD, sqE, sqF]
        have f0 := MB59.out.cell 0
        have f1 := MB59.out.cell 1
        have f2 := MB59.out.cell 2
        have ff := MB59.out.frozen
        have fl := MB59.out.lt
        have kS : Below w5.heap.size w5 (((wt59.setCell ⟨wd.heap.size, 0, none⟩ (.string s4)).setCell ⟨wd.heap.size, 1, none⟩ (.slice none 0 0)).setCell ⟨wd.heap.size, 2, none⟩ (.int .i64 (kq : Int))) := ((k59.setCell (p := ⟨wd.heap.size, 0, none⟩) hM56 _).setCell (p := ⟨wd.heap.size, 1, none⟩) hM56 _).setCell (p := ⟨wd.heap.size, 2, none⟩) hM56 _
        have FIN : Hid (AfP w3 (n : Int) (.pointer (some ⟨wd.heap.size, 0, none⟩)) (((wt59.setCell ⟨wd.heap.size, 0, none⟩ (.string s4)).setCell ⟨wd.heap.size, 1, none⟩ (.slice none 0 0)).setCell ⟨wd.heap.size, 2, none⟩ (.int .i64 (kq : Int)))) := ⟨wd.heap.size, s4, kq, rfl, ⟨((MB59.out.set 0 _).set 1 _).set 2 _, B5.out.trans (kS.mono B5.out.size), Nat.le_trans B5.out.size hM56⟩, hs5, by omega⟩
        refine rdq 16 rfl fun K hK => ?_
        go_simp
        refine hK.out _ _ (by exact kS) (fun hHeld => ?_)
        clear hK K
        try simp only [Act.put, sqA, sqB, sqC, sqD, sqE, sqF]
        refine wpAnyH_done (by kernel_rfl) ?_ _
        clear f0 f1 f2 ff fl
        go_wp2_with fail
        go_meet
        exact FIN.out
     ·go_simp
      go_at_call 5
      refine (pick_any _ 4 (by decide) (by decide) ⟨by omega, by omega⟩ _).mono ?_
      rintro e wz ⟨kp, rfl, hkp, hwz⟩
      rw [hwz]
      clear hwz
      have hkpi : (kp : Int) < 4 := by omega
      go_simp
      refine hK.out _ _ (by exact k56) (fun hHeld => ?_)
      clear hK K
      try simp only [Act.put, sqA, sqB, sqC, sqD, sqE, sqF]
      refine wpAnyH_ready (rs := [0, 11]) (by kernel_rfl) (by simp) ?_
      refine AllReadyH.cons rfl (fun K hK => ?_) (AllReadyH.cons rfl (fun K hK => ?_) AllReadyH.nil)
      ·go_simp
       have k60 : Below w5.heap.size w5 (wt56.alloc (.cells #[.string ⟨#[97]⟩, .string ⟨#[98]⟩, .string ⟨#[104]⟩, .string ⟨#[102]⟩] 9)) := k56.alloc k56.size _
       have SA60 : Hid (Blk (wt56.alloc (.cells #[.string ⟨#[97]⟩, .string ⟨#[98]⟩, .string ⟨#[104]⟩, .string ⟨#[102]⟩] 9)) wt56.heap.size #[.string ⟨#[97]⟩, .string ⟨#[98]⟩, .string ⟨#[104]⟩, .string ⟨#[102]⟩] 9) := Blk.new _ _ _
       have MB60 := hide (MB56.out.alloc (.cells #[.string ⟨#[97]⟩, .string ⟨#[98]⟩, .string ⟨#[104]⟩, .string ⟨#[102]⟩] 9))
       refine hK.out _ _ (by exact k60) (fun hHeld => ?_)
       clear hK K
       try simp only [Act.put, sqA, sqB, sqC, sqD, sqE, sqF]
       generalize (wt56.alloc (.cells #[.string ⟨#[97]⟩, .string ⟨#[98]⟩, .string ⟨#[104]⟩, .string ⟨#[102]⟩] 9)) = wt60 at *
       refine tkq (v := ?_) 3 rfl ?_ ?_
       rotate_left
       ·intro w' hSw
        go_simp <;> with_reducible rfl
       try simp only [Act.put, sqA, sqB, sqC, sqD, sqE, sqF]
       refine wpAnyH_ready (rs := [4, 11]) (by kernel_rfl) (by simp) ?_
       refine AllReadyH.cons rfl (fun K hK => ?_) (AllReadyH.cons rfl (fun K hK => ?_) AllReadyH.nil)
       ·obtain ⟨s4, hs4, hs5⟩ := lit_nameA SA60.out hkp
        go_simp
        refine hK.out _ _ (by exact k60) (fun hHeld => ?_)
        clear hK K
        try simp only [Act.put, sqA, sqB, sqC, sqD, sqE, sqF]
        clear hs4
        refine rdq 11 rfl fun K hK => ?_
        go_simp
        go_at_call 10
        refine (RAW.out _ (at_ + 4 * k + 1) (by omega) (by omega) _ (B5.out.trans (k60.mono B5.out.size))).mono ?_
        rintro e wt61 ⟨cr, rfl, hcr, hb61⟩
        have k61 : Below w5.heap.size w5 wt61 := k60.trans (hb61.mono k60.size)
        have SA61 := hide (SA60.out.below hb61 SA60.out.lt)
        have MB61 := hide (MB60.out.below hb61 MB60.out.lt)
        clear hb61
        go_simp
        refine hK.out _ _ (by exact k61) (fun hHeld => ?_)
        clear hK K
        try simp only [Act.put, sqA, sqB, sqC, sqD, sqE, sqF]
        refine rdq 13 rfl fun K hK => ?_
        go_simp
        go_at_call 5
        refine (pick_any _ n (by omega) (by omega) ⟨by omega, by omega⟩ _).mono ?_
        rintro e wz ⟨kq, rfl, hkq, hwz⟩
        rw [hwz]
        clear hwz
        go_simp
        refine hK.out _ _ (by exact k61) (fun hHeld => ?_)
        clear hK K
        try simp only [Act.put, sqA, sqB, sqC, sqD, sqE, sqF]
        refine tkq (v := ?_) 14 rfl ?_ ?_
        rotate_left
        ·intro w' hSw
         go_simp <;> with_reducible rfl
        try simp only [Act.put, sqA, sqB, sqC, sqD, sqE, sqF]
        have f0 := MB61.out.cell 0
        have f1 := MB61.out.cell 1
        have f2 := MB61.out.cell 2
        have ff := MB61.out.frozen
        have fl := MB61.out.lt
        have kS : Below w5.heap.size w5 (((wt61.setCell ⟨wd.heap.size, 0, none⟩ (.string s4)).setCell ⟨wd.heap.size, 1, none⟩ (.slice none 0 0)).setCell ⟨wd.heap.size, 2, none⟩ (.int .i64 (kq : Int))) := ((k61.setCell (p := ⟨wd.heap.size, 0, none⟩) hM56 _).setCell (p := ⟨wd.heap.size, 1, none⟩) hM56 _).setCell (p := ⟨wd.heap.size, 2, none⟩) hM56 _
        have FIN : Hid (AfP w3 (n : Int) (.pointer (some ⟨wd.heap.size, 0, none⟩)) (((wt61.setCell ⟨wd.heap.size, 0, none⟩ (.string s4)).setCell ⟨wd.heap.size, 1, none⟩ (.slice none 0 0)).setCell ⟨wd.heap.size, 2, none⟩ (.int .i64 (kq : Int)))) := ⟨wd.heap.size, s4, kq, rfl, ⟨((MB61.out.set 0 _).set 1 _).set 2 _, B5.out.trans (kS.mono B5.out.size), Nat.le_trans B5.out.size hM56⟩, hs5, by omega⟩
        refine rdq 16 rfl fun K hK => ?_
        go_simp
        refine hK.out _ _ (by exact kS) (fun hHeld => ?_)
        clear hK K
        try simp only [Act.put, sqA, sqB, sqC, sqD, sqE, sqF]
        refine wpAnyH_done (by kernel_rfl) ?_ _
        clear f0 f1 f2 ff fl
        go_wp2_with fail
        go_meet
        exact FIN.out
       ·go_simp
        go_at_call 10
        refine (RAW.out _ (at_ + 4 * k + 1) (by omega) (by omega) _ (B5.out.trans (k60.mono B5.out.size))).mono ?_
        rintro e wt62 ⟨cr, rfl, hcr, hb62⟩
        have k62 : Below w5.heap.size w5 wt62 := k60.trans (hb62.mono k60.size)
        have SA62 := hide (SA60.out.below hb62 SA60.out.lt)
        have MB62 := hide (MB60.out.below hb62 MB60.out.lt)
        clear hb62
        go_simp
        refine hK.out _ _ (by exact k62) (fun hHeld => ?_)
        clear hK K
        try simp only [Act.put, sqA, sqB, sqC, sqD, sqE, sqF]
        refine wpAnyH_ready (rs := [4, 13]) (by kernel_rfl) (by simp) ?_
        refine AllReadyH.cons rfl (fun K hK => ?_) (AllReadyH.cons rfl (fun K hK => ?_) AllReadyH.nil)
        ·obtain ⟨s4, hs4, hs5⟩ := lit_nameA SA62.out hkp
         go_simp
         refine hK.out _ _ (by exact k62) (fun hHeld => ?_)
         clear hK K
         try simp only [Act.put, sqA, sqB, sqC, sqD, sqE, sqF]
         clear hs4
         refine rdq 13 rfl fun K hK => ?_
         go_simp
         go_at_call 5
         refine (pick_any _ n (by omega) (by omega) ⟨by omega, by omega⟩ _).mono ?_
         rintro e wz ⟨kq, rfl, hkq, hwz⟩
         rw [hwz]
         clear hwz
         go_simp
         refine hK.out _ _ (by exact k62) (fun hHeld => ?_)
         clear hK K
         try simp only [Act.put, sqA, sqB, sqC, sqD, sqE, sqF]
         refine tkq (v := ?_) 14 rfl ?_ ?_
         rotate_left
         ·intro w' hSw
          go_simp <;> with_reducible rfl
         try simp only [Act.put, sqA, sqB, sqC, sqD, sqE, sqF]
         have f0 := MB62.out.cell 0
         have f1 := MB62.out.cell 1
         have f2 := MB62.out.cell 2
         have ff := MB62.out.frozen
         have fl := MB62.out.lt
         have kS : Below w5.heap.size w5 (((wt62.setCell ⟨wd.heap.size, 0, none⟩ (.string s4)).setCell ⟨wd.heap.size, 1, none⟩ (.slice none 0 0)).setCell ⟨wd.heap.size, 2, none⟩ (.int .i64 (kq : Int))) := ((k62.setCell (p := ⟨wd.heap.size, 0, none⟩) hM56 _).setCell (p := ⟨wd.heap.size, 1, none⟩) hM56 _).setCell (p := ⟨wd.heap.size, 2, none⟩) hM56 _
         have FIN : Hid (AfP w3 (n : Int) (.pointer (some ⟨wd.heap.size, 0, none⟩)) (((wt62.setCell ⟨wd.heap.size, 0, none⟩ (.string s4)).setCell ⟨wd.heap.size, 1, none⟩ (.slice none 0 0)).setCell ⟨wd.heap.size, 2, none⟩ (.int .i64 (kq : Int)))) := ⟨wd.heap.size, s4, kq, rfl, ⟨((MB62.out.set 0 _).set 1 _).set 2 _, B5.out.trans (kS.mono B5.out.size), Nat.le_trans B5.out.size hM56⟩, hs5, by omega⟩
         refine rdq 16 rfl fun K hK => ?_
         go_simp
         refine hK.out _ _ (by exact kS) (fun hHeld => ?_)
         clear hK K
         try simp only [Act.put, sqA, sqB, sqC, sqD, sqE, sqF]
         refine wpAnyH_done (by kernel_rfl) ?_ _
         clear f0 f1 f2 ff fl
         go_wp2_with fail
         go_meet
         exact FIN.out
        ·go_simp
         go_at_call 5
         refine (pick_any _ n (by omega) (by omega) ⟨by omega, by omega⟩ _).mono ?_
         rintro e wz ⟨kq, rfl, hkq, hwz⟩
         rw [hwz]
         clear hwz
         go_simp
         refine hK.out _ _ (by exact k62) (fun hHeld => ?_)
         clear hK K
         try simp only [Act.put, sqA, sqB, sqC, sqD, sqE, sqF]
         refine rdq 4 rfl fun K hK => ?_
         obtain ⟨s4, hs4, hs5⟩ := lit_nameA SA62.out hkp
         go_simp
         refine hK.out _ _ (by exact k62) (fun hHeld => ?_)
         clear hK K
         try simp only [Act.put, sqA, sqB, sqC, sqD, sqE, sqF]
         clear hs4
         refine tkq (v := ?_) 14 rfl ?_ ?_
         rotate_left
         ·intro w' hSw
          go_simp <;> with_reducible rfl
         try simp only [Act.put, sqA, sqB, sqC, sqD, sqE, sqF]
         have f0 := MB62.out.cell 0
         have f1 := MB62.out.cell 1
         have f2 := MB62.out.cell 2
         have ff := MB62.out.frozen
         have fl := MB62.out.lt
         have kS : Below w5.heap.size w5 (((wt62.setCell ⟨wd.heap.size, 0, none⟩ (.string s4)).setCell ⟨wd.heap.size, 1, none⟩ (.slice none 0 0)).setCell ⟨wd.heap.size, 2, none⟩ (.int .i64 (kq : Int))) := ((k62.setCell (p := ⟨wd.heap.size, 0, none⟩) hM56 _).setCell (p := ⟨wd.heap.size, 1, none⟩) hM56 _).setCell (p := ⟨wd.heap.size, 2, none⟩) hM56 _
         have FIN : Hid (AfP w3 (n : Int) (.pointer (some ⟨wd.heap.size, 0, none⟩)) (((wt62.setCell ⟨wd.heap.size, 0, none⟩ (.string s4)).setCell ⟨wd.heap.size, 1, none⟩ (.slice none 0 0)).setCell ⟨wd.heap.size, 2, none⟩ (.int .i64 (kq : Int)))) := ⟨wd.heap.size, s4, kq, rfl, ⟨((MB62.out.set 0 _).set 1 _).set 2 _, B5.out.trans (kS.mono B5.out.size), Nat.le_trans B5.out.size hM56⟩, hs5, by omega⟩
         refine rdq 16 rfl fun K hK => ?_
         go_simp
         refine hK.out _ _ (by exact kS) (fun hHeld => ?_)
         clear hK K
         try simp only [Act.put, sqA, sqB, sqC, sqD, sqE, sqF]
         refine wpAnyH_done (by kernel_rfl) ?_ _
         clear f0 f1 f2 ff fl
         go_wp2_with fail
         go_meet
         exact FIN.out
      ·go_simp
       go_at_call 10
       refine (RAW.out _ (at_ + 4 * k + 1) (by omega) (by omega) _ (B5.out.trans (k56.mono B5.out.size))).mono ?_
       rintro e wt63 ⟨cr, rfl, hcr, hb63⟩
       have k63 : Below w5.heap.size w5 wt63 := k56.trans (hb63.mono k56.size)
       have MB63 := hide (MB56.out.below hb63 MB56.out.lt)
       clear hb63
       go_simp
       refine hK.out _ _ (by exact k63) (fun hHeld => ?_)
       clear hK K
       try simp only [Act.put, sqA, sqB, sqC, sqD, sqE, sqF]
       refine wpAnyH_ready (rs := [0, 13]) (by kernel_rfl) (by simp) ?_
       refine AllReadyH.cons rfl (fun K hK => ?_) (AllReadyH.cons rfl (fun K hK => ?_) AllReadyH.nil)
       ·go_simp
        have k64 : Below w5.heap.size w5 (wt63.alloc (.cells #[.string ⟨#[97]⟩, .string ⟨#[98]⟩, .string ⟨#[104]⟩, .string ⟨#[102]⟩] 9)) := k63.alloc k63.size _
        have SA64 : Hid (Blk (wt63.alloc (.cells #[.string ⟨#[97]⟩, .string ⟨#[98]⟩, .string ⟨#[104]⟩, .string ⟨#[102]⟩] 9)) wt63.heap.size #[.string ⟨#[97]⟩, .string ⟨#[98]⟩, .string ⟨#[104]⟩, .string ⟨#[102]⟩] 9) := Blk.new _ _ _
        have MB64 := hide (MB63.out.alloc (.cells #[.string ⟨#[97]⟩, .string ⟨#[98]⟩, .string ⟨#[104]⟩, .string ⟨#[102]⟩] 9))
        refine hK.out _ _ (by exact k64) (fun hHeld => ?_)
        clear hK K
        try simp only [Act.put, sqA, sqB, sqC, sqD, sqE, sqF]
        generalize (wt63.alloc (.cells #[.string ⟨#[97]⟩, .string ⟨#[98]⟩, .string ⟨#[104]⟩, .string ⟨#[102]⟩] 9)) = wt64 at *
        refine tkq (v := ?_) 3 rfl ?_ ?_
        rotate_left
        ·intro w' hSw
         go_simp <;> with_reducible rfl
        try simp only [Act.put, sqA, sqB, sqC, sqD, sqE, sqF]
        refine wpAnyH_ready (rs := [4, 13]) (by kernel_rfl) (by simp) ?_
        refine AllReadyH.cons rfl (fun K hK => ?_) (AllReadyH.cons rfl (fun K hK => ?_) AllReadyH.nil)
        ·obtain ⟨s4, hs4, hs5⟩ := lit_nameA SA64.out hkp
         go_simp
         refine hK.out _ _ (by exact k64) (fun hHeld => ?_)
         clear hK K
         try simp only [Act.put, sqA, sqB, sqC, sqD, sqE, sqF]
         clear hs4
         refine rdq 13 rfl fun K hK => ?_
         go_simp
         go_at_call 5
         refine (pick_any _ n (by omega) (by omega) ⟨by omega, by omega⟩ _).mono ?_
         rintro e wz ⟨kq, rfl, hkq, hwz⟩
         rw [hwz]
         clear hwz
         go_simp
         refine hK.out _ _ (by exact k64) (fun hHeld => ?_)
         clear hK K
         try simp only [Act.put, sqA, sqB, sqC, sqD, sqE, sqF]
         refine tkq (v := ?_) 14 rfl ?_ ?_
         rotate_left
         ·intro w' hSw
          go_simp <;> with_reducible rfl
         try simp only [Act.put, sqA, sqB, sqC, sqD, sqE, sqF]
         have f0 := MB64.out.cell 0
         have f1 := MB64.out.cell 1
         have f2 := MB64.out.cell 2
         have ff := MB64.out.frozen
         have fl := MB64.out.lt
         have kS : Below w5.heap.size w5 (((wt64.setCell ⟨wd.heap.size, 0, none⟩ (.string s4)).setCell ⟨wd.heap.size, 1, none⟩ (.slice none 0 0)).setCell ⟨wd.heap.size, 2, none⟩ (.int .i64 (kq : Int))) := ((k64.setCell (p := ⟨wd.heap.size, 0, none⟩) hM56 _).setCell (p := ⟨wd.heap.size, 1, none⟩) hM56 _).setCell (p := ⟨wd.heap.size, 2, none⟩) hM56 _
         have FIN : Hid (AfP w3 (n : Int) (.pointer (some ⟨wd.heap.size, 0, none⟩)) (((wt64.setCell ⟨wd.heap.size, 0, none⟩ (.string s4)).setCell ⟨wd.heap.size, 1, none⟩ (.slice none 0 0)).setCell ⟨wd.heap.size, 2, none⟩ (.int .i64 (kq : Int)))) := ⟨wd.heap.size, s4, kq, rfl, ⟨((MB64.out.set 0 _).set 1 _).set 2 _, B5.out.trans (kS.mono B5.out.size), Nat.le_trans B5.out.size hM56⟩, hs5, by omega⟩
         refine rdq 16 rfl fun K hK => ?_
         go_simp
         refine hK.out _ _ (by exact kS) (fun hHeld => ?_)
         clear hK K
         try simp only [Act.put, sqA, sqB, sqC, sqD, sqE, sqF]
         refine wpAnyH_done (by kernel_rfl) ?_ _
         clear f0 f1 f2 ff fl
         go_wp2_with fail
         go_meet
         exact FIN.out
        ·go_simp
         go_at_call 5
         refine (pick_any _ n (by omega) (by omega) ⟨by omega, by omega⟩ _).mono ?_
         rintro e wz ⟨kq, rfl, hkq, hwz⟩
         rw [hwz]
         clear hwz
         go_simp
         refine hK.out _ _ (by exact k64) (fun hHeld => ?_)
         clear hK K
         try simp only [Act.put, sqA, sqB, sqC, sqD, sqE, sqF]
         refine rdq 4 rfl fun K hK => ?_
         obtain ⟨s4, hs4, hs5⟩ := lit_nameA SA64.out hkp
         go_simp
         refine hK.out _ _ (by exact k64) (fun hHeld => ?_)
         clear hK K
         try simp only [Act.put, sqA, sqB, sqC, sqD, sqE, sqF]
         clear hs4
         refine tkq (v := ?_) 14 rfl ?_ ?_
         rotate_left
         ·intro w' hSw
          go_simp <;> with_reducible rfl
         try simp only [Act.put, sqA, sqB, sqC, sqD, sqE, sqF]
         have f0 := MB64.out.cell 0
         have f1 := MB64.out.cell 1
         have f2 := MB64.out.cell 2
         have ff := MB64.out.frozen
         have fl := MB64.out.lt
         have kS : Below w5.heap.size w5 (((wt64.setCell ⟨wd.heap.size, 0, none⟩ (.string s4)).setCell ⟨wd.heap.size, 1, none⟩ (.slice none 0 0)).setCell ⟨wd.heap.size, 2, none⟩ (.int .i64 (kq : Int))) := ((k64.setCell (p := ⟨wd.heap.size, 0, none⟩) hM56 _).setCell (p := ⟨wd.heap.size, 1, none⟩) hM56 _).setCell (p := ⟨wd.heap.size, 2, none⟩) hM56 _
         have FIN : Hid (AfP w3 (n : Int) (.pointer (some ⟨wd.heap.size, 0, none⟩)) (((wt64.setCell ⟨wd.heap.size, 0, none⟩ (.string s4)).setCell ⟨wd.heap.size, 1, none⟩ (.slice none 0 0)).setCell ⟨wd.heap.size, 2, none⟩ (.int .i64 (kq : Int)))) := ⟨wd.heap.size, s4, kq, rfl, ⟨((MB64.out.set 0 _).set 1 _).set 2 _, B5.out.trans (kS.mono B5.out.size), Nat.le_trans B5.out.size hM56⟩, hs5, by omega⟩
         refine rdq 16 rfl fun K hK => ?_
         go_simp
         refine hK.out _ _ (by exact kS) (fun hHeld => ?_)
         clear hK K
         try simp only [Act.put, sqA, sqB, sqC, sqD, sqE, sqF]
         refine wpAnyH_done (by kernel_rfl) ?_ _
         clear f0 f1 f2 ff fl
         go_wp2_with fail
         go_meet
         exact FIN.out
       ·go_simp
        go_at_call 5
        refine (pick_any _ n (by omega) (by omega) ⟨by omega, by omega⟩ _).mono ?_
        rintro e wz ⟨kq, rfl, hkq, hwz⟩
        rw [hwz]
        clear hwz
        go_simp
        refine hK.out _ _ (by exact k63) (fun hHeld => ?_)
        clear hK K
        try simp only [Act.put, sqA, sqB, sqC, sqD, sqE, sqF]
        refine rdq 0 rfl fun K hK => ?_
        go_simp
        have k65 : Below w5.heap.size w5 (wt63.alloc (.cells #[.string ⟨#[97]⟩, .string ⟨#[98]⟩, .string ⟨#[104]⟩, .string ⟨#[102]⟩] 9)) := k63.alloc k63.size _
        have SA65 : Hid (Blk (wt63.alloc (.cells #[.string ⟨#[97]⟩, .string ⟨#[98]⟩, .string ⟨#[104]⟩, .string ⟨#[102]⟩] 9)) wt63.heap.size #[.string ⟨#[97]⟩, .string ⟨#[98]⟩, .string ⟨#[104]⟩, .string ⟨#[102]⟩] 9) := Blk.new _ _ _
        have MB65 := hide (MB63.out.alloc (.cells #[.string ⟨#[97]⟩, .string ⟨#[98]⟩, .string ⟨#[104]⟩, .string ⟨#[102]⟩] 9))
        refine hK.out _ _ (by exact k65) (fun hHeld => ?_)
        clear hK K
        try simp only [Act.put, sqA, sqB, sqC, sqD, sqE, sqF]
        generalize (wt63.alloc (.cells #[.string ⟨#[97]⟩, .string ⟨#[98]⟩, .string ⟨#[104]⟩, .string ⟨#[102]⟩] 9)) = wt65 at *
        refine tkq (v := ?_) 3 rfl ?_ ?_
        rotate_left
        ·intro w' hSw
         go_simp <;> with_reducible rfl
        try simp only [Act.put, sqA, sqB, sqC, sqD, sqE, sqF]
        refine rdq 4 rfl fun K hK => ?_
        obtain ⟨s4, hs4, hs5⟩ := lit_nameA SA65.out hkp
        go_simp
        refine hK.out _ _ (by exact k65) (fun hHeld => ?_)
        clear hK K
        try simp only [Act.put, sqA, sqB, sqC, sqD, sqE, sqF]
        clear hs4
        refine tkq (v := ?_) 14 rfl ?_ ?_
        rotate_left
        ·intro w' hSw
         go_simp <;> with_reducible rfl
        try simp only [Act.put, sqA, sqB, sqC, sqD, sqE, sqF]
        have f0 := MB65.out.cell 0
        have f1 := MB65.out.cell 1
        have f2 := MB65.out.cell 2
        have ff := MB65.out.frozen
        have fl := MB65.out.lt
        have kS : Below w5.heap.size w5 (((wt65.setCell ⟨wd.heap.size, 0, none⟩ (.string s4)).setCell ⟨wd.heap.size, 1, none⟩ (.slice none 0 0)).setCell ⟨wd.heap.size, 2, none⟩ (.int .i64 (kq : Int))) := ((k65.setCell (p := ⟨wd.heap.size, 0, none⟩) hM56 _).setCell (p := ⟨wd.heap.size, 1, none⟩) hM56 _).setCell (p := ⟨wd.heap.size, 2, none⟩) hM56 _
        have FIN : Hid (AfP w3 (n : Int) (.pointer (some ⟨wd.heap.size, 0, none⟩)) (((wt65.setCell ⟨wd.heap.size, 0, none⟩ (.string s4)).setCell ⟨wd.heap.size, 1, none⟩ (.slice none 0 0)).setCell ⟨wd.heap.size, 2, none⟩ (.int .i64 (kq : Int)))) := ⟨wd.heap.size, s4, kq, rfl, ⟨((MB65.out.set 0 _).set 1 _).set 2 _, B5.out.trans (kS.mono B5.out.size), Nat.le_trans B5.out.size hM56⟩, hs5, by omega⟩
        refine rdq 16 rfl fun K hK => ?_
        go_simp
        refine hK.out _ _ (by exact kS) (fun hHeld => ?_)
        clear hK K
        try simp only [Act.put, sqA, sqB, sqC, sqD, sqE, sqF]
        refine wpAnyH_done (by kernel_rfl) ?_ _
        clear f0 f1 f2 ff fl
        go_wp2_with fail
        go_meet
        exact FIN.out
   case rest =>
    obtain ⟨Q, s, td, rfl, ham, hnm, hto⟩ := hcut
    rename World => w6
    have AM := hide ham
    have HNM := hide hnm
    clear ham hnm B5
    go_wp2_with fail
    go_loopw [14] (fun i wr => AfK w3 Q s (td : Int) (n : Int) nn i wr) (fun i wr => nn - (intOf i).toNat)
    case atStart => exact ⟨⟨0, [], .slice none 0 0, Nat.zero_le _, rfl, rfl, by simp, AM.out, World.ownsRow_nil _ _ _ _⟩⟩
    case round =>
     obtain ⟨⟨j, qs, fv, hj, rfl, hqs, hqr, ham2, hown⟩⟩ := hrel
     have AM2 := hide ham2
     have OWN := hide hown
     have HQR := hide hqr
     have HQS := hide hqs
     clear ham2 hown hqr hqs
     by_cases hjt : j < nn
     ·have hji : (j : Int) < (nn : Int) := by omega
      have hw5 : IntKind.i64.wrap ((at_ : Int) + 4 * (k : Int) + 2 + (j : Int)) = (at_ : Int) + 4 * (k : Int) + 2 + (j : Int) := by rw [IntKind.wrap_i64]; omega
      have kb : Below wr.heap.size wr wr.drew := (Below.refl _ _).drew
      go_upto_region 11 with fail
      refine wp_region_held_drew (S := fun w' => wr.heap.size ≤ w'.heap.size) (by kernel_rfl) kb.size (fun hHeld => ?_)
      generalize wr.drew = wd at *
      have BQ0 : Hid (Blk wd Q #[.string s, fv, .int .i64 (td : Int)] 40) := AM2.out.blk.below kb AM2.out.blk.lt
      have OW0 : Hid (wd.ownsRow (Q + 1) 3 1 fv qs.length (qs.map fun z => .int .i64 z)) := ownsRow_at OWN.out fun g hg => kb.block g (OWN.out.lt g hg).2
      refine tkq (v := ?_) 0 rfl ?_ ?_
      rotate_left
      ·intro w' hSw
       go_simp <;> with_reducible rfl
      try simp only [Act.put, sqA, sqB, sqC, sqD, sqE, sqF]
      refine tkq (v := ?_) 2 rfl ?_ ?_
      rotate_left
      ·intro w' hSw
       go_simp <;> with_reducible rfl
      try simp only [Act.put, sqA, sqB, sqC, sqD, sqE, sqF]
      refine tkq (v := ?_) 3 rfl ?_ ?_
      rotate_left
      ·intro w' hSw
       go_simp <;> with_reducible rfl
      try simp only [Act.put, sqA, sqB, sqC, sqD, sqE, sqF]
      refine tkq (v := ?_) 4 rfl ?_ ?_
      rotate_left
      ·intro w' hSw
       go_simp <;> with_reducible rfl
      try simp only [Act.put, sqA, sqB, sqC, sqD, sqE, sqF]
      refine tkq (v := ?_) 5 rfl ?_ ?_
      rotate_left
      ·intro w' hSw
       go_simp <;> with_reducible rfl
      try simp only [Act.put, sqA, sqB, sqC, sqD, sqE, sqF]
      refine tkq (v := ?_) 6 rfl ?_ ?_
      rotate_left
      ·intro w' hSw
       go_simp <;> with_reducible rfl
      try simp only [Act.put, sqA, sqB, sqC, sqD, sqE, sqF]
      refine tkq (v := ?_) 7 rfl ?_ ?_
      rotate_left
      ·intro w' hSw
       go_simp <;> with_reducible rfl
      try simp only [Act.put, sqA, sqB, sqC, sqD, sqE, sqF]
      refine tkq (v := ?_) 8 rfl ?_ ?_
      rotate_left
      ·intro w' hSw
       go_simp <;> with_reducible rfl
      try simp only [Act.put, sqA, sqB, sqC, sqD, sqE, sqF]
      refine tkq (v := ?_) 9 rfl ?_ ?_
      rotate_left
      ·intro w' hSw
       go_simp <;> with_reducible rfl
      try simp only [Act.put, sqA, sqB, sqC, sqD, sqE, sqF]
      refine tkq (v := ?_) 11 rfl ?_ ?_
      rotate_left
      ·intro w' hSw
       go_simp <;> with_reducible rfl
      try simp only [Act.put, sqA, sqB, sqC, sqD, sqE, sqF]
      refine wpAnyH_ready (rs := [1, 10]) (by kernel_rfl) (by simp) ?_
      refine AllReadyH.cons rfl (fun K hK => ?_) (AllReadyH.cons rfl (fun K hK => ?_) AllReadyH.nil)
      ·have ob := BQ0.out.cell 1
       go_simp
       refine hK.out _ _ (by exact kb.size) (fun hHeld => ?_)
       clear hK K
       try simp only [Act.put, sqA, sqB, sqC, sqD, sqE, sqF]
       clear ob
       refine rdq 10 rfl fun K hK => ?_
       go_simp
       go_at_call 10
       refine (RAW.out _ (at_ + 4 * k + 2 + j) (by omega) (by omega) _ (AM2.out.bl.trans (kb.mono AM2.out.bl.size))).mono ?_
       rintro e wt66 ⟨cr, rfl, hcr, hb66⟩
       have b66 : Below wr.heap.size wr wt66 := kb.trans (hb66.mono kb.size)
       have BQ66 := hide (BQ0.out.below hb66 BQ0.out.lt)
       have OW66 : Hid (wt66.ownsRow (Q + 1) 3 1 fv qs.length (qs.map fun z => .int .i64 z)) := ownsRow_at OW0.out fun g hg => hb66.block g (OW0.out.lt g hg).2
       clear hb66
       go_simp
       refine hK.out _ _ (by exact b66.size) (fun hHeld => ?_)
       clear hK K
       try simp only [Act.put, sqA, sqB, sqC, sqD, sqE, sqF]
       refine rdq 12 rfl fun K hK => ?_
       go_simp
       go_at_call 5
       refine (pick_any _ n (by omega) (by omega) ⟨by omega, by omega⟩ _).mono ?_
       rintro e wz ⟨kq, rfl, hkq, hwz⟩
       rw [hwz]
       clear hwz
       go_simp
       refine hK.out _ _ (by exact b66.size) (fun hHeld => ?_)
       clear hK K
       try simp only [Act.put, sqA, sqB, sqC, sqD, sqE, sqF]
       refine rdq 13 rfl fun K hK => ?_
       go_simp
       have b67 : Below wr.heap.size wr (wt66.alloc (.cells #[.int .i64 (kq : Int)] 3)) := b66.alloc b66.size _
       have LB67 : Hid (Blk (wt66.alloc (.cells #[.int .i64 (kq : Int)] 3)) wt66.heap.size #[.int .i64 (kq : Int)] 3) := Blk.new _ _ _
       have BQ67 := hide (BQ66.out.alloc (.cells #[.int .i64 (kq : Int)] 3))
       have OW67 := hide (OW66.out.alloc (.cells #[.int .i64 (kq : Int)] 3))
       refine hK.out _ _ (by exact b67.size) (fun hHeld => ?_)
       clear hK K
       try simp only [Act.put, sqA, sqB, sqC, sqD, sqE, sqF]
       generalize (wt66.alloc (.cells #[.int .i64 (kq : Int)] 3)) = wt67 at *
       obtain ⟨g, cap, w9, hap, ho9, hg9, hgN⟩ := rowZ_push (P := wt66.heap.size) (x := (kq : Int)) OW67.out (by have := BQ67.out.lt; omega) LB67.out (by have := HQS.out; omega)
       have HAP := hide hap
       have BQ9 : Hid (Blk w9 Q #[.string s, fv, .int .i64 (td : Int)] 40) := BQ67.out.grown hg9 (fun e => by have := (OW67.out.lt Q e.symm).1; omega)
       have BLc := AM2.out.bl.trans (b67.mono AM2.out.bl.size)
       have BL9 : Hid (Below w3.heap.size w3 w9) := BLc.grown hg9 (by have := BLc.size; omega) (fun j hj => by have := (OW67.out.lt j hj).1; have := AM2.out.ge; omega)
       have FIN : Hid (AfM w3 Q s (.slice (some ⟨g, 0, none⟩) (qs.length + 1) cap) (td : Int) (w9.setCell ⟨Q, 1, none⟩ (.slice (some ⟨g, 0, none⟩) (qs.length + 1) cap))) := ⟨BQ9.out.set 1 _, BL9.out.setCell (p := ⟨Q, 1, none⟩) AM2.out.ge _, AM2.out.ge⟩
       have OWF : Hid ((w9.setCell ⟨Q, 1, none⟩ (.slice (some ⟨g, 0, none⟩) (qs.length + 1) cap)).ownsRow (Q + 1) 3 1 (.slice (some ⟨g, 0, none⟩) (qs.length + 1) cap) (qs ++ [(kq : Int)]).length ((qs ++ [(kq : Int)]).map fun z => .int .i64 z)) := ownsRow_at ho9 fun b e => Below.heap_setCell _ _ _ _ (by simp [Value.ownBlock] at e; simp; omega)
       have z9 : wr.heap.size ≤ w9.heap.size := Nat.le_trans b67.size hg9.size
       have z10 : wr.heap.size ≤ (w9.setCell ⟨Q, 1, none⟩ (.slice (some ⟨g, 0, none⟩) (qs.length + 1) cap)).heap.size := by simpa [World.setCell] using z9
       have f1 := BQ9.out.cell 1
       have ff := BQ9.out.frozen
       have fl := BQ9.out.lt
       clear hap ho9 hg9 BLc
       refine rdq 14 rfl fun K hK => ?_
       refine step_append_eqM rfl _ _ _ _ rfl rfl rfl HAP.out ?_
       refine hK.out _ _ (by exact z9) (fun hHeld => ?_)
       clear hK K
       try simp only [Act.put, sqA, sqB, sqC, sqD, sqE, sqF]
       refine tkq (v := ?_) 15 rfl ?_ ?_
       rotate_left
       ·intro w' hSw
        go_simp <;> with_reducible rfl
       try simp only [Act.put, sqA, sqB, sqC, sqD, sqE, sqF]
       refine rdq 16 rfl fun K hK => ?_
       go_simp
       refine hK.out _ _ (by exact z10) (fun hHeld => ?_)
       clear hK K
       try simp only [Act.put, sqA, sqB, sqC, sqD, sqE, sqF]
       refine wpAnyH_done (by kernel_rfl) ?_ _
       clear f1 ff fl
       go_wp2_with fail
       go_roundw
       case rel => exact ⟨⟨j + 1, qs ++ [(kq : Int)], _, by omega, by go_num, by have := HQS.out; simp; omega, (fun z hz => by rcases List.mem_append.1 hz with hz | hz; exact HQR.out z hz; have e : z = (kq : Int) := (by simpa using hz); omega), FIN.out, OWF.out⟩⟩
       case measure => simp [intOf]; omega
      ·go_simp
       go_at_call 10
       refine (RAW.out _ (at_ + 4 * k + 2 + j) (by omega) (by omega) _ (AM2.out.bl.trans (kb.mono AM2.out.bl.size))).mono ?_
       rintro e wt68 ⟨cr, rfl, hcr, hb68⟩
       have b68 : Below wr.heap.size wr wt68 := kb.trans (hb68.mono kb.size)
       have BQ68 := hide (BQ0.out.below hb68 BQ0.out.lt)
       have OW68 : Hid (wt68.ownsRow (Q + 1) 3 1 fv qs.length (qs.map fun z => .int .i64 z)) := ownsRow_at OW0.out fun g hg => hb68.block g (OW0.out.lt g hg).2
       clear hb68
       go_simp
       refine hK.out _ _ (by exact b68.size) (fun hHeld => ?_)
       clear hK K
       try simp only [Act.put, sqA, sqB, sqC, sqD, sqE, sqF]
       refine wpAnyH_ready (rs := [1, 12]) (by kernel_rfl) (by simp) ?_
       refine AllReadyH.cons rfl (fun K hK => ?_) (AllReadyH.cons rfl (fun K hK => ?_) AllReadyH.nil)
       ·have ob := BQ68.out.cell 1
        go_simp
        refine hK.out _ _ (by exact b68.size) (fun hHeld => ?_)
        clear hK K
        try simp only [Act.put, sqA, sqB, sqC, sqD, sqE, sqF]
        clear ob
        refine rdq 12 rfl fun K hK => ?_
        go_simp
        go_at_call 5
        refine (pick_any _ n (by omega) (by omega) ⟨by omega, by omega⟩ _).mono ?_
        rintro e wz ⟨kq, rfl, hkq, hwz⟩
        rw [hwz]
        clear hwz
        go_simp
        refine hK.out _ _ (by exact b68.size) (fun hHeld => ?_)
        clear hK K
        try simp only [Act.put, sqA, sqB, sqC, sqD, sqE, sqF]
        refine rdq 13 rfl fun K hK => ?_
        go_simp
        have b69 : Below wr.heap.size wr (wt68.alloc (.cells #[.int .i64 (kq : Int)] 3)) := b68.alloc b68.size _
        have LB69 : Hid (Blk (wt68.alloc (.cells #[.int .i64 (kq : Int)] 3)) wt68.heap.size #[.int .i64 (kq : Int)] 3) := Blk.new _ _ _
        have BQ69 := hide (BQ68.out.alloc (.cells #[.int .i64 (kq : Int)] 3))
        have OW69 := hide (OW68.out.alloc (.cells #[.int .i64 (kq : Int)] 3))
        refine hK.out _ _ (by exact b69.size) (fun hHeld => ?_)
        clear hK K
        try simp only [Act.put, sqA, sqB, sqC, sqD, sqE, sqF]
        generalize (wt68.alloc (.cells #[.int .i64 (kq : Int)] 3)) = wt69 at *
        obtain ⟨g, cap, w9, hap, ho9, hg9, hgN⟩ := rowZ_push (P := wt68.heap.size) (x := (kq : Int)) OW69.out (by have := BQ69.out.lt; omega) LB69.out (by have := HQS.out; omega)
        have HAP := hide hap
        have BQ9 : Hid (Blk w9 Q #[.string s, fv, .int .i64 (td : Int)] 40) := BQ69.out.grown hg9 (fun e => by have := (OW69.out.lt Q e.symm).1; omega)
        have BLc := AM2.out.bl.trans (b69.mono AM2.out.bl.size)
        have BL9 : Hid (Below w3.heap.size w3 w9) := BLc.grown hg9 (by have := BLc.size; omega) (fun j hj => by have := (OW69.out.lt j hj).1; have := AM2.out.ge; omega)
        have FIN : Hid (AfM w3 Q s (.slice (some ⟨g, 0, none⟩) (qs.length + 1) cap) (td : Int) (w9.setCell ⟨Q, 1, none⟩ (.slice (some ⟨g, 0, none⟩) (qs.length + 1) cap))) := ⟨BQ9.out.set 1 _, BL9.out.setCell (p := ⟨Q, 1, none⟩) AM2.out.ge _, AM2.out.ge⟩
        have OWF : Hid ((w9.setCell ⟨Q, 1, none⟩ (.slice (some ⟨g, 0, none⟩) (qs.length + 1) cap)).ownsRow (Q + 1) 3 1 (.slice (some ⟨g, 0, none⟩) (qs.length + 1) cap) (qs ++ [(kq : Int)]).length ((qs ++ [(kq : Int)]).map fun z => .int .i64 z)) := ownsRow_at ho9 fun b e => Below.heap_setCell _ _ _ _ (by simp [Value.ownBlock] at e; simp; omega)
        have z9 : wr.heap.size ≤ w9.heap.size := Nat.le_trans b69.size hg9.size
        have z10 : wr.heap.size ≤ (w9.setCell ⟨Q, 1, none⟩ (.slice (some ⟨g, 0, none⟩) (qs.length + 1) cap)).heap.size := by simpa [World.setCell] using z9
        have f1 := BQ9.out.cell 1
        have ff := BQ9.out.frozen
        have fl := BQ9.out.lt
        clear hap ho9 hg9 BLc
        refine rdq 14 rfl fun K hK => ?_
        refine step_append_eqM rfl _ _ _ _ rfl rfl rfl HAP.out ?_
        refine hK.out _ _ (by exact z9) (fun hHeld => ?_)
        clear hK K
        try simp only [Act.put, sqA, sqB, sqC, sqD, sqE, sqF]
        refine tkq (v := ?_) 15 rfl ?_ ?_
        rotate_left
        ·intro w' hSw
         go_simp <;> with_reducible rfl
        try simp only [Act.put, sqA, sqB, sqC, sqD, sqE, sqF]
        refine rdq 16 rfl fun K hK => ?_
        go_simp
        refine hK.out _ _ (by exact z10) (fun hHeld => ?_)
        clear hK K
        try simp only [Act.put, sqA, sqB, sqC, sqD, sqE, sqF]
        refine wpAnyH_done (by kernel_rfl) ?_ _
        clear f1 ff fl
        go_wp2_with fail
        go_roundw
        case rel => exact ⟨⟨j + 1, qs ++ [(kq : Int)], _, by omega, by go_num, by have := HQS.out; simp; omega, (fun z hz => by rcases List.mem_append.1 hz with hz | hz; exact HQR.out z hz; have e : z = (kq : Int) := (by simpa using hz); omega), FIN.out, OWF.out⟩⟩
        case measure => simp [intOf]; omega
       ·go_simp
        go_at_call 5
        refine (pick_any _ n (by omega) (by omega) ⟨by omega, by omega⟩ _).mono ?_
        rintro e wz ⟨kq, rfl, hkq, hwz⟩
        rw [hwz]
        clear hwz
        go_simp
        refine hK.out _ _ (by exact b68.size) (fun hHeld => ?_)
        clear hK K
        try simp only [Act.put, sqA, sqB, sqC, sqD, sqE, sqF]
        refine wpAnyH_ready (rs := [1, 13]) (by kernel_rfl) (by simp) ?_
        refine AllReadyH.cons rfl (fun K hK => ?_) (AllReadyH.cons rfl (fun K hK => ?_) AllReadyH.nil)
        ·have ob := BQ68.out.cell 1
         go_simp
         refine hK.out _ _ (by exact b68.size) (fun hHeld => ?_)
         clear hK K
         try simp only [Act.put, sqA, sqB, sqC, sqD, sqE, sqF]
         clear ob
         refine rdq 13 rfl fun K hK => ?_
         go_simp
         have b70 : Below wr.heap.size wr (wt68.alloc (.cells #[.int .i64 (kq : Int)] 3)) := b68.alloc b68.size _
         have LB70 : Hid (Blk (wt68.alloc (.cells #[.int .i64 (kq : Int)] 3)) wt68.heap.size #[.int .i64 (kq : Int)] 3) := Blk.new _ _ _
         have BQ70 := hide (BQ68.out.alloc (.cells #[.int .i64 (kq : Int)] 3))
         have OW70 := hide (OW68.out.alloc (.cells #[.int .i64 (kq : Int)] 3))
         refine hK.out _ _ (by exact b70.size) (fun hHeld => ?_)
         clear hK K
         try simp only [Act.put, sqA, sqB, sqC, sqD, sqE, sqF]
         generalize (wt68.alloc (.cells #[.int .i64 (kq : Int)] 3)) = wt70 at *
         obtain ⟨g, cap, w9, hap, ho9, hg9, hgN⟩ := rowZ_push (P := wt68.heap.size) (x := (kq : Int)) OW70.out (by have := BQ70.out.lt; omega) LB70.out (by have := HQS.out; omega)
         have HAP := hide hap
         have BQ9 : Hid (Blk w9 Q #[.string s, fv, .int .i64 (td : Int)] 40) := BQ70.out.grown hg9 (fun e => by have := (OW70.out.lt Q e.symm).1; omega)
         have BLc := AM2.out.bl.trans (b70.mono AM2.out.bl.size)
         have BL9 : Hid (Below w3.heap.size w3 w9) := BLc.grown hg9 (by have := BLc.size; omega) (fun j hj => by have := (OW70.out.lt j hj).1; have := AM2.out.ge; omega)
         have FIN : Hid (AfM w3 Q s (.slice (some ⟨g, 0, none⟩) (qs.length + 1) cap) (td : Int) (w9.setCell ⟨Q, 1, none⟩ (.slice (some ⟨g, 0, none⟩) (qs.length + 1) cap))) := ⟨BQ9.out.set 1 _, BL9.out.setCell (p := ⟨Q, 1, none⟩) AM2.out.ge _, AM2.out.ge⟩
         have OWF : Hid ((w9.setCell ⟨Q, 1, none⟩ (.slice (some ⟨g, 0, none⟩) (qs.length + 1) cap)).ownsRow (Q + 1) 3 1 (.slice (some ⟨g, 0, none⟩) (qs.length + 1) cap) (qs ++ [(kq : Int)]).length ((qs ++ [(kq : Int)]).map fun z => .int .i64 z)) := ownsRow_at ho9 fun b e => Below.heap_setCell _ _ _ _ (by simp [Value.ownBlock] at e; simp; omega)
         have z9 : wr.heap.size ≤ w9.heap.size := Nat.le_trans b70.size hg9.size
         have z10 : wr.heap.size ≤ (w9.setCell ⟨Q, 1, none⟩ (.slice (some ⟨g, 0, none⟩) (qs.length + 1) cap)).heap.size := by simpa [World.setCell] using z9
         have f1 := BQ9.out.cell 1
         have ff := BQ9.out.frozen
         have fl := BQ9.out.lt
         clear hap ho9 hg9 BLc
         refine rdq 14 rfl fun K hK => ?_
         refine step_append_eqM rfl _ _ _ _ rfl rfl rfl HAP.out ?_
         refine hK.out _ _ (by exact z9) (fun hHeld => ?_)
         clear hK K
         try simp only [Act.put, sqA, sqB, sqC, sqD, sqE, sqF]
         refine tkq (v := ?_) 15 rfl ?_ ?_
         rotate_left
         ·intro w' hSw
          go_simp <;> with_reducible rfl
         try simp only [Act.put, sqA, sqB, sqC, sqD, sqE, sqF]
         refine rdq 16 rfl fun K hK => ?_
         go_simp
         refine hK.out _ _ (by exact z10) (fun hHeld => ?_)
         clear hK K
         try simp only [Act.put, sqA, sqB, sqC, sqD, sqE, sqF]
         refine wpAnyH_done (by kernel_rfl) ?_ _
         clear f1 ff fl
         go_wp2_with fail
         go_roundw
         case rel => exact ⟨⟨j + 1, qs ++ [(kq : Int)], _, by omega, by go_num, by have := HQS.out; simp; omega, (fun z hz => by rcases List.mem_append.1 hz with hz | hz; exact HQR.out z hz; have e : z = (kq : Int) := (by simpa using hz); omega), FIN.out, OWF.out⟩⟩
         case measure => simp [intOf]; omega
        ·go_simp
         have b71 : Below wr.heap.size wr (wt68.alloc (.cells #[.int .i64 (kq : Int)] 3)) := b68.alloc b68.size _
         have LB71 : Hid (Blk (wt68.alloc (.cells #[.int .i64 (kq : Int)] 3)) wt68.heap.size #[.int .i64 (kq : Int)] 3) := Blk.new _ _ _
         have BQ71 := hide (BQ68.out.alloc (.cells #[.int .i64 (kq : Int)] 3))
         have OW71 := hide (OW68.out.alloc (.cells #[.int .i64 (kq : Int)] 3))
         refine hK.out _ _ (by exact b71.size) (fun hHeld => ?_)
         clear hK K
         try simp only [Act.put, sqA, sqB, sqC, sqD, sqE, sqF]
         generalize (wt68.alloc (.cells #[.int .i64 (kq : Int)] 3)) = wt71 at *
         refine rdq 1 rfl fun K hK => ?_
         have ob := BQ71.out.cell 1
         go_simp
         refine hK.out _ _ (by exact b71.size) (fun hHeld => ?_)
         clear hK K
         try simp only [Act.put, sqA, sqB, sqC, sqD, sqE, sqF]
         clear ob
         obtain ⟨g, cap, w9, hap, ho9, hg9, hgN⟩ := rowZ_push (P := wt68.heap.size) (x := (kq : Int)) OW71.out (by have := BQ71.out.lt; omega) LB71.out (by have := HQS.out; omega)
         have HAP := hide hap
         have BQ9 : Hid (Blk w9 Q #[.string s, fv, .int .i64 (td : Int)] 40) := BQ71.out.grown hg9 (fun e => by have := (OW71.out.lt Q e.symm).1; omega)
         have BLc := AM2.out.bl.trans (b71.mono AM2.out.bl.size)
         have BL9 : Hid (Below w3.heap.size w3 w9) := BLc.grown hg9 (by have := BLc.size; omega) (fun j hj => by have := (OW71.out.lt j hj).1; have := AM2.out.ge; omega)
         have FIN : Hid (AfM w3 Q s (.slice (some ⟨g, 0, none⟩) (qs.length + 1) cap) (td : Int) (w9.setCell ⟨Q, 1, none⟩ (.slice (some ⟨g, 0, none⟩) (qs.length + 1) cap))) := ⟨BQ9.out.set 1 _, BL9.out.setCell (p := ⟨Q, 1, none⟩) AM2.out.ge _, AM2.out.ge⟩
         have OWF : Hid ((w9.setCell ⟨Q, 1, none⟩ (.slice (some ⟨g, 0, none⟩) (qs.length + 1) cap)).ownsRow (Q + 1) 3 1 (.slice (some ⟨g, 0, none⟩) (qs.length + 1) cap) (qs ++ [(kq : Int)]).length ((qs ++ [(kq : Int)]).map fun z => .int .i64 z)) := ownsRow_at ho9 fun b e => Below.heap_setCell _ _ _ _ (by simp [Value.ownBlock] at e; simp; omega)
         have z9 : wr.heap.size ≤ w9.heap.size := Nat.le_trans b71.size hg9.size
         have z10 : wr.heap.size ≤ (w9.setCell ⟨Q, 1, none⟩ (.slice (some ⟨g, 0, none⟩) (qs.length + 1) cap)).heap.size := by simpa [World.setCell] using z9
         have f1 := BQ9.out.cell 1
         have ff := BQ9.out.frozen
         have fl := BQ9.out.lt
         clear hap ho9 hg9 BLc
         refine rdq 14 rfl fun K hK => ?_
         refine step_append_eqM rfl _ _ _ _ rfl rfl rfl HAP.out ?_
         refine hK.out _ _ (by exact z9) (fun hHeld => ?_)
         clear hK K
         try simp only [Act.put, sqA, sqB, sqC, sqD, sqE, sqF]
         refine tkq (v := ?_) 15 rfl ?_ ?_
         rotate_left
         ·intro w' hSw
          go_simp <;> with_reducible rfl
         try simp only [Act.put, sqA, sqB, sqC, sqD, sqE, sqF]
         refine rdq 16 rfl fun K hK => ?_
         go_simp
         refine hK.out _ _ (by exact z10) (fun hHeld => ?_)
         clear hK K
         try simp only [Act.put, sqA, sqB, sqC, sqD, sqE, sqF]
         refine wpAnyH_done (by kernel_rfl) ?_ _
         clear f1 ff fl
         go_wp2_with fail
         go_roundw
         case rel => exact ⟨⟨j + 1, qs ++ [(kq : Int)], _, by omega, by go_num, by have := HQS.out; simp; omega, (fun z hz => by rcases List.mem_append.1 hz with hz | hz; exact HQR.out z hz; have e : z = (kq : Int) := (by simpa using hz); omega), FIN.out, OWF.out⟩⟩
         case measure => simp [intOf]; omega
     ·have hji : ¬ (j : Int) < (nn : Int) := by omega
      obtain ⟨fa, fc, rfl, _⟩ := own_shape OWN.out
      have q0 := AM2.out.blk.cell 0
      have q1 := AM2.out.blk.cell 1
      have q2 := AM2.out.blk.cell 2
      have o1 : wr.cell? ⟨O, 1, none⟩ = some mv := (AW.out.out.below AM2.out.bl).blk.cell 1
      have HMV : Hid (OkMv (n : Int) ⟨s, qs, (td : Int)⟩ ∧ (⟨s, qs, (td : Int)⟩ : Mv).frm.length ≤ 2) := ⟨⟨HNM.out, by have := HQS.out; show qs.length ≤ 4; omega, HQR.out, ⟨by show (0 : Int) ≤ (td : Int); omega, hto⟩⟩, by have := HQS.out; show qs.length ≤ 2; omega⟩
      obtain ⟨g, cap, w8, ys, X8, hap, hO8, hout, hex8, _⟩ := OutA.push (wN := w2) (m := ⟨s, qs, (td : Int)⟩) (a := fa) (c := fc) (P := wr.heap.size) AW.out.out AW.out.sz (AM2.out.bl.trans ((one1 wr (.cells #[.string s, .slice fa qs.length fc, .int .i64 (td : Int)] 40)).mono AM2.out.bl.size)) ((AW.out.ex.ofBelowA AM2.out.bl).alloc _) HN.out.symm (Blk.new _ _ _) (((pv_of_own OWN.out).mono fun b h _ => by have := AM2.out.ge; omega).later (one1 wr _)) (by have := HML.out; omega)
      have HAP := hide hap
      have HOUT := hide hout
      have HEX := hide hex8
      have p1 := hO8.cell 1
      have pf := hO8.frozen
      have pl := hO8.lt
      have hsz8 : N ≤ w8.heap.size := by have h1 := hex8.size; have h2 := HN.out; simp [World.setCell] at h1; omega
      clear hap hout hex8
      go_wp2_with (at_builtin; refine wpList_append_eq rfl _ _ _ _ rfl rfl rfl HAP.out ?_)
      go_roundw
      case rel => exact ⟨⟨k + 1, ms ++ [⟨s, qs, (td : Int)⟩], _, ys, X8, by omega, by go_num, by have := HML.out; simp; omega, ⟨HOUT.out, HEX.out, by simp [World.setCell]; exact hsz8, fun m hm => by
       rcases List.mem_append.1 hm with hm | hm
       ·exact AW.out.ok m hm
       ·have e : m = ⟨s, qs, (td : Int)⟩ := by simpa using hm
        rw [e]; exact HMV.out⟩⟩⟩
      case measure => simp [intOf]; omega
  ·have hki : ¬ (k : Int) < (moves : Int) := by omega
   have HKM : Hid (ms.length = moves) := by have := HML.out; unfold Hid; omega
   go_wp2_with fail
   obtain ⟨w3, hw3⟩ : ∃ w3, w3 = wr := ⟨_, rfl⟩
   subst hw3
   go_loopw [15] (fun i wr => AfJ w2 N O (n : Int) ms mv n i wr) (fun i wr => n - (intOf i).toNat)
   case atStart => exact ⟨⟨0, [], .slice none 0 0, xs, Xk, Nat.zero_le _, rfl, by simp, by simp, AW.out⟩⟩
   case round =>
    obtain ⟨⟨j, ls, lv, xs2, X2, hj, rfl, hlsl, hlr, haw2⟩⟩ := hrel
    have AW2 := hide haw2
    have HLS := hide hlsl
    have HLR := hide hlr
    clear haw2 hlsl hlr
    by_cases hjt : j < n
    ·have hji : (j : Int) < (n : Int) := by omega
     have hw1 : IntKind.i64.wrap ((at_ : Int) + (j : Int)) = (at_ : Int) + (j : Int) := by rw [IntKind.wrap_i64]; omega
     have hw2 : IntKind.i64.wrap ((at_ : Int) + (j : Int) + 3) = (at_ : Int) + (j : Int) + 3 := by rw [IntKind.wrap_i64]; omega
     have RW := hide (raw_any zs (.slice ua zs.length uc) wr _ (UP.out wr AW2.out.ex).1 HRG.out (at_ + j + 3) (by omega) hzl)
     have e1 : ((at_ + j + 3 : Nat) : Int) = (at_ : Int) + (j : Int) + 3 := by omega
     rw [e1] at RW
     clear e1
     go_wp2_with fail
     refine RW.out.mono ?_
     rintro e w4 ⟨c1, rfl, hc1, hb4⟩
     go_wp2_with fail
     refine (pick_any _ 3 (by decide) (by decide) ⟨by omega, by omega⟩ _).mono ?_
     rintro e wz ⟨k2, rfl, hk2, hwz⟩
     rw [hwz]
     clear hwz
     by_cases h0 : k2 = 0
     ·have hz : ((k2 : Int) == 0) = true := by simp [h0]
      obtain ⟨la, lc, rfl, _⟩ := own_shape AW2.out.out.las
      have o2 : w4.cell? ⟨O, 2, none⟩ = some (.slice la ls.length lc) := (AW2.out.out.below hb4).blk.cell 2
      obtain ⟨g, cap, w8, X8, hap, hO8, hout, hex8, _⟩ := OutA.pushL (wN := w2) (x := (j : Int)) (P := w4.heap.size) AW2.out.out AW2.out.sz (hb4.trans ((one1 w4 (.cells #[.int .i64 (j : Int)] 3)).mono hb4.size)) ((AW2.out.ex.ofBelowA hb4).alloc _) HN.out.symm (Blk.new _ _ _) (by have := HLS.out; omega)
      have HAP := hide hap
      have HOUT := hide hout
      have HEX := hide hex8
      have p2 := hO8.cell 2
      have pf := hO8.frozen
      have pl := hO8.lt
      have hsz8 : N ≤ w8.heap.size := by have h1 := hex8.size; have h2 := HN.out; simp [World.setCell] at h1; omega
      clear hap hout hex8 h0 hb4
      go_wp2_with (at_builtin; refine wpList_append_eq rfl _ _ _ _ rfl rfl rfl HAP.out ?_)
      go_roundw
      case rel => exact ⟨⟨j + 1, ls ++ [(j : Int)], _, xs2, X8, by omega, by go_num, by have := HLS.out; simp; omega, fun z hz => by
       rcases List.mem_append.1 hz with hz | hz
       ·exact HLR.out z hz
       ·have e : z = (j : Int) := by simpa using hz
        omega, ⟨HOUT.out, HEX.out, by simp [World.setCell]; exact hsz8, AW2.out.ok⟩⟩⟩
      case measure => simp [intOf]; omega
     ·have hz : ((k2 : Int) == 0) = false := by simpa using (by omega : ¬ (k2 : Int) = 0)
      have AW4 : Hid (AfW w2 N O (n : Int) ms ls mv lv xs2 X2 w4) := ⟨AW2.out.out.below hb4, AW2.out.ex.ofBelowA hb4, Nat.le_trans AW2.out.sz hb4.size, AW2.out.ok⟩
      clear h0 hb4
      go_wp2_with fail
      go_roundw
      case rel => exact ⟨⟨j + 1, ls, lv, xs2, X2, by omega, by go_num, by have := HLS.out; omega, HLR.out, AW4.out⟩⟩
      case measure => simp [intOf]; omega
    ·have hji : ¬ (j : Int) < (n : Int) := by omega
     have o0 := AW2.out.out.blk.cell 0
     have o1 := AW2.out.out.blk.cell 1
     have o2 := AW2.out.out.blk.cell 2
     have RR : Hid (Blk wr w.heap.size #[.int .i64 0, .slice none 0 0, .slice none 0 0] 25) := R2.out.ex AW2.out.ex (by have := HO.out; omega)
     have r0 := RR.out.cell 0
     have r1 := RR.out.cell 1
     have r2 := RR.out.cell 2
     have rf := RR.out.frozen
     have rl := RR.out.lt
     have HAV := hide AW2.out.out.av
     obtain ⟨ma, mc, rfl, _⟩ := own_shape AW2.out.out.own
     obtain ⟨la, lc, rfl, _⟩ := own_shape AW2.out.out.las
     have BW := hide (UP.out wr AW2.out.ex).2
     go_wp2_with fail
     refine bodyPost_ret (v := .agg #[.int .i64 (n : Int), .slice ma ms.length mc, .slice la ls.length lc]) (by simp [results, Try.results4, go_sem, World.cell?_setCell_same, World.cell?_setCell_other, r0, r1, r2, rl]) rfl ?_
     refine ⟨_, ⟨(n : Int), ms, ls⟩, rfl, av_monoA (av_keptA (w := wr) (X := fun b => N ≤ b) ?_ (fun b hb => ?_)) (fun b hb => by have := HNO.out; omega), ⟨by show (0 : Int) ≤ (n : Int); omega, by show (n : Int) ≤ 8; omega, by have := HKM.out; show ms.length ≤ 40; omega, fun m hm => (AW2.out.ok m hm).1, HLR.out⟩, rfl, HKM.out, by have := HLS.out; show ls.length ≤ n; omega, fun m hm => (AW2.out.ok m hm).2, ((BW.out.setCell (p := ⟨w.heap.size, 0, none⟩) (by simp) _).setCell (p := ⟨w.heap.size, 1, none⟩) (by simp) _).setCell (p := ⟨w.heap.size, 2, none⟩) (by simp) _⟩
     ·exact HAV.out
     ·have hne : b ≠ w.heap.size := by have := HNO.out; omega
      rw [Below.heap_setCell _ _ _ _ (by simpa using hne), Below.heap_setCell _ _ _ _ (by simpa using hne), Below.heap_setCell _ _ _ _ (by simpa using hne)]
end Go.Proofs.Ytofebfjkodceeaa
