import Derived.Test.YtkpkjbfnpocdgaaGreatDoorZTopSelfOwn
import Derived.Test.YtkpkjbfnpocdgaaGreatDoorIs1
import Derived.Test.YtkpkjbfnpocdgaaGreatDoorIf15
import Derived.Test.YtkpkjbfnpocdgaaGreatDoorLf1z
namespace Go.Proofs.YtkpkjbfnpocdgaaGreatDoor
open Go.RowKit
set_option linter.unusedSimpArgs false
set_option linter.unusedVariables false
set_option maxRecDepth 8000
theorem tpQ_eight {m : Nat} (h : m < 9) : tpQ m ≤ 50 := by
 have key : ∀ m < 9, tpQ m ≤ 50 := by decide +kernel
 exact key m h
def RgS (x : Lm) (w4 : World) (o : Value) (w' : World) : Prop :=
 ∃ (A : Nat) (a : Option Addr) (c : Nat), o = .pointer (some ⟨A, 0, none⟩) ∧ Blk w' A #[.int .i64 2, .int .i64 0, .slice a 1 c] 25 ∧ SlM w' (fun _ => True) a (slfT x).subs ∧ Below w4.heap.size w4 w'
set_option maxHeartbeats 20000000 in
theorem topSelf_any {B : Nat} (zs : List Int) (hr : ∀ z ∈ zs, Rng z) (y1 : Int) (hy1 : Rng y1) (u : Value) (w : World) (X : Nat → Prop) (hu : PV w X u zs) (hB : B ≤ w.heap.size) (hT : Tb B w) :
  Calls Tryz.prog 3 #[u, .int .i64 y1] w fun e w' => e = .returned (.bool true) ∧ Below w.heap.size w w' := by
 have HU := hide hu
 have HT := hide hT
 obtain ⟨au, cu, rfl, hlc, hu2⟩ := hu
 clear hu2 hT
 by_cases h256 : 256 < zs.length
 ·go_enter Tryz.func3, Tryz.ntmps3
  go_wp2_with fail
  go_ret
  exact ⟨rfl, Below.refl _ _⟩
 go_enter Tryz.func3, Tryz.ntmps3
 go_wp2_with fail
 refine (pick_any _ 9 (by decide) (by decide) hy1 _).mono ?_
 rintro e w2 ⟨m, rfl, hm, hw2⟩
 rw [hw2]
 clear hw2 w2
 go_wp2_with fail
 refine (lamOfRawZ_any 0 (by omega) zs _ hr (by omega) m 1 (by omega) (by omega) (by omega) w X HU.out).mono ?_
 rintro e w3 ⟨x, ax, cx, rfl, hs3, hb3, he3, hz3, hc3⟩
 have HE := hide he3
 have HC := hide hc3
 have HZ : Hid (sizeM [x] ≤ 50) := Nat.le_trans hz3 (tpQ_eight hm)
 have O4 : Hid (Below w3.heap.size w3 (w3.alloc (.cells #[.int .i64 x.kind, .int .i64 x.idx, .slice ax x.subs.length cx] 25))) := (Below.refl _ _).alloc (Nat.le_refl _) _
 have B4 : Hid (Below w.heap.size w (w3.alloc (.cells #[.int .i64 x.kind, .int .i64 x.idx, .slice ax x.subs.length cx] 25))) := hb3.trans (O4.out.mono hb3.size)
 have K4 : Hid (Blk (w3.alloc (.cells #[.int .i64 x.kind, .int .i64 x.idx, .slice ax x.subs.length cx] 25)) w3.heap.size #[.int .i64 x.kind, .int .i64 x.idx, .slice ax x.subs.length cx] 25) := Blk.new _ _ _
 have S4 : Hid (SlM (w3.alloc (.cells #[.int .i64 x.kind, .int .i64 x.idx, .slice ax x.subs.length cx] 25)) (fun _ => True) ax x.subs) := (hs3.later O4.out).mono fun _ _ _ => trivial
 clear he3 hc3 hz3 hs3 hb3 O4 hm
 go_upto_region 4 with fail
 generalize w3.heap.size = PX at *
 generalize w3.alloc (.cells #[.int .i64 x.kind, .int .i64 x.idx, .slice ax x.subs.length cx] 25) = w4 at *
 have ltP : Hid (PX < w4.heap.size) := K4.out.lt
 have KB : Hid (∀ w', Below w4.heap.size w4 w' → Blk w' PX #[.int .i64 x.kind, .int .i64 x.idx, .slice ax x.subs.length cx] 25) := fun w' hb => K4.out.below hb K4.out.lt
 go_cut [6] (fun o w9 => RgS x w4 o w9)
 case first =>
  have k0 : Below w4.heap.size w4 w4.drew := (Below.refl _ _).drew
  have kd : Blk w4.drew PX #[.int .i64 x.kind, .int .i64 x.idx, .slice ax x.subs.length cx] 25 := K4.out
  refine wp_region_held_drew (S := fun w' => Blk w' PX #[.int .i64 x.kind, .int .i64 x.idx, .slice ax x.subs.length cx] 25) (by kernel_rfl) kd (fun hHeld => ?_)
  refine tkq (v := ?_) 7 rfl ?_ ?_
  rotate_left
  ·intro w' hSw
   have y0 : w'.cell? ⟨PX, 0, none⟩ = some (.int .i64 x.kind) := hSw.cell 0
   have y1 : w'.cell? ⟨PX, 1, none⟩ = some (.int .i64 x.idx) := hSw.cell 1
   have y2 : w'.cell? ⟨PX, 2, none⟩ = some (.slice ax x.subs.length cx) := hSw.cell 2
   go_simp <;> with_reducible rfl
  try simp only [Act.put, sq]
  have X0 : Hid (SlM w4.drew (fun _ => True) ax x.subs) := S4.out.later (Below.refl _ _).drew
  refine wpAnyH_ready (rs := [0, 10]) (by kernel_rfl) (by simp) ?_
  refine AllReadyH.cons rfl (fun K hK => ?_) (AllReadyH.cons rfl (fun K hK => ?_) AllReadyH.nil)
  ·go_simp
   go_at_call 8
   refine (varQ_any 1 w4.drew).mono ?_
   rintro e v1 ⟨rfl, hb⟩
   have X1 := hide (X0.out.later hb)
   have k1 : Below w4.heap.size w4 v1 := k0.trans (hb.mono k0.size)
   clear hb
   go_simp
   refine hK.out _ _ (by exact KB.out _ k1) (fun hHeld => ?_)
   clear hK K
   try simp only [Act.put, sq]
   refine wpAnyH_ready (rs := [1, 10]) (by kernel_rfl) (by simp) ?_
   refine AllReadyH.cons rfl (fun K hK => ?_) (AllReadyH.cons rfl (fun K hK => ?_) AllReadyH.nil)
   ·go_simp
    go_at_call 6
    refine (funQ_any ⟨1, 1, []⟩ _ v1 (fun _ => True) ⟨none, 0, rfl, by simp, Or.inl rfl⟩).mono ?_
    rintro e v2 ⟨a2, c2, rfl, hs, hb⟩
    have X2 := hide (X1.out.later hb)
    have F12 : Hid (SlM v2 (fun _ => True) a2 [⟨1, 1, []⟩]) := hs.mono fun b hb _ => trivial
    have k2 : Below w4.heap.size w4 v2 := k1.trans (hb.mono k1.size)
    clear hb hs
    go_simp
    refine hK.out _ _ (by exact KB.out _ k2) (fun hHeld => ?_)
    clear hK K
    try simp only [Act.put, sq]
    refine wpAnyH_ready (rs := [2, 10]) (by kernel_rfl) (by simp) ?_
    refine AllReadyH.cons rfl (fun K hK => ?_) (AllReadyH.cons rfl (fun K hK => ?_) AllReadyH.nil)
    ·go_simp
     go_at_call 6
     refine (funQ_any ⟨2, 0, [⟨1, 1, []⟩]⟩ _ v2 (fun _ => True) ⟨_, _, rfl, F12.out⟩).mono ?_
     rintro e v3 ⟨a3, c3, rfl, hs, hb⟩
     have X3 := hide (X2.out.later hb)
     have K3 : Hid (SlM v3 (fun _ => True) a3 [⟨2, 0, [⟨1, 1, []⟩]⟩]) := hs.mono fun b hb _ => trivial
     have k3 : Below w4.heap.size w4 v3 := k2.trans (hb.mono k2.size)
     clear hb hs
     go_simp
     refine hK.out _ _ (by exact KB.out _ k3) (fun hHeld => ?_)
     clear hK K
     try simp only [Act.put, sq]
     refine wpAnyH_ready (rs := [3, 10]) (by kernel_rfl) (by simp) ?_
     refine AllReadyH.cons rfl (fun K hK => ?_) (AllReadyH.cons rfl (fun K hK => ?_) AllReadyH.nil)
     ·go_simp
      go_at_call 8
      refine (varQ_any 0 v3).mono ?_
      rintro e v4 ⟨rfl, hb⟩
      have X4 := hide (X3.out.later hb)
      have K4 := hide (K3.out.later hb)
      have k4 : Below w4.heap.size w4 v4 := k3.trans (hb.mono k3.size)
      clear hb
      go_simp
      refine hK.out _ _ (by exact KB.out _ k4) (fun hHeld => ?_)
      clear hK K
      try simp only [Act.put, sq]
      refine wpAnyH_ready (rs := [4, 10]) (by kernel_rfl) (by simp) ?_
      refine AllReadyH.cons rfl (fun K hK => ?_) (AllReadyH.cons rfl (fun K hK => ?_) AllReadyH.nil)
      ·go_simp
       go_at_call 8
       refine (varQ_any 0 v4).mono ?_
       rintro e v5 ⟨rfl, hb⟩
       have X5 := hide (X4.out.later hb)
       have K5 := hide (K4.out.later hb)
       have k5 : Below w4.heap.size w4 v5 := k4.trans (hb.mono k4.size)
       clear hb
       go_simp
       refine hK.out _ _ (by exact KB.out _ k5) (fun hHeld => ?_)
       clear hK K
       try simp only [Act.put, sq]
       refine wpAnyH_ready (rs := [5, 10]) (by kernel_rfl) (by simp) ?_
       refine AllReadyH.cons rfl (fun K hK => ?_) (AllReadyH.cons rfl (fun K hK => ?_) AllReadyH.nil)
       ·go_simp
        go_at_call 7
        refine (appQ_any ⟨1, 0, []⟩ ⟨1, 0, []⟩ _ _ v5 (fun _ => True) ⟨none, 0, rfl, by simp, Or.inl rfl⟩ ⟨none, 0, rfl, by simp, Or.inl rfl⟩).mono ?_
        rintro e v6 ⟨a6, c6, rfl, hs, hb⟩
        have X6 := hide (X5.out.later hb)
        have K6 := hide (K5.out.later hb)
        have SS6 : Hid (SlM v6 (fun _ => True) a6 [⟨1, 0, []⟩, ⟨1, 0, []⟩]) := hs.mono fun b hb _ => trivial
        have k6 : Below w4.heap.size w4 v6 := k5.trans (hb.mono k5.size)
        clear hb hs
        go_simp
        refine hK.out _ _ (by exact KB.out _ k6) (fun hHeld => ?_)
        clear hK K
        try simp only [Act.put, sq]
        refine wpAnyH_ready (rs := [6, 10]) (by kernel_rfl) (by simp) ?_
        refine AllReadyH.cons rfl (fun K hK => ?_) (AllReadyH.cons rfl (fun K hK => ?_) AllReadyH.nil)
        ·go_simp
         go_at_call 7
         refine (appQ_any ⟨2, 0, [⟨2, 0, [⟨1, 1, []⟩]⟩]⟩ ⟨3, 0, [⟨1, 0, []⟩, ⟨1, 0, []⟩]⟩ _ _ v6 (fun _ => True) ⟨_, _, rfl, K6.out⟩ ⟨_, _, rfl, SS6.out⟩).mono ?_
         rintro e v7 ⟨a7, c7, rfl, hs, hb⟩
         have X7 := hide (X6.out.later hb)
         have G7 : Hid (SlM v7 (fun _ => True) a7 [⟨2, 0, [⟨2, 0, [⟨1, 1, []⟩]⟩]⟩, ⟨3, 0, [⟨1, 0, []⟩, ⟨1, 0, []⟩]⟩]) := hs.mono fun b hb _ => trivial
         have k7 : Below w4.heap.size w4 v7 := k6.trans (hb.mono k6.size)
         clear hb hs
         go_simp
         refine hK.out _ _ (by exact KB.out _ k7) (fun hHeld => ?_)
         clear hK K
         try simp only [Act.put, sq]
         refine wpAnyH_ready (rs := [8, 10]) (by kernel_rfl) (by simp) ?_
         refine AllReadyH.cons rfl (fun K hK => ?_) (AllReadyH.cons rfl (fun K hK => ?_) AllReadyH.nil)
         ·go_simp
          go_at_call 7
          refine (appQ_any ⟨3, 0, [⟨2, 0, [⟨2, 0, [⟨1, 1, []⟩]⟩]⟩, ⟨3, 0, [⟨1, 0, []⟩, ⟨1, 0, []⟩]⟩]⟩ x _ _ v7 (fun _ => True) ⟨_, _, rfl, G7.out⟩ ⟨_, _, rfl, X7.out⟩).mono ?_
          rintro e v8 ⟨a8, c8, rfl, hs, hb⟩
          have H8 : Hid (SlM v8 (fun _ => True) a8 [⟨3, 0, [⟨2, 0, [⟨2, 0, [⟨1, 1, []⟩]⟩]⟩, ⟨3, 0, [⟨1, 0, []⟩, ⟨1, 0, []⟩]⟩]⟩, x]) := hs.mono fun b hb _ => trivial
          have k8 : Below w4.heap.size w4 v8 := k7.trans (hb.mono k7.size)
          clear hb hs
          go_simp
          refine hK.out _ _ (by exact KB.out _ k8) (fun hHeld => ?_)
          clear hK K
          try simp only [Act.put, sq]
          refine wpAnyH_ready (rs := [9, 10]) (by kernel_rfl) (by simp) ?_
          refine AllReadyH.cons rfl (fun K hK => ?_) (AllReadyH.cons rfl (fun K hK => ?_) AllReadyH.nil)
          ·go_simp
           go_at_call 6
           refine (funQ_any ⟨3, 0, [⟨3, 0, [⟨2, 0, [⟨2, 0, [⟨1, 1, []⟩]⟩]⟩, ⟨3, 0, [⟨1, 0, []⟩, ⟨1, 0, []⟩]⟩]⟩, x]⟩ _ v8 (fun _ => True) ⟨_, _, rfl, H8.out⟩).mono ?_
           rintro e v9 ⟨a9, c9, rfl, hs, hb⟩
           have E9 : Hid (SlM v9 (fun _ => True) a9 [⟨3, 0, [⟨3, 0, [⟨2, 0, [⟨2, 0, [⟨1, 1, []⟩]⟩]⟩, ⟨3, 0, [⟨1, 0, []⟩, ⟨1, 0, []⟩]⟩]⟩, x]⟩]) := hs.mono fun b hb _ => trivial
           have k9 : Below w4.heap.size w4 v9 := k8.trans (hb.mono k8.size)
           clear hb hs
           go_simp
           refine hK.out _ _ (by exact KB.out _ k9) (fun hHeld => ?_)
           clear hK K
           try simp only [Act.put, sq]
           refine rdq 10 rfl fun K hK => ?_
           go_simp
           have o10 : Hid (Below v9.heap.size v9 (v9.alloc (.cells #[.int .i64 0, .int .i64 0, .slice none 0 0] 25))) := ((Below.refl _ _).alloc (Nat.le_refl _) _)
           have k10 : Below w4.heap.size w4 (v9.alloc (.cells #[.int .i64 0, .int .i64 0, .slice none 0 0] 25)) := k9.trans (o10.out.mono k9.size)
           have A10 : Hid (Blk (v9.alloc (.cells #[.int .i64 0, .int .i64 0, .slice none 0 0] 25)) v9.heap.size #[.int .i64 0, .int .i64 0, .slice none 0 0] 25) := Blk.new _ _ _
           have g10 : Hid (w4.heap.size ≤ v9.heap.size) := k9.size
           have E10 : Hid (SlM (v9.alloc (.cells #[.int .i64 0, .int .i64 0, .slice none 0 0] 25)) (fun b => b ≠ v9.heap.size) _ [⟨3, 0, [⟨3, 0, [⟨2, 0, [⟨2, 0, [⟨1, 1, []⟩]⟩]⟩, ⟨3, 0, [⟨1, 0, []⟩, ⟨1, 0, []⟩]⟩]⟩, x]⟩]) := (E9.out.mono (Y := (fun b => b ≠ v9.heap.size)) fun b _ hlt => by omega).later o10.out
           refine hK.out _ _ (by exact KB.out _ k10) (fun hHeld => ?_)
           clear hK K
           try simp only [Act.put, sq]
           generalize (v9.alloc (.cells #[.int .i64 0, .int .i64 0, .slice none 0 0] 25)) = v10 at *
           have b0 := A10.out.cell 0
           have b1 := A10.out.cell 1
           have b2 := A10.out.cell 2
           have z0 := A10.out.frozen 0
           have z1 := A10.out.frozen 1
           have z2 := A10.out.frozen 2
           simp only [List.getElem?_toArray, List.getElem?_cons_zero, List.getElem?_cons_succ] at b0 b1 b2
           have neP : PX ≠ v9.heap.size := fun e => by have h1 := ltP.out; have h2 := g10.out; omega
           have HX : Blk (((v10.setCell ⟨v9.heap.size, 0, none⟩ (.int .i64 2)).setCell ⟨v9.heap.size, 1, none⟩ (.int .i64 0)).setCell ⟨v9.heap.size, 2, none⟩ (.slice a9 1 c9)) PX #[.int .i64 x.kind, .int .i64 x.idx, .slice ax x.subs.length cx] 25 := (((KB.out _ k10).setOther 0 _ neP).setOther 1 _ neP).setOther 2 _ neP
           have FIN : Hid (RgS x w4 (.pointer (some ⟨v9.heap.size, 0, none⟩)) (((v10.setCell ⟨v9.heap.size, 0, none⟩ (.int .i64 2)).setCell ⟨v9.heap.size, 1, none⟩ (.int .i64 0)).setCell ⟨v9.heap.size, 2, none⟩ (.slice a9 1 c9))) := ⟨v9.heap.size, a9, c9, rfl, ((A10.out.set 0 _).set 1 _).set 2 _, (E10.out.kept fun b hb => by rw [Below.heap_setCell _ _ _ _ (by simpa using hb), Below.heap_setCell _ _ _ _ (by simpa using hb), Below.heap_setCell _ _ _ _ (by simpa using hb)]).mono fun _ _ _ => trivial, belSetI (belSetI (belSetI k10 g10.out 0 _) g10.out 1 _) g10.out 2 _⟩
           refine rdq 11 rfl fun K hK => ?_
           go_simp
           refine hK.out _ _ (by exact HX) (fun hHeld => ?_)
           clear hK K
           try simp only [Act.put, sq]
           refine wpAnyH_done (by kernel_rfl) ?_ _
           clear b0 b1 b2 z0 z1 z2
           go_wp2_with fail
           go_meet
           exact FIN.out
          ·go_simp
           have o11 : Hid (Below v8.heap.size v8 (v8.alloc (.cells #[.int .i64 0, .int .i64 0, .slice none 0 0] 25))) := ((Below.refl _ _).alloc (Nat.le_refl _) _)
           have k11 : Below w4.heap.size w4 (v8.alloc (.cells #[.int .i64 0, .int .i64 0, .slice none 0 0] 25)) := k8.trans (o11.out.mono k8.size)
           have A11 : Hid (Blk (v8.alloc (.cells #[.int .i64 0, .int .i64 0, .slice none 0 0] 25)) v8.heap.size #[.int .i64 0, .int .i64 0, .slice none 0 0] 25) := Blk.new _ _ _
           have g11 : Hid (w4.heap.size ≤ v8.heap.size) := k8.size
           have H11 : Hid (SlM (v8.alloc (.cells #[.int .i64 0, .int .i64 0, .slice none 0 0] 25)) (fun b => b ≠ v8.heap.size) _ [⟨3, 0, [⟨2, 0, [⟨2, 0, [⟨1, 1, []⟩]⟩]⟩, ⟨3, 0, [⟨1, 0, []⟩, ⟨1, 0, []⟩]⟩]⟩, x]) := (H8.out.mono (Y := (fun b => b ≠ v8.heap.size)) fun b _ hlt => by omega).later o11.out
           refine hK.out _ _ (by exact KB.out _ k11) (fun hHeld => ?_)
           clear hK K
           try simp only [Act.put, sq]
           generalize (v8.alloc (.cells #[.int .i64 0, .int .i64 0, .slice none 0 0] 25)) = v11 at *
           refine rdq 9 rfl fun K hK => ?_
           go_simp
           go_at_call 6
           refine (funQ_any ⟨3, 0, [⟨3, 0, [⟨2, 0, [⟨2, 0, [⟨1, 1, []⟩]⟩]⟩, ⟨3, 0, [⟨1, 0, []⟩, ⟨1, 0, []⟩]⟩]⟩, x]⟩ _ v11 (fun b => b ≠ v8.heap.size) ⟨_, _, rfl, H11.out⟩).mono ?_
           rintro e v12 ⟨a12, c12, rfl, hs, hb⟩
           have E12 : Hid (SlM v12 (fun b => b ≠ v8.heap.size) a12 [⟨3, 0, [⟨3, 0, [⟨2, 0, [⟨2, 0, [⟨1, 1, []⟩]⟩]⟩, ⟨3, 0, [⟨1, 0, []⟩, ⟨1, 0, []⟩]⟩]⟩, x]⟩]) := hs.mono fun b hb _ => hb.elim id (fun h => by have h1 := A11.out.lt; omega)
           have k12 : Below w4.heap.size w4 v12 := k11.trans (hb.mono k11.size)
           have A12 := hide (A11.out.below hb A11.out.lt)
           clear hb hs
           go_simp
           refine hK.out _ _ (by exact KB.out _ k12) (fun hHeld => ?_)
           clear hK K
           try simp only [Act.put, sq]
           have b0 := A12.out.cell 0
           have b1 := A12.out.cell 1
           have b2 := A12.out.cell 2
           have z0 := A12.out.frozen 0
           have z1 := A12.out.frozen 1
           have z2 := A12.out.frozen 2
           simp only [List.getElem?_toArray, List.getElem?_cons_zero, List.getElem?_cons_succ] at b0 b1 b2
           have neP : PX ≠ v8.heap.size := fun e => by have h1 := ltP.out; have h2 := g11.out; omega
           have HX : Blk (((v12.setCell ⟨v8.heap.size, 0, none⟩ (.int .i64 2)).setCell ⟨v8.heap.size, 1, none⟩ (.int .i64 0)).setCell ⟨v8.heap.size, 2, none⟩ (.slice a12 1 c12)) PX #[.int .i64 x.kind, .int .i64 x.idx, .slice ax x.subs.length cx] 25 := (((KB.out _ k12).setOther 0 _ neP).setOther 1 _ neP).setOther 2 _ neP
           have FIN : Hid (RgS x w4 (.pointer (some ⟨v8.heap.size, 0, none⟩)) (((v12.setCell ⟨v8.heap.size, 0, none⟩ (.int .i64 2)).setCell ⟨v8.heap.size, 1, none⟩ (.int .i64 0)).setCell ⟨v8.heap.size, 2, none⟩ (.slice a12 1 c12))) := ⟨v8.heap.size, a12, c12, rfl, ((A12.out.set 0 _).set 1 _).set 2 _, (E12.out.kept fun b hb => by rw [Below.heap_setCell _ _ _ _ (by simpa using hb), Below.heap_setCell _ _ _ _ (by simpa using hb), Below.heap_setCell _ _ _ _ (by simpa using hb)]).mono fun _ _ _ => trivial, belSetI (belSetI (belSetI k12 g11.out 0 _) g11.out 1 _) g11.out 2 _⟩
           refine rdq 11 rfl fun K hK => ?_
           go_simp
           refine hK.out _ _ (by exact HX) (fun hHeld => ?_)
           clear hK K
           try simp only [Act.put, sq]
           refine wpAnyH_done (by kernel_rfl) ?_ _
           clear b0 b1 b2 z0 z1 z2
           go_wp2_with fail
           go_meet
           exact FIN.out
         ·go_simp
          have o13 : Hid (Below v7.heap.size v7 (v7.alloc (.cells #[.int .i64 0, .int .i64 0, .slice none 0 0] 25))) := ((Below.refl _ _).alloc (Nat.le_refl _) _)
          have k13 : Below w4.heap.size w4 (v7.alloc (.cells #[.int .i64 0, .int .i64 0, .slice none 0 0] 25)) := k7.trans (o13.out.mono k7.size)
          have A13 : Hid (Blk (v7.alloc (.cells #[.int .i64 0, .int .i64 0, .slice none 0 0] 25)) v7.heap.size #[.int .i64 0, .int .i64 0, .slice none 0 0] 25) := Blk.new _ _ _
          have g13 : Hid (w4.heap.size ≤ v7.heap.size) := k7.size
          have X13 : Hid (SlM (v7.alloc (.cells #[.int .i64 0, .int .i64 0, .slice none 0 0] 25)) (fun b => b ≠ v7.heap.size) _ x.subs) := (X7.out.mono (Y := (fun b => b ≠ v7.heap.size)) fun b _ hlt => by omega).later o13.out
          have G13 : Hid (SlM (v7.alloc (.cells #[.int .i64 0, .int .i64 0, .slice none 0 0] 25)) (fun b => b ≠ v7.heap.size) _ [⟨2, 0, [⟨2, 0, [⟨1, 1, []⟩]⟩]⟩, ⟨3, 0, [⟨1, 0, []⟩, ⟨1, 0, []⟩]⟩]) := (G7.out.mono (Y := (fun b => b ≠ v7.heap.size)) fun b _ hlt => by omega).later o13.out
          refine hK.out _ _ (by exact KB.out _ k13) (fun hHeld => ?_)
          clear hK K
          try simp only [Act.put, sq]
          generalize (v7.alloc (.cells #[.int .i64 0, .int .i64 0, .slice none 0 0] 25)) = v13 at *
          refine rdq 8 rfl fun K hK => ?_
          go_simp
          go_at_call 7
          refine (appQ_any ⟨3, 0, [⟨2, 0, [⟨2, 0, [⟨1, 1, []⟩]⟩]⟩, ⟨3, 0, [⟨1, 0, []⟩, ⟨1, 0, []⟩]⟩]⟩ x _ _ v13 (fun b => b ≠ v7.heap.size) ⟨_, _, rfl, G13.out⟩ ⟨_, _, rfl, X13.out⟩).mono ?_
          rintro e v14 ⟨a14, c14, rfl, hs, hb⟩
          have H14 : Hid (SlM v14 (fun b => b ≠ v7.heap.size) a14 [⟨3, 0, [⟨2, 0, [⟨2, 0, [⟨1, 1, []⟩]⟩]⟩, ⟨3, 0, [⟨1, 0, []⟩, ⟨1, 0, []⟩]⟩]⟩, x]) := hs.mono fun b hb _ => hb.elim id (fun h => by have h1 := A13.out.lt; omega)
          have k14 : Below w4.heap.size w4 v14 := k13.trans (hb.mono k13.size)
          have A14 := hide (A13.out.below hb A13.out.lt)
          clear hb hs
          go_simp
          refine hK.out _ _ (by exact KB.out _ k14) (fun hHeld => ?_)
          clear hK K
          try simp only [Act.put, sq]
          refine rdq 9 rfl fun K hK => ?_
          go_simp
          go_at_call 6
          refine (funQ_any ⟨3, 0, [⟨3, 0, [⟨2, 0, [⟨2, 0, [⟨1, 1, []⟩]⟩]⟩, ⟨3, 0, [⟨1, 0, []⟩, ⟨1, 0, []⟩]⟩]⟩, x]⟩ _ v14 (fun b => b ≠ v7.heap.size) ⟨_, _, rfl, H14.out⟩).mono ?_
          rintro e v15 ⟨a15, c15, rfl, hs, hb⟩
          have E15 : Hid (SlM v15 (fun b => b ≠ v7.heap.size) a15 [⟨3, 0, [⟨3, 0, [⟨2, 0, [⟨2, 0, [⟨1, 1, []⟩]⟩]⟩, ⟨3, 0, [⟨1, 0, []⟩, ⟨1, 0, []⟩]⟩]⟩, x]⟩]) := hs.mono fun b hb _ => hb.elim id (fun h => by have h1 := A14.out.lt; omega)
          have k15 : Below w4.heap.size w4 v15 := k14.trans (hb.mono k14.size)
          have A15 := hide (A14.out.below hb A14.out.lt)
          clear hb hs
          go_simp
          refine hK.out _ _ (by exact KB.out _ k15) (fun hHeld => ?_)
          clear hK K
          try simp only [Act.put, sq]
          have b0 := A15.out.cell 0
          have b1 := A15.out.cell 1
          have b2 := A15.out.cell 2
          have z0 := A15.out.frozen 0
          have z1 := A15.out.frozen 1
          have z2 := A15.out.frozen 2
          simp only [List.getElem?_toArray, List.getElem?_cons_zero, List.getElem?_cons_succ] at b0 b1 b2
          have neP : PX ≠ v7.heap.size := fun e => by have h1 := ltP.out; have h2 := g13.out; omega
          have HX : Blk (((v15.setCell ⟨v7.heap.size, 0, none⟩ (.int .i64 2)).setCell ⟨v7.heap.size, 1, none⟩ (.int .i64 0)).setCell ⟨v7.heap.size, 2, none⟩ (.slice a15 1 c15)) PX #[.int .i64 x.kind, .int .i64 x.idx, .slice ax x.subs.length cx] 25 := (((KB.out _ k15).setOther 0 _ neP).setOther 1 _ neP).setOther 2 _ neP
          have FIN : Hid (RgS x w4 (.pointer (some ⟨v7.heap.size, 0, none⟩)) (((v15.setCell ⟨v7.heap.size, 0, none⟩ (.int .i64 2)).setCell ⟨v7.heap.size, 1, none⟩ (.int .i64 0)).setCell ⟨v7.heap.size, 2, none⟩ (.slice a15 1 c15))) := ⟨v7.heap.size, a15, c15, rfl, ((A15.out.set 0 _).set 1 _).set 2 _, (E15.out.kept fun b hb => by rw [Below.heap_setCell _ _ _ _ (by simpa using hb), Below.heap_setCell _ _ _ _ (by simpa using hb), Below.heap_setCell _ _ _ _ (by simpa using hb)]).mono fun _ _ _ => trivial, belSetI (belSetI (belSetI k15 g13.out 0 _) g13.out 1 _) g13.out 2 _⟩
          refine rdq 11 rfl fun K hK => ?_
          go_simp
          refine hK.out _ _ (by exact HX) (fun hHeld => ?_)
          clear hK K
          try simp only [Act.put, sq]
          refine wpAnyH_done (by kernel_rfl) ?_ _
          clear b0 b1 b2 z0 z1 z2
          go_wp2_with fail
          go_meet
          exact FIN.out
        ·go_simp
         have o16 : Hid (Below v6.heap.size v6 (v6.alloc (.cells #[.int .i64 0, .int .i64 0, .slice none 0 0] 25))) := ((Below.refl _ _).alloc (Nat.le_refl _) _)
         have k16 : Below w4.heap.size w4 (v6.alloc (.cells #[.int .i64 0, .int .i64 0, .slice none 0 0] 25)) := k6.trans (o16.out.mono k6.size)
         have A16 : Hid (Blk (v6.alloc (.cells #[.int .i64 0, .int .i64 0, .slice none 0 0] 25)) v6.heap.size #[.int .i64 0, .int .i64 0, .slice none 0 0] 25) := Blk.new _ _ _
         have g16 : Hid (w4.heap.size ≤ v6.heap.size) := k6.size
         have X16 : Hid (SlM (v6.alloc (.cells #[.int .i64 0, .int .i64 0, .slice none 0 0] 25)) (fun b => b ≠ v6.heap.size) _ x.subs) := (X6.out.mono (Y := (fun b => b ≠ v6.heap.size)) fun b _ hlt => by omega).later o16.out
         have K16 : Hid (SlM (v6.alloc (.cells #[.int .i64 0, .int .i64 0, .slice none 0 0] 25)) (fun b => b ≠ v6.heap.size) _ [⟨2, 0, [⟨1, 1, []⟩]⟩]) := (K6.out.mono (Y := (fun b => b ≠ v6.heap.size)) fun b _ hlt => by omega).later o16.out
         have SS16 : Hid (SlM (v6.alloc (.cells #[.int .i64 0, .int .i64 0, .slice none 0 0] 25)) (fun b => b ≠ v6.heap.size) _ [⟨1, 0, []⟩, ⟨1, 0, []⟩]) := (SS6.out.mono (Y := (fun b => b ≠ v6.heap.size)) fun b _ hlt => by omega).later o16.out
         refine hK.out _ _ (by exact KB.out _ k16) (fun hHeld => ?_)
         clear hK K
         try simp only [Act.put, sq]
         generalize (v6.alloc (.cells #[.int .i64 0, .int .i64 0, .slice none 0 0] 25)) = v16 at *
         refine rdq 6 rfl fun K hK => ?_
         go_simp
         go_at_call 7
         refine (appQ_any ⟨2, 0, [⟨2, 0, [⟨1, 1, []⟩]⟩]⟩ ⟨3, 0, [⟨1, 0, []⟩, ⟨1, 0, []⟩]⟩ _ _ v16 (fun b => b ≠ v6.heap.size) ⟨_, _, rfl, K16.out⟩ ⟨_, _, rfl, SS16.out⟩).mono ?_
         rintro e v17 ⟨a17, c17, rfl, hs, hb⟩
         have X17 := hide (X16.out.later hb)
         have G17 : Hid (SlM v17 (fun b => b ≠ v6.heap.size) a17 [⟨2, 0, [⟨2, 0, [⟨1, 1, []⟩]⟩]⟩, ⟨3, 0, [⟨1, 0, []⟩, ⟨1, 0, []⟩]⟩]) := hs.mono fun b hb _ => hb.elim id (fun h => by have h1 := A16.out.lt; omega)
         have k17 : Below w4.heap.size w4 v17 := k16.trans (hb.mono k16.size)
         have A17 := hide (A16.out.below hb A16.out.lt)
         clear hb hs
         go_simp
         refine hK.out _ _ (by exact KB.out _ k17) (fun hHeld => ?_)
         clear hK K
         try simp only [Act.put, sq]
         refine rdq 8 rfl fun K hK => ?_
         go_simp
         go_at_call 7
         refine (appQ_any ⟨3, 0, [⟨2, 0, [⟨2, 0, [⟨1, 1, []⟩]⟩]⟩, ⟨3, 0, [⟨1, 0, []⟩, ⟨1, 0, []⟩]⟩]⟩ x _ _ v17 (fun b => b ≠ v6.heap.size) ⟨_, _, rfl, G17.out⟩ ⟨_, _, rfl, X17.out⟩).mono ?_
         rintro e v18 ⟨a18, c18, rfl, hs, hb⟩
         have H18 : Hid (SlM v18 (fun b => b ≠ v6.heap.size) a18 [⟨3, 0, [⟨2, 0, [⟨2, 0, [⟨1, 1, []⟩]⟩]⟩, ⟨3, 0, [⟨1, 0, []⟩, ⟨1, 0, []⟩]⟩]⟩, x]) := hs.mono fun b hb _ => hb.elim id (fun h => by have h1 := A17.out.lt; omega)
         have k18 : Below w4.heap.size w4 v18 := k17.trans (hb.mono k17.size)
         have A18 := hide (A17.out.below hb A17.out.lt)
         clear hb hs
         go_simp
         refine hK.out _ _ (by exact KB.out _ k18) (fun hHeld => ?_)
         clear hK K
         try simp only [Act.put, sq]
         refine rdq 9 rfl fun K hK => ?_
         go_simp
         go_at_call 6
         refine (funQ_any ⟨3, 0, [⟨3, 0, [⟨2, 0, [⟨2, 0, [⟨1, 1, []⟩]⟩]⟩, ⟨3, 0, [⟨1, 0, []⟩, ⟨1, 0, []⟩]⟩]⟩, x]⟩ _ v18 (fun b => b ≠ v6.heap.size) ⟨_, _, rfl, H18.out⟩).mono ?_
         rintro e v19 ⟨a19, c19, rfl, hs, hb⟩
         have E19 : Hid (SlM v19 (fun b => b ≠ v6.heap.size) a19 [⟨3, 0, [⟨3, 0, [⟨2, 0, [⟨2, 0, [⟨1, 1, []⟩]⟩]⟩, ⟨3, 0, [⟨1, 0, []⟩, ⟨1, 0, []⟩]⟩]⟩, x]⟩]) := hs.mono fun b hb _ => hb.elim id (fun h => by have h1 := A18.out.lt; omega)
         have k19 : Below w4.heap.size w4 v19 := k18.trans (hb.mono k18.size)
         have A19 := hide (A18.out.below hb A18.out.lt)
         clear hb hs
         go_simp
         refine hK.out _ _ (by exact KB.out _ k19) (fun hHeld => ?_)
         clear hK K
         try simp only [Act.put, sq]
         have b0 := A19.out.cell 0
         have b1 := A19.out.cell 1
         have b2 := A19.out.cell 2
         have z0 := A19.out.frozen 0
         have z1 := A19.out.frozen 1
         have z2 := A19.out.frozen 2
         simp only [List.getElem?_toArray, List.getElem?_cons_zero, List.getElem?_cons_succ] at b0 b1 b2
         have neP : PX ≠ v6.heap.size := fun e => by have h1 := ltP.out; have h2 := g16.out; omega
         have HX : Blk (((v19.setCell ⟨v6.heap.size, 0, none⟩ (.int .i64 2)).setCell ⟨v6.heap.size, 1, none⟩ (.int .i64 0)).setCell ⟨v6.heap.size, 2, none⟩ (.slice a19 1 c19)) PX #[.int .i64 x.kind, .int .i64 x.idx, .slice ax x.subs.length cx] 25 := (((KB.out _ k19).setOther 0 _ neP).setOther 1 _ neP).setOther 2 _ neP
         have FIN : Hid (RgS x w4 (.pointer (some ⟨v6.heap.size, 0, none⟩)) (((v19.setCell ⟨v6.heap.size, 0, none⟩ (.int .i64 2)).setCell ⟨v6.heap.size, 1, none⟩ (.int .i64 0)).setCell ⟨v6.heap.size, 2, none⟩ (.slice a19 1 c19))) := ⟨v6.heap.size, a19, c19, rfl, ((A19.out.set 0 _).set 1 _).set 2 _, (E19.out.kept fun b hb => by rw [Below.heap_setCell _ _ _ _ (by simpa using hb), Below.heap_setCell _ _ _ _ (by simpa using hb), Below.heap_setCell _ _ _ _ (by simpa using hb)]).mono fun _ _ _ => trivial, belSetI (belSetI (belSetI k19 g16.out 0 _) g16.out 1 _) g16.out 2 _⟩
         refine rdq 11 rfl fun K hK => ?_
         go_simp
         refine hK.out _ _ (by exact HX) (fun hHeld => ?_)
         clear hK K
         try simp only [Act.put, sq]
         refine wpAnyH_done (by kernel_rfl) ?_ _
         clear b0 b1 b2 z0 z1 z2
         go_wp2_with fail
         go_meet
         exact FIN.out
       ·go_simp
        have o20 : Hid (Below v5.heap.size v5 (v5.alloc (.cells #[.int .i64 0, .int .i64 0, .slice none 0 0] 25))) := ((Below.refl _ _).alloc (Nat.le_refl _) _)
        have k20 : Below w4.heap.size w4 (v5.alloc (.cells #[.int .i64 0, .int .i64 0, .slice none 0 0] 25)) := k5.trans (o20.out.mono k5.size)
        have A20 : Hid (Blk (v5.alloc (.cells #[.int .i64 0, .int .i64 0, .slice none 0 0] 25)) v5.heap.size #[.int .i64 0, .int .i64 0, .slice none 0 0] 25) := Blk.new _ _ _
        have g20 : Hid (w4.heap.size ≤ v5.heap.size) := k5.size
        have X20 : Hid (SlM (v5.alloc (.cells #[.int .i64 0, .int .i64 0, .slice none 0 0] 25)) (fun b => b ≠ v5.heap.size) _ x.subs) := (X5.out.mono (Y := (fun b => b ≠ v5.heap.size)) fun b _ hlt => by omega).later o20.out
        have K20 : Hid (SlM (v5.alloc (.cells #[.int .i64 0, .int .i64 0, .slice none 0 0] 25)) (fun b => b ≠ v5.heap.size) _ [⟨2, 0, [⟨1, 1, []⟩]⟩]) := (K5.out.mono (Y := (fun b => b ≠ v5.heap.size)) fun b _ hlt => by omega).later o20.out
        refine hK.out _ _ (by exact KB.out _ k20) (fun hHeld => ?_)
        clear hK K
        try simp only [Act.put, sq]
        generalize (v5.alloc (.cells #[.int .i64 0, .int .i64 0, .slice none 0 0] 25)) = v20 at *
        refine rdq 5 rfl fun K hK => ?_
        go_simp
        go_at_call 7
        refine (appQ_any ⟨1, 0, []⟩ ⟨1, 0, []⟩ _ _ v20 (fun b => b ≠ v5.heap.size) ⟨none, 0, rfl, by simp, Or.inl rfl⟩ ⟨none, 0, rfl, by simp, Or.inl rfl⟩).mono ?_
        rintro e v21 ⟨a21, c21, rfl, hs, hb⟩
        have X21 := hide (X20.out.later hb)
        have K21 := hide (K20.out.later hb)
        have SS21 : Hid (SlM v21 (fun b => b ≠ v5.heap.size) a21 [⟨1, 0, []⟩, ⟨1, 0, []⟩]) := hs.mono fun b hb _ => hb.elim id (fun h => by have h1 := A20.out.lt; omega)
        have k21 : Below w4.heap.size w4 v21 := k20.trans (hb.mono k20.size)
        have A21 := hide (A20.out.below hb A20.out.lt)
        clear hb hs
        go_simp
        refine hK.out _ _ (by exact KB.out _ k21) (fun hHeld => ?_)
        clear hK K
        try simp only [Act.put, sq]
        refine rdq 6 rfl fun K hK => ?_
        go_simp
        go_at_call 7
        refine (appQ_any ⟨2, 0, [⟨2, 0, [⟨1, 1, []⟩]⟩]⟩ ⟨3, 0, [⟨1, 0, []⟩, ⟨1, 0, []⟩]⟩ _ _ v21 (fun b => b ≠ v5.heap.size) ⟨_, _, rfl, K21.out⟩ ⟨_, _, rfl, SS21.out⟩).mono ?_
        rintro e v22 ⟨a22, c22, rfl, hs, hb⟩
        have X22 := hide (X21.out.later hb)
        have G22 : Hid (SlM v22 (fun b => b ≠ v5.heap.size) a22 [⟨2, 0, [⟨2, 0, [⟨1, 1, []⟩]⟩]⟩, ⟨3, 0, [⟨1, 0, []⟩, ⟨1, 0, []⟩]⟩]) := hs.mono fun b hb _ => hb.elim id (fun h => by have h1 := A21.out.lt; omega)
        have k22 : Below w4.heap.size w4 v22 := k21.trans (hb.mono k21.size)
        have A22 := hide (A21.out.below hb A21.out.lt)
        clear hb hs
        go_simp
        refine hK.out _ _ (by exact KB.out _ k22) (fun hHeld => ?_)
        clear hK K
        try simp only [Act.put, sq]
        refine rdq 8 rfl fun K hK => ?_
        go_simp
        go_at_call 7
        refine (appQ_any ⟨3, 0, [⟨2, 0, [⟨2, 0, [⟨1, 1, []⟩]⟩]⟩, ⟨3, 0, [⟨1, 0, []⟩, ⟨1, 0, []⟩]⟩]⟩ x _ _ v22 (fun b => b ≠ v5.heap.size) ⟨_, _, rfl, G22.out⟩ ⟨_, _, rfl, X22.out⟩).mono ?_
        rintro e v23 ⟨a23, c23, rfl, hs, hb⟩
        have H23 : Hid (SlM v23 (fun b => b ≠ v5.heap.size) a23 [⟨3, 0, [⟨2, 0, [⟨2, 0, [⟨1, 1, []⟩]⟩]⟩, ⟨3, 0, [⟨1, 0, []⟩, ⟨1, 0, []⟩]⟩]⟩, x]) := hs.mono fun b hb _ => hb.elim id (fun h => by have h1 := A22.out.lt; omega)
        have k23 : Below w4.heap.size w4 v23 := k22.trans (hb.mono k22.size)
        have A23 := hide (A22.out.below hb A22.out.lt)
        clear hb hs
        go_simp
        refine hK.out _ _ (by exact KB.out _ k23) (fun hHeld => ?_)
        clear hK K
        try simp only [Act.put, sq]
        refine rdq 9 rfl fun K hK => ?_
        go_simp
        go_at_call 6
        refine (funQ_any ⟨3, 0, [⟨3, 0, [⟨2, 0, [⟨2, 0, [⟨1, 1, []⟩]⟩]⟩, ⟨3, 0, [⟨1, 0, []⟩, ⟨1, 0, []⟩]⟩]⟩, x]⟩ _ v23 (fun b => b ≠ v5.heap.size) ⟨_, _, rfl, H23.out⟩).mono ?_
        rintro e v24 ⟨a24, c24, rfl, hs, hb⟩
        have E24 : Hid (SlM v24 (fun b => b ≠ v5.heap.size) a24 [⟨3, 0, [⟨3, 0, [⟨2, 0, [⟨2, 0, [⟨1, 1, []⟩]⟩]⟩, ⟨3, 0, [⟨1, 0, []⟩, ⟨1, 0, []⟩]⟩]⟩, x]⟩]) := hs.mono fun b hb _ => hb.elim id (fun h => by have h1 := A23.out.lt; omega)
        have k24 : Below w4.heap.size w4 v24 := k23.trans (hb.mono k23.size)
        have A24 := hide (A23.out.below hb A23.out.lt)
        clear hb hs
        go_simp
        refine hK.out _ _ (by exact KB.out _ k24) (fun hHeld => ?_)
        clear hK K
        try simp only [Act.put, sq]
        have b0 := A24.out.cell 0
        have b1 := A24.out.cell 1
        have b2 := A24.out.cell 2
        have z0 := A24.out.frozen 0
        have z1 := A24.out.frozen 1
        have z2 := A24.out.frozen 2
        simp only [List.getElem?_toArray, List.getElem?_cons_zero, List.getElem?_cons_succ] at b0 b1 b2
        have neP : PX ≠ v5.heap.size := fun e => by have h1 := ltP.out; have h2 := g20.out; omega
        have HX : Blk (((v24.setCell ⟨v5.heap.size, 0, none⟩ (.int .i64 2)).setCell ⟨v5.heap.size, 1, none⟩ (.int .i64 0)).setCell ⟨v5.heap.size, 2, none⟩ (.slice a24 1 c24)) PX #[.int .i64 x.kind, .int .i64 x.idx, .slice ax x.subs.length cx] 25 := (((KB.out _ k24).setOther 0 _ neP).setOther 1 _ neP).setOther 2 _ neP
        have FIN : Hid (RgS x w4 (.pointer (some ⟨v5.heap.size, 0, none⟩)) (((v24.setCell ⟨v5.heap.size, 0, none⟩ (.int .i64 2)).setCell ⟨v5.heap.size, 1, none⟩ (.int .i64 0)).setCell ⟨v5.heap.size, 2, none⟩ (.slice a24 1 c24))) := ⟨v5.heap.size, a24, c24, rfl, ((A24.out.set 0 _).set 1 _).set 2 _, (E24.out.kept fun b hb => by rw [Below.heap_setCell _ _ _ _ (by simpa using hb), Below.heap_setCell _ _ _ _ (by simpa using hb), Below.heap_setCell _ _ _ _ (by simpa using hb)]).mono fun _ _ _ => trivial, belSetI (belSetI (belSetI k24 g20.out 0 _) g20.out 1 _) g20.out 2 _⟩
        refine rdq 11 rfl fun K hK => ?_
        go_simp
        refine hK.out _ _ (by exact HX) (fun hHeld => ?_)
        clear hK K
        try simp only [Act.put, sq]
        refine wpAnyH_done (by kernel_rfl) ?_ _
        clear b0 b1 b2 z0 z1 z2
        go_wp2_with fail
        go_meet
        exact FIN.out
      ·go_simp
       have o25 : Hid (Below v4.heap.size v4 (v4.alloc (.cells #[.int .i64 0, .int .i64 0, .slice none 0 0] 25))) := ((Below.refl _ _).alloc (Nat.le_refl _) _)
       have k25 : Below w4.heap.size w4 (v4.alloc (.cells #[.int .i64 0, .int .i64 0, .slice none 0 0] 25)) := k4.trans (o25.out.mono k4.size)
       have A25 : Hid (Blk (v4.alloc (.cells #[.int .i64 0, .int .i64 0, .slice none 0 0] 25)) v4.heap.size #[.int .i64 0, .int .i64 0, .slice none 0 0] 25) := Blk.new _ _ _
       have g25 : Hid (w4.heap.size ≤ v4.heap.size) := k4.size
       have X25 : Hid (SlM (v4.alloc (.cells #[.int .i64 0, .int .i64 0, .slice none 0 0] 25)) (fun b => b ≠ v4.heap.size) _ x.subs) := (X4.out.mono (Y := (fun b => b ≠ v4.heap.size)) fun b _ hlt => by omega).later o25.out
       have K25 : Hid (SlM (v4.alloc (.cells #[.int .i64 0, .int .i64 0, .slice none 0 0] 25)) (fun b => b ≠ v4.heap.size) _ [⟨2, 0, [⟨1, 1, []⟩]⟩]) := (K4.out.mono (Y := (fun b => b ≠ v4.heap.size)) fun b _ hlt => by omega).later o25.out
       refine hK.out _ _ (by exact KB.out _ k25) (fun hHeld => ?_)
       clear hK K
       try simp only [Act.put, sq]
       generalize (v4.alloc (.cells #[.int .i64 0, .int .i64 0, .slice none 0 0] 25)) = v25 at *
       refine rdq 4 rfl fun K hK => ?_
       go_simp
       go_at_call 8
       refine (varQ_any 0 v25).mono ?_
       rintro e v26 ⟨rfl, hb⟩
       have X26 := hide (X25.out.later hb)
       have K26 := hide (K25.out.later hb)
       have k26 : Below w4.heap.size w4 v26 := k25.trans (hb.mono k25.size)
       have A26 := hide (A25.out.below hb A25.out.lt)
       clear hb
       go_simp
       refine hK.out _ _ (by exact KB.out _ k26) (fun hHeld => ?_)
       clear hK K
       try simp only [Act.put, sq]
       refine rdq 5 rfl fun K hK => ?_
       go_simp
       go_at_call 7
       refine (appQ_any ⟨1, 0, []⟩ ⟨1, 0, []⟩ _ _ v26 (fun b => b ≠ v4.heap.size) ⟨none, 0, rfl, by simp, Or.inl rfl⟩ ⟨none, 0, rfl, by simp, Or.inl rfl⟩).mono ?_
       rintro e v27 ⟨a27, c27, rfl, hs, hb⟩
       have X27 := hide (X26.out.later hb)
       have K27 := hide (K26.out.later hb)
       have SS27 : Hid (SlM v27 (fun b => b ≠ v4.heap.size) a27 [⟨1, 0, []⟩, ⟨1, 0, []⟩]) := hs.mono fun b hb _ => hb.elim id (fun h => by have h1 := A26.out.lt; omega)
       have k27 : Below w4.heap.size w4 v27 := k26.trans (hb.mono k26.size)
       have A27 := hide (A26.out.below hb A26.out.lt)
       clear hb hs
       go_simp
       refine hK.out _ _ (by exact KB.out _ k27) (fun hHeld => ?_)
       clear hK K
       try simp only [Act.put, sq]
       refine rdq 6 rfl fun K hK => ?_
       go_simp
       go_at_call 7
       refine (appQ_any ⟨2, 0, [⟨2, 0, [⟨1, 1, []⟩]⟩]⟩ ⟨3, 0, [⟨1, 0, []⟩, ⟨1, 0, []⟩]⟩ _ _ v27 (fun b => b ≠ v4.heap.size) ⟨_, _, rfl, K27.out⟩ ⟨_, _, rfl, SS27.out⟩).mono ?_
       rintro e v28 ⟨a28, c28, rfl, hs, hb⟩
       have X28 := hide (X27.out.later hb)
       have G28 : Hid (SlM v28 (fun b => b ≠ v4.heap.size) a28 [⟨2, 0, [⟨2, 0, [⟨1, 1, []⟩]⟩]⟩, ⟨3, 0, [⟨1, 0, []⟩, ⟨1, 0, []⟩]⟩]) := hs.mono fun b hb _ => hb.elim id (fun h => by have h1 := A27.out.lt; omega)
       have k28 : Below w4.heap.size w4 v28 := k27.trans (hb.mono k27.size)
       have A28 := hide (A27.out.below hb A27.out.lt)
       clear hb hs
       go_simp
       refine hK.out _ _ (by exact KB.out _ k28) (fun hHeld => ?_)
       clear hK K
       try simp only [Act.put, sq]
       refine rdq 8 rfl fun K hK => ?_
       go_simp
       go_at_call 7
       refine (appQ_any ⟨3, 0, [⟨2, 0, [⟨2, 0, [⟨1, 1, []⟩]⟩]⟩, ⟨3, 0, [⟨1, 0, []⟩, ⟨1, 0, []⟩]⟩]⟩ x _ _ v28 (fun b => b ≠ v4.heap.size) ⟨_, _, rfl, G28.out⟩ ⟨_, _, rfl, X28.out⟩).mono ?_
       rintro e v29 ⟨a29, c29, rfl, hs, hb⟩
       have H29 : Hid (SlM v29 (fun b => b ≠ v4.heap.size) a29 [⟨3, 0, [⟨2, 0, [⟨2, 0, [⟨1, 1, []⟩]⟩]⟩, ⟨3, 0, [⟨1, 0, []⟩, ⟨1, 0, []⟩]⟩]⟩, x]) := hs.mono fun b hb _ => hb.elim id (fun h => by have h1 := A28.out.lt; omega)
       have k29 : Below w4.heap.size w4 v29 := k28.trans (hb.mono k28.size)
       have A29 := hide (A28.out.below hb A28.out.lt)
       clear hb hs
       go_simp
       refine hK.out _ _ (by exact KB.out _ k29) (fun hHeld => ?_)
       clear hK K
       try simp only [Act.put, sq]
       refine rdq 9 rfl fun K hK => ?_
       go_simp
       go_at_call 6
       refine (funQ_any ⟨3, 0, [⟨3, 0, [⟨2, 0, [⟨2, 0, [⟨1, 1, []⟩]⟩]⟩, ⟨3, 0, [⟨1, 0, []⟩, ⟨1, 0, []⟩]⟩]⟩, x]⟩ _ v29 (fun b => b ≠ v4.heap.size) ⟨_, _, rfl, H29.out⟩).mono ?_
       rintro e v30 ⟨a30, c30, rfl, hs, hb⟩
       have E30 : Hid (SlM v30 (fun b => b ≠ v4.heap.size) a30 [⟨3, 0, [⟨3, 0, [⟨2, 0, [⟨2, 0, [⟨1, 1, []⟩]⟩]⟩, ⟨3, 0, [⟨1, 0, []⟩, ⟨1, 0, []⟩]⟩]⟩, x]⟩]) := hs.mono fun b hb _ => hb.elim id (fun h => by have h1 := A29.out.lt; omega)
       have k30 : Below w4.heap.size w4 v30 := k29.trans (hb.mono k29.size)
       have A30 := hide (A29.out.below hb A29.out.lt)
       clear hb hs
       go_simp
       refine hK.out _ _ (by exact KB.out _ k30) (fun hHeld => ?_)
       clear hK K
       try simp only [Act.put, sq]
       have b0 := A30.out.cell 0
       have b1 := A30.out.cell 1
       have b2 := A30.out.cell 2
       have z0 := A30.out.frozen 0
       have z1 := A30.out.frozen 1
       have z2 := A30.out.frozen 2
       simp only [List.getElem?_toArray, List.getElem?_cons_zero, List.getElem?_cons_succ] at b0 b1 b2
       have neP : PX ≠ v4.heap.size := fun e => by have h1 := ltP.out; have h2 := g25.out; omega
       have HX : Blk (((v30.setCell ⟨v4.heap.size, 0, none⟩ (.int .i64 2)).setCell ⟨v4.heap.size, 1, none⟩ (.int .i64 0)).setCell ⟨v4.heap.size, 2, none⟩ (.slice a30 1 c30)) PX #[.int .i64 x.kind, .int .i64 x.idx, .slice ax x.subs.length cx] 25 := (((KB.out _ k30).setOther 0 _ neP).setOther 1 _ neP).setOther 2 _ neP
       have FIN : Hid (RgS x w4 (.pointer (some ⟨v4.heap.size, 0, none⟩)) (((v30.setCell ⟨v4.heap.size, 0, none⟩ (.int .i64 2)).setCell ⟨v4.heap.size, 1, none⟩ (.int .i64 0)).setCell ⟨v4.heap.size, 2, none⟩ (.slice a30 1 c30))) := ⟨v4.heap.size, a30, c30, rfl, ((A30.out.set 0 _).set 1 _).set 2 _, (E30.out.kept fun b hb => by rw [Below.heap_setCell _ _ _ _ (by simpa using hb), Below.heap_setCell _ _ _ _ (by simpa using hb), Below.heap_setCell _ _ _ _ (by simpa using hb)]).mono fun _ _ _ => trivial, belSetI (belSetI (belSetI k30 g25.out 0 _) g25.out 1 _) g25.out 2 _⟩
       refine rdq 11 rfl fun K hK => ?_
       go_simp
       refine hK.out _ _ (by exact HX) (fun hHeld => ?_)
       clear hK K
       try simp only [Act.put, sq]
       refine wpAnyH_done (by kernel_rfl) ?_ _
       clear b0 b1 b2 z0 z1 z2
       go_wp2_with fail
       go_meet
       exact FIN.out
     ·go_simp
      have o31 : Hid (Below v3.heap.size v3 (v3.alloc (.cells #[.int .i64 0, .int .i64 0, .slice none 0 0] 25))) := ((Below.refl _ _).alloc (Nat.le_refl _) _)
      have k31 : Below w4.heap.size w4 (v3.alloc (.cells #[.int .i64 0, .int .i64 0, .slice none 0 0] 25)) := k3.trans (o31.out.mono k3.size)
      have A31 : Hid (Blk (v3.alloc (.cells #[.int .i64 0, .int .i64 0, .slice none 0 0] 25)) v3.heap.size #[.int .i64 0, .int .i64 0, .slice none 0 0] 25) := Blk.new _ _ _
      have g31 : Hid (w4.heap.size ≤ v3.heap.size) := k3.size
      have X31 : Hid (SlM (v3.alloc (.cells #[.int .i64 0, .int .i64 0, .slice none 0 0] 25)) (fun b => b ≠ v3.heap.size) _ x.subs) := (X3.out.mono (Y := (fun b => b ≠ v3.heap.size)) fun b _ hlt => by omega).later o31.out
      have K31 : Hid (SlM (v3.alloc (.cells #[.int .i64 0, .int .i64 0, .slice none 0 0] 25)) (fun b => b ≠ v3.heap.size) _ [⟨2, 0, [⟨1, 1, []⟩]⟩]) := (K3.out.mono (Y := (fun b => b ≠ v3.heap.size)) fun b _ hlt => by omega).later o31.out
      refine hK.out _ _ (by exact KB.out _ k31) (fun hHeld => ?_)
      clear hK K
      try simp only [Act.put, sq]
      generalize (v3.alloc (.cells #[.int .i64 0, .int .i64 0, .slice none 0 0] 25)) = v31 at *
      refine rdq 3 rfl fun K hK => ?_
      go_simp
      go_at_call 8
      refine (varQ_any 0 v31).mono ?_
      rintro e v32 ⟨rfl, hb⟩
      have X32 := hide (X31.out.later hb)
      have K32 := hide (K31.out.later hb)
      have k32 : Below w4.heap.size w4 v32 := k31.trans (hb.mono k31.size)
      have A32 := hide (A31.out.below hb A31.out.lt)
      clear hb
      go_simp
      refine hK.out _ _ (by exact KB.out _ k32) (fun hHeld => ?_)
      clear hK K
      try simp only [Act.put, sq]
      refine rdq 4 rfl fun K hK => ?_
      go_simp
      go_at_call 8
      refine (varQ_any 0 v32).mono ?_
      rintro e v33 ⟨rfl, hb⟩
      have X33 := hide (X32.out.later hb)
      have K33 := hide (K32.out.later hb)
      have k33 : Below w4.heap.size w4 v33 := k32.trans (hb.mono k32.size)
      have A33 := hide (A32.out.below hb A32.out.lt)
      clear hb
      go_simp
      refine hK.out _ _ (by exact KB.out _ k33) (fun hHeld => ?_)
      clear hK K
      try simp only [Act.put, sq]
      refine rdq 5 rfl fun K hK => ?_
      go_simp
      go_at_call 7
      refine (appQ_any ⟨1, 0, []⟩ ⟨1, 0, []⟩ _ _ v33 (fun b => b ≠ v3.heap.size) ⟨none, 0, rfl, by simp, Or.inl rfl⟩ ⟨none, 0, rfl, by simp, Or.inl rfl⟩).mono ?_
      rintro e v34 ⟨a34, c34, rfl, hs, hb⟩
      have X34 := hide (X33.out.later hb)
      have K34 := hide (K33.out.later hb)
      have SS34 : Hid (SlM v34 (fun b => b ≠ v3.heap.size) a34 [⟨1, 0, []⟩, ⟨1, 0, []⟩]) := hs.mono fun b hb _ => hb.elim id (fun h => by have h1 := A33.out.lt; omega)
      have k34 : Below w4.heap.size w4 v34 := k33.trans (hb.mono k33.size)
      have A34 := hide (A33.out.below hb A33.out.lt)
      clear hb hs
      go_simp
      refine hK.out _ _ (by exact KB.out _ k34) (fun hHeld => ?_)
      clear hK K
      try simp only [Act.put, sq]
      refine rdq 6 rfl fun K hK => ?_
      go_simp
      go_at_call 7
      refine (appQ_any ⟨2, 0, [⟨2, 0, [⟨1, 1, []⟩]⟩]⟩ ⟨3, 0, [⟨1, 0, []⟩, ⟨1, 0, []⟩]⟩ _ _ v34 (fun b => b ≠ v3.heap.size) ⟨_, _, rfl, K34.out⟩ ⟨_, _, rfl, SS34.out⟩).mono ?_
      rintro e v35 ⟨a35, c35, rfl, hs, hb⟩
      have X35 := hide (X34.out.later hb)
      have G35 : Hid (SlM v35 (fun b => b ≠ v3.heap.size) a35 [⟨2, 0, [⟨2, 0, [⟨1, 1, []⟩]⟩]⟩, ⟨3, 0, [⟨1, 0, []⟩, ⟨1, 0, []⟩]⟩]) := hs.mono fun b hb _ => hb.elim id (fun h => by have h1 := A34.out.lt; omega)
      have k35 : Below w4.heap.size w4 v35 := k34.trans (hb.mono k34.size)
      have A35 := hide (A34.out.below hb A34.out.lt)
      clear hb hs
      go_simp
      refine hK.out _ _ (by exact KB.out _ k35) (fun hHeld => ?_)
      clear hK K
      try simp only [Act.put, sq]
      refine rdq 8 rfl fun K hK => ?_
      go_simp
      go_at_call 7
      refine (appQ_any ⟨3, 0, [⟨2, 0, [⟨2, 0, [⟨1, 1, []⟩]⟩]⟩, ⟨3, 0, [⟨1, 0, []⟩, ⟨1, 0, []⟩]⟩]⟩ x _ _ v35 (fun b => b ≠ v3.heap.size) ⟨_, _, rfl, G35.out⟩ ⟨_, _, rfl, X35.out⟩).mono ?_
      rintro e v36 ⟨a36, c36, rfl, hs, hb⟩
      have H36 : Hid (SlM v36 (fun b => b ≠ v3.heap.size) a36 [⟨3, 0, [⟨2, 0, [⟨2, 0, [⟨1, 1, []⟩]⟩]⟩, ⟨3, 0, [⟨1, 0, []⟩, ⟨1, 0, []⟩]⟩]⟩, x]) := hs.mono fun b hb _ => hb.elim id (fun h => by have h1 := A35.out.lt; omega)
      have k36 : Below w4.heap.size w4 v36 := k35.trans (hb.mono k35.size)
      have A36 := hide (A35.out.below hb A35.out.lt)
      clear hb hs
      go_simp
      refine hK.out _ _ (by exact KB.out _ k36) (fun hHeld => ?_)
      clear hK K
      try simp only [Act.put, sq]
      refine rdq 9 rfl fun K hK => ?_
      go_simp
      go_at_call 6
      refine (funQ_any ⟨3, 0, [⟨3, 0, [⟨2, 0, [⟨2, 0, [⟨1, 1, []⟩]⟩]⟩, ⟨3, 0, [⟨1, 0, []⟩, ⟨1, 0, []⟩]⟩]⟩, x]⟩ _ v36 (fun b => b ≠ v3.heap.size) ⟨_, _, rfl, H36.out⟩).mono ?_
      rintro e v37 ⟨a37, c37, rfl, hs, hb⟩
      have E37 : Hid (SlM v37 (fun b => b ≠ v3.heap.size) a37 [⟨3, 0, [⟨3, 0, [⟨2, 0, [⟨2, 0, [⟨1, 1, []⟩]⟩]⟩, ⟨3, 0, [⟨1, 0, []⟩, ⟨1, 0, []⟩]⟩]⟩, x]⟩]) := hs.mono fun b hb _ => hb.elim id (fun h => by have h1 := A36.out.lt; omega)
      have k37 : Below w4.heap.size w4 v37 := k36.trans (hb.mono k36.size)
      have A37 := hide (A36.out.below hb A36.out.lt)
      clear hb hs
      go_simp
      refine hK.out _ _ (by exact KB.out _ k37) (fun hHeld => ?_)
      clear hK K
      try simp only [Act.put, sq]
      have b0 := A37.out.cell 0
      have b1 := A37.out.cell 1
      have b2 := A37.out.cell 2
      have z0 := A37.out.frozen 0
      have z1 := A37.out.frozen 1
      have z2 := A37.out.frozen 2
      simp only [List.getElem?_toArray, List.getElem?_cons_zero, List.getElem?_cons_succ] at b0 b1 b2
      have neP : PX ≠ v3.heap.size := fun e => by have h1 := ltP.out; have h2 := g31.out; omega
      have HX : Blk (((v37.setCell ⟨v3.heap.size, 0, none⟩ (.int .i64 2)).setCell ⟨v3.heap.size, 1, none⟩ (.int .i64 0)).setCell ⟨v3.heap.size, 2, none⟩ (.slice a37 1 c37)) PX #[.int .i64 x.kind, .int .i64 x.idx, .slice ax x.subs.length cx] 25 := (((KB.out _ k37).setOther 0 _ neP).setOther 1 _ neP).setOther 2 _ neP
      have FIN : Hid (RgS x w4 (.pointer (some ⟨v3.heap.size, 0, none⟩)) (((v37.setCell ⟨v3.heap.size, 0, none⟩ (.int .i64 2)).setCell ⟨v3.heap.size, 1, none⟩ (.int .i64 0)).setCell ⟨v3.heap.size, 2, none⟩ (.slice a37 1 c37))) := ⟨v3.heap.size, a37, c37, rfl, ((A37.out.set 0 _).set 1 _).set 2 _, (E37.out.kept fun b hb => by rw [Below.heap_setCell _ _ _ _ (by simpa using hb), Below.heap_setCell _ _ _ _ (by simpa using hb), Below.heap_setCell _ _ _ _ (by simpa using hb)]).mono fun _ _ _ => trivial, belSetI (belSetI (belSetI k37 g31.out 0 _) g31.out 1 _) g31.out 2 _⟩
      refine rdq 11 rfl fun K hK => ?_
      go_simp
      refine hK.out _ _ (by exact HX) (fun hHeld => ?_)
      clear hK K
      try simp only [Act.put, sq]
      refine wpAnyH_done (by kernel_rfl) ?_ _
      clear b0 b1 b2 z0 z1 z2
      go_wp2_with fail
      go_meet
      exact FIN.out
    ·go_simp
     have o38 : Hid (Below v2.heap.size v2 (v2.alloc (.cells #[.int .i64 0, .int .i64 0, .slice none 0 0] 25))) := ((Below.refl _ _).alloc (Nat.le_refl _) _)
     have k38 : Below w4.heap.size w4 (v2.alloc (.cells #[.int .i64 0, .int .i64 0, .slice none 0 0] 25)) := k2.trans (o38.out.mono k2.size)
     have A38 : Hid (Blk (v2.alloc (.cells #[.int .i64 0, .int .i64 0, .slice none 0 0] 25)) v2.heap.size #[.int .i64 0, .int .i64 0, .slice none 0 0] 25) := Blk.new _ _ _
     have g38 : Hid (w4.heap.size ≤ v2.heap.size) := k2.size
     have X38 : Hid (SlM (v2.alloc (.cells #[.int .i64 0, .int .i64 0, .slice none 0 0] 25)) (fun b => b ≠ v2.heap.size) _ x.subs) := (X2.out.mono (Y := (fun b => b ≠ v2.heap.size)) fun b _ hlt => by omega).later o38.out
     have F138 : Hid (SlM (v2.alloc (.cells #[.int .i64 0, .int .i64 0, .slice none 0 0] 25)) (fun b => b ≠ v2.heap.size) _ [⟨1, 1, []⟩]) := (F12.out.mono (Y := (fun b => b ≠ v2.heap.size)) fun b _ hlt => by omega).later o38.out
     refine hK.out _ _ (by exact KB.out _ k38) (fun hHeld => ?_)
     clear hK K
     try simp only [Act.put, sq]
     generalize (v2.alloc (.cells #[.int .i64 0, .int .i64 0, .slice none 0 0] 25)) = v38 at *
     refine rdq 2 rfl fun K hK => ?_
     go_simp
     go_at_call 6
     refine (funQ_any ⟨2, 0, [⟨1, 1, []⟩]⟩ _ v38 (fun b => b ≠ v2.heap.size) ⟨_, _, rfl, F138.out⟩).mono ?_
     rintro e v39 ⟨a39, c39, rfl, hs, hb⟩
     have X39 := hide (X38.out.later hb)
     have K39 : Hid (SlM v39 (fun b => b ≠ v2.heap.size) a39 [⟨2, 0, [⟨1, 1, []⟩]⟩]) := hs.mono fun b hb _ => hb.elim id (fun h => by have h1 := A38.out.lt; omega)
     have k39 : Below w4.heap.size w4 v39 := k38.trans (hb.mono k38.size)
     have A39 := hide (A38.out.below hb A38.out.lt)
     clear hb hs
     go_simp
     refine hK.out _ _ (by exact KB.out _ k39) (fun hHeld => ?_)
     clear hK K
     try simp only [Act.put, sq]
     refine rdq 3 rfl fun K hK => ?_
     go_simp
     go_at_call 8
     refine (varQ_any 0 v39).mono ?_
     rintro e v40 ⟨rfl, hb⟩
     have X40 := hide (X39.out.later hb)
     have K40 := hide (K39.out.later hb)
     have k40 : Below w4.heap.size w4 v40 := k39.trans (hb.mono k39.size)
     have A40 := hide (A39.out.below hb A39.out.lt)
     clear hb
     go_simp
     refine hK.out _ _ (by exact KB.out _ k40) (fun hHeld => ?_)
     clear hK K
     try simp only [Act.put, sq]
     refine rdq 4 rfl fun K hK => ?_
     go_simp
     go_at_call 8
     refine (varQ_any 0 v40).mono ?_
     rintro e v41 ⟨rfl, hb⟩
     have X41 := hide (X40.out.later hb)
     have K41 := hide (K40.out.later hb)
     have k41 : Below w4.heap.size w4 v41 := k40.trans (hb.mono k40.size)
     have A41 := hide (A40.out.below hb A40.out.lt)
     clear hb
     go_simp
     refine hK.out _ _ (by exact KB.out _ k41) (fun hHeld => ?_)
     clear hK K
     try simp only [Act.put, sq]
     refine rdq 5 rfl fun K hK => ?_
     go_simp
     go_at_call 7
     refine (appQ_any ⟨1, 0, []⟩ ⟨1, 0, []⟩ _ _ v41 (fun b => b ≠ v2.heap.size) ⟨none, 0, rfl, by simp, Or.inl rfl⟩ ⟨none, 0, rfl, by simp, Or.inl rfl⟩).mono ?_
     rintro e v42 ⟨a42, c42, rfl, hs, hb⟩
     have X42 := hide (X41.out.later hb)
     have K42 := hide (K41.out.later hb)
     have SS42 : Hid (SlM v42 (fun b => b ≠ v2.heap.size) a42 [⟨1, 0, []⟩, ⟨1, 0, []⟩]) := hs.mono fun b hb _ => hb.elim id (fun h => by have h1 := A41.out.lt; omega)
     have k42 : Below w4.heap.size w4 v42 := k41.trans (hb.mono k41.size)
     have A42 := hide (A41.out.below hb A41.out.lt)
     clear hb hs
     go_simp
     refine hK.out _ _ (by exact KB.out _ k42) (fun hHeld => ?_)
     clear hK K
     try simp only [Act.put, sq]
     refine rdq 6 rfl fun K hK => ?_
     go_simp
     go_at_call 7
     refine (appQ_any ⟨2, 0, [⟨2, 0, [⟨1, 1, []⟩]⟩]⟩ ⟨3, 0, [⟨1, 0, []⟩, ⟨1, 0, []⟩]⟩ _ _ v42 (fun b => b ≠ v2.heap.size) ⟨_, _, rfl, K42.out⟩ ⟨_, _, rfl, SS42.out⟩).mono ?_
     rintro e v43 ⟨a43, c43, rfl, hs, hb⟩
     have X43 := hide (X42.out.later hb)
     have G43 : Hid (SlM v43 (fun b => b ≠ v2.heap.size) a43 [⟨2, 0, [⟨2, 0, [⟨1, 1, []⟩]⟩]⟩, ⟨3, 0, [⟨1, 0, []⟩, ⟨1, 0, []⟩]⟩]) := hs.mono fun b hb _ => hb.elim id (fun h => by have h1 := A42.out.lt; omega)
     have k43 : Below w4.heap.size w4 v43 := k42.trans (hb.mono k42.size)
     have A43 := hide (A42.out.below hb A42.out.lt)
     clear hb hs
     go_simp
     refine hK.out _ _ (by exact KB.out _ k43) (fun hHeld => ?_)
     clear hK K
     try simp only [Act.put, sq]
     refine rdq 8 rfl fun K hK => ?_
     go_simp
     go_at_call 7
     refine (appQ_any ⟨3, 0, [⟨2, 0, [⟨2, 0, [⟨1, 1, []⟩]⟩]⟩, ⟨3, 0, [⟨1, 0, []⟩, ⟨1, 0, []⟩]⟩]⟩ x _ _ v43 (fun b => b ≠ v2.heap.size) ⟨_, _, rfl, G43.out⟩ ⟨_, _, rfl, X43.out⟩).mono ?_
     rintro e v44 ⟨a44, c44, rfl, hs, hb⟩
     have H44 : Hid (SlM v44 (fun b => b ≠ v2.heap.size) a44 [⟨3, 0, [⟨2, 0, [⟨2, 0, [⟨1, 1, []⟩]⟩]⟩, ⟨3, 0, [⟨1, 0, []⟩, ⟨1, 0, []⟩]⟩]⟩, x]) := hs.mono fun b hb _ => hb.elim id (fun h => by have h1 := A43.out.lt; omega)
     have k44 : Below w4.heap.size w4 v44 := k43.trans (hb.mono k43.size)
     have A44 := hide (A43.out.below hb A43.out.lt)
     clear hb hs
     go_simp
     refine hK.out _ _ (by exact KB.out _ k44) (fun hHeld => ?_)
     clear hK K
     try simp only [Act.put, sq]
     refine rdq 9 rfl fun K hK => ?_
     go_simp
     go_at_call 6
     refine (funQ_any ⟨3, 0, [⟨3, 0, [⟨2, 0, [⟨2, 0, [⟨1, 1, []⟩]⟩]⟩, ⟨3, 0, [⟨1, 0, []⟩, ⟨1, 0, []⟩]⟩]⟩, x]⟩ _ v44 (fun b => b ≠ v2.heap.size) ⟨_, _, rfl, H44.out⟩).mono ?_
     rintro e v45 ⟨a45, c45, rfl, hs, hb⟩
     have E45 : Hid (SlM v45 (fun b => b ≠ v2.heap.size) a45 [⟨3, 0, [⟨3, 0, [⟨2, 0, [⟨2, 0, [⟨1, 1, []⟩]⟩]⟩, ⟨3, 0, [⟨1, 0, []⟩, ⟨1, 0, []⟩]⟩]⟩, x]⟩]) := hs.mono fun b hb _ => hb.elim id (fun h => by have h1 := A44.out.lt; omega)
     have k45 : Below w4.heap.size w4 v45 := k44.trans (hb.mono k44.size)
     have A45 := hide (A44.out.below hb A44.out.lt)
     clear hb hs
     go_simp
     refine hK.out _ _ (by exact KB.out _ k45) (fun hHeld => ?_)
     clear hK K
     try simp only [Act.put, sq]
     have b0 := A45.out.cell 0
     have b1 := A45.out.cell 1
     have b2 := A45.out.cell 2
     have z0 := A45.out.frozen 0
     have z1 := A45.out.frozen 1
     have z2 := A45.out.frozen 2
     simp only [List.getElem?_toArray, List.getElem?_cons_zero, List.getElem?_cons_succ] at b0 b1 b2
     have neP : PX ≠ v2.heap.size := fun e => by have h1 := ltP.out; have h2 := g38.out; omega
     have HX : Blk (((v45.setCell ⟨v2.heap.size, 0, none⟩ (.int .i64 2)).setCell ⟨v2.heap.size, 1, none⟩ (.int .i64 0)).setCell ⟨v2.heap.size, 2, none⟩ (.slice a45 1 c45)) PX #[.int .i64 x.kind, .int .i64 x.idx, .slice ax x.subs.length cx] 25 := (((KB.out _ k45).setOther 0 _ neP).setOther 1 _ neP).setOther 2 _ neP
     have FIN : Hid (RgS x w4 (.pointer (some ⟨v2.heap.size, 0, none⟩)) (((v45.setCell ⟨v2.heap.size, 0, none⟩ (.int .i64 2)).setCell ⟨v2.heap.size, 1, none⟩ (.int .i64 0)).setCell ⟨v2.heap.size, 2, none⟩ (.slice a45 1 c45))) := ⟨v2.heap.size, a45, c45, rfl, ((A45.out.set 0 _).set 1 _).set 2 _, (E45.out.kept fun b hb => by rw [Below.heap_setCell _ _ _ _ (by simpa using hb), Below.heap_setCell _ _ _ _ (by simpa using hb), Below.heap_setCell _ _ _ _ (by simpa using hb)]).mono fun _ _ _ => trivial, belSetI (belSetI (belSetI k45 g38.out 0 _) g38.out 1 _) g38.out 2 _⟩
     refine rdq 11 rfl fun K hK => ?_
     go_simp
     refine hK.out _ _ (by exact HX) (fun hHeld => ?_)
     clear hK K
     try simp only [Act.put, sq]
     refine wpAnyH_done (by kernel_rfl) ?_ _
     clear b0 b1 b2 z0 z1 z2
     go_wp2_with fail
     go_meet
     exact FIN.out
   ·go_simp
    have o46 : Hid (Below v1.heap.size v1 (v1.alloc (.cells #[.int .i64 0, .int .i64 0, .slice none 0 0] 25))) := ((Below.refl _ _).alloc (Nat.le_refl _) _)
    have k46 : Below w4.heap.size w4 (v1.alloc (.cells #[.int .i64 0, .int .i64 0, .slice none 0 0] 25)) := k1.trans (o46.out.mono k1.size)
    have A46 : Hid (Blk (v1.alloc (.cells #[.int .i64 0, .int .i64 0, .slice none 0 0] 25)) v1.heap.size #[.int .i64 0, .int .i64 0, .slice none 0 0] 25) := Blk.new _ _ _
    have g46 : Hid (w4.heap.size ≤ v1.heap.size) := k1.size
    have X46 : Hid (SlM (v1.alloc (.cells #[.int .i64 0, .int .i64 0, .slice none 0 0] 25)) (fun b => b ≠ v1.heap.size) _ x.subs) := (X1.out.mono (Y := (fun b => b ≠ v1.heap.size)) fun b _ hlt => by omega).later o46.out
    refine hK.out _ _ (by exact KB.out _ k46) (fun hHeld => ?_)
    clear hK K
    try simp only [Act.put, sq]
    generalize (v1.alloc (.cells #[.int .i64 0, .int .i64 0, .slice none 0 0] 25)) = v46 at *
    refine rdq 1 rfl fun K hK => ?_
    go_simp
    go_at_call 6
    refine (funQ_any ⟨1, 1, []⟩ _ v46 (fun b => b ≠ v1.heap.size) ⟨none, 0, rfl, by simp, Or.inl rfl⟩).mono ?_
    rintro e v47 ⟨a47, c47, rfl, hs, hb⟩
    have X47 := hide (X46.out.later hb)
    have F147 : Hid (SlM v47 (fun b => b ≠ v1.heap.size) a47 [⟨1, 1, []⟩]) := hs.mono fun b hb _ => hb.elim id (fun h => by have h1 := A46.out.lt; omega)
    have k47 : Below w4.heap.size w4 v47 := k46.trans (hb.mono k46.size)
    have A47 := hide (A46.out.below hb A46.out.lt)
    clear hb hs
    go_simp
    refine hK.out _ _ (by exact KB.out _ k47) (fun hHeld => ?_)
    clear hK K
    try simp only [Act.put, sq]
    refine rdq 2 rfl fun K hK => ?_
    go_simp
    go_at_call 6
    refine (funQ_any ⟨2, 0, [⟨1, 1, []⟩]⟩ _ v47 (fun b => b ≠ v1.heap.size) ⟨_, _, rfl, F147.out⟩).mono ?_
    rintro e v48 ⟨a48, c48, rfl, hs, hb⟩
    have X48 := hide (X47.out.later hb)
    have K48 : Hid (SlM v48 (fun b => b ≠ v1.heap.size) a48 [⟨2, 0, [⟨1, 1, []⟩]⟩]) := hs.mono fun b hb _ => hb.elim id (fun h => by have h1 := A47.out.lt; omega)
    have k48 : Below w4.heap.size w4 v48 := k47.trans (hb.mono k47.size)
    have A48 := hide (A47.out.below hb A47.out.lt)
    clear hb hs
    go_simp
    refine hK.out _ _ (by exact KB.out _ k48) (fun hHeld => ?_)
    clear hK K
    try simp only [Act.put, sq]
    refine rdq 3 rfl fun K hK => ?_
    go_simp
    go_at_call 8
    refine (varQ_any 0 v48).mono ?_
    rintro e v49 ⟨rfl, hb⟩
    have X49 := hide (X48.out.later hb)
    have K49 := hide (K48.out.later hb)
    have k49 : Below w4.heap.size w4 v49 := k48.trans (hb.mono k48.size)
    have A49 := hide (A48.out.below hb A48.out.lt)
    clear hb
    go_simp
    refine hK.out _ _ (by exact KB.out _ k49) (fun hHeld => ?_)
    clear hK K
    try simp only [Act.put, sq]
    refine rdq 4 rfl fun K hK => ?_
    go_simp
    go_at_call 8
    refine (varQ_any 0 v49).mono ?_
    rintro e v50 ⟨rfl, hb⟩
    have X50 := hide (X49.out.later hb)
    have K50 := hide (K49.out.later hb)
    have k50 : Below w4.heap.size w4 v50 := k49.trans (hb.mono k49.size)
    have A50 := hide (A49.out.below hb A49.out.lt)
    clear hb
    go_simp
    refine hK.out _ _ (by exact KB.out _ k50) (fun hHeld => ?_)
    clear hK K
    try simp only [Act.put, sq]
    refine rdq 5 rfl fun K hK => ?_
    go_simp
    go_at_call 7
    refine (appQ_any ⟨1, 0, []⟩ ⟨1, 0, []⟩ _ _ v50 (fun b => b ≠ v1.heap.size) ⟨none, 0, rfl, by simp, Or.inl rfl⟩ ⟨none, 0, rfl, by simp, Or.inl rfl⟩).mono ?_
    rintro e v51 ⟨a51, c51, rfl, hs, hb⟩
    have X51 := hide (X50.out.later hb)
    have K51 := hide (K50.out.later hb)
    have SS51 : Hid (SlM v51 (fun b => b ≠ v1.heap.size) a51 [⟨1, 0, []⟩, ⟨1, 0, []⟩]) := hs.mono fun b hb _ => hb.elim id (fun h => by have h1 := A50.out.lt; omega)
    have k51 : Below w4.heap.size w4 v51 := k50.trans (hb.mono k50.size)
    have A51 := hide (A50.out.below hb A50.out.lt)
    clear hb hs
    go_simp
    refine hK.out _ _ (by exact KB.out _ k51) (fun hHeld => ?_)
    clear hK K
    try simp only [Act.put, sq]
    refine rdq 6 rfl fun K hK => ?_
    go_simp
    go_at_call 7
    refine (appQ_any ⟨2, 0, [⟨2, 0, [⟨1, 1, []⟩]⟩]⟩ ⟨3, 0, [⟨1, 0, []⟩, ⟨1, 0, []⟩]⟩ _ _ v51 (fun b => b ≠ v1.heap.size) ⟨_, _, rfl, K51.out⟩ ⟨_, _, rfl, SS51.out⟩).mono ?_
    rintro e v52 ⟨a52, c52, rfl, hs, hb⟩
    have X52 := hide (X51.out.later hb)
    have G52 : Hid (SlM v52 (fun b => b ≠ v1.heap.size) a52 [⟨2, 0, [⟨2, 0, [⟨1, 1, []⟩]⟩]⟩, ⟨3, 0, [⟨1, 0, []⟩, ⟨1, 0, []⟩]⟩]) := hs.mono fun b hb _ => hb.elim id (fun h => by have h1 := A51.out.lt; omega)
    have k52 : Below w4.heap.size w4 v52 := k51.trans (hb.mono k51.size)
    have A52 := hide (A51.out.below hb A51.out.lt)
    clear hb hs
    go_simp
    refine hK.out _ _ (by exact KB.out _ k52) (fun hHeld => ?_)
    clear hK K
    try simp only [Act.put, sq]
    refine rdq 8 rfl fun K hK => ?_
    go_simp
    go_at_call 7
    refine (appQ_any ⟨3, 0, [⟨2, 0, [⟨2, 0, [⟨1, 1, []⟩]⟩]⟩, ⟨3, 0, [⟨1, 0, []⟩, ⟨1, 0, []⟩]⟩]⟩ x _ _ v52 (fun b => b ≠ v1.heap.size) ⟨_, _, rfl, G52.out⟩ ⟨_, _, rfl, X52.out⟩).mono ?_
    rintro e v53 ⟨a53, c53, rfl, hs, hb⟩
    have H53 : Hid (SlM v53 (fun b => b ≠ v1.heap.size) a53 [⟨3, 0, [⟨2, 0, [⟨2, 0, [⟨1, 1, []⟩]⟩]⟩, ⟨3, 0, [⟨1, 0, []⟩, ⟨1, 0, []⟩]⟩]⟩, x]) := hs.mono fun b hb _ => hb.elim id (fun h => by have h1 := A52.out.lt; omega)
    have k53 : Below w4.heap.size w4 v53 := k52.trans (hb.mono k52.size)
    have A53 := hide (A52.out.below hb A52.out.lt)
    clear hb hs
    go_simp
    refine hK.out _ _ (by exact KB.out _ k53) (fun hHeld => ?_)
    clear hK K
    try simp only [Act.put, sq]
    refine rdq 9 rfl fun K hK => ?_
    go_simp
    go_at_call 6
    refine (funQ_any ⟨3, 0, [⟨3, 0, [⟨2, 0, [⟨2, 0, [⟨1, 1, []⟩]⟩]⟩, ⟨3, 0, [⟨1, 0, []⟩, ⟨1, 0, []⟩]⟩]⟩, x]⟩ _ v53 (fun b => b ≠ v1.heap.size) ⟨_, _, rfl, H53.out⟩).mono ?_
    rintro e v54 ⟨a54, c54, rfl, hs, hb⟩
    have E54 : Hid (SlM v54 (fun b => b ≠ v1.heap.size) a54 [⟨3, 0, [⟨3, 0, [⟨2, 0, [⟨2, 0, [⟨1, 1, []⟩]⟩]⟩, ⟨3, 0, [⟨1, 0, []⟩, ⟨1, 0, []⟩]⟩]⟩, x]⟩]) := hs.mono fun b hb _ => hb.elim id (fun h => by have h1 := A53.out.lt; omega)
    have k54 : Below w4.heap.size w4 v54 := k53.trans (hb.mono k53.size)
    have A54 := hide (A53.out.below hb A53.out.lt)
    clear hb hs
    go_simp
    refine hK.out _ _ (by exact KB.out _ k54) (fun hHeld => ?_)
    clear hK K
    try simp only [Act.put, sq]
    have b0 := A54.out.cell 0
    have b1 := A54.out.cell 1
    have b2 := A54.out.cell 2
    have z0 := A54.out.frozen 0
    have z1 := A54.out.frozen 1
    have z2 := A54.out.frozen 2
    simp only [List.getElem?_toArray, List.getElem?_cons_zero, List.getElem?_cons_succ] at b0 b1 b2
    have neP : PX ≠ v1.heap.size := fun e => by have h1 := ltP.out; have h2 := g46.out; omega
    have HX : Blk (((v54.setCell ⟨v1.heap.size, 0, none⟩ (.int .i64 2)).setCell ⟨v1.heap.size, 1, none⟩ (.int .i64 0)).setCell ⟨v1.heap.size, 2, none⟩ (.slice a54 1 c54)) PX #[.int .i64 x.kind, .int .i64 x.idx, .slice ax x.subs.length cx] 25 := (((KB.out _ k54).setOther 0 _ neP).setOther 1 _ neP).setOther 2 _ neP
    have FIN : Hid (RgS x w4 (.pointer (some ⟨v1.heap.size, 0, none⟩)) (((v54.setCell ⟨v1.heap.size, 0, none⟩ (.int .i64 2)).setCell ⟨v1.heap.size, 1, none⟩ (.int .i64 0)).setCell ⟨v1.heap.size, 2, none⟩ (.slice a54 1 c54))) := ⟨v1.heap.size, a54, c54, rfl, ((A54.out.set 0 _).set 1 _).set 2 _, (E54.out.kept fun b hb => by rw [Below.heap_setCell _ _ _ _ (by simpa using hb), Below.heap_setCell _ _ _ _ (by simpa using hb), Below.heap_setCell _ _ _ _ (by simpa using hb)]).mono fun _ _ _ => trivial, belSetI (belSetI (belSetI k54 g46.out 0 _) g46.out 1 _) g46.out 2 _⟩
    refine rdq 11 rfl fun K hK => ?_
    go_simp
    refine hK.out _ _ (by exact HX) (fun hHeld => ?_)
    clear hK K
    try simp only [Act.put, sq]
    refine wpAnyH_done (by kernel_rfl) ?_ _
    clear b0 b1 b2 z0 z1 z2
    go_wp2_with fail
    go_meet
    exact FIN.out
  ·go_simp
   have o55 : Hid (Below w4.heap.size w4 ((w4.alloc (.cells #[.int .i64 0, .int .i64 0, .slice none 0 0] 25)).drew)) := ((Below.refl _ _).alloc (Nat.le_refl _) _).drew
   have k55 : Below w4.heap.size w4 ((w4.alloc (.cells #[.int .i64 0, .int .i64 0, .slice none 0 0] 25)).drew) := o55.out
   have A55 : Hid (Blk ((w4.alloc (.cells #[.int .i64 0, .int .i64 0, .slice none 0 0] 25)).drew) w4.heap.size #[.int .i64 0, .int .i64 0, .slice none 0 0] 25) := Blk.new _ _ _
   have g55 : Hid (w4.heap.size ≤ w4.heap.size) := Nat.le_refl _
   have X55 : Hid (SlM ((w4.alloc (.cells #[.int .i64 0, .int .i64 0, .slice none 0 0] 25)).drew) (fun b => b ≠ w4.heap.size) _ x.subs) := (S4.out.mono (Y := (fun b => b ≠ w4.heap.size)) fun b _ hlt => by omega).later o55.out
   refine hK.out _ _ (by exact KB.out _ k55) (fun hHeld => ?_)
   clear hK K
   try simp only [Act.put, sq]
   generalize ((w4.alloc (.cells #[.int .i64 0, .int .i64 0, .slice none 0 0] 25)).drew) = v55 at *
   refine rdq 0 rfl fun K hK => ?_
   go_simp
   go_at_call 8
   refine (varQ_any 1 v55).mono ?_
   rintro e v56 ⟨rfl, hb⟩
   have X56 := hide (X55.out.later hb)
   have k56 : Below w4.heap.size w4 v56 := k55.trans (hb.mono k55.size)
   have A56 := hide (A55.out.below hb A55.out.lt)
   clear hb
   go_simp
   refine hK.out _ _ (by exact KB.out _ k56) (fun hHeld => ?_)
   clear hK K
   try simp only [Act.put, sq]
   refine rdq 1 rfl fun K hK => ?_
   go_simp
   go_at_call 6
   refine (funQ_any ⟨1, 1, []⟩ _ v56 (fun b => b ≠ w4.heap.size) ⟨none, 0, rfl, by simp, Or.inl rfl⟩).mono ?_
   rintro e v57 ⟨a57, c57, rfl, hs, hb⟩
   have X57 := hide (X56.out.later hb)
   have F157 : Hid (SlM v57 (fun b => b ≠ w4.heap.size) a57 [⟨1, 1, []⟩]) := hs.mono fun b hb _ => hb.elim id (fun h => by have h1 := A56.out.lt; omega)
   have k57 : Below w4.heap.size w4 v57 := k56.trans (hb.mono k56.size)
   have A57 := hide (A56.out.below hb A56.out.lt)
   clear hb hs
   go_simp
   refine hK.out _ _ (by exact KB.out _ k57) (fun hHeld => ?_)
   clear hK K
   try simp only [Act.put, sq]
   refine rdq 2 rfl fun K hK => ?_
   go_simp
   go_at_call 6
   refine (funQ_any ⟨2, 0, [⟨1, 1, []⟩]⟩ _ v57 (fun b => b ≠ w4.heap.size) ⟨_, _, rfl, F157.out⟩).mono ?_
   rintro e v58 ⟨a58, c58, rfl, hs, hb⟩
   have X58 := hide (X57.out.later hb)
   have K58 : Hid (SlM v58 (fun b => b ≠ w4.heap.size) a58 [⟨2, 0, [⟨1, 1, []⟩]⟩]) := hs.mono fun b hb _ => hb.elim id (fun h => by have h1 := A57.out.lt; omega)
   have k58 : Below w4.heap.size w4 v58 := k57.trans (hb.mono k57.size)
   have A58 := hide (A57.out.below hb A57.out.lt)
   clear hb hs
   go_simp
   refine hK.out _ _ (by exact KB.out _ k58) (fun hHeld => ?_)
   clear hK K
   try simp only [Act.put, sq]
   refine rdq 3 rfl fun K hK => ?_
   go_simp
   go_at_call 8
   refine (varQ_any 0 v58).mono ?_
   rintro e v59 ⟨rfl, hb⟩
   have X59 := hide (X58.out.later hb)
   have K59 := hide (K58.out.later hb)
   have k59 : Below w4.heap.size w4 v59 := k58.trans (hb.mono k58.size)
   have A59 := hide (A58.out.below hb A58.out.lt)
   clear hb
   go_simp
   refine hK.out _ _ (by exact KB.out _ k59) (fun hHeld => ?_)
   clear hK K
   try simp only [Act.put, sq]
   refine rdq 4 rfl fun K hK => ?_
   go_simp
   go_at_call 8
   refine (varQ_any 0 v59).mono ?_
   rintro e v60 ⟨rfl, hb⟩
   have X60 := hide (X59.out.later hb)
   have K60 := hide (K59.out.later hb)
   have k60 : Below w4.heap.size w4 v60 := k59.trans (hb.mono k59.size)
   have A60 := hide (A59.out.below hb A59.out.lt)
   clear hb
   go_simp
   refine hK.out _ _ (by exact KB.out _ k60) (fun hHeld => ?_)
   clear hK K
   try simp only [Act.put, sq]
   refine rdq 5 rfl fun K hK => ?_
   go_simp
   go_at_call 7
   refine (appQ_any ⟨1, 0, []⟩ ⟨1, 0, []⟩ _ _ v60 (fun b => b ≠ w4.heap.size) ⟨none, 0, rfl, by simp, Or.inl rfl⟩ ⟨none, 0, rfl, by simp, Or.inl rfl⟩).mono ?_
   rintro e v61 ⟨a61, c61, rfl, hs, hb⟩
   have X61 := hide (X60.out.later hb)
   have K61 := hide (K60.out.later hb)
   have SS61 : Hid (SlM v61 (fun b => b ≠ w4.heap.size) a61 [⟨1, 0, []⟩, ⟨1, 0, []⟩]) := hs.mono fun b hb _ => hb.elim id (fun h => by have h1 := A60.out.lt; omega)
   have k61 : Below w4.heap.size w4 v61 := k60.trans (hb.mono k60.size)
   have A61 := hide (A60.out.below hb A60.out.lt)
   clear hb hs
   go_simp
   refine hK.out _ _ (by exact KB.out _ k61) (fun hHeld => ?_)
   clear hK K
   try simp only [Act.put, sq]
   refine rdq 6 rfl fun K hK => ?_
   go_simp
   go_at_call 7
   refine (appQ_any ⟨2, 0, [⟨2, 0, [⟨1, 1, []⟩]⟩]⟩ ⟨3, 0, [⟨1, 0, []⟩, ⟨1, 0, []⟩]⟩ _ _ v61 (fun b => b ≠ w4.heap.size) ⟨_, _, rfl, K61.out⟩ ⟨_, _, rfl, SS61.out⟩).mono ?_
   rintro e v62 ⟨a62, c62, rfl, hs, hb⟩
   have X62 := hide (X61.out.later hb)
   have G62 : Hid (SlM v62 (fun b => b ≠ w4.heap.size) a62 [⟨2, 0, [⟨2, 0, [⟨1, 1, []⟩]⟩]⟩, ⟨3, 0, [⟨1, 0, []⟩, ⟨1, 0, []⟩]⟩]) := hs.mono fun b hb _ => hb.elim id (fun h => by have h1 := A61.out.lt; omega)
   have k62 : Below w4.heap.size w4 v62 := k61.trans (hb.mono k61.size)
   have A62 := hide (A61.out.below hb A61.out.lt)
   clear hb hs
   go_simp
   refine hK.out _ _ (by exact KB.out _ k62) (fun hHeld => ?_)
   clear hK K
   try simp only [Act.put, sq]
   refine rdq 8 rfl fun K hK => ?_
   go_simp
   go_at_call 7
   refine (appQ_any ⟨3, 0, [⟨2, 0, [⟨2, 0, [⟨1, 1, []⟩]⟩]⟩, ⟨3, 0, [⟨1, 0, []⟩, ⟨1, 0, []⟩]⟩]⟩ x _ _ v62 (fun b => b ≠ w4.heap.size) ⟨_, _, rfl, G62.out⟩ ⟨_, _, rfl, X62.out⟩).mono ?_
   rintro e v63 ⟨a63, c63, rfl, hs, hb⟩
   have H63 : Hid (SlM v63 (fun b => b ≠ w4.heap.size) a63 [⟨3, 0, [⟨2, 0, [⟨2, 0, [⟨1, 1, []⟩]⟩]⟩, ⟨3, 0, [⟨1, 0, []⟩, ⟨1, 0, []⟩]⟩]⟩, x]) := hs.mono fun b hb _ => hb.elim id (fun h => by have h1 := A62.out.lt; omega)
   have k63 : Below w4.heap.size w4 v63 := k62.trans (hb.mono k62.size)
   have A63 := hide (A62.out.below hb A62.out.lt)
   clear hb hs
   go_simp
   refine hK.out _ _ (by exact KB.out _ k63) (fun hHeld => ?_)
   clear hK K
   try simp only [Act.put, sq]
   refine rdq 9 rfl fun K hK => ?_
   go_simp
   go_at_call 6
   refine (funQ_any ⟨3, 0, [⟨3, 0, [⟨2, 0, [⟨2, 0, [⟨1, 1, []⟩]⟩]⟩, ⟨3, 0, [⟨1, 0, []⟩, ⟨1, 0, []⟩]⟩]⟩, x]⟩ _ v63 (fun b => b ≠ w4.heap.size) ⟨_, _, rfl, H63.out⟩).mono ?_
   rintro e v64 ⟨a64, c64, rfl, hs, hb⟩
   have E64 : Hid (SlM v64 (fun b => b ≠ w4.heap.size) a64 [⟨3, 0, [⟨3, 0, [⟨2, 0, [⟨2, 0, [⟨1, 1, []⟩]⟩]⟩, ⟨3, 0, [⟨1, 0, []⟩, ⟨1, 0, []⟩]⟩]⟩, x]⟩]) := hs.mono fun b hb _ => hb.elim id (fun h => by have h1 := A63.out.lt; omega)
   have k64 : Below w4.heap.size w4 v64 := k63.trans (hb.mono k63.size)
   have A64 := hide (A63.out.below hb A63.out.lt)
   clear hb hs
   go_simp
   refine hK.out _ _ (by exact KB.out _ k64) (fun hHeld => ?_)
   clear hK K
   try simp only [Act.put, sq]
   have b0 := A64.out.cell 0
   have b1 := A64.out.cell 1
   have b2 := A64.out.cell 2
   have z0 := A64.out.frozen 0
   have z1 := A64.out.frozen 1
   have z2 := A64.out.frozen 2
   simp only [List.getElem?_toArray, List.getElem?_cons_zero, List.getElem?_cons_succ] at b0 b1 b2
   have neP : PX ≠ w4.heap.size := fun e => by have h1 := ltP.out; have h2 := g55.out; omega
   have HX : Blk (((v64.setCell ⟨w4.heap.size, 0, none⟩ (.int .i64 2)).setCell ⟨w4.heap.size, 1, none⟩ (.int .i64 0)).setCell ⟨w4.heap.size, 2, none⟩ (.slice a64 1 c64)) PX #[.int .i64 x.kind, .int .i64 x.idx, .slice ax x.subs.length cx] 25 := (((KB.out _ k64).setOther 0 _ neP).setOther 1 _ neP).setOther 2 _ neP
   have FIN : Hid (RgS x w4 (.pointer (some ⟨w4.heap.size, 0, none⟩)) (((v64.setCell ⟨w4.heap.size, 0, none⟩ (.int .i64 2)).setCell ⟨w4.heap.size, 1, none⟩ (.int .i64 0)).setCell ⟨w4.heap.size, 2, none⟩ (.slice a64 1 c64))) := ⟨w4.heap.size, a64, c64, rfl, ((A64.out.set 0 _).set 1 _).set 2 _, (E64.out.kept fun b hb => by rw [Below.heap_setCell _ _ _ _ (by simpa using hb), Below.heap_setCell _ _ _ _ (by simpa using hb), Below.heap_setCell _ _ _ _ (by simpa using hb)]).mono fun _ _ _ => trivial, belSetI (belSetI (belSetI k64 g55.out 0 _) g55.out 1 _) g55.out 2 _⟩
   refine rdq 11 rfl fun K hK => ?_
   go_simp
   refine hK.out _ _ (by exact HX) (fun hHeld => ?_)
   clear hK K
   try simp only [Act.put, sq]
   refine wpAnyH_done (by kernel_rfl) ?_ _
   clear b0 b1 b2 z0 z1 z2
   go_wp2_with fail
   go_meet
   exact FIN.out
 case rest =>
  obtain ⟨A, a9, c9, rfl, hA9, hs9, hb9⟩ := hcut
  rename World => w9
  have B9 := hide (B4.out.trans (hb9.mono B4.out.size))
  have S9 := hide hs9
  obtain ⟨hp, ho⟩ := slf_out HE.out HC.out HZ.out
  have HP := hide hp
  have HO := hide ho
  have HSZ : Hid (sizeM [slfT x] ≤ 60) := by have := HZ.out; unfold Hid; rw [slf_size]; omega
  have a0 := hA9.c0
  have a1 := hA9.c1
  have a2 : w9.cell? ⟨A, 2, none⟩ = some (.slice a9 1 c9) := hA9.cell 2
  clear hs9 hb9 hA9 hp ho KB K4 S4 B4
  go_wp2_with fail
  refine (principal_any (B := B) (t := slfT x) (fun _ => HSZ.out) (6, []) 1 (fun _ => slf_run x) _ w9 (fun _ => True) ⟨a9, c9, rfl, S9.out⟩ (Nat.le_trans hB B9.out.size) (HT.out.on (B9.out.mono hB))).mono ?_
  rintro e w10 ⟨a10, c10, rfl, hs10, hb10⟩
  rw [HO.out]
  rw [HO.out] at hs10
  have B10 := hide (B9.out.trans (hb10.mono B9.out.size))
  clear hs10 hb10 a0 a1 a2
  go_upto_region 6 with fail
  have B11 : Hid (Below w.heap.size w (w10.alloc (.cells #[.int .i64 noY.base, .slice a10 noY.subs.length c10] 33))) := B10.out.alloc B10.out.size _
  generalize w10.alloc (.cells #[.int .i64 noY.base, .slice a10 noY.subs.length c10] 33) = w11 at *
  go_wp2_with fail
  refine (varQ_any 0 _).mono ?_
  rintro e w12 ⟨rfl, hb12⟩
  have B12 := hide (B11.out.trans (hb12.mono B11.out.size))
  clear hb12
  go_wp2_with fail
  refine (funQ_any ⟨1, 0, []⟩ _ w12 (fun _ => True) ⟨none, 0, rfl, by simp, Or.inl rfl⟩).mono ?_
  rintro e w13 ⟨a13, c13, rfl, hs13, hb13⟩
  have B13 := hide (B12.out.trans (hb13.mono B12.out.size))
  have S13 : Hid (SlM w13 (fun _ => True) a13 [⟨1, 0, []⟩]) := hs13.mono fun _ _ _ => trivial
  clear hb13 hs13
  go_wp2_with fail
  refine (principal_any (B := B) (t := idT) (fun _ => by simp [idT, sizeM]) (0, []) 1 (fun _ => id_run) _ w13 (fun _ => True) ⟨a13, c13, rfl, S13.out⟩ (Nat.le_trans hB B13.out.size) (HT.out.on (B13.out.mono hB))).mono ?_
  rintro e w14 ⟨a14, c14, rfl, hs14, hb14⟩
  rw [id_out.2]
  rw [id_out.2] at hs14
  have B14 := hide (B13.out.trans (hb14.mono B13.out.size))
  have O15 : Hid (Below w14.heap.size w14 (w14.alloc (.cells #[.int .i64 a0a0.base, .slice a14 a0a0.subs.length c14] 33))) := (Below.refl _ _).alloc (Nat.le_refl _) _
  have B15 : Hid (Below w.heap.size w (w14.alloc (.cells #[.int .i64 a0a0.base, .slice a14 a0a0.subs.length c14] 33))) := B14.out.alloc B14.out.size _
  have S15 := hide (hs14.later O15.out)
  have K15 : Hid (Blk (w14.alloc (.cells #[.int .i64 a0a0.base, .slice a14 a0a0.subs.length c14] 33)) w14.heap.size #[.int .i64 a0a0.base, .slice a14 a0a0.subs.length c14] 33) := Blk.new _ _ _
  clear hs14 hb14 O15
  go_upto_region 7 with fail
  generalize w14.heap.size = PI at *
  generalize w14.alloc (.cells #[.int .i64 a0a0.base, .slice a14 a0a0.subs.length c14] 33) = w15 at *
  have i0 := K15.out.c0
  have i1 := K15.out.c1
  go_wp2_with fail
  refine (iText_any (B := B) a0a0 _ w15 _ ⟨a14, c14, rfl, S15.out⟩ (Nat.le_trans hB B15.out.size) (HT.out.on (B15.out.mono hB))).mono ?_
  rintro e w16 ⟨rfl, hb16⟩
  rw [a0_may, if_pos rfl, a0_text]
  have B16 := hide (B15.out.trans (hb16.mono B15.out.size))
  clear hb16 i0 i1
  go_wp2_with fail
  go_ret
  exact ⟨rfl, B16.out⟩
end Go.Proofs.YtkpkjbfnpocdgaaGreatDoor
