/- Several texts in one. -/
import Derived.Test.YtofebfjkodceeaaAu10
import Derived.Test.YtofebfjkodceeaaZUAutoMadeOwn
namespace Go.Proofs.Ytofebfjkodceeaa
open Go.RowKit
set_option linter.unusedSimpArgs false
set_option linter.unusedVariables false
set_option maxRecDepth 8000
set_option maxHeartbeats 2000000 in
theorem both_any (A B : Au) (va vb : Value) (w : World) (X : Nat → Prop) (hva : AV w X va A) (hvb : AV w X vb B) :
  Calls Try.prog 24 #[va, vb] w fun e w' => MkE (eachE A B) (prA A B) w e w' := by
 obtain ⟨am, cm, al, cl, rfl, ham, hal⟩ := hva
 obtain ⟨bm, dm, bl, dl, rfl, hbm, hbl⟩ := hvb
 have HVA : Hid (AV w X (.agg #[.int .i64 A.st, .slice am A.mv.length cm, .slice al A.la.length cl]) A) := ⟨am, cm, al, cl, rfl, ham, hal⟩
 have HVB : Hid (AV w X (.agg #[.int .i64 B.st, .slice bm B.mv.length dm, .slice bl B.la.length dl]) B) := ⟨bm, dm, bl, dl, rfl, hbm, hbl⟩
 clear ham hal hbm hbl
 generalize hW : (((w.alloc (.cells #[.int .i64 A.st, .slice am A.mv.length cm, .slice al A.la.length cl] 25)).alloc (.cells #[.int .i64 B.st, .slice bm B.mv.length dm, .slice bl B.la.length dl] 25)).alloc (.cells #[.int .i64 0, .slice none 0 0, .slice none 0 0] 25)) = w3
 have hz3 : w3.heap.size = w.heap.size + 3 := by rw [← hW]; simp
 have B3 : Hid (Below w.heap.size w w3) := by unfold Hid; rw [← hW]; exact (((Below.refl _ _).alloc (Nat.le_refl _) _).alloc (by simp) _).alloc (by simp; omega) _
 have A3 : Hid (Blk w3 w.heap.size #[.int .i64 A.st, .slice am A.mv.length cm, .slice al A.la.length cl] 25) := by unfold Hid; rw [← hW]; exact ((Blk.new w _ _).alloc _).alloc _
 have C3 : Hid (Blk w3 (w.heap.size + 1) #[.int .i64 B.st, .slice bm B.mv.length dm, .slice bl B.la.length dl] 25) := by
  unfold Hid; rw [← hW]
  have h := (Blk.new (w.alloc (.cells #[.int .i64 A.st, .slice am A.mv.length cm, .slice al A.la.length cl] 25)) #[.int .i64 B.st, .slice bm B.mv.length dm, .slice bl B.la.length dl] 25).alloc (.cells #[.int .i64 0, .slice none 0 0, .slice none 0 0] 25)
  rw [World.size_alloc] at h
  exact h
 have R3 : Hid (Blk w3 (w.heap.size + 1 + 1) #[.int .i64 0, .slice none 0 0, .slice none 0 0] 25) := by
  unfold Hid; rw [← hW]
  have h := Blk.new ((w.alloc (.cells #[.int .i64 A.st, .slice am A.mv.length cm, .slice al A.la.length cl] 25)).alloc (.cells #[.int .i64 B.st, .slice bm B.mv.length dm, .slice bl B.la.length dl] 25)) #[.int .i64 0, .slice none 0 0, .slice none 0 0] 25
  rw [World.size_alloc, World.size_alloc] at h
  exact h
 have HW := hide hW
 have HZ3 := hide hz3
 clear hW hz3
 generalize hE : eachE A B = E
 have HE := hide hE
 clear hE
 go_enter Try.func24, Try.ntmps24
 go_upto_region 1 with fail
 rw [HW.out]
 have HNE : Hid (w.heap.size < w.heap.size + 1 ∧ w.heap.size + 1 < w.heap.size + 1 + 1 ∧ w.heap.size + 1 + 1 < w3.heap.size) := by have := HZ3.out; unfold Hid; omega
 clear HZ3 HW
 generalize w.heap.size + 1 + 1 = R at *
 generalize w.heap.size + 1 = Q at *
 have a0 : w3.cell? ⟨w.heap.size, 0, none⟩ = some (.int .i64 A.st) := A3.out.cell 0
 have a1 : w3.cell? ⟨w.heap.size, 1, none⟩ = some (.slice am A.mv.length cm) := A3.out.cell 1
 have a2 : w3.cell? ⟨w.heap.size, 2, none⟩ = some (.slice al A.la.length cl) := A3.out.cell 2
 have al4 := A3.out.lt
 have b0 : w3.cell? ⟨Q, 0, none⟩ = some (.int .i64 B.st) := C3.out.cell 0
 have b1 : w3.cell? ⟨Q, 1, none⟩ = some (.slice bm B.mv.length dm) := C3.out.cell 1
 have b2 : w3.cell? ⟨Q, 2, none⟩ = some (.slice bl B.la.length dl) := C3.out.cell 2
 have bl4 := C3.out.lt
 have K4 : Hid (Below w3.heap.size w3 (w3.alloc (.cells #[.int .i64 A.st, .slice am A.mv.length cm, .slice al A.la.length cl, .int .i64 B.st, .slice bm B.mv.length dm, .slice bl B.la.length dl] 25))) := (Below.refl _ _).alloc (Nat.le_refl _) _
 have VA4 := hide ((HVA.out.later B3.out).later K4.out)
 have VB4 := hide ((HVB.out.later B3.out).later K4.out)
 go_wp2_with fail
 refine (checkEach_any A B am bm al bl cm dm cl dl _ _ X (by exact VA4.out) (by exact VB4.out) (by exact Blk.new w3 _ _)).mono ?_
 rintro e w5 ⟨rfl, hb5⟩
 have K5 := hide (K4.out.trans (hb5.mono K4.out.size))
 have B5 := hide (B3.out.trans (K5.out.mono B3.out.size))
 have A5 := hide (A3.out.below K5.out A3.out.lt)
 have C5 := hide (C3.out.below K5.out C3.out.lt)
 have R5 := hide (R3.out.below K5.out R3.out.lt)
 rw [HE.out]
 clear hb5 a0 a1 a2 al4 b0 b1 b2 bl4 VA4 VB4
 have r0 : w5.cell? ⟨R, 0, none⟩ = some (.int .i64 0) := R5.out.cell 0
 have r1 : w5.cell? ⟨R, 1, none⟩ = some (.slice none 0 0) := R5.out.cell 1
 have r2 : w5.cell? ⟨R, 2, none⟩ = some (.slice none 0 0) := R5.out.cell 2
 have rl := R5.out.lt
 have rf := R5.out.frozen
 by_cases h0 : E = 0
 ·have HA : Hid (OkAu 8 40 A ∧ OkAu 8 40 B) := by
   have h1 := HE.out
   unfold eachE at h1
   by_cases h2 : auE 8 40 A = 0
   ·rw [if_pos h2] at h1
    exact ⟨auE_zero.1 h2, auE_zero.1 (by rw [h1, h0])⟩
   ·rw [if_neg h2] at h1
    exact absurd (by rw [h1, h0]) h2
  have H0 := hide h0
  rw [h0]
  clear h0 r0 r1 r2 rl rf
  have a0 : w5.cell? ⟨w.heap.size, 0, none⟩ = some (.int .i64 A.st) := A5.out.cell 0
  have a1 : w5.cell? ⟨w.heap.size, 1, none⟩ = some (.slice am A.mv.length cm) := A5.out.cell 1
  have a2 : w5.cell? ⟨w.heap.size, 2, none⟩ = some (.slice al A.la.length cl) := A5.out.cell 2
  have al4 := A5.out.lt
  have b0 : w5.cell? ⟨Q, 0, none⟩ = some (.int .i64 B.st) := C5.out.cell 0
  have b1 : w5.cell? ⟨Q, 1, none⟩ = some (.slice bm B.mv.length dm) := C5.out.cell 1
  have b2 : w5.cell? ⟨Q, 2, none⟩ = some (.slice bl B.la.length dl) := C5.out.cell 2
  have bl4 := C5.out.lt
  have VA5 := hide (HVA.out.later B5.out)
  have VB5 := hide (HVB.out.later B5.out)
  go_wp2_with fail
  refine (product_any A B HA.out.1 HA.out.2 _ _ _ X (by exact VA5.out) (by exact VB5.out)).mono ?_
  rintro e w6 ⟨xm, ym, xl, yl, rfl, hsm, hsl, hb6⟩
  have R6 := hide (R5.out.below hb6 R5.out.lt)
  have HSM := hide hsm
  have HSL := hide hsl
  have B6 := hide (B5.out.trans (hb6.mono B5.out.size))
  have HS6 := hide hb6.size
  have HS5 : Hid (R < w5.heap.size) := R5.out.lt
  generalize hn0 : (prA A B).st = n0 at *
  generalize hn1 : (prA A B).mv.length = n1 at *
  generalize hn2 : (prA A B).la.length = n2 at *
  have HN0 := hide hn0
  have HN1 := hide hn1
  have HN2 := hide hn2
  clear hn0 hn1 hn2 hsm hsl hb6 a0 a1 a2 al4 b0 b1 b2 bl4
  have r0 : w6.cell? ⟨R, 0, none⟩ = some (.int .i64 0) := R6.out.cell 0
  have r1 : w6.cell? ⟨R, 1, none⟩ = some (.slice none 0 0) := R6.out.cell 1
  have r2 : w6.cell? ⟨R, 2, none⟩ = some (.slice none 0 0) := R6.out.cell 2
  have rl := R6.out.lt
  have rf := R6.out.frozen
  go_wp2_with fail
  refine bodyPost_ret (v := .tuple #[.agg #[.int .i64 n0, .slice xm n1 ym, .slice xl n2 yl], .int .i64 0]) (by simp [results, Try.results24, go_sem, World.cell?_setCell_same, World.cell?_setCell_other, r0, r1, r2]) rfl ?_
  have hex := set3_ex (w := w6) R (.int .i64 n0) (.slice xm n1 ym) (.slice xl n2 yl)
  refine ⟨?_, Or.inl ⟨H0.out, xm, ym, xl, yl, by rw [HN0.out, HN1.out, HN2.out], ?_, ?_⟩⟩
  ·exact ((B6.out.setCell (by have := HNE.out; simp; omega) _).setCell (by have := HNE.out; simp; omega) _).setCell (by have := HNE.out; simp; omega) _
  ·exact (HSM.out.ex hex (fun b hb => by have := HS5.out; omega)).mono fun _ _ _ => trivial
  ·rw [HN2.out]
   exact (HSL.out.ex hex (fun b hb => by have := HS5.out; omega)).mono fun _ _ _ => trivial
 ·have hne : (E == 0) = false := by simpa using h0
  have hne2 : (E != 0) = true := by simpa using h0
  have H0 := hide h0
  clear h0
  go_wp2_with fail
  refine bodyPost_ret (v := .tuple #[.agg #[.int .i64 0, .slice none 0 0, .slice none 0 0], .int .i64 E]) (by simp [results, Try.results24, go_sem, World.cell?_setCell_same, World.cell?_setCell_other, r0, r1, r2]) rfl ?_
  exact ⟨((B5.out.setCell (by have := HNE.out; simp; omega) _).setCell (by have := HNE.out; simp; omega) _).setCell (by have := HNE.out; simp; omega) _, Or.inr ⟨H0.out, rfl⟩⟩
def BxA (w : World) (P : Nat) (A : Au) (am al : Option Addr) (cm cl : Nat) : Prop := Blk w P #[.int .i64 A.st, .slice am A.mv.length cm, .slice al A.la.length cl] 25 ∧ AV w (fun _ => True) (.agg #[.int .i64 A.st, .slice am A.mv.length cm, .slice al A.la.length cl]) A
theorem BxA.later {w w' : World} {P : Nat} {A : Au} {am al : Option Addr} {cm cl : Nat} (h : BxA w P A am al cm cl) (hb : Below w.heap.size w w') : BxA w' P A am al cm cl := ⟨h.1.below hb h.1.lt, h.2.later hb⟩
theorem BxA.cs {w : World} {P : Nat} {A : Au} {am al : Option Addr} {cm cl : Nat} (h : BxA w P A am al cm cl) : w.cell? ⟨P, 0, none⟩ = some (.int .i64 A.st) ∧ w.cell? ⟨P, 1, none⟩ = some (.slice am A.mv.length cm) ∧ w.cell? ⟨P, 2, none⟩ = some (.slice al A.la.length cl) ∧ P < w.heap.size := ⟨h.1.cell 0, h.1.cell 1, h.1.cell 2, h.1.lt⟩
def BxTp (w : World) (P : Nat) (t : Tm) (a : Option Addr) (c : Nat) : Prop := Blk w P #[.string t.name, .slice a t.args.length c] 30 ∧ TV w (fun _ => True) (.agg #[.string t.name, .slice a t.args.length c]) t
theorem BxTp.later {w w' : World} {P : Nat} {t : Tm} {a : Option Addr} {c : Nat} (h : BxTp w P t a c) (hb : Below w.heap.size w w') : BxTp w' P t a c := ⟨h.1.below hb h.1.lt, h.2.later hb⟩
theorem BxTp.cs {w : World} {P : Nat} {t : Tm} {a : Option Addr} {c : Nat} (h : BxTp w P t a c) : w.cell? ⟨P, 0, none⟩ = some (.string t.name) ∧ w.cell? ⟨P, 1, none⟩ = some (.slice a t.args.length c) ∧ P < w.heap.size := ⟨h.1.cell 0, h.1.cell 1, h.1.lt⟩
set_option maxHeartbeats 8000000 in
theorem autoPairs_any (A B : Au) (t : Tm) (va vb vt : Value) (w : World) (X : Nat → Prop) (hva : AV w X va A) (hvb : AV w X vb B) (hvt : TV w X vt t) :
  Calls Try.prog 8 #[va, vb, vt] w fun e w' => e = .returned (.bool true) ∧ Below w.heap.size w w' := by
 have hva' := hva.mono (Y := fun _ => True) fun _ _ _ => trivial
 have hvb' := hvb.mono (Y := fun _ => True) fun _ _ _ => trivial
 have hvt' := hvt.mono (Y := fun _ => True) fun _ _ _ => trivial
 obtain ⟨am, cm, al, cl, rfl, _, _⟩ := hva
 obtain ⟨bm, dm, bl, dl, rfl, _, _⟩ := hvb
 obtain ⟨at0, ct, rfl, _⟩ := hvt
 generalize hW : (((w.alloc (.cells #[.int .i64 A.st, .slice am A.mv.length cm, .slice al A.la.length cl] 25)).alloc (.cells #[.int .i64 B.st, .slice bm B.mv.length dm, .slice bl B.la.length dl] 25)).alloc (.cells #[.string t.name, .slice at0 t.args.length ct] 30)) = w3
 have K3 : Hid (Below w.heap.size w w3) := by unfold Hid; rw [← hW]; exact (((Below.refl _ _).alloc (Nat.le_refl _) _).alloc (by simp) _).alloc (by simp; omega) _
 have A3 : Hid (BxA w3 w.heap.size A am al cm cl) := ⟨by rw [← hW]; exact ((Blk.new w _ _).alloc _).alloc _, hva'.later K3.out⟩
 have B3 : Hid (BxA w3 (w.heap.size + 1) B bm bl dm dl) := ⟨by
  rw [← hW]
  have h := (Blk.new (w.alloc (.cells #[.int .i64 A.st, .slice am A.mv.length cm, .slice al A.la.length cl] 25)) #[.int .i64 B.st, .slice bm B.mv.length dm, .slice bl B.la.length dl] 25).alloc (.cells #[.string t.name, .slice at0 t.args.length ct] 30)
  rw [World.size_alloc] at h
  exact h, hvb'.later K3.out⟩
 have T3 : Hid (BxTp w3 (w.heap.size + 1 + 1) t at0 ct) := ⟨by
  rw [← hW]
  have h := Blk.new ((w.alloc (.cells #[.int .i64 A.st, .slice am A.mv.length cm, .slice al A.la.length cl] 25)).alloc (.cells #[.int .i64 B.st, .slice bm B.mv.length dm, .slice bl B.la.length dl] 25)) #[.string t.name, .slice at0 t.args.length ct] 30
  rw [World.size_alloc, World.size_alloc] at h
  exact h, hvt'.later K3.out⟩
 have HW := hide hW
 clear hW hva' hvb' hvt'
 go_enter Try.func8, Try.ntmps8
 go_upto_region 1 with fail
 rw [HW.out]
 clear HW
 generalize w.heap.size + 1 + 1 = PT at *
 generalize w.heap.size + 1 = PB at *
 generalize hPA : w.heap.size = PA at *
 rw [← hPA] at K3
 have HPA := hide hPA
 clear hPA
 obtain ⟨a0, a1, a2, a3⟩ := A3.out.cs
 go_wp2_with fail
 refine (hugeAuto_any A _ _ _ (by exact A3.out.2)).mono ?_
 rintro e w4 ⟨rfl, hb4⟩
 have K4 := hide (K3.out.trans (hb4.mono K3.out.size))
 have A4 := hide (A3.out.later hb4)
 have B4 := hide (B3.out.later hb4)
 have T4 := hide (T3.out.later hb4)
 clear hb4 a0 a1 a2 a3 A3 B3 T3 K3
 cases h1 : hugA A with
 | true =>
  clear h1
  go_wp2_with fail
  go_ret
  exact ⟨rfl, K4.out⟩
 | false =>
  clear h1
  obtain ⟨b0, b1, b2, b3⟩ := B4.out.cs
  go_wp2_with fail
  refine (hugeAuto_any B _ _ _ (by exact B4.out.2)).mono ?_
  rintro e w5 ⟨rfl, hb5⟩
  have K5 := hide (K4.out.trans (hb5.mono K4.out.size))
  have A5 := hide (A4.out.later hb5)
  have B5 := hide (B4.out.later hb5)
  have T5 := hide (T4.out.later hb5)
  clear hb5 b0 b1 b2 b3 A4 B4 T4 K4
  cases h2 : hugA B with
  | true =>
   clear h2
   go_wp2_with fail
   go_ret
   exact ⟨rfl, K5.out⟩
  | false =>
   clear h2
   obtain ⟨t0, t1, t2⟩ := T5.out.cs
   go_wp2_with fail
   refine (size_any t _ 100 _ _ T5.out.2 (by omega) (by omega)).mono ?_
   rintro e w6 ⟨rfl, hb6⟩
   have K6 := hide (K5.out.trans (hb6.mono K5.out.size))
   have A6 := hide (A5.out.later hb6)
   have B6 := hide (B5.out.later hb6)
   have T6 := hide (T5.out.later hb6)
   clear hb6 t0 t1 t2 A5 B5 T5 K5
   obtain ⟨z, hz⟩ : ∃ z : Int, z = min ((sizeL [t] : Nat) : Int) (100 + 1) := ⟨_, rfl⟩
   have HZ := hide hz
   rw [← hz]
   clear hz
   by_cases hzs : 100 < z
   ·go_wp2_with fail
    go_ret
    exact ⟨rfl, K6.out⟩
   have HSZ : Hid (sizeL [t] ≤ 200) := by have := HZ.out; unfold Hid; omega
   clear HZ
   obtain ⟨a0, a1, a2, a3⟩ := A6.out.cs
   go_wp2_with fail
   have CL := autoMay_any A 8 40 (by omega) (by omega) _ w6 _ A6.out.2
   refine CL.mono ?_
   clear CL
   rintro e w7 ⟨rfl, hb7⟩
   have K7 := hide (K6.out.trans (hb7.mono K6.out.size))
   have A7 := hide (A6.out.later hb7)
   have B7 := hide (B6.out.later hb7)
   have T7 := hide (T6.out.later hb7)
   clear hb7 a0 a1 a2 a3 A6 B6 T6 K6
   obtain ⟨E, hE⟩ : ∃ E, E = auE 8 40 A := ⟨_, rfl⟩
   rw [← hE]
   by_cases h0 : E = 0
   ·have HA0 : Hid (auE 8 40 A = 0) := by unfold Hid; rw [← hE, h0]
    clear hE
    subst h0
    obtain ⟨b0, b1, b2, b3⟩ := B7.out.cs
    go_wp2_with fail
    have CL := autoMay_any B 8 40 (by omega) (by omega) _ w7 _ B7.out.2
    refine CL.mono ?_
    clear CL
    rintro e w8 ⟨rfl, hb8⟩
    have K8 := hide (K7.out.trans (hb8.mono K7.out.size))
    have A8 := hide (A7.out.later hb8)
    have B8 := hide (B7.out.later hb8)
    have T8 := hide (T7.out.later hb8)
    clear hb8 b0 b1 b2 b3 A7 B7 T7 K7
    obtain ⟨E, hE⟩ : ∃ E, E = auE 8 40 B := ⟨_, rfl⟩
    have HEE : Hid (eachE A B = E) := by unfold Hid eachE; rw [if_pos HA0.out, hE]
    rw [← hE]
    by_cases h0 : E = 0
    ·have HOK : Hid (OkAu 8 40 A ∧ OkAu 8 40 B) := ⟨auE_zero.1 HA0.out, auE_zero.1 (by rw [← hE, h0])⟩
     clear hE
     subst h0
     obtain ⟨a0, a1, a2, a3⟩ := A8.out.cs
     obtain ⟨b0, b1, b2, b3⟩ := B8.out.cs
     go_wp2_with fail
     refine (both_any A B _ _ _ _ (by exact A8.out.2) (by exact B8.out.2)).mono ?_
     rintro e w11 ⟨hb11, h11⟩
     rcases h11 with ⟨_, xm, ym, xl, yl, rfl, hxm, hxl⟩ | ⟨h0, _⟩
     rotate_left
     ·exact absurd HEE.out h0
     have K11 := hide (K8.out.trans (hb11.mono K8.out.size))
     have KX : Hid (Below w11.heap.size w11 (w11.alloc (.cells #[.int .i64 (prA A B).st, .slice xm (prA A B).mv.length ym, .slice xl (prA A B).la.length yl] 25))) := (Below.refl _ _).alloc (Nat.le_refl _) _
     have X12 : Hid (BxA (w11.alloc (.cells #[.int .i64 (prA A B).st, .slice xm (prA A B).mv.length ym, .slice xl (prA A B).la.length yl] 25)) w11.heap.size (prA A B) xm xl ym yl) := ⟨Blk.new w11 _ _, AV.later ⟨xm, ym, xl, yl, rfl, hxm, hxl⟩ KX.out⟩
     have K12 : Hid (Below w.heap.size w (w11.alloc (.cells #[.int .i64 (prA A B).st, .slice xm (prA A B).mv.length ym, .slice xl (prA A B).la.length yl] 25))) := K11.out.alloc K11.out.size _
     have A12 := hide ((A8.out.later hb11).later KX.out)
     have B12 := hide ((B8.out.later hb11).later KX.out)
     have T12 := hide ((T8.out.later hb11).later KX.out)
     clear hb11 hxm hxl a0 a1 a2 a3 b0 b1 b2 b3
     go_upto_region 7 with fail
     generalize (w11.alloc (.cells #[.int .i64 (prA A B).st, .slice xm (prA A B).mv.length ym, .slice xl (prA A B).la.length yl] 25)) = w12 at *
     generalize w11.heap.size = PX at *
     obtain ⟨a0, a1, a2, a3⟩ := A12.out.cs
     obtain ⟨b0, b1, b2, b3⟩ := B12.out.cs
     go_wp2_with fail
     refine (either_any A B _ _ _ _ (by exact A12.out.2) (by exact B12.out.2)).mono ?_
     rintro e w13 ⟨hb13, h13⟩
     rcases h13 with ⟨_, um, vm, ul, vl, rfl, hum, hul⟩ | ⟨h0, _⟩
     rotate_left
     ·exact absurd HEE.out h0
     have K13 := hide (K12.out.trans (hb13.mono K12.out.size))
     have KY : Hid (Below w13.heap.size w13 (w13.alloc (.cells #[.int .i64 (smA A B).st, .slice um (smA A B).mv.length vm, .slice ul (smA A B).la.length vl] 25))) := (Below.refl _ _).alloc (Nat.le_refl _) _
     have Y14 : Hid (BxA (w13.alloc (.cells #[.int .i64 (smA A B).st, .slice um (smA A B).mv.length vm, .slice ul (smA A B).la.length vl] 25)) w13.heap.size (smA A B) um ul vm vl) := ⟨Blk.new w13 _ _, AV.later ⟨um, vm, ul, vl, rfl, hum, hul⟩ KY.out⟩
     have X14 := hide ((X12.out.later hb13).later KY.out)
     have A14 := hide ((A12.out.later hb13).later KY.out)
     have B14 := hide ((B12.out.later hb13).later KY.out)
     have T14 := hide ((T12.out.later hb13).later KY.out)
     have K14 : Hid (Below w.heap.size w (w13.alloc (.cells #[.int .i64 (smA A B).st, .slice um (smA A B).mv.length vm, .slice ul (smA A B).la.length vl] 25))) := K13.out.alloc K13.out.size _
     clear hb13 hum hul a0 a1 a2 a3 b0 b1 b2 b3
     go_upto_region 8 with fail
     generalize (w13.alloc (.cells #[.int .i64 (smA A B).st, .slice um (smA A B).mv.length vm, .slice ul (smA A B).la.length vl] 25)) = w14 at *
     generalize w13.heap.size = PY at *
     have HPX := hide (ok_pr HOK.out.1 HOK.out.2)
     have HPY := hide (ok_sm HOK.out.1 HOK.out.2)
     have HAX := hide (acc_pr HOK.out.1 HOK.out.2 t)
     have HAY := hide (acc_sm HOK.out.1 HOK.out.2 t)
     obtain ⟨x, hx⟩ : ∃ x, x = prA A B := ⟨_, rfl⟩
     obtain ⟨y, hy⟩ : ∃ y, y = smA A B := ⟨_, rfl⟩
     rw [← hx] at X14 HPX HAX ⊢
     rw [← hy] at Y14 HPY HAY ⊢
     clear hx hy
     have HX0 : Hid (auE 64 1600 x = 0) := auE_zero.2 HPX.out.1
     have HY0 : Hid (auE 64 1600 y = 0) := auE_zero.2 HPY.out.1
     obtain ⟨x0, x1, x2, x3⟩ := X14.out.cs
     go_wp2_with fail
     have CL := autoMay_any x 64 1600 (by omega) (by omega) _ w14 _ X14.out.2
     rw [HX0.out] at CL
     refine CL.mono ?_
     clear CL
     rintro e w15 ⟨rfl, hb15⟩
     have K15 := hide (K14.out.trans (hb15.mono K14.out.size))
     have X15 := hide (X14.out.later hb15)
     have Y15 := hide (Y14.out.later hb15)
     have A15 := hide (A14.out.later hb15)
     have B15 := hide (B14.out.later hb15)
     have T15 := hide (T14.out.later hb15)
     clear hb15 x0 x1 x2 x3
     obtain ⟨y0, y1, y2, y3⟩ := Y15.out.cs
     go_wp2_with fail
     have CL := autoMay_any y 64 1600 (by omega) (by omega) _ w15 _ Y15.out.2
     rw [HY0.out] at CL
     refine CL.mono ?_
     clear CL
     rintro e w16 ⟨rfl, hb16⟩
     have K16 := hide (K15.out.trans (hb16.mono K15.out.size))
     have X16 := hide (X15.out.later hb16)
     have Y16 := hide (Y15.out.later hb16)
     have A16 := hide (A15.out.later hb16)
     have B16 := hide (B15.out.later hb16)
     have T16 := hide (T15.out.later hb16)
     clear hb16 y0 y1 y2 y3
     obtain ⟨x0, x1, x2, x3⟩ := X16.out.cs
     obtain ⟨y0, y1, y2, y3⟩ := Y16.out.cs
     obtain ⟨a0, a1, a2, a3⟩ := A16.out.cs
     obtain ⟨t0, t1, t2⟩ := T16.out.cs
     have hxl64 := HPX.out.2
     have hyl64 := HPY.out.2
     have hxi : ¬ (100000 : Int) < (x.la.length : Int) := by omega
     have hyi : ¬ (100000 : Int) < (y.la.length : Int) := by omega
     go_wp2_with fail
     refine (acceptsOf_any A (S := 8) (M := 40) (by omega) (by omega) HOK.out.1 t HSZ.out _ _ _ _ (by exact A16.out.2) (by exact T16.out.2)).mono ?_
     rintro e w17 ⟨rfl, hb17⟩
     have K17 := hide (K16.out.trans (hb17.mono K16.out.size))
     have X17 := hide (X16.out.later hb17)
     have Y17 := hide (Y16.out.later hb17)
     have B17 := hide (B16.out.later hb17)
     have T17 := hide (T16.out.later hb17)
     clear hb17 x0 x1 x2 x3 y0 y1 y2 y3 a0 a1 a2 a3 t0 t1 t2
     obtain ⟨b0, b1, b2, b3⟩ := B17.out.cs
     obtain ⟨t0, t1, t2⟩ := T17.out.cs
     go_wp2_with fail
     refine (acceptsOf_any B (S := 8) (M := 40) (by omega) (by omega) HOK.out.2 t HSZ.out _ _ _ _ (by exact B17.out.2) (by exact T17.out.2)).mono ?_
     rintro e w18 ⟨rfl, hb18⟩
     have K18 := hide (K17.out.trans (hb18.mono K17.out.size))
     have X18 := hide (X17.out.later hb18)
     have Y18 := hide (Y17.out.later hb18)
     have T18 := hide (T17.out.later hb18)
     clear hb18 b0 b1 b2 b3 t0 t1 t2
     obtain ⟨x0, x1, x2, x3⟩ := X18.out.cs
     obtain ⟨t0, t1, t2⟩ := T18.out.cs
     go_wp2_with fail
     refine (acceptsOf_any x (S := 64) (M := 1600) (by omega) (by omega) HPX.out.1 t HSZ.out _ _ _ _ (by exact X18.out.2) (by exact T18.out.2)).mono ?_
     rintro e w19 ⟨rfl, hb19⟩
     have K19 := hide (K18.out.trans (hb19.mono K18.out.size))
     have Y19 := hide (Y18.out.later hb19)
     have T19 := hide (T18.out.later hb19)
     clear hb19 x0 x1 x2 x3 t0 t1 t2
     rw [HAX.out]
     generalize accB A t = p at *
     generalize accB B t = q at *
     obtain ⟨y0, y1, y2, y3⟩ := Y19.out.cs
     obtain ⟨t0, t1, t2⟩ := T19.out.cs
     have CALL := hide (acceptsOf_any y (S := 64) (M := 1600) (by omega) (by omega) HPY.out.1 t HSZ.out _ _ w19 _ Y19.out.2 T19.out.2)
     rw [HAY.out] at CALL
     cases p <;> cases q
     all_goals
      go_wp2_with fail
      refine CALL.out.mono ?_
      rintro e w20 ⟨rfl, hb20⟩
      have K20 := hide (K19.out.trans (hb20.mono K19.out.size))
      clear hb20
      go_wp2_with fail
      go_ret
      exact ⟨rfl, K20.out⟩
    ·have hne : (E == 0) = false := by simpa using h0
     have hne2 : (E != 0) = true := by simpa using h0
     have HNZ := hide h0
     clear h0 hE
     obtain ⟨a0, a1, a2, a3⟩ := A8.out.cs
     obtain ⟨b0, b1, b2, b3⟩ := B8.out.cs
     go_wp2_with fail
     refine (both_any A B _ _ _ _ (by exact A8.out.2) (by exact B8.out.2)).mono ?_
     rintro e w11 ⟨hb11, h11⟩
     rcases h11 with ⟨h0, _⟩ | ⟨_, rfl⟩
     ·rw [HEE.out] at h0
      exact absurd h0 HNZ.out
     rw [HEE.out]
     have K11 := hide (K8.out.trans (hb11.mono K8.out.size))
     have X12 : Hid (Blk (w11.alloc (.cells #[.int .i64 0, .slice none 0 0, .slice none 0 0] 25)) w11.heap.size #[.int .i64 0, .slice none 0 0, .slice none 0 0] 25) := Blk.new w11 _ _
     have K12 : Hid (Below w.heap.size w (w11.alloc (.cells #[.int .i64 0, .slice none 0 0, .slice none 0 0] 25))) := K11.out.alloc K11.out.size _
     have A12 := hide ((A8.out.later hb11).later ((Below.refl _ _).alloc (Nat.le_refl _) (.cells #[.int .i64 0, .slice none 0 0, .slice none 0 0] 25)))
     have B12 := hide ((B8.out.later hb11).later ((Below.refl _ _).alloc (Nat.le_refl _) (.cells #[.int .i64 0, .slice none 0 0, .slice none 0 0] 25)))
     clear hb11 a0 a1 a2 a3 b0 b1 b2 b3
     go_upto_region 7 with fail
     generalize (w11.alloc (.cells #[.int .i64 0, .slice none 0 0, .slice none 0 0] 25)) = w12 at *
     generalize w11.heap.size = PX at *
     obtain ⟨a0, a1, a2, a3⟩ := A12.out.cs
     obtain ⟨b0, b1, b2, b3⟩ := B12.out.cs
     go_wp2_with fail
     refine (either_any A B _ _ _ _ (by exact A12.out.2) (by exact B12.out.2)).mono ?_
     rintro e w13 ⟨hb13, h13⟩
     rcases h13 with ⟨h0, _⟩ | ⟨_, rfl⟩
     ·rw [HEE.out] at h0
      exact absurd h0 HNZ.out
     rw [HEE.out]
     have K13 := hide (K12.out.trans (hb13.mono K12.out.size))
     have X13 := hide (X12.out.below hb13 X12.out.lt)
     have Y14 : Hid (Blk (w13.alloc (.cells #[.int .i64 0, .slice none 0 0, .slice none 0 0] 25)) w13.heap.size #[.int .i64 0, .slice none 0 0, .slice none 0 0] 25) := Blk.new w13 _ _
     have X14 := hide (X13.out.alloc (.cells #[.int .i64 0, .slice none 0 0, .slice none 0 0] 25))
     have K14 : Hid (Below w.heap.size w (w13.alloc (.cells #[.int .i64 0, .slice none 0 0, .slice none 0 0] 25))) := K13.out.alloc K13.out.size _
     clear hb13 a0 a1 a2 a3 b0 b1 b2 b3
     go_upto_region 8 with fail
     generalize (w13.alloc (.cells #[.int .i64 0, .slice none 0 0, .slice none 0 0] 25)) = w14 at *
     generalize w13.heap.size = PY at *
     have x0 : w14.cell? ⟨PX, 0, none⟩ = some (.int .i64 0) := X14.out.cell 0
     have x1 : w14.cell? ⟨PX, 1, none⟩ = some (.slice none 0 0) := X14.out.cell 1
     have x2 : w14.cell? ⟨PX, 2, none⟩ = some (.slice none 0 0) := X14.out.cell 2
     have xl := X14.out.lt
     have y0 : w14.cell? ⟨PY, 0, none⟩ = some (.int .i64 0) := Y14.out.cell 0
     have y1 : w14.cell? ⟨PY, 1, none⟩ = some (.slice none 0 0) := Y14.out.cell 1
     have y2 : w14.cell? ⟨PY, 2, none⟩ = some (.slice none 0 0) := Y14.out.cell 2
     have yl := Y14.out.lt
     go_wp2_with fail
     go_ret
     exact ⟨rfl, K14.out⟩
   ·have HEE : Hid (eachE A B = E) := by unfold Hid eachE; rw [if_neg (by rw [← hE]; exact h0), hE]
    have hne : (E == 0) = false := by simpa using h0
    have hne2 : (E != 0) = true := by simpa using h0
    have HNZ := hide h0
    clear h0 hE
    obtain ⟨a0, a1, a2, a3⟩ := A7.out.cs
    obtain ⟨b0, b1, b2, b3⟩ := B7.out.cs
    go_wp2_with fail
    refine (both_any A B _ _ _ _ (by exact A7.out.2) (by exact B7.out.2)).mono ?_
    rintro e w11 ⟨hb11, h11⟩
    rcases h11 with ⟨h0, _⟩ | ⟨_, rfl⟩
    ·rw [HEE.out] at h0
     exact absurd h0 HNZ.out
    rw [HEE.out]
    have K11 := hide (K7.out.trans (hb11.mono K7.out.size))
    have X12 : Hid (Blk (w11.alloc (.cells #[.int .i64 0, .slice none 0 0, .slice none 0 0] 25)) w11.heap.size #[.int .i64 0, .slice none 0 0, .slice none 0 0] 25) := Blk.new w11 _ _
    have K12 : Hid (Below w.heap.size w (w11.alloc (.cells #[.int .i64 0, .slice none 0 0, .slice none 0 0] 25))) := K11.out.alloc K11.out.size _
    have A12 := hide ((A7.out.later hb11).later ((Below.refl _ _).alloc (Nat.le_refl _) (.cells #[.int .i64 0, .slice none 0 0, .slice none 0 0] 25)))
    have B12 := hide ((B7.out.later hb11).later ((Below.refl _ _).alloc (Nat.le_refl _) (.cells #[.int .i64 0, .slice none 0 0, .slice none 0 0] 25)))
    clear hb11 a0 a1 a2 a3 b0 b1 b2 b3
    go_upto_region 7 with fail
    generalize (w11.alloc (.cells #[.int .i64 0, .slice none 0 0, .slice none 0 0] 25)) = w12 at *
    generalize w11.heap.size = PX at *
    obtain ⟨a0, a1, a2, a3⟩ := A12.out.cs
    obtain ⟨b0, b1, b2, b3⟩ := B12.out.cs
    go_wp2_with fail
    refine (either_any A B _ _ _ _ (by exact A12.out.2) (by exact B12.out.2)).mono ?_
    rintro e w13 ⟨hb13, h13⟩
    rcases h13 with ⟨h0, _⟩ | ⟨_, rfl⟩
    ·rw [HEE.out] at h0
     exact absurd h0 HNZ.out
    rw [HEE.out]
    have K13 := hide (K12.out.trans (hb13.mono K12.out.size))
    have X13 := hide (X12.out.below hb13 X12.out.lt)
    have Y14 : Hid (Blk (w13.alloc (.cells #[.int .i64 0, .slice none 0 0, .slice none 0 0] 25)) w13.heap.size #[.int .i64 0, .slice none 0 0, .slice none 0 0] 25) := Blk.new w13 _ _
    have X14 := hide (X13.out.alloc (.cells #[.int .i64 0, .slice none 0 0, .slice none 0 0] 25))
    have K14 : Hid (Below w.heap.size w (w13.alloc (.cells #[.int .i64 0, .slice none 0 0, .slice none 0 0] 25))) := K13.out.alloc K13.out.size _
    clear hb13 a0 a1 a2 a3 b0 b1 b2 b3
    go_upto_region 8 with fail
    generalize (w13.alloc (.cells #[.int .i64 0, .slice none 0 0, .slice none 0 0] 25)) = w14 at *
    generalize w13.heap.size = PY at *
    have x0 : w14.cell? ⟨PX, 0, none⟩ = some (.int .i64 0) := X14.out.cell 0
    have x1 : w14.cell? ⟨PX, 1, none⟩ = some (.slice none 0 0) := X14.out.cell 1
    have x2 : w14.cell? ⟨PX, 2, none⟩ = some (.slice none 0 0) := X14.out.cell 2
    have xl := X14.out.lt
    have y0 : w14.cell? ⟨PY, 0, none⟩ = some (.int .i64 0) := Y14.out.cell 0
    have y1 : w14.cell? ⟨PY, 1, none⟩ = some (.slice none 0 0) := Y14.out.cell 1
    have y2 : w14.cell? ⟨PY, 2, none⟩ = some (.slice none 0 0) := Y14.out.cell 2
    have yl := Y14.out.lt
    go_wp2_with fail
    go_ret
    exact ⟨rfl, K14.out⟩
end Go.Proofs.Ytofebfjkodceeaa
