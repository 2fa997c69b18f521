import Derived.Test.YtbnmlkaejdpigaaGreatDoorK6
import Derived.Test.YtbnmlkaejdpigaaGreatDoorZTopLocalOwn
import Derived.Test.YtbnmlkaejdpigaaGreatDoorZCTopLocalOwn
namespace Go.Proofs.YtbnmlkaejdpigaaGreatDoor
open Go.RowKit
set_option linter.unusedSimpArgs false
set_option linter.unusedVariables false
set_option maxRecDepth 8000
theorem QV.at {w : World} {X : Nat → Prop} {a : Option Addr} {n c : Nat} {l : List Pr} (h : QV w X (.slice a n c) l) (i : Nat) (hi : i < l.length) : ∃ b o, a = some ⟨b, o, none⟩ ∧ PX w X b (o + i * 4) l[i].l ∧ PX w X b (o + i * 4 + 2) l[i].r := by
 obtain ⟨a2, c2, e, hl, h⟩ := h
 simp at e
 obtain ⟨rfl, rfl, rfl⟩ := e
 rcases h with h | ⟨b, o, ea, hX, h⟩
 ·subst h; simp at hi
 ·obtain ⟨a1, c1, a2, c2, h1, h2, h3, h4, h5, h6⟩ := h i hi
  exact ⟨b, o, ea, ⟨⟨a1, c1, h1, h2, h5, cell_lt h1⟩, hX⟩, ⟨⟨a2, c2, h3, h4, h6, cell_lt h3⟩, hX⟩⟩
theorem QV.exq {w w' : World} {X Q : Nat → Prop} {v : Value} {l : List Pr} (h : QV w X v l) (he : ExQ Q w w') (hX : ∀ b, X b → ¬ Q b) : QV w' X v l :=
 ((h.mono (Y := fun b => X b ∧ b < w.heap.size) fun b h1 h2 => ⟨h1, h2⟩).kept fun b hb => he.block b hb.2 (hX b hb.1)).mono fun b hb _ => hb.1
def SmP (w : World) (S q : Nat) (X : Nat → Prop) (Z : List Zp) (left : Int) (ls : List Pr) (e : Ending) (w' : World) : Prop :=
 ∃ (r : Bool) (n : Int), e = .returned (.bool r) ∧ SkS w' S q X Z n ∧ ExQ (SkQ S q) w w' ∧ (left < 0 → ls ≠ [] → r = false) ∧ ∀ s, Clo Z s → r = true → ∀ p ∈ ls, sizeL [onT s p.l] ≤ 2000 ∧ sizeL [onT s p.r] ≤ 2000
def SmI (w : World) (S q : Nat) (X : Nat → Prop) (Z : List Zp) (left : Int) (ls : List Pr) (i : Value) (wr : World) : Prop :=
 ∃ (k : Nat) (n : Int), k ≤ ls.length ∧ i = .int .i64 (k : Int) ∧ SkS wr S q X Z n ∧ ExQ (SkQ S q) w wr ∧ n ≤ left ∧ -100 ≤ n ∧ (0 < k → 0 ≤ left) ∧ ∀ s, Clo Z s → ∀ j (h : j < ls.length), j < k → sizeL [onT s ls[j].l] ≤ 2000 ∧ sizeL [onT s ls[j].r] ≤ 2000
set_option maxHeartbeats 2000000 in
theorem skSmall_any (S q : Nat) (X : Nat → Prop) (Z : List Zp) (hZ : ∀ z ∈ Z, errL [z.t] = 0) (left : Int) (h0 : -100 ≤ left) (h1 : left ≤ 100000) (ls : List Pr) (hls : ∀ p ∈ ls, errL [p.l] = 0 ∧ errL [p.r] = 0) (v : Value) (w : World) (hS : SkS w S q X Z left) (hv : QV w X v ls) :
  Calls Tryz.prog 83 #[.pointer (some ⟨S, 0, none⟩), v] w fun e w' => SmP w S q X Z left ls e w' := by
 have HS := hide hS
 have HV := hide hv
 have HSX := hide hS.X
 have HLS := hide hls
 obtain ⟨a, c, rfl, ⟨hl1, hl2⟩, _⟩ := hv
 clear hS hls
 go_enter Tryz.func83, Tryz.ntmps83
 go_wp2_with fail
 go_loopw [8] (fun i wr => SmI w S q X Z left ls i wr) (fun i wr => ls.length - (intOf i).toNat)
 case atStart => exact ⟨0, left, Nat.zero_le _, rfl, HS.out, ExQ.refl _ _, Int.le_refl _, h0, fun h => absurd h (by omega), fun _ _ j _ h => absurd h (by omega)⟩
 case round =>
  obtain ⟨k, n, hk, rfl, hS3, hE3, hn3, hn4, hk0, hno⟩ := hrel
  have HS3 := hide hS3
  have HE3 := hide hE3
  have HNO := hide hno
  clear hS3 hE3 hno
  by_cases hlk : k < ls.length
  ·obtain ⟨b, o, rfl, hpl, hpr⟩ := (HV.out.exq HE3.out HSX.out).at k hlk
   have hk2 : (k : Int) < (ls.length : Int) := by omega
   have HPL := hide hpl
   have HPR := hide hpr
   have hel := HLS.out ls[k] (List.getElem_mem hlk)
   clear hpl hpr
   go_wp2_with fail
   refine (skCount_any S q X Z hZ 2001 0 n ls[k].l b (o + k * 4) wr rfl (by omega) hn4 (by omega) HS3.out HPL.out hel.1).mono ?_
   rintro e w5 ⟨c5, n5, rfl, hS5, hE5, hn5, hn6, hc6, hc7, hc8, hc9⟩
   have HS5 := hide hS5
   have HE5 := hide (HE3.out.trans hE5)
   have HP5 := hide (HPR.out.exq hE5 HSX.out)
   have HC5 := hide hc9
   clear hS5 hE5 hc9
   by_cases hgt : 2000 < c5
   ·have hgt2 : (2000 : Int) < (c5 : Int) := by omega
    go_wp2_with fail
    refine bodyPost_ret (v := .bool false) (by simp [results, Tryz.results83, go_sem]) rfl ?_
    exact ⟨false, n5, rfl, HS5.out, HE5.out, fun _ _ => rfl, fun _ _ h => absurd h (by simp)⟩
   ·have hgt2 : ¬ (2000 : Int) < (c5 : Int) := by omega
    have hn50 : 0 ≤ n5 := by
     by_cases h : n5 < 0
     ·have := hc8 h; omega
     ·omega
    go_wp2_with fail
    refine (skCount_any S q X Z hZ 2001 0 n5 ls[k].r b (o + k * 4 + 2) w5 rfl (by omega) (by omega) (by omega) HS5.out HP5.out hel.2).mono ?_
    rintro e w6 ⟨c6, n6, rfl, hS6, hE6, hm5, hm6, hd6, hd7, hd8, hd9⟩
    have HS6 := hide hS6
    have HE6 := hide (HE5.out.trans hE6)
    have HC6 := hide hd9
    clear hS6 hE6 hd9
    by_cases hgu : 2000 < c6
    ·have hgu2 : (2000 : Int) < (c6 : Int) := by omega
     go_wp2_with fail
     refine bodyPost_ret (v := .bool false) (by simp [results, Tryz.results83, go_sem]) rfl ?_
     exact ⟨false, n6, rfl, HS6.out, HE6.out, fun _ _ => rfl, fun _ _ h => absurd h (by simp)⟩
    ·have hgu2 : ¬ (2000 : Int) < (c6 : Int) := by omega
     go_wp2_with fail
     go_roundw
     case rel => exact ⟨k + 1, n6, by omega, by go_num, HS6.out, HE6.out, by omega, by omega, fun _ => by omega, fun s hs j h hj => by
      by_cases e : j = k
      ·subst e
       have g1 := HC5.out s hs (by omega)
       have g2 := HC6.out s hs (by omega)
       omega
      ·exact HNO.out s hs j h (by omega)⟩
     case measure => simp [intOf]; omega
  ·go_wp2_with fail
   refine bodyPost_ret (v := .bool true) (by simp [results, Tryz.results83, go_sem]) rfl ?_
   refine ⟨true, n, rfl, HS3.out, HE3.out, fun hl hne => ?_, fun s hs _ p hp => ?_⟩
   ·have : 0 < ls.length := List.length_pos_iff.2 hne
    have := hk0 (by omega)
    omega
   ·obtain ⟨j, hj, rfl⟩ := List.getElem_of_mem hp
    exact HNO.out s hs j hj (by omega)
def RfP (w : World) (ls : List Pr) (e : Ending) (w' : World) : Prop :=
 ∃ code : Int, e = .returned (.int .i64 code) ∧ Below w.heap.size w w' ∧ (code ≠ 0 → ∃ n sf, uRun false n [] ls = some (code, sf) ∧ grtB sf = false)
def RfI (w : World) (S q : Nat) (X : Nat → Prop) (ls : List Pr) (i : Value) (wr : World) : Prop :=
 ∃ (k : Nat) (n : Int) (Z : List Zp) (s : List Bd), k ≤ ls.length ∧ i = .int .i64 (k : Int) ∧ SkS wr S q X Z n ∧ ExQ (SkQ S q) w wr ∧ n ≤ 100000 ∧ 0 ≤ n ∧ Clo Z s ∧ FR [] (ls.take k) 0 s
set_option maxHeartbeats 2000000 in
theorem uRefusal_any (ls : List Pr) (hls : errL (flatP ls) = 0) (v : Value) (w : World) (X : Nat → Prop) (hv : QV w X v ls) :
  Calls Tryz.prog 61 #[v] w fun e w' => RfP w ls e w' := by
 have HV := hide (hv.mono (Y := fun b => X b ∧ b < w.heap.size) fun b h1 h2 => ⟨h1, h2⟩)
 have HLS := hide (err_flat hls)
 obtain ⟨a, c, rfl, ⟨hl1, hl2⟩, _⟩ := hv
 have hmm := @run_makeMap Tryz.prog
 go_enter Tryz.func61, Tryz.ntmps61
 go_wp2_with fail
 have hB2 : Below w.heap.size w ((w.alloc (.map #[] 0)).alloc (.cells #[.map (some w.heap.size), .int .i64 100000] 121)) := ((Below.refl _ _).alloc (Nat.le_refl _) _).alloc (by simp) _
 have hSB : Blk ((w.alloc (.map #[] 0)).alloc (.cells #[.map (some w.heap.size), .int .i64 100000] 121)) (w.heap.size + 1) #[.map (some w.heap.size), .int .i64 100000] 121 := by
  have h1 := Blk.new (w.alloc (.map #[] 0)) #[.map (some w.heap.size), .int .i64 100000] 121
  rw [World.size_alloc] at h1
  exact h1
 have hMA : MapAt ((w.alloc (.map #[] 0)).alloc (.cells #[.map (some w.heap.size), .int .i64 100000] 121)) w.heap.size [] := (MapAt.new w).kept (Below.heap_alloc _ _ _ (by simp))
 generalize (w.alloc (.map #[] 0)).alloc (.cells #[.map (some w.heap.size), .int .i64 100000] 121) = w2 at *
 have hS2 : SkS w2 (w.heap.size + 1) w.heap.size (fun b => X b ∧ b < w.heap.size) [] 100000 := ⟨hSB, hMA, by simp, fun b hb => ⟨by omega, by omega⟩⟩
 have HV2 := hide (HV.out.later hB2)
 have HSX := hide hS2.X
 have HS2 := hide hS2
 have HB2 := hide hB2
 have hw2 : w.heap.size ≤ w2.heap.size := hB2.size
 have HBW : Hid (∀ w', ExQ (SkQ (w.heap.size + 1) w.heap.size) w2 w' → Below w.heap.size w w') := fun w' h => HB2.out.trans (h.below hw2 (fun b hb => by rcases hb with e | e <;> omega))
 clear hS2 hB2 hSB hMA
 go_loopw [10] (fun i wr => RfI w2 (w.heap.size + 1) w.heap.size (fun b => X b ∧ b < w.heap.size) ls i wr) (fun i wr => ls.length - (intOf i).toNat)
 case atStart => exact ⟨0, 100000, [], [], Nat.zero_le _, rfl, HS2.out, ExQ.refl _ _, by omega, by omega, clo_nil, by simpa using FR.done []⟩
 case round =>
  obtain ⟨k, n, Z, s, hk, rfl, hS3, hE3, hn3, hn4, hC3, hF3⟩ := hrel
  have HS3 := hide hS3
  have HE3 := hide hE3
  have HC3 := hide hC3
  have HF3 := hide hF3
  clear hS3 hE3 hC3 hF3
  by_cases hlk : k < ls.length
  ·have hVk := HV2.out.exq HE3.out HSX.out
   have HVK := hide hVk
   obtain ⟨b, o, rfl, hpl, hpr⟩ := hVk.at k hlk
   have hk2 : (k : Int) < (ls.length : Int) := by omega
   have hel := HLS.out ls[k] (List.getElem_mem hlk)
   have hD : Below wr.heap.size wr wr.drew := (Below.refl _ _).drew
   have HW := hide (skWork_any (w.heap.size + 1) w.heap.size (fun b => X b ∧ b < w.heap.size) n.toNat n Z s ls[k].l ls[k].r b (o + k * 4) b (o + k * 4 + 2) wr.drew rfl hn4 hn3 HC3.out (HS3.out.later hD) (hpl.exq (ExQ.ofBelow (Q := SkQ (w.heap.size + 1) w.heap.size) hD) HSX.out) (hpr.exq (ExQ.ofBelow (Q := SkQ (w.heap.size + 1) w.heap.size) hD) HSX.out) hel.1 hel.2)
   have HWZ : Hid (w.heap.size ≤ wr.heap.size) := Nat.le_trans hw2 HE3.out.size
   clear hpl hpr hD hVk
   go_wp2_with fail
   go_region_held3 (fun w' => w.heap.size ≤ w'.heap.size) (first | exact HWZ.out | exact hS5' | go_keep)
    ((go_at_call 82; refine HW.out.mono ?_; rintro e w5 ⟨code, n5, Z5, rfl, hS5, hZ5, hE5, hn7, hn8, hc5, hr5⟩; have hS5' : w.heap.size ≤ w5.heap.size := Nat.le_trans HWZ.out hE5.size))
   have HS5 := hide hS5
   have HZ5 := hide hZ5
   have HE5 := hide ((HE3.out.drew).trans hE5)
   have HV5 := hide ((HVK.out.exq ((ExQ.refl (SkQ (w.heap.size + 1) w.heap.size) _).drew) HSX.out).exq hE5 HSX.out)
   have HR5 := hide hr5
   clear hS5 hZ5 hE5 hr5
   by_cases hcd : code = 0
   ·subst hcd
    have hn9 : 0 ≤ n5 := by
     by_cases h : n5 < 0
     ·exact absurd rfl (hc5 h)
     ·omega
    obtain ⟨s5, hC5, hF5⟩ := HR5.out hn9
    have HC5 := hide hC5
    have HF5 := hide (pr_next hlk HF3.out hF5)
    clear hC5 hF5
    go_wp2_with fail
    go_roundw
    case rel => exact ⟨k + 1, n5, Z5, s5, by omega, by go_num, HS5.out, HE5.out, by omega, hn9, HC5.out, HF5.out⟩
    case measure => simp [intOf]; omega
   ·have hcd2 : (code == 0) = false := beq_eq_false_iff_ne.2 hcd
    have hcd3 : (code != 0) = true := by simp [bne, hcd2]
    have HCD := hide hcd
    clear hcd
    go_wp2_with fail
    refine (skSmall_any (w.heap.size + 1) w.heap.size (fun b => X b ∧ b < w.heap.size) Z5 HZ5.out n5 (by omega) (by omega) ls HLS.out _ w5 HS5.out HV5.out).mono ?_
    rintro e w6 ⟨r, n6, rfl, hS6, hE6, hlow, hsm⟩
    have HE6 := hide (HE5.out.trans hE6)
    have HSM := hide hsm
    clear hS6 hE6 hsm
    cases r with
    | true =>
     have hn9 : 0 ≤ n5 := by
      by_cases h : n5 < 0
      ·have := hlow h (fun e => by rw [e] at hlk; simp at hlk)
       cases this
      ·omega
     obtain ⟨s5, hC5, hF5⟩ := HR5.out hn9
     have HEN := hide (FR.ends (pr_fail (k + 1) HCD.out (pr_next hlk HF3.out hF5)) hls (HSM.out s5 hC5 rfl))
     clear hC5 hF5
     go_wp2_with fail
     refine bodyPost_ret (v := .int .i64 code) (by simp [results, Tryz.results61, go_sem]) rfl ?_
     obtain ⟨⟨g, hg⟩, hgr⟩ := HEN.out
     exact ⟨code, rfl, HBW.out _ HE6.out, fun _ => ⟨g, s5, hg, hgr⟩⟩
    | false =>
     go_wp2_with fail
     refine bodyPost_ret (v := .int .i64 0) (by simp [results, Tryz.results61, go_sem]) rfl ?_
     exact ⟨0, rfl, HBW.out _ HE6.out, fun h => absurd rfl h⟩
  ·go_wp2_with fail
   refine bodyPost_ret (v := .int .i64 0) (by simp [results, Tryz.results61, go_sem]) rfl ?_
   exact ⟨0, rfl, HBW.out _ HE3.out, fun h => absurd rfl h⟩
theorem uRun_det {lim : Bool} : ∀ (n m : Nat) (s : List Bd) (l : List Pr) (r r' : Int × List Bd), uRun lim n s l = some r → uRun lim m s l = some r' → r = r'
 | 0, _, _, _, _, _, h, _ => by cases h
 | _ + 1, 0, _, _, _, _, _, h => by cases h
 | n + 1, m + 1, s, l, r, r', h, h' => by
  rw [uRun] at h h'
  cases hn : uNext lim s l with
  | stop e s' =>
   rw [hn] at h h'
   cases h; cases h'; rfl
  | go s' l' =>
   rw [hn] at h h'
   exact uRun_det n m s' l' r r' h h'
end Go.Proofs.YtbnmlkaejdpigaaGreatDoor
