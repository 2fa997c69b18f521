import Derived.Test.YtbnmlkaejdpigaaGreatDoorW33
namespace Go.Proofs.YtbnmlkaejdpigaaGreatDoor
open Go.RowKit
set_option linter.unusedSimpArgs false
set_option linter.unusedVariables false
set_option maxRecDepth 8000
def RfPost (w : World) (r : Rd) (e : Ending) (w' : World) : Prop :=
 Below w.heap.size w w' ∧ ∃ (n : ByteArray) (a : Option Addr) (l c : Nat) (y z : Int), e = .returned (.tuple #[.agg #[.string n, .slice a l c], .int .i64 y, .int .i64 z, .int .i64 r.err]) ∧ (r.err = 0 → n = r.t.name ∧ l = r.t.args.length ∧ y = r.pos ∧ z = r.k ∧ Sl w' (fun b => w.heap.size ≤ b) a r.t.args)
theorem rf_no {w w' : World} {r : Rd} {z x y : Int} {n : ByteArray} {a : Option Addr} {l c : Nat} (h : r = noRd z) (hz : z ≠ 0) (hb : Below w.heap.size w w') : RfPost w r (.returned (.tuple #[.agg #[.string n, .slice a l c], .int .i64 x, .int .i64 y, .int .i64 z])) w' := by
 subst h
 exact ⟨hb, n, a, l, c, x, y, rfl, fun h => absurd h hz⟩
theorem rf_yes {w w' : World} {r : Rd} {p k c : Nat} {nm : ByteArray} {a : Option Addr} {args : List Tm} (h : r = ⟨0, ⟨nm, args⟩, p, k⟩) (hs : Sl w' (fun b => w.heap.size ≤ b) a args) (hb : Below w.heap.size w w') : RfPost w r (.returned (.tuple #[.agg #[.string nm, .slice a args.length c], .int .i64 (p : Int), .int .i64 (k : Int), .int .i64 0])) w' := by
 subst h
 exact ⟨hb, nm, a, args.length, c, p, k, rfl, fun _ => ⟨rfl, rfl, rfl, rfl, hs⟩⟩
def RfInv (w : World) (T F : Nat) (s nm : ByteArray) (r : Rd) (v1 v2 : Value) (wr : World) : Prop :=
 ∃ (f' : Nat) (acc : List Tm) (j k' : Nat) (u : Value) (xs : List Value), v1 = .int .i64 (j : Int) ∧ v2 = .int .i64 (k' : Int) ∧ f' + 1 < F ∧ 2 * (s.size - j) + 1 ≤ f' ∧ j < s.size ∧ acc.length ≤ j ∧ k' ≤ 200 ∧ r = rd s (f' + 1) (some (nm, acc)) j k' ∧ Row wr (T + 1) 32 (fun _ => False) u acc xs ∧ Below w.heap.size w wr ∧ Blk wr w.heap.size #[.string ⟨#[]⟩, .slice none 0 0] 32 ∧ Blk wr T #[.string nm, u] 32 ∧ T < wr.heap.size
theorem rf_step {w wr w1 w3 : World} {T Ty : Nat} {u : Value} {acc : List Tm} {xs : List Value} {o2 : Obj} {s' nm : ByteArray} {a1 : Option Addr} {n1 c1 g cap : Nat} {cR : Array Value} {t : Tm} (hwT : w.heap.size < T) (hTr : T < wr.heap.size)
  (hrow : Row wr (T + 1) Ty (fun _ => False) u acc xs) (hx : Below w.heap.size w wr) (hR : Blk wr w.heap.size cR Ty) (hT : Blk wr T #[.string nm, u] Ty)
  (he1 : Below wr.heap.size wr w1) (ht : TV w1 (fun b => wr.heap.size ≤ b) (.agg #[.string s', .slice a1 n1 c1]) t)
  (hown : w3.ownsRow (T + 1) Ty 2 (.slice (some ⟨g, 0, none⟩) (acc.length + 1) cap) (acc.length + 1) (xs ++ [.string s', .slice a1 n1 c1])) (hg : (w1.alloc o2).grownBy w3 u.ownBlock) (hat : u.ownBlock = some g ∨ g = (w1.alloc o2).heap.size) :
  let w4 := w3.setCell ⟨T, 1, none⟩ (.slice (some ⟨g, 0, none⟩) (acc.length + 1) cap)
  Row w4 (T + 1) Ty (fun _ => False) (.slice (some ⟨g, 0, none⟩) (acc.length + 1) cap) (acc ++ [t]) (xs ++ [.string s', .slice a1 n1 c1]) ∧ Below w.heap.size w w4 ∧ Blk w4 w.heap.size cR Ty ∧ Blk w4 T #[.string nm, .slice (some ⟨g, 0, none⟩) (acc.length + 1) cap] Ty ∧ T < w4.heap.size := by
 intro w4
 have hlt' := hrow.own.lt
 have hp := hrow.push (w1 := w1) (w2 := w1.alloc o2) (w3 := w3) (by omega) (fun _ h => h.elim) he1 (ht.mono fun b h _ => Or.inr h) o2 rfl hown hg hat
 have hne : ∀ b, b < T + 1 → some b ≠ u.ownBlock := fun b hb e => by have := (hlt' b e.symm).1; omega
 have hs1 := he1.size
 have hsx := hx.size
 have hx3 : Below w.heap.size w w3 := ((hx.trans (he1.mono (by omega))).alloc (by omega) o2).grown hg (by simp; omega) (fun k hk => by have := (hlt' k hk).1; omega)
 have hs3 := hg.size
 simp at hs3
 refine ⟨hp.setCell (by omega) (fun h => h) _, hx3.setCell (p := ⟨T, 1, none⟩) (by simp; omega) _, ?_, ?_, by simp [w4, World.setCell]; omega⟩
 ·exact (((hR.below he1 (by omega)).alloc o2).grown hg (hne _ (by omega))).setOther _ _ (by omega)
 ·exact (((hT.below he1 (by omega)).alloc o2).grown hg (hne _ (by omega))).set 1 _
theorem cell_two_new2 (w5 : World) (A : Obj) (v0 v1 : Value) (T : Nat) : ∀ j u, [v0, v1][j]? = some u → ((w5.alloc A).alloc (.cells #[v0, v1] T)).cell? ((⟨w5.heap.size + 1, 0, none⟩ : Addr).add j) = some u := by
 have h := cell_two_new (w5.alloc A) v0 v1 T
 have e : (w5.alloc A).heap.size = w5.heap.size + 1 := by simp
 rw [e] at h
 exact h
theorem rf_yes2 {w w4 : World} {r : Rd} {T Ty p k c : Nat} {nm : ByteArray} {a : Option Addr} {acc : List Tm} {t : Tm} {xs : List Value} {v0 v1 : Value} (h : r = ⟨0, ⟨nm, acc ++ [t]⟩, p + 1, k⟩) (hT : w.heap.size < T) (hr : Row w4 (T + 1) Ty (fun _ => False) (.slice a (acc.length + 1) c) (acc ++ [t]) xs) (hb : Below w.heap.size w w4) :
  RfPost w r (.returned (.tuple #[.agg #[.string nm, .slice a (acc.length + 1) c], .int .i64 ((p : Int) + 1), .int .i64 (k : Int), .int .i64 0])) ((w4.setCell ⟨w.heap.size, 0, none⟩ v0).setCell ⟨w.heap.size, 1, none⟩ v1) := by
 obtain ⟨a', c', e, hs⟩ := hr.sl
 simp at e
 obtain ⟨rfl, rfl⟩ := e
 subst h
 exact ⟨(hb.setCell (by simp) _).setCell (by simp) _, nm, a, acc.length + 1, c, (p : Int) + 1, k, rfl, fun _ => ⟨rfl, by simp, rfl, rfl, sl_set2 (hs.mono fun b hb _ => hb.elim False.elim id) hT⟩⟩
set_option maxHeartbeats 1000000 in
theorem read_any (s : ByteArray) (hs : s.size ≤ 4000) : ∀ (F i k : Nat) (w : World), i ≤ s.size → k ≤ 200 → 2 * (s.size - i) + 1 ≤ F →
  Calls Tryz.prog 17 #[.string s, .int .i64 (i : Int), .int .i64 (k : Int)] w fun e w' => RfPost w (rd s F none i k) e w' := by
 intro F
 induction F using Nat.strongRecOn with
 | ind F ih =>
  intro i k w hi hk hF
  have IH := hide ih
  clear ih
  obtain ⟨f, rfl⟩ : ∃ f, F = f + 1 := ⟨F - 1, by omega⟩
  obtain ⟨i0, hi0, hz0, hz1, hz2⟩ := info_parts Tryz.infoTerm
  have HRD : Hid (rd s (f + 1) none i k = if stopAt s i = i then noRd (if i = s.size then 13 else 12)
   else if nameB (s.extract i (stopAt s i)) = false then noRd 1
   else if 200 < k + 1 then noRd 3
   else if stopAt s i < s.size ∧ byteAt s (stopAt s i) = 40 then
    if varB (s.extract i (stopAt s i)) = true then noRd 2 else rd s f (some (s.extract i (stopAt s i), [])) (stopAt s i) (k + 1)
   else ⟨0, ⟨s.extract i (stopAt s i), []⟩, stopAt s i, k + 1⟩) := by unfold Hid; rw [rd]
  generalize rd s (f + 1) none i k = r at *
  go_enter Tryz.func17, Tryz.ntmps17
  go_wp2_with fail
  have R0 := hide (Blk.new w #[.string ⟨#[]⟩, .slice none 0 0] 32)
  have B0 := hide ((Below.refl w.heap.size w).alloc (Nat.le_refl _) (.cells #[.string ⟨#[]⟩, .slice none 0 0] 32))
  generalize w.alloc (.cells #[.string ⟨#[]⟩, .slice none 0 0] 32) = w0 at *
  have hR0 : w.heap.size < w0.heap.size := R0.out.lt
  go_loopw [1] (fun v wr => ∃ j : Nat, v = .int .i64 (j : Int) ∧ i ≤ j ∧ j ≤ s.size ∧ stopAt s i = stopAt s j ∧ wr = w0) (fun v wr => s.size - (intOf v).toNat)
  case atStart => exact ⟨i, rfl, Nat.le_refl _, hi, rfl, rfl⟩
  case round =>
   obtain ⟨j, rfl, hij, hjs, hst, rfl⟩ := hrel
   have HS := hide hst
   clear hst
   by_cases hlt : j < s.size
   ·have hb := hide (byteAt_of hlt)
    cases ha : alnB (byteAt s j) with
    | true =>
     have HA := hide ha
     clear ha
     go_wp2_with (go_at_call 32; refine (isLetterR_any _ _).mono ?_; rintro e wz ⟨rfl, rfl⟩; rw [hb.out, HA.out])
     go_roundw
     case rel => exact ⟨j + 1, by go_num, by omega, by omega, by rw [HS.out, stopAt_go hlt HA.out], by trivial⟩
     case measure => simp [intOf]; omega
    | false =>
     have HA := hide ha
     have HST : Hid (stopAt s i = j) := HS.out.trans (stopAt_end (fun h => by have h1 := h.2; rw [HA.out] at h1; cases h1))
     clear ha
     by_cases hji : j = i
     ·have HJI := hide hji
      have hne : ((j : Int) == (i : Int)) = true := by simp [hji]
      have hjz : ((j : Int) == (s.size : Int)) = false := by simp; omega
      clear hji
      have r0 := R0.out.c0
      have r1 := R0.out.c1
      have rf := R0.out.frozen
      go_wp2_with (go_at_call 32; refine (isLetterR_any _ _).mono ?_; rintro e wz ⟨rfl, rfl⟩; rw [hb.out, HA.out])
      refine bodyPost_ret (v := .tuple #[.agg #[.string ⟨#[]⟩, .slice none 0 0], .int .i64 (j : Int), .int .i64 (k : Int), .int .i64 12]) (by simp [results, Tryz.results17, go_sem, World.cell?_setCell_same, World.cell?_setCell_other, r0, r1]) rfl ?_
      exact rf_no (by rw [HRD.out, HST.out, if_pos HJI.out, if_neg (by have := HJI.out; omega)]) (by decide) ((B0.out.setCell (by simp) _).setCell (by simp) _)
     ·have HJI := hide hji
      have hne : ((j : Int) == (i : Int)) = false := by simp; omega
      have hij2 : (i : Int) ≤ (j : Int) := by omega
      have hj2 : (j : Int) ≤ (s.size : Int) := by omega
      clear hji
      go_wp2_with (go_at_call 32; refine (isLetterR_any _ _).mono ?_; rintro e wz ⟨rfl, rfl⟩; rw [hb.out, HA.out])
      refine (isNameR_any _ _).mono ?_
      rintro e w9 ⟨rfl, rfl⟩
      have R1 := hide (R0.out.alloc (.cells #[.string (s.extract i j), .slice none 0 0] 32))
      have T1 := hide (Blk.new wz #[.string (s.extract i j), .slice none 0 0] 32)
      have B1 := hide (B0.out.alloc B0.out.size (.cells #[.string (s.extract i j), .slice none 0 0] 32))
      have hTT := hR0
      generalize wz.alloc (.cells #[.string (s.extract i j), .slice none 0 0] 32) = w1 at *
      clear R0 B0
      generalize wz.heap.size = T at *
      generalize hnme : s.extract i j = nm at *
      have HNME := hide hnme
      clear hnme
      have t0 := T1.out.c0
      have t1 := T1.out.c1
      have r0 := R1.out.c0
      have r1 := R1.out.c1
      have rf := R1.out.frozen
      cases hn : nameB nm with
      | false =>
       have HN := hide hn
       clear hn
       go_wp2_with fail
       refine bodyPost_ret (v := .tuple #[.agg #[.string nm, .slice none 0 0], .int .i64 (j : Int), .int .i64 (k : Int), .int .i64 1]) (by simp [results, Tryz.results17, go_sem, World.cell?_setCell_same, World.cell?_setCell_other, r0, r1]) rfl ?_
       exact rf_no (by rw [HRD.out, HST.out, if_neg HJI.out, HNME.out, if_pos HN.out]) (by decide) ((B1.out.setCell (by simp) _).setCell (by simp) _)
      | true =>
       have HN : Hid (¬ nameB nm = false) := by unfold Hid; rw [hn]; simp
       clear hn
       by_cases h3 : 200 < k + 1
       ·go_wp2_with fail
        refine bodyPost_ret (v := .tuple #[.agg #[.string nm, .slice none 0 0], .int .i64 (j : Int), .int .i64 ((k : Int) + 1), .int .i64 3]) (by simp [results, Tryz.results17, go_sem, World.cell?_setCell_same, World.cell?_setCell_other, r0, r1]) rfl ?_
        exact rf_no (by rw [HRD.out, HST.out, if_neg HJI.out, HNME.out, if_neg HN.out, if_pos h3]) (by decide) ((B1.out.setCell (by simp) _).setCell (by simp) _)
       ·have hjz : ((j : Int) == (s.size : Int)) = false := by simp; omega
        by_cases h4 : byteAt s j = 40
        ·have hc : ((s[j].toNat : Int) != 40) = false := by rw [hb.out, h4]; rfl
         go_wp2_with fail
         refine (isVarR_any _ _).mono ?_
         rintro e w9 ⟨rfl, rfl⟩
         cases hv : varB nm with
         | true =>
          have HV := hide hv
          clear hv
          go_wp2_with fail
          refine bodyPost_ret (v := .tuple #[.agg #[.string nm, .slice none 0 0], .int .i64 (j : Int), .int .i64 ((k : Int) + 1), .int .i64 2]) (by simp [results, Tryz.results17, go_sem, World.cell?_setCell_same, World.cell?_setCell_other, r0, r1]) rfl ?_
          exact rf_no (by rw [HRD.out, HST.out, if_neg HJI.out, HNME.out, if_neg HN.out, if_neg h3, if_pos ⟨hlt, h4⟩, if_pos HV.out]) (by decide) ((B1.out.setCell (by simp) _).setCell (by simp) _)
         | false =>
          have HV : Hid (¬ varB nm = true) := by unfold Hid; rw [hv]; simp
          have HR0 : Hid (r = rd s f (some (nm, [])) j (k + 1)) := by unfold Hid; rw [HRD.out, HST.out, if_neg HJI.out, HNME.out, if_neg HN.out, if_neg h3, if_pos ⟨hlt, h4⟩, if_neg HV.out]
          clear hv
          go_wp2_with fail
          have hji3 : i < j := by have := HJI.out; omega
          obtain ⟨f0, rfl⟩ : ∃ f0, f = f0 + 1 := ⟨f - 1, by omega⟩
          have HT1 := hide T1.out.lt
          clear t0 t1 r0 r1 rf hc hjz hne
          go_loopw [1, 2] (fun v1 v2 wr => RfInv w T (f0 + 1 + 1) s nm r v1 v2 wr) (fun v1 v2 wr => s.size - (intOf v1).toNat)
          case atStart => exact ⟨f0, [], j, k + 1, .slice none 0 0, [], rfl, by go_num, by omega, by omega, hlt, by simp, by omega, HR0.out, Row.start _ _ _ _, B1.out, R1.out, T1.out, HT1.out⟩
          case round =>
           obtain ⟨f', acc, j2, k2, u, xs, rfl, rfl, hf1, hf2, hj2, hal, hk2, hr, hrow, hbb, hR, hT, hTl⟩ := hrel
           have IHQ := hide (IH.out f' (by omega) (j2 + 1) k2)
           have HQ : Hid (r = if (rd s f' none (j2 + 1) k2).err ≠ 0 then noRd (rd s f' none (j2 + 1) k2).err
  else if (rd s f' none (j2 + 1) k2).pos = s.size then noRd 13
  else if byteAt s (rd s f' none (j2 + 1) k2).pos = 41 then ⟨0, ⟨nm, acc ++ [(rd s f' none (j2 + 1) k2).t]⟩, (rd s f' none (j2 + 1) k2).pos + 1, (rd s f' none (j2 + 1) k2).k⟩
  else if byteAt s (rd s f' none (j2 + 1) k2).pos = 44 then rd s f' (some (nm, acc ++ [(rd s f' none (j2 + 1) k2).t])) (rd s f' none (j2 + 1) k2).pos (rd s f' none (j2 + 1) k2).k
  else noRd 12) := by unfold Hid; rw [hr, rd]
           have HPOS := hide (rd_pos s f' none (j2 + 1) k2)
           have HKK := hide (rd_k s f' none (j2 + 1) k2)
           generalize rd s f' none (j2 + 1) k2 = q at *
           obtain ⟨ua, uc, hu, _⟩ := hrow.sl
           subst hu
           have XE := hide hbb
           have XR := hide hR
           have XT := hide hT
           have XW := hide hrow
           clear hbb hR hT hrow hr
           go_wp2_with fail
           refine (IHQ.out _ (by omega) hk2 (by omega)).mono ?_
           intro e w5 hp
           obtain ⟨hb5, n5, a5, l5, c5, y5, z5, rfl, hyes⟩ := hp
           have B5 := hide hb5
           have hwl : w.heap.size < wr.heap.size := by have := XE.out.size; omega
           have hTl5 : T < w5.heap.size := by have := hb5.size; omega
           have hwl5 : w.heap.size < w5.heap.size := by omega
           have BE := hide (XE.out.trans (hb5.mono XE.out.size))
           have R5 := hide (XR.out.below hb5 hwl)
           have T5 := hide (XT.out.below hb5 hTl)
           clear hb5
           have t0 : ∀ o, (w5.alloc o).cell? ⟨T, 0, none⟩ = some (.string nm) := fun o => (T5.out.alloc o).cell 0
           have t1 : ∀ o, (w5.alloc o).cell? ⟨T, 1, none⟩ = some (.slice ua acc.length uc) := fun o => (T5.out.alloc o).cell 1
           have r0 := R5.out.c0
           have r1 := R5.out.c1
           have rf := R5.out.frozen
           have r0' : ∀ o, (w5.alloc o).cell? ⟨w.heap.size, 0, none⟩ = some (.string ⟨#[]⟩) := fun o => (R5.out.alloc o).cell 0
           have r1' : ∀ o, (w5.alloc o).cell? ⟨w.heap.size, 1, none⟩ = some (.slice none 0 0) := fun o => (R5.out.alloc o).cell 1
           have rf' := fun o => (R5.out.alloc o).frozen
           by_cases hq : q.err = 0
           ·have HQE := hide hq
            have HP9 := hide (HPOS.out hq (by omega) (fun h => by cases h))
            have HK9 := hide (HKK.out hq hk2)
            obtain ⟨rfl, rfl, rfl, rfl, hsl⟩ := hyes hq
            have S5 := hide hsl
            rw [hq]
            clear hq hyes hsl
            have HOWN := hide (((XW.out.below B5.out).own.alloc (.cells #[.string q.t.name, .slice a5 q.t.args.length c5] 32)).alloc (.cells #[.string q.t.name, .slice a5 q.t.args.length c5] 32))
            have HNEW := hide (cell_two_new2 w5 (.cells #[.string q.t.name, .slice a5 q.t.args.length c5] 32) (.string q.t.name) (.slice a5 q.t.args.length c5) 32)
            have HN1 : Hid (∀ x ∈ [Value.string q.t.name, Value.slice a5 q.t.args.length c5], x.oneCell' = true) := fun x hx => by simp at hx; rcases hx with rfl | rfl <;> rfl
            have HL1 : Hid (acc.length + 1 ≤ maxLen ∧ (acc.length + 1) * 40 ≤ 140737488355328) := ⟨by unfold maxLen; omega, by omega⟩
            have HSZ : Hid (T + 1 ≤ ((w5.alloc (.cells #[.string q.t.name, .slice a5 q.t.args.length c5] 32)).alloc (.cells #[.string q.t.name, .slice a5 q.t.args.length c5] 32)).heap.size) := by unfold Hid; simp; omega
            have HE1 := hide (B5.out.alloc B5.out.size (.cells #[.string q.t.name, .slice a5 q.t.args.length c5] 32))
            have HTV : Hid (TV (w5.alloc (.cells #[.string q.t.name, .slice a5 q.t.args.length c5] 32)) (fun b => wr.heap.size ≤ b) (.agg #[.string q.t.name, .slice a5 q.t.args.length c5]) q.t) := ⟨a5, c5, rfl, S5.out.later ((Below.refl w5.heap.size w5).alloc (Nat.le_refl _) _)⟩
            have hqp := HP9.out.2
            have hTne : ¬ w.heap.size = T := by omega
            have hTne2 : ¬ T = w.heap.size := by omega
            by_cases hps : q.pos = s.size
            ·have hz9 : ((q.pos : Int) == (s.size : Int)) = true := by simp [hps]
             have HPS := hide hps
             clear hps
             go_wp2_with (at_builtin; refine wpList_append_lies _ rfl _ _ 30 rfl (T + 1) 32 i0 _ 2 40 Tryz.underlying30 hi0 hz0 hz1 hz2 rfl (by decide) (.slice ua acc.length uc) acc.length xs rfl HOWN.out ⟨w5.heap.size + 1, 0, none⟩ 1 1 [.string q.t.name, .slice a5 q.t.args.length c5] rfl rfl HNEW.out HN1.out (by decide) HL1.out.1 HL1.out.2 HSZ.out _ rfl ?_; intro g cap w3 hown3 hgrow3 hat3 hlt3; have hB3 := hide (((T5.out.alloc _).alloc _).grown hgrow3 (XW.out.ne (Nat.lt_succ_self _))); have hR3 := hide (((R5.out.alloc _).alloc _).grown hgrow3 (XW.out.ne (by omega))); have hc4 : w3.cell? ⟨T, 0, none⟩ = some (.string nm) := hB3.out.cell 0; have hc5 : w3.cell? ⟨T, 1, none⟩ = some (.slice ua acc.length uc) := hB3.out.cell 1; have hf5 := hB3.out.frozen 1; have hd0 : w3.cell? ⟨w.heap.size, 0, none⟩ = some (.string ⟨#[]⟩) := hR3.out.cell 0; have hd1 : w3.cell? ⟨w.heap.size, 1, none⟩ = some (.slice none 0 0) := hR3.out.cell 1; have hdf := hR3.out.frozen; have HFIN := hide (rf_step hTT hTl XW.out XE.out XR.out XT.out HE1.out HTV.out hown3 hgrow3 hat3))
             refine bodyPost_ret (v := .tuple #[.agg #[.string nm, .slice (some ⟨g, 0, none⟩) (acc.length + 1) cap], .int .i64 (q.pos : Int), .int .i64 (q.k : Int), .int .i64 13]) (by simp [results, Tryz.results17, go_sem, World.cell?_setCell_same, World.cell?_setCell_other, hd0, hd1, hc4, hc5, hTne, hTne2]) rfl ?_
             exact rf_no (by rw [HQ.out, if_neg (by rw [HQE.out]; simp), if_pos HPS.out]) (by decide) ((HFIN.out.2.1.setCell (by simp) _).setCell (by simp) _)
            ·have hz9 : ((q.pos : Int) == (s.size : Int)) = false := by simp; omega
             have hl9 : q.pos < s.size := by omega
             have hb9 := hide (byteAt_of hl9)
             have hl92 : (q.pos : Int) < (s.size : Int) := by omega
             by_cases h41 : byteAt s q.pos = 41
             ·have hc9 : ((s[q.pos].toNat : Int) == 41) = true := by rw [hb9.out, h41]; rfl
              have H41 := hide h41
              clear h41
              go_wp2_with (at_builtin; refine wpList_append_lies _ rfl _ _ 30 rfl (T + 1) 32 i0 _ 2 40 Tryz.underlying30 hi0 hz0 hz1 hz2 rfl (by decide) (.slice ua acc.length uc) acc.length xs rfl HOWN.out ⟨w5.heap.size + 1, 0, none⟩ 1 1 [.string q.t.name, .slice a5 q.t.args.length c5] rfl rfl HNEW.out HN1.out (by decide) HL1.out.1 HL1.out.2 HSZ.out _ rfl ?_; intro g cap w3 hown3 hgrow3 hat3 hlt3; have hB3 := hide (((T5.out.alloc _).alloc _).grown hgrow3 (XW.out.ne (Nat.lt_succ_self _))); have hR3 := hide (((R5.out.alloc _).alloc _).grown hgrow3 (XW.out.ne (by omega))); have hc4 : w3.cell? ⟨T, 0, none⟩ = some (.string nm) := hB3.out.cell 0; have hc5 : w3.cell? ⟨T, 1, none⟩ = some (.slice ua acc.length uc) := hB3.out.cell 1; have hf5 := hB3.out.frozen 1; have hd0 : w3.cell? ⟨w.heap.size, 0, none⟩ = some (.string ⟨#[]⟩) := hR3.out.cell 0; have hd1 : w3.cell? ⟨w.heap.size, 1, none⟩ = some (.slice none 0 0) := hR3.out.cell 1; have hdf := hR3.out.frozen; have HFIN := hide (rf_step hTT hTl XW.out XE.out XR.out XT.out HE1.out HTV.out hown3 hgrow3 hat3))
              refine bodyPost_ret (v := .tuple #[.agg #[.string nm, .slice (some ⟨g, 0, none⟩) (acc.length + 1) cap], .int .i64 ((q.pos : Int) + 1), .int .i64 (q.k : Int), .int .i64 0]) (by simp [results, Tryz.results17, go_sem, World.cell?_setCell_same, World.cell?_setCell_other, hd0, hd1, hc4, hc5, hTne, hTne2]) rfl ?_
              exact rf_yes2 (by rw [HQ.out, if_neg (by rw [HQE.out]; simp), if_neg hps, if_pos H41.out]) hTT HFIN.out.1 HFIN.out.2.1
             ·have hc9 : ((s[q.pos].toNat : Int) == 41) = false := by rw [hb9.out]; simpa using h41
              by_cases h44 : byteAt s q.pos = 44
              ·have hc8 : ((s[q.pos].toNat : Int) != 44) = false := by rw [hb9.out, h44]; rfl
               obtain ⟨f2, rfl⟩ : ∃ f2, f' = f2 + 1 := ⟨f' - 1, by omega⟩
               have HR9 : Hid (r = rd s (f2 + 1) (some (nm, acc ++ [q.t])) q.pos q.k) := by unfold Hid; rw [HQ.out, if_neg (by rw [HQE.out]; simp), if_neg hps, if_neg h41, if_pos h44]
               clear h44 h41
               go_wp2_with (at_builtin; refine wpList_append_lies _ rfl _ _ 30 rfl (T + 1) 32 i0 _ 2 40 Tryz.underlying30 hi0 hz0 hz1 hz2 rfl (by decide) (.slice ua acc.length uc) acc.length xs rfl HOWN.out ⟨w5.heap.size + 1, 0, none⟩ 1 1 [.string q.t.name, .slice a5 q.t.args.length c5] rfl rfl HNEW.out HN1.out (by decide) HL1.out.1 HL1.out.2 HSZ.out _ rfl ?_; intro g cap w3 hown3 hgrow3 hat3 hlt3; have hB3 := hide (((T5.out.alloc _).alloc _).grown hgrow3 (XW.out.ne (Nat.lt_succ_self _))); have hR3 := hide (((R5.out.alloc _).alloc _).grown hgrow3 (XW.out.ne (by omega))); have hc4 : w3.cell? ⟨T, 0, none⟩ = some (.string nm) := hB3.out.cell 0; have hc5 : w3.cell? ⟨T, 1, none⟩ = some (.slice ua acc.length uc) := hB3.out.cell 1; have hf5 := hB3.out.frozen 1; have hd0 : w3.cell? ⟨w.heap.size, 0, none⟩ = some (.string ⟨#[]⟩) := hR3.out.cell 0; have hd1 : w3.cell? ⟨w.heap.size, 1, none⟩ = some (.slice none 0 0) := hR3.out.cell 1; have hdf := hR3.out.frozen; have HFIN := hide (rf_step hTT hTl XW.out XE.out XR.out XT.out HE1.out HTV.out hown3 hgrow3 hat3))
               go_roundw
               case rel =>
                obtain ⟨g1, g2, g3, g4, g5⟩ := HFIN.out
                have hp9 := HP9.out
                exact ⟨f2, acc ++ [q.t], q.pos, q.k, _, _, rfl, rfl, by omega, by omega, hl9, by simp; omega, HK9.out, HR9.out, g1, g2, g3, g4, g5⟩
               case measure =>
                have hp9 := HP9.out
                simp [intOf]; omega
              ·have hc8 : ((s[q.pos].toNat : Int) != 44) = true := by rw [hb9.out]; simpa using h44
               have HR9 : Hid (r = noRd 12) := by unfold Hid; rw [HQ.out, if_neg (by rw [HQE.out]; simp), if_neg hps, if_neg h41, if_neg h44]
               clear h44 h41
               go_wp2_with (at_builtin; refine wpList_append_lies _ rfl _ _ 30 rfl (T + 1) 32 i0 _ 2 40 Tryz.underlying30 hi0 hz0 hz1 hz2 rfl (by decide) (.slice ua acc.length uc) acc.length xs rfl HOWN.out ⟨w5.heap.size + 1, 0, none⟩ 1 1 [.string q.t.name, .slice a5 q.t.args.length c5] rfl rfl HNEW.out HN1.out (by decide) HL1.out.1 HL1.out.2 HSZ.out _ rfl ?_; intro g cap w3 hown3 hgrow3 hat3 hlt3; have hB3 := hide (((T5.out.alloc _).alloc _).grown hgrow3 (XW.out.ne (Nat.lt_succ_self _))); have hR3 := hide (((R5.out.alloc _).alloc _).grown hgrow3 (XW.out.ne (by omega))); have hc4 : w3.cell? ⟨T, 0, none⟩ = some (.string nm) := hB3.out.cell 0; have hc5 : w3.cell? ⟨T, 1, none⟩ = some (.slice ua acc.length uc) := hB3.out.cell 1; have hf5 := hB3.out.frozen 1; have hd0 : w3.cell? ⟨w.heap.size, 0, none⟩ = some (.string ⟨#[]⟩) := hR3.out.cell 0; have hd1 : w3.cell? ⟨w.heap.size, 1, none⟩ = some (.slice none 0 0) := hR3.out.cell 1; have hdf := hR3.out.frozen; have HFIN := hide (rf_step hTT hTl XW.out XE.out XR.out XT.out HE1.out HTV.out hown3 hgrow3 hat3))
               refine bodyPost_ret (v := .tuple #[.agg #[.string nm, .slice (some ⟨g, 0, none⟩) (acc.length + 1) cap], .int .i64 (q.pos : Int), .int .i64 (q.k : Int), .int .i64 12]) (by simp [results, Tryz.results17, go_sem, World.cell?_setCell_same, World.cell?_setCell_other, hd0, hd1, hc4, hc5, hTne, hTne2]) rfl ?_
               exact rf_no HR9.out (by decide) ((HFIN.out.2.1.setCell (by simp) _).setCell (by simp) _)
           ·have HQE := hide hq
            have hqe : (q.err == 0) = false := by simpa using hq
            clear hq hyes
            go_wp2_with fail
            refine bodyPost_ret (v := .tuple #[.agg #[.string nm, .slice ua acc.length uc], .int .i64 y5, .int .i64 z5, .int .i64 q.err]) (by simp [results, Tryz.results17, go_sem, World.cell?_setCell_same, World.cell?_setCell_other, r0, r1, hwl5, World.cell?_alloc_old]) rfl ?_
            exact rf_no (by rw [HQ.out, if_pos HQE.out]) HQE.out (((BE.out.setCell (by simp) _).setCell (by simp) _).alloc (by have := BE.out.size; simpa [World.setCell] using this) _)
        ·have hc : ((s[j].toNat : Int) != 40) = true := by rw [hb.out]; simpa using h4
         have H4 : Hid (¬ (j < s.size ∧ byteAt s j = 40)) := fun h => h4 h.2
         go_wp2_with fail
         refine bodyPost_ret (v := .tuple #[.agg #[.string nm, .slice none 0 0], .int .i64 (j : Int), .int .i64 ((k : Int) + 1), .int .i64 0]) (by simp [results, Tryz.results17, go_sem, World.cell?_setCell_same, World.cell?_setCell_other, r0, r1]) rfl ?_
         exact rf_yes (args := []) (k := k + 1) (by rw [HRD.out, HST.out, if_neg HJI.out, HNME.out, if_neg HN.out, if_neg h3, if_neg H4.out]) ⟨by simp, Or.inl rfl⟩ ((B1.out.setCell (by simp) _).setCell (by simp) _)
   ·have HST : Hid (stopAt s i = j) := HS.out.trans (stopAt_end (fun h => hlt h.1))
    by_cases hji : j = i
    ·have HJI := hide hji
     have hne : ((j : Int) == (i : Int)) = true := by simp [hji]
     have hjz : ((j : Int) == (s.size : Int)) = true := by simp; omega
     clear hji
     have r0 := R0.out.c0
     have r1 := R0.out.c1
     have rf := R0.out.frozen
     go_wp2_with fail
     refine bodyPost_ret (v := .tuple #[.agg #[.string ⟨#[]⟩, .slice none 0 0], .int .i64 (j : Int), .int .i64 (k : Int), .int .i64 13]) (by simp [results, Tryz.results17, go_sem, World.cell?_setCell_same, World.cell?_setCell_other, r0, r1]) rfl ?_
     exact rf_no (by rw [HRD.out, HST.out, if_pos HJI.out, if_pos (by have := HJI.out; omega)]) (by decide) ((B0.out.setCell (by simp) _).setCell (by simp) _)
    ·have HJI := hide hji
     have hne : ((j : Int) == (i : Int)) = false := by simp; omega
     have hij2 : (i : Int) ≤ (j : Int) := by omega
     have hj2 : (j : Int) ≤ (s.size : Int) := by omega
     clear hji
     go_wp2_with fail
     refine (isNameR_any _ _).mono ?_
     rintro e w9 ⟨rfl, rfl⟩
     have R1 := hide (R0.out.alloc (.cells #[.string (s.extract i j), .slice none 0 0] 32))
     have T1 := hide (Blk.new wr #[.string (s.extract i j), .slice none 0 0] 32)
     have B1 := hide (B0.out.alloc B0.out.size (.cells #[.string (s.extract i j), .slice none 0 0] 32))
     have hTT := hR0
     generalize wr.alloc (.cells #[.string (s.extract i j), .slice none 0 0] 32) = w1 at *
     clear R0 B0
     generalize wr.heap.size = T at *
     generalize hnme : s.extract i j = nm at *
     have HNME := hide hnme
     clear hnme
     have t0 := T1.out.c0
     have t1 := T1.out.c1
     have r0 := R1.out.c0
     have r1 := R1.out.c1
     have rf := R1.out.frozen
     cases hn : nameB nm with
     | false =>
      have HN := hide hn
      clear hn
      go_wp2_with fail
      refine bodyPost_ret (v := .tuple #[.agg #[.string nm, .slice none 0 0], .int .i64 (j : Int), .int .i64 (k : Int), .int .i64 1]) (by simp [results, Tryz.results17, go_sem, World.cell?_setCell_same, World.cell?_setCell_other, r0, r1]) rfl ?_
      exact rf_no (by rw [HRD.out, HST.out, if_neg HJI.out, HNME.out, if_pos HN.out]) (by decide) ((B1.out.setCell (by simp) _).setCell (by simp) _)
     | true =>
      have HN : Hid (¬ nameB nm = false) := by unfold Hid; rw [hn]; simp
      clear hn
      by_cases h3 : 200 < k + 1
      ·go_wp2_with fail
       refine bodyPost_ret (v := .tuple #[.agg #[.string nm, .slice none 0 0], .int .i64 (j : Int), .int .i64 ((k : Int) + 1), .int .i64 3]) (by simp [results, Tryz.results17, go_sem, World.cell?_setCell_same, World.cell?_setCell_other, r0, r1]) rfl ?_
       exact rf_no (by rw [HRD.out, HST.out, if_neg HJI.out, HNME.out, if_neg HN.out, if_pos h3]) (by decide) ((B1.out.setCell (by simp) _).setCell (by simp) _)
      ·have H4 : Hid (¬ (j < s.size ∧ byteAt s j = 40)) := fun h => by omega
       have hjz : ((j : Int) == (s.size : Int)) = true := by simp; omega
       go_wp2_with fail
       refine bodyPost_ret (v := .tuple #[.agg #[.string nm, .slice none 0 0], .int .i64 (j : Int), .int .i64 ((k : Int) + 1), .int .i64 0]) (by simp [results, Tryz.results17, go_sem, World.cell?_setCell_same, World.cell?_setCell_other, r0, r1]) rfl ?_
       exact rf_yes (args := []) (k := k + 1) (by rw [HRD.out, HST.out, if_neg HJI.out, HNME.out, if_neg HN.out, if_neg h3, if_neg H4.out]) ⟨by simp, Or.inl rfl⟩ ((B1.out.setCell (by simp) _).setCell (by simp) _)
end Go.Proofs.YtbnmlkaejdpigaaGreatDoor
