/- Walks: the classes, as the document says (ClassesOf). -/
import Derived.Test.YtdmaijmglblccaaGreatDoorKl33
import Derived.Test.YtdmaijmglblccaaGreatDoorKl17
import Derived.BigQuiet
namespace Go.Proofs.YtdmaijmglblccaaGreatDoor
open Go.RowKit
set_option linter.unusedSimpArgs false
set_option linter.unusedVariables false
set_option maxRecDepth 8000

/-- What ClassesOf answers. -/
def CsP (ls : List Pr) (w : World) (e : Ending) (w' : World) : Prop :=
  Below w.heap.size w w' ∧ ∃ (a : Option Addr) (c : Nat) (ps : List (Value × List ByteArray)), e = .returned (.slice a ps.length c) ∧ (ps = [] ∨ ∃ g, a = some ⟨g, 0, none⟩ ∧ ∀ j (h : j < ps.length), w'.cell? ⟨g, j, none⟩ = some ps[j].1) ∧ (∀ p ∈ ps, LV Value.string w' (fun _ => True) p.1 p.2) ∧ ClsR ls (· ∈ preL (prT ls)) (ps.map (·.2)) ∧ ps.length ≤ 1000
/-- A row of rows of texts, while it is made. -/
structure CoI (N : Nat) (ps : List (Value × List ByteArray)) (ov : Value) (w : World) : Prop where
  own : w.ownsRow N 31 1 ov (ps.map (·.1)).length (ps.map (·.1))
  lv : ∀ p ∈ ps, LV Value.string w (fun b => some b ≠ ov.ownBlock) p.1 p.2
theorem CoI.later {N : Nat} {ps : List (Value × List ByteArray)} {ov : Value} {w w' : World} (h : CoI N ps ov w) (hb : Below w.heap.size w w') : CoI N ps ov w' :=
  ⟨ownsRow_at h.own fun g hg => hb.block g (h.own.lt g hg).2, fun p hp => (h.lv p hp).later hb⟩
theorem LV.exq {α : Type} {f : α → Value} {w w' : World} {X Q : Nat → Prop} {v : Value} {l : List α} (h : LV f w X v l) (he : ExQ Q w w') (hX : ∀ b, X b → ¬ Q b) : LV f w' X v l :=
  ((h.mono (Y := fun b => X b ∧ b < w.heap.size) fun b h1 h2 => ⟨h1, h2⟩).kept fun b hb => he.block b hb.2 (hX b hb.1)).mono fun b hb _ => hb.1
theorem CoI.nil (N : Nat) (w : World) : CoI N [] (.slice none 0 0) w := ⟨World.ownsRow_nil _ _ _ _, fun p hp => by cases hp⟩
/-- One more. -/
theorem CoI.push {N : Nat} {ps : List (Value × List ByteArray)} {ov : Value} {w : World} (h : CoI N ps ov w) (hN : N ≤ w.heap.size) (hl : ps.length ≤ 100000) {al : Option Addr} {nl cl : Nat} {l : List ByteArray} (hv : LV Value.string w (fun b => some b ≠ ov.ownBlock) (.slice al nl cl) l) :
    ∃ g cap w3, (Builtin.append_ #[37, 37] 37 #[ov, .slice (some ⟨w.heap.size, 0, none⟩) 1 1]).run Tryz.prog (w.alloc (.cells #[.slice al nl cl] 31)) = .ok (.slice (some ⟨g, 0, none⟩) (ps.length + 1) cap) w3 ∧ CoI N (ps ++ [(.slice al nl cl, l)]) (.slice (some ⟨g, 0, none⟩) (ps.length + 1) cap) w3 ∧ Below N w w3 := by
  obtain ⟨g, cap, w3, hr, ho, hat, hx⟩ := appK_own Tryz.underlying37 Tryz.infoStrs rfl (by decide) h.own hN (by rw [List.length_map]; omega) (.slice al nl cl) rfl
  rw [List.length_map] at hr
  have e : ps.map (·.1) ++ [Value.slice al nl cl] = (ps ++ [(Value.slice al nl cl, l)]).map (·.1) := by simp
  rw [e] at ho
  have hk : ∀ (v : Value) (m : List ByteArray), LV Value.string w (fun b => some b ≠ ov.ownBlock) v m → LV Value.string w3 (fun b => some b ≠ (Value.slice (some ⟨g, 0, none⟩) (ps.length + 1) cap).ownBlock) v m := fun v m hm => by
    have h1 : LV Value.string w (fun b => some b ≠ ov.ownBlock ∧ b < w.heap.size) v m := hm.mono fun b h1 h2 => ⟨h1, h2⟩
    refine (h1.exq hx fun b hb e => hb.1 e.symm).mono fun b hb _ e2 => ?_
    have e3 : b = g := by simpa [Value.ownBlock] using e2
    rcases hat with h4 | h4
    · exact hb.1 (by rw [h4, e3])
    · omega
  refine ⟨g, cap, w3, hr, ⟨?_, fun p hp => ?_⟩, hx.below hN fun b hb => (h.own.lt b hb).1⟩
  · have e2 : ((ps ++ [(Value.slice al nl cl, l)]).map (·.1)).length = ps.length + 1 := by simp
    rw [e2] at ho ⊢
    exact ho
  · rcases List.mem_append.1 hp with hp | hp
    · exact hk _ _ (h.lv p hp)
    · simp at hp
      subst hp
      exact hk _ _ hv
theorem CoI.cell {N n c : Nat} {ps : List (Value × List ByteArray)} {a : Option Addr} {w : World} (h : CoI N ps (.slice a n c) w) {i : Nat} {p : Value × List ByteArray} (hi : ps[i]? = some p) : ∃ g, a = some ⟨g, 0, none⟩ ∧ w.cell? ⟨g, i, none⟩ = some p.1 ∧ N ≤ g ∧ g < w.heap.size := by
  have hil : i < ps.length := (List.getElem?_eq_some_iff.1 hi).1
  obtain ⟨g, cap, hv, hg, hlt⟩ := h.own.form (by rw [List.length_map]; omega)
  cases hv
  refine ⟨g, rfl, ?_, hg, hlt⟩
  rw [h.own.cellAt i (by rw [List.length_map]; omega), List.getElem?_map, hi]
  rfl
theorem CoI.frz {N n c g : Nat} {ps : List (Value × List ByteArray)} {w : World} (h : CoI N ps (.slice (some ⟨g, 0, none⟩) n c) w) (i : Nat) : w.frozen? ⟨g, i, none⟩ = false := by
  obtain rfl : n = (ps.map (·.1)).length := by
    obtain ⟨a', c', e⟩ := own_shapeH h.own
    cases e
    rfl
  exact h.own.frozenAt i
/-- Two places are changed. -/
theorem CoI.swap {N n c g j : Nat} {ps : List (Value × List ByteArray)} {q p : Value × List ByteArray} {w : World} (h : CoI N (insJ ps p (j + 1)) (.slice (some ⟨g, 0, none⟩) n c) w) (hj : j < ps.length) (hq : ps[j] = q) : CoI N (insJ ps p j) (.slice (some ⟨g, 0, none⟩) n c) ((w.setCell ⟨g, j + 1, none⟩ q.1).setCell ⟨g, j, none⟩ p.1) := by
  obtain rfl : n = ((insJ ps p (j + 1)).map (·.1)).length := by
    obtain ⟨a', c', e⟩ := own_shapeH h.own
    cases e
    rfl
  obtain ⟨h1, h2⟩ := h.own.stored (j + 1) q.1
  obtain ⟨h3, h4⟩ := h1.stored j p.1
  have e : (((insJ ps p (j + 1)).map (·.1)).set (j + 1) q.1).set j p.1 = (insJ ps p j).map (·.1) := by
    rw [← insJ_step (p := p) hj, hq, List.map_set, List.map_set]
  have el : ((insJ ps p (j + 1)).map (·.1)).length = ((insJ ps p j).map (·.1)).length := by rw [← e]; simp
  rw [e] at h3
  rw [el] at h3 ⊢
  have hx : ExQ (fun b => b = g) w ((w.setCell ⟨g, j + 1, none⟩ q.1).setCell ⟨g, j, none⟩ p.1) := ((ExQ.refl (fun b => b = g) w).set (B := g) rfl _ _).set (B := g) rfl _ _
  refine ⟨h3, fun r hr => (h.lv r ?_).exq hx fun b hb e => hb (by rw [e]; rfl)⟩
  have := insJ_mem.1 hr
  exact insJ_mem.2 this
/-- The first text of a row. -/
theorem lv_first {w : World} {X : Nat → Prop} {v : Value} {x : ByteArray} {r : List ByteArray} (h : LV Value.string w X v (x :: r)) : ∃ b o c, v = .slice (some ⟨b, o, none⟩) (r.length + 1) c ∧ w.cell? ⟨b, o, none⟩ = some (.string x) := by
  obtain ⟨a, c, e, _, h⟩ := h
  rcases h with h | ⟨b, o, e2, _, hc⟩
  · cases h
  · subst e2
    exact ⟨b, o, c, e, hc 0 (by simp)⟩
/-- At each round's head. -/
def CxI (L : List Tm) (K : List Nat) (n : Nat) (w4 : World) (ov kv : Value) (wr : World) : Prop :=
  ∃ (k : Nat) (ps : List (Value × List ByteArray)), kv = .int .i64 (k : Int) ∧ k ≤ n ∧ CoI w4.heap.size ps ov wr ∧ (∀ p ∈ ps, p.2 ≠ []) ∧ CoP L K k (ps.map (·.2)) ∧ Below w4.heap.size w4 wr
def CyI (L : List Tm) (K : List Nat) (n k : Nat) (wa : World) (lv iv : Value) (wr : World) : Prop :=
  ∃ i : Nat, iv = .int .i64 (i : Int) ∧ i ≤ n ∧ wr.ownsRow wa.heap.size 9 1 lv ((kdT L K k i).map Value.string).length ((kdT L K k i).map Value.string) ∧ Below wa.heap.size wa wr
def CzI (N : Nat) (ps : List (Value × List ByteArray)) (p : Value × List ByteArray) (ov : Value) (w5 : World) (jv : Value) (wr : World) : Prop :=
  ∃ j : Nat, jv = .int .i64 (j : Int) ∧ j ≤ ps.length ∧ CoI N (insJ ps p j) ov wr ∧ (∀ q ∈ (ps.map (·.2)).drop j, lxR p.2 q) ∧ Below N w5 wr
set_option maxHeartbeats 8000000 in
theorem classesOf_any (ls : List Pr) (u : Value) (w : World) (X : Nat → Prop) (hu : QV w X u ls) (he : errL (prT ls) = 0) (hz : sizeL (prT ls) ≤ 900) :
    Calls Tryz.prog 13 #[u] w (CsP ls w) := by
  have HE : Hid (errL (prT ls ++ []) = 0) := by unfold Hid; rw [List.append_nil]; exact he
  have HZ : Hid (sizeL (prT ls ++ []) ≤ 900) := by unfold Hid; rw [List.append_nil]; exact hz
  have HCO := hide (closureOf_any ls [] u none 0 w X hu ⟨by simp, Or.inl rfl⟩ HE.out HZ.out)
  obtain ⟨ua, uc, rfl, hul, huu⟩ := id hu
  clear hu he hz huu
  go_enter Tryz.func13, Tryz.ntmps13
  go_wp2_with (go_at_call 27; refine HCO.out.mono ?_; rintro e w4 ⟨hb4, L, K, oa, oc, Gk, rfl, hsl, hgk, hnum, hdone, hmem, hkl, hklt, hln⟩)
  obtain ⟨n, hn⟩ : ∃ n, n = L.length := ⟨_, rfl⟩
  have HN := hide hn
  rw [← hn] at hln ⊢
  have HSL := hide hsl
  have HGK := hide hgk
  have HNUM := hide hnum
  have HDON := hide hdone
  have HMEM : Hid (∀ x, x ∈ L ↔ x ∈ preL (prT ls)) := fun x => by have := hmem x; rwa [List.append_nil] at this
  have HKL := hide hkl
  have HKT := hide hklt
  have HB4 := hide hb4
  have HER : Hid (∀ x ∈ L, errL [x] = 0) := fun x hx => errL_inK HE.out x (by rw [List.append_nil]; exact (HMEM.out x).1 hx)
  have HSZ : Hid (∀ x ∈ L, sizeL [x] ≤ 1000) := fun x hx => by have h1 := pre_sizeK _ ((HMEM.out x).1 hx); have h2 := HZ.out; rw [List.append_nil] at h2; omega
  clear hb4 hsl hgk hnum hdone hmem hkl hklt hn HCO
  have HWE : Hid (∀ W, Below w4.heap.size w4 W → Below w.heap.size w W) := fun W hb => HB4.out.trans (hb.mono HB4.out.size)
  go_wp2_with fail
  go_loopw [5, 6] (fun ov kv wr => CxI L K n w4 ov kv wr) (fun ov kv wr => n - (intOf kv).toNat)
  case atStart => exact ⟨0, [], rfl, Nat.zero_le _, CoI.nil _ _, (fun p hp => by cases hp), CoP.start L K, Below.refl _ _⟩
  case round =>
    obtain ⟨k, ps, rfl, hk, hco, hne, hcp, hbr⟩ := hrel
    have HCI := hide hco
    have HNE := hide hne
    have HCP := hide hcp
    have HBR := hide hbr
    clear hco hne hcp hbr
    obtain ⟨wa, hwa⟩ : ∃ x, x = wr := ⟨_, rfl⟩
    rw [← hwa] at HCI HBR ⊢
    clear hwa
    have hpl : ps.length ≤ 1000 := by have h := HCP.out.len; rw [List.length_map] at h; omega
    obtain ⟨qa, qc, eq_⟩ := own_shapeH HCI.out.own
    rw [List.length_map] at eq_
    subst eq_
    by_cases hlt : k < n
    · have hki : (k : Int) < (n : Int) := by omega
      go_wp2_with fail
      go_loopw [7, 8] (fun lv iv wr => CyI L K n k wa lv iv wr) (fun lv iv wr => n - (intOf iv).toNat)
      case atStart => exact ⟨0, rfl, Nat.zero_le _, by simpa [kdT] using World.ownsRow_nil _ _ _ _, Below.refl _ _⟩
      case round =>
        obtain ⟨i, rfl, hi, hrow, hbi⟩ := hrel
        have HRW := hide hrow
        have HBI := hide hbi
        obtain ⟨la, lc, el⟩ := own_shapeH hrow
        have hkl2 := kdT_len L K k i
        rw [List.length_map] at el
        subst el
        clear hrow hbi
        obtain ⟨wb, hwb⟩ : ∃ x, x = wr := ⟨_, rfl⟩
        rw [← hwb] at HRW HBI ⊢
        clear hwb
        have HB4b : Hid (Below w4.heap.size w4 wb) := HBR.out.trans (HBI.out.mono HBR.out.size)
        obtain ⟨m, hm⟩ : ∃ m, m = (kdT L K k i).length := ⟨_, rfl⟩
        have HM := hide hm
        rw [← hm] at hkl2 ⊢
        have HRW2 : Hid (wb.ownsRow wa.heap.size 9 1 (.slice la m lc) ((kdT L K k i).map Value.string).length ((kdT L K k i).map Value.string)) := by unfold Hid; rw [hm]; exact HRW.out
        clear hm HRW
        by_cases hli : i < n
        · have hii : (i : Int) < (n : Int) := by omega
          have hiL : i < L.length := by have := HN.out; omega
          have k1 : wb.cell? ⟨Gk, i, none⟩ = some (.int .i64 ((gd K 0 i : Nat) : Int)) := by
            have h1 := HGK.out.below HB4b.out HGK.out.lt
            rw [h1.cell i, List.getElem?_toArray, iL_get (by rw [HKL.out]; exact hiL)]
          obtain ⟨b9, o9, rfl, hlies⟩ : ∃ b9 o9, oa = some ⟨b9, o9, none⟩ ∧ Lies w4 (fun _ => True) b9 o9 L := by
            rcases HSL.out.2 with h | ⟨b9, o9, e, h⟩
            · rw [h] at hiL; exact absurd hiL (Nat.not_lt_zero _)
            · exact ⟨b9, o9, e, h⟩
          obtain ⟨-, d0, ⟨ax, cx, d1, hsx⟩⟩ := lies_get _ _ _ hlies i hiL
          have hbl : b9 < w4.heap.size := World.block_lt_of_cell? w4 _ d0
          have e0 : wb.cell? ⟨b9, o9 + i * 2, none⟩ = some (.string L[i].name) := (HB4b.out.cell (p := ⟨b9, o9 + i * 2, none⟩) hbl).trans d0
          have e1 : wb.cell? ⟨b9, o9 + i * 2 + 1, none⟩ = some (.slice ax L[i].args.length cx) := (HB4b.out.cell (p := ⟨b9, o9 + i * 2 + 1, none⟩) hbl).trans d1
          have HSX := hide (hsx.later HB4b.out)
          have HXE : Hid (errL [L[i]] = 0 ∧ sizeL [L[i]] ≤ 1000) := ⟨HER.out _ (List.getElem_mem hiL), HSZ.out _ (List.getElem_mem hiL)⟩
          have HGD : Hid (gd L noK i = L[i]) := gd_get hiL
          have HY := hide (fun h => kdT_yes (L := L) (K := K) (k := k) (i := i) h)
          have HNO := hide (fun h => kdT_no (L := L) (K := K) (k := k) (i := i) h)
          rw [HGD.out] at HY
          generalize L[i] = x at *
          clear hlies d0 d1 hbl hsx hiL HGD
          obtain ⟨z, hzz⟩ : ∃ z, z = gd K 0 i := ⟨_, rfl⟩
          rw [← hzz] at k1 HY HNO
          clear hzz
          by_cases hzk : z = k
          · have hzi : ((z : Int) == (k : Int)) = true := by rw [hzk]; simp
            have HYE := hide (HY.out hzk)
            clear hzk
            go_wp2_with fail
            refine (show_any x _ _ _ ⟨ax, cx, rfl, HSX.out⟩ (txt_mayK HXE.out.1 HXE.out.2)).mono ?_
            rintro e wc ⟨rfl, hbc⟩
            rw [show (⟨(txtL [x]).toArray⟩ : ByteArray) = txB x from rfl]
            have HBC : Hid (Below wa.heap.size wa wc) := HBI.out.trans (hbc.mono HBI.out.size)
            have HRC : Hid (wc.ownsRow wa.heap.size 9 1 (.slice la m lc) ((kdT L K k i).map Value.string).length ((kdT L K k i).map Value.string)) := ownsRow_at HRW2.out fun g hg => hbc.block g (HRW2.out.lt g hg).2
            clear hbc k1 e0 e1 HRW2 HSX
            obtain ⟨g5, cap5, w5, hr5, ho5, hat5, hx5⟩ := appK_own Tryz.underlying31 Tryz.infoStr rfl (by decide) HRC.out HBC.out.size (by rw [List.length_map, ← HM.out]; omega) (.string (txB x)) rfl
            rw [List.length_map, ← HM.out] at hr5
            have HR5 := hide hr5
            have HO5 : Hid (w5.ownsRow wa.heap.size 9 1 (.slice (some ⟨g5, 0, none⟩) (m + 1) cap5) ((kdT L K k (i + 1)).map Value.string).length ((kdT L K k (i + 1)).map Value.string)) := by
              unfold Hid
              rw [HYE.out, List.map_append]
              have e3 : ((kdT L K k i).map Value.string ++ [Value.string (txB x)]).length = m + 1 := by rw [List.length_append, List.length_map, ← HM.out]; rfl
              rw [e3] at ho5
              rw [List.map_singleton, e3]
              exact ho5
            have HB5 : Hid (Below wa.heap.size wa w5) := HBC.out.trans (hx5.below HBC.out.size fun b hb => (HRC.out.lt b hb).1)
            clear hr5 ho5 hat5 hx5
            go_wp2_with (at_builtin; refine wpList_append_eq rfl _ _ _ _ rfl rfl rfl HR5.out ?_)
            go_roundw
            case rel => exact ⟨i + 1, by go_num, by omega, HO5.out, HB5.out⟩
            case measure => simp [intOf]; omega
          · have hzi : ((z : Int) == (k : Int)) = false := by simp; omega
            have HNE2 := hide (HNO.out hzk)
            have HRN : Hid (wb.ownsRow wa.heap.size 9 1 (.slice la m lc) ((kdT L K k (i + 1)).map Value.string).length ((kdT L K k (i + 1)).map Value.string)) := by unfold Hid; rw [HNE2.out]; exact HRW2.out
            clear hzk
            go_wp2_with fail
            go_roundw
            case rel => exact ⟨i + 1, by go_num, by omega, HRN.out, HBI.out⟩
            case measure => simp [intOf]; omega
        · have hii : ¬ (i : Int) < (n : Int) := by omega
          have HIN : Hid (i = L.length) := by have := HN.out; unfold Hid; omega
          have hml : m ≤ 1000 := by omega
          by_cases hm0 : m = 0
          · have HC1 : Hid (CoP L K (k + 1) (ps.map (·.2))) := HCP.out.skip (List.length_eq_zero_iff.1 (by rw [← HIN.out, ← HM.out]; exact hm0))
            subst hm0
            have HCN := hide (HCI.out.later HBI.out)
            go_wp2_with fail
            go_roundw
            case rel => exact ⟨k + 1, ps, by go_num, by omega, HCN.out, HNE.out, HC1.out, HB4b.out⟩
            case measure => simp [intOf]; omega
          · have hm1 : ((m : Int) == 0) = false := by simp; omega
            have HM0 : Hid (m ≠ 0) := hm0
            have LVT : Hid (LV Value.string wb (fun b => wa.heap.size ≤ b) (.slice la m lc) (kdT L K k i)) := by
              have h := HRW2.out
              rw [List.length_map] at h
              exact LV.of_own h
            have HSRT := hide (sortedTexts_any (kdT L K k i) (by rw [← HM.out]; exact hml) _ wb _ LVT.out)
            clear hm0
            go_wp2_with fail
            refine HSRT.out.mono ?_
            rintro e w5 ⟨lv, p2, rfl, hasc, hpm, hlv, hb5⟩
            have HASC := hide hasc
            have HPM : Hid (∀ s, s ∈ p2 ↔ s ∈ kdT L K k L.length) := by unfold Hid; rw [← HIN.out]; exact hpm
            have HP0 : Hid (p2 ≠ []) := fun e => by
              subst e
              have h1 : kdT L K k i ≠ [] := fun e2 => HM0.out (by rw [HM.out, e2]; rfl)
              obtain ⟨s, hs⟩ := List.exists_mem_of_ne_nil _ h1
              have := (hpm s).2 hs
              cases this
            obtain ⟨x0, r0, ex⟩ : ∃ x0 r0, p2 = x0 :: r0 := by
              cases p2 with
              | nil => exact absurd rfl HP0.out
              | cons x0 r0 => exact ⟨x0, r0, rfl⟩
            have HEX := hide ex
            obtain ⟨lb, lo, lcc, elv, hl0⟩ := lv_first (by rw [ex] at hlv; exact hlv)
            subst elv
            have HB5 : Hid (Below wa.heap.size wa w5) := HBI.out.trans (hb5.mono HBI.out.size)
            have HC5 := hide (HCI.out.later HB5.out)
            have HLV : Hid (LV Value.string w5 (fun b => some b ≠ (Value.slice qa ps.length qc).ownBlock) (.slice (some ⟨lb, lo, none⟩) (r0.length + 1) lcc) p2) := hlv.mono fun b hb _ e => by
              have h1 := (HCI.out.own.lt b e.symm).2
              have h2 := HBI.out.size
              omega
            obtain ⟨g6, cap6, w6, hr6, hc6, hb6⟩ := HC5.out.push (by have := HBR.out.size; have := HB5.out.size; omega) (by omega) HLV.out
            have HR6 := hide hr6
            have HC6 : Hid (CoI w4.heap.size (insJ ps (.slice (some ⟨lb, lo, none⟩) (r0.length + 1) lcc, p2) ps.length) (.slice (some ⟨g6, 0, none⟩) (ps.length + 1) cap6) w6) := by unfold Hid; rw [insJ_end]; exact hc6
            have HB6 : Hid (Below w4.heap.size w4 w6) := (HBR.out.trans (HB5.out.mono HBR.out.size)).trans hb6
            obtain ⟨p, hp⟩ : ∃ p : Value × List ByteArray, p = (.slice (some ⟨lb, lo, none⟩) (r0.length + 1) lcc, p2) := ⟨_, rfl⟩
            rw [← hp] at HC6
            have HPP := hide hp
            clear hr6 hc6 hb6 hasc hpm hlv hb5 hl0 HSRT LVT hp ex hm1 HLV HC5
            go_wp2_with (at_builtin; refine wpList_append_eq rfl _ _ _ _ rfl rfl rfl HR6.out ?_)
            clear HR6
            go_loopw [9] (fun jv wr => CzI w4.heap.size ps p (.slice (some ⟨g6, 0, none⟩) (ps.length + 1) cap6) w6 jv wr) (fun jv wr => (intOf jv).toNat)
            case atStart => exact ⟨ps.length, rfl, Nat.le_refl _, HC6.out, (fun q hq => by rw [List.drop_of_length_le (by simp)] at hq; cases hq), Below.refl _ _⟩
            case round =>
              obtain ⟨j, rfl, hj, hcz, hdz, hbz⟩ := hrel
              have HCZ := hide hcz
              have HDZ := hide hdz
              have HBZ := hide hbz
              clear hcz hdz hbz
              obtain ⟨wd, hwd⟩ : ∃ x, x = wr := ⟨_, rfl⟩
              rw [← hwd] at HCZ HBZ ⊢
              clear hwd
              rcases Nat.eq_zero_or_pos j with rfl | hj0
              · have hz0 : decide ((0 : Int) < ((0 : Nat) : Int)) = false := by decide
                go_wp2_with fail
                go_quiet (fail)
                have kd : Below wd.heap.size wd (wd.drewN nq) := below_drewN (Below.refl _ _) _
                have HCE := hide (HCZ.out.later kd)
                have HBE : Hid (Below w4.heap.size w4 (wd.drewN nq)) := (HB6.out.trans (HBZ.out)).trans (kd.mono (by have h1 := HB6.out.size; have h2 := HBZ.out.size; omega))
                generalize wd.drewN nq = we at *
                have HNN : Hid (∀ q ∈ insJ ps p 0, q.2 ≠ []) := fun q hq => by
                  rcases insJ_mem.1 hq with e | e
                  · rw [e, HPP.out]; exact HP0.out
                  · exact HNE.out q e
                have HCA : Hid (CoP L K (k + 1) ((insJ ps p 0).map (·.2))) := by
                  unfold Hid
                  rw [insJ_map]
                  refine HCP.out.add (by rw [HPP.out]; exact HP0.out) (by rw [HPP.out]; exact HASC.out) (by rw [HPP.out]; exact HPM.out) (by rw [List.length_map]; omega) HDZ.out ?_
                  intro i hi e
                  exact absurd e (by omega)
                have HLJ : Hid ((insJ ps p 0).length = ps.length + 1) := insJ_len _ _ _ (by omega)
                have HCF : Hid (CoI w4.heap.size (insJ ps p 0) (.slice (some ⟨g6, 0, none⟩) (ps.length + 1) cap6) we) := HCE.out
                go_wp2_with fail
                go_roundw
                case rel => exact ⟨k + 1, insJ ps p 0, by go_num, by omega, HCF.out, HNN.out, HCA.out, HBE.out⟩
                case measure => simp [intOf]; omega
              · obtain ⟨i, rfl⟩ : ∃ i, j = i + 1 := ⟨j - 1, by omega⟩
                have hil : i < ps.length := by omega
                obtain ⟨q, hq⟩ : ∃ q, q = ps[i] := ⟨_, rfl⟩
                have HQ := hide hq
                obtain ⟨g7, e7, c7, hg7, hg7l⟩ := HCZ.out.cell (by rw [insJ_at hil, ← hq])
                cases e7
                have hqm : q ∈ ps := by rw [hq]; exact List.getElem_mem hil
                have HQM := hide hqm
                obtain ⟨y0, t0, ey⟩ : ∃ y0 t0, q.2 = y0 :: t0 := by
                  cases h9 : q.2 with
                  | nil => exact absurd h9 (HNE.out q hqm)
                  | cons y0 t0 => exact ⟨y0, t0, rfl⟩
                have hlq := HCZ.out.lv q (insJ_mem.2 (Or.inr hqm))
                rw [ey] at hlq
                obtain ⟨qb, qo, qcc, eqv, hq0⟩ := lv_first hlq
                have hlp := HCZ.out.lv p (insJ_mem.2 (Or.inl rfl))
                rw [HPP.out] at hlp
                simp only at hlp
                rw [HEX.out] at hlp
                obtain ⟨lb9, lo9, lc9, e9, hl0⟩ := lv_first hlp
                cases e9
                rw [eqv] at c7
                have HEY := hide ey
                have HEQ := hide eqv
                have hii : (i : Int) < ((ps.length : Int) + 1) := by omega
                have hjj : (0 : Int) < (i : Int) + 1 := by omega
                have hi0 : (0 : Int) ≤ (i : Int) := by omega
                have hj2 : ((i : Int) + 1) < ((ps.length : Int) + 1) := by omega
                have hr1 : (0 : Int) < ((r0.length : Int) + 1) := by omega
                have ht1 : (0 : Int) < ((t0.length : Int) + 1) := by omega
                have HXY : Hid (x0 ≠ y0) := fun e => by
                  refine HCP.out.apart HNUM.out.nd HER.out (List.mem_map.2 ⟨q, hqm, rfl⟩) (s := y0) (by rw [ey]; simp) ?_
                  rw [← e]
                  exact (HPM.out x0).1 (by rw [HEX.out]; simp)
                clear hq hqm ey hlq hlp eqv
                cases hb9 : Op.bytesLess x0.toList y0.toList with
                | true =>
                  have tf := HCZ.out.frz i
                  have tf2 := HCZ.out.frz (i + 1)
                  obtain ⟨g8, e8, c8, -, -⟩ := HCZ.out.cell (i := i + 1) (p := p) (insJ_self (by omega))
                  cases e8
                  rw [HPP.out] at c8
                  simp only at c8
                  have HLX : Hid (∀ r ∈ (ps.map (·.2)).drop i, lxR p.2 r) := fun r hr => by
                    have hil2 : i < (ps.map (·.2)).length := by rw [List.length_map]; exact hil
                    rw [List.drop_eq_getElem_cons hil2] at hr
                    rcases List.mem_cons.1 hr with e | e
                    · rw [e, List.getElem_map, ← HQ.out, HEY.out, HPP.out]
                      simp only
                      rw [HEX.out]
                      exact (lx_head HXY.out).2 hb9
                    · exact HDZ.out r e
                  go_wp2_with fail
                  go_quiet (fail)
                  have kd : Below wd.heap.size wd (wd.drewN nq) := below_drewN (Below.refl _ _) _
                  have HCE := hide (HCZ.out.later kd)
                  have HBE : Hid (Below w4.heap.size w6 (wd.drewN nq)) := HBZ.out.trans (kd.mono (by have h1 := HB6.out.size; have h2 := HBZ.out.size; omega))
                  have c9 : (wd.drewN nq).cell? ⟨g6, i, none⟩ = some (.slice (some ⟨qb, qo, none⟩) (t0.length + 1) qcc) := c7
                  have c10 : (wd.drewN nq).cell? ⟨g6, i + 1, none⟩ = some (.slice (some ⟨lb, lo, none⟩) (r0.length + 1) lcc) := c8
                  have f9 : (wd.drewN nq).frozen? ⟨g6, i, none⟩ = false := tf
                  have f10 : (wd.drewN nq).frozen? ⟨g6, i + 1, none⟩ = false := tf2
                  have hgl9 : g6 < (wd.drewN nq).heap.size := hg7l
                  generalize wd.drewN nq = we at *
                  clear c7 c8 tf tf2 hq0 hl0 hb9 hg7l kd
                  have hne9 : i ≠ i + 1 := by omega
                  have hne10 : i + 1 ≠ i := by omega
                  have HCS : Hid (CoI w4.heap.size (insJ ps p i) (.slice (some ⟨g6, 0, none⟩) (ps.length + 1) cap6) ((we.setCell ⟨g6, i + 1, none⟩ (.slice (some ⟨qb, qo, none⟩) (t0.length + 1) qcc)).setCell ⟨g6, i, none⟩ (.slice (some ⟨lb, lo, none⟩) (r0.length + 1) lcc))) := by
                    have h := HCE.out.swap hil HQ.out.symm
                    rw [HEQ.out] at h
                    have e3 : p.1 = .slice (some ⟨lb, lo, none⟩) (r0.length + 1) lcc := by rw [HPP.out]
                    rw [e3] at h
                    exact h
                  have HBS : Hid (Below w4.heap.size w6 ((we.setCell ⟨g6, i + 1, none⟩ (.slice (some ⟨qb, qo, none⟩) (t0.length + 1) qcc)).setCell ⟨g6, i, none⟩ (.slice (some ⟨lb, lo, none⟩) (r0.length + 1) lcc))) := (HBE.out.setCell (p := ⟨g6, i + 1, none⟩) hg7 _).setCell (p := ⟨g6, i, none⟩) hg7 _
                  go_wp2_with fail
                  go_roundw
                  case rel => exact ⟨i, by go_num, by omega, HCS.out, HLX.out, HBS.out⟩
                  case measure => simp [intOf]
                | false =>
                  have HLS : Hid (lxR q.2 p.2) := by
                    unfold Hid
                    rw [HEY.out, HPP.out]
                    simp only
                    rw [HEX.out]
                    exact lx_other HXY.out hb9
                  go_wp2_with fail
                  go_quiet (fail)
                  have kd : Below wd.heap.size wd (wd.drewN nq) := below_drewN (Below.refl _ _) _
                  have HCE := hide (HCZ.out.later kd)
                  have HBE : Hid (Below w4.heap.size w4 (wd.drewN nq)) := (HB6.out.trans (HBZ.out)).trans (kd.mono (by have h1 := HB6.out.size; have h2 := HBZ.out.size; omega))
                  generalize wd.drewN nq = we at *
                  have HNN : Hid (∀ q ∈ insJ ps p (i + 1), q.2 ≠ []) := fun q hq => by
                    rcases insJ_mem.1 hq with e | e
                    · rw [e, HPP.out]; exact HP0.out
                    · exact HNE.out q e
                  have HCA : Hid (CoP L K (k + 1) ((insJ ps p (i + 1)).map (·.2))) := by
                    unfold Hid
                    rw [insJ_map]
                    refine HCP.out.add (by rw [HPP.out]; exact HP0.out) (by rw [HPP.out]; exact HASC.out) (by rw [HPP.out]; exact HPM.out) (by rw [List.length_map]; omega) HDZ.out ?_
                    intro i' hi' e
                    have e4 : i = i' := by omega
                    subst e4
                    rw [List.getElem_map, ← HQ.out]
                    exact HLS.out
                  have HLJ : Hid ((insJ ps p (i + 1)).length = ps.length + 1) := insJ_len _ _ _ (by omega)
                  have HCF : Hid (CoI w4.heap.size (insJ ps p (i + 1)) (.slice (some ⟨g6, 0, none⟩) (ps.length + 1) cap6) we) := HCE.out
                  go_wp2_with fail
                  go_roundw
                  case rel => exact ⟨k + 1, insJ ps p (i + 1), by go_num, by omega, HCF.out, HNN.out, HCA.out, HBE.out⟩
                  case measure => simp [intOf]; omega
    · have hki : ¬ (k : Int) < (n : Int) := by omega
      have HCL : Hid (ClsR ls (· ∈ preL (prT ls)) (ps.map (·.2))) := HCP.out.cls HNUM.out HDON.out HMEM.out fun c hc => by have := HKT.out c hc; have := HN.out; omega
      have HROW : Hid (ps = [] ∨ ∃ g, qa = some ⟨g, 0, none⟩ ∧ ∀ j (h : j < ps.length), wa.cell? ⟨g, j, none⟩ = some ps[j].1) := by
        by_cases h0 : ps = []
        · exact Or.inl h0
        · have hp0 : 0 < ps.length := List.length_pos_iff.2 h0
          obtain ⟨g, e, _⟩ := HCI.out.cell (List.getElem?_eq_getElem hp0)
          refine Or.inr ⟨g, e, fun j hj => ?_⟩
          obtain ⟨g2, e2, h2, _⟩ := HCI.out.cell (List.getElem?_eq_getElem hj)
          rw [e] at e2
          cases e2
          exact h2
      go_wp2_with fail
      go_ret
      exact ⟨HWE.out _ HBR.out, qa, qc, ps, rfl, HROW.out, fun p hp => (HCI.out.lv p hp).mono fun _ _ _ => trivial, HCL.out, hpl⟩
end Go.Proofs.YtdmaijmglblccaaGreatDoor
