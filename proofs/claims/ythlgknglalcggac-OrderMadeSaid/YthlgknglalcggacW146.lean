/- Walks: above by paths, as the document says. -/
import Derived.Test.YthlgknglalcggacW145
namespace Go.Proofs.Ythlgknglalcggac
open Go.RowKit
set_option linter.unusedSimpArgs false
set_option linter.unusedVariables false
set_option maxRecDepth 8000

theorem infoBs : (Try.prog.info? 62).map (fun i => (i.zero, i.size, i.bytes)) = some (some (.slice none 0 0), 1, 24) := by kernel_rfl
theorem infoBo : (Try.prog.info? 4).map (fun i => (i.zero, i.size, i.bytes)) = some (some (.bool false), 1, 1) := by kernel_rfl
theorem make_rows (n : Nat) (hn : n ≤ 20000) : ∃ cs : Array Value, cs.size = n ∧ ∀ w, (Instr.makeSlice 61 (.int .i64 (n : Int)) (.int .i64 (n : Int))).run Try.prog w = .ok (.slice (some ⟨w.heap.size, 0, none⟩) n n) (w.alloc (.cells cs 62)) := by
  obtain ⟨i0, hi, hz0, hz1, hz2⟩ := info_parts infoBs
  refine ⟨madeCells (Value.slice none 0 0).cells (n * i0.size), by rw [size_madeCells, hz1, Nat.mul_one], fun w => ?_⟩
  have hr := run_make (P := Try.prog) w 61 62 i0 _ Try.underlying61 hi hz0 .i64 .i64 n n (by omega) (by omega) (by rw [hz2]; omega) (by omega)
  simpa using hr
theorem make_bools (n : Nat) (hn : n ≤ 20000) : ∃ cs : Array Value, cs.size = n ∧ ∀ w, (Instr.makeSlice 62 (.int .i64 (n : Int)) (.int .i64 (n : Int))).run Try.prog w = .ok (.slice (some ⟨w.heap.size, 0, none⟩) n n) (w.alloc (.cells cs 4)) := by
  obtain ⟨i0, hi, hz0, hz1, hz2⟩ := info_parts infoBo
  refine ⟨madeCells (Value.bool false).cells (n * i0.size), by rw [size_madeCells, hz1, Nat.mul_one], fun w => ?_⟩
  have hr := run_make (P := Try.prog) w 62 4 i0 _ Try.underlying62 hi hz0 .i64 .i64 n n (by omega) (by omega) (by rw [hz2]; omega) (by omega)
  simpa using hr
theorem knR_of {w1 w2 : World} {X : Nat → Prop} {A : Tm} {g : Nat} {xs : List Value} (hrow : RowT w1 X (preL [A]) xs) (hb : Below w1.heap.size w1 w2) (hc : ∀ j u, xs[j]? = some u → w2.cell? ⟨g, j, none⟩ = some u) : KnR w2 (fun _ => True) A g := by
  intro j x hx
  have hlt : j < (preL [A]).length := by
    rcases Nat.lt_or_ge j (preL [A]).length with h' | h'
    · exact h'
    · rw [List.getElem?_eq_none h'] at hx; cases hx
  rw [List.getElem?_eq_getElem hlt] at hx
  cases hx
  obtain ⟨d0, a', c', d1, hs⟩ := hrow.get j hlt
  exact ⟨a', c', hc _ _ d0, hc _ _ d1, (hs.later hb).mono fun _ _ _ => trivial⟩
theorem KnR.later {w w' : World} {X : Nat → Prop} {A : Tm} {g : Nat} (h : KnR w X A g) (hb : Below w.heap.size w w') : KnR w' X A g := fun j x hx => by
  obtain ⟨a', c', h1, h2, h3⟩ := h j x hx
  exact ⟨a', c', bcell1 hb h1, bcell1 hb h2, h3.later hb⟩

theorem cell_other {w : World} {b o b2 o2 : Nat} {v u : Value} (h : b2 ≠ b ∨ o2 ≠ o) (hc : w.cell? ⟨b2, o2, none⟩ = some u) : (w.setCell ⟨b, o, none⟩ v).cell? ⟨b2, o2, none⟩ = some u := by
  rw [← hc]
  refine World.cell?_setCell_other _ _ _ _ fun e => ?_
  simp at e
  omega
/-- The rows from the p-th on are filled. -/
def TabF (row : List ByteArray) (A B : Tm) (N g p top : Nat) (wr : World) : Prop := ∀ j x, p ≤ j → (preL [A])[j]? = some x → ∃ b' c', (N < b' ∧ b' < top) ∧ wr.cell? ⟨g, j, none⟩ = some (.slice (some ⟨b', 0, none⟩) (sizeL [B]) c') ∧ ∀ q y, (preL [B])[q]? = some y → wr.cell? ⟨b', q, none⟩ = some (.bool (pathB row x y))
def OInv (row : List ByteArray) (A B : Tm) (w6 : World) (i : Value) (wr : World) : Prop :=
  ∃ p : Nat, p ≤ sizeL [A] ∧ i = .int .i64 ((p : Int) - 1) ∧ Below w6.heap.size w6 wr ∧ (∃ cs, cs.size = sizeL [A] ∧ Blk wr w6.heap.size cs 62) ∧ TabF row A B w6.heap.size w6.heap.size p wr.heap.size wr
def IInv (row : List ByteArray) (A B a : Tm) (w6 : World) (i bt : Nat) (k : Value) (wr : World) : Prop :=
  ∃ r : Nat, r ≤ sizeL [B] ∧ k = .int .i64 ((r : Int) - 1) ∧ Below w6.heap.size w6 wr ∧ bt < wr.heap.size ∧ (∃ cs, cs.size = sizeL [A] ∧ Blk wr w6.heap.size cs 62) ∧ (∃ cs, cs.size = sizeL [B] ∧ Blk wr bt cs 4) ∧ TabF row A B w6.heap.size w6.heap.size (i + 1) bt wr ∧
    wr.cell? ⟨w6.heap.size, i, none⟩ = some (.slice (some ⟨bt, 0, none⟩) (sizeL [B]) (sizeL [B])) ∧ ∀ q y, r ≤ q → (preL [B])[q]? = some y → wr.cell? ⟨bt, q, none⟩ = some (.bool (pathB row a y))

set_option maxHeartbeats 4000000 in
theorem pathOf_any (row : List ByteArray) (hrl : row.length ≤ 1000) (a b : Tm) (za : sizeL [a] ≤ 20000) (zb : sizeL [b] ≤ 20000) (u va vb : Value) (w : World) (X : Nat → Prop) (hu : LV Value.string w X u row) (ha : TV w X va a) (hb : TV w X vb b) :
    Calls Try.prog 11 #[u, va, vb] w fun e w' => e = .returned (.bool (pathB row a b)) ∧ Below w.heap.size w w' := by
  have HA := hide ha
  have HB := hide hb
  have HU := hide hu
  obtain ⟨aa, ca, rfl, hsa⟩ := ha
  obtain ⟨ab, cb, rfl, hsb⟩ := hb
  clear hsa hsb hu
  have pa := size_pos a
  have pb := size_pos b
  obtain ⟨csR, hcsR, hmkR⟩ := make_rows (sizeL [a]) za
  obtain ⟨csB, hcsB, hmkB⟩ := make_bools (sizeL [b]) zb
  have A2 := hide (TwW.start a b aa ca ab cb w)
  go_enter Try.func11, Try.ntmps11
  go_wp2_with fail
  generalize ((w.alloc (.cells #[.string a.name, .slice aa a.args.length ca] 25)).alloc (.cells #[.string b.name, .slice ab b.args.length cb] 25)) = w2 at *
  refine (knots_any a _ _ X (by exact HA.out.later A2.out.bl) (by omega)).mono ?_
  rintro e w3 ⟨v3, xs3, rfl, hown3, hrow3, hb3⟩
  obtain ⟨gx, cx, rfl, hgx, hgxl, hc3⟩ := owned_val hown3 pa
  have KX3 := hide (knR_of hrow3 hb3 hc3)
  have A3 := hide (A2.out.later hb3)
  clear hown3 hrow3 hc3 hb3 A2
  have r0 : w3.cell? ⟨w.heap.size, 0, none⟩ = some (.string a.name) := A3.out.k1.cell 0
  have r1 : w3.cell? ⟨w.heap.size, 1, none⟩ = some (.slice aa a.args.length ca) := A3.out.k1.cell 1
  have s0 : w3.cell? ⟨w.heap.size + 1, 0, none⟩ = some (.string b.name) := A3.out.k2.cell 0
  have s1 : w3.cell? ⟨w.heap.size + 1, 1, none⟩ = some (.slice ab b.args.length cb) := A3.out.k2.cell 1
  go_wp2_with fail
  refine (knots_any b _ _ X (by exact HB.out.later A3.out.bl) (by omega)).mono ?_
  rintro e w4 ⟨v4, xs4, rfl, hown4, hrow4, hb4⟩
  obtain ⟨gy, cy, rfl, hgy, hgyl, hc4⟩ := owned_val hown4 pb
  have KY4 := hide (knR_of hrow4 hb4 hc4)
  have KX4 := hide (KX3.out.later hb4)
  have A4 := hide (A3.out.later hb4)
  clear hown4 hrow4 hc4 hb4 A3 KX3
  clear r0 r1 s0 s1
  have r0 : w4.cell? ⟨w.heap.size, 0, none⟩ = some (.string a.name) := A4.out.k1.cell 0
  have r1 : w4.cell? ⟨w.heap.size, 1, none⟩ = some (.slice aa a.args.length ca) := A4.out.k1.cell 1
  have s0 : w4.cell? ⟨w.heap.size + 1, 0, none⟩ = some (.string b.name) := A4.out.k2.cell 0
  have s1 : w4.cell? ⟨w.heap.size + 1, 1, none⟩ = some (.slice ab b.args.length cb) := A4.out.k2.cell 1
  go_wp2_with fail
  refine (ends_any a _ _ X za (by exact HA.out.later A4.out.bl)).mono ?_
  rintro e w5 ⟨ve, rfl, hlv5, hb5⟩
  have E5 := hide (hlv5.mono (Y := fun _ => True) fun _ _ _ => trivial)
  have KX5 := hide (KX4.out.later hb5)
  have KY5 := hide (KY4.out.later hb5)
  have A5 := hide (A4.out.later hb5)
  clear hlv5 hb5 A4 KX4 KY4
  clear r0 r1 s0 s1
  have r0 : w5.cell? ⟨w.heap.size, 0, none⟩ = some (.string a.name) := A5.out.k1.cell 0
  have r1 : w5.cell? ⟨w.heap.size, 1, none⟩ = some (.slice aa a.args.length ca) := A5.out.k1.cell 1
  have s0 : w5.cell? ⟨w.heap.size + 1, 0, none⟩ = some (.string b.name) := A5.out.k2.cell 0
  have s1 : w5.cell? ⟨w.heap.size + 1, 1, none⟩ = some (.slice ab b.args.length cb) := A5.out.k2.cell 1
  go_wp2_with fail
  refine (ends_any b _ _ X zb (by exact HB.out.later A5.out.bl)).mono ?_
  rintro e w6 ⟨vf, rfl, hlv6, hb6⟩
  have F6 := hide (hlv6.mono (Y := fun _ => True) fun _ _ _ => trivial)
  have E6 := hide (E5.out.later hb6)
  have KX6 := hide (KX5.out.later hb6)
  have KY6 := hide (KY5.out.later hb6)
  have B6 := hide (A5.out.later hb6).bl
  have U6 := hide ((HU.out.later B6.out).mono (Y := fun _ => True) fun _ _ _ => trivial)
  clear hlv6 hb6 A5 KX5 KY5 E5
  clear r0 r1 s0 s1
  have hpa := preL_len0 [a]
  have hpb := preL_len0 [b]
  have HHA : Hid ((preL [a])[0]? = some a ∧ (preL [b])[0]? = some b) := by
    obtain ⟨s1, l1⟩ := a
    obtain ⟨s2, l2⟩ := b
    exact ⟨by simp [preL], by simp [preL]⟩
  have hcsR' := hcsR
  go_wp2_with fail
  have O0 : Hid (OInv row a b w6 (.int .i64 ((sizeL [a] : Int) - 1)) (w6.alloc (.cells csR 62))) := by
    refine ⟨sizeL [a], Nat.le_refl _, rfl, (Below.refl _ _).alloc (Nat.le_refl _) _, ⟨csR, hcsR, Blk.new _ _ _⟩, fun j x hj hx => ?_⟩
    rw [List.getElem?_eq_none (by omega)] at hx; cases hx
  generalize w6.alloc (.cells csR 62) = w7 at *
  go_loopw [12] (fun i wr => OInv row a b w6 i wr) (fun i wr => (intOf i + 1).toNat)
  case atStart => exact O0.out
  case round =>
    clear O0
    obtain ⟨p, hp, rfl, hb, ⟨cs, hcs, hblk⟩, hTF⟩ := hrel
    have HB7 := hide hb
    have HBLK := hide hblk
    have HTF := hide hTF
    clear hb hTF
    cases p with
    | zero =>
      obtain ⟨b0, c0, _, d1, d2⟩ := HTF.out 0 a (Nat.le_refl _) HHA.out.1
      have d3 := d2 0 b HHA.out.2
      clear d2
      have hpai : (0 : Int) < (sizeL [a] : Int) := by omega
      have hpbi : (0 : Int) < (sizeL [b] : Int) := by omega
      go_wp2_with fail
      go_ret
      exact ⟨rfl, B6.out.trans (HB7.out.mono B6.out.size)⟩
    | succ i =>
      have ei : (((i + 1 : Nat) : Int) - 1) = (i : Int) := by omega
      rw [ei]
      clear ei
      have hii : (i : Int) < (sizeL [a] : Int) := by omega
      obtain ⟨x, hx⟩ : ∃ x, (preL [a])[i]? = some x := ⟨_, List.getElem?_eq_getElem (by omega)⟩
      have HX := hide hx
      clear hx
      have hgl := hblk.lt
      have hci : ∃ v, cs[i]? = some v := ⟨_, Array.getElem?_eq_getElem (by omega)⟩
      obtain ⟨v0, hv0⟩ := hci
      have q0 : ∀ o, (wr.alloc o).cell? ⟨w6.heap.size, i, none⟩ = some v0 := fun o => ((hblk.alloc o).cell i).trans hv0
      have qf : ∀ o j, (wr.alloc o).frozen? ⟨w6.heap.size, j, none⟩ = false := fun o j => (hblk.alloc o).frozen j
      have q1 : wr.cell? ⟨w6.heap.size, i, none⟩ = some v0 := (hblk.cell i).trans hv0
      have qg := hblk.frozen
      clear hblk
      go_wp2_with fail
      have I0 : Hid (IInv row a b x w6 i wr.heap.size (.int .i64 ((sizeL [b] : Int) - 1)) ((wr.setCell ⟨w6.heap.size, i, none⟩ (.slice (some ⟨wr.heap.size, 0, none⟩) (sizeL [b]) (sizeL [b]))).alloc (.cells csB 4))) := by
        have hset := (HBLK.out.set i (.slice (some ⟨wr.heap.size, 0, none⟩) (sizeL [b]) (sizeL [b]))).alloc (.cells csB 4)
        have hz : (wr.setCell ⟨w6.heap.size, i, none⟩ (.slice (some ⟨wr.heap.size, 0, none⟩) (sizeL [b]) (sizeL [b]))).heap.size = wr.heap.size := by simp [World.setCell]
        have hnew := Blk.new (wr.setCell ⟨w6.heap.size, i, none⟩ (.slice (some ⟨wr.heap.size, 0, none⟩) (sizeL [b]) (sizeL [b]))) csB 4
        rw [hz] at hnew
        have hbs : Below w6.heap.size w6 (wr.setCell ⟨w6.heap.size, i, none⟩ (.slice (some ⟨wr.heap.size, 0, none⟩) (sizeL [b]) (sizeL [b]))) := HB7.out.setCell (by simp) _
        refine ⟨sizeL [b], Nat.le_refl _, rfl, hbs.alloc hbs.size _, hnew.lt, ⟨_, by simp [hcs], hset⟩, ⟨csB, hcsB, hnew⟩, fun j y hj hy => ?_, ?_, fun q y hq hy => ?_⟩
        · obtain ⟨b', c', hbb, e1, e2⟩ := HTF.out j y (by omega) hy
          refine ⟨b', c', hbb, ?_, fun q z hz' => ?_⟩
          · refine (cell_alloc (w := wr.setCell ⟨w6.heap.size, i, none⟩ _) ?_ _)
            exact cell_other (Or.inr (by omega)) e1
          · refine (cell_alloc (w := wr.setCell ⟨w6.heap.size, i, none⟩ _) ?_ _)
            exact cell_other (Or.inl (by omega)) (e2 q z hz')
        · have hlt : i < cs.size := by omega
          rw [hset.cell, Array.getElem?_setIfInBounds]
          simp [hlt]
        · rw [List.getElem?_eq_none (by omega)] at hy; cases hy
      have hbt : w6.heap.size < wr.heap.size := hgl
      generalize hbtg : wr.heap.size = bt at *
      generalize (wr.setCell ⟨w6.heap.size, i, none⟩ (.slice (some ⟨bt, 0, none⟩) (sizeL [b]) (sizeL [b]))).alloc (.cells csB 4) = w8 at *
      clear q0 qf q1 qg hv0 HTF HB7 HBLK hcs hbtg hgl
      go_loopw [13] (fun k wr => IInv row a b x w6 i bt k wr) (fun k wr => (intOf k + 1).toNat)
      case atStart => exact I0.out
      case round =>
        clear I0
        obtain ⟨r, hr, rfl, hb, hbl, ⟨cs1, hcs1, hblk1⟩, ⟨cs2, hcs2, hblk2⟩, hTF, hrow, hfil⟩ := hrel
        have HB8 := hide hb
        have HBLK1 := hide hblk1
        have HBLK2 := hide hblk2
        have HTF := hide hTF
        have HFIL := hide hfil
        clear hb hTF hfil
        cases r with
        | zero =>
          go_wp2_with fail
          go_roundw
          case rel =>
            refine ⟨i, by omega, rfl, HB8.out, ⟨cs1, hcs1, HBLK1.out⟩, fun j y hj hy => ?_⟩
            by_cases hji : j = i
            · subst hji
              have e : y = x := by have h := HX.out; rw [hy] at h; cases h; rfl
              subst e
              exact ⟨bt, _, ⟨hbt, hbl⟩, hrow, fun q z hz => HFIL.out q z (Nat.zero_le _) hz⟩
            · obtain ⟨b', c', hbb, e1, e2⟩ := HTF.out j y (by omega) hy
              exact ⟨b', c', ⟨hbb.1, by omega⟩, e1, e2⟩
          case measure => simp only [intOf]; omega
        | succ k =>
          have ek : (((k + 1 : Nat) : Int) - 1) = (k : Int) := by omega
          rw [ek]
          clear ek
          have hki : (k : Int) < (sizeL [b] : Int) := by omega
          obtain ⟨y, hy⟩ : ∃ y, (preL [b])[k]? = some y := ⟨_, List.getElem?_eq_getElem (by omega)⟩
          have HY := hide hy
          clear hy
          have hck : ∃ v, cs2[k]? = some v := ⟨_, Array.getElem?_eq_getElem (by omega)⟩
          obtain ⟨v1, hv1⟩ := hck
          have HTAB : Hid (TabR row a b wr w6.heap.size i k) := fun j z hj hz => by
            by_cases hji : j = i
            · subst hji
              have e : z = x := by have h := HX.out; rw [hz] at h; cases h; rfl
              subst e
              exact ⟨bt, _, hrow, fun q z' hq hz' => HFIL.out q z' (by omega) hz'⟩
            · obtain ⟨b', c', _, e1, e2⟩ := HTF.out j z (by omega) hz
              exact ⟨b', c', e1, fun q z' _ hz' => e2 q z' hz'⟩
          have HROW := hide hrow
          have HS0 : Hid (Below wr.heap.size wr wr.drew) := below_drewN (Below.refl _ _) 1
          clear hblk1 hblk2 hrow
          have HCALL : Hid (∀ w', Below wr.heap.size wr w' → Calls Try.prog 39 #[u, .slice (some ⟨gx, 0, none⟩) (sizeL [a]) cx, .slice (some ⟨gy, 0, none⟩) (sizeL [b]) cy, ve, vf, .slice (some ⟨w6.heap.size, 0, none⟩) (sizeL [a]) (sizeL [a]), .int .i64 (i : Int), .int .i64 (k : Int)] w' fun e w'' => e = .returned (.bool (pathB row x y)) ∧ Below w'.heap.size w' w'') := fun w' hb' => by
            have hb6' : Below w6.heap.size w6 w' := HB8.out.trans (hb'.mono HB8.out.size)
            refine pathStep_any row hrl a b x y za zb i k HX.out HY.out u ve vf gx cx gy cy w6.heap.size (sizeL [a]) w' (fun _ => True) (U6.out.later hb6') (KX6.out.later hb6') (KY6.out.later hb6') (E6.out.later hb6') (F6.out.later hb6') fun j z hj hz => ?_
            obtain ⟨b', c', e1, e2⟩ := HTAB.out j z hj hz
            exact ⟨b', c', bcell1 hb' e1, fun q z' hq hz' => bcell1 hb' (e2 q z' hq hz')⟩
          go_wp2_with fail
          refine wp_region_held_drew (S := fun w' => w'.cell? ⟨w6.heap.size, i, none⟩ = some (.slice (some ⟨bt, 0, none⟩) (sizeL [b]) (sizeL [b]))) (by kernel_rfl) HROW.out (fun hHeld => ?_)
          refine wpAnyH_take (i := 0) (v := ?_) rfl (by kernel_rfl) (by kernel_rfl) (by kernel_rfl) (fun _ _ _ h => h) (Or.inl ⟨by rfl, ?_⟩) (by assumption) ?_
          rotate_left
          · intro w' hSw
            have t0 := hSw
            go_simp <;> with_reducible rfl
          try simp only [Act.put, List.setIfInBounds_toArray, List.set_cons_zero, List.set_cons_succ, List.getElem_toArray, List.getElem_cons_succ, List.getElem_cons_zero]
          refine wpAnyH_take (i := 1) (v := ?_) rfl (by kernel_rfl) (by kernel_rfl) (by kernel_rfl) (fun _ _ _ h => h) (Or.inl ⟨by rfl, ?_⟩) (by assumption) ?_
          rotate_left
          · intro w' hSw
            have t0 := hSw
            go_simp <;> with_reducible rfl
          try simp only [Act.put, List.setIfInBounds_toArray, List.set_cons_zero, List.set_cons_succ, List.getElem_toArray, List.getElem_cons_succ, List.getElem_cons_zero]
          refine wpAnyH_take (i := 2) (v := ?_) rfl (by kernel_rfl) (by kernel_rfl) (by kernel_rfl) (fun _ _ _ h => h) (Or.inl ⟨by rfl, ?_⟩) (by assumption) ?_
          rotate_left
          · intro w' hSw
            have t0 := hSw
            go_simp <;> with_reducible rfl
          try simp only [Act.put, List.setIfInBounds_toArray, List.set_cons_zero, List.set_cons_succ, List.getElem_toArray, List.getElem_cons_succ, List.getElem_cons_zero]
          refine wpAnyH_take (i := 3) (v := ?_) rfl (by kernel_rfl) (by kernel_rfl) (by kernel_rfl) (fun _ _ _ h => h) (Or.inl ⟨by rfl, ?_⟩) (by assumption) ?_
          rotate_left
          · intro w' hSw
            have t0 := hSw
            go_simp <;> with_reducible rfl
          try simp only [Act.put, List.setIfInBounds_toArray, List.set_cons_zero, List.set_cons_succ, List.getElem_toArray, List.getElem_cons_succ, List.getElem_cons_zero]
          refine wpAnyH_take (i := 4) (v := ?_) rfl (by kernel_rfl) (by kernel_rfl) (by kernel_rfl) (fun _ _ _ h => h) (Or.inl ⟨by rfl, ?_⟩) (by assumption) ?_
          rotate_left
          · intro w' hSw
            have t0 := hSw
            go_simp <;> with_reducible rfl
          try simp only [Act.put, List.setIfInBounds_toArray, List.set_cons_zero, List.set_cons_succ, List.getElem_toArray, List.getElem_cons_succ, List.getElem_cons_zero]
          refine wpAnyH_take (i := 5) (v := ?_) rfl (by kernel_rfl) (by kernel_rfl) (by kernel_rfl) (fun _ _ _ h => h) (Or.inl ⟨by rfl, ?_⟩) (by assumption) ?_
          rotate_left
          · intro w' hSw
            have t0 := hSw
            go_simp <;> with_reducible rfl
          try simp only [Act.put, List.setIfInBounds_toArray, List.set_cons_zero, List.set_cons_succ, List.getElem_toArray, List.getElem_cons_succ, List.getElem_cons_zero]
          refine wpAnyH_take (i := 6) (v := ?_) rfl (by kernel_rfl) (by kernel_rfl) (by kernel_rfl) (fun _ _ _ h => h) (Or.inl ⟨by rfl, ?_⟩) (by assumption) ?_
          rotate_left
          · intro w' hSw
            have t0 := hSw
            go_simp <;> with_reducible rfl
          try simp only [Act.put, List.setIfInBounds_toArray, List.set_cons_zero, List.set_cons_succ, List.getElem_toArray, List.getElem_cons_succ, List.getElem_cons_zero]
          refine wpAnyH_take (i := 7) (v := ?_) rfl (by kernel_rfl) (by kernel_rfl) (by kernel_rfl) (fun _ _ _ h => h) (Or.inl ⟨by rfl, ?_⟩) (by assumption) ?_
          rotate_left
          · intro w' hSw
            have t0 := hSw
            go_simp <;> with_reducible rfl
          try simp only [Act.put, List.setIfInBounds_toArray, List.set_cons_zero, List.set_cons_succ, List.getElem_toArray, List.getElem_cons_succ, List.getElem_cons_zero]
          refine wpAnyH_take (i := 8) (v := ?_) rfl (by kernel_rfl) (by kernel_rfl) (by kernel_rfl) (fun _ _ _ h => h) (Or.inl ⟨by rfl, ?_⟩) (by assumption) ?_
          rotate_left
          · intro w' hSw
            have t0 := hSw
            go_simp <;> with_reducible rfl
          try simp only [Act.put, List.setIfInBounds_toArray, List.set_cons_zero, List.set_cons_succ, List.getElem_toArray, List.getElem_cons_succ, List.getElem_cons_zero]
          refine wpAnyH_take (i := 9) (v := ?_) rfl (by kernel_rfl) (by kernel_rfl) (by kernel_rfl) (fun _ _ _ h => h) (Or.inl ⟨by rfl, ?_⟩) (by assumption) ?_
          rotate_left
          · intro w' hSw
            have t0 := hSw
            go_simp <;> with_reducible rfl
          try simp only [Act.put, List.setIfInBounds_toArray, List.set_cons_zero, List.set_cons_succ, List.getElem_toArray, List.getElem_cons_succ, List.getElem_cons_zero]
          refine wpAnyH_take (i := 10) (v := ?_) rfl (by kernel_rfl) (by kernel_rfl) (by kernel_rfl) (fun _ _ _ h => h) (Or.inl ⟨by rfl, ?_⟩) (by assumption) ?_
          rotate_left
          · intro w' hSw
            have t0 := hSw
            go_simp <;> with_reducible rfl
          try simp only [Act.put, List.setIfInBounds_toArray, List.set_cons_zero, List.set_cons_succ, List.getElem_toArray, List.getElem_cons_succ, List.getElem_cons_zero]
          refine wpAnyH_take (i := 11) (v := ?_) rfl (by kernel_rfl) (by kernel_rfl) (by kernel_rfl) (fun _ _ _ h => h) (Or.inl ⟨by rfl, ?_⟩) (by assumption) ?_
          rotate_left
          · intro w' hSw
            have t0 := hSw
            go_simp <;> with_reducible rfl
          try simp only [Act.put, List.setIfInBounds_toArray, List.set_cons_zero, List.set_cons_succ, List.getElem_toArray, List.getElem_cons_succ, List.getElem_cons_zero]
          refine wpAnyH_take (i := 12) (v := ?_) rfl (by kernel_rfl) (by kernel_rfl) (by kernel_rfl) (fun _ _ _ h => h) (Or.inl ⟨by rfl, ?_⟩) (by assumption) ?_
          rotate_left
          · intro w' hSw
            have t0 := hSw
            go_simp <;> with_reducible rfl
          try simp only [Act.put, List.setIfInBounds_toArray, List.set_cons_zero, List.set_cons_succ, List.getElem_toArray, List.getElem_cons_succ, List.getElem_cons_zero]

          refine wpAnyH_ready (rs := [13]) (by kernel_rfl) (by simp) ?_
          refine AllReadyH.cons rfl (fun K hK => ?_) AllReadyH.nil
          go_simp
          go_at_call 39
          refine (HCALL.out _ HS0.out).mono ?_
          rintro e w9 ⟨rfl, hb9⟩
          have H9 := hide (HS0.out.trans (hb9.mono HS0.out.size))
          clear hb9
          go_simp
          refine hK.out _ _ (by exact bcell1 H9.out HROW.out) (fun hHeld => ?_)
          clear hK K
          try simp only [Act.put, List.setIfInBounds_toArray, List.set_cons_zero, List.set_cons_succ, List.getElem_toArray, List.getElem_cons_succ, List.getElem_cons_zero]
          refine wpAnyH_take (i := 14) (v := ?_) rfl (by kernel_rfl) (by kernel_rfl) (by kernel_rfl) (fun _ _ _ h => h) (Or.inl ⟨by rfl, ?_⟩) (by assumption) ?_
          rotate_left
          · intro w' hSw
            have t0 := hSw
            go_simp <;> with_reducible rfl
          try simp only [Act.put, List.setIfInBounds_toArray, List.set_cons_zero, List.set_cons_succ, List.getElem_toArray, List.getElem_cons_succ, List.getElem_cons_zero]
          have K9 := HBLK2.out.below H9.out HBLK2.out.lt
          have z0 : w9.cell? ⟨bt, k, none⟩ = some v1 := (K9.cell k).trans hv1
          have zf := K9.frozen k
          refine wpAnyH_ready (rs := [15]) (by kernel_rfl) (by simp) ?_
          refine AllReadyH.cons rfl (fun K hK => ?_) AllReadyH.nil
          go_simp
          refine hK.out _ _ (by exact cell_other (Or.inl (by omega)) (bcell1 H9.out HROW.out)) (fun hHeld => ?_)
          clear hK K
          try simp only [Act.put, List.setIfInBounds_toArray, List.set_cons_zero, List.set_cons_succ, List.getElem_toArray, List.getElem_cons_succ, List.getElem_cons_zero]
          refine wpAnyH_done (by kernel_rfl) ?_ _
          have HREL : Hid (IInv row a b x w6 i bt (.int .i64 ((k : Int) - 1)) (w9.setCell ⟨bt, k, none⟩ (.bool (pathB row x y)))) := by
            have hb69 := HB8.out.trans (H9.out.mono HB8.out.size)
            have k1 := (HBLK1.out.below H9.out HBLK1.out.lt).setOther k (.bool (pathB row x y)) (b' := bt) (by omega)
            have k2 := K9.set k (.bool (pathB row x y))
            refine ⟨k, by omega, rfl, hb69.setCell (by simp; omega) _, by have := k2.lt; exact this, ⟨cs1, hcs1, k1⟩, ⟨_, by simp [hcs2], k2⟩, fun j z hj hz => ?_, ?_, fun q z hq hz => ?_⟩
            · obtain ⟨b', c', hbb, e1, e2⟩ := HTF.out j z hj hz
              exact ⟨b', c', hbb, cell_other (Or.inl (by omega)) (bcell1 H9.out e1), fun q z' hz' => cell_other (Or.inl (by omega)) (bcell1 H9.out (e2 q z' hz'))⟩
            · exact cell_other (Or.inl (by omega)) (bcell1 H9.out HROW.out)
            · by_cases hqk : q = k
              · subst hqk
                have e : z = y := by have h := HY.out; rw [hz] at h; cases h; rfl
                subst e
                have hlt : q < cs2.size := by omega
                rw [k2.cell, Array.getElem?_setIfInBounds]
                simp [hlt]
              · exact cell_other (Or.inr hqk) (bcell1 H9.out (HFIL.out q z (by omega) hz))
          go_wp2_with fail
          go_roundw
          case rel => exact HREL.out
          case measure => simp only [intOf]; omega
#print axioms pathOf_any
end Go.Proofs.Ythlgknglalcggac
