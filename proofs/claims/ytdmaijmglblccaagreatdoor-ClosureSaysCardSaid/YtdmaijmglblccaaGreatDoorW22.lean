/- Walks: the text of a term, as the program writes it. -/
import Derived.Test.YtdmaijmglblccaaGreatDoorZClosureSaysOwn
import Derived.Test.YtdmaijmglblccaaGreatDoorZBClosureSaysOwn
namespace Go.Proofs.YtdmaijmglblccaaGreatDoor
open Go.RowKit
set_option linter.unusedSimpArgs false
set_option linter.unusedVariables false
set_option maxRecDepth 8000

theorem TV.bfr {w w' : World} {X : Nat → Prop} {v q q' : Value} {t : Tm} {b : Nat} (h : TV w X v t) (hf : BFr w w' b q q') (hX : ∀ x, X x → x ≠ b ∧ some x ≠ q.ownBlock) : TV w' X v t := by
  have h1 : TV w (fun x => X x ∧ x < w.heap.size) v t := h.mono fun b h1 h2 => ⟨h1, h2⟩
  have h2 : TV w' (fun x => X x ∧ x < w.heap.size) v t := h1.kept fun x hx => hf.2.2.2.2.1 x hx.2 (hX x hx.1).1 (hX x hx.1).2
  exact h2.mono fun b hx _ => hx.1
theorem Sl.bfr {w w' : World} {X : Nat → Prop} {a : Option Addr} {q q' : Value} {l : List Tm} {b : Nat} (h : Sl w X a l) (hf : BFr w w' b q q') (hX : ∀ x, X x → x ≠ b ∧ some x ≠ q.ownBlock) : Sl w' X a l := by
  have h1 : Sl w (fun x => X x ∧ x < w.heap.size) a l := h.mono fun b h1 h2 => ⟨h1, h2⟩
  have h2 : Sl w' (fun x => X x ∧ x < w.heap.size) a l := h1.kept fun x hx => hf.2.2.2.2.1 x hx.2 (hX x hx.1).1 (hX x hx.1).2
  exact h2.mono fun b hx _ => hx.1
theorem Bld.alloc {w : World} {B b : Nat} {bs : List Value} {v : Value} (h : Bld w B b bs v) (o : Obj) : Bld (w.alloc o) B b bs v := by
  obtain ⟨hB, ⟨p, hp, hb⟩, hown⟩ := h
  exact ⟨hB, ⟨p, hp, by rw [Below.heap_alloc _ _ _ (bd_lt hb)]; exact hb⟩, hown.alloc o⟩
theorem Bld.lt {w : World} {B b : Nat} {bs : List Value} {v : Value} (h : Bld w B b bs v) : b < w.heap.size := by
  obtain ⟨_, ⟨p, _, hb⟩, _⟩ := h
  exact bd_lt hb
theorem Bld.old {w : World} {B b : Nat} {bs : List Value} {v : Value} (h : Bld w B b bs v) {x : Nat} (hx : x < B) : x ≠ b ∧ some x ≠ v.ownBlock := by
  refine ⟨by have := h.1; omega, fun e => ?_⟩
  have := (h.2.2.lt x e.symm).1; omega
theorem Blk.bfr {w w' : World} {b k T : Nat} {q q' : Value} {cs : Array Value} (h : Blk w k cs T) (hf : BFr w w' b q q') (hk : k ≠ b) (hq : some k ≠ q.ownBlock) : Blk w' k cs T := by
  unfold Blk at *; rw [hf.2.2.2.2.1 k (Blk.lt h) hk hq]; exact h

def bytesV (l : List UInt8) : List Value := l.map fun b => Value.int .u8 b.toNat
theorem bytesV_len (l : List UInt8) : (bytesV l).length = l.length := by simp [bytesV]
theorem bytesV_str (pre : List UInt8) (s : ByteArray) : bytesV pre ++ Lib.strCells s = bytesV (pre ++ s.data.toList) := by simp [bytesV, Lib.strCells]
theorem bytesV_one (pre : List UInt8) (c : UInt8) : bytesV pre ++ [.int .u8 c.toNat] = bytesV (pre ++ [c]) := by simp [bytesV]

/-- The new box is none of the Builder's. -/
theorem Bld.box {w : World} {B b : Nat} {bs : List Value} {v : Value} (h : Bld w B b bs v) : w.heap.size ≠ b ∧ some w.heap.size ≠ v.ownBlock := by
  refine ⟨by have := h.lt; omega, fun e => ?_⟩
  have := (h.2.2.lt _ e.symm).2; omega

theorem own_box {w wr : World} {b : Nat} {q0 q : Value} {o : Obj} (h : some w.heap.size ≠ q0.ownBlock) (hf : BFr (w.alloc o) wr b q0 q) : some w.heap.size ≠ q.ownBlock := fun e => by
  rcases hf.2.2.2.2.2 _ e.symm with h1 | h1
  · exact h h1.symm
  · simp at h1; omega

/-- What holds at each round's head of writing. -/
def WrInv (w : World) (B b : Nat) (v0 : Value) (pre : List UInt8) (s : ByteArray) (l : List Tm) (i : Value) (wr : World) : Prop :=
  ∃ (k : Nat) (q : Value), k ≤ l.length ∧ i = .int .i64 k ∧ Bld wr B b (bytesV (pre ++ s.data.toList ++ 40 :: txtL (l.take k))) q ∧ BFr w wr b v0 q

theorem wr_take0 (pre : List UInt8) (s : ByteArray) (l : List Tm) : pre ++ s.data.toList ++ ([40] : List UInt8) = pre ++ s.data.toList ++ 40 :: txtL (l.take 0) := by simp [txtL]
theorem wr_take1 (pre : List UInt8) (s : ByteArray) (l : List Tm) (h : 0 < l.length) : pre ++ s.data.toList ++ 40 :: txtL (l.take 0) ++ txtL [l[0]'h] = pre ++ s.data.toList ++ 40 :: txtL (l.take (0 + 1)) := by
  rw [List.take_succ_eq_append_getElem h]; simp [txtL]
theorem wr_takeS (pre : List UInt8) (s : ByteArray) (l : List Tm) (k : Nat) (hk : 0 < k) (h : k < l.length) : pre ++ s.data.toList ++ 40 :: txtL (l.take k) ++ ([44] : List UInt8) ++ txtL [l[k]] = pre ++ s.data.toList ++ 40 :: txtL (l.take (k + 1)) := by
  have h1 : l.take k ≠ [] := by
    intro e
    have h3 := congrArg List.length e
    rw [List.length_take] at h3
    simp only [List.length_nil] at h3
    omega
  rw [List.take_succ_eq_append_getElem h, txtL_append _ _ h1 (by simp)]; simp
theorem wr_end (pre : List UInt8) (s : ByteArray) (l : List Tm) (h : l ≠ []) : pre ++ s.data.toList ++ 40 :: txtL l ++ ([41] : List UInt8) = pre ++ txtL [(⟨s, l⟩ : Tm)] := by
  rw [txtL_one, if_neg (by simpa using h)]; simp
theorem wr_len (pre : List UInt8) (s : ByteArray) (l : List Tm) (k : Nat) (h : l ≠ []) (hk : k ≤ l.length) : (pre ++ s.data.toList ++ 40 :: txtL (l.take k)).length ≤ pre.length + (txtL [(⟨s, l⟩ : Tm)]).length := by
  by_cases h0 : k = 0
  · subst h0
    rw [txtL_one, if_neg (by simpa using h)]
    simp [txtL]
  · have h1 := txtTo_len s l k hk
    unfold txtTo at h1
    rw [if_neg h0] at h1
    simp only [List.length_append] at *
    omega

set_option maxHeartbeats 2000000 in
theorem write_any (t : Tm) : ∀ (v q0 : Value) (pre : List UInt8) (B b : Nat) (w : World) (X : Nat → Prop), TV w X v t → (∀ x, X x → x < B) → Bld w B b (bytesV pre) q0 → B ≤ w.heap.size → pre.length + (txtL [t]).length ≤ 900000000 →
    Calls Tryz.prog 65 #[.pointer (some ⟨b, 0, none⟩), v] w fun e w' => e = .returned (.tuple #[]) ∧ ∃ q, Bld w' B b (bytesV (pre ++ txtL [t])) q ∧ BFr w w' b q0 q := by
  induction t using Tm.ind with
  | h s l ih =>
    intro v q0 pre B b w X hv hX hbd hB hsm
    have IH := hide ih
    clear ih
    obtain ⟨a, c, rfl, hs⟩ := hv
    have hl := hs.1
    have hsz : s.size ≤ (txtL [(⟨s, l⟩ : Tm)]).length := by
      rw [txtL_one]; have h2 : s.data.toList.length = s.size := by rw [Array.length_toList]; rfl
      simp only [List.length_append]; omega
    have HBD := hide hbd
    have hbox := hbd.box
    clear hbd
    go_enter Tryz.func65, Tryz.ntmps65
    go_wp2_with fail
    refine (writeString_any B b _ q0 s _ (by exact HBD.out.alloc _) (by rw [bytesV_len]; omega) (by simp; omega)).mono ?_
    rintro e w1 ⟨rfl, q1, hbd1, hfr1⟩
    rw [bytesV_str] at hbd1
    have K1 := hide ((Blk.new w #[.string s, .slice a l.length c] 25).bfr hfr1 hbox.1 hbox.2)
    have HFR1 := hide hfr1
    have HW0 := hide (BFr.of_below ((Below.refl w.heap.size w).alloc (Nat.le_refl _) (.cells #[.string s, .slice a l.length c] 25)) b q0)
    have c1 : w1.cell? ⟨w.heap.size, 1, none⟩ = some (.slice a l.length c) := K1.out.cell 1
    have HBD1 := hide hbd1
    clear hfr1 hbd1
    by_cases hn : l = []
    · subst hn
      have HE := hide (txt_nil s)
      go_wp2_with fail
      refine bodyPost_ret (v := .tuple #[]) (by simp [results, Tryz.results65, go_sem]) rfl ?_
      exact ⟨rfl, q1, by rw [HE.out]; exact HBD1.out, HW0.out.trans HFR1.out⟩
    · have hlp : 0 < l.length := List.length_pos_iff.2 hn
      have hlp' : (((l.length : Nat) : Int) == 0) = false := by simp; omega
      have HN := hide hn
      have hw0 := wr_len pre s l 0 hn (Nat.zero_le _)
      have hp1 : (bytesV (pre ++ s.data.toList)).length ≤ 900000000 := by rw [bytesV_len]; simp only [List.length_append, List.length_cons] at hw0 ⊢; omega
      clear hn hw0
      go_wp2_with fail
      refine (writeByte_any B b _ q1 40 _ (by exact HBD1.out) (by omega) (by have := HFR1.out.2.2.2.1; simp at this; omega)).mono ?_
      rintro e w2 ⟨rfl, q2, hbd2, hfr2⟩
      have hbd2' : Bld w2 B b (bytesV (pre ++ s.data.toList ++ 40 :: txtL (l.take 0))) q2 := by
        have h3 := bytesV_one (pre ++ s.data.toList) 40
        rw [← wr_take0, ← h3]; exact hbd2
      have HBD2 := hide hbd2'
      have HFR2 := hide (HFR1.out.trans hfr2)
      have K2 := hide (K1.out.bfr hfr2 hbox.1 (own_box hbox.2 HFR1.out))
      have c2 : w2.cell? ⟨w.heap.size, 1, none⟩ = some (.slice a l.length c) := K2.out.cell 1
      clear hbd2 hbd2' hfr2 c1
      go_wp2_with fail
      go_loopw [19] (fun i wr => WrInv (w.alloc (.cells #[.string s, .slice a l.length c] 25)) B b q0 pre s l i wr) (fun i wr => l.length - (intOf i).toNat)
      case atStart => exact ⟨0, q2, Nat.zero_le _, rfl, HBD2.out, HFR2.out⟩
      case round =>
        obtain ⟨k, q, hk, rfl, hbdk, hfrk⟩ := hrel
        have HBK := hide hbdk
        have HFK := hide hfrk
        have hwl := wr_len pre s l k HN.out hk
        have hBr : B ≤ wr.heap.size := by have := hfrk.2.2.2.1; simp at this; omega
        by_cases hlt : k < l.length
        · have hsr := (hs.later ((Below.refl w.heap.size w).alloc (Nat.le_refl _) (.cells #[.string s, .slice a l.length c] 25))).bfr hfrk (fun x hx => HBD.out.old (hX x hx))
          obtain ⟨bx, o, a', c', rfl, d0, d1, hx⟩ := hsr.get (Below.refl wr.heap.size wr) (fun _ _ h => h) k hlt
          have HX := hide hx
          have hwl2 := wr_len pre s l (k + 1) HN.out (by omega)
          clear hbdk hfrk hsr hx
          by_cases hk0 : k = 0
          · subst hk0
            simp only [Nat.zero_mul, Nat.add_zero] at d0 d1
            have HE := hide (wr_take1 pre s l hlt)
            have hln : (pre ++ s.data.toList ++ 40 :: txtL (l.take 0)).length + (txtL [l[0]]).length ≤ 900000000 := by
              rw [← HE.out] at hwl2; simp only [List.length_append] at hwl2 ⊢; omega
            clear hwl hwl2
            go_wp2_with fail
            refine (IH.out _ (List.getElem_mem hlt) _ q _ B b _ X (by exact HX.out.alloc _) hX (by exact HBK.out.alloc _) (by simp; omega) hln).mono ?_
            rintro e w5 ⟨rfl, q5, hbd5, hfr5⟩
            have HBD5 := hide hbd5
            have HFR5 := hide (HFK.out.trans ((BFr.of_below ((Below.refl wr.heap.size wr).alloc (Nat.le_refl _) _) b q).trans hfr5))
            clear hbd5 hfr5
            go_wp2_with fail
            go_roundw
            case rel => exact ⟨0 + 1, q5, by omega, by go_num, by rw [← HE.out]; exact HBD5.out, HFR5.out⟩
            case measure => simp [intOf]; omega
          · have hkp : 0 < k := by omega
            have HE := hide (wr_takeS pre s l k hkp hlt)
            have hln : (pre ++ s.data.toList ++ 40 :: txtL (l.take k) ++ ([44] : List UInt8)).length + (txtL [l[k]]).length ≤ 900000000 := by
              rw [← HE.out] at hwl2; simp only [List.length_append] at hwl2 ⊢; omega
            have hbk : (bytesV (pre ++ s.data.toList ++ 40 :: txtL (l.take k))).length ≤ 1000000000 := by rw [bytesV_len]; omega
            clear hwl hwl2 hk0
            go_wp2_with fail
            refine (writeByte_any B b _ q 44 _ (by exact HBK.out.alloc _) hbk (by simp; omega)).mono ?_
            rintro e w4 ⟨rfl, q4, hbd4, hfr4⟩
            have hbd4' : Bld w4 B b (bytesV (pre ++ s.data.toList ++ 40 :: txtL (l.take k) ++ ([44] : List UInt8))) q4 := by
              have h3 := bytesV_one (pre ++ s.data.toList ++ 40 :: txtL (l.take k)) 44
              rw [← h3]; exact hbd4
            have HX4 := hide ((HX.out.alloc (.cells #[.string l[k].name, .slice a' l[k].args.length c'] 25)).bfr hfr4 (fun x hx => HBK.out.old (hX x hx)))
            have hb4 := HBK.out.box
            have K4 := hide ((Blk.new wr #[.string l[k].name, .slice a' l[k].args.length c'] 25).bfr hfr4 hb4.1 hb4.2)
            have e0 : w4.cell? ⟨wr.heap.size, 0, none⟩ = some (.string l[k].name) := K4.out.cell 0
            have e1 : w4.cell? ⟨wr.heap.size, 1, none⟩ = some (.slice a' l[k].args.length c') := K4.out.cell 1
            have hB4 : B ≤ w4.heap.size := by have := hfr4.2.2.2.1; simp at this; omega
            have HBD4 := hide hbd4'
            have HFR4 := hide (HFK.out.trans ((BFr.of_below ((Below.refl wr.heap.size wr).alloc (Nat.le_refl _) _) b q).trans hfr4))
            clear hbd4 hbd4' hfr4 hb4
            go_wp2_with fail
            refine (IH.out _ (List.getElem_mem hlt) _ q4 _ B b _ X (by exact HX4.out) hX (by exact HBD4.out) hB4 hln).mono ?_
            rintro e w5 ⟨rfl, q5, hbd5, hfr5⟩
            have HBD5 := hide hbd5
            have HFR5 := hide (HFR4.out.trans hfr5)
            clear hbd5 hfr5
            go_wp2_with fail
            go_roundw
            case rel => exact ⟨k + 1, q5, by omega, by go_num, by rw [← HE.out]; exact HBD5.out, HFR5.out⟩
            case measure => simp [intOf]; omega
        · have htk : l.take k = l := List.take_of_length_le (by omega)
          have hbk : (bytesV (pre ++ s.data.toList ++ 40 :: txtL (l.take k))).length ≤ 1000000000 := by rw [bytesV_len]; omega
          rw [htk] at hbdk hbk
          have HBE := hide hbdk
          have HE := hide (wr_end pre s l HN.out)
          clear hbdk hfrk hwl htk
          go_wp2_with fail
          refine (writeByte_any B b _ q 41 _ (by exact HBE.out) hbk hBr).mono ?_
          rintro e w4 ⟨rfl, q4, hbd4, hfr4⟩
          have hbd4' : Bld w4 B b (bytesV (pre ++ txtL [(⟨s, l⟩ : Tm)])) q4 := by
            have h3 := bytesV_one (pre ++ s.data.toList ++ 40 :: txtL l) 41
            rw [← HE.out, ← h3]; exact hbd4
          have HBD4 := hide hbd4'
          have HFR4 := hide (HW0.out.trans (HFK.out.trans hfr4))
          clear hbd4 hbd4' hfr4
          go_wp2_with fail
          go_end0
          exact ⟨rfl, q4, HBD4.out, HFR4.out⟩
end Go.Proofs.YtdmaijmglblccaaGreatDoor
