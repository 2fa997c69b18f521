/- Walks: the text of a lambda term, as the program writes it. -/
import Derived.Test.YtclobmmdlhianaaGreatDoorLt5
import Derived.Test.YtclobmmdlhianaaGreatDoorLt4
import Derived.Lib.AppendIntMem
namespace Go.Proofs.YtclobmmdlhianaaGreatDoor
open Go.RowKit
set_option linter.unusedSimpArgs false
set_option linter.unusedVariables false
set_option maxRecDepth 8000

/-- The library's table of powers, whatever is done from block B on. -/
def Tb (B : Nat) (w : World) : Prop := Lib.TabBelow Tryz.prog B w "internal/strconv.uint64pow10" .u64 Lib.pow10Tab
theorem Tb.on {B : Nat} {w w1 : World} (h : Tb B w) (hb : Below B w w1) : Tb B w1 := Lib.TabBelow.on h hb
theorem Wrt.lt {w : World} {B b : Nat} {fv : Value} {bs : List Value} {v : Value} (h : Wrt w B b fv bs v) : b < w.heap.size := by
  obtain ⟨_, ⟨p, _, hb⟩, _⟩ := h
  exact bd_lt hb
theorem Wrt.later {w w' : World} {B b : Nat} {fv : Value} {bs : List Value} {v : Value} (h : Wrt w B b fv bs v) (hb : Below w.heap.size w w') : Wrt w' B b fv bs v := by
  have hlt := h.lt
  obtain ⟨hB, ⟨p, hp, hbk⟩, hown⟩ := h
  exact ⟨hB, ⟨p, hp, by rw [hb.block b hlt]; exact hbk⟩, hown.kept (row := some w.heap.size) ⟨hb.os, hb.tape, hb.output, hb.size, fun k hk _ => hb.block k hk⟩ (Or.inr fun e => by have := (hown.lt _ e).2; omega)⟩
theorem Wrt.alloc {w : World} {B b : Nat} {fv : Value} {bs : List Value} {v : Value} (h : Wrt w B b fv bs v) (o : Obj) : Wrt (w.alloc o) B b fv bs v := h.later ((Below.refl _ _).alloc (Nat.le_refl _) o)
theorem Wrt.cell {w : World} {B b : Nat} {fv : Value} {bs : List Value} {v : Value} (h : Wrt w B b fv bs v) : w.cell? ⟨b, 2, none⟩ = some fv := by
  obtain ⟨_, ⟨p, _, hb⟩, _⟩ := h
  rw [Lib.cell_of_heap hb]; rfl
theorem Wrt.fr {w w' : World} {B b : Nat} {fv : Value} {bs : List Value} {v v' : Value} (h : Wrt w B b fv bs v) (hf : BFr w w' b v v') (hB : B ≤ w.heap.size) : Below B w w' := by
  obtain ⟨f1, f2, f3, f4, f5, f6⟩ := hf
  refine ⟨f1, f2, f3, f4, fun k hk => f5 k (by omega) (by have := h.1; omega) (fun e => ?_)⟩
  have := (h.2.2.lt _ e.symm).1
  omega
theorem Wrt.box {w : World} {B b : Nat} {fv : Value} {bs : List Value} {v : Value} (h : Wrt w B b fv bs v) : w.heap.size ≠ b ∧ some w.heap.size ≠ v.ownBlock := by
  refine ⟨by have := h.lt; omega, fun e => ?_⟩
  have := (h.2.2.lt _ e.symm).2; omega
/-- A block of one's own, kept where something is written. -/
theorem blk_bfr {w w' : World} {b k T : Nat} {q q' : Value} {cs : Array Value} (h : Blk w k cs T) (hf : BFr w w' b q q') (hk : k ≠ b) (hq : some k ≠ q.ownBlock) : Blk w' k cs T := by
  unfold Blk at *; rw [hf.2.2.2.2.1 k (Blk.lt h) hk hq]; exact h
theorem own_bfr {w w' : World} {b k : Nat} {q q' : Value} (hf : BFr w w' b q q') (hk : k < w.heap.size) (hq : some k ≠ q.ownBlock) : some k ≠ q'.ownBlock := fun e => by
  rcases hf.2.2.2.2.2 _ e.symm with h1 | h1
  · exact hq h1.symm
  · omega
theorem MV.bfr {w w' : World} {X : Nat → Prop} {v : Value} {t : Lm} {B : Nat} (h : MV w X v t) (hb : Below B w w') (hX : ∀ x, X x → x < B) : MV w' X v t := h.below hb (fun b hb _ => hX b hb)
theorem LV.bfr {w w' : World} {Y : Nat → Prop} {v : Value} {l : List ByteArray} {B : Nat} (h : LV Value.string w Y v l) (hb : Below B w w') (hX : ∀ x, Y x → x < B) : LV Value.string w' Y v l := h.below hb (fun b hb _ => hX b hb)
theorem bc_str (pre : List UInt8) (s : ByteArray) : Lib.byteCells pre ++ Lib.strCells s = Lib.byteCells (pre ++ s.data.toList) := by simp [Lib.byteCells, Lib.strCells]
theorem bc_one (pre : List UInt8) (c : UInt8) : Lib.byteCells pre ++ [.int .u8 c.toNat] = Lib.byteCells (pre ++ [c]) := by simp [Lib.byteCells]

theorem itoa_any (n B : Nat) (hn : n ≤ 1000000) (w : World) (hT : Tb B w) : Calls Tryz.prog 70 #[.int .i64 n] w fun e w' => e = .returned (.string ⟨(Lib.decDigits n).toArray⟩) ∧ Below w.heap.size w w' := by
  refine (Tryz.strconv_Itoa n (by omega) (by omega) w hT.here).mono ?_
  rintro e w' ⟨rfl, k, os, rfl⟩
  refine ⟨?_, Lib.below_grow _ _ (Nat.le_refl _) _ _⟩
  have : Lib.itoa (n : Int) = Lib.decDigits n := by simp [Lib.itoa]
  rw [this]

set_option maxHeartbeats 1000000 in
theorem wname_any (fr : List ByteArray) (B b : Nat) (fa : Option Addr) (fc : Nat) (bs : List Value) (v : Value) (k : Int) (w : World) (Y : Nat → Prop) (h : Wrt w B b (.slice fa fr.length fc) bs v) (hf : LV Value.string w Y (.slice fa fr.length fc) fr) (hT : Tb B w) (hk0 : -(fr.length : Int) ≤ k) (hk1 : k ≤ 1000) (hl : fr.length ≤ 1000) :
    Calls Tryz.prog 67 #[.pointer (some ⟨b, 0, none⟩), .int .i64 k] w fun e w' => e = .returned (.string ⟨(nmAt fr k).toArray⟩) ∧ Below w.heap.size w w' := by
  have hc := h.cell
  by_cases hk : k < 0
  · obtain ⟨a2, c2, e2, ⟨_, hc2⟩, h3⟩ := hf
    simp at e2
    obtain ⟨rfl, rfl⟩ := e2
    obtain ⟨m, hm⟩ : ∃ m : Nat, (m : Int) = fr.length + k := ⟨(fr.length + k).toNat, by omega⟩
    have hml : m < fr.length := by omega
    obtain ⟨bn, on, rfl, hY, hcells⟩ := h3.resolve_left (fun h => by rw [h] at hml; simp at hml)
    have hcell := hcells m hml
    have HE : Hid ((fr[m]).data.toList = nmAt fr k) := by
      unfold Hid nmAt
      rw [if_pos hk, show ((fr.length : Int) + k).toNat = m from by omega, List.getElem?_eq_getElem hml]
      rfl
    generalize nmAt fr k = R at HE ⊢
    generalize fr[m] = S at HE hcell
    have hidx : (fr.length : Int) + k = (m : Int) := by omega
    have hidx2 : (m : Int) < (fr.length : Int) := by omega
    have hlI : (fr.length : Int) ≤ 1000 := by omega
    have dc : ∀ n, (w.drewN n).cell? ⟨b, 2, none⟩ = some (.slice (some ⟨bn, on, none⟩) fr.length fc) := fun n => hc
    have dm : ∀ n, (w.drewN n).cell? ⟨bn, on + m, none⟩ = some (.string S) := fun n => hcell
    clear hcells h3 hm hml h hT
    generalize fr.length = L at *
    go_enter Tryz.func67, Tryz.ntmps67
    go_wp2_with fail
    go_quiet (fail)
    go_wp2_with fail
    go_ret
    exact ⟨ret_strL (by rw [HE.out]), below_drewN (Below.refl _ _) _⟩
  · obtain ⟨m, rfl⟩ : ∃ m : Nat, k = (m : Int) := ⟨k.toNat, by omega⟩
    have HE : Hid (120 :: Lib.decDigits m = nmAt fr (m : Int)) := by unfold Hid nmAt; rw [if_neg hk]; simp
    generalize nmAt fr (m : Int) = R at HE ⊢
    have hdl : (Lib.decDigits m).length ≤ 1001 := by have := dec_len m; omega
    have HT := hide hT
    clear h hf hT
    go_enter Tryz.func67, Tryz.ntmps67
    go_wp2_with fail
    refine (itoa_any m B (by omega) _ HT.out).mono ?_
    rintro e w1 ⟨rfl, hb1⟩
    have HB1 := hide hb1
    clear hb1
    go_wp2_with fail
    go_ret
    exact ⟨ret_strL (by rw [← HE.out]; simp), HB1.out⟩

/-- What writing one lambda term does. -/
def WT (fr : List ByteArray) (t : Lm) : Prop := ∀ (d : Nat) (v q0 : Value) (pre : List UInt8) (B b : Nat) (fa : Option Addr) (fc : Nat) (w : World) (X Y : Nat → Prop), errM (fr.length + d) 0 [t] = 0 → d + sizeM [t] ≤ 500 → MV w X v t → (∀ x, X x → x < B) → LV Value.string w Y (.slice fa fr.length fc) fr → (∀ x, Y x → x < B) →
    Wrt w B b (.slice fa fr.length fc) (Lib.byteCells pre) q0 → B ≤ w.heap.size → Tb B w → pre.length + (ltx fr d t).length ≤ 900000000 →
    Calls Tryz.prog 51 #[.pointer (some ⟨b, 0, none⟩), v, .int .i64 d] w fun e w' => e = .returned (.tuple #[]) ∧ ∃ q, Wrt w' B b (.slice fa fr.length fc) (Lib.byteCells (pre ++ ltx fr d t)) q ∧ BFr w w' b q0 q

set_option maxHeartbeats 2000000 in
theorem wpiece_any (fr : List ByteArray) (t : Lm) (hwt : WT fr t) (br : Bool) : ∀ (d : Nat) (v q0 : Value) (pre : List UInt8) (B b : Nat) (fa : Option Addr) (fc : Nat) (w : World) (X Y : Nat → Prop), errM (fr.length + d) 0 [t] = 0 → d + sizeM [t] ≤ 500 → MV w X v t → (∀ x, X x → x < B) → LV Value.string w Y (.slice fa fr.length fc) fr → (∀ x, Y x → x < B) →
    Wrt w B b (.slice fa fr.length fc) (Lib.byteCells pre) q0 → B ≤ w.heap.size → Tb B w → pre.length + (brk br (ltx fr d t)).length ≤ 900000000 →
    Calls Tryz.prog 69 #[.pointer (some ⟨b, 0, none⟩), v, .int .i64 d, .bool br] w fun e w' => e = .returned (.tuple #[]) ∧ ∃ q, Wrt w' B b (.slice fa fr.length fc) (Lib.byteCells (pre ++ brk br (ltx fr d t))) q ∧ BFr w w' b q0 q := by
  intro d v q0 pre B b fa fc w X Y he hd hv hX hn hY hw hB hT hlen
  have HWT := hide hwt
  clear hwt
  obtain ⟨a, c, rfl, hs⟩ := hv
  have hv : MV w X (.agg #[.int .i64 t.kind, .int .i64 t.idx, .slice a t.subs.length c]) t := ⟨a, c, rfl, hs⟩
  have HV := hide hv
  have HN := hide hn
  have HT := hide hT
  have hbox := hw.box
  have K0 := hide (Blk.new w #[.int .i64 t.kind, .int .i64 t.idx, .slice a t.subs.length c] 25)
  have HB0 : Hid (Below w.heap.size w (w.alloc (.cells #[.int .i64 t.kind, .int .i64 t.idx, .slice a t.subs.length c] 25))) := (Below.refl _ _).alloc (Nat.le_refl _) _
  have HW0 := hide (hw.alloc (.cells #[.int .i64 t.kind, .int .i64 t.idx, .slice a t.subs.length c] 25))
  have HF0 := hide (BFr.of_below HB0.out b q0)
  clear hv hs hn hT hw
  have t0 : ∀ (w' : World), Blk w' w.heap.size #[.int .i64 t.kind, .int .i64 t.idx, .slice a t.subs.length c] 25 → w'.cell? ⟨w.heap.size, 0, none⟩ = some (.int .i64 t.kind) ∧ w'.cell? ⟨w.heap.size, 1, none⟩ = some (.int .i64 t.idx) ∧ w'.cell? ⟨w.heap.size, 2, none⟩ = some (.slice a t.subs.length c) := fun w' h => ⟨h.cell 0, h.cell 1, h.cell 2⟩
  have T0 := hide t0
  clear t0
  cases br with
  | false =>
    have HE : Hid (brk false (ltx fr d t) = ltx fr d t) := by unfold Hid brk; simp
    rw [HE.out] at hlen
    generalize brk false (ltx fr d t) = R at HE ⊢
    obtain ⟨k0, k1, k2⟩ := T0.out _ K0.out
    go_enter Tryz.func69, Tryz.ntmps69
    go_wp2_with fail
    refine (HWT.out d _ q0 pre B b fa fc _ X Y he hd (by exact HV.out.later HB0.out) hX (by exact HN.out.later HB0.out) hY (by exact HW0.out) (by simp; omega) (HT.out.on (HB0.out.mono hB)) hlen).mono ?_
    rintro e w1 ⟨rfl, q1, hw1, hf1⟩
    have HW1 := hide hw1
    have HF1 := hide (HF0.out.trans hf1)
    clear hw1 hf1
    go_wp2_with fail
    refine bodyPost_ret (v := .tuple #[]) (by simp [results, Tryz.results69, go_sem]) rfl ?_
    exact ⟨rfl, q1, by rw [HE.out]; exact HW1.out, HF1.out⟩
  | true =>
    have HE : Hid (brk true (ltx fr d t) = 40 :: (ltx fr d t ++ [41])) := by unfold Hid brk; simp
    rw [HE.out] at hlen
    simp only [List.length_cons, List.length_append, List.length_nil] at hlen
    generalize brk true (ltx fr d t) = R at HE ⊢
    go_enter Tryz.func69, Tryz.ntmps69
    go_wp2_with fail
    refine (writeByteW_any B b _ _ q0 40 _ (by exact HW0.out) (by rw [Lib.byteCells_length]; omega) (by simp; omega)).mono ?_
    rintro e w1 ⟨rfl, q1, hw1, hf1⟩
    have HW1 : Hid (Wrt w1 B b (.slice fa fr.length fc) (Lib.byteCells (pre ++ [40])) q1) := by unfold Hid; rw [← bc_one]; exact hw1
    have HB1 := hide ((HB0.out.mono hB).trans (HW0.out.fr hf1 (by simp; omega)))
    have K1 := hide (blk_bfr K0.out hf1 hbox.1 hbox.2)
    have ho1 := own_bfr hf1 K0.out.lt hbox.2
    have HF1 := hide (HF0.out.trans hf1)
    have hs1 := HB1.out.size
    clear hw1 hf1
    obtain ⟨k0, k1, k2⟩ := T0.out _ K1.out
    go_wp2_with fail
    refine (HWT.out d _ q1 (pre ++ [40]) B b fa fc _ X Y he hd (by exact HV.out.bfr HB1.out hX) hX (by exact HN.out.bfr HB1.out hY) hY (by exact HW1.out) (by omega) (HT.out.on HB1.out) (by simp; omega)).mono ?_
    rintro e w2 ⟨rfl, q2, hw2, hf2⟩
    have HW2 := hide hw2
    have HF2 := hide (HF1.out.trans hf2)
    have hs2 := (HW1.out.fr hf2 (by omega)).size
    clear hw2 hf2 k0 k1 k2
    go_wp2_with fail
    refine (writeByteW_any B b _ _ q2 41 _ (by exact HW2.out) (by rw [Lib.byteCells_length]; simp; omega) (by omega)).mono ?_
    rintro e w3 ⟨rfl, q3, hw3, hf3⟩
    have HW3 : Hid (Wrt w3 B b (.slice fa fr.length fc) (Lib.byteCells (pre ++ [40] ++ ltx fr d t ++ [41])) q3) := by unfold Hid; rw [← bc_one]; exact hw3
    have HF3 := hide (HF2.out.trans hf3)
    clear hw3 hf3
    go_wp2_with fail
    go_end0
    exact ⟨rfl, q3, by rw [HE.out]; simpa using HW3.out, HF3.out⟩
end Go.Proofs.YtclobmmdlhianaaGreatDoor
