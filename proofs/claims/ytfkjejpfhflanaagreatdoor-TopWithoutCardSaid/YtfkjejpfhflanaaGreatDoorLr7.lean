/- Walks: reading a lambda term: what is known all along; a piece. -/
import Derived.Test.YtfkjejpfhflanaaGreatDoorLr6
namespace Go.Proofs.YtfkjejpfhflanaaGreatDoor
open Go.RowKit
set_option linter.unusedSimpArgs false
set_option linter.unusedVariables false
set_option maxRecDepth 8000

/-- A reader, and its names in a row of its own. -/
structure Rst (N B : Nat) (s : ByteArray) (nm : List ByteArray) (i k : Nat) (nv : Value) (w : World) : Prop where
  bx : Bl nv w B s i k
  own : w.ownsRow N 9 1 nv nm.length (nm.map Value.string)
  nb : N ≤ B
  le : N ≤ w.heap.size
  tb : Tb N w
  ts : Tse N w
theorem Rst.ne {N B : Nat} {s : ByteArray} {nm : List ByteArray} {i k : Nat} {nv : Value} {w : World} (h : Rst N B s nm i k nv w) : nv.ownBlock ≠ some B := Lib.ownBlock_ne h.own h.bx (by decide)
theorem Rst.fr {N B : Nat} {s : ByteArray} {nm : List ByteArray} {i k : Nat} {nv nv' : Value} {w w' : World} (h : Rst N B s nm i k nv w) (hf : BFr w w' B nv nv') : Below N w w' := by
  obtain ⟨f1, f2, f3, f4, f5, f6⟩ := hf
  refine ⟨f1, f2, f3, f4, fun q hq => f5 q (by have := h.le; omega) (by have := h.nb; omega) (fun e => ?_)⟩
  have := (h.own.lt _ e.symm).1
  omega
theorem Rst.step {N B : Nat} {s : ByteArray} {nm nm' : List ByteArray} {i k i' k' : Nat} {nv nv' : Value} {w w' : World} (h : Rst N B s nm i k nv w) (hf : BFr w w' B nv nv') (hb : Bl nv' w' B s i' k') (ho : w'.ownsRow N 9 1 nv' nm'.length (nm'.map Value.string)) : Rst N B s nm' i' k' nv' w' :=
  ⟨hb, ho, h.nb, Nat.le_trans h.le hf.2.2.2.1, h.tb.on (h.fr hf), h.ts.on (h.fr hf)⟩
theorem Ex.bfrL {B : Nat} {w w' : World} (h : Ex B w w') (nv : Value) : BFr w w' B nv nv := ⟨h.os, h.tape, h.output, h.size, fun q hq hb _ => h.block q hq hb, fun _ h => Or.inl h⟩
theorem Rst.ex {N B : Nat} {s : ByteArray} {nm : List ByteArray} {i k i' k' : Nat} {nv : Value} {w w' : World} (h : Rst N B s nm i k nv w) (he : Ex B w w') (hb : Bl nv w' B s i' k') : Rst N B s nm i' k' nv w' :=
  h.step (he.bfrL nv) hb (h.own.kept (row := some B) ⟨he.os, he.tape, he.output, he.size, fun q hq hb => he.block q hq (fun e => hb (by rw [e]))⟩ (Or.inr h.ne))
theorem Rst.later {N B : Nat} {s : ByteArray} {nm : List ByteArray} {i k : Nat} {nv : Value} {w w' : World} (h : Rst N B s nm i k nv w) (hb : Below w.heap.size w w') : Rst N B s nm i k nv w' :=
  h.step (BFr.of_below hb B nv) (Blk.below h.bx hb (Blk.lt h.bx)) (h.own.kept (row := some w.heap.size) ⟨hb.os, hb.tape, hb.output, hb.size, fun q hq _ => hb.block q hq⟩ (Or.inr fun e => by have := (h.own.lt _ e).2; omega))
theorem Rst.alloc {N B : Nat} {s : ByteArray} {nm : List ByteArray} {i k : Nat} {nv : Value} {w : World} (h : Rst N B s nm i k nv w) (o : Obj) : Rst N B s nm i k nv (w.alloc o) := h.later ((Below.refl _ _).alloc (Nat.le_refl _) o)
theorem Rst.drewN {N B : Nat} {s : ByteArray} {nm : List ByteArray} {i k : Nat} {nv : Value} {w : World} (h : Rst N B s nm i k nv w) (n : Nat) : Rst N B s nm i k nv (w.drewN n) := h.later (below_drewN (Below.refl _ _) n)
theorem Rst.lt {N B : Nat} {s : ByteArray} {nm : List ByteArray} {i k : Nat} {nv : Value} {w : World} (h : Rst N B s nm i k nv w) : B < w.heap.size := Blk.lt h.bx
theorem Rst.box {N B : Nat} {s : ByteArray} {nm : List ByteArray} {i k : Nat} {nv : Value} {w : World} (h : Rst N B s nm i k nv w) : w.heap.size ≠ B ∧ some w.heap.size ≠ nv.ownBlock := by
  refine ⟨by have := h.lt; omega, fun e => ?_⟩
  have := (h.own.lt _ e.symm).2; omega
theorem Rst.lv {N B : Nat} {s : ByteArray} {nm : List ByteArray} {i k : Nat} {nv : Value} {w : World} (h : Rst N B s nm i k nv w) : ∃ a c, nv = .slice a nm.length c ∧ LV Value.string w (fun b => N ≤ b) (.slice a nm.length c) nm := by
  have h1 := LV.of_own h.own
  obtain ⟨a, c, e, h2⟩ := h1
  exact ⟨a, c, e, a, c, rfl, h2⟩

/-- What reading does. -/
def LrP (N B : Nat) (s : ByteArray) (nm : List ByteArray) (nv : Value) (w : World) (r : Lrd) (e : Ending) (w' : World) : Prop :=
  (r.err = 0 ∧ ∃ nv' a c, e = .returned (.agg #[.int .i64 r.t.kind, .int .i64 r.t.idx, .slice a r.t.subs.length c]) ∧ SlM w' (fun b => w.heap.size ≤ b ∧ some b ≠ nv'.ownBlock) a r.t.subs ∧ Rst N B s nm r.pos r.k nv' w' ∧ BFr w w' B nv nv') ∨
  (r.err ≠ 0 ∧ e = .panicked [{ v := .iface 31 (.int .i64 r.err), recovered := false }] ∧ ∃ nv', BFr w w' B nv nv')
theorem lrP_no {N B : Nat} {s : ByteArray} {nm : List ByteArray} {nv nv' : Value} {w w' : World} {r : Lrd} {z : Int} (h : r = noLr z) (hz : z ≠ 0) (hf : BFr w w' B nv nv') : LrP N B s nm nv w r (.panicked [{ v := .iface 31 (.int .i64 z), recovered := false }]) w' := by
  subst h
  exact Or.inr ⟨hz, rfl, nv', hf⟩
theorem lr_fin {N B : Nat} {s : ByteArray} {nm : List ByteArray} {nv nv' : Value} {w w4 : World} {r : Lrd} {a : Option Addr} {c p kk : Nat} {t : Lm} (hr : r = ⟨0, t, p, kk⟩) (hst : Rst N B s nm p kk nv' w4) (hf : BFr w w4 B nv nv') (hB : B < w.heap.size) (hq : some w.heap.size ≠ nv'.ownBlock) (hs : SlM w4 (fun b => w.heap.size < b ∧ some b ≠ nv'.ownBlock) a t.subs) (v0 v1 v2 : Value) :
    LrP N B s nm nv w r (.returned (.agg #[.int .i64 t.kind, .int .i64 t.idx, .slice a t.subs.length c])) (((w4.setCell ⟨w.heap.size, 0, none⟩ v0).setCell ⟨w.heap.size, 1, none⟩ v1).setCell ⟨w.heap.size, 2, none⟩ v2) := by
  subst hr
  have kk : ∀ q : Nat, q ≠ w.heap.size → (((w4.setCell ⟨w.heap.size, 0, none⟩ v0).setCell ⟨w.heap.size, 1, none⟩ v1).setCell ⟨w.heap.size, 2, none⟩ v2).heap[q]? = w4.heap[q]? := fun q hq => by
    rw [Below.heap_setCell _ _ _ _ (by simpa using hq), Below.heap_setCell _ _ _ _ (by simpa using hq), Below.heap_setCell _ _ _ _ (by simpa using hq)]
  have hz : (((w4.setCell ⟨w.heap.size, 0, none⟩ v0).setCell ⟨w.heap.size, 1, none⟩ v1).setCell ⟨w.heap.size, 2, none⟩ v2).heap.size = w4.heap.size := by simp [World.setCell]
  have hos : (((w4.setCell ⟨w.heap.size, 0, none⟩ v0).setCell ⟨w.heap.size, 1, none⟩ v1).setCell ⟨w.heap.size, 2, none⟩ v2).os = w4.os ∧ (((w4.setCell ⟨w.heap.size, 0, none⟩ v0).setCell ⟨w.heap.size, 1, none⟩ v1).setCell ⟨w.heap.size, 2, none⟩ v2).tape = w4.tape ∧ (((w4.setCell ⟨w.heap.size, 0, none⟩ v0).setCell ⟨w.heap.size, 1, none⟩ v1).setCell ⟨w.heap.size, 2, none⟩ v2).output = w4.output := ⟨rfl, rfl, rfl⟩
  generalize (((w4.setCell ⟨w.heap.size, 0, none⟩ v0).setCell ⟨w.heap.size, 1, none⟩ v1).setCell ⟨w.heap.size, 2, none⟩ v2) = w5 at *
  have hg : w4.grownBy w5 (some w.heap.size) := ⟨hos.1, hos.2.1, hos.2.2, by omega, fun q hq hn => kk q (fun e => hn (by rw [e]))⟩
  have hf5 : BFr w w5 B nv nv' := ⟨hos.1.trans hf.1, hos.2.1.trans hf.2.1, hos.2.2.trans hf.2.2.1, by have := hf.2.2.2.1; omega, fun q hq h1 h2 => (kk q (by omega)).trans (hf.2.2.2.2.1 q hq h1 h2), hf.2.2.2.2.2⟩
  have hbb : Below N w4 w5 := ⟨hos.1, hos.2.1, hos.2.2, by omega, fun q hq => kk q (by have := hst.nb; omega)⟩
  refine Or.inl ⟨rfl, nv', a, c, rfl, (hs.kept fun q hq => kk q (by omega)).mono fun q hq _ => ⟨Nat.le_of_lt hq.1, hq.2⟩, ⟨?_, hst.own.kept hg (Or.inr fun e => hq e.symm), hst.nb, by have := hst.le; omega, hst.tb.on hbb, hst.ts.on hbb⟩, hf5⟩
  have hbx := hst.bx
  unfold Bl Blk at hbx ⊢
  rw [kk B (by omega)]
  exact hbx

def LTerm (N B : Nat) (s : ByteArray) (F : Nat) : Prop := ∀ (nm : List ByteArray) (nv : Value) (i k : Nat) (w : World), Rst N B s nm i k nv w → nm.length ≤ 100 + k → i ≤ s.size → k ≤ 200 → 3 * (s.size - i) + 3 ≤ F →
  Calls Tryz.prog 41 #[.pointer (some ⟨B, 0, none⟩)] w fun e w' => LrP N B s nm nv w (lrd s F .term nm i k) e w'
def LPiece (N B : Nat) (s : ByteArray) (F : Nat) : Prop := ∀ (nm : List ByteArray) (nv : Value) (i k : Nat) (w : World), Rst N B s nm i k nv w → nm.length ≤ 100 + k → i ≤ s.size → k ≤ 200 → 3 * (s.size - i) + 2 ≤ F →
  Calls Tryz.prog 63 #[.pointer (some ⟨B, 0, none⟩)] w fun e w' => LrP N B s nm nv w (lrd s F .piece nm i k) e w'

set_option maxHeartbeats 2000000 in
theorem lpiece_of (N B : Nat) (s : ByteArray) (hs : s.size ≤ 4000) (F : Nat) (hT : LTerm N B s F) : LPiece N B s (F + 1) := by
  intro nm nv i k w hst hnk hi hk hF
  have HT := hide hT
  have HST := hide hst
  have hbox := hst.box
  have hBlt := hst.lt
  have HRD : Hid (lrd s (F + 1) .piece nm i k = if i < s.size ∧ byteAt s i = 40 then
      (if (lrd s F .term nm (i + 1) k).err ≠ 0 then noLr (lrd s F .term nm (i + 1) k).err else if askE s (lrd s F .term nm (i + 1) k).pos 41 ≠ 0 then noLr (askE s (lrd s F .term nm (i + 1) k).pos 41) else ⟨0, (lrd s F .term nm (i + 1) k).t, (lrd s F .term nm (i + 1) k).pos + 1, (lrd s F .term nm (i + 1) k).k⟩)
    else if nameE s i ≠ 0 then noLr (nameE s i)
    else if 200 < k + 1 then noLr 3
    else namedL nm (s.extract i (stopAt s i)) (stopAt s i) (k + 1)) := by unfold Hid; rw [lrd]
  generalize lrd s (F + 1) .piece nm i k = r at *
  have Z0 := hide (hst.alloc (.cells #[.int .i64 0, .int .i64 0, .slice none 0 0] 25))
  have R0 := hide (Blk.new w #[.int .i64 0, .int .i64 0, .slice none 0 0] 25)
  have F0 : Hid (BFr w (w.alloc (.cells #[.int .i64 0, .int .i64 0, .slice none 0 0] 25)) B nv nv) := BFr.of_below ((Below.refl _ _).alloc (Nat.le_refl _) _) B nv
  clear hT hst
  go_enter Tryz.func63, Tryz.ntmps63
  go_wp2_with fail
  refine (take_anyL (nv := nv) B i k s 40 hi hs _ (by exact Z0.out.bx)).mono ?_
  intro e w1 hp
  unfold TookPostL at hp
  by_cases h4 : i < s.size ∧ byteAt s i = 40
  · rw [if_pos h4] at hp
    obtain ⟨rfl, hx1, he1, hz1⟩ := hp
    have Z1 := hide (Z0.out.ex he1 hx1)
    have F1 := hide (F0.out.trans (he1.bfrL nv))
    have R1 := hide (blk_bfr R0.out (he1.bfrL nv) hbox.1 hbox.2)
    have hzz : w1.heap.size = w.heap.size + 1 := by rw [hz1]; simp
    have HR : Hid (r = (if (lrd s F .term nm (i + 1) k).err ≠ 0 then noLr (lrd s F .term nm (i + 1) k).err else if askE s (lrd s F .term nm (i + 1) k).pos 41 ≠ 0 then noLr (askE s (lrd s F .term nm (i + 1) k).pos 41) else ⟨0, (lrd s F .term nm (i + 1) k).t, (lrd s F .term nm (i + 1) k).pos + 1, (lrd s F .term nm (i + 1) k).k⟩)) := by unfold Hid; rw [HRD.out, if_pos h4]
    clear he1 hx1 hz1 HRD Z0 F0 R0
    go_wp2_with fail
    refine (HT.out nm nv (i + 1) k w1 Z1.out hnk (by omega) hk (by omega)).mono ?_
    intro e w2 hp
    rcases hp with ⟨hr0, nv2, a2, c2, rfl, hs2, hst2, hf2⟩ | ⟨hr0, rfl, nv2, hf2⟩
    · have hpos := lrd_pos s F .term nm (i + 1) k hr0 (by omega) hk
      generalize lrd s F .term nm (i + 1) k = r2 at *
      have R2 := hide (blk_bfr R1.out hf2 hbox.1 hbox.2)
      have ho2 := own_bfr hf2 R1.out.lt hbox.2
      have F2 := hide (F1.out.trans hf2)
      have hz2 : w1.heap.size ≤ w2.heap.size := hf2.2.2.2.1
      have Z3 := hide (hst2.alloc (.cells #[.int .i64 r2.t.kind, .int .i64 r2.t.idx, .slice a2 r2.t.subs.length c2] 25))
      have T3 := hide (Blk.new w2 #[.int .i64 r2.t.kind, .int .i64 r2.t.idx, .slice a2 r2.t.subs.length c2] 25)
      have R3 := hide (R2.out.alloc (.cells #[.int .i64 r2.t.kind, .int .i64 r2.t.idx, .slice a2 r2.t.subs.length c2] 25))
      have S3 := hide (hs2.later ((Below.refl _ _).alloc (Nat.le_refl _) (.cells #[.int .i64 r2.t.kind, .int .i64 r2.t.idx, .slice a2 r2.t.subs.length c2] 25)))
      have F3 := hide (F2.out.trans (BFr.of_below ((Below.refl w2.heap.size w2).alloc (Nat.le_refl _) (.cells #[.int .i64 r2.t.kind, .int .i64 r2.t.idx, .slice a2 r2.t.subs.length c2] 25)) B nv2))
      have hbx2 := hst2.box
      have HR0 := hide hr0
      clear hf2 hs2 hst2 R2 F2 hr0
      go_wp2_with fail
      generalize (w2.alloc (.cells #[.int .i64 r2.t.kind, .int .i64 r2.t.idx, .slice a2 r2.t.subs.length c2] 25)) = w3 at *
      refine (rdAsk_anyL (nv := nv2) B r2.pos r2.k s 41 hpos.2.1 hs _ (by exact Z3.out.bx)).mono ?_
      intro e w4 hp
      unfold RdAskPostL at hp
      by_cases h6 : r2.pos < s.size ∧ byteAt s r2.pos = 41
      · rw [if_pos h6] at hp
        obtain ⟨⟨v4, rfl⟩, hx4, he4, hz4⟩ := hp
        have HAE : Hid (askE s r2.pos 41 = 0) := by unfold Hid askE; rw [if_pos h6]
        have HF : Hid (r = ⟨0, r2.t, r2.pos + 1, r2.k⟩) := by unfold Hid; rw [HR.out, if_neg (by rw [HR0.out]; simp), if_neg (by rw [HAE.out]; simp)]
        have Z4 := hide (Z3.out.ex he4 hx4)
        have F4 := hide (F3.out.trans (he4.bfrL nv2))
        have T4 := hide (blk_bfr T3.out (he4.bfrL nv2) hbx2.1 hbx2.2)
        have R4 := hide (blk_bfr R3.out (he4.bfrL nv2) hbox.1 ho2)
        have S4 : Hid (SlM w4 (fun b => w.heap.size < b ∧ some b ≠ nv2.ownBlock) a2 r2.t.subs) := (S3.out.mono (Y := fun b => (w1.heap.size ≤ b ∧ some b ≠ nv2.ownBlock) ∧ b < w3.heap.size) fun b h1 h2 => ⟨h1, h2⟩).kept (fun b hb => he4.block b hb.2 (by omega)) |>.mono fun b hb _ => ⟨by omega, hb.1.2⟩
        have q0 := T4.out.cell 0
        have q1 := T4.out.cell 1
        have q2 := T4.out.cell 2
        have r0 := R4.out.cell 0
        have r1 := R4.out.cell 1
        have r2' := R4.out.cell 2
        have rf := R4.out.frozen
        simp only [List.getElem?_toArray, List.getElem?_cons_succ, List.getElem?_cons_zero] at q0 q1 q2 r0 r1 r2'
        clear he4 hx4 hz4
        go_wp2_with fail
        refine bodyPost_ret (v := .agg #[.int .i64 r2.t.kind, .int .i64 r2.t.idx, .slice a2 r2.t.subs.length c2]) (by simp [results, Tryz.results63, go_sem, World.cell?_setCell_same, World.cell?_setCell_other, r0, r1, r2']) rfl ?_
        exact lr_fin HF.out Z4.out F4.out hBlt ho2 S4.out _ _ _
      · rw [if_neg h6] at hp
        obtain ⟨he, n4, rfl⟩ := hp
        have HAE : Hid (askE s r2.pos 41 = if r2.pos = s.size then 13 else 12) := by unfold Hid askE; rw [if_neg h6]
        have HNZ : Hid ((if r2.pos = s.size then (13 : Int) else 12) ≠ 0) := by unfold Hid; split <;> omega
        unfold thrownL at he
        subst he
        exact ⟨rfl, lrP_no (by rw [HR.out, if_neg (by rw [HR0.out]; simp), if_pos (by rw [HAE.out]; exact HNZ.out), HAE.out]) HNZ.out (F3.out.trans (BFr.of_below (below_drewN (Below.refl _ _) n4) B nv2))⟩
    · exact ⟨rfl, lrP_no (by rw [HR.out, if_pos hr0]) hr0 (F1.out.trans hf2)⟩
  · rw [if_neg h4] at hp
    obtain ⟨rfl, n1, rfl⟩ := hp
    have Z1 := hide (Z0.out.drewN n1)
    have F1 := hide (F0.out.trans (BFr.of_below (below_drewN (Below.refl _ _) n1) B nv))
    have R1 := hide (R0.out.drewN n1)
    have HR : Hid (r = (if nameE s i ≠ 0 then noLr (nameE s i) else if 200 < k + 1 then noLr 3 else namedL nm (s.extract i (stopAt s i)) (stopAt s i) (k + 1))) := by unfold Hid; rw [HRD.out, if_neg h4]
    have hz1 : ((w.alloc (.cells #[.int .i64 0, .int .i64 0, .slice none 0 0] 25)).drewN n1).heap.size = w.heap.size + 1 := by
      have : ((w.alloc (.cells #[.int .i64 0, .int .i64 0, .slice none 0 0] 25)).drewN n1).heap = (w.alloc (.cells #[.int .i64 0, .int .i64 0, .slice none 0 0] 25)).heap := rfl
      rw [this]; simp
    generalize ((w.alloc (.cells #[.int .i64 0, .int .i64 0, .slice none 0 0] 25)).drewN n1) = w1 at *
    clear HRD Z0 F0 R0
    go_wp2_with fail
    refine (name_anyL (nv := nv) B i k s hi hs _ (by exact Z1.out.bx)).mono ?_
    intro e w2 hp
    unfold NamePostL at hp
    by_cases h1 : stopAt s i = i
    · rw [if_pos h1] at hp
      obtain ⟨rfl, he⟩ := hp
      have HNE : Hid (nameE s i = if i = s.size then 13 else 12) := by unfold Hid nameE; rw [if_pos h1]
      have HNZ : Hid ((if i = s.size then (13 : Int) else 12) ≠ 0) := by unfold Hid; split <;> omega
      exact ⟨rfl, lrP_no (by rw [HR.out, if_pos (by rw [HNE.out]; exact HNZ.out), HNE.out]) HNZ.out (F1.out.trans (he.bfrL nv))⟩
    rw [if_neg h1] at hp
    by_cases h2 : nameB (s.extract i (stopAt s i)) = false
    · rw [if_pos h2] at hp
      obtain ⟨rfl, he⟩ := hp
      have HNE : Hid (nameE s i = 1) := by unfold Hid nameE; rw [if_neg h1, if_pos h2]
      exact ⟨rfl, lrP_no (by rw [HR.out, if_pos (by rw [HNE.out]; simp), HNE.out]) (by simp) (F1.out.trans (he.bfrL nv))⟩
    rw [if_neg h2] at hp
    obtain ⟨rfl, hx2, he2, hz2⟩ := hp
    have HNE : Hid (nameE s i = 0) := by unfold Hid nameE; rw [if_neg h1, if_neg h2]
    have hnb : nameB (s.extract i (stopAt s i)) = true := by cases hq : nameB (s.extract i (stopAt s i)) with | true => rfl | false => exact absurd hq h2
    have hjs := stopAt_le s hi
    have Z2 := hide (Z1.out.ex he2 hx2)
    have F2 := hide (F1.out.trans (he2.bfrL nv))
    have R2 := hide (blk_bfr R1.out (he2.bfrL nv) hbox.1 hbox.2)
    have HR2 : Hid (r = (if 200 < k + 1 then noLr 3 else namedL nm (s.extract i (stopAt s i)) (stopAt s i) (k + 1))) := by unfold Hid; rw [HR.out, if_neg (by rw [HNE.out]; simp)]
    clear hx2 he2 h1 h2 Z1 F1 R1 HR HNE
    generalize s.extract i (stopAt s i) = n at *
    generalize stopAt s i = j at *
    go_wp2_with fail
    refine (rdKnot_anyL (nv := nv) B j k s (by omega) _ (by exact Z2.out.bx)).mono ?_
    intro e w3 hp
    unfold RdKnotPostL at hp
    by_cases h3 : 200 < k + 1
    · rw [if_pos h3] at hp
      obtain ⟨he, he3⟩ := hp
      unfold thrownL at he
      subst he
      exact ⟨rfl, lrP_no (by rw [HR2.out, if_pos h3]) (by simp) (F2.out.trans (he3.bfrL nv))⟩
    rw [if_neg h3] at hp
    obtain ⟨⟨v3, rfl⟩, hx3, he3, hz3⟩ := hp
    have Z3 := hide (Z2.out.ex he3 hx3)
    have F3 := hide (F2.out.trans (he3.bfrL nv))
    have R3 := hide (blk_bfr R2.out (he3.bfrL nv) hbox.1 hbox.2)
    have HR3 : Hid (r = namedL nm n j (k + 1)) := by unfold Hid; rw [HR2.out, if_neg h3]
    clear hx3 he3 Z2 F2 R2 HR2
    go_wp2_with fail
    obtain ⟨an, cn, rfl, hlv⟩ := Z3.out.lv
    have hbx3 := Z3.out.bx
    unfold Bl at hbx3
    refine (named_any nm n s hnb B j (k + 1) cn N an _ w3 hbx3 hlv (by omega) Z3.out.tb Z3.out.ts Z3.out.le).mono ?_
    clear hlv hbx3
    rintro e w4 ⟨hb4, hp⟩
    have Z4 := hide (Z3.out.later hb4)
    have F4 := hide (F3.out.trans (BFr.of_below hb4 B (.slice an nm.length cn)))
    have R4 := hide (R3.out.below hb4 R3.out.lt)
    clear hb4 Z3 F3 R3
    have r0 := R4.out.cell 0
    have r1 := R4.out.cell 1
    have r2 := R4.out.cell 2
    have rf := R4.out.frozen
    simp only [List.getElem?_toArray, List.getElem?_cons_succ, List.getElem?_cons_zero] at r0 r1 r2
    rcases hp with ⟨q, hq, rfl⟩ | ⟨hq, c0, hc, rfl⟩ | ⟨hq, hc, he⟩
    · have HF : Hid (r = ⟨0, ⟨1, (nm.length : Int) - 1 - q, []⟩, j, k + 1⟩) := by unfold Hid; rw [HR3.out]; unfold namedL; rw [hq]
      clear hq
      go_wp2_with fail
      refine bodyPost_ret (v := .agg #[.int .i64 1, .int .i64 ((nm.length : Int) - 1 - q), .slice none 0 0]) (by simp [results, Tryz.results63, go_sem, World.cell?_setCell_same, World.cell?_setCell_other, r0, r1, r2]) rfl ?_
      exact lr_fin (t := ⟨1, (nm.length : Int) - 1 - q, []⟩) HF.out Z4.out F4.out hBlt hbox.2 ⟨by simp, Or.inl rfl⟩ _ _ _
    · have HF : Hid (r = ⟨0, ⟨4, (c0 : Int), []⟩, j, k + 1⟩) := by unfold Hid; rw [HR3.out]; unfold namedL; rw [hq]; simp only [hc]
      clear hq hc
      go_wp2_with fail
      refine bodyPost_ret (v := .agg #[.int .i64 4, .int .i64 (c0 : Int), .slice none 0 0]) (by simp [results, Tryz.results63, go_sem, World.cell?_setCell_same, World.cell?_setCell_other, r0, r1, r2]) rfl ?_
      exact lr_fin (t := ⟨4, (c0 : Int), []⟩) HF.out Z4.out F4.out hBlt hbox.2 ⟨by simp, Or.inl rfl⟩ _ _ _
    · have HF : Hid (r = noLr 15) := by unfold Hid; rw [HR3.out]; unfold namedL; rw [hq]; simp only [hc]
      unfold thrownL at he
      subst he
      exact ⟨rfl, lrP_no HF.out (by simp) F4.out⟩
end Go.Proofs.YtfkjejpfhflanaaGreatDoor
