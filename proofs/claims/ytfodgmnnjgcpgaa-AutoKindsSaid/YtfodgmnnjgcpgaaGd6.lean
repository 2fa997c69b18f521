/- Memory: two terms that are made side by side (parted); a row of rows of marks; places by texts. -/
import Derived.Test.YtfodgmnnjgcpgaaGd3
import Derived.Test.YtfodgmnnjgcpgaaGd5
import Derived.Test.YtfodgmnnjgcpgaaZAutoKindsOwn
namespace Go.Proofs.Ytfodgmnnjgcpgaa
open Go.RowKit
set_option linter.unusedSimpArgs false
set_option linter.unusedVariables false
set_option maxRecDepth 8000

/-- A term that is being made: its box, its arguments so far. -/
def BxR (w : World) (N : Nat) (Z : Nat → Prop) (T : Nat) (nm : ByteArray) (fv : Value) (L : List Tm) : Prop := Blk w T #[.string nm, fv] 39 ∧ ∃ xs, RowG w N Z fv L xs
theorem BxR.exq {w w' : World} {N T : Nat} {Z Q : Nat → Prop} {nm : ByteArray} {fv : Value} {L : List Tm} (h : BxR w N Z T nm fv L) (he : ExQ Q w w') (h1 : ¬ Q T) (h2 : ∀ b, fv.ownBlock = some b → ¬ Q b) (h3 : ∀ b, Z b → ¬ Q b) : BxR w' N Z T nm fv L := by
  obtain ⟨hb, xs, hr⟩ := h
  exact ⟨hb.exq he h1, xs, hr.exq he h2 h3⟩
theorem BxR.later {w w' : World} {N T : Nat} {Z : Nat → Prop} {nm : ByteArray} {fv : Value} {L : List Tm} (h : BxR w N Z T nm fv L) (hb : Below w.heap.size w w') : BxR w' N Z T nm fv L := by
  obtain ⟨h1, xs, hr⟩ := h
  exact ⟨h1.below hb h1.lt, xs, hr.below hb⟩
structure XyI (w4 : World) (N : Nat) (Z : Nat → Prop) (T1 T2 : Nat) (nm : ByteArray) (f1 f2 : Value) (L1 L2 : List Tm) (wr : World) : Prop where
  at_ : w4.heap.size ≤ T1 ∧ w4.heap.size ≤ T2 ∧ T1 < N ∧ T2 < N ∧ T1 ≠ T2 ∧ N ≤ wr.heap.size
  z : ∀ b, Z b → b < w4.heap.size
  x : BxR wr N Z T1 nm f1 L1
  y : BxR wr N Z T2 nm f2 L2
  ne : ∀ b, f1.ownBlock = some b → f2.ownBlock ≠ some b
  bl : Below w4.heap.size w4 wr
theorem XyI.swap {w4 wr : World} {N T1 T2 : Nat} {Z : Nat → Prop} {nm : ByteArray} {f1 f2 : Value} {L1 L2 : List Tm} (h : XyI w4 N Z T1 T2 nm f1 f2 L1 L2 wr) : XyI w4 N Z T2 T1 nm f2 f1 L2 L1 wr :=
  ⟨⟨h.at_.2.1, h.at_.1, h.at_.2.2.2.1, h.at_.2.2.1, h.at_.2.2.2.2.1.symm, h.at_.2.2.2.2.2⟩, h.z, h.y, h.x, fun b h1 h2 => h.ne b h2 h1, h.bl⟩
theorem XyI.later {w4 wr w' : World} {N T1 T2 : Nat} {Z : Nat → Prop} {nm : ByteArray} {f1 f2 : Value} {L1 L2 : List Tm} (h : XyI w4 N Z T1 T2 nm f1 f2 L1 L2 wr) (hb : Below wr.heap.size wr w') : XyI w4 N Z T1 T2 nm f1 f2 L1 L2 w' :=
  ⟨⟨h.at_.1, h.at_.2.1, h.at_.2.2.1, h.at_.2.2.2.1, h.at_.2.2.2.2.1, Nat.le_trans h.at_.2.2.2.2.2 hb.size⟩, h.z, h.x.later hb, h.y.later hb, h.ne, h.bl.trans (hb.mono h.bl.size)⟩
theorem XyI.shape {w4 wr : World} {N T1 T2 : Nat} {Z : Nat → Prop} {nm : ByteArray} {f1 f2 : Value} {L1 L2 : List Tm} (h : XyI w4 N Z T1 T2 nm f1 f2 L1 L2 wr) : ∃ a c, f1 = .slice a L1.length c := by
  obtain ⟨_, xs, hr⟩ := h.x
  exact hr.shape
theorem XyI.sl {w4 wr : World} {N T1 T2 : Nat} {Z : Nat → Prop} {nm : ByteArray} {a : Option Addr} {c : Nat} {f2 : Value} {L1 L2 : List Tm} (h : XyI w4 N Z T1 T2 nm (.slice a L1.length c) f2 L1 L2 wr) : Sl wr (fun _ => True) a L1 := by
  obtain ⟨_, xs, hr⟩ := h.x
  exact hr.sl.mono fun _ _ _ => trivial
/-- One argument more. -/
theorem XyI.push {w4 w8 : World} {N T1 T2 : Nat} {Z : Nat → Prop} {nm : ByteArray} {f1 f2 : Value} {L1 L2 : List Tm} {z : Tm} {ax : Option Addr} {cx : Nat} (h : XyI w4 N Z T1 T2 nm f1 f2 L1 L2 w8) (hz : Sl w8 Z ax z.args) (hl : L1.length ≤ 1000) :
    ∃ g cap w9, (Builtin.append_ #[37, 37] 37 #[f1, .slice (some ⟨w8.heap.size, 0, none⟩) 1 1]).run Try.prog (w8.alloc (.cells #[.string z.name, .slice ax z.args.length cx] 39)) = .ok (.slice (some ⟨g, 0, none⟩) (L1.length + 1) cap) w9 ∧ Blk w9 T1 #[.string nm, f1] 39 ∧ Below w4.heap.size w4 w9 ∧ XyI w4 N Z T1 T2 nm (.slice (some ⟨g, 0, none⟩) (L1.length + 1) cap) f2 (L1 ++ [z]) L2 (w9.setCell ⟨T1, 1, none⟩ (.slice (some ⟨g, 0, none⟩) (L1.length + 1) cap)) := by
  obtain ⟨hT, xs, hRG⟩ := h.x
  obtain ⟨q1, q2, q3, q4, q5, q6⟩ := h.at_
  have hTl := hT.lt
  have hlt := hRG.own.lt
  have hbs := h.bl.size
  obtain ⟨g, cap, w9, hr, hR9, hx9, hat⟩ := app_termG (c := cx) (z := z) hRG (by omega) (fun b hb e => by have := (hlt b e.symm).1; have := h.z b hb; omega) (by omega) hz
  have hgl := hR9.own.lt g rfl
  have hT9 : Blk w9 T1 #[.string nm, f1] 39 := hT.exq hx9 fun e => by have := (hlt T1 e.symm).1; omega
  have hb9 : Below w4.heap.size w4 w9 := h.bl.trans (hx9.below (by omega) fun b e => by have := (hlt b e.symm).1; omega)
  have hE1 : ExQ (fun b => b = T1) w9 (w9.setCell ⟨T1, 1, none⟩ (.slice (some ⟨g, 0, none⟩) (L1.length + 1) cap)) := (ExQ.refl (fun b => b = T1) w9).set (B := T1) rfl _ _
  obtain ⟨hT2, ys, hRy⟩ := h.y
  have hlt2 := hRy.own.lt
  refine ⟨g, cap, w9, hr, hT9, hb9, ⟨⟨q1, q2, q3, q4, q5, ?_⟩, h.z, ⟨hT9.set 1 _, xs ++ [.string z.name, .slice ax z.args.length cx], ?_⟩, ?_, fun b h1 h2 => ?_, hb9.setCell (p := ⟨T1, 1, none⟩) (by simp; omega) _⟩⟩
  · have := hx9.size; simp; omega
  · refine (hR9.exq hE1 (fun b e1 e2 => ?_) (fun b e1 e2 => ?_)).mono fun b hb _ => hb.1
    · have : g = b := by simpa [Value.ownBlock] using e1
      omega
    · have := h.z b e1.1
      omega
  · have hy9 : BxR w9 N Z T2 nm f2 L2 := BxR.exq h.y hx9 (fun e => by have := (hlt T2 e.symm).1; omega) (fun b e1 e2 => h.ne b e2.symm e1) (fun b e1 e2 => by have := (hlt b e2.symm).1; have := h.z b e1; omega)
    exact hy9.exq hE1 (fun e => q5 e.symm) (fun b e1 e2 => by have := (hlt2 b e1).1; omega) (fun b e1 e2 => by have := h.z b e1; omega)
  · have e1 : g = b := by simpa [Value.ownBlock] using h1
    subst e1
    rcases hat with h3 | h3
    · exact h.ne g h3 h2
    · have := (hlt2 g h2).2; omega
/-- Rows of marks. -/
structure MatU (w : World) (M n : Nat) (R : Nat → Nat) (U : Nat → Nat → Bool) : Prop where
  top : ∀ i, i < n → w.cell? ⟨M, i, none⟩ = some (.slice (some ⟨R i, 0, none⟩) n n)
  row : ∀ i, i < n → Blk w (R i) (((List.range n).map fun k => Value.bool (U i k)).toArray) 4
theorem MatU.at {w : World} {M n : Nat} {R : Nat → Nat} {U : Nat → Nat → Bool} (h : MatU w M n R U) {i k : Nat} (hi : i < n) (hk : k < n) : w.cell? ⟨R i, k, none⟩ = some (.bool (U i k)) := by
  have h1 := (h.row i hi).cell k
  rw [h1]
  simp [hk]
theorem MatU.later {w w' : World} {M n : Nat} {R : Nat → Nat} {U : Nat → Nat → Bool} (h : MatU w M n R U) (hb : Below w.heap.size w w') : MatU w' M n R U :=
  ⟨fun i hi => (hb.cell (p := ⟨M, i, none⟩) (cell_ltA (h.top i hi))).trans (h.top i hi), fun i hi => (h.row i hi).below hb (h.row i hi).lt⟩
/-- The place of each text. -/
def ixL (ks : List ByteArray) : List (ByteArray × Value) := ks.zipIdx.map fun p => (p.1, .int .i64 (p.2 : Int))
theorem ixL_snoc (ks : List ByteArray) (s : ByteArray) : ixL (ks ++ [s]) = ixL ks ++ [(s, .int .i64 (ks.length : Int))] := by simp [ixL, List.zipIdx_append]
theorem mapGet_app (L K : List (ByteArray × Value)) (n : ByteArray) : mapGet (L ++ K) n = (mapGet L n).or (mapGet K n) := by
  induction L with
  | nil => simp [mapGet]
  | cons p L ih =>
    by_cases h : p.1 = n
    · simp [mapGet, h]
    · simp [mapGet, h, ih]
theorem snocG {α : Type} {P : List α → Prop} (h0 : P []) (h1 : ∀ l a, P l → P (l ++ [a])) (l : List α) : P l := by
  have h : ∀ r : List α, P r.reverse := by
    intro r
    induction r with
    | nil => exact h0
    | cons a r ih => rw [List.reverse_cons]; exact h1 _ _ ih
  have := h l.reverse
  rwa [List.reverse_reverse] at this
theorem ixL_none {s : ByteArray} (ks : List ByteArray) : s ∉ ks → mapGet (ixL ks) s = none := by
  refine snocG (P := fun ks => s ∉ ks → mapGet (ixL ks) s = none) (fun _ => rfl) (fun ks k ih h => ?_) ks
  have h1 : s ∉ ks := fun e => h (by simp [e])
  have h2 : ¬ k = s := fun e => h (by simp [e])
  rw [ixL_snoc, mapGet_app, ih h1]
  simp [mapGet, h2]
theorem ixL_get (ks : List ByteArray) : ks.Nodup → ∀ (i : Nat) (hi : i < ks.length), mapGet (ixL ks) ks[i] = some (.int .i64 (i : Int)) := by
  refine snocG (P := fun ks => ks.Nodup → ∀ (i : Nat) (hi : i < ks.length), mapGet (ixL ks) ks[i] = some (.int .i64 (i : Int))) (fun _ i hi => by simp at hi) (fun ks k ih hn i hi => ?_) ks
  rw [List.nodup_append] at hn
  rw [ixL_snoc, mapGet_app]
  by_cases h : i < ks.length
  · rw [List.getElem_append_left h, ih hn.1 i h]
    rfl
  · have e : i = ks.length := by simp at hi; omega
    subst e
    rw [List.getElem_append_right (by omega)]
    simp only [Nat.sub_self, List.getElem_cons_zero]
    rw [ixL_none ks fun hk => hn.2.2 k hk k (by simp) rfl]
    simp [mapGet]
theorem look_ix {w : World} {r : Nat} {ks : List ByteArray} (h : MapAt w r (ixL ks)) (hn : ks.Nodup) {i : Nat} (hi : i < ks.length) : (Instr.lookup 53 (.map (some r)) (.string ks[i]) false).run Try.prog w = .ok (.int .i64 (i : Int)) w := by
  rw [run_look1 (P := Try.prog) Try.underlying53 Try.underlying9 (Try.zeroValue3 w) h, ixL_get ks hn i hi]
  rfl
end Go.Proofs.Ytfodgmnnjgcpgaa
