/- Several texts in one. -/
import Derived.Test.YtofebfjkodceeaaZKAutoMadeOwn
import Derived.Test.YtofebfjkodceeaaZIAutoMadeOwn
import Derived.Test.YtofebfjkodceeaaGd3
import Derived.Test.YtofebfjkodceeaaZAutoMadeOwn
namespace Go.Proofs.Ytofebfjkodceeaa
open Go.RowKit
set_option linter.unusedSimpArgs false
set_option linter.unusedVariables false
set_option maxRecDepth 8000
theorem ApT.symm {A : Au} {l : List Tm} {t u : Tm} (h : ApT A l t u) : ApT A l u t := by
 induction h with
 | last ht hu h => exact .last hu ht fun e => h e.symm
 | step m xs i hm hl hx hi hs hu hv eu ev h ih =>
  rename_i a s u v
  obtain ⟨g1, g2⟩ := List.getElem?_eq_some_iff.1 hi
  have e : (xs.set i s).set i a = xs := by rw [List.set_set, ← g2, List.set_getElem_self]
  refine .step (u := v) (v := u) m (xs.set i s) i hm (by simpa using hl) (set_inT hx hs) (by simp [g1]) (hx a (by rw [← g2]; exact List.getElem_mem g1)) hv hu ev (by rw [e]; exact eu) ih
def pAr (n side : Nat) (x o : Tm) : List Tm := (List.replicate n o).set side x
theorem pAr_len (n side : Nat) (x o : Tm) : (pAr n side x o).length = n := by simp [pAr]
theorem pAr_set (n side : Nat) (x y o : Tm) : (pAr n side x o).set side y = pAr n side y o := by simp [pAr]
theorem pAr_at {n side : Nat} (h : side < n) (x o : Tm) : (pAr n side x o)[side]? = some x := by simp [pAr, h]
theorem pAr_in {n side : Nat} {x o : Tm} {l : List Tm} (hx : x ∈ l) (ho : o ∈ l) : ∀ y ∈ pAr n side x o, y ∈ l := fun y hy => by
 rcases List.mem_or_eq_of_mem_set hy with h | h
 ·rw [(List.mem_replicate.1 h).2]; exact ho
 ·rw [h]; exact hx
theorem pAr_all {xs : List Tm} (h2 : xs.length ≤ 2) {i : Nat} {a : Tm} (hi : xs[i]? = some a) : ∃ o ∈ xs, xs = pAr xs.length i a o := by
 match xs, h2, i with
 | [], _, _ => simp at hi
 | [x], _, 0 => exact ⟨x, by simp, by simp at hi; simp [pAr, hi]⟩
 | [x], _, i + 1 => simp at hi
 | [x, y], _, 0 => exact ⟨y, by simp, by simp at hi; simp [pAr, hi, List.replicate]⟩
 | [x, y], _, 1 => exact ⟨x, by simp, by simp at hi; simp [pAr, hi, List.replicate]⟩
 | [x, y], _, i + 2 => simp at hi
structure MarksT (A : Au) (l : List Tm) (U : Nat → Nat → Bool) : Prop where
 sound : ∀ (i k : Nat) (hi : i < l.length) (hk : k < l.length), U i k = true → ApT A l l[i] l[k]
 last : ∀ (i k : Nat) (hi : i < l.length) (hk : k < l.length), accB A l[i] ≠ accB A l[k] → U i k = true
theorem MarksT.start {A : Au} {l : List Tm} {U : Nat → Nat → Bool} (h : ∀ (i k : Nat) (hi : i < l.length) (hk : k < l.length), U i k = (accB A l[i] != accB A l[k])) : MarksT A l U :=
 ⟨fun i k hi hk e => .last (List.getElem_mem hi) (List.getElem_mem hk) (by rw [h i k hi hk] at e; simpa using e), fun i k hi hk e => by rw [h i k hi hk]; simpa using e⟩
def PtB (A : Au) (l : List Tm) (U : Nat → Nat → Bool) (m : Mv) (side o i k : Nat) : Prop := ∃ (p q : Nat) (hp : p < l.length) (hq : q < l.length) (ho : o < l.length) (hi : i < l.length) (hk : k < l.length), endT A l[p] = endT A ⟨m.name, pAr m.frm.length side l[i] l[o]⟩ ∧ endT A l[q] = endT A ⟨m.name, pAr m.frm.length side l[k] l[o]⟩ ∧ U p q = true
def PtP (A : Au) (l : List Tm) (U : Nat → Nat → Bool) (i k : Nat) : Prop := ∃ m ∈ A.mv, ∃ side o, side < m.frm.length ∧ PtB A l U m side o i k
def setU (U : Nat → Nat → Bool) (i k : Nat) : Nat → Nat → Bool := fun x y => if x = i ∧ y = k then true else U x y
theorem MarksT.mark {A : Au} {l : List Tm} {U : Nat → Nat → Bool} (h : MarksT A l U) {i k : Nat} (hp : PtP A l U i k) : MarksT A l (setU (setU U i k) k i) := by
 obtain ⟨m, hm, side, o, hs, p, q, hp, hq, ho, hi, hk, e1, e2, hU⟩ := hp
 have key : ApT A l l[i] l[k] := .step (u := l[p]) (v := l[q]) m (pAr m.frm.length side l[i] l[o]) side hm (pAr_len ..) (pAr_in (List.getElem_mem hi) (List.getElem_mem ho)) (pAr_at hs _ _) (List.getElem_mem hk) (List.getElem_mem hp) (List.getElem_mem hq) e1 (by rw [pAr_set]; exact e2) (h.sound p q hp hq hU)
 refine ⟨fun x y hx hy e => ?_, fun x y hx hy e => ?_⟩
 ·unfold setU at e
  by_cases c1 : x = k ∧ y = i
  ·obtain ⟨rfl, rfl⟩ := c1
   exact key.symm
  ·rw [if_neg c1] at e
   by_cases c2 : x = i ∧ y = k
   ·obtain ⟨rfl, rfl⟩ := c2
    exact key
   ·rw [if_neg c2] at e
    exact h.sound x y hx hy e
 ·unfold setU
  rw [h.last x y hx hy e]
  simp
theorem MarksT.full {A : Au} {l : List Tm} {U : Nat → Nat → Bool} (h : MarksT A l U) (hnd : ∀ (i j : Nat) (hi : i < l.length) (hj : j < l.length), endT A l[i] = endT A l[j] → i = j) (h2 : ∀ m ∈ A.mv, m.frm.length ≤ 2) (hno : ∀ i k, i < l.length → k < l.length → PtP A l U i k → U i k = true) {a s : Tm} (hap : ApT A l a s) : ∀ (i k : Nat) (hi : i < l.length) (hk : k < l.length), l[i] = a → l[k] = s → U i k = true := by
 induction hap with
 | last ht hu e =>
  intro i k hi hk e1 e2
  exact h.last i k hi hk (by rw [e1, e2]; exact e)
 | step m xs j hm hl hx hj hs hu hv eu ev _ ih =>
  rename_i a s u v
  intro i k hi hk e1 e2
  obtain ⟨o, hox, exs⟩ := pAr_all (by rw [hl]; exact h2 m hm) hj
  obtain ⟨oi, ho, eo⟩ := List.mem_iff_getElem.1 (hx o hox)
  obtain ⟨p, hp, ep⟩ := List.mem_iff_getElem.1 hu
  obtain ⟨q, hq, eq⟩ := List.mem_iff_getElem.1 hv
  have hj2 : j < xs.length := (List.getElem?_eq_some_iff.1 hj).1
  refine hno i k hi hk ⟨m, hm, j, oi, by omega, p, q, hp, hq, ho, hi, hk, ?_, ?_, ih p q hp hq ep eq⟩
  ·rw [ep, eu, e1, eo, ← hl, ← exs]
  ·rw [eq, ev, e2, eo, ← hl]
   conv => lhs; rw [exs, pAr_set]
theorem MarksT.alk {A : Au} {l : List Tm} {U : Nat → Nat → Bool} (h : MarksT A l U) (hnd : ∀ (i j : Nat) (hi : i < l.length) (hj : j < l.length), endT A l[i] = endT A l[j] → i = j) (h2 : ∀ m ∈ A.mv, m.frm.length ≤ 2) (hno : ∀ i k, i < l.length → k < l.length → PtP A l U i k → U i k = true) (i k : Nat) (hi : i < l.length) (hk : k < l.length) : alkT A l l[i] l[k] = !U i k := by
 rw [Bool.eq_iff_iff, alkT_iff]
 constructor
 ·intro e
  cases hu : U i k with
  | false => rfl
  | true => exact absurd (h.sound i k hi hk hu) e
 ·intro e g
  rw [h.full hnd h2 hno g i k hi hk rfl rfl] at e
  cases e
def BxR (w : World) (N : Nat) (Z : Nat → Prop) (T : Nat) (nm : ByteArray) (fv : Value) (L : List Tm) : Prop := Blk w T #[.string nm, fv] 30 ∧ ∃ xs, RowG w N Z fv L xs
theorem BxR.exq {w w' : World} {N T : Nat} {Z Q : Nat → Prop} {nm : ByteArray} {fv : Value} {L : List Tm} (h : BxR w N Z T nm fv L) (he : ExQ Q w w') (h1 : ¬ Q T) (h2 : ∀ b, fv.ownBlock = some b → ¬ Q b) (h3 : ∀ b, Z b → ¬ Q b) : BxR w' N Z T nm fv L := by
 obtain ⟨hb, xs, hr⟩ := h
 exact ⟨hb.exq he h1, xs, hr.exq he h2 h3⟩
theorem BxR.later {w w' : World} {N T : Nat} {Z : Nat → Prop} {nm : ByteArray} {fv : Value} {L : List Tm} (h : BxR w N Z T nm fv L) (hb : Below w.heap.size w w') : BxR w' N Z T nm fv L := by
 obtain ⟨h1, xs, hr⟩ := h
 exact ⟨h1.below hb h1.lt, xs, hr.below hb⟩
structure XyI (w4 : World) (N : Nat) (Z : Nat → Prop) (T1 T2 : Nat) (nm : ByteArray) (f1 f2 : Value) (L1 L2 : List Tm) (wr : World) : Prop where
 at_ : w4.heap.size ≤ T1 ∧ w4.heap.size ≤ T2 ∧ T1 < N ∧ T2 < N ∧ T1 ≠ T2 ∧ N ≤ wr.heap.size
 z : ∀ b, Z b → b < w4.heap.size
 x : BxR wr N Z T1 nm f1 L1
 y : BxR wr N Z T2 nm f2 L2
 ne : ∀ b, f1.ownBlock = some b → f2.ownBlock ≠ some b
 bl : Below w4.heap.size w4 wr
theorem XyI.swap {w4 wr : World} {N T1 T2 : Nat} {Z : Nat → Prop} {nm : ByteArray} {f1 f2 : Value} {L1 L2 : List Tm} (h : XyI w4 N Z T1 T2 nm f1 f2 L1 L2 wr) : XyI w4 N Z T2 T1 nm f2 f1 L2 L1 wr :=
 ⟨⟨h.at_.2.1, h.at_.1, h.at_.2.2.2.1, h.at_.2.2.1, h.at_.2.2.2.2.1.symm, h.at_.2.2.2.2.2⟩, h.z, h.y, h.x, fun b h1 h2 => h.ne b h2 h1, h.bl⟩
theorem XyI.later {w4 wr w' : World} {N T1 T2 : Nat} {Z : Nat → Prop} {nm : ByteArray} {f1 f2 : Value} {L1 L2 : List Tm} (h : XyI w4 N Z T1 T2 nm f1 f2 L1 L2 wr) (hb : Below wr.heap.size wr w') : XyI w4 N Z T1 T2 nm f1 f2 L1 L2 w' :=
 ⟨⟨h.at_.1, h.at_.2.1, h.at_.2.2.1, h.at_.2.2.2.1, h.at_.2.2.2.2.1, Nat.le_trans h.at_.2.2.2.2.2 hb.size⟩, h.z, h.x.later hb, h.y.later hb, h.ne, h.bl.trans (hb.mono h.bl.size)⟩
theorem XyI.shape {w4 wr : World} {N T1 T2 : Nat} {Z : Nat → Prop} {nm : ByteArray} {f1 f2 : Value} {L1 L2 : List Tm} (h : XyI w4 N Z T1 T2 nm f1 f2 L1 L2 wr) : ∃ a c, f1 = .slice a L1.length c := by
 obtain ⟨_, xs, hr⟩ := h.x
 exact hr.shape
theorem XyI.sl {w4 wr : World} {N T1 T2 : Nat} {Z : Nat → Prop} {nm : ByteArray} {a : Option Addr} {c : Nat} {f2 : Value} {L1 L2 : List Tm} (h : XyI w4 N Z T1 T2 nm (.slice a L1.length c) f2 L1 L2 wr) : Sl wr (fun _ => True) a L1 := by
 obtain ⟨_, xs, hr⟩ := h.x
 exact hr.sl.mono fun _ _ _ => trivial
theorem XyI.push {w4 w8 : World} {N T1 T2 : Nat} {Z : Nat → Prop} {nm : ByteArray} {f1 f2 : Value} {L1 L2 : List Tm} {z : Tm} {ax : Option Addr} {cx : Nat} (h : XyI w4 N Z T1 T2 nm f1 f2 L1 L2 w8) (hz : Sl w8 Z ax z.args) (hl : L1.length ≤ 1000) :
  ∃ g cap w9, (Builtin.append_ #[28, 28] 28 #[f1, .slice (some ⟨w8.heap.size, 0, none⟩) 1 1]).run Try.prog (w8.alloc (.cells #[.string z.name, .slice ax z.args.length cx] 30)) = .ok (.slice (some ⟨g, 0, none⟩) (L1.length + 1) cap) w9 ∧ Blk w9 T1 #[.string nm, f1] 30 ∧ Below w4.heap.size w4 w9 ∧ XyI w4 N Z T1 T2 nm (.slice (some ⟨g, 0, none⟩) (L1.length + 1) cap) f2 (L1 ++ [z]) L2 (w9.setCell ⟨T1, 1, none⟩ (.slice (some ⟨g, 0, none⟩) (L1.length + 1) cap)) := by
 obtain ⟨hT, xs, hRG⟩ := h.x
 obtain ⟨q1, q2, q3, q4, q5, q6⟩ := h.at_
 have hTl := hT.lt
 have hlt := hRG.own.lt
 have hbs := h.bl.size
 obtain ⟨g, cap, w9, hr, hR9, hx9, hat⟩ := app_termG (c := cx) (z := z) hRG (by omega) (fun b hb e => by have := (hlt b e.symm).1; have := h.z b hb; omega) (by omega) hz
 have hgl := hR9.own.lt g rfl
 have hT9 : Blk w9 T1 #[.string nm, f1] 30 := hT.exq hx9 fun e => by have := (hlt T1 e.symm).1; omega
 have hb9 : Below w4.heap.size w4 w9 := h.bl.trans (hx9.below (by omega) fun b e => by have := (hlt b e.symm).1; omega)
 have hE1 : ExQ (fun b => b = T1) w9 (w9.setCell ⟨T1, 1, none⟩ (.slice (some ⟨g, 0, none⟩) (L1.length + 1) cap)) := (ExQ.refl (fun b => b = T1) w9).set (B := T1) rfl _ _
 obtain ⟨hT2, ys, hRy⟩ := h.y
 have hlt2 := hRy.own.lt
 refine ⟨g, cap, w9, hr, hT9, hb9, ⟨⟨q1, q2, q3, q4, q5, ?_⟩, h.z, ⟨hT9.set 1 _, xs ++ [.string z.name, .slice ax z.args.length cx], ?_⟩, ?_, fun b h1 h2 => ?_, hb9.setCell (p := ⟨T1, 1, none⟩) (by simp; omega) _⟩⟩
 ·have := hx9.size; simp; omega
 ·refine (hR9.exq hE1 (fun b e1 e2 => ?_) (fun b e1 e2 => ?_)).mono fun b hb _ => hb.1
  ·have : g = b := by simpa [Value.ownBlock] using e1
   omega
  ·have := h.z b e1.1
   omega
 ·have hy9 : BxR w9 N Z T2 nm f2 L2 := BxR.exq h.y hx9 (fun e => by have := (hlt T2 e.symm).1; omega) (fun b e1 e2 => h.ne b e2.symm e1) (fun b e1 e2 => by have := (hlt b e2.symm).1; have := h.z b e1; omega)
  exact hy9.exq hE1 (fun e => q5 e.symm) (fun b e1 e2 => by have := (hlt2 b e1).1; omega) (fun b e1 e2 => by have := h.z b e1; omega)
 ·have e1 : g = b := by simpa [Value.ownBlock] using h1
  subst e1
  rcases hat with h3 | h3
  ·exact h.ne g h3 h2
  ·have := (hlt2 g h2).2; omega
structure MatU (w : World) (M n : Nat) (R : Nat → Nat) (U : Nat → Nat → Bool) : Prop where
 top : ∀ i, i < n → w.cell? ⟨M, i, none⟩ = some (.slice (some ⟨R i, 0, none⟩) n n)
 row : ∀ i, i < n → Blk w (R i) (((List.range n).map fun k => Value.bool (U i k)).toArray) 4
theorem MatU.at {w : World} {M n : Nat} {R : Nat → Nat} {U : Nat → Nat → Bool} (h : MatU w M n R U) {i k : Nat} (hi : i < n) (hk : k < n) : w.cell? ⟨R i, k, none⟩ = some (.bool (U i k)) := by
 have h1 := (h.row i hi).cell k
 rw [h1]
 simp [hk]
theorem MatU.later {w w' : World} {M n : Nat} {R : Nat → Nat} {U : Nat → Nat → Bool} (h : MatU w M n R U) (hb : Below w.heap.size w w') : MatU w' M n R U :=
 ⟨fun i hi => (hb.cell (p := ⟨M, i, none⟩) (cell_ltA (h.top i hi))).trans (h.top i hi), fun i hi => (h.row i hi).below hb (h.row i hi).lt⟩
def ixL (ks : List ByteArray) : List (ByteArray × Value) := ks.zipIdx.map fun p => (p.1, .int .i64 (p.2 : Int))
theorem ixL_snoc (ks : List ByteArray) (s : ByteArray) : ixL (ks ++ [s]) = ixL ks ++ [(s, .int .i64 (ks.length : Int))] := by simp [ixL, List.zipIdx_append]
theorem mapGet_app (L K : List (ByteArray × Value)) (n : ByteArray) : mapGet (L ++ K) n = (mapGet L n).or (mapGet K n) := by
 induction L with
 | nil => simp [mapGet]
 | cons p L ih =>
  by_cases h : p.1 = n
  ·simp [mapGet, h]
  ·simp [mapGet, h, ih]
theorem snocG {α : Type} {P : List α → Prop} (h0 : P []) (h1 : ∀ l a, P l → P (l ++ [a])) (l : List α) : P l := by
 have h : ∀ r : List α, P r.reverse := by
  intro r
  induction r with
  | nil => exact h0
  | cons a r ih => rw [List.reverse_cons]; exact h1 _ _ ih
 have := h l.reverse
 rwa [List.reverse_reverse] at this
theorem ixL_none {s : ByteArray} (ks : List ByteArray) : s ∉ ks → mapGet (ixL ks) s = none := by
 refine snocG (P := fun ks => s ∉ ks → mapGet (ixL ks) s = none) (fun _ => rfl) (fun ks k ih h => ?_) ks
 have h1 : s ∉ ks := fun e => h (by simp [e])
 have h2 : ¬ k = s := fun e => h (by simp [e])
 rw [ixL_snoc, mapGet_app, ih h1]
 simp [mapGet, h2]
theorem ixL_get (ks : List ByteArray) : ks.Nodup → ∀ (i : Nat) (hi : i < ks.length), mapGet (ixL ks) ks[i] = some (.int .i64 (i : Int)) := by
 refine snocG (P := fun ks => ks.Nodup → ∀ (i : Nat) (hi : i < ks.length), mapGet (ixL ks) ks[i] = some (.int .i64 (i : Int))) (fun _ i hi => by simp at hi) (fun ks k ih hn i hi => ?_) ks
 rw [List.nodup_append] at hn
 rw [ixL_snoc, mapGet_app]
 by_cases h : i < ks.length
 ·rw [List.getElem_append_left h, ih hn.1 i h]
  rfl
 ·have e : i = ks.length := by simp at hi; omega
  subst e
  rw [List.getElem_append_right (by omega)]
  simp only [Nat.sub_self, List.getElem_cons_zero]
  rw [ixL_none ks fun hk => hn.2.2 k hk k (by simp) rfl]
  simp [mapGet]
theorem look_ix {w : World} {r : Nat} {ks : List ByteArray} (h : MapAt w r (ixL ks)) (hn : ks.Nodup) {i : Nat} (hi : i < ks.length) : (Instr.lookup 91 (.map (some r)) (.string ks[i]) false).run Try.prog w = .ok (.int .i64 (i : Int)) w := by
 rw [run_look1 (P := Try.prog) Try.underlying91 Try.underlying9 (Try.zeroValue3 w) h, ixL_get ks hn i hi]
 rfl
end Go.Proofs.Ytofebfjkodceeaa
