
/- Walks: UnifyOf. -/
import Derived.Test.YteojdfmdhgnmfaaGreatZCTopEmbedOwn
import Derived.Test.YteojdfmdhgnmfaaGreatW85
import Derived.Test.YteojdfmdhgnmfaaGreatQSp
import Derived.Test.YteojdfmdhgnmfaaGreatU5
import Derived.Test.YteojdfmdhgnmfaaGreatZTopEmbedOwn
import Derived.Deep.LoopGhost
namespace Go.Proofs.YteojdfmdhgnmfaaGreat
open Go.RowKit
set_option linter.unusedSimpArgs false
set_option linter.unusedVariables false
set_option maxRecDepth 8000

def OaC (X : Nat → Prop) (t : Tm) (s1 : ByteArray) (a1 : Option Addr) (n1 c1 : Nat) (okb : Bool) (w w' : World) : Prop :=
  (okb = false ∧ 2000 < sizeL [t]) ∨ (okb = true ∧ sizeL [t] ≤ 2000 ∧ s1 = t.name ∧ n1 = t.args.length ∧ Sl w' (fun b => (X b ∧ b < w.heap.size) ∨ w.heap.size ≤ b) a1 t.args)
def UoPost (w : World) (R : Int × List Bd) (e : Ending) (w' : World) : Prop :=
  Below w.heap.size w w' ∧ ((R.1 = 0 ∧ ∃ v, e = .returned (.tuple #[v, .int .i64 0]) ∧ BV w' (fun _ => True) v R.2) ∨ (R.1 ≠ 0 ∧ e = .returned (.tuple #[.slice none 0 0, .int .i64 R.1])))
def UoInv (V : List ByteArray) (w : World) (R : Int × List Bd) (g : Nat) (sv lv : Value) (wr : World) : Prop :=
  ∃ (h : List (ByteArray × Tm)) (l : List Pr), UI V h l ∧ grtB (sAt h) = false ∧ uRun true g (sAt h) l = some R ∧ BV wr (fun _ => True) sv (sAt h) ∧ QV wr (fun _ => True) lv l ∧ Below w.heap.size w wr
theorem uRun_next {lim : Bool} {g : Nat} {s : List Bd} {p : Pr} {l : List Pr} {R : Int × List Bd} (h : uRun lim g s (p :: l) = some R) : ∃ g', g = g' + 1 ∧ ((∃ e s', uPair lim s l (onT s p.l) (onT s p.r) = .stop e s' ∧ R = (e, s')) ∨ ∃ s' l', uPair lim s l (onT s p.l) (onT s p.r) = .go s' l' ∧ uRun lim g' s' l' = some R) := by
  cases g with
  | zero => cases h
  | succ g =>
    refine ⟨g, rfl, ?_⟩
    rw [uRun, uNext_cons] at h
    cases hn : uPair lim s l (onT s p.l) (onT s p.r) with
    | stop e s' => rw [hn] at h; cases h; exact Or.inl ⟨e, s', rfl, rfl⟩
    | go s' l' => rw [hn] at h; exact Or.inr ⟨s', l', rfl, h⟩
/-- What the run says of two sides. -/
theorem uRun_pair {lim : Bool} {g : Nat} {s : List Bd} {p : Pr} {l : List Pr} {R : Int × List Bd} {a b : Tm} (h : uRun lim g s (p :: l) = some R) (ha : onT s p.l = a) (hb : onT s p.r = b) : ∃ g', g = g' + 1 ∧ ((∃ e s', uPair lim s l a b = .stop e s' ∧ R = (e, s')) ∨ ∃ s' l', uPair lim s l a b = .go s' l' ∧ uRun lim g' s' l' = some R) := by
  subst ha; subst hb; exact uRun_next h

theorem grt_le {s : List Bd} (h : grtB s = false) {d : Bd} (hd : d ∈ s) : sizeL [d.t] ≤ 2000 := by
  unfold grtB at h
  rw [List.any_eq_false] at h
  have := h d hd
  simp at this
  exact this
theorem zip_len2 : ∀ {a b : List Tm}, a.length = b.length → (zipP a b).length = a.length
  | [], [], _ => rfl
  | [], _ :: _, h => by simp at h
  | _ :: _, [], h => by simp at h
  | t :: a, u :: b, h => by rw [zipP, List.length_cons, zip_len2 (by simpa using h), List.length_cons]
theorem zip_get2 : ∀ {a b : List Tm} (k : Nat) (h1 : k < a.length) (h2 : k < b.length) {h3 : k < (zipP a b).length}, (zipP a b)[k] = ⟨a[k], b[k]⟩
  | [], _, k, h, _, _ => by simp at h
  | _ :: _, [], k, _, h, _ => by simp at h
  | t :: a, u :: b, 0, _, _, _ => rfl
  | t :: a, u :: b, k + 1, h1, h2, h3 => by
    have := zip_get2 (a := a) (b := b) k (by simpa using h1) (by simpa using h2) (h3 := by simpa [zipP] using h3)
    simpa [zipP] using this
/-- What a round reads. -/
def FvD (A B b1 b2 p1 p2 o1 o2 n1 n2 : Nat) (tA tB : Tm) (y1 y2 : Option Addr) (k1 k2 d1 d2 : Nat) (w' : World) : Prop :=
  w'.cell? ⟨A, 1, none⟩ = some (.slice (some ⟨b1, o1, none⟩) n1 k1) ∧ w'.cell? ⟨b1, p1, none⟩ = some (.string tA.name) ∧ w'.cell? ⟨b1, p1 + 1, none⟩ = some (.slice y1 tA.args.length d1) ∧ w'.cell? ⟨B, 1, none⟩ = some (.slice (some ⟨b2, o2, none⟩) n2 k2) ∧ w'.cell? ⟨b2, p2, none⟩ = some (.string tB.name) ∧ w'.cell? ⟨b2, p2 + 1, none⟩ = some (.slice y2 tB.args.length d2)
/-- What is known while pairs are laid. -/
def UdInv (w4 : World) (lA lB : List Tm) (u i : Value) (wq : World) : Prop :=
  ∃ (k : Nat) (cs : List Pc), i = .int .i64 (k : Int) ∧ k ≤ lA.length ∧ QRow wq w4.heap.size (fun b => b < w4.heap.size) u cs ∧ cs.map (·.1) = (zipP lA lB).take k ∧ Below w4.heap.size w4 wq
theorem cons_eq2 {a b : Value} {l k : List Value} (h : a = b) (h2 : l = k) : a :: l = b :: k := by rw [h, h2]
theorem sAt_len : ∀ h : List (ByteArray × Tm), (sAt h).length = h.length := fun h => by
  obtain ⟨k, hk⟩ : ∃ k : List (ByteArray × Tm), k.reverse = h := ⟨h.reverse, List.reverse_reverse h⟩
  subst hk
  induction k with
  | nil => simp [sAt]
  | cons p r ih =>
    rw [List.reverse_cons, sAt_snoc]
    unfold addS
    rw [(srtB_perm _).length_eq]
    simp [ih]
theorem bv_one2 {w : World} {B : Nat} {n : ByteArray} {t : Tm} {a : Option Addr} {c T : Nat} (h : Blk w B #[.string n, .string t.name, .slice a t.args.length c] T) (hs : Sl w (fun _ => True) a t.args) : BV w (fun _ => True) (.slice (some ⟨B, 0, none⟩) 1 1) [⟨n, t⟩] := by
  refine ⟨some ⟨B, 0, none⟩, 1, rfl, by simp, Or.inr ⟨B, 0, rfl, trivial, fun i hi => ?_⟩⟩
  have e : i = 0 := by simp at hi; omega
  subst e
  exact ⟨h.cell 0, h.cell 1, a, c, h.cell 2, hs⟩
/-- What is known while a binding is put into the others. -/
def UbInv (w7 : World) (s : List Bd) (x : ByteArray) (t : Tm) (u i : Value) (wq : World) : Prop :=
  ∃ (k : Nat) (cs : List Bc), i = .int .i64 (k : Int) ∧ k ≤ s.length ∧ BRow wq w7.heap.size (fun b => b < w7.heap.size) u cs ∧ cs.map (·.1) = (s.take k).map (putB x t) ∧ (∀ d ∈ s.take k, sizeL [onT [⟨x, t⟩] d.t] ≤ 2000) ∧ Below w7.heap.size w7 wq

end Go.Proofs.YteojdfmdhgnmfaaGreat
