/- Several texts in one. -/
import Derived.Test.YtfodgmnnjgcpgaaAv7
import Derived.Test.YtfodgmnnjgcpgaaL4
import Derived.Deep.LoopGhost
import Derived.Test.YtfodgmnnjgcpgaaAu4
import Derived.Test.YtfodgmnnjgcpgaaZBAutoKindsOwn
import Derived.Test.YtfodgmnnjgcpgaaZAutoKindsOwn
/- First terms in memory (auto.found); isAhead, firstBy. -/
namespace Go.Proofs.Ytfodgmnnjgcpgaa
open Go.RowKit
set_option linter.unusedSimpArgs false
set_option linter.unusedVariables false
set_option maxRecDepth 8000

/-- These values tell of a term, or of none. -/
def FdIs (w : World) (Y : Nat → Prop) : Option Tm → ByteArray → Option Addr → Nat → Nat → Int → ByteArray → Prop
  | none, s, a, n, c, z, u => s = ⟨#[]⟩ ∧ a = none ∧ n = 0 ∧ c = 0 ∧ z = 0 ∧ u = ⟨#[]⟩
  | some t, s, a, n, c, z, u => s = t.name ∧ n = t.args.length ∧ z = (sizeL [t] : Int) ∧ u = txB t ∧ Sl w Y a t.args
theorem FdIs.imp {w w' : World} {Y Z : Nat → Prop} {x : Option Tm} {s : ByteArray} {a : Option Addr} {n c : Nat} {z : Int} {u : ByteArray} (h : FdIs w Y x s a n c z u) (hk : ∀ a l, Sl w Y a l → Sl w' Z a l) : FdIs w' Z x s a n c z u := by
  cases x with
  | none => exact h
  | some t => exact ⟨h.1, h.2.1, h.2.2.1, h.2.2.2.1, hk _ _ h.2.2.2.2⟩
/-- The row of them. -/
structure FsV (w : World) (G : Nat) (st : Fs) : Prop where
  ex : ∃ cs : Array Value, Blk w G cs 115 ∧ ∀ (i : Nat) (h : i < st.length), ∃ s a n c z u, cs[i * 4]? = some (.string s) ∧ cs[i * 4 + 1]? = some (.slice a n c) ∧ cs[i * 4 + 2]? = some (.int .i64 z) ∧ cs[i * 4 + 3]? = some (.string u) ∧ FdIs w (fun b => b ≠ G) st[i] s a n c z u
theorem FsV.lt {w : World} {G : Nat} {st : Fs} (h : FsV w G st) : G < w.heap.size := by
  obtain ⟨cs, hb, _⟩ := h.ex
  exact hb.lt
theorem FsV.later {w w' : World} {G : Nat} {st : Fs} (h : FsV w G st) (hb : Below w.heap.size w w') : FsV w' G st := by
  obtain ⟨cs, hB, h1⟩ := h.ex
  refine ⟨cs, hB.below hb hB.lt, fun i hi => ?_⟩
  obtain ⟨s, a, n, c, z, u, e0, e1, e2, e3, e4⟩ := h1 i hi
  exact ⟨s, a, n, c, z, u, e0, e1, e2, e3, e4.imp fun a l hs => hs.later hb⟩
theorem FsV.get {w : World} {G : Nat} {st : Fs} (h : FsV w G st) (i : Nat) (hi : i < st.length) : ∃ s a n c z u, (w.cell? ⟨G, i * 4, none⟩ = some (.string s) ∧ w.cell? ⟨G, i * 4 + 1, none⟩ = some (.slice a n c) ∧ w.cell? ⟨G, i * 4 + 2, none⟩ = some (.int .i64 z) ∧ w.cell? ⟨G, i * 4 + 3, none⟩ = some (.string u)) ∧ (∀ j, w.frozen? ⟨G, j, none⟩ = false) ∧ FdIs w (fun b => b ≠ G) st[i] s a n c z u := by
  obtain ⟨cs, hB, h1⟩ := h.ex
  obtain ⟨s, a, n, c, z, u, e0, e1, e2, e3, e4⟩ := h1 i hi
  exact ⟨s, a, n, c, z, u, ⟨(hB.cell _).trans e0, (hB.cell _).trans e1, (hB.cell _).trans e2, (hB.cell _).trans e3⟩, hB.frozen, e4⟩
def setF (w : World) (G i : Nat) (s : ByteArray) (a : Option Addr) (n c : Nat) (z : Int) (u : ByteArray) : World := (((w.setCell ⟨G, i * 4, none⟩ (.string s)).setCell ⟨G, i * 4 + 1, none⟩ (.slice a n c)).setCell ⟨G, i * 4 + 2, none⟩ (.int .i64 z)).setCell ⟨G, i * 4 + 3, none⟩ (.string u)
theorem setF_heap {w : World} {G i : Nat} {s : ByteArray} {a : Option Addr} {n c : Nat} {z : Int} {u : ByteArray} {b : Nat} (h : b ≠ G) : (setF w G i s a n c z u).heap[b]? = w.heap[b]? := by
  unfold setF
  rw [Below.heap_setCell _ _ _ _ (by simpa using h), Below.heap_setCell _ _ _ _ (by simpa using h), Below.heap_setCell _ _ _ _ (by simpa using h), Below.heap_setCell _ _ _ _ (by simpa using h)]
theorem FsV.put {w : World} {G : Nat} {st : Fs} (h : FsV w G st) {i : Nat} (hi : i < st.length) {x : Option Tm} {s : ByteArray} {a : Option Addr} {n c : Nat} {z : Int} {u : ByteArray} (hx : FdIs w (fun b => b ≠ G) x s a n c z u) : FsV (setF w G i s a n c z u) G (st.set i x) := by
  obtain ⟨cs, hB, h1⟩ := h.ex
  have keep : ∀ a' l, Sl w (fun b => b ≠ G) a' l → Sl (setF w G i s a n c z u) (fun b => b ≠ G) a' l := fun a' l hs => hs.kept fun b hb => setF_heap hb
  refine ⟨_, (((hB.set (i * 4) (.string s)).set (i * 4 + 1) (.slice a n c)).set (i * 4 + 2) (.int .i64 z)).set (i * 4 + 3) (.string u), fun j hj => ?_⟩
  have hj' : j < st.length := by simpa using hj
  obtain ⟨s', a', n', c', z', u', e0, e1, e2, e3, e4⟩ := h1 j hj'
  by_cases e : i = j
  · subst e
    have b0 := (Array.getElem?_eq_some_iff.1 e0).1
    have b1 := (Array.getElem?_eq_some_iff.1 e1).1
    have b2 := (Array.getElem?_eq_some_iff.1 e2).1
    have b3 := (Array.getElem?_eq_some_iff.1 e3).1
    refine ⟨s, a, n, c, z, u, ?_, ?_, ?_, ?_, ?_⟩
    · simp [Array.getElem?_setIfInBounds, b0]
    · simp [Array.getElem?_setIfInBounds, b1]
    · simp [Array.getElem?_setIfInBounds, b2]
    · simp [Array.getElem?_setIfInBounds, b3]
    · rw [List.getElem_set_self]; exact hx.imp keep
  · refine ⟨s', a', n', c', z', u', ?_, ?_, ?_, ?_, ?_⟩
    · rw [← e0]; simp only [Array.getElem?_setIfInBounds, Array.size_setIfInBounds]; repeat rw [if_neg (by omega)]
    · rw [← e1]; simp only [Array.getElem?_setIfInBounds, Array.size_setIfInBounds]; repeat rw [if_neg (by omega)]
    · rw [← e2]; simp only [Array.getElem?_setIfInBounds, Array.size_setIfInBounds]; repeat rw [if_neg (by omega)]
    · rw [← e3]; simp only [Array.getElem?_setIfInBounds, Array.size_setIfInBounds]; repeat rw [if_neg (by omega)]
    · rw [List.getElem_set_ne e]; exact e4.imp keep
theorem made_get (z : Array Value) (n k : Nat) (h : k < n) : (madeCells z n)[k]? = some (z[k % z.size]!) := by
  unfold madeCells
  rw [Array.getElem?_map, Array.getElem?_range]
  simp [h]
/-- All are none. -/
theorem FsV.start (w : World) (n : Nat) (T : Nat) : FsV (w.alloc (.cells (madeCells #[.string ⟨#[]⟩, .slice none 0 0, .int .i64 0, .string ⟨#[]⟩] (n * 4)) 115)) w.heap.size (List.replicate n none) := by
  refine ⟨_, Blk.new _ _ _, fun i hi => ?_⟩
  have hi' : i < n := by simpa using hi
  refine ⟨⟨#[]⟩, none, 0, 0, 0, ⟨#[]⟩, ?_, ?_, ?_, ?_, ?_⟩
  · rw [made_get _ _ _ (by omega)]
    have : i * 4 % 4 = 0 := by omega
    simp [this]
  · rw [made_get _ _ _ (by omega)]
    have : (i * 4 + 1) % 4 = 1 := by omega
    simp [this]
  · rw [made_get _ _ _ (by omega)]
    have : (i * 4 + 2) % 4 = 2 := by omega
    simp [this]
  · rw [made_get _ _ _ (by omega)]
    have : (i * 4 + 3) % 4 = 3 := by omega
    simp [this]
  · rw [List.getElem_replicate]; exact ⟨rfl, rfl, rfl, rfl, rfl, rfl⟩
/-- The one is ahead of the other. -/
def ahO : Option Tm → Option Tm → Bool
  | none, _ => false
  | some _, none => true
  | some t, some u => agT t u
end Go.Proofs.Ytfodgmnnjgcpgaa

/- Walks: the first term by a move (auto.firstBy). -/
namespace Go.Proofs.Ytfodgmnnjgcpgaa
open Go.RowKit
set_option linter.unusedSimpArgs false
set_option linter.unusedVariables false
set_option maxRecDepth 8000

structure FbI (w : World) (G A : Nat) (mc : Array Value) (nm : ByteArray) (uv : Value) (l : List Tm) (xs : List Value) (wr : World) : Prop where
  row : Row wr (A + 3) 39 (fun b => b ≠ G ∧ b < w.heap.size) uv l xs
  bl : Below w.heap.size w wr
  ka : Blk wr A mc 49
  kr : Blk wr (A + 1) #[.string ⟨#[]⟩, .slice none 0 0, .int .i64 0, .string ⟨#[]⟩] 115
  out : Blk wr (A + 2) #[.string nm, uv] 39
theorem FbI.later {w w1 w2 : World} {G A : Nat} {mc : Array Value} {nm : ByteArray} {uv : Value} {l : List Tm} {xs : List Value} (h : FbI w G A mc nm uv l xs w1) (hb : Below w1.heap.size w1 w2) : FbI w G A mc nm uv l xs w2 :=
  ⟨h.row.below hb, h.bl.trans (hb.mono h.bl.size), h.ka.below hb h.ka.lt, h.kr.below hb h.kr.lt, h.out.below hb h.out.lt⟩
end Go.Proofs.Ytfodgmnnjgcpgaa

/- Walks: of each state the first term (auto.firstsOf). -/
namespace Go.Proofs.Ytfodgmnnjgcpgaa
open Go.RowKit
set_option linter.unusedSimpArgs false
set_option linter.unusedVariables false
set_option maxRecDepth 8000

/-- What holds between two passes. -/
structure FoI (w : World) (n G : Nat) (ms : List Mv) (st0 : Fs) (ac : Array Value) (g : Nat) (q : Value) (wr : World) : Prop where
  ex : ∃ (st : Fs) (b : Bool), q = .bool b ∧ FsV wr G st ∧ OkF st ∧ st.length = n ∧ rkF 100000 st + b.toNat ≤ g ∧ (b = true → ∀ e, FinF ms st e → FinF ms st0 e) ∧ (b = false → FinF ms st0 st)
  bl : Below w.heap.size w wr
  bx : Blk wr w.heap.size ac 25
structure FoJ (w : World) (n G : Nat) (ms : List Mv) (st : Fs) (ac : Array Value) (q i : Value) (wr : World) : Prop where
  ex : ∃ k : Nat, k ≤ ms.length ∧ i = .int .i64 (k : Int) ∧ q = .bool (newsF st (ms.take k)) ∧ FsV wr G (passF st (ms.take k))
  bl : Below w.heap.size w wr
  bx : Blk wr w.heap.size ac 25
end Go.Proofs.Ytfodgmnnjgcpgaa

/- Walks: a term of the set with as few knots as may be (auto.Some). -/
namespace Go.Proofs.Ytfodgmnnjgcpgaa
open Go.RowKit
set_option linter.unusedSimpArgs false
set_option linter.unusedVariables false
set_option maxRecDepth 8000

/-- The first of these. -/
def bstS (st : Fs) (acc : Option Tm) (s : Int) : Option Tm := if ahO (atF st s) acc = true then atF st s else acc
def bstF (st : Fs) (l : List Int) : Option Tm := l.foldl (bstS st) none
/-- The best so far. -/
structure SoI (w5 w6 : World) (C : Nat) (st : Fs) (l : List Int) (i : Value) (wr : World) : Prop where
  ex : ∃ (k : Nat) (s : ByteArray) (a : Option Addr) (n c : Nat) (z : Int) (u : ByteArray), k ≤ l.length ∧ i = .int .i64 (k : Int) ∧ Blk wr C #[.string s, .slice a n c, .int .i64 z, .string u] 115 ∧ FdIs wr (fun b => b < w5.heap.size) (bstF st (l.take k)) s a n c z u
  bl : ExQ (fun b => b = C) w6 wr

end Go.Proofs.Ytfodgmnnjgcpgaa

/- Walks: which of two terms is ahead, as the document says (Lighter); its rows of terms in memory. -/
namespace Go.Proofs.Ytfodgmnnjgcpgaa
open Go.RowKit
set_option linter.unusedSimpArgs false
set_option linter.unusedVariables false
set_option maxRecDepth 8000

/-- These values are a term, or none. -/
def TdIs (w : World) (Y : Nat → Prop) : Option Tm → ByteArray → Option Addr → Nat → Nat → Prop
  | none, s, a, n, c => s = ⟨#[]⟩ ∧ a = none ∧ n = 0 ∧ c = 0
  | some t, s, a, n, c => s = t.name ∧ n = t.args.length ∧ Sl w Y a t.args
theorem TdIs.imp {w w' : World} {Y Z : Nat → Prop} {x : Option Tm} {s : ByteArray} {a : Option Addr} {n c : Nat} (h : TdIs w Y x s a n c) (hk : ∀ a l, Sl w Y a l → Sl w' Z a l) : TdIs w' Z x s a n c := by
  cases x with
  | none => exact h
  | some t => exact ⟨h.1, h.2.1, hk _ _ h.2.2⟩
/-- The document's two rows. -/
structure DoV (w : World) (H B : Nat) (st : Fs) : Prop where
  hv : ∃ cs : Array Value, Blk w H cs 4 ∧ ∀ (i : Nat) (h : i < st.length), cs[i]? = some (.bool st[i].isSome)
  bs : ∃ cs : Array Value, Blk w B cs 39 ∧ ∀ (i : Nat) (h : i < st.length), ∃ s a n c, cs[i * 2]? = some (.string s) ∧ cs[i * 2 + 1]? = some (.slice a n c) ∧ TdIs w (fun b => H < b ∧ B < b) st[i] s a n c
  ne : H ≠ B
theorem DoV.later {w w' : World} {H B : Nat} {st : Fs} (h : DoV w H B st) (hb : Below w.heap.size w w') : DoV w' H B st := by
  obtain ⟨⟨cs, h1, h2⟩, ⟨ds, h3, h4⟩, h5⟩ := h
  refine ⟨⟨cs, h1.below hb h1.lt, h2⟩, ⟨ds, h3.below hb h3.lt, fun i hi => ?_⟩, h5⟩
  obtain ⟨s, a, n, c, e0, e1, e2⟩ := h4 i hi
  exact ⟨s, a, n, c, e0, e1, e2.imp fun a l hs => hs.later hb⟩
theorem DoV.get {w : World} {H B : Nat} {st : Fs} (h : DoV w H B st) (i : Nat) (hi : i < st.length) : ∃ s a n c, (w.cell? ⟨H, i, none⟩ = some (.bool st[i].isSome) ∧ w.cell? ⟨B, i * 2, none⟩ = some (.string s) ∧ w.cell? ⟨B, i * 2 + 1, none⟩ = some (.slice a n c)) ∧ ((∀ j, w.frozen? ⟨H, j, none⟩ = false) ∧ (∀ j, w.frozen? ⟨B, j, none⟩ = false) ∧ H < w.heap.size ∧ B < w.heap.size) ∧ TdIs w (fun b => H < b ∧ B < b) st[i] s a n c := by
  obtain ⟨⟨cs, h1, h2⟩, ⟨ds, h3, h4⟩, h5⟩ := h
  obtain ⟨s, a, n, c, e0, e1, e2⟩ := h4 i hi
  exact ⟨s, a, n, c, ⟨(h1.cell _).trans (h2 i hi), (h3.cell _).trans e0, (h3.cell _).trans e1⟩, ⟨h1.frozen, h3.frozen, h1.lt, h3.lt⟩, e2⟩
def setD (w : World) (H B i : Nat) (s : ByteArray) (a : Option Addr) (n c : Nat) : World := ((w.setCell ⟨H, i, none⟩ (.bool true)).setCell ⟨B, i * 2, none⟩ (.string s)).setCell ⟨B, i * 2 + 1, none⟩ (.slice a n c)
theorem setD_heap {w : World} {H B i : Nat} {s : ByteArray} {a : Option Addr} {n c : Nat} {b : Nat} (h : b ≠ H) (h2 : b ≠ B) : (setD w H B i s a n c).heap[b]? = w.heap[b]? := by
  unfold setD
  rw [Below.heap_setCell _ _ _ _ (by simpa using h2), Below.heap_setCell _ _ _ _ (by simpa using h2), Below.heap_setCell _ _ _ _ (by simpa using h)]
theorem DoV.put {w : World} {H B : Nat} {st : Fs} (h : DoV w H B st) {i : Nat} (hi : i < st.length) {t : Tm} {a : Option Addr} {c : Nat} (hx : Sl w (fun b => H < b ∧ B < b) a t.args) : DoV (setD w H B i t.name a t.args.length c) H B (st.set i (some t)) := by
  obtain ⟨⟨cs, h1, h2⟩, ⟨ds, h3, h4⟩, h5⟩ := h
  have keep : ∀ a' l, Sl w (fun b => H < b ∧ B < b) a' l → Sl (setD w H B i t.name a t.args.length c) (fun b => H < b ∧ B < b) a' l := fun a' l hs => hs.kept fun b hb => setD_heap (by omega) (by omega)
  refine ⟨⟨_, ((h1.set i (.bool true)).setOther (b' := B) (i * 2) (.string t.name) h5).setOther (b' := B) (i * 2 + 1) (.slice a t.args.length c) h5, fun j hj => ?_⟩, ⟨_, ((h3.setOther (b' := H) i (.bool true) (fun e => h5 e.symm)).set (i * 2) (.string t.name)).set (i * 2 + 1) (.slice a t.args.length c), fun j hj => ?_⟩, h5⟩
  · have hj' : j < st.length := by simpa using hj
    have b0 := (Array.getElem?_eq_some_iff.1 (h2 j hj')).1
    rw [Array.getElem?_setIfInBounds]
    by_cases e : i = j
    · subst e; simp [b0]
    · rw [if_neg e, List.getElem_set_ne e]; exact h2 j hj'
  · have hj' : j < st.length := by simpa using hj
    obtain ⟨s', a', n', c', e0, e1, e2⟩ := h4 j hj'
    by_cases e : i = j
    · subst e
      have b0 := (Array.getElem?_eq_some_iff.1 e0).1
      have b1 := (Array.getElem?_eq_some_iff.1 e1).1
      refine ⟨t.name, a, t.args.length, c, ?_, ?_, ?_⟩
      · simp [Array.getElem?_setIfInBounds, b0]
      · simp [Array.getElem?_setIfInBounds, b1]
      · rw [List.getElem_set_self]; exact ⟨rfl, rfl, keep _ _ hx⟩
    · refine ⟨s', a', n', c', ?_, ?_, ?_⟩
      · rw [← e0]; simp only [Array.getElem?_setIfInBounds, Array.size_setIfInBounds]; repeat rw [if_neg (by omega)]
      · rw [← e1]; simp only [Array.getElem?_setIfInBounds, Array.size_setIfInBounds]; repeat rw [if_neg (by omega)]
      · rw [List.getElem_set_ne e]; exact e2.imp keep
theorem DoV.start (w : World) (n : Nat) : DoV ((w.alloc (.cells (Array.replicate n (Value.bool false)) 4)).alloc (.cells (madeCells #[.string ⟨#[]⟩, .slice none 0 0] (n * 2)) 39)) w.heap.size (w.heap.size + 1) (List.replicate n none) := by
  have hB := Blk.new (w.alloc (.cells (Array.replicate n (Value.bool false)) 4)) (madeCells #[.string ⟨#[]⟩, .slice none 0 0] (n * 2)) 39
  rw [World.size_alloc] at hB
  refine ⟨⟨_, (Blk.new w (Array.replicate n (Value.bool false)) 4).alloc _, fun i hi => ?_⟩, ⟨_, hB, fun i hi => ?_⟩, by omega⟩
  · have hi' : i < n := by simpa using hi
    rw [List.getElem_replicate]
    simp [hi']
  · have hi' : i < n := by simpa using hi
    refine ⟨⟨#[]⟩, none, 0, 0, ?_, ?_, ?_⟩
    · rw [made_get _ _ _ (by omega)]
      have : i * 2 % 2 = 0 := by omega
      simp [this]
    · rw [made_get _ _ _ (by omega)]
      have : (i * 2 + 1) % 2 = 1 := by omega
      simp [this]
    · rw [List.getElem_replicate]; exact ⟨rfl, rfl, rfl, rfl⟩
end Go.Proofs.Ytfodgmnnjgcpgaa

/- Walks: a term of the set with as few knots as may be, as the document says (SomeOf). -/
namespace Go.Proofs.Ytfodgmnnjgcpgaa
open Go.RowKit
set_option linter.unusedSimpArgs false
set_option linter.unusedVariables false
set_option maxRecDepth 8000

/-- What is kept all through. -/
structure SfW (w : World) (H B : Nat) (st : Fs) (ac : Array Value) (wr : World) : Prop where
  dv : DoV wr H B st
  bl : Below w.heap.size w wr
  bx : Blk wr w.heap.size ac 25
  br : Blk wr (w.heap.size + 1) #[.string ⟨#[]⟩, .slice none 0 0] 39
  hs : w.heap.size + 2 ≤ H ∧ w.heap.size + 2 ≤ B
theorem SfW.later {w w1 w2 : World} {H B : Nat} {st : Fs} {ac : Array Value} (h : SfW w H B st ac w1) (hb : Below w1.heap.size w1 w2) : SfW w H B st ac w2 :=
  ⟨h.dv.later hb, h.bl.trans (hb.mono h.bl.size), h.bx.below hb h.bx.lt, h.br.below hb h.br.lt, h.hs⟩
/-- The term that is made, in the box D + 1 beside the move's box D. -/
structure SfT (w0 : World) (H B D : Nat) (mc : Array Value) (nm : ByteArray) (uv : Value) (l : List Tm) (xs : List Value) (wr : World) : Prop where
  row : Row wr (D + 2) 39 (fun b => (H < b ∧ B < b) ∧ b < D) uv l xs
  bl : Below D w0 wr
  ka : Blk wr D mc 49
  out : Blk wr (D + 1) #[.string nm, uv] 39
theorem SfT.later {w0 w1 w2 : World} {H B D : Nat} {mc : Array Value} {nm : ByteArray} {uv : Value} {l : List Tm} {xs : List Value} (h : SfT w0 H B D mc nm uv l xs w1) (hb : Below w1.heap.size w1 w2) : SfT w0 H B D mc nm uv l xs w2 :=
  ⟨h.row.below hb, h.bl.trans (hb.mono (by have := h.ka.lt; omega)), h.ka.below hb h.ka.lt, h.out.below hb h.out.lt⟩
structure SfI (w : World) (n H B : Nat) (ms : List Mv) (st0 : Fs) (ac : Array Value) (g : Nat) (q : Value) (wr : World) : Prop where
  ex : ∃ (st : Fs) (b : Bool), q = .bool b ∧ SfW w H B st ac wr ∧ OkF st ∧ st.length = n ∧ rkF 100000 st + b.toNat ≤ g ∧ (b = true → ∀ e, FinF ms st e → FinF ms st0 e) ∧ (b = false → FinF ms st0 st)
structure SfJ (w : World) (H B : Nat) (ms : List Mv) (st : Fs) (ac : Array Value) (q i : Value) (wr : World) : Prop where
  ex : ∃ k : Nat, k ≤ ms.length ∧ i = .int .i64 (k : Int) ∧ q = .bool (newsF st (ms.take k)) ∧ SfW w H B (passF st (ms.take k)) ac wr
/-- The inner loop. -/
structure SfK (w0 : World) (H B D : Nat) (mc : Array Value) (nm : ByteArray) (st : Fs) (f : List Int) (q i : Value) (wr : World) : Prop where
  ex : ∃ (j : Nat) (b : Bool) (uv : Value) (l : List Tm) (xs : List Value), j ≤ f.length ∧ i = .int .i64 (j : Int) ∧ q = .bool b ∧ (b = true → argO st (f.take j) = some l) ∧ (b = false → argO st f = none) ∧ l.length ≤ j ∧ SfT w0 H B D mc nm uv l xs wr
/-- The best so far. -/
structure SfL (w : World) (H B : Nat) (st : Fs) (la : List Int) (ac : Array Value) (q i : Value) (wr : World) : Prop where
  ex : ∃ (k : Nat), k ≤ la.length ∧ i = .int .i64 (k : Int) ∧ ((q = .int .i64 (-1) ∧ bstF st (la.take k) = none) ∨ ∃ (s : Nat) (t : Tm), q = .int .i64 (s : Int) ∧ s < st.length ∧ atF st (s : Int) = some t ∧ bstF st (la.take k) = some t)
  sf : SfW w H B st ac wr
end Go.Proofs.Ytfodgmnnjgcpgaa
