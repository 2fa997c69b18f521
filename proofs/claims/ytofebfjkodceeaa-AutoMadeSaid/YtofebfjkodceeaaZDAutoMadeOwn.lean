/- Several texts in one. -/
import Derived.Test.YtofebfjkodceeaaAv7
import Derived.Test.YtofebfjkodceeaaL4
import Derived.Test.YtofebfjkodceeaaSq
import Derived.Deep.LoopGhost
import Derived.Test.YtofebfjkodceeaaZMAutoMadeOwn
import Derived.Test.YtofebfjkodceeaaZBAutoMadeOwn
import Derived.Test.YtofebfjkodceeaaZAutoMadeOwn
namespace Go.Proofs.Ytofebfjkodceeaa
open Go.RowKit
set_option linter.unusedSimpArgs false
set_option linter.unusedVariables false
set_option maxRecDepth 8000
def FdIs (w : World) (Y : Nat → Prop) : Option Tm → ByteArray → Option Addr → Nat → Nat → Int → ByteArray → Prop
 | none, s, a, n, c, z, u => s = ⟨#[]⟩ ∧ a = none ∧ n = 0 ∧ c = 0 ∧ z = 0 ∧ u = ⟨#[]⟩
 | some t, s, a, n, c, z, u => s = t.name ∧ n = t.args.length ∧ z = (sizeL [t] : Int) ∧ u = txB t ∧ Sl w Y a t.args
def fdA (s : ByteArray) (a : Option Addr) (n c : Nat) (z : Int) (u : ByteArray) : Value := .agg #[.string s, .slice a n c, .int .i64 z, .string u]
theorem FdIs.imp {w w' : World} {Y Z : Nat → Prop} {x : Option Tm} {s : ByteArray} {a : Option Addr} {n c : Nat} {z : Int} {u : ByteArray} (h : FdIs w Y x s a n c z u) (hk : ∀ a l, Sl w Y a l → Sl w' Z a l) : FdIs w' Z x s a n c z u := by
 cases x with
 | none => exact h
 | some t => exact ⟨h.1, h.2.1, h.2.2.1, h.2.2.2.1, hk _ _ h.2.2.2.2⟩
structure FsV (w : World) (G : Nat) (st : Fs) : Prop where
 ex : ∃ cs : Array Value, Blk w G cs 82 ∧ ∀ (i : Nat) (h : i < st.length), ∃ s a n c z u, cs[i * 4]? = some (.string s) ∧ cs[i * 4 + 1]? = some (.slice a n c) ∧ cs[i * 4 + 2]? = some (.int .i64 z) ∧ cs[i * 4 + 3]? = some (.string u) ∧ FdIs w (fun b => b ≠ G) st[i] s a n c z u
theorem FsV.lt {w : World} {G : Nat} {st : Fs} (h : FsV w G st) : G < w.heap.size := by
 obtain ⟨cs, hb, _⟩ := h.ex
 exact hb.lt
theorem FsV.later {w w' : World} {G : Nat} {st : Fs} (h : FsV w G st) (hb : Below w.heap.size w w') : FsV w' G st := by
 obtain ⟨cs, hB, h1⟩ := h.ex
 refine ⟨cs, hB.below hb hB.lt, fun i hi => ?_⟩
 obtain ⟨s, a, n, c, z, u, e0, e1, e2, e3, e4⟩ := h1 i hi
 exact ⟨s, a, n, c, z, u, e0, e1, e2, e3, e4.imp fun a l hs => hs.later hb⟩
theorem FsV.get {w : World} {G : Nat} {st : Fs} (h : FsV w G st) (i : Nat) (hi : i < st.length) : ∃ s a n c z u, (w.cell? ⟨G, i * 4, none⟩ = some (.string s) ∧ w.cell? ⟨G, i * 4 + 1, none⟩ = some (.slice a n c) ∧ w.cell? ⟨G, i * 4 + 2, none⟩ = some (.int .i64 z) ∧ w.cell? ⟨G, i * 4 + 3, none⟩ = some (.string u)) ∧ (∀ j, w.frozen? ⟨G, j, none⟩ = false) ∧ FdIs w (fun b => b ≠ G) st[i] s a n c z u := by
 obtain ⟨cs, hB, h1⟩ := h.ex
 obtain ⟨s, a, n, c, z, u, e0, e1, e2, e3, e4⟩ := h1 i hi
 exact ⟨s, a, n, c, z, u, ⟨(hB.cell _).trans e0, (hB.cell _).trans e1, (hB.cell _).trans e2, (hB.cell _).trans e3⟩, hB.frozen, e4⟩
def setF (w : World) (G i : Nat) (s : ByteArray) (a : Option Addr) (n c : Nat) (z : Int) (u : ByteArray) : World := (((w.setCell ⟨G, i * 4, none⟩ (.string s)).setCell ⟨G, i * 4 + 1, none⟩ (.slice a n c)).setCell ⟨G, i * 4 + 2, none⟩ (.int .i64 z)).setCell ⟨G, i * 4 + 3, none⟩ (.string u)
theorem setF_heap {w : World} {G i : Nat} {s : ByteArray} {a : Option Addr} {n c : Nat} {z : Int} {u : ByteArray} {b : Nat} (h : b ≠ G) : (setF w G i s a n c z u).heap[b]? = w.heap[b]? := by
 unfold setF
 rw [Below.heap_setCell _ _ _ _ (by simpa using h), Below.heap_setCell _ _ _ _ (by simpa using h), Below.heap_setCell _ _ _ _ (by simpa using h), Below.heap_setCell _ _ _ _ (by simpa using h)]
theorem FsV.put {w : World} {G : Nat} {st : Fs} (h : FsV w G st) {i : Nat} (hi : i < st.length) {x : Option Tm} {s : ByteArray} {a : Option Addr} {n c : Nat} {z : Int} {u : ByteArray} (hx : FdIs w (fun b => b ≠ G) x s a n c z u) : FsV (setF w G i s a n c z u) G (st.set i x) := by
 obtain ⟨cs, hB, h1⟩ := h.ex
 have keep : ∀ a' l, Sl w (fun b => b ≠ G) a' l → Sl (setF w G i s a n c z u) (fun b => b ≠ G) a' l := fun a' l hs => hs.kept fun b hb => setF_heap hb
 refine ⟨_, (((hB.set (i * 4) (.string s)).set (i * 4 + 1) (.slice a n c)).set (i * 4 + 2) (.int .i64 z)).set (i * 4 + 3) (.string u), fun j hj => ?_⟩
 have hj' : j < st.length := by simpa using hj
 obtain ⟨s', a', n', c', z', u', e0, e1, e2, e3, e4⟩ := h1 j hj'
 by_cases e : i = j
 ·subst e
  have b0 := (Array.getElem?_eq_some_iff.1 e0).1
  have b1 := (Array.getElem?_eq_some_iff.1 e1).1
  have b2 := (Array.getElem?_eq_some_iff.1 e2).1
  have b3 := (Array.getElem?_eq_some_iff.1 e3).1
  refine ⟨s, a, n, c, z, u, ?_, ?_, ?_, ?_, ?_⟩
  ·simp [Array.getElem?_setIfInBounds, b0]
  ·simp [Array.getElem?_setIfInBounds, b1]
  ·simp [Array.getElem?_setIfInBounds, b2]
  ·simp [Array.getElem?_setIfInBounds, b3]
  ·rw [List.getElem_set_self]; exact hx.imp keep
 ·refine ⟨s', a', n', c', z', u', ?_, ?_, ?_, ?_, ?_⟩
  ·rw [← e0]; simp only [Array.getElem?_setIfInBounds, Array.size_setIfInBounds]; repeat rw [if_neg (by omega)]
  ·rw [← e1]; simp only [Array.getElem?_setIfInBounds, Array.size_setIfInBounds]; repeat rw [if_neg (by omega)]
  ·rw [← e2]; simp only [Array.getElem?_setIfInBounds, Array.size_setIfInBounds]; repeat rw [if_neg (by omega)]
  ·rw [← e3]; simp only [Array.getElem?_setIfInBounds, Array.size_setIfInBounds]; repeat rw [if_neg (by omega)]
  ·rw [List.getElem_set_ne e]; exact e4.imp keep
theorem made_get (z : Array Value) (n k : Nat) (h : k < n) : (madeCells z n)[k]? = some (z[k % z.size]!) := by
 unfold madeCells
 rw [Array.getElem?_map, Array.getElem?_range]
 simp [h]
theorem Try.infoFound : (Try.prog.info? 82).map (fun i => (i.zero, i.size, i.bytes)) = some (some (.agg #[.string ⟨#[]⟩, .slice none 0 0, .int .i64 0, .string ⟨#[]⟩]), 4, 64) := by kernel_rfl
theorem FsV.start (w : World) (n : Nat) (T : Nat) : FsV (w.alloc (.cells (madeCells #[.string ⟨#[]⟩, .slice none 0 0, .int .i64 0, .string ⟨#[]⟩] (n * 4)) 82)) w.heap.size (List.replicate n none) := by
 refine ⟨_, Blk.new _ _ _, fun i hi => ?_⟩
 have hi' : i < n := by simpa using hi
 refine ⟨⟨#[]⟩, none, 0, 0, 0, ⟨#[]⟩, ?_, ?_, ?_, ?_, ?_⟩
 ·rw [made_get _ _ _ (by omega)]
  have : i * 4 % 4 = 0 := by omega
  simp [this]
 ·rw [made_get _ _ _ (by omega)]
  have : (i * 4 + 1) % 4 = 1 := by omega
  simp [this]
 ·rw [made_get _ _ _ (by omega)]
  have : (i * 4 + 2) % 4 = 2 := by omega
  simp [this]
 ·rw [made_get _ _ _ (by omega)]
  have : (i * 4 + 3) % 4 = 3 := by omega
  simp [this]
 ·rw [List.getElem_replicate]; exact ⟨rfl, rfl, rfl, rfl, rfl, rfl⟩
theorem make_founds (n : Nat) (hn : n ≤ 20000) (w : World) : (Instr.makeSlice 79 (.int .i64 (n : Int)) (.int .i64 (n : Int))).run Try.prog w = .ok (.slice (some ⟨w.heap.size, 0, none⟩) n n) (w.alloc (.cells (madeCells #[.string ⟨#[]⟩, .slice none 0 0, .int .i64 0, .string ⟨#[]⟩] (n * 4)) 82)) := by
 obtain ⟨i0, hi, hz0, hz1, hz2⟩ := info_parts Try.infoFound
 have hr := run_make (P := Try.prog) w 79 82 i0 _ Try.underlying79 hi hz0 .i64 .i64 n n (by omega) (by omega) (by rw [hz2]; omega) (by omega)
 rw [hz1] at hr
 simp only [Int.toNat_natCast] at hr
 exact hr
def ahO : Option Tm → Option Tm → Bool
 | none, _ => false
 | some _, none => true
 | some t, some u => agT t u
theorem size_posF (t : Tm) : 0 < sizeL [t] := by obtain ⟨_, _⟩ := t; simp [sizeL]; omega
set_option maxHeartbeats 2000000 in
theorem isAhead_any (x y : Option Tm) (s s' : ByteArray) (a a' : Option Addr) (n n' c c' : Nat) (z z' : Int) (u u' : ByteArray) (w : World) (Y Y' : Nat → Prop) (hx : FdIs w Y x s a n c z u) (hy : FdIs w Y' y s' a' n' c' z' u') :
  Calls Try.prog 45 #[fdA s a n c z u, fdA s' a' n' c' z' u'] w fun e w' => e = .returned (.bool (ahO x y)) ∧ Below w.heap.size w w' := by
 unfold fdA
 have B2 : Hid (Below w.heap.size w ((w.alloc (.cells #[.string s, .slice a n c, .int .i64 z, .string u] 82)).alloc (.cells #[.string s', .slice a' n' c', .int .i64 z', .string u'] 82))) := ((Below.refl _ _).alloc (Nat.le_refl _) _).alloc (by simp) _
 have KA : Hid (Blk ((w.alloc (.cells #[.string s, .slice a n c, .int .i64 z, .string u] 82)).alloc (.cells #[.string s', .slice a' n' c', .int .i64 z', .string u'] 82)) w.heap.size #[.string s, .slice a n c, .int .i64 z, .string u] 82) := (Blk.new _ _ _).alloc _
 have KB : Hid (Blk ((w.alloc (.cells #[.string s, .slice a n c, .int .i64 z, .string u] 82)).alloc (.cells #[.string s', .slice a' n' c', .int .i64 z', .string u'] 82)) (w.heap.size + 1) #[.string s', .slice a' n' c', .int .i64 z', .string u'] 82) := by
  have h := Blk.new (w.alloc (.cells #[.string s, .slice a n c, .int .i64 z, .string u] 82)) #[.string s', .slice a' n' c', .int .i64 z', .string u'] 82
  rw [World.size_alloc] at h
  exact h
 have a2 := KA.out.cell 2
 have a3 := KA.out.cell 3
 have b2 := KB.out.cell 2
 have b3 := KB.out.cell 3
 cases x with
 | none =>
  obtain ⟨-, -, -, -, rfl, -⟩ := hx
  have hz' : 0 ≤ z' := by
   cases y with
   | none => obtain ⟨-, -, -, -, rfl, -⟩ := hy; exact Int.le_refl _
   | some q => obtain ⟨-, -, rfl, -⟩ := hy; omega
  have hlt : ¬ z' < 0 := by omega
  clear hy hz'
  go_enter Try.func45, Try.ntmps45
  go_wp2_with fail
  go_ret
  exact ⟨rfl, B2.out⟩
 | some t =>
  obtain ⟨-, -, rfl, rfl, -⟩ := hx
  have hp := size_posF t
  cases y with
  | none =>
   obtain ⟨-, -, -, -, rfl, -⟩ := hy
   have h1 : ((sizeL [t] : Int) == 0) = false := by simpa using (by omega : ¬ (sizeL [t] : Int) = 0)
   have h2 : (0 : Int) < (sizeL [t] : Int) := by omega
   have HA : Hid (ahO (some t) none = decide (0 < sizeL [t])) := by show true = _; simp [hp]
   clear hp
   go_enter Try.func45, Try.ntmps45
   go_wp2_with fail
   go_ret
   exact ⟨by rw [HA.out]; rfl, B2.out⟩
  | some q =>
   obtain ⟨-, -, rfl, rfl, -⟩ := hy
   have hq := size_posF q
   have h1 : ((sizeL [t] : Int) == 0) = false := by simpa using (by omega : ¬ (sizeL [t] : Int) = 0)
   have h2 : ((sizeL [q] : Int) == 0) = false := by simpa using (by omega : ¬ (sizeL [q] : Int) = 0)
   by_cases he : sizeL [t] = sizeL [q]
   ·have h3 : ((sizeL [t] : Int) != (sizeL [q] : Int)) = false := by simpa using (by omega : (sizeL [t] : Int) = (sizeL [q] : Int))
    have HA : Hid (ahO (some t) (some q) = Op.bytesLess (txB t).toList (txB q).toList) := by show agT t q = _; unfold agT; rw [if_pos he]; rfl
    clear hp hq he
    go_enter Try.func45, Try.ntmps45
    go_wp2_with fail
    go_ret
    exact ⟨by rw [HA.out]; rfl, B2.out⟩
   ·have h3 : ((sizeL [t] : Int) != (sizeL [q] : Int)) = true := by simpa using (by omega : ¬ (sizeL [t] : Int) = (sizeL [q] : Int))
    have HA : Hid (ahO (some t) (some q) = decide (sizeL [t] < sizeL [q])) := by
     show agT t q = _
     unfold agT
     rw [if_neg he]
    clear hp hq he
    go_enter Try.func45, Try.ntmps45
    go_wp2_with fail
    go_ret
    exact ⟨by rw [HA.out]; rfl, B2.out⟩
theorem cell_two_newF (w : World) (a b : Value) (T : Nat) : ∀ j u, ([a, b] : List Value)[j]? = some u → (w.alloc (.cells #[a, b] T)).cell? ((⟨w.heap.size, 0, none⟩ : Addr).add j) = some u :=
 World.news_of_block (cs := #[a, b]) (heap_alloc_new w _)
theorem argO_size {st : Fs} (h : OkF st) : ∀ {f : List Int} {l : List Tm}, argO st f = some l → f.length ≤ 4 → sizeL l ≤ 8000 := by
 have key : ∀ {f : List Int} {l : List Tm}, argO st f = some l → sizeL l ≤ 2000 * f.length := by
  intro f
  induction f with
  | nil => intro l e; simp [argO] at e; subst e; simp [sizeL]
  | cons s r ih =>
   intro l e
   rw [argO] at e
   cases h1 : atF st s with
   | none => rw [h1] at e; simp at e
   | some t =>
    cases h2 : argO st r with
    | none => rw [h1, h2] at e; simp at e
    | some q =>
     rw [h1, h2] at e
     simp at e
     subst e
     have h3 := ih h2
     have h4 := (h s t h1).sz
     have h5 := sizeL_append [t] q
     simp only [List.singleton_append] at h5
     rw [h5, List.length_cons]
     omega
 intro f l e hf
 have := key e
 omega
structure FbI (w : World) (G A : Nat) (mc : Array Value) (nm : ByteArray) (uv : Value) (l : List Tm) (xs : List Value) (wr : World) : Prop where
 row : Row wr (A + 3) 30 (fun b => b ≠ G ∧ b < w.heap.size) uv l xs
 bl : Below w.heap.size w wr
 ka : Blk wr A mc 40
 kr : Blk wr (A + 1) #[.string ⟨#[]⟩, .slice none 0 0, .int .i64 0, .string ⟨#[]⟩] 82
 out : Blk wr (A + 2) #[.string nm, uv] 30
theorem FbI.later {w w1 w2 : World} {G A : Nat} {mc : Array Value} {nm : ByteArray} {uv : Value} {l : List Tm} {xs : List Value} (h : FbI w G A mc nm uv l xs w1) (hb : Below w1.heap.size w1 w2) : FbI w G A mc nm uv l xs w2 :=
 ⟨h.row.below hb, h.bl.trans (hb.mono h.bl.size), h.ka.below hb h.ka.lt, h.kr.below hb h.kr.lt, h.out.below hb h.out.lt⟩
theorem fb_round {w wr : World} {G A : Nat} {mc : Array Value} {nm : ByteArray} {uv : Value} {l : List Tm} {xs : List Value} (h : FbI w G A mc nm uv l xs wr) (hA : A = w.heap.size) (hl : l.length ≤ 100000) {t : Tm} {a5 : Option Addr} {c5 : Nat} (hs5 : Sl wr (fun b => b ≠ G ∧ b < w.heap.size) a5 t.args) :
  ∃ g cap w3, (Builtin.append_ #[28, 28] 28 #[uv, .slice (some ⟨wr.heap.size, 0, none⟩) 1 1]).run Try.prog (wr.alloc (.cells #[.string t.name, .slice a5 t.args.length c5] 30)) = .ok (.slice (some ⟨g, 0, none⟩) (l.length + 1) cap) w3 ∧
   (w3.cell? ⟨A + 2, 1, none⟩ = some uv ∧ w3.frozen? ⟨A + 2, 1, none⟩ = false ∧ A + 2 < w3.heap.size) ∧ (∀ b, b < w.heap.size → w3.heap[b]? = wr.heap[b]? ∧ (w3.setCell ⟨A + 2, 1, none⟩ (.slice (some ⟨g, 0, none⟩) (l.length + 1) cap)).heap[b]? = wr.heap[b]?) ∧
   FbI w G A mc nm (.slice (some ⟨g, 0, none⟩) (l.length + 1) cap) (l ++ [t]) (xs ++ [.string t.name, .slice a5 t.args.length c5]) (w3.setCell ⟨A + 2, 1, none⟩ (.slice (some ⟨g, 0, none⟩) (l.length + 1) cap)) := by
 obtain ⟨i0, hi, hz0, hz1, hz2⟩ := info_parts Try.infoTerm
 have hlt := h.row.own.lt
 have hol := h.out.lt
 obtain ⟨g, cap, w3, hr3, ho, hg, hat, hgl⟩ := run_append_lies (P := Try.prog) (w := wr.alloc (.cells #[.string t.name, .slice a5 t.args.length c5] 30)) 28 28 (A + 3) 30 i0 _ 2 40 Try.underlying28 hi hz0 hz1 hz2 rfl (by decide) uv l.length xs (h.row.own.alloc _)
  ⟨wr.heap.size, 0, none⟩ 1 1 [.string t.name, .slice a5 t.args.length c5] rfl (cell_two_newF _ _ _ _) (fun y hy => by simp at hy; rcases hy with rfl | rfl <;> rfl) (by decide) (by unfold maxLen; omega) (by omega) (by simp; omega) _ rfl
 have hp := h.row.push (w1 := wr) (w3 := w3) (t := t) (by omega) (fun b h => by omega) (Below.refl _ _) ⟨a5, c5, rfl, hs5.mono fun b h _ => Or.inl h⟩ _ rfl ho hg hat
 have hne : ∀ j, j < A + 3 → some j ≠ uv.ownBlock := fun j hj e => by have := (hlt j e.symm).1; omega
 have hs3 := hg.size
 simp at hs3
 have k3 : ∀ b, b < A + 3 → w3.heap[b]? = wr.heap[b]? := fun b hb => by
  rw [hg.block b (by simp; omega) (hne b hb), Below.heap_alloc _ _ _ (by omega)]
 have o3 : Blk w3 (A + 2) #[.string nm, uv] 30 := (k3 _ (by omega)).trans h.out
 have k4 : ∀ b, b < A + 2 → (w3.setCell ⟨A + 2, 1, none⟩ (.slice (some ⟨g, 0, none⟩) (l.length + 1) cap)).heap[b]? = wr.heap[b]? := fun b hb => by
  rw [Below.heap_setCell _ _ _ _ (by simp; omega), k3 b (by omega)]
 refine ⟨g, cap, w3, hr3, ⟨o3.cell 1, o3.frozen 1, by omega⟩, fun b hb => ⟨k3 b (by omega), k4 b (by omega)⟩, ⟨hp.setCell (by omega) (fun h => by omega) _, ?_, (k4 _ (by omega)).trans h.ka, (k4 _ (by omega)).trans h.kr, o3.set 1 _⟩⟩
 have b3 : Below w.heap.size wr w3 := ((Below.refl _ wr).alloc (by have := h.bl.size; omega) _).grown hg (by have := h.bl.size; simp; omega) (fun j hj => by have := (hlt j hj).1; omega)
 exact (h.bl.trans b3).setCell (p := ⟨A + 2, 1, none⟩) (by simp; omega) _
def FbP (G : Nat) (x : Option Tm) (w : World) (e : Ending) (w' : World) : Prop := ∃ s a n c z u, e = .returned (fdA s a n c z u) ∧ FdIs w' (fun b => b ≠ G) x s a n c z u ∧ Below w.heap.size w w'
theorem byM_of {st : Fs} {m : Mv} {l : List Tm} (h : argO st m.frm = some l) : byM st m = if 2000 < 1 + sizeL l then none else some ⟨m.name, l⟩ := by unfold byM; rw [h]
theorem byM_no {st : Fs} {m : Mv} (h : argO st m.frm = none) : byM st m = none := by unfold byM; rw [h]
theorem sizeL_snoc (l : List Tm) (t : Tm) : sizeL (l ++ [t]) = sizeL l + sizeL [t] := sizeL_append l [t]
set_option maxHeartbeats 4000000 in
theorem firstBy_any (st : Fs) (n : Nat) (hn : st.length = n) (hok : OkF st) (m : Mv) (hm : OkMv (n : Int) m) (hn64 : n ≤ 64) (af : Option Addr) (cf : Nat) (G : Nat) (w : World) (X : Nat → Prop) (hp : PV w X (.slice af m.frm.length cf) m.frm) (hf : FsV w G st) :
  Calls Try.prog 68 #[.agg #[.string m.name, .slice af m.frm.length cf, .int .i64 m.to], .slice (some ⟨G, 0, none⟩) n n] w fun e w' => FbP G (byM st m) w e w' := by
 have hpl := hp.len.1
 have HF := hide hf
 have HP := hide hp
 have HM := hide hm
 have HOK := hide hok
 have HN := hide hn
 have hGl := hf.lt
 have W3 : Hid (FbI w G w.heap.size #[.string m.name, .slice af m.frm.length cf, .int .i64 m.to] m.name (.slice none 0 0) [] [] (((w.alloc (.cells #[.string m.name, .slice af m.frm.length cf, .int .i64 m.to] 40)).alloc (.cells #[.string ⟨#[]⟩, .slice none 0 0, .int .i64 0, .string ⟨#[]⟩] 82)).alloc (.cells #[.string m.name, .slice none 0 0] 30))) := by
  refine ⟨Row.start _ _ _ _, (((Below.refl _ _).alloc (Nat.le_refl _) _).alloc (by simp) _).alloc (by simp; omega) _, ((Blk.new w _ _).alloc _).alloc _, ?_, ?_⟩
  ·have h := (Blk.new (w.alloc (.cells #[.string m.name, .slice af m.frm.length cf, .int .i64 m.to] 40)) #[.string ⟨#[]⟩, .slice none 0 0, .int .i64 0, .string ⟨#[]⟩] 82).alloc (.cells #[.string m.name, .slice none 0 0] 30)
   rw [World.size_alloc] at h
   exact h
  ·have h := Blk.new ((w.alloc (.cells #[.string m.name, .slice af m.frm.length cf, .int .i64 m.to] 40)).alloc (.cells #[.string ⟨#[]⟩, .slice none 0 0, .int .i64 0, .string ⟨#[]⟩] 82)) #[.string m.name, .slice none 0 0] 30
   rw [World.size_alloc, World.size_alloc] at h
   exact h
 have c0 := ((Blk.new w #[.string m.name, .slice af m.frm.length cf, .int .i64 m.to] 40).alloc (.cells #[.string ⟨#[]⟩, .slice none 0 0, .int .i64 0, .string ⟨#[]⟩] 82)).cell 0
 have c1 := W3.out.ka.cell 1
 clear hf hp hm hok hn
 go_enter Try.func68, Try.ntmps68
 go_wp2_with fail
 generalize (((w.alloc (.cells #[.string m.name, .slice af m.frm.length cf, .int .i64 m.to] 40)).alloc (.cells #[.string ⟨#[]⟩, .slice none 0 0, .int .i64 0, .string ⟨#[]⟩] 82)).alloc (.cells #[.string m.name, .slice none 0 0] 30)) = w3 at *
 clear c0 c1
 have e2 : w.heap.size + 1 + 1 = w.heap.size + 2 := by omega
 try rw [e2]
 clear e2
 go_loopw [5, 15] (fun z i wr => ∃ (k : Nat) (l : List Tm) (uv : Value) (xs : List Value), k ≤ m.frm.length ∧ i = .int .i64 (k : Int) ∧ z = .int .i64 ((1 + sizeL l : Nat) : Int) ∧ argO st (m.frm.take k) = some l ∧ FbI w G w.heap.size #[.string m.name, .slice af m.frm.length cf, .int .i64 m.to] m.name uv l xs wr) (fun z i wr => m.frm.length - (intOf i).toNat)
 case atStart => exact ⟨0, [], .slice none 0 0, [], Nat.zero_le _, rfl, by simp [sizeL], rfl, W3.out⟩
 case round =>
  obtain ⟨k, l, uv, xs, hk, rfl, rfl, harg, hin⟩ := hrel
  have SET := hide hin
  have HARG := hide harg
  have HLL : Hid (l.length ≤ 4 ∧ sizeL l ≤ 8000) := by
   have h1 := (argO_ok HOK.out harg).1
   have h2 := HM.out.len
   simp at h1
   exact ⟨by omega, argO_size HOK.out harg (by simp; omega)⟩
  clear hin harg
  by_cases hlt : k < m.frm.length
  ·have hki : (k : Int) < (m.frm.length : Int) := by omega
   obtain ⟨b, o, rfl, hb, hc⟩ := HP.out.at SET.out.bl k hlt
   have h9 := HM.out.frm m.frm[k] (List.getElem_mem hlt)
   obtain ⟨s, hs⟩ : ∃ s : Nat, m.frm[k] = (s : Int) := ⟨m.frm[k].toNat, by omega⟩
   have hsn : s < n := by omega
   have hsi : (s : Int) < (n : Int) := by omega
   have hsl : s < st.length := by rw [HN.out]; exact hsn
   obtain ⟨s1, a1, n1, c1, z1, u1, ⟨g0, g1, g2, g3⟩, gf, gis⟩ := ((HF.out.later SET.out.bl).get s hsl)
   have hat : atF st m.frm[k] = st[s] := by unfold atF; rw [hs, Int.toNat_natCast, List.getElem?_eq_getElem hsl]; rfl
   have HAT := hide hat
   have HTK := hide (argO_take (st := st) hlt)
   have HNO := hide (argO_none (st := st) hlt)
   rw [hs] at hc
   clear h9 hs hat
   have GIS := hide gis
   cases hst : st[s] with
   | none =>
    rw [hst] at gis
    obtain ⟨rfl, rfl, rfl, rfl, rfl, rfl⟩ := gis
    have HR : Hid (byM st m = none) := byM_no (HNO.out (by rw [HAT.out, hst]))
    clear hst
    have r0 := SET.out.kr.cell 0
    have r1 := SET.out.kr.cell 1
    have r2 := SET.out.kr.cell 2
    have r3 := SET.out.kr.cell 3
    have rf := SET.out.kr.frozen
    have rl := SET.out.kr.lt
    go_wp2_with fail
    refine bodyPost_ret (v := fdA ⟨#[]⟩ none 0 0 0 ⟨#[]⟩) (by simp [results, Try.results68, go_sem, World.cell?_setCell_same, World.cell?_setCell_other, r0, r1, r2, r3, rl, fdA]) rfl ?_
    rw [HR.out]
    exact ⟨_, _, _, _, _, _, rfl, ⟨rfl, rfl, rfl, rfl, rfl, rfl⟩, (((SET.out.bl.setCell (p := ⟨w.heap.size + 1, 0, none⟩) (by simp) _).setCell (p := ⟨w.heap.size + 1, 1, none⟩) (by simp) _).setCell (p := ⟨w.heap.size + 1, 2, none⟩) (by simp) _).setCell (p := ⟨w.heap.size + 1, 3, none⟩) (by simp) _⟩
   | some t =>
    rw [hst] at gis
    obtain ⟨rfl, rfl, rfl, rfl, hsl5⟩ := gis
    have hz0 : ((sizeL [t] : Int) == 0) = false := by have := size_posF t; simpa using (by omega : ¬ (sizeL [t] : Int) = 0)
    have hzt : sizeL [t] ≤ 2000 := (HOK.out m.frm[k] t (by rw [HAT.out, hst])).sz
    have HT1 : Hid (argO st (m.frm.take (k + 1)) = some (l ++ [t])) := by unfold Hid; rw [HTK.out, HARG.out, HAT.out, hst]
    have hsum : ((1 + sizeL l : Nat) : Int) + (sizeL [t] : Int) = ((1 + sizeL (l ++ [t]) : Nat) : Int) := by rw [sizeL_snoc]; omega
    have kd : Below wr.heap.size wr wr.drew := (Below.refl _ _).drew
    have GS : Hid (Sl w (fun b => b ≠ G ∧ b < w.heap.size) a1 t.args) := by
     obtain ⟨s2, a2, n2, c2, z2, u2, ⟨f0, f1, f2, f3⟩, _, fis⟩ := HF.out.get s hsl
     rw [hst] at fis
     obtain ⟨rfl, rfl, rfl, rfl, hsl6⟩ := fis
     have e1 := cell_below3 SET.out.bl f1
     rw [g1] at e1
     simp at e1
     obtain ⟨rfl, -⟩ := e1
     exact hsl6.mono fun b h1 h2 => ⟨h1, h2⟩
    obtain ⟨g, cap, w5, hap, ⟨hc5, hf5, hl5⟩, hk5, hset⟩ := fb_round (t := t) (c5 := c1) (SET.out.later kd) rfl (by have := HLL.out.1; omega) (GS.out.later (SET.out.bl.trans (kd.mono SET.out.bl.size)))
    have HAP := hide hap
    have HSET := hide hset
    have HK5 := hide hk5
    have ob : wr.drew.cell? ⟨w.heap.size + 2, 1, none⟩ = some uv := SET.out.out.cell 1
    have ob2 : (wr.drew.alloc (.cells #[.string t.name, .slice a1 t.args.length c1] 30)).cell? ⟨w.heap.size + 2, 1, none⟩ = some uv := (SET.out.later kd).out.alloc _ |>.cell 1
    have S0 : Hid (wr.drew.cell? ⟨G, s * 4, none⟩ = some (.string t.name) ∧ wr.drew.cell? ⟨G, s * 4 + 1, none⟩ = some (.slice a1 t.args.length c1)) := ⟨g0, g1⟩
    have KPS : Hid (∀ w' : World, w'.heap[G]? = wr.heap[G]? → w'.cell? ⟨G, s * 4, none⟩ = some (.string t.name) ∧ w'.cell? ⟨G, s * 4 + 1, none⟩ = some (.slice a1 t.args.length c1)) := fun w' h1 => ⟨(World.cell?_of_block (a := ⟨G, s * 4, none⟩) h1).trans S0.out.1, (World.cell?_of_block (a := ⟨G, s * 4 + 1, none⟩) h1).trans S0.out.2⟩
    have hGw : G < wr.heap.size := Nat.lt_of_lt_of_le hGl SET.out.bl.size
    have SA := hide (KPS.out (wr.drew.alloc (.cells #[.string t.name, .slice a1 t.args.length c1] 30)) (Below.heap_alloc wr.drew _ _ hGw))
    have SB := hide (KPS.out _ (HK5.out G hGl).1)
    have SC := hide (KPS.out _ (HK5.out G hGl).2)
    have HZT := hide hzt
    obtain ⟨zz, hzz⟩ : ∃ zz : Nat, zz = 1 + sizeL l := ⟨_, rfl⟩
    rw [← hzz] at hsum ⊢
    have HSUM := hide hsum
    have hzb : (zz : Int) + (sizeL [t] : Int) < 9000000000 := by have := HLL.out.2; omega
    clear hst hsum hap hset hk5 KPS HK5 hsl5 hzt hzz
    go_upto_region 9 with fail
    refine wp_region_held_drew (S := fun w' => w'.cell? ⟨G, s * 4, none⟩ = some (.string t.name) ∧ w'.cell? ⟨G, s * 4 + 1, none⟩ = some (.slice a1 t.args.length c1)) (by kernel_rfl) S0.out (fun hHeld => ?_)
    generalize wr.drew = wd at *
    refine tkq (v := ?_) 0 rfl ?_ ?_
    rotate_left
    ·intro w' hSw
     go_simp <;> with_reducible rfl
    try simp only [Act.put, sqA, sqB, sqC, sqD, sqE, sqF]
    refine tkq (v := ?_) 2 rfl ?_ ?_
    rotate_left
    ·intro w' hSw
     go_simp <;> with_reducible rfl
    try simp only [Act.put, sqA, sqB, sqC, sqD, sqE, sqF]
    refine tkq (v := ?_) 3 rfl ?_ ?_
    rotate_left
    ·intro w' hSw
     go_simp <;> with_reducible rfl
    try simp only [Act.put, sqA, sqB, sqC, sqD, sqE, sqF]
    refine tkq (v := ?_) 4 rfl ?_ ?_
    rotate_left
    ·intro w' hSw
     go_simp <;> with_reducible rfl
    try simp only [Act.put, sqA, sqB, sqC, sqD, sqE, sqF]
    refine tkq (v := ?_) 5 rfl ?_ ?_
    rotate_left
    ·intro w' hSw
     go_simp <;> with_reducible rfl
    try simp only [Act.put, sqA, sqB, sqC, sqD, sqE, sqF]
    refine tkq (v := ?_) 6 rfl ?_ ?_
    rotate_left
    ·intro w' hSw
     obtain ⟨x0, x1⟩ := hSw
     go_simp <;> with_reducible rfl
    try simp only [Act.put, sqA, sqB, sqC, sqD, sqE, sqF]
    refine wpAnyH_ready (rs := [1, 7]) (by kernel_rfl) (by simp) ?_
    refine AllReadyH.cons rfl (fun K hK => ?_) (AllReadyH.cons rfl (fun K hK => ?_) AllReadyH.nil)
    ·go_simp
     refine hK.out _ _ (by exact S0.out) (fun hHeld => ?_)
     clear hK K
     try simp only [Act.put, sqA, sqB, sqC, sqD, sqE, sqF]
     refine rdq 7 rfl fun K hK => ?_
     go_simp
     refine hK.out _ _ (by exact SA.out) (fun hHeld => ?_)
     clear hK K
     try simp only [Act.put, sqA, sqB, sqC, sqD, sqE, sqF]
     refine rdq 8 rfl fun K hK => ?_
     refine step_append_eqM rfl _ _ _ _ rfl rfl rfl HAP.out ?_
     refine hK.out _ _ (by exact SB.out) (fun hHeld => ?_)
     clear hK K
     try simp only [Act.put, sqA, sqB, sqC, sqD, sqE, sqF]
     refine tkq (v := ?_) 9 rfl ?_ ?_
     rotate_left
     ·intro w' hSw
      go_simp <;> with_reducible rfl
     try simp only [Act.put, sqA, sqB, sqC, sqD, sqE, sqF]
     refine rdq 10 rfl fun K hK => ?_
     go_simp
     refine hK.out _ _ (by exact SC.out) (fun hHeld => ?_)
     clear hK K
     try simp only [Act.put, sqA, sqB, sqC, sqD, sqE, sqF]
     refine wpAnyH_done (by kernel_rfl) ?_ _
     clear ob ob2 hc5 hf5 hl5
     go_wp2_with fail
     go_roundw
     case rel => exact ⟨k + 1, l ++ [t], _, _, by omega, by go_num, by rw [← HSUM.out]; first | done | rfl | go_num, HT1.out, HSET.out⟩
     case measure => simp [intOf]; omega
    ·go_simp
     refine hK.out _ _ (by exact SA.out) (fun hHeld => ?_)
     clear hK K
     try simp only [Act.put, sqA, sqB, sqC, sqD, sqE, sqF]
     refine rdq 1 rfl fun K hK => ?_
     go_simp
     refine hK.out _ _ (by exact SA.out) (fun hHeld => ?_)
     clear hK K
     try simp only [Act.put, sqA, sqB, sqC, sqD, sqE, sqF]
     refine rdq 8 rfl fun K hK => ?_
     refine step_append_eqM rfl _ _ _ _ rfl rfl rfl HAP.out ?_
     refine hK.out _ _ (by exact SB.out) (fun hHeld => ?_)
     clear hK K
     try simp only [Act.put, sqA, sqB, sqC, sqD, sqE, sqF]
     refine tkq (v := ?_) 9 rfl ?_ ?_
     rotate_left
     ·intro w' hSw
      go_simp <;> with_reducible rfl
     try simp only [Act.put, sqA, sqB, sqC, sqD, sqE, sqF]
     refine rdq 10 rfl fun K hK => ?_
     go_simp
     refine hK.out _ _ (by exact SC.out) (fun hHeld => ?_)
     clear hK K
     try simp only [Act.put, sqA, sqB, sqC, sqD, sqE, sqF]
     refine wpAnyH_done (by kernel_rfl) ?_ _
     clear ob ob2 hc5 hf5 hl5
     go_wp2_with fail
     go_roundw
     case rel => exact ⟨k + 1, l ++ [t], _, _, by omega, by go_num, by rw [← HSUM.out]; first | done | rfl | go_num, HT1.out, HSET.out⟩
     case measure => simp [intOf]; omega
  ·have hki : ¬ (k : Int) < (m.frm.length : Int) := by omega
   have HAR : Hid (argO st m.frm = some l) := by have h := HARG.out; rw [List.take_of_length_le (by omega)] at h; exact h
   have HBY := hide (byM_of HAR.out)
   have r0 := SET.out.kr.cell 0
   have r1 := SET.out.kr.cell 1
   have r2 := SET.out.kr.cell 2
   have r3 := SET.out.kr.cell 3
   have rf := SET.out.kr.frozen
   have rl := SET.out.kr.lt
   by_cases hgt : 2000 < 1 + sizeL l
   ·have hgi : (2000 : Int) < ((1 + sizeL l : Nat) : Int) := by omega
    have HR : Hid (byM st m = none) := by unfold Hid; rw [HBY.out, if_pos hgt]
    clear hgt
    generalize ((1 + sizeL l : Nat) : Int) = zz at *
    go_wp2_with fail
    refine bodyPost_ret (v := fdA ⟨#[]⟩ none 0 0 0 ⟨#[]⟩) (by simp [results, Try.results68, go_sem, World.cell?_setCell_same, World.cell?_setCell_other, r0, r1, r2, r3, rl, fdA]) rfl ?_
    rw [HR.out]
    exact ⟨_, _, _, _, _, _, rfl, ⟨rfl, rfl, rfl, rfl, rfl, rfl⟩, (((SET.out.bl.setCell (p := ⟨w.heap.size + 1, 0, none⟩) (by simp) _).setCell (p := ⟨w.heap.size + 1, 1, none⟩) (by simp) _).setCell (p := ⟨w.heap.size + 1, 2, none⟩) (by simp) _).setCell (p := ⟨w.heap.size + 1, 3, none⟩) (by simp) _⟩
   ·have hgi : ¬ (2000 : Int) < ((1 + sizeL l : Nat) : Int) := by omega
    have HR : Hid (byM st m = some ⟨m.name, l⟩) := by unfold Hid; rw [HBY.out, if_neg hgt]
    have hok2 := byM_ok HOK.out HM.out HR.out
    have HLN : Hid ((txtL [(⟨m.name, l⟩ : Tm)]).length ≤ 1000000) := by have := txt_len2 hok2.err hok2.sz; unfold Hid; omega
    have HSZ : Hid (((1 + sizeL l : Nat) : Int) = ((sizeL [(⟨m.name, l⟩ : Tm)] : Nat) : Int)) := by unfold Hid; simp [sizeL]
    obtain ⟨ae, ce, rfl, hse⟩ := SET.out.row.sl
    have HSE := hide hse
    have kd : Below wr.heap.size wr wr.drew := (Below.refl _ _).drew
    have KO := SET.out.out
    have S0 : Hid (wr.drew.cell? ⟨w.heap.size + 2, 0, none⟩ = some (.string m.name) ∧ wr.drew.cell? ⟨w.heap.size + 2, 1, none⟩ = some (.slice ae l.length ce)) := ⟨KO.cell 0, KO.cell 1⟩
    have KPS : Hid (∀ w' : World, w'.heap[w.heap.size + 2]? = wr.heap[w.heap.size + 2]? → w'.cell? ⟨w.heap.size + 2, 0, none⟩ = some (.string m.name) ∧ w'.cell? ⟨w.heap.size + 2, 1, none⟩ = some (.slice ae l.length ce)) := fun w' h1 => ⟨(World.cell?_of_block (a := ⟨w.heap.size + 2, 0, none⟩) h1).trans S0.out.1, (World.cell?_of_block (a := ⟨w.heap.size + 2, 1, none⟩) h1).trans S0.out.2⟩
    have HKO : Hid (w.heap.size + 2 < wr.heap.size) := KO.lt
    clear hgt hok2 hse KO r0 r1 r2 r3 rf rl
    rw [HSZ.out] at hgi ⊢
    obtain ⟨zz, hzz⟩ : ∃ zz : Int, zz = ((sizeL [(⟨m.name, l⟩ : Tm)] : Nat) : Int) := ⟨_, rfl⟩
    rw [← hzz] at hgi ⊢
    have HZZ := hide hzz
    clear hzz HSZ
    go_upto_region 13 with fail
    refine wp_region_held_drew (S := fun w' => w'.cell? ⟨w.heap.size + 2, 0, none⟩ = some (.string m.name) ∧ w'.cell? ⟨w.heap.size + 2, 1, none⟩ = some (.slice ae l.length ce)) (by kernel_rfl) S0.out (fun hHeld => ?_)
    refine tkq (v := ?_) 0 rfl ?_ ?_
    rotate_left
    ·intro w' hSw
     obtain ⟨x0, x1⟩ := hSw
     go_simp <;> with_reducible rfl
    try simp only [Act.put, sqA, sqB, sqC, sqD, sqE, sqF]
    refine tkq (v := ?_) 1 rfl ?_ ?_
    rotate_left
    ·intro w' hSw
     go_simp <;> with_reducible rfl
    try simp only [Act.put, sqA, sqB, sqC, sqD, sqE, sqF]
    refine tkq (v := ?_) 2 rfl ?_ ?_
    rotate_left
    ·intro w' hSw
     obtain ⟨x0, x1⟩ := hSw
     go_simp <;> with_reducible rfl
    try simp only [Act.put, sqA, sqB, sqC, sqD, sqE, sqF]
    refine rdq 3 rfl fun K hK => ?_
    go_simp
    go_at_call 83
    refine (ktext_any ⟨m.name, l⟩ _ _ (fun b => (b ≠ G ∧ b < w.heap.size) ∨ w.heap.size + 3 ≤ b) ⟨ae, ce, rfl, HSE.out.later kd⟩ HLN.out).mono ?_
    rintro e w6 ⟨rfl, hb6⟩
    have k6 : Below wr.heap.size wr w6 := kd.trans (hb6.mono kd.size)
    have SET6 := hide (SET.out.later k6)
    have SE6 := hide (HSE.out.later k6)
    clear hb6
    go_simp
    refine hK.out _ _ (by exact KPS.out _ (k6.block _ HKO.out)) (fun hHeld => ?_)
    clear hK K
    try simp only [Act.put, sqA, sqB, sqC, sqD, sqE, sqF]
    refine tkq (v := ?_) 4 rfl ?_ ?_
    rotate_left
    ·intro w' hSw
     go_simp <;> with_reducible rfl
    try simp only [Act.put, sqA, sqB, sqC, sqD, sqE, sqF]
    have r0 := SET6.out.kr.cell 0
    have r1 := SET6.out.kr.cell 1
    have r2 := SET6.out.kr.cell 2
    have r3 := SET6.out.kr.cell 3
    have rf := SET6.out.kr.frozen
    have rl := SET6.out.kr.lt
    have KS : Hid (∀ b, b ≠ w.heap.size + 1 → ((((w6.setCell ⟨w.heap.size + 1, 0, none⟩ (.string m.name)).setCell ⟨w.heap.size + 1, 1, none⟩ (.slice ae l.length ce)).setCell ⟨w.heap.size + 1, 2, none⟩ (.int .i64 zz)).setCell ⟨w.heap.size + 1, 3, none⟩ (.string ⟨(txtL [(⟨m.name, l⟩ : Tm)]).toArray⟩)).heap[b]? = w6.heap[b]?) := fun b hb => by rw [Below.heap_setCell _ _ _ _ (by simpa using hb), Below.heap_setCell _ _ _ _ (by simpa using hb), Below.heap_setCell _ _ _ _ (by simpa using hb), Below.heap_setCell _ _ _ _ (by simpa using hb)]
    refine rdq 5 rfl fun K hK => ?_
    go_simp
    refine hK.out _ _ (by exact KPS.out _ ((KS.out _ (by omega)).trans (k6.block _ HKO.out))) (fun hHeld => ?_)
    clear hK K
    try simp only [Act.put, sqA, sqB, sqC, sqD, sqE, sqF]
    refine wpAnyH_done (by kernel_rfl) ?_ _
    go_wp2_with fail
    refine bodyPost_ret (v := fdA m.name ae l.length ce zz (txB ⟨m.name, l⟩)) (by simp [results, Try.results68, go_sem, World.cell?_setCell_same, World.cell?_setCell_other, r0, r1, r2, r3, rl, fdA, txB]) rfl ?_
    rw [HR.out]
    refine ⟨_, _, _, _, _, _, rfl, ⟨rfl, rfl, HZZ.out, rfl, (SE6.out.kept fun b hb => KS.out b (by omega)).mono fun b hb _ => by omega⟩, (((SET6.out.bl.setCell (p := ⟨w.heap.size + 1, 0, none⟩) (by simp) _).setCell (p := ⟨w.heap.size + 1, 1, none⟩) (by simp) _).setCell (p := ⟨w.heap.size + 1, 2, none⟩) (by simp) _).setCell (p := ⟨w.heap.size + 1, 3, none⟩) (by simp) _⟩
theorem newM_eq (st : Fs) (m : Mv) : newM st m = if ahO (byM st m) (atF st m.to) = true then byM st m else none := by
 unfold newM
 cases byM st m with
 | none => simp [ahO]
 | some t =>
  cases atF st m.to with
  | none => simp [ahO]
  | some u => cases hag : agT t u <;> simp [ahO, hag]
theorem step_yes {st : Fs} {m : Mv} (h : ahO (byM st m) (atF st m.to) = true) : stepF st m = st.set m.to.toNat (byM st m) ∧ (newM st m).isSome = true := by
 have e := newM_eq st m
 rw [if_pos h] at e
 unfold stepF
 rw [e]
 cases hb : byM st m with
 | none => rw [hb] at h; simp [ahO] at h
 | some t => exact ⟨rfl, rfl⟩
theorem step_no {st : Fs} {m : Mv} (h : ahO (byM st m) (atF st m.to) = false) : stepF st m = st ∧ (newM st m).isSome = false := by
 have e := newM_eq st m
 rw [if_neg (by rw [h]; decide)] at e
 unfold stepF
 rw [e]
 exact ⟨rfl, rfl⟩
structure FoI (w : World) (n G : Nat) (ms : List Mv) (st0 : Fs) (ac : Array Value) (g : Nat) (q : Value) (wr : World) : Prop where
 ex : ∃ (st : Fs) (b : Bool), q = .bool b ∧ FsV wr G st ∧ OkF st ∧ st.length = n ∧ rkF 100000 st + b.toNat ≤ g ∧ (b = true → ∀ e, FinF ms st e → FinF ms st0 e) ∧ (b = false → FinF ms st0 st)
 bl : Below w.heap.size w wr
 bx : Blk wr w.heap.size ac 25
structure FoJ (w : World) (n G : Nat) (ms : List Mv) (st : Fs) (ac : Array Value) (q i : Value) (wr : World) : Prop where
 ex : ∃ k : Nat, k ≤ ms.length ∧ i = .int .i64 (k : Int) ∧ q = .bool (newsF st (ms.take k)) ∧ FsV wr G (passF st (ms.take k))
 bl : Below w.heap.size w wr
 bx : Blk wr w.heap.size ac 25
theorem okF_start (n : Nat) : OkF (List.replicate n none) := fun s t h => by
 unfold atF at h
 rw [List.getElem?_replicate] at h
 split at h <;> simp at h
def FoP (n : Nat) (ms : List Mv) (w : World) (e : Ending) (w' : World) : Prop := ∃ G st, e = .returned (.slice (some ⟨G, 0, none⟩) n n) ∧ FinF ms (List.replicate n none) st ∧ FsV w' G st ∧ OkF st ∧ st.length = n ∧ w.heap.size ≤ G ∧ Below w.heap.size w w'
set_option maxHeartbeats 4000000 in
theorem firstsOf_any (A : Au) (hA : OkAu 8 40 A) (n : Nat) (hn : A.st = (n : Int)) (va : Value) (w : World) (X : Nat → Prop) (hva : AV w X va A) :
  Calls Try.prog 43 #[va] w fun e w' => FoP n A.mv w e w' := by
 obtain ⟨am, cm, al, cl, rfl, hm, hla⟩ := hva
 rw [hn]
 have hn8 : n ≤ 8 := by have := hA.st; omega
 have hml := hm.1
 have HM := hide hm
 have HMV : Hid (∀ m ∈ A.mv, OkMv (n : Int) m) := fun m h => by rw [← hn]; exact hA.mv m h
 have B1 : Hid (Below w.heap.size w (w.alloc (.cells #[.int .i64 (n : Int), .slice am A.mv.length cm, .slice al A.la.length cl] 25))) := (Below.refl _ _).alloc (Nat.le_refl _) _
 have K1 : Hid (Blk (w.alloc (.cells #[.int .i64 (n : Int), .slice am A.mv.length cm, .slice al A.la.length cl] 25)) w.heap.size #[.int .i64 (n : Int), .slice am A.mv.length cm, .slice al A.la.length cl] 25) := Blk.new _ _ _
 have hmk := make_founds n (by omega)
 have c0 := K1.out.cell 0
 clear hm hla hA hn
 go_enter Try.func43, Try.ntmps43
 go_wp2_with fail
 have F2 := hide (FsV.start (w.alloc (.cells #[.int .i64 (n : Int), .slice am A.mv.length cm, .slice al A.la.length cl] 25)) n 0)
 have B2 := hide (B1.out.trans ((one1 (w.alloc (.cells #[.int .i64 (n : Int), .slice am A.mv.length cm, .slice al A.la.length cl] 25)) (.cells (madeCells #[.string ⟨#[]⟩, .slice none 0 0, .int .i64 0, .string ⟨#[]⟩] (n * 4)) 82)).mono B1.out.size))
 have K2 := hide (K1.out.alloc (.cells (madeCells #[.string ⟨#[]⟩, .slice none 0 0, .int .i64 0, .string ⟨#[]⟩] (n * 4)) 82))
 have HG : Hid (w.heap.size < (w.alloc (.cells #[.int .i64 (n : Int), .slice am A.mv.length cm, .slice al A.la.length cl] 25)).heap.size) := by unfold Hid; simp
 generalize (w.alloc (.cells #[.int .i64 (n : Int), .slice am A.mv.length cm, .slice al A.la.length cl] 25)).alloc (.cells (madeCells #[.string ⟨#[]⟩, .slice none 0 0, .int .i64 0, .string ⟨#[]⟩] (n * 4)) 82) = w2 at *
 obtain ⟨G, hG⟩ : ∃ G, G = (w.alloc (.cells #[.int .i64 (n : Int), .slice am A.mv.length cm, .slice al A.la.length cl] 25)).heap.size := ⟨_, rfl⟩
 have hG2 : w.heap.size + 1 = G := by rw [hG]; simp
 rw [← hG] at F2 HG
 try rw [← hG]
 try rw [hG2]
 clear hmk c0 hG hG2 B1 K1
 obtain ⟨st0, hst0⟩ : ∃ st0 : Fs, st0 = List.replicate n none := ⟨_, rfl⟩
 rw [← hst0] at F2
 have HST0 := hide hst0
 clear hst0
 go_loopg [4] (rkF 100000 st0 + 1) (fun g q wr => FoI w n G A.mv st0 #[.int .i64 (n : Int), .slice am A.mv.length cm, .slice al A.la.length cl] g q wr)
 case atStart => exact ⟨⟨st0, true, rfl, F2.out, by rw [HST0.out]; exact okF_start n, by rw [HST0.out]; simp, Nat.le_refl _, fun _ e h => h, fun h => by cases h⟩, B2.out, K2.out⟩
 case round =>
  obtain ⟨⟨st, b, rfl, hfs, hok, hln, hrk, hf1, hf2⟩, hbl, hbx⟩ := hrel
  have HFS := hide hfs
  have HOK := hide hok
  have HLN := hide hln
  have HRK := hide hrk
  have HF1 := hide hf1
  have HF2 := hide hf2
  have HBL := hide hbl
  have HBX := hide hbx
  clear hfs hok hln hrk hf1 hf2 hbl hbx
  cases b with
  | false =>
   go_wp2_with fail
   go_ret
   exact ⟨G, st, rfl, by rw [← HST0.out]; exact HF2.out (by trivial), HFS.out, HOK.out, HLN.out, Nat.le_of_lt HG.out, HBL.out⟩
  | true =>
   have x1 := HBX.out.cell 1
   go_wp2_with fail
   obtain ⟨w4, hw4⟩ : ∃ w4, w4 = wr := ⟨_, rfl⟩
   subst hw4
   clear x1
   go_loopw [4, 15] (fun q i wr => FoJ w n G A.mv st #[.int .i64 (n : Int), .slice am A.mv.length cm, .slice al A.la.length cl] q i wr) (fun q i wr => A.mv.length - (intOf i).toNat)
   case atStart => exact ⟨⟨0, Nat.zero_le _, rfl, rfl, HFS.out⟩, HBL.out, HBX.out⟩
   case round =>
    obtain ⟨⟨k, hk, rfl, rfl, hfs2⟩, hbl2, hbx2⟩ := hrel
    have FS := hide hfs2
    have BL := hide hbl2
    have BX := hide hbx2
    have OKK := hide (passF_ok (n := (n : Int)) (A.mv.take k) st HOK.out (fun m hm => HMV.out m (List.mem_of_mem_take hm)))
    have LNK : Hid ((passF st (A.mv.take k)).length = n) := by unfold Hid; rw [passF_len, HLN.out]
    clear hfs2 hbl2 hbx2
    by_cases hlt : k < A.mv.length
    ·have hki : (k : Int) < (A.mv.length : Int) := by omega
     obtain ⟨b, o, af, cf, rfl, hb, x0, x1, x2, hpv⟩ := HM.out.get BL.out k hlt
     have hmok := HMV.out A.mv[k] (List.getElem_mem hlt)
     have HMOK := hide hmok
     obtain ⟨s, hs⟩ : ∃ s : Nat, A.mv[k].to = (s : Int) := ⟨A.mv[k].to.toNat, by have := hmok.to.1; omega⟩
     have hsn : s < n := by have := hmok.to.2; omega
     have hsi : (s : Int) < (n : Int) := by omega
     have HPT := hide (passF_take (st := st) hlt)
     have HNT := hide (newsF_take (st := st) hlt)
     obtain ⟨sk, hsk⟩ : ∃ sk, sk = passF st (A.mv.take k) := ⟨_, rfl⟩
     obtain ⟨nw, hnw⟩ : ∃ nw, nw = newsF st (A.mv.take k) := ⟨_, rfl⟩
     rw [← hsk] at FS OKK LNK HPT HNT
     rw [← hnw] at HNT ⊢
     have hsl : s < sk.length := by rw [LNK.out]; exact hsn
     have HAT : Hid (atF sk A.mv[k].to = sk[s]) := by unfold Hid atF; rw [hs, Int.toNat_natCast, List.getElem?_eq_getElem hsl]; rfl
     have HSS := hide hs
     have FS3 := hide (FS.out.later (one1 wr (.cells #[.string A.mv[k].name, .slice af A.mv[k].frm.length cf, .int .i64 A.mv[k].to] 40)))
     have B3 := hide (BL.out.trans ((one1 wr (.cells #[.string A.mv[k].name, .slice af A.mv[k].frm.length cf, .int .i64 A.mv[k].to] 40)).mono BL.out.size))
     have X3 := hide (BX.out.alloc (.cells #[.string A.mv[k].name, .slice af A.mv[k].frm.length cf, .int .i64 A.mv[k].to] 40))
     have M3 : Hid (Blk (wr.alloc (.cells #[.string A.mv[k].name, .slice af A.mv[k].frm.length cf, .int .i64 A.mv[k].to] 40)) wr.heap.size #[.string A.mv[k].name, .slice af A.mv[k].frm.length cf, .int .i64 A.mv[k].to] 40) := Blk.new _ _ _
     have P3 := hide (hpv.later (one1 wr (.cells #[.string A.mv[k].name, .slice af A.mv[k].frm.length cf, .int .i64 A.mv[k].to] 40)))
     clear hpv hmok hs hsk hnw
     go_upto_region 8 with fail
     generalize (wr.alloc (.cells #[.string A.mv[k].name, .slice af A.mv[k].frm.length cf, .int .i64 A.mv[k].to] 40)) = w5 at *
     generalize wr.heap.size = D at *
     clear x0 x1 x2 FS BL BX
     have m0 := M3.out.cell 0
     have m1 := M3.out.cell 1
     have m2 := M3.out.cell 2
     go_wp2_with fail
     refine (firstBy_any sk n LNK.out OKK.out A.mv[k] HMOK.out (by omega) af cf G _ _ P3.out FS3.out).mono ?_
     rintro e w6 ⟨s1, a1, n1, c1, z1, u1, rfl, his, hb6⟩
     unfold fdA
     have FS7 := hide ((FS3.out.later hb6).later (one1 w6 (.cells #[.string s1, .slice a1 n1 c1, .int .i64 z1, .string u1] 82)))
     have B7 := hide ((B3.out.trans (hb6.mono B3.out.size)).trans ((one1 w6 (.cells #[.string s1, .slice a1 n1 c1, .int .i64 z1, .string u1] 82)).mono (Nat.le_trans B3.out.size hb6.size)))
     have X7 := hide ((X3.out.below hb6 X3.out.lt).alloc (.cells #[.string s1, .slice a1 n1 c1, .int .i64 z1, .string u1] 82))
     have M7 := hide ((M3.out.below hb6 M3.out.lt).alloc (.cells #[.string s1, .slice a1 n1 c1, .int .i64 z1, .string u1] 82))
     have E7 : Hid (Blk (w6.alloc (.cells #[.string s1, .slice a1 n1 c1, .int .i64 z1, .string u1] 82)) w6.heap.size #[.string s1, .slice a1 n1 c1, .int .i64 z1, .string u1] 82) := Blk.new _ _ _
     have I7 := hide (his.imp (w' := w6.alloc (.cells #[.string s1, .slice a1 n1 c1, .int .i64 z1, .string u1] 82)) (Z := fun b => b ≠ G) fun a l hs => hs.later (one1 w6 (.cells #[.string s1, .slice a1 n1 c1, .int .i64 z1, .string u1] 82)))
     clear his hb6 m0 m1 m2 FS3 B3 X3 M3 P3
     go_upto_region 9 with fail
     generalize (w6.alloc (.cells #[.string s1, .slice a1 n1 c1, .int .i64 z1, .string u1] 82)) = w7 at *
     generalize w6.heap.size = E at *
     obtain ⟨s2, a2, n2, c2, z2, u2, ⟨g0, g1, g2, g3⟩, gf, gis⟩ := FS7.out.get s hsl
     have GIS := hide gis
     have GF := hide gf
     have KP : Hid (∀ w', Below w7.heap.size w7 w' → (w'.cell? ⟨E, 0, none⟩ = some (.string s1) ∧ w'.cell? ⟨E, 1, none⟩ = some (.slice a1 n1 c1) ∧ w'.cell? ⟨E, 2, none⟩ = some (.int .i64 z1) ∧ w'.cell? ⟨E, 3, none⟩ = some (.string u1)) ∧ w'.cell? ⟨D, 2, none⟩ = some (.int .i64 (s : Int)) ∧ w'.cell? ⟨G, s * 4, none⟩ = some (.string s2) ∧ w'.cell? ⟨G, s * 4 + 1, none⟩ = some (.slice a2 n2 c2) ∧ w'.cell? ⟨G, s * 4 + 2, none⟩ = some (.int .i64 z2) ∧ w'.cell? ⟨G, s * 4 + 3, none⟩ = some (.string u2)) := fun w' hb =>
      ⟨⟨(E7.out.below hb E7.out.lt).cell 0, (E7.out.below hb E7.out.lt).cell 1, (E7.out.below hb E7.out.lt).cell 2, (E7.out.below hb E7.out.lt).cell 3⟩, by rw [← HSS.out]; exact (M7.out.below hb M7.out.lt).cell 2, cell_below3 hb g0, cell_below3 hb g1, cell_below3 hb g2, cell_below3 hb g3⟩
     have kd : Below w7.heap.size w7 w7.drew := (Below.refl _ _).drew
     clear g0 g1 g2 g3 gf gis
     refine wp_region_held_drew (S := Below w7.heap.size w7) (by kernel_rfl) kd (fun hHeld => ?_)
     refine tkq (v := ?_) 0 rfl ?_ ?_
     rotate_left
     ·intro w' hSw
      obtain ⟨⟨y0, y1, y2, y3⟩, y4, y5, y6, y7, y8⟩ := KP.out w' hSw
      go_simp <;> with_reducible rfl
     try simp only [Act.put, sqA, sqB, sqC, sqD, sqE, sqF]
     refine tkq (v := ?_) 1 rfl ?_ ?_
     rotate_left
     ·intro w' hSw
      go_simp <;> with_reducible rfl
     try simp only [Act.put, sqA, sqB, sqC, sqD, sqE, sqF]
     refine tkq (v := ?_) 2 rfl ?_ ?_
     rotate_left
     ·intro w' hSw
      go_simp <;> with_reducible rfl
     try simp only [Act.put, sqA, sqB, sqC, sqD, sqE, sqF]
     refine tkq (v := ?_) 3 rfl ?_ ?_
     rotate_left
     ·intro w' hSw
      obtain ⟨⟨y0, y1, y2, y3⟩, y4, y5, y6, y7, y8⟩ := KP.out w' hSw
      go_simp <;> with_reducible rfl
     try simp only [Act.put, sqA, sqB, sqC, sqD, sqE, sqF]
     refine tkq (v := ?_) 4 rfl ?_ ?_
     rotate_left
     ·intro w' hSw
      go_simp <;> with_reducible rfl
     try simp only [Act.put, sqA, sqB, sqC, sqD, sqE, sqF]
     refine tkq (v := ?_) 5 rfl ?_ ?_
     rotate_left
     ·intro w' hSw
      obtain ⟨⟨y0, y1, y2, y3⟩, y4, y5, y6, y7, y8⟩ := KP.out w' hSw
      go_simp <;> with_reducible rfl
     try simp only [Act.put, sqA, sqB, sqC, sqD, sqE, sqF]
     refine rdq 6 rfl fun K hK => ?_
     go_simp
     go_at_call 45
     refine (isAhead_any (byM sk A.mv[k]) sk[s] s1 s2 a1 a2 n1 n2 c1 c2 z1 z2 u1 u2 _ (fun b => b ≠ G) (fun b => b ≠ G) (I7.out.imp fun a l hs => hs.later kd) (GIS.out.imp fun a l hs => hs.later kd)).mono ?_
     rintro e w8 ⟨rfl, hb8⟩
     have k8 : Below w7.heap.size w7 w8 := kd.trans (hb8.mono kd.size)
     clear hb8
     go_simp
     refine hK.out _ _ (by exact k8) (fun hHeld => ?_)
     clear hK K
     try simp only [Act.put, sqA, sqB, sqC, sqD, sqE, sqF]
     refine wpAnyH_done (by kernel_rfl) ?_ _
     have FS8 := hide (FS7.out.later k8)
     have B8 := hide (B7.out.trans (k8.mono B7.out.size))
     have X8 := hide (X7.out.below k8 X7.out.lt)
     have I8 := hide (I7.out.imp (w' := w8) (Z := fun b => b ≠ G) fun a l hs => hs.later k8)
     obtain ⟨⟨y0, y1, y2, y3⟩, y4, y5, y6, y7, y8⟩ := KP.out w8 k8
     have gfr : ∀ j, w8.frozen? ⟨G, j, none⟩ = false := by
      obtain ⟨_, _, _, _, _, _, _, h, _⟩ := FS8.out.get s hsl
      exact h
     have hGl := FS8.out.lt
     cases hah : ahO (byM sk A.mv[k]) sk[s] with
     | true =>
      have h1 := step_yes (st := sk) (m := A.mv[k]) (by rw [HAT.out]; exact hah)
      have HST : Hid (stepF sk A.mv[k] = sk.set s (byM sk A.mv[k])) := by have h2 := h1.1; rw [HSS.out, Int.toNat_natCast] at h2; exact h2
      have HNW : Hid ((newM sk A.mv[k]).isSome = true) := h1.2
      have FS9 := hide (FS8.out.put hsl I8.out)
      clear hah h1
      go_wp2_with fail
      go_roundw
      case rel => exact ⟨⟨k + 1, by omega, by go_num, by rw [HNT.out, HNW.out, Bool.or_true], by rw [HPT.out, HST.out]; exact FS9.out⟩, (((B8.out.setCell (p := ⟨G, s * 4, none⟩) (Nat.le_of_lt HG.out) _).setCell (p := ⟨G, s * 4 + 1, none⟩) (Nat.le_of_lt HG.out) _).setCell (p := ⟨G, s * 4 + 2, none⟩) (Nat.le_of_lt HG.out) _).setCell (p := ⟨G, s * 4 + 3, none⟩) (Nat.le_of_lt HG.out) _, (((X8.out.setOther (b' := G) _ _ (by have := HG.out; omega)).setOther (b' := G) _ _ (by have := HG.out; omega)).setOther (b' := G) _ _ (by have := HG.out; omega)).setOther (b' := G) _ _ (by have := HG.out; omega)⟩
      case measure => simp [intOf]; omega
     | false =>
      have h1 := step_no (st := sk) (m := A.mv[k]) (by rw [HAT.out]; exact hah)
      have HST : Hid (stepF sk A.mv[k] = sk) := h1.1
      have HNW : Hid ((newM sk A.mv[k]).isSome = false) := h1.2
      clear hah h1
      go_wp2_with fail
      go_roundw
      case rel => exact ⟨⟨k + 1, by omega, by go_num, by rw [HNT.out, HNW.out, Bool.or_false], by rw [HPT.out, HST.out]; exact FS8.out⟩, B8.out, X8.out⟩
      case measure => simp [intOf]; omega
    ·have hki : ¬ (k : Int) < (A.mv.length : Int) := by omega
     have htk : A.mv.take k = A.mv := List.take_of_length_le (by omega)
     rw [htk] at FS OKK LNK ⊢
     have RK := passF_rank A.mv st HOK.out HLN.out HMV.out
     have HNX : Hid (newsF st A.mv = true → rkF 100000 (passF st A.mv) < rkF 100000 st) := RK.2
     have HNE : Hid (rkF 100000 (passF st A.mv) ≤ rkF 100000 st) := RK.1
     clear RK htk
     cases hnw : newsF st A.mv with
     | true =>
      have H1 := hide (HNX.out hnw)
      have HF : Hid (∀ e, FinF A.mv (passF st A.mv) e → FinF A.mv st0 e) := fun e h => HF1.out (by trivial) e (FinF.more hnw h)
      clear hnw
      go_wp2_with fail
      go_roundg (rkF 100000 (passF st A.mv) + 1)
      case rel => exact ⟨⟨passF st A.mv, true, rfl, FS.out, OKK.out, LNK.out, Nat.le_refl _, fun _ => HF.out, fun h => by cases h⟩, BL.out, BX.out⟩
      case measure => have h1 := H1.out; have h2 : rkF 100000 st + 1 ≤ gk := HRK.out; omega
     | false =>
      have HF : Hid (FinF A.mv st0 (passF st A.mv)) := HF1.out (by trivial) _ (FinF.done hnw)
      clear hnw
      go_wp2_with fail
      go_roundg (rkF 100000 (passF st A.mv))
      case rel => exact ⟨⟨passF st A.mv, false, rfl, FS.out, OKK.out, LNK.out, Nat.le_refl _, (fun h => by cases h), fun _ => HF.out⟩, BL.out, BX.out⟩
      case measure => have h1 := HNE.out; have h2 : rkF 100000 st + 1 ≤ gk := HRK.out; omega
def bstS (st : Fs) (acc : Option Tm) (s : Int) : Option Tm := if ahO (atF st s) acc = true then atF st s else acc
def bstF (st : Fs) (l : List Int) : Option Tm := l.foldl (bstS st) none
theorem bstF_take {st : Fs} {l : List Int} {k : Nat} (h : k < l.length) : bstF st (l.take (k + 1)) = bstS st (bstF st (l.take k)) l[k] := by
 unfold bstF; rw [List.take_succ_eq_append_getElem h, List.foldl_append]; rfl
def SmP (A : Au) (w : World) (e : Ending) (w' : World) : Prop := Below w.heap.size w w' ∧
 ((auE 8 40 A ≠ 0 ∧ e = .returned (.tuple #[.agg #[.string ⟨#[]⟩, .slice none 0 0], .int .i64 (auE 8 40 A)])) ∨
  (auE 8 40 A = 0 ∧ ∃ (n : Nat) (st : Fs), A.st = (n : Int) ∧ FinF A.mv (List.replicate n none) st ∧ OkF st ∧ st.length = n ∧
   ((bstF st (lastO A) = none ∧ e = .returned (.tuple #[.agg #[.string ⟨#[]⟩, .slice none 0 0], .int .i64 7])) ∨ ∃ t a c, bstF st (lastO A) = some t ∧ e = .returned (.tuple #[.agg #[.string t.name, .slice a t.args.length c], .int .i64 0]) ∧ Sl w' (fun _ => True) a t.args)))
structure SoI (w5 w6 : World) (C : Nat) (st : Fs) (l : List Int) (i : Value) (wr : World) : Prop where
 ex : ∃ (k : Nat) (s : ByteArray) (a : Option Addr) (n c : Nat) (z : Int) (u : ByteArray), k ≤ l.length ∧ i = .int .i64 (k : Int) ∧ Blk wr C #[.string s, .slice a n c, .int .i64 z, .string u] 82 ∧ FdIs wr (fun b => b < w5.heap.size) (bstF st (l.take k)) s a n c z u
 bl : ExQ (fun b => b = C) w6 wr
theorem bst_in {st : Fs} : ∀ (l : List Int) (acc : Option Tm) {t : Tm}, l.foldl (bstS st) acc = some t → acc = some t ∨ ∃ s ∈ l, atF st s = some t
 | [], acc, t, h => Or.inl h
 | s :: r, acc, t, h => by
  rcases bst_in r (bstS st acc s) h with h1 | ⟨x, hx, h1⟩
  ·unfold bstS at h1
   split at h1
   ·exact Or.inr ⟨s, by simp, h1⟩
   ·exact Or.inl h1
  ·exact Or.inr ⟨x, List.mem_cons_of_mem _ hx, h1⟩
theorem bst_sz {st : Fs} (h : OkF st) {l : List Int} {t : Tm} (e : bstF st l = some t) : sizeL [t] ≤ 2000 := by
 rcases bst_in l none e with h1 | ⟨s, _, h1⟩
 ·cases h1
 ·exact (h s t h1).sz
theorem lastO_st {A : Au} {n : Nat} (hn : A.st = (n : Int)) : ∀ s ∈ lastO A, 0 ≤ s ∧ s < (n : Int) := by
 intro s hs
 unfold lastO at hs
 obtain ⟨x, hx, rfl⟩ := List.mem_map.1 hs
 have := (List.mem_filter.1 hx).1
 rw [hn, Int.toNat_natCast] at this
 have := List.mem_range.1 this
 omega
set_option maxHeartbeats 4000000 in
theorem some_any (A : Au) (va : Value) (w : World) (X : Nat → Prop) (hva : AV w X va A) :
  Calls Try.prog 20 #[va] w fun e w' => SmP A w e w' := by
 obtain ⟨n, hst⟩ : ∃ n : Int, n = A.st := ⟨_, rfl⟩
 obtain ⟨am, cm, al, cl, rfl, hm, hla⟩ := hva
 have AVW : Hid (∀ w', Below w.heap.size w w' → AV w' X (.agg #[.int .i64 A.st, .slice am A.mv.length cm, .slice al A.la.length cl]) A) := fun w' hb => ⟨am, cm, al, cl, rfl, hm.later hb, hla.later hb⟩
 rw [← hst] at AVW ⊢
 have HST := hide hst
 clear hm hla hst
 have B2 : Hid (Below w.heap.size w ((w.alloc (.cells #[.int .i64 n, .slice am A.mv.length cm, .slice al A.la.length cl] 25)).alloc (.cells #[.string ⟨#[]⟩, .slice none 0 0] 30))) := ((Below.refl _ _).alloc (Nat.le_refl _) _).alloc (by simp) _
 have KA : Hid (Blk ((w.alloc (.cells #[.int .i64 n, .slice am A.mv.length cm, .slice al A.la.length cl] 25)).alloc (.cells #[.string ⟨#[]⟩, .slice none 0 0] 30)) w.heap.size #[.int .i64 n, .slice am A.mv.length cm, .slice al A.la.length cl] 25) := (Blk.new _ _ _).alloc _
 have KR : Hid (Blk ((w.alloc (.cells #[.int .i64 n, .slice am A.mv.length cm, .slice al A.la.length cl] 25)).alloc (.cells #[.string ⟨#[]⟩, .slice none 0 0] 30)) (w.heap.size + 1) #[.string ⟨#[]⟩, .slice none 0 0] 30) := by
  have h := Blk.new (w.alloc (.cells #[.int .i64 n, .slice am A.mv.length cm, .slice al A.la.length cl] 25)) #[.string ⟨#[]⟩, .slice none 0 0] 30
  rw [World.size_alloc] at h
  exact h
 have c0 := KA.out.cell 0
 have c1 := KA.out.cell 1
 have c2 := KA.out.cell 2
 go_enter Try.func20, Try.ntmps20
 go_wp2_with fail
 generalize ((w.alloc (.cells #[.int .i64 n, .slice am A.mv.length cm, .slice al A.la.length cl] 25)).alloc (.cells #[.string ⟨#[]⟩, .slice none 0 0] 30)) = w2 at *
 refine (aCheck_any A _ _ _ (AVW.out _ B2.out)).mono ?_
 rintro e w3 ⟨rfl, hb3⟩
 have B3 := hide (B2.out.trans (hb3.mono B2.out.size))
 have KA3 := hide (KA.out.below hb3 KA.out.lt)
 have KR3 := hide (KR.out.below hb3 KR.out.lt)
 clear hb3 c0 c1 c2 KA KR B2
 by_cases h0 : auE 8 40 A = 0
 ·have hz0 : (auE 8 40 A != 0) = false := by simp [h0]
  have H0 := hide h0
  have OK := auE_zero.1 h0
  obtain ⟨m, hm⟩ : ∃ m : Nat, A.st = (m : Int) := ⟨A.st.toNat, by have := OK.pos; omega⟩
  have HMN := hide hm
  have HOK := hide OK
  have hm8 : m ≤ 8 := by have := OK.st; omega
  clear h0 OK hm
  have c0 := KA3.out.cell 0
  have c1 := KA3.out.cell 1
  have c2 := KA3.out.cell 2
  go_wp2_with fail
  refine (firstsOf_any A HOK.out m HMN.out _ _ _ (AVW.out _ B3.out)).mono ?_
  rintro e w4 ⟨G, st, rfl, hfin, hfs, hokf, hln, hG, hb4⟩
  have B4 := hide (B3.out.trans (hb4.mono B3.out.size))
  have KA4 := hide ((KA3.out.below hb4 KA3.out.lt).alloc (.cells #[.string ⟨#[]⟩, .slice none 0 0, .int .i64 0, .string ⟨#[]⟩] 82))
  have KR4 := hide ((KR3.out.below hb4 KR3.out.lt).alloc (.cells #[.string ⟨#[]⟩, .slice none 0 0, .int .i64 0, .string ⟨#[]⟩] 82))
  have KC4 : Hid (Blk (w4.alloc (.cells #[.string ⟨#[]⟩, .slice none 0 0, .int .i64 0, .string ⟨#[]⟩] 82)) w4.heap.size #[.string ⟨#[]⟩, .slice none 0 0, .int .i64 0, .string ⟨#[]⟩] 82) := Blk.new _ _ _
  have O4 := hide (one1 w4 (.cells #[.string ⟨#[]⟩, .slice none 0 0, .int .i64 0, .string ⟨#[]⟩] 82))
  have FIN := hide hfin
  have FS := hide hfs
  have OKF := hide hokf
  have LN := hide hln
  have KRw : Hid (w.heap.size + 1 < w4.heap.size) := (KR3.out.below hb4 KR3.out.lt).lt
  clear hfin hfs hokf hln hb4 hG c0 c1 c2 KA3 KR3 B3
  go_upto_region 6 with fail
  generalize (w4.alloc (.cells #[.string ⟨#[]⟩, .slice none 0 0, .int .i64 0, .string ⟨#[]⟩] 82)) = w5 at *
  have c0 := KA4.out.cell 0
  have c1 := KA4.out.cell 1
  have c2 := KA4.out.cell 2
  obtain ⟨C, hC⟩ : ∃ C, C = w4.heap.size := ⟨_, rfl⟩
  rw [← hC] at KC4 ⊢
  have HC := hide hC
  have HC5 : Hid (C < w5.heap.size) := KC4.out.lt
  clear hC
  go_wp2_with fail
  refine (lastOnce_any A (by decide) HOK.out _ _ _ (AVW.out _ (B4.out.trans (O4.out.mono B4.out.size)))).mono ?_
  rintro e w6 ⟨ao, co, rfl, hpv, hb6⟩
  have B6 := hide (O4.out.trans (hb6.mono O4.out.size))
  have KC6 := hide (KC4.out.below hb6 KC4.out.lt)
  have KR6 := hide (KR4.out.below hb6 KR4.out.lt)
  have PVL := hide hpv
  have hll := hpv.len.1
  have HLS := hide (lastO_st HMN.out)
  obtain ⟨lo, hlo⟩ : ∃ lo, lo = lastO A := ⟨_, rfl⟩
  rw [← hlo] at PVL HLS hll ⊢
  have HLO := hide hlo
  clear hpv hb6 hlo c0 c1 c2
  go_wp2_with fail
  go_loopw [21] (fun i wr => SoI w4 w6 C st lo i wr) (fun i wr => lo.length - (intOf i).toNat)
  case atStart => exact ⟨⟨0, ⟨#[]⟩, none, 0, 0, 0, ⟨#[]⟩, Nat.zero_le _, rfl, KC6.out, ⟨rfl, rfl, rfl, rfl, rfl, rfl⟩⟩, ExQ.refl _ _⟩
  case round =>
   obtain ⟨⟨k, s1, a1, n1, c1, z1, u1, hk, rfl, hblk, his⟩, hex⟩ := hrel
   have BLK := hide hblk
   have IS := hide his
   have EX := hide hex
   have BL4 : Hid (Below w4.heap.size w4 wr) := by
    refine ⟨hex.os.trans B6.out.os, hex.tape.trans B6.out.tape, hex.output.trans B6.out.output, Nat.le_trans B6.out.size hex.size, fun b hb => ?_⟩
    rw [hex.block b (by have := B6.out.size; omega) (fun e => by have := HC.out; omega), B6.out.block b hb]
   clear hblk his hex
   by_cases hlt : k < lo.length
   ·have hki : (k : Int) < (lo.length : Int) := by omega
    have PVR := hide (pv_keptB PVL.out (w' := wr) fun b hy hl => EX.out.block b hl (fun e => by have := HC5.out; omega))
    obtain ⟨b, o, rfl, hb, hc⟩ := PVR.out.at (Below.refl wr.heap.size wr) k hlt
    obtain ⟨s, hs⟩ : ∃ s : Nat, lo[k] = (s : Int) := ⟨lo[k].toNat, by have := HLS.out lo[k] (List.getElem_mem hlt); omega⟩
    have hsm : s < m := by have := HLS.out lo[k] (List.getElem_mem hlt); omega
    have hsi : (s : Int) < (m : Int) := by omega
    have hsl : s < st.length := by rw [LN.out]; exact hsm
    have HAT : Hid (atF st lo[k] = st[s]) := by unfold Hid atF; rw [hs, Int.toNat_natCast, List.getElem?_eq_getElem hsl]; rfl
    have HTK := hide (bstF_take (st := st) hlt)
    obtain ⟨s2, a2, n2, c2, z2, u2, ⟨g0, g1, g2, g3⟩, _, gis⟩ := FS.out.get s hsl
    have GIS : Hid (∀ w', Below w4.heap.size w4 w' → FdIs w' (fun b => b < w4.heap.size) st[s] s2 a2 n2 c2 z2 u2) := fun w' hb' => gis.imp fun a l h => (h.mono (Y := fun b => b < w4.heap.size) fun b _ h2 => h2).later hb'
    have y0 := cell_below3 BL4.out g0
    have y1 := cell_below3 BL4.out g1
    have y2 := cell_below3 BL4.out g2
    have y3 := cell_below3 BL4.out g3
    rw [hs] at hc
    have D7 : Hid (Blk (wr.alloc (.cells #[.string s2, .slice a2 n2 c2, .int .i64 z2, .string u2] 82)) wr.heap.size #[.string s2, .slice a2 n2 c2, .int .i64 z2, .string u2] 82) := Blk.new _ _ _
    have C7 := hide (BLK.out.alloc (.cells #[.string s2, .slice a2 n2 c2, .int .i64 z2, .string u2] 82))
    have E7 := hide (EX.out.alloc (.cells #[.string s2, .slice a2 n2 c2, .int .i64 z2, .string u2] 82))
    have L7 := hide (BL4.out.trans ((one1 wr (.cells #[.string s2, .slice a2 n2 c2, .int .i64 z2, .string u2] 82)).mono BL4.out.size))
    have I7 := hide (IS.out.imp (w' := wr.alloc (.cells #[.string s2, .slice a2 n2 c2, .int .i64 z2, .string u2] 82)) (Z := fun b => b < w4.heap.size) fun a l h => h.later (one1 wr (.cells #[.string s2, .slice a2 n2 c2, .int .i64 z2, .string u2] 82)))
    clear g0 g1 g2 g3 gis hs BLK EX BL4 IS
    go_upto_region 10 with fail
    generalize (wr.alloc (.cells #[.string s2, .slice a2 n2 c2, .int .i64 z2, .string u2] 82)) = w7 at *
    generalize wr.heap.size = D at *
    clear y0 y1 y2 y3 hc
    have p0 := D7.out.cell 0
    have p1 := D7.out.cell 1
    have p2 := D7.out.cell 2
    have p3 := D7.out.cell 3
    have q0 := C7.out.cell 0
    have q1 := C7.out.cell 1
    have q2 := C7.out.cell 2
    have q3 := C7.out.cell 3
    go_wp2_with fail
    refine (isAhead_any st[s] (bstF st (lo.take k)) s2 s1 a2 a1 n2 n1 c2 c1 z2 z1 u2 u1 _ _ _ (GIS.out _ L7.out) I7.out).mono ?_
    rintro e w8 ⟨rfl, hb8⟩
    have D8 := hide (D7.out.below hb8 D7.out.lt)
    have C8 := hide (C7.out.below hb8 C7.out.lt)
    have E8 := hide (E7.out.trans (ExQ.ofBelow hb8))
    have L8 := hide (L7.out.trans (hb8.mono L7.out.size))
    have I8 := hide (I7.out.imp (w' := w8) (Z := fun b => b < w4.heap.size) fun a l h => h.later hb8)
    clear hb8 p0 p1 p2 p3 q0 q1 q2 q3 D7 C7 E7 L7 I7
    cases hah : ahO st[s] (bstF st (lo.take k)) with
    | true =>
     have HB : Hid (bstF st (lo.take (k + 1)) = st[s]) := by unfold Hid; rw [HTK.out, bstS, HAT.out, if_pos hah]
     clear hah
     have p0 := D8.out.cell 0
     have p1 := D8.out.cell 1
     have p2 := D8.out.cell 2
     have p3 := D8.out.cell 3
     have q0 := C8.out.cell 0
     have q1 := C8.out.cell 1
     have q2 := C8.out.cell 2
     have q3 := C8.out.cell 3
     have qf := C8.out.frozen
     have ql := C8.out.lt
     have KP : Hid (∀ b, b ≠ C → (((((w8.setCell ⟨C, 0, none⟩ (.string s2)).setCell ⟨C, 1, none⟩ (.slice a2 n2 c2)).setCell ⟨C, 2, none⟩ (.int .i64 z2)).setCell ⟨C, 3, none⟩ (.string u2))).heap[b]? = w8.heap[b]?) := fun b hb => by rw [Below.heap_setCell _ _ _ _ (by simpa using hb), Below.heap_setCell _ _ _ _ (by simpa using hb), Below.heap_setCell _ _ _ _ (by simpa using hb), Below.heap_setCell _ _ _ _ (by simpa using hb)]
     go_wp2_with fail
     go_roundw
     case rel => exact ⟨⟨k + 1, s2, a2, n2, c2, z2, u2, by omega, by go_num, (((C8.out.set 0 _).set 1 _).set 2 _).set 3 _, by rw [HB.out]; exact (GIS.out _ L8.out).imp fun a l h => h.kept fun b hb => KP.out b (by have := HC.out; omega)⟩, (((E8.out.set (B := C) rfl 0 _).set (B := C) rfl 1 _).set (B := C) rfl 2 _).set (B := C) rfl 3 _⟩
     case measure => simp [intOf]; omega
    | false =>
     have HB : Hid (bstF st (lo.take (k + 1)) = bstF st (lo.take k)) := by unfold Hid; rw [HTK.out, bstS, HAT.out, if_neg (by rw [hah]; decide)]
     clear hah
     go_wp2_with fail
     go_roundw
     case rel => exact ⟨⟨k + 1, s1, a1, n1, c1, z1, u1, by omega, by go_num, C8.out, by rw [HB.out]; exact I8.out⟩, E8.out⟩
     case measure => simp [intOf]; omega
   ·have hki : ¬ (k : Int) < (lo.length : Int) := by omega
    have htk : lo.take k = lo := List.take_of_length_le (by omega)
    rw [htk, HLO.out] at IS
    have BW := hide (B4.out.trans (BL4.out.mono B4.out.size))
    have KRr := hide (KR6.out.exq EX.out (fun e => by have := HC.out; have := KRw.out; omega))
    have q0 := BLK.out.cell 0
    have q1 := BLK.out.cell 1
    have q2 := BLK.out.cell 2
    have r0 := KRr.out.cell 0
    have r1 := KRr.out.cell 1
    have rf := KRr.out.frozen
    have rl := KRr.out.lt
    cases hbs : bstF st (lastO A) with
    | none =>
     rw [hbs] at IS
     obtain ⟨-, -, -, -, rfl, -⟩ := IS.out
     have HBS := hide hbs
     clear hbs
     go_wp2_with fail
     refine bodyPost_ret (v := .tuple #[.agg #[.string ⟨#[]⟩, .slice none 0 0], .int .i64 7]) (by simp [results, Try.results20, go_sem, World.cell?_setCell_same, World.cell?_setCell_other, r0, r1, rl]) rfl ?_
     exact ⟨(BW.out.setCell (p := ⟨w.heap.size + 1, 0, none⟩) (by simp) _).setCell (p := ⟨w.heap.size + 1, 1, none⟩) (by simp) _, Or.inr ⟨H0.out, m, st, HMN.out, FIN.out, OKF.out, LN.out, Or.inl ⟨HBS.out, rfl⟩⟩⟩
    | some t =>
     rw [hbs] at IS
     obtain ⟨rfl, rfl, rfl, rfl, hsl⟩ := IS.out
     have hz0 : ((sizeL [t] : Int) == 0) = false := by have := size_posF t; simpa using (by omega : ¬ (sizeL [t] : Int) = 0)
     have HBS := hide hbs
     have HSL := hide hsl
     have HZT : Hid (sizeL [t] ≤ 2000) := bst_sz OKF.out hbs
     clear hbs hsl
     go_wp2_with fail
     refine (copyOf_any t _ _ _ ⟨_, _, rfl, HSL.out⟩ (by have := HZT.out; omega)).mono ?_
     rintro e w9 ⟨v9, rfl, ⟨a9, c9, rfl, hs9⟩, hb9⟩
     have BW9 := hide (BW.out.trans (hb9.mono BW.out.size))
     have KR9 := hide (KRr.out.below hb9 KRr.out.lt)
     have S9 := hide hs9
     have KRl : Hid (w.heap.size + 1 < wr.heap.size) := KRr.out.lt
     clear hs9 hb9 q0 q1 q2 r0 r1 rf rl
     have r0 := KR9.out.cell 0
     have r1 := KR9.out.cell 1
     have rf := KR9.out.frozen
     have rl := KR9.out.lt
     go_wp2_with fail
     refine bodyPost_ret (v := .tuple #[.agg #[.string t.name, .slice a9 t.args.length c9], .int .i64 0]) (by simp [results, Try.results20, go_sem, World.cell?_setCell_same, World.cell?_setCell_other, r0, r1, rl]) rfl ?_
     exact ⟨(BW9.out.setCell (p := ⟨w.heap.size + 1, 0, none⟩) (by simp) _).setCell (p := ⟨w.heap.size + 1, 1, none⟩) (by simp) _, Or.inr ⟨H0.out, m, st, HMN.out, FIN.out, OKF.out, LN.out, Or.inr ⟨t, a9, c9, HBS.out, rfl, (S9.out.kept fun b hb => by have hne : b ≠ w.heap.size + 1 := (by have := KRl.out; omega); rw [Below.heap_setCell _ _ _ _ (by simpa using hne), Below.heap_setCell _ _ _ _ (by simpa using hne)]).mono fun _ _ _ => trivial⟩⟩⟩
 ·have hz0 : (auE 8 40 A != 0) = true := by simp [h0]
  have H0 := hide h0
  clear h0
  have r0 := KR3.out.cell 0
  have r1 := KR3.out.cell 1
  have rf := KR3.out.frozen
  have rl := KR3.out.lt
  go_wp2_with fail
  refine bodyPost_ret (v := .tuple #[.agg #[.string ⟨#[]⟩, .slice none 0 0], .int .i64 (auE 8 40 A)]) (by simp [results, Try.results20, go_sem, World.cell?_setCell_same, World.cell?_setCell_other, r0, r1, rl]) rfl ?_
  exact ⟨(B3.out.setCell (p := ⟨w.heap.size + 1, 0, none⟩) (by simp) _).setCell (p := ⟨w.heap.size + 1, 1, none⟩) (by simp) _, Or.inl ⟨H0.out, rfl⟩⟩
set_option maxHeartbeats 2000000 in
theorem lighter_any (t u : Tm) (ht : OkT t) (hu : OkT u) (vt vu : Value) (w : World) (X Y : Nat → Prop) (hvt : TV w X vt t) (hvu : TV w Y vu u) :
  Calls Try.prog 37 #[vt, vu] w fun e w' => e = .returned (.bool (agT t u)) ∧ Below w.heap.size w w' := by
 obtain ⟨a, c, rfl, hs⟩ := hvt
 obtain ⟨a', c', rfl, hs'⟩ := hvu
 have B2 : Hid (Below w.heap.size w ((w.alloc (.cells #[.string t.name, .slice a t.args.length c] 30)).alloc (.cells #[.string u.name, .slice a' u.args.length c'] 30))) := ((Below.refl _ _).alloc (Nat.le_refl _) _).alloc (by simp) _
 have KA : Hid (Blk ((w.alloc (.cells #[.string t.name, .slice a t.args.length c] 30)).alloc (.cells #[.string u.name, .slice a' u.args.length c'] 30)) w.heap.size #[.string t.name, .slice a t.args.length c] 30) := (Blk.new _ _ _).alloc _
 have KB : Hid (Blk ((w.alloc (.cells #[.string t.name, .slice a t.args.length c] 30)).alloc (.cells #[.string u.name, .slice a' u.args.length c'] 30)) (w.heap.size + 1) #[.string u.name, .slice a' u.args.length c'] 30) := by
  have h := Blk.new (w.alloc (.cells #[.string t.name, .slice a t.args.length c] 30)) #[.string u.name, .slice a' u.args.length c'] 30
  rw [World.size_alloc] at h
  exact h
 have VT : Hid (∀ w', Below w.heap.size w w' → TV w' X (.agg #[.string t.name, .slice a t.args.length c]) t) := fun w' hb => ⟨a, c, rfl, hs.later hb⟩
 have VU : Hid (∀ w', Below w.heap.size w w' → TV w' Y (.agg #[.string u.name, .slice a' u.args.length c']) u) := fun w' hb => ⟨a', c', rfl, hs'.later hb⟩
 have HT := hide ht
 have HU := hide hu
 clear hs hs' ht hu
 have c0 := KA.out.cell 0
 have c1 := KA.out.cell 1
 go_enter Try.func37, Try.ntmps37
 go_wp2_with fail
 generalize ((w.alloc (.cells #[.string t.name, .slice a t.args.length c] 30)).alloc (.cells #[.string u.name, .slice a' u.args.length c'] 30)) = w2 at *
 refine (size_any t _ 2000 _ _ (VT.out _ B2.out) (by omega) (by omega)).mono ?_
 rintro e w3 ⟨rfl, hb3⟩
 have B3 := hide (B2.out.trans (hb3.mono B2.out.size))
 have KA3 := hide (KA.out.below hb3 KA.out.lt)
 have KB3 := hide (KB.out.below hb3 KB.out.lt)
 have e1 : min ((sizeL [t] : Nat) : Int) (2000 + 1) = ((sizeL [t] : Nat) : Int) := by have := HT.out.sz; omega
 rw [e1]
 clear hb3 c0 c1 e1 KA KB B2
 have d0 := KB3.out.cell 0
 have d1 := KB3.out.cell 1
 go_wp2_with fail
 refine (size_any u _ 2000 _ _ (VU.out _ B3.out) (by omega) (by omega)).mono ?_
 rintro e w4 ⟨rfl, hb4⟩
 have B4 := hide (B3.out.trans (hb4.mono B3.out.size))
 have KA4 := hide (KA3.out.below hb4 KA3.out.lt)
 have KB4 := hide (KB3.out.below hb4 KB3.out.lt)
 have e2 : min ((sizeL [u] : Nat) : Int) (2000 + 1) = ((sizeL [u] : Nat) : Int) := by have := HU.out.sz; omega
 rw [e2]
 clear hb4 d0 d1 e2 KA3 KB3 B3
 by_cases he : sizeL [t] = sizeL [u]
 ·have h3 : ((sizeL [t] : Int) != (sizeL [u] : Int)) = false := by simpa using (by omega : (sizeL [t] : Int) = (sizeL [u] : Int))
  have HA : Hid (agT t u = Op.bytesLess (txtL [t]) (txtL [u])) := by unfold Hid agT; rw [if_pos he]; simp [ltB, txB]
  have HLT : Hid ((txtL [t]).length ≤ 1000000) := by have := txt_len2 HT.out.err HT.out.sz; unfold Hid; omega
  have HLU : Hid ((txtL [u]).length ≤ 1000000) := by have := txt_len2 HU.out.err HU.out.sz; unfold Hid; omega
  have KP : Hid (∀ w', Below w4.heap.size w4 w' → (w'.cell? ⟨w.heap.size, 0, none⟩ = some (.string t.name) ∧ w'.cell? ⟨w.heap.size, 1, none⟩ = some (.slice a t.args.length c)) ∧ w'.cell? ⟨w.heap.size + 1, 0, none⟩ = some (.string u.name) ∧ w'.cell? ⟨w.heap.size + 1, 1, none⟩ = some (.slice a' u.args.length c')) := fun w' hb =>
   ⟨⟨(KA4.out.below hb KA4.out.lt).cell 0, (KA4.out.below hb KA4.out.lt).cell 1⟩, (KB4.out.below hb KB4.out.lt).cell 0, (KB4.out.below hb KB4.out.lt).cell 1⟩
  have UP : Hid (∀ w', Below w4.heap.size w4 w' → Below w.heap.size w w') := fun w' hb => B4.out.trans (hb.mono B4.out.size)
  have kd : Below w4.heap.size w4 w4.drew := (Below.refl _ _).drew
  clear he
  go_upto_region 5 with fail
  refine wp_region_held_drew (S := Below w4.heap.size w4) (by kernel_rfl) kd (fun hHeld => ?_)
  refine tkq (v := ?_) 0 rfl ?_ ?_
  rotate_left
  ·intro w' hSw
   obtain ⟨⟨x0, x1⟩, x2, x3⟩ := KP.out w' hSw
   go_simp <;> with_reducible rfl
  try simp only [Act.put, sqA, sqB, sqC, sqD, sqE, sqF]
  refine tkq (v := ?_) 2 rfl ?_ ?_
  rotate_left
  ·intro w' hSw
   obtain ⟨⟨x0, x1⟩, x2, x3⟩ := KP.out w' hSw
   go_simp <;> with_reducible rfl
  try simp only [Act.put, sqA, sqB, sqC, sqD, sqE, sqF]
  refine rdq 1 rfl fun K hK => ?_
  go_simp
  go_at_call 62
  refine (show_any t _ _ _ (VT.out _ (UP.out _ kd)) HLT.out).mono ?_
  rintro e w5 ⟨rfl, hb5⟩
  have k5 : Below w4.heap.size w4 w5 := kd.trans (hb5.mono kd.size)
  clear hb5
  go_simp
  refine hK.out _ _ (by exact k5) (fun hHeld => ?_)
  clear hK K
  try simp only [Act.put, sqA, sqB, sqC, sqD, sqE, sqF]
  refine rdq 3 rfl fun K hK => ?_
  go_simp
  go_at_call 62
  refine (show_any u _ _ _ (VU.out _ (UP.out _ k5)) HLU.out).mono ?_
  rintro e w6 ⟨rfl, hb6⟩
  have k6 : Below w4.heap.size w4 w6 := k5.trans (hb6.mono k5.size)
  clear hb6
  go_simp
  refine hK.out _ _ (by exact k6) (fun hHeld => ?_)
  clear hK K
  try simp only [Act.put, sqA, sqB, sqC, sqD, sqE, sqF]
  refine tkq (v := ?_) 4 rfl ?_ ?_
  rotate_left
  ·intro w' hSw
   go_simp <;> with_reducible rfl
  try simp only [Act.put, sqA, sqB, sqC, sqD, sqE, sqF]
  refine tkq (v := ?_) 5 rfl ?_ ?_
  rotate_left
  ·intro w' hSw
   go_simp <;> with_reducible rfl
  try simp only [Act.put, sqA, sqB, sqC, sqD, sqE, sqF]
  refine wpAnyH_done (by kernel_rfl) ?_ _
  go_wp2_with fail
  go_ret
  exact ⟨by rw [HA.out]; rfl, UP.out _ k6⟩
 ·have h3 : ((sizeL [t] : Int) != (sizeL [u] : Int)) = true := by simpa using (by omega : ¬ (sizeL [t] : Int) = (sizeL [u] : Int))
  have HA : Hid (agT t u = decide (sizeL [t] < sizeL [u])) := by unfold Hid agT; rw [if_neg he]
  clear he
  go_wp2_with fail
  go_ret
  exact ⟨by rw [HA.out]; rfl, B4.out⟩
def TdIs (w : World) (Y : Nat → Prop) : Option Tm → ByteArray → Option Addr → Nat → Nat → Prop
 | none, s, a, n, c => s = ⟨#[]⟩ ∧ a = none ∧ n = 0 ∧ c = 0
 | some t, s, a, n, c => s = t.name ∧ n = t.args.length ∧ Sl w Y a t.args
theorem TdIs.imp {w w' : World} {Y Z : Nat → Prop} {x : Option Tm} {s : ByteArray} {a : Option Addr} {n c : Nat} (h : TdIs w Y x s a n c) (hk : ∀ a l, Sl w Y a l → Sl w' Z a l) : TdIs w' Z x s a n c := by
 cases x with
 | none => exact h
 | some t => exact ⟨h.1, h.2.1, hk _ _ h.2.2⟩
structure DoV (w : World) (H B : Nat) (st : Fs) : Prop where
 hv : ∃ cs : Array Value, Blk w H cs 4 ∧ ∀ (i : Nat) (h : i < st.length), cs[i]? = some (.bool st[i].isSome)
 bs : ∃ cs : Array Value, Blk w B cs 30 ∧ ∀ (i : Nat) (h : i < st.length), ∃ s a n c, cs[i * 2]? = some (.string s) ∧ cs[i * 2 + 1]? = some (.slice a n c) ∧ TdIs w (fun b => H < b ∧ B < b) st[i] s a n c
 ne : H ≠ B
theorem DoV.later {w w' : World} {H B : Nat} {st : Fs} (h : DoV w H B st) (hb : Below w.heap.size w w') : DoV w' H B st := by
 obtain ⟨⟨cs, h1, h2⟩, ⟨ds, h3, h4⟩, h5⟩ := h
 refine ⟨⟨cs, h1.below hb h1.lt, h2⟩, ⟨ds, h3.below hb h3.lt, fun i hi => ?_⟩, h5⟩
 obtain ⟨s, a, n, c, e0, e1, e2⟩ := h4 i hi
 exact ⟨s, a, n, c, e0, e1, e2.imp fun a l hs => hs.later hb⟩
theorem DoV.get {w : World} {H B : Nat} {st : Fs} (h : DoV w H B st) (i : Nat) (hi : i < st.length) : ∃ s a n c, (w.cell? ⟨H, i, none⟩ = some (.bool st[i].isSome) ∧ w.cell? ⟨B, i * 2, none⟩ = some (.string s) ∧ w.cell? ⟨B, i * 2 + 1, none⟩ = some (.slice a n c)) ∧ ((∀ j, w.frozen? ⟨H, j, none⟩ = false) ∧ (∀ j, w.frozen? ⟨B, j, none⟩ = false) ∧ H < w.heap.size ∧ B < w.heap.size) ∧ TdIs w (fun b => H < b ∧ B < b) st[i] s a n c := by
 obtain ⟨⟨cs, h1, h2⟩, ⟨ds, h3, h4⟩, h5⟩ := h
 obtain ⟨s, a, n, c, e0, e1, e2⟩ := h4 i hi
 exact ⟨s, a, n, c, ⟨(h1.cell _).trans (h2 i hi), (h3.cell _).trans e0, (h3.cell _).trans e1⟩, ⟨h1.frozen, h3.frozen, h1.lt, h3.lt⟩, e2⟩
def setD (w : World) (H B i : Nat) (s : ByteArray) (a : Option Addr) (n c : Nat) : World := ((w.setCell ⟨H, i, none⟩ (.bool true)).setCell ⟨B, i * 2, none⟩ (.string s)).setCell ⟨B, i * 2 + 1, none⟩ (.slice a n c)
theorem setD_heap {w : World} {H B i : Nat} {s : ByteArray} {a : Option Addr} {n c : Nat} {b : Nat} (h : b ≠ H) (h2 : b ≠ B) : (setD w H B i s a n c).heap[b]? = w.heap[b]? := by
 unfold setD
 rw [Below.heap_setCell _ _ _ _ (by simpa using h2), Below.heap_setCell _ _ _ _ (by simpa using h2), Below.heap_setCell _ _ _ _ (by simpa using h)]
theorem DoV.put {w : World} {H B : Nat} {st : Fs} (h : DoV w H B st) {i : Nat} (hi : i < st.length) {t : Tm} {a : Option Addr} {c : Nat} (hx : Sl w (fun b => H < b ∧ B < b) a t.args) : DoV (setD w H B i t.name a t.args.length c) H B (st.set i (some t)) := by
 obtain ⟨⟨cs, h1, h2⟩, ⟨ds, h3, h4⟩, h5⟩ := h
 have keep : ∀ a' l, Sl w (fun b => H < b ∧ B < b) a' l → Sl (setD w H B i t.name a t.args.length c) (fun b => H < b ∧ B < b) a' l := fun a' l hs => hs.kept fun b hb => setD_heap (by omega) (by omega)
 refine ⟨⟨_, ((h1.set i (.bool true)).setOther (b' := B) (i * 2) (.string t.name) h5).setOther (b' := B) (i * 2 + 1) (.slice a t.args.length c) h5, fun j hj => ?_⟩, ⟨_, ((h3.setOther (b' := H) i (.bool true) (fun e => h5 e.symm)).set (i * 2) (.string t.name)).set (i * 2 + 1) (.slice a t.args.length c), fun j hj => ?_⟩, h5⟩
 ·have hj' : j < st.length := by simpa using hj
  have b0 := (Array.getElem?_eq_some_iff.1 (h2 j hj')).1
  rw [Array.getElem?_setIfInBounds]
  by_cases e : i = j
  ·subst e; simp [b0]
  ·rw [if_neg e, List.getElem_set_ne e]; exact h2 j hj'
 ·have hj' : j < st.length := by simpa using hj
  obtain ⟨s', a', n', c', e0, e1, e2⟩ := h4 j hj'
  by_cases e : i = j
  ·subst e
   have b0 := (Array.getElem?_eq_some_iff.1 e0).1
   have b1 := (Array.getElem?_eq_some_iff.1 e1).1
   refine ⟨t.name, a, t.args.length, c, ?_, ?_, ?_⟩
   ·simp [Array.getElem?_setIfInBounds, b0]
   ·simp [Array.getElem?_setIfInBounds, b1]
   ·rw [List.getElem_set_self]; exact ⟨rfl, rfl, keep _ _ hx⟩
  ·refine ⟨s', a', n', c', ?_, ?_, ?_⟩
   ·rw [← e0]; simp only [Array.getElem?_setIfInBounds, Array.size_setIfInBounds]; repeat rw [if_neg (by omega)]
   ·rw [← e1]; simp only [Array.getElem?_setIfInBounds, Array.size_setIfInBounds]; repeat rw [if_neg (by omega)]
   ·rw [List.getElem_set_ne e]; exact e2.imp keep
theorem make_termsA (n : Nat) (hn : n ≤ 20000) (w : World) : (Instr.makeSlice 28 (.int .i64 (n : Int)) (.int .i64 (n : Int))).run Try.prog w = .ok (.slice (some ⟨w.heap.size, 0, none⟩) n n) (w.alloc (.cells (madeCells #[.string ⟨#[]⟩, .slice none 0 0] (n * 2)) 30)) := by
 obtain ⟨i0, hi, hz0, hz1, hz2⟩ := info_parts Try.infoTerm
 have hr := run_make (P := Try.prog) w 28 30 i0 _ Try.underlying28 hi hz0 .i64 .i64 n n (by omega) (by omega) (by rw [hz2]; omega) (by omega)
 rw [hz1] at hr
 simp only [Int.toNat_natCast] at hr
 exact hr
theorem DoV.start (w : World) (n : Nat) : DoV ((w.alloc (.cells (Array.replicate n (Value.bool false)) 4)).alloc (.cells (madeCells #[.string ⟨#[]⟩, .slice none 0 0] (n * 2)) 30)) w.heap.size (w.heap.size + 1) (List.replicate n none) := by
 have hB := Blk.new (w.alloc (.cells (Array.replicate n (Value.bool false)) 4)) (madeCells #[.string ⟨#[]⟩, .slice none 0 0] (n * 2)) 30
 rw [World.size_alloc] at hB
 refine ⟨⟨_, (Blk.new w (Array.replicate n (Value.bool false)) 4).alloc _, fun i hi => ?_⟩, ⟨_, hB, fun i hi => ?_⟩, by omega⟩
 ·have hi' : i < n := by simpa using hi
  rw [List.getElem_replicate]
  simp [hi']
 ·have hi' : i < n := by simpa using hi
  refine ⟨⟨#[]⟩, none, 0, 0, ?_, ?_, ?_⟩
  ·rw [made_get _ _ _ (by omega)]
   have : i * 2 % 2 = 0 := by omega
   simp [this]
  ·rw [made_get _ _ _ (by omega)]
   have : (i * 2 + 1) % 2 = 1 := by omega
   simp [this]
  ·rw [List.getElem_replicate]; exact ⟨rfl, rfl, rfl, rfl⟩
end Go.Proofs.Ytofebfjkodceeaa
