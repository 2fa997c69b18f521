/- First terms in memory (auto.found); isAhead, firstBy. -/
import Derived.Test.YtdencaekailmcaaAv7
import Derived.Test.YtdencaekailmcaaL4
namespace Go.Proofs.Ytdencaekailmcaa
open Go.RowKit
set_option linter.unusedSimpArgs false
set_option linter.unusedVariables false
set_option maxRecDepth 8000

/-- These values tell of a term, or of none. -/
def FdIs (w : World) (Y : Nat → Prop) : Option Tm → ByteArray → Option Addr → Nat → Nat → Int → ByteArray → Prop
  | none, s, a, n, c, z, u => s = ⟨#[]⟩ ∧ a = none ∧ n = 0 ∧ c = 0 ∧ z = 0 ∧ u = ⟨#[]⟩
  | some t, s, a, n, c, z, u => s = t.name ∧ n = t.args.length ∧ z = (sizeL [t] : Int) ∧ u = txB t ∧ Sl w Y a t.args
def fdA (s : ByteArray) (a : Option Addr) (n c : Nat) (z : Int) (u : ByteArray) : Value := .agg #[.string s, .slice a n c, .int .i64 z, .string u]
theorem FdIs.imp {w w' : World} {Y Z : Nat → Prop} {x : Option Tm} {s : ByteArray} {a : Option Addr} {n c : Nat} {z : Int} {u : ByteArray} (h : FdIs w Y x s a n c z u) (hk : ∀ a l, Sl w Y a l → Sl w' Z a l) : FdIs w' Z x s a n c z u := by
  cases x with
  | none => exact h
  | some t => exact ⟨h.1, h.2.1, h.2.2.1, h.2.2.2.1, hk _ _ h.2.2.2.2⟩
/-- The row of them. -/
structure FsV (w : World) (G : Nat) (st : Fs) : Prop where
  ex : ∃ cs : Array Value, Blk w G cs 73 ∧ ∀ (i : Nat) (h : i < st.length), ∃ s a n c z u, cs[i * 4]? = some (.string s) ∧ cs[i * 4 + 1]? = some (.slice a n c) ∧ cs[i * 4 + 2]? = some (.int .i64 z) ∧ cs[i * 4 + 3]? = some (.string u) ∧ FdIs w (fun b => b ≠ G) st[i] s a n c z u
theorem FsV.lt {w : World} {G : Nat} {st : Fs} (h : FsV w G st) : G < w.heap.size := by
  obtain ⟨cs, hb, _⟩ := h.ex
  exact hb.lt
theorem FsV.later {w w' : World} {G : Nat} {st : Fs} (h : FsV w G st) (hb : Below w.heap.size w w') : FsV w' G st := by
  obtain ⟨cs, hB, h1⟩ := h.ex
  refine ⟨cs, hB.below hb hB.lt, fun i hi => ?_⟩
  obtain ⟨s, a, n, c, z, u, e0, e1, e2, e3, e4⟩ := h1 i hi
  exact ⟨s, a, n, c, z, u, e0, e1, e2, e3, e4.imp fun a l hs => hs.later hb⟩
theorem FsV.get {w : World} {G : Nat} {st : Fs} (h : FsV w G st) (i : Nat) (hi : i < st.length) : ∃ s a n c z u, (w.cell? ⟨G, i * 4, none⟩ = some (.string s) ∧ w.cell? ⟨G, i * 4 + 1, none⟩ = some (.slice a n c) ∧ w.cell? ⟨G, i * 4 + 2, none⟩ = some (.int .i64 z) ∧ w.cell? ⟨G, i * 4 + 3, none⟩ = some (.string u)) ∧ (∀ j, w.frozen? ⟨G, j, none⟩ = false) ∧ FdIs w (fun b => b ≠ G) st[i] s a n c z u := by
  obtain ⟨cs, hB, h1⟩ := h.ex
  obtain ⟨s, a, n, c, z, u, e0, e1, e2, e3, e4⟩ := h1 i hi
  exact ⟨s, a, n, c, z, u, ⟨(hB.cell _).trans e0, (hB.cell _).trans e1, (hB.cell _).trans e2, (hB.cell _).trans e3⟩, hB.frozen, e4⟩
def setF (w : World) (G i : Nat) (s : ByteArray) (a : Option Addr) (n c : Nat) (z : Int) (u : ByteArray) : World := (((w.setCell ⟨G, i * 4, none⟩ (.string s)).setCell ⟨G, i * 4 + 1, none⟩ (.slice a n c)).setCell ⟨G, i * 4 + 2, none⟩ (.int .i64 z)).setCell ⟨G, i * 4 + 3, none⟩ (.string u)
theorem setF_heap {w : World} {G i : Nat} {s : ByteArray} {a : Option Addr} {n c : Nat} {z : Int} {u : ByteArray} {b : Nat} (h : b ≠ G) : (setF w G i s a n c z u).heap[b]? = w.heap[b]? := by
  unfold setF
  rw [Below.heap_setCell _ _ _ _ (by simpa using h), Below.heap_setCell _ _ _ _ (by simpa using h), Below.heap_setCell _ _ _ _ (by simpa using h), Below.heap_setCell _ _ _ _ (by simpa using h)]
theorem FsV.put {w : World} {G : Nat} {st : Fs} (h : FsV w G st) {i : Nat} (hi : i < st.length) {x : Option Tm} {s : ByteArray} {a : Option Addr} {n c : Nat} {z : Int} {u : ByteArray} (hx : FdIs w (fun b => b ≠ G) x s a n c z u) : FsV (setF w G i s a n c z u) G (st.set i x) := by
  obtain ⟨cs, hB, h1⟩ := h.ex
  have keep : ∀ a' l, Sl w (fun b => b ≠ G) a' l → Sl (setF w G i s a n c z u) (fun b => b ≠ G) a' l := fun a' l hs => hs.kept fun b hb => setF_heap hb
  refine ⟨_, (((hB.set (i * 4) (.string s)).set (i * 4 + 1) (.slice a n c)).set (i * 4 + 2) (.int .i64 z)).set (i * 4 + 3) (.string u), fun j hj => ?_⟩
  have hj' : j < st.length := by simpa using hj
  obtain ⟨s', a', n', c', z', u', e0, e1, e2, e3, e4⟩ := h1 j hj'
  by_cases e : i = j
  · subst e
    have b0 := (Array.getElem?_eq_some_iff.1 e0).1
    have b1 := (Array.getElem?_eq_some_iff.1 e1).1
    have b2 := (Array.getElem?_eq_some_iff.1 e2).1
    have b3 := (Array.getElem?_eq_some_iff.1 e3).1
    refine ⟨s, a, n, c, z, u, ?_, ?_, ?_, ?_, ?_⟩
    · simp [Array.getElem?_setIfInBounds, b0]
    · simp [Array.getElem?_setIfInBounds, b1]
    · simp [Array.getElem?_setIfInBounds, b2]
    · simp [Array.getElem?_setIfInBounds, b3]
    · rw [List.getElem_set_self]; exact hx.imp keep
  · refine ⟨s', a', n', c', z', u', ?_, ?_, ?_, ?_, ?_⟩
    · rw [← e0]; simp only [Array.getElem?_setIfInBounds, Array.size_setIfInBounds]; repeat rw [if_neg (by omega)]
    · rw [← e1]; simp only [Array.getElem?_setIfInBounds, Array.size_setIfInBounds]; repeat rw [if_neg (by omega)]
    · rw [← e2]; simp only [Array.getElem?_setIfInBounds, Array.size_setIfInBounds]; repeat rw [if_neg (by omega)]
    · rw [← e3]; simp only [Array.getElem?_setIfInBounds, Array.size_setIfInBounds]; repeat rw [if_neg (by omega)]
    · rw [List.getElem_set_ne e]; exact e4.imp keep
theorem made_get (z : Array Value) (n k : Nat) (h : k < n) : (madeCells z n)[k]? = some (z[k % z.size]!) := by
  unfold madeCells
  rw [Array.getElem?_map, Array.getElem?_range]
  simp [h]
theorem Try.infoFound : (Try.prog.info? 73).map (fun i => (i.zero, i.size, i.bytes)) = some (some (.agg #[.string ⟨#[]⟩, .slice none 0 0, .int .i64 0, .string ⟨#[]⟩]), 4, 64) := by kernel_rfl
/-- All are none. -/
theorem FsV.start (w : World) (n : Nat) (T : Nat) : FsV (w.alloc (.cells (madeCells #[.string ⟨#[]⟩, .slice none 0 0, .int .i64 0, .string ⟨#[]⟩] (n * 4)) 73)) w.heap.size (List.replicate n none) := by
  refine ⟨_, Blk.new _ _ _, fun i hi => ?_⟩
  have hi' : i < n := by simpa using hi
  refine ⟨⟨#[]⟩, none, 0, 0, 0, ⟨#[]⟩, ?_, ?_, ?_, ?_, ?_⟩
  · rw [made_get _ _ _ (by omega)]
    have : i * 4 % 4 = 0 := by omega
    simp [this]
  · rw [made_get _ _ _ (by omega)]
    have : (i * 4 + 1) % 4 = 1 := by omega
    simp [this]
  · rw [made_get _ _ _ (by omega)]
    have : (i * 4 + 2) % 4 = 2 := by omega
    simp [this]
  · rw [made_get _ _ _ (by omega)]
    have : (i * 4 + 3) % 4 = 3 := by omega
    simp [this]
  · rw [List.getElem_replicate]; exact ⟨rfl, rfl, rfl, rfl, rfl, rfl⟩
theorem make_founds (n : Nat) (hn : n ≤ 20000) (w : World) : (Instr.makeSlice 70 (.int .i64 (n : Int)) (.int .i64 (n : Int))).run Try.prog w = .ok (.slice (some ⟨w.heap.size, 0, none⟩) n n) (w.alloc (.cells (madeCells #[.string ⟨#[]⟩, .slice none 0 0, .int .i64 0, .string ⟨#[]⟩] (n * 4)) 73)) := by
  obtain ⟨i0, hi, hz0, hz1, hz2⟩ := info_parts Try.infoFound
  have hr := run_make (P := Try.prog) w 70 73 i0 _ Try.underlying70 hi hz0 .i64 .i64 n n (by omega) (by omega) (by rw [hz2]; omega) (by omega)
  rw [hz1] at hr
  simp only [Int.toNat_natCast] at hr
  exact hr
/-- The one is ahead of the other. -/
def ahO : Option Tm → Option Tm → Bool
  | none, _ => false
  | some _, none => true
  | some t, some u => agT t u
theorem size_posF (t : Tm) : 0 < sizeL [t] := by obtain ⟨_, _⟩ := t; simp [sizeL]; omega

set_option maxHeartbeats 2000000 in
theorem isAhead_any (x y : Option Tm) (s s' : ByteArray) (a a' : Option Addr) (n n' c c' : Nat) (z z' : Int) (u u' : ByteArray) (w : World) (Y Y' : Nat → Prop) (hx : FdIs w Y x s a n c z u) (hy : FdIs w Y' y s' a' n' c' z' u') :
    Calls Try.prog 35 #[fdA s a n c z u, fdA s' a' n' c' z' u'] w fun e w' => e = .returned (.bool (ahO x y)) ∧ Below w.heap.size w w' := by
  unfold fdA
  have B2 : Hid (Below w.heap.size w ((w.alloc (.cells #[.string s, .slice a n c, .int .i64 z, .string u] 73)).alloc (.cells #[.string s', .slice a' n' c', .int .i64 z', .string u'] 73))) := ((Below.refl _ _).alloc (Nat.le_refl _) _).alloc (by simp) _
  have KA : Hid (Blk ((w.alloc (.cells #[.string s, .slice a n c, .int .i64 z, .string u] 73)).alloc (.cells #[.string s', .slice a' n' c', .int .i64 z', .string u'] 73)) w.heap.size #[.string s, .slice a n c, .int .i64 z, .string u] 73) := (Blk.new _ _ _).alloc _
  have KB : Hid (Blk ((w.alloc (.cells #[.string s, .slice a n c, .int .i64 z, .string u] 73)).alloc (.cells #[.string s', .slice a' n' c', .int .i64 z', .string u'] 73)) (w.heap.size + 1) #[.string s', .slice a' n' c', .int .i64 z', .string u'] 73) := by
    have h := Blk.new (w.alloc (.cells #[.string s, .slice a n c, .int .i64 z, .string u] 73)) #[.string s', .slice a' n' c', .int .i64 z', .string u'] 73
    rw [World.size_alloc] at h
    exact h
  have a2 := KA.out.cell 2
  have a3 := KA.out.cell 3
  have b2 := KB.out.cell 2
  have b3 := KB.out.cell 3
  cases x with
  | none =>
    obtain ⟨-, -, -, -, rfl, -⟩ := hx
    have hz' : 0 ≤ z' := by
      cases y with
      | none => obtain ⟨-, -, -, -, rfl, -⟩ := hy; exact Int.le_refl _
      | some q => obtain ⟨-, -, rfl, -⟩ := hy; omega
    have hlt : ¬ z' < 0 := by omega
    clear hy hz'
    go_enter Try.func35, Try.ntmps35
    go_wp2_with fail
    go_ret
    exact ⟨rfl, B2.out⟩
  | some t =>
    obtain ⟨-, -, rfl, rfl, -⟩ := hx
    have hp := size_posF t
    cases y with
    | none =>
      obtain ⟨-, -, -, -, rfl, -⟩ := hy
      have h1 : ((sizeL [t] : Int) == 0) = false := by simpa using (by omega : ¬ (sizeL [t] : Int) = 0)
      have h2 : (0 : Int) < (sizeL [t] : Int) := by omega
      have HA : Hid (ahO (some t) none = decide (0 < sizeL [t])) := by show true = _; simp [hp]
      clear hp
      go_enter Try.func35, Try.ntmps35
      go_wp2_with fail
      go_ret
      exact ⟨by rw [HA.out]; rfl, B2.out⟩
    | some q =>
      obtain ⟨-, -, rfl, rfl, -⟩ := hy
      have hq := size_posF q
      have h1 : ((sizeL [t] : Int) == 0) = false := by simpa using (by omega : ¬ (sizeL [t] : Int) = 0)
      have h2 : ((sizeL [q] : Int) == 0) = false := by simpa using (by omega : ¬ (sizeL [q] : Int) = 0)
      by_cases he : sizeL [t] = sizeL [q]
      · have h3 : ((sizeL [t] : Int) != (sizeL [q] : Int)) = false := by simpa using (by omega : (sizeL [t] : Int) = (sizeL [q] : Int))
        have HA : Hid (ahO (some t) (some q) = Op.bytesLess (txB t).toList (txB q).toList) := by show agT t q = _; unfold agT; rw [if_pos he]; rfl
        clear hp hq he
        go_enter Try.func35, Try.ntmps35
        go_wp2_with fail
        go_ret
        exact ⟨by rw [HA.out]; rfl, B2.out⟩
      · have h3 : ((sizeL [t] : Int) != (sizeL [q] : Int)) = true := by simpa using (by omega : ¬ (sizeL [t] : Int) = (sizeL [q] : Int))
        have HA : Hid (ahO (some t) (some q) = decide (sizeL [t] < sizeL [q])) := by
          show agT t q = _
          unfold agT
          rw [if_neg he]
        clear hp hq he
        go_enter Try.func35, Try.ntmps35
        go_wp2_with fail
        go_ret
        exact ⟨by rw [HA.out]; rfl, B2.out⟩
end Go.Proofs.Ytdencaekailmcaa
