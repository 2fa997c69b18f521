/- Lambda terms: the library's Clone at their rows; one who takes the first step that he is handed. -/
import Derived.Test.YtaifameeoipjjaaLn1
import Derived.Test.YtaifameeoipjjaaZPatternPutsOwn
import Derived.Test.YtaifameeoipjjaaRg2
import Derived.Ground.SlgnProg
import Derived.Shelf.SlicesE.Clone
namespace Go.Proofs.Ytaifameeoipjjaa
open Go.RowKit Go.Shelf
set_option linter.unusedSimpArgs false
set_option linter.unusedVariables false
set_option maxRecDepth 8000

def clm_ren : Go.Shelf.Ren := ⟨fun | 41 => 46 | n => n, fun | 22 => 22 | 23 => 24 | 4 => 4 | n => n, fun | n => n⟩
theorem clm_lays : Go.Proofs.SlLaysE0.n41 Try.prog clm_ren := {
  mixed := by kernel_rfl
  f41 := ⟨Try.f46.name, by decide, Try.func46.trans (congrArg some (by kernel_rfl))⟩
  t4 := Try.underlying4
  a4 := Try.isAgg4
  z4 := Try.sizeOf4
  v4 := Try.zeroValue4
  t22 := Try.underlying22
  a22 := Try.isAgg22
  z22 := Try.sizeOf22
  v22 := Try.zeroValue22 }
/-- A row of lambda terms cloned: its cells lie in memory of the call's own. -/
theorem cloneM_any (b off n c : Nat) (news : List Value) (w : World) (hl : news.length = n * 3) (hn : n ≤ 1000000) (hc : ∀ j u, news[j]? = some u → w.cell? ⟨b, off + j, none⟩ = some u) (h1 : ∀ u ∈ news, u.oneCell' = true) :
    Calls Try.prog 46 #[.slice (some ⟨b, off, none⟩) n c] w fun e w' => ∃ v', e = .returned v' ∧ w'.ownsRow w.heap.size 24 3 v' n news ∧ v' ≠ .slice none 0 0 ∧ Below w.heap.size w w' := by
  obtain ⟨i0, hi, hz0, hz1, hz2⟩ := info_parts Try.infoLam
  exact AnyE.slices_Clone clm_lays i0 _ 3 40 hi hz0 hz1 hz2 rfl (by decide) Try.sizeOf24 b off n c news w hl (by unfold maxLen; omega) (by omega) hc h1
theorem rowTM_of_lies {w : World} {X : Nat → Prop} : ∀ (l : List Lm) (b o : Nat), LiesM w X b o l → ∃ xs, RowTM w X l xs ∧ ∀ j u, xs[j]? = some u → w.cell? ⟨b, o + j, none⟩ = some u := by
  intro l
  induction l with
  | nil => intro b o _; exact ⟨[], rfl, by simp⟩
  | cons t r ih =>
    intro b o h
    obtain ⟨s, x, k⟩ := t
    simp only [LiesM] at h
    obtain ⟨hx, h1, h1', ⟨a, c, h2, h3, h4⟩, h5⟩ := h
    obtain ⟨xs, hr, hc⟩ := ih b (o + 3) h5
    refine ⟨.int .i64 s :: .int .i64 x :: .slice a k.length c :: xs, ⟨a, c, xs, rfl, ⟨h3, h4⟩, hr⟩, fun j u hj => ?_⟩
    match j, hj with
    | 0, hj => simp at hj; subst hj; exact h1
    | 1, hj => simp at hj; subst hj; exact h1'
    | 2, hj => simp at hj; subst hj; exact h2
    | j + 3, hj => rw [show o + (j + 3) = o + 3 + j by omega]; exact hc j u (by simpa using hj)
theorem RowTM.one {w : World} {X : Nat → Prop} : ∀ {l : List Lm} {xs : List Value}, RowTM w X l xs → ∀ u ∈ xs, u.oneCell' = true
  | [], xs, h, u, hu => by simp [RowTM] at h; subst h; cases hu
  | t :: l, xs, h, u, hu => by
    obtain ⟨a, c, r, rfl, _, h⟩ := h
    rcases List.mem_cons.1 hu with e | hu
    · subst e; rfl
    · rcases List.mem_cons.1 hu with e | hu
      · subst e; rfl
      · rcases List.mem_cons.1 hu with e | hu
        · subst e; rfl
        · exact RowTM.one h u hu
theorem RowTM.put {w : World} {X : Nat → Prop} {y : Lm} {a : Option Addr} {c : Nat} (hy : SlM w X a y.subs) : ∀ {l : List Lm} {xs : List Value} (k : Nat), RowTM w X l xs → k < l.length → RowTM w X (l.set k y) (((xs.set (k * 3) (.int .i64 y.kind)).set (k * 3 + 1) (.int .i64 y.idx)).set (k * 3 + 2) (.slice a y.subs.length c))
  | [], xs, k, h, hk => by simp at hk
  | t :: l, xs, 0, h, _ => by
    obtain ⟨a', c', r, rfl, h1, h2⟩ := h
    exact ⟨a, c, r, by simp, hy, h2⟩
  | t :: l, xs, k + 1, h, hk => by
    obtain ⟨a', c', r, rfl, h1, h2⟩ := h
    refine ⟨a', c', ((r.set (k * 3) (.int .i64 y.kind)).set (k * 3 + 1) (.int .i64 y.idx)).set (k * 3 + 2) (.slice a y.subs.length c), ?_, h1, RowTM.put hy k h2 (by simpa using hk)⟩
    have e : (k + 1) * 3 = k * 3 + 1 + 1 + 1 := by omega
    have e2 : (k + 1) * 3 + 1 = k * 3 + 1 + 1 + 1 + 1 := by omega
    have e3 : (k + 1) * 3 + 2 = k * 3 + 2 + 1 + 1 + 1 := by omega
    rw [e3, e2, e]
    simp
theorem set3_keep {w : World} {b i O : Nat} {v u u' u'' : Value} (h : w.cell? ⟨b, i, none⟩ = some v) (hn : b ≠ O) : (((w.setCell ⟨O, 0, none⟩ u).setCell ⟨O, 1, none⟩ u').setCell ⟨O, 2, none⟩ u'').cell? ⟨b, i, none⟩ = some v := by
  refine cell_sameM ?_ h
  rw [Below.heap_setCell _ _ _ _ (by simpa using hn), Below.heap_setCell _ _ _ _ (by simpa using hn), Below.heap_setCell _ _ _ _ (by simpa using hn)]
theorem owns_monoM {w : World} {N M e z n : Nat} {v : Value} {xs : List Value} (h : w.ownsRow N e z v n xs) (hM : M ≤ N) : w.ownsRow M e z v n xs :=
  ⟨h.1, h.2.imp id fun ⟨g, cap, cur, h1, h2, h3⟩ => ⟨g, cap, cur, h1, Nat.le_trans hM h2, h3⟩⟩
theorem ownsRow_put3 {w : World} {N e z n G cap O : Nat} {u u' u'' : Value} {xs : List Value} (h : w.ownsRow N e z (.slice (some ⟨G, 0, none⟩) n cap) n xs) (hO : O ≠ G) : (((w.setCell ⟨O, 0, none⟩ u).setCell ⟨O, 1, none⟩ u').setCell ⟨O, 2, none⟩ u'').ownsRow N e z (.slice (some ⟨G, 0, none⟩) n cap) n xs := by
  obtain ⟨hl, h1⟩ := h
  refine ⟨hl, ?_⟩
  rcases h1 with h1 | ⟨g, cap', cur, hv, hg, hh, hr⟩
  · exact Or.inl h1
  · refine Or.inr ⟨g, cap', cur, hv, hg, ?_, hr⟩
    have e : g = G := by simp at hv; exact hv.1.symm
    rw [Below.heap_setCell _ _ _ _ (by simp; omega), Below.heap_setCell _ _ _ _ (by simp; omega), Below.heap_setCell _ _ _ _ (by simp; omega)]
    exact hh
/-- What has been laid. -/
def KpL (W : World) (N : Nat) (k x : Int) (n : Nat) (xs : List Value) (o8 : Value) (wc : World) : Prop :=
  ∃ G O cap : Nat, o8 = .pointer (some ⟨O, 0, none⟩) ∧ N ≤ G ∧ N ≤ O ∧ G ≠ O ∧ Blk wc O #[.int .i64 k, .int .i64 x, .slice (some ⟨G, 0, none⟩) n cap] 24 ∧ wc.ownsRow N 24 3 (.slice (some ⟨G, 0, none⟩) n cap) n xs ∧ Below N W wc
theorem kpL_last {W w1 : World} {N n G cap : Nat} {k x : Int} {xs : List Value} (hN : W.heap.size = N) (hown : w1.ownsRow N 24 3 (.slice (some ⟨G, 0, none⟩) n cap) n xs) (hb : Below N W w1) :
    KpL W N k x n xs (.pointer (some ⟨w1.heap.size, 0, none⟩)) (w1.alloc (.cells #[.int .i64 k, .int .i64 x, .slice (some ⟨G, 0, none⟩) n cap] 24)) := by
  have hl := hown.lt G rfl
  have hs := hb.size
  exact ⟨G, w1.heap.size, cap, rfl, hl.1, by omega, by omega, Blk.new _ _ _, hown.alloc _, hb.alloc (by omega) _⟩
theorem kpL_first {W w1 : World} {N n G cap O : Nat} {k x : Int} {xs : List Value} (hO : N ≤ O) (hB : Blk w1 O #[.int .i64 0, .int .i64 0, .slice none 0 0] 24) (hGO : O < G) (hown : w1.ownsRow N 24 3 (.slice (some ⟨G, 0, none⟩) n cap) n xs) (hb : Below N W w1) :
    KpL W N k x n xs (.pointer (some ⟨O, 0, none⟩)) (((w1.setCell ⟨O, 0, none⟩ (.int .i64 k)).setCell ⟨O, 1, none⟩ (.int .i64 x)).setCell ⟨O, 2, none⟩ (.slice (some ⟨G, 0, none⟩) n cap)) := by
  have hl := hown.lt G rfl
  refine ⟨G, O, cap, rfl, hl.1, hO, by omega, ?_, ownsRow_put3 hown (by omega), ((hb.setCell (by simpa using hO) _).setCell (by simpa using hO) _).setCell (by simpa using hO) _⟩
  have := ((hB.set 0 (.int .i64 k)).set 1 (.int .i64 x)).set 2 (.slice (some ⟨G, 0, none⟩) n cap)
  simpa using this
/-- A row with another at a place. -/
theorem kputM_fin {wc : World} {X : Nat → Prop} {l : List Lm} {k G T : Nat} {xs : List Value} {cur : Array Value} {a9 : Option Addr} {c9 : Nat} {y : Lm} (hXG : ∀ b, X b → b ≠ G) (hk : k < l.length) (hl : l.length ≤ 9223372036854775807) (hrt : RowTM wc X l xs) (hcx : cur.toList.take (l.length * 3) = xs) (GB : Blk wc G cur T) (ht : SlM wc X a9 y.subs) :
    SlM (((wc.setCell ⟨G, k * 3, none⟩ (.int .i64 y.kind)).setCell ⟨G, k * 3 + 1, none⟩ (.int .i64 y.idx)).setCell ⟨G, k * 3 + 2, none⟩ (.slice a9 y.subs.length c9)) (fun b => X b ∨ b = G) (some ⟨G, 0, none⟩) (l.set k y) := by
  have keep : ∀ b, b ≠ G → (((wc.setCell ⟨G, k * 3, none⟩ (.int .i64 y.kind)).setCell ⟨G, k * 3 + 1, none⟩ (.int .i64 y.idx)).setCell ⟨G, k * 3 + 2, none⟩ (.slice a9 y.subs.length c9)).heap[b]? = wc.heap[b]? := fun b h1 => by
    rw [Below.heap_setCell _ _ _ _ (by simpa using h1), Below.heap_setCell _ _ _ _ (by simpa using h1), Below.heap_setCell _ _ _ _ (by simpa using h1)]
  generalize hwF : (((wc.setCell ⟨G, k * 3, none⟩ (.int .i64 y.kind)).setCell ⟨G, k * 3 + 1, none⟩ (.int .i64 y.idx)).setCell ⟨G, k * 3 + 2, none⟩ (.slice a9 y.subs.length c9)) = wF at *
  have h1 : RowTM wF (fun b => X b ∨ b = G) l xs := hrt.imp fun a kk hs => (hs.kept fun b hb2 => keep b (hXG b hb2)).mono fun b hb2 _ => Or.inl hb2
  have h2 : SlM wF (fun b => X b ∨ b = G) a9 y.subs := (ht.kept fun b hb2 => keep b (hXG b hb2)).mono fun b hb2 _ => Or.inl hb2
  have h3 := RowTM.put (c := c9) h2 k h1 hk
  have hBF : Blk wF G (((cur.setIfInBounds (k * 3) (.int .i64 y.kind)).setIfInBounds (k * 3 + 1) (.int .i64 y.idx)).setIfInBounds (k * 3 + 2) (.slice a9 y.subs.length c9)) T := by
    rw [← hwF]
    exact ((GB.set (k * 3) (.int .i64 y.kind)).set (k * 3 + 1) (.int .i64 y.idx)).set (k * 3 + 2) (.slice a9 y.subs.length c9)
  refine ⟨by simpa using hl, Or.inr ⟨G, 0, rfl, liesM_of_row G (Or.inr rfl) _ _ 0 h3 (fun _ _ h => h) fun j u hj => ?_⟩⟩
  rw [Nat.zero_add]
  refine (hBF.cell j).trans ?_
  rw [← hcx, ← List.take_set, ← List.take_set, ← List.take_set, List.getElem?_take] at hj
  split at hj
  · rw [← Array.getElem?_toList]
    simpa using hj
  · cases hj

/-- One who takes is called. -/
def TkAt (y v : Value) (ok : Bool) (W : World) (Post : Ending → World → Prop) : Prop :=
  (∃ T I Y : Nat, y = .func (.func 45) #[] #[.pointer (some ⟨T, 0, none⟩), .pointer (some ⟨I, 0, none⟩), .pointer (some ⟨Y, 0, none⟩)] ∧ Calls Try.prog 45 #[v, .bool ok, .pointer (some ⟨T, 0, none⟩), .pointer (some ⟨I, 0, none⟩), .pointer (some ⟨Y, 0, none⟩)] W Post) ∨
  (∃ lp : Nat, y = .func (.yield lp) #[] #[] ∧ ∀ n, YieldAt Fence.wide n Try.prog lp #[v, .bool ok] W Post)
/-- He wants just the first that he is handed; it lies in blocks that P lets. -/
def StopAt (y : Value) (P : Nat → Prop) (J : World → Prop) (S : Lm → Bool → World → Prop) : Prop :=
  ∀ (W : World) (v : Value) (x : Lm) (ok : Bool) (Z : Nat → Prop), J W → MV W Z v x → (∀ b, Z b → b < W.heap.size ∧ P b) → TkAt y v ok W fun e W' => e = .returned (.bool false) ∧ S x ok W'
def StopTk (y : Value) (P : Nat → Prop) (J : World → Prop) (S : Lm → Bool → World → Prop) : Prop :=
  (∃ T I Y : Nat, y = .func (.func 45) #[] #[.pointer (some ⟨T, 0, none⟩), .pointer (some ⟨I, 0, none⟩), .pointer (some ⟨Y, 0, none⟩)] ∧
    ∀ (W : World) (v : Value) (x : Lm) (ok : Bool) (Z : Nat → Prop), J W → MV W Z v x → (∀ b, Z b → b < W.heap.size ∧ P b) → Calls Try.prog 45 #[v, .bool ok, .pointer (some ⟨T, 0, none⟩), .pointer (some ⟨I, 0, none⟩), .pointer (some ⟨Y, 0, none⟩)] W fun e W' => e = .returned (.bool false) ∧ S x ok W') ∨
  (∃ lp : Nat, y = .func (.yield lp) #[] #[] ∧
    ∀ (W : World) (v : Value) (x : Lm) (ok : Bool) (Z : Nat → Prop), J W → MV W Z v x → (∀ b, Z b → b < W.heap.size ∧ P b) → ∀ n, YieldAt Fence.wide n Try.prog lp #[v, .bool ok] W fun e W' => e = .returned (.bool false) ∧ S x ok W')
theorem StopTk.at {y : Value} {P : Nat → Prop} {J : World → Prop} {S : Lm → Bool → World → Prop} (h : StopTk y P J S) : StopAt y P J S := by
  intro W v x ok Z h1 h2 h3
  rcases h with ⟨T, I, Y, e, h⟩ | ⟨lp, e, h⟩
  · exact Or.inl ⟨T, I, Y, e, h W v x ok Z h1 h2 h3⟩
  · exact Or.inr ⟨lp, e, h W v x ok Z h1 h2 h3⟩
def StayJ (J : World → Prop) : Prop := ∀ W W' : World, J W → Below W.heap.size W W' → J W'
/-- What the closure has around it. -/
structure BeS (t : Lm) (a : Option Addr) (c T I Y k : Nat) (y : Value) (X : Nat → Prop) (W : World) : Prop where
  bt : Blk W T #[.int .i64 t.kind, .int .i64 t.idx, .slice a t.subs.length c] 24
  bi : Blk W I #[.int .i64 (k : Int)] 3
  by' : Blk W Y #[y] 51
  sl : SlM W X a t.subs
theorem BeS.later {t : Lm} {a : Option Addr} {c T I Y k : Nat} {y : Value} {X : Nat → Prop} {W W' : World} (h : BeS t a c T I Y k y X W) (hb : Below W.heap.size W W') : BeS t a c T I Y k y X W' :=
  ⟨h.bt.below hb h.bt.lt, h.bi.below hb h.bi.lt, h.by'.below hb h.by'.lt, h.sl.later hb⟩
end Go.Proofs.Ytaifameeoipjjaa
