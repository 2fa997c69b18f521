/- Walks: what one step makes of a term, as the document says. -/
import Derived.Test.YthlgknglalcggacW161
import Derived.Test.YthlgknglalcggacZRewriteSaysOwn
import Derived.Test.YthlgknglalcggacW12
import Derived.Deep.RegionHeld
import Derived.Deep.RegionHeld3
import Derived.Deep.DeepCutAuto
import Derived.Deep.AppendLies
namespace Go.Proofs.Ythlgknglalcggac
open Go.RowKit
set_option linter.unusedSimpArgs false
set_option linter.unusedVariables false
set_option maxRecDepth 8000

/-- From now on, whatever else is made. -/
def Evs (P : World → Prop) (w : World) : Prop := ∀ w', Below w.heap.size w w' → P w'
theorem Evs.now {P : World → Prop} {w : World} (h : Evs P w) : P w := h w (Below.refl _ _)
theorem Evs.later {P : World → Prop} {w w' : World} (h : Evs P w) (hb : Below w.heap.size w w') : Evs P w' := fun w'' hb' => h w'' (hb.trans (hb'.mono hb.size))
theorem Evs.alloc {P : World → Prop} {w : World} (h : Evs P w) (o : Obj) : Evs P (w.alloc o) := h.later ((Below.refl _ _).alloc (Nat.le_refl _) o)
/-- What doesn't change: the term, its places, the rules. -/
structure StF (rs : List Pr) (t : Tm) (ps : List (List Int)) (aa : Option Addr) (ca B3 g7 : Nat) (fv : Nat → Value) (u : Value) (W0 wr : World) : Prop where
  k1 : Blk wr B3 #[.string t.name, .slice aa t.args.length ca] 25
  s1 : Sl wr (fun b => b < W0.heap.size) aa t.args
  pl : ∀ i (h : i < ps.length), wr.cell? ⟨g7, i, none⟩ = some (fv i) ∧ PV wr (fun b => b < W0.heap.size) (fv i) ps[i]
  qv : QV wr (fun b => b < W0.heap.size) u rs
  bl : Below W0.heap.size W0 wr
/-- So many places are gone through. -/
def StoInv (rs : List Pr) (t : Tm) (ps : List (List Int)) (W0 : World) (v o : Value) (wr : World) : Prop :=
  ∃ (i : Nat) (xs : List Value), i ≤ ps.length ∧ o = .int .i64 (i : Int) ∧ Row wr W0.heap.size 25 (fun b => b < W0.heap.size) v ((ps.take i).flatMap (stAt rs t)) xs ∧ (∀ y ∈ (ps.take i).flatMap (stAt rs t), sizeL [y] ≤ 2000) ∧ Below W0.heap.size W0 wr
/-- What the first rules make. -/
def stK (rs : List Pr) (t x : Tm) (p : List Int) (k : Nat) : List Tm := (rs.take k).filterMap fun r => (fitT r x).map fun y => putT y p t
theorem stK_none {rs : List Pr} {t x : Tm} {p : List Int} {k : Nat} (h : k < rs.length) (hf : fitT rs[k] x = none) : stK rs t x p (k + 1) = stK rs t x p k := by
  unfold stK
  rw [List.take_succ_eq_append_getElem h, List.filterMap_append]
  simp [hf]
theorem stK_some {rs : List Pr} {t x z : Tm} {p : List Int} {k : Nat} (h : k < rs.length) (hf : fitT rs[k] x = some z) : stK rs t x p (k + 1) = stK rs t x p k ++ [putT z p t] := by
  unfold stK
  rw [List.take_succ_eq_append_getElem h, List.filterMap_append]
  simp [hf]
theorem stK_len (rs : List Pr) (t x : Tm) (p : List Int) (k : Nat) : (stK rs t x p k).length ≤ k := Nat.le_trans (List.length_filterMap_le _ _) (by simp; omega)
theorem stK_all {rs : List Pr} {t x : Tm} {p : List Int} (h : atT t p = some x) : stK rs t x p rs.length = stAt rs t p := by
  unfold stK stAt
  rw [h, List.take_length]
theorem stAt_len (rs : List Pr) (t : Tm) (p : List Int) : (stAt rs t p).length ≤ rs.length := by
  unfold stAt
  split
  · exact List.length_filterMap_le _ _
  · simp
theorem flat_len {rs : List Pr} {t : Tm} (h40 : rs.length ≤ 40) : ∀ ps : List (List Int), (ps.flatMap (stAt rs t)).length ≤ 40 * ps.length
  | [] => by simp
  | p :: ps => by
    have h1 := flat_len (t := t) h40 ps
    have h2 := stAt_len rs t p
    rw [List.flatMap_cons, List.length_append, List.length_cons]
    omega
theorem flat_next {rs : List Pr} {t : Tm} {ps : List (List Int)} {i : Nat} (h : i < ps.length) : (ps.take (i + 1)).flatMap (stAt rs t) = (ps.take i).flatMap (stAt rs t) ++ stAt rs t ps[i] := by
  rw [List.take_succ_eq_append_getElem h, List.flatMap_append]
  simp
/-- At a place, so many rules are tried. -/
def StiInv (rs : List Pr) (t x : Tm) (p : List Int) (l0 : List Tm) (a9 : Option Addr) (c9 B9 : Nat) (W0 : World) (v o : Value) (wr : World) : Prop :=
  ∃ (k : Nat) (xs : List Value), k ≤ rs.length ∧ o = .int .i64 (k : Int) ∧ Row wr W0.heap.size 25 (fun b => b < W0.heap.size) v (l0 ++ stK rs t x p k) xs ∧ (∀ y ∈ l0 ++ stK rs t x p k, sizeL [y] ≤ 2000) ∧ Blk wr B9 #[.string x.name, .slice a9 x.args.length c9] 25 ∧ W0.heap.size ≤ B9 ∧ some B9 ≠ v.ownBlock ∧ Below W0.heap.size W0 wr
/-- The outcome: all, or too great. -/
def StoPost (rs : List Pr) (t : Tm) (w : World) (e : Ending) (w' : World) : Prop :=
  Below w.heap.size w w' ∧ ((∃ v, (∀ y ∈ stAll rs t, sizeL [y] ≤ 2000) ∧ e = .returned (.tuple #[v, .int .i64 0]) ∧ ∃ N xs, w.heap.size ≤ N ∧ Row w' N 25 (fun b => b < N) v (stAll rs t) xs) ∨ ((∃ y ∈ stAll rs t, 2000 < sizeL [y]) ∧ e = .returned (.tuple #[.slice none 0 0, .int .i64 8])))
theorem put_ge (x : Tm) : ∀ (p : List Int) (t y : Tm), atT t p = some y → sizeL [x] ≤ sizeL [putT x p t]
  | [], t, y, _ => by simp [putT]
  | i :: r, t, y, h => by
    obtain ⟨k, hk, rfl, h2⟩ := atT_cons h
    have ih := put_ge x r _ y h2
    obtain ⟨s, l⟩ := t
    have e : sizeL [putT x ((k : Int) :: r) ⟨s, l⟩] = 1 + sizeL (putL (putT x r) (k : Int) 0 l) := by rw [putT]; simp [sizeL]
    have h3 := sizeL_take (putL (putT x r) (k : Int) 0 l) k (by rw [putL_length]; exact hk)
    have h4 := sizeL_take_le (putL (putT x r) (k : Int) 0 l) (k + 1)
    rw [putL_get _ _ _ _ _ hk, if_pos (by simp)] at h3
    omega

theorem stF_ev {rs : List Pr} {t : Tm} {ps : List (List Int)} {aa : Option Addr} {ca B3 g7 : Nat} {fv : Nat → Value} {u : Value} {W0 : World} (h : StF rs t ps aa ca B3 g7 fv u W0 W0) (hg : g7 < W0.heap.size) : Evs (StF rs t ps aa ca B3 g7 fv u W0) W0 := fun w' hb =>
  ⟨h.k1.below hb h.k1.lt, h.s1.later hb, fun i hi => ⟨(hb.cell (p := ⟨g7, i, none⟩) hg).trans (h.pl i hi).1, (h.pl i hi).2.later hb⟩, h.qv.later hb, hb⟩
/-- What stands at a place, in a box. -/
def AtW (t x : Tm) (W0 : World) (v : Value) (l : List Tm) (o : Value) (wc : World) : Prop :=
  ∃ (B9 : Nat) (a9 : Option Addr) (c9 : Nat) (xs : List Value), o = .pointer (some ⟨B9, 0, none⟩) ∧ Blk wc B9 #[.string x.name, .slice a9 x.args.length c9] 25 ∧ Sl wc (fun b => b < W0.heap.size) a9 x.args ∧ W0.heap.size ≤ B9 ∧ some B9 ≠ v.ownBlock ∧ Row wc W0.heap.size 25 (fun b => b < W0.heap.size) v l xs ∧ Below W0.heap.size W0 wc
theorem atW_endA {t x : Tm} {W0 w w1 : World} {v : Value} {l : List Tm} {xs : List Value} {a9 : Option Addr} {c9 : Nat} (hr : Row w W0.heap.size 25 (fun b => b < W0.heap.size) v l xs) (hB : Below W0.heap.size W0 w) (hb : Below w.heap.size w w1) (hs : Sl w1 (fun b => b < W0.heap.size) a9 x.args) :
    AtW t x W0 v l (.pointer (some ⟨w1.heap.size, 0, none⟩)) (w1.alloc (.cells #[.string x.name, .slice a9 x.args.length c9] 25)) := by
  have hb2 := hb.alloc hb.size (.cells #[.string x.name, .slice a9 x.args.length c9] 25)
  have h1 := hB.size
  have h2 := hb.size
  refine ⟨w1.heap.size, a9, c9, xs, rfl, Blk.new w1 _ _, hs.later ((Below.refl _ _).alloc (Nat.le_refl _) _), by omega, fun e => ?_, hr.below hb2, hB.trans (hb2.mono hB.size)⟩
  have := (hr.own.lt _ e.symm).2
  omega
theorem atW_endB {t x : Tm} {W0 w w1 : World} {v : Value} {l : List Tm} {xs : List Value} {a9 : Option Addr} {c9 : Nat} (hr : Row w W0.heap.size 25 (fun b => b < W0.heap.size) v l xs) (hB : Below W0.heap.size W0 w) (hb : Below w.heap.size w w1) (hz : Blk w1 w.heap.size #[.string ⟨#[]⟩, .slice none 0 0] 25) (hs : Sl w1 (fun b => b < W0.heap.size) a9 x.args) :
    Below w.heap.size w ((w1.setCell ⟨w.heap.size, 0, none⟩ (.string x.name)).setCell ⟨w.heap.size, 1, none⟩ (.slice a9 x.args.length c9)) ∧ AtW t x W0 v l (.pointer (some ⟨w.heap.size, 0, none⟩)) ((w1.setCell ⟨w.heap.size, 0, none⟩ (.string x.name)).setCell ⟨w.heap.size, 1, none⟩ (.slice a9 x.args.length c9)) := by
  have hb2 : Below w.heap.size w ((w1.setCell ⟨w.heap.size, 0, none⟩ (.string x.name)).setCell ⟨w.heap.size, 1, none⟩ (.slice a9 x.args.length c9)) := (hb.setCell (by simp) _).setCell (by simp) _
  have h1 := hB.size
  refine ⟨hb2, w.heap.size, a9, c9, xs, rfl, (hz.set 0 _).set 1 _, hs.kept fun b hb => ?_, h1, fun e => ?_, hr.below hb2, hB.trans (hb2.mono hB.size)⟩
  · have hlt : b < W0.heap.size := hb
    rw [Below.heap_setCell _ _ _ _ (by simp; omega), Below.heap_setCell _ _ _ _ (by simp; omega)]
  · have := (hr.own.lt _ e.symm).2
    omega

theorem cell_term_new (w : World) (a b : Value) (T : Nat) : ∀ j u, ([a, b] : List Value)[j]? = some u → (w.alloc (.cells #[a, b] T)).cell? ((⟨w.heap.size, 0, none⟩ : Addr).add j) = some u := fun j u h => by
  have hb := Blk.new w #[a, b] T
  have h1 : (⟨w.heap.size, 0, none⟩ : Addr).add j = ⟨w.heap.size, j, none⟩ := by
    by_cases h0 : j = 0
    · subst h0; simp [Addr.add]
    · simp [Addr.add, h0]
  rw [h1, hb.cell j]
  simpa using h
theorem terms_append {w w1 : World} {N : Nat} {Y : Nat → Prop} {v : Value} {l : List Tm} {xs : List Value} (h : Row w N 25 Y v l xs) (hN : N ≤ w.heap.size) (hY : ∀ b, Y b → b < N) (hb : Below w.heap.size w w1) (t : Tm) (a : Option Addr) (c : Nat) (ht : Sl w1 (fun b => Y b ∨ w.heap.size ≤ b) a t.args) (hn : l.length ≤ 1000000) :
    ∃ g cap w3, (Builtin.append_ #[23, 23] 23 #[v, .slice (some ⟨w1.heap.size, 0, none⟩) 1 1]).run Try.prog (w1.alloc (.cells #[.string t.name, .slice a t.args.length c] 25)) = .ok (.slice (some ⟨g, 0, none⟩) (l.length + 1) cap) w3 ∧ Row w3 N 25 Y (.slice (some ⟨g, 0, none⟩) (l.length + 1) cap) (l ++ [t]) (xs ++ [.string t.name, .slice a t.args.length c]) ∧ (w1.alloc (.cells #[.string t.name, .slice a t.args.length c] 25)).grownBy w3 v.ownBlock ∧ (v.ownBlock = some g ∨ g = (w1.alloc (.cells #[.string t.name, .slice a t.args.length c] 25)).heap.size) := by
  obtain ⟨i0, hi, hz0, hz1, hz2⟩ := info_parts Try.infoTerm
  have hbs := hb.size
  obtain ⟨g, cap, w3, hr, ho, hg, hat, hlt⟩ := run_append_lies (P := Try.prog) (w := w1.alloc (.cells #[.string t.name, .slice a t.args.length c] 25)) 23 23 N 25 i0 _ 2 40 Try.underlying23 hi hz0 hz1 hz2 rfl (by decide) v l.length xs ((h.below hb).own.alloc _)
    ⟨w1.heap.size, 0, none⟩ 1 1 [.string t.name, .slice a t.args.length c] rfl (cell_term_new _ _ _ _) (fun y hy => by simp at hy; rcases hy with rfl | rfl <;> rfl) (by decide) (by unfold maxLen; omega) (by omega) (by simp; omega) _ rfl
  exact ⟨g, cap, w3, hr, h.push hN hY hb ⟨a, c, rfl, ht⟩ _ rfl ho hg hat, hg, hat⟩
/-- What a rule puts there, in a box. -/
def FyW (p : Pr) (x : Tm) (W0 wr : World) (o k f : Value) (wc : World) : Prop :=
  ∃ (U : Nat) (y : Tm) (a : Option Addr) (c : Nat) (ok full : Bool), o = .pointer (some ⟨U, 0, none⟩) ∧ k = .bool ok ∧ f = .bool full ∧ wr.heap.size ≤ U ∧ Blk wc U #[.string y.name, .slice a y.args.length c] 25 ∧ Sl wc (fun b => (b < W0.heap.size ∨ wr.heap.size ≤ b) ∧ b ≠ U) a y.args ∧ Below wr.heap.size wr wc ∧
    ((fitT p x = none ∧ ok = false) ∨ ∃ z, fitT p x = some z ∧ ok = true ∧ (full = true ↔ 2000 < sizeL [z]) ∧ (full = false → y = z))
theorem fyW_endA {p : Pr} {x y : Tm} {W0 wr wd w1 : World} {a : Option Addr} {c : Nat} {ok full : Bool} (hW : W0.heap.size ≤ wr.heap.size) (hd : Below wr.heap.size wr wd) (hb : Below wd.heap.size wd w1) (hs : Sl w1 (fun b => ((b < W0.heap.size) ∧ b < wd.heap.size) ∨ wd.heap.size ≤ b) a y.args) (hc : (fitT p x = none ∧ ok = false) ∨ ∃ z, fitT p x = some z ∧ ok = true ∧ (full = true ↔ 2000 < sizeL [z]) ∧ (full = false → y = z)) :
    FyW p x W0 wr (.pointer (some ⟨w1.heap.size, 0, none⟩)) (.bool ok) (.bool full) (w1.alloc (.cells #[.string y.name, .slice a y.args.length c] 25)) := by
  have h1 := hd.size
  have h2 := hb.size
  refine ⟨w1.heap.size, y, a, c, ok, full, rfl, rfl, rfl, by omega, Blk.new w1 _ _, (hs.mono fun b h hlt => ⟨?_, by omega⟩).later ((Below.refl _ _).alloc (Nat.le_refl _) _), (hd.trans (hb.mono hd.size)).alloc (by omega) _, hc⟩
  rcases h with h | h
  · exact Or.inl h.1
  · exact Or.inr (by omega)
theorem fyW_endB {p : Pr} {x y : Tm} {W0 wr wd w1 : World} {a : Option Addr} {c : Nat} {ok full : Bool} (hW : W0.heap.size ≤ wr.heap.size) (hd : Below wr.heap.size wr wd) (hb : Below wd.heap.size wd w1) (hz : Blk w1 wd.heap.size #[.string ⟨#[]⟩, .slice none 0 0] 25) (hs : Sl w1 (fun b => ((b < W0.heap.size) ∧ b < wd.heap.size + 1) ∨ wd.heap.size + 1 ≤ b) a y.args) (hc : (fitT p x = none ∧ ok = false) ∨ ∃ z, fitT p x = some z ∧ ok = true ∧ (full = true ↔ 2000 < sizeL [z]) ∧ (full = false → y = z)) :
    Below wr.heap.size wr ((w1.setCell ⟨wd.heap.size, 0, none⟩ (.string y.name)).setCell ⟨wd.heap.size, 1, none⟩ (.slice a y.args.length c)) ∧ FyW p x W0 wr (.pointer (some ⟨wd.heap.size, 0, none⟩)) (.bool ok) (.bool full) ((w1.setCell ⟨wd.heap.size, 0, none⟩ (.string y.name)).setCell ⟨wd.heap.size, 1, none⟩ (.slice a y.args.length c)) := by
  have h1 := hd.size
  have hb2 : Below wr.heap.size wr ((w1.setCell ⟨wd.heap.size, 0, none⟩ (.string y.name)).setCell ⟨wd.heap.size, 1, none⟩ (.slice a y.args.length c)) := ((hd.trans (hb.mono hd.size)).setCell (by simp; omega) _).setCell (by simp; omega) _
  refine ⟨hb2, wd.heap.size, y, a, c, ok, full, rfl, rfl, rfl, h1, (hz.set 0 _).set 1 _, ?_, hb2, hc⟩
  refine (hs.kept fun b hb => ?_).mono fun b h hlt => ⟨?_, ?_⟩
  · have hne : b ≠ wd.heap.size := by rcases hb with h | h <;> omega
    rw [Below.heap_setCell _ _ _ _ (by simpa using hne), Below.heap_setCell _ _ _ _ (by simpa using hne)]
  · rcases h with h | h
    · exact Or.inl h.1
    · exact Or.inr (by omega)
  · rcases h with h | h <;> omega
theorem great_in {rs : List Pr} {t x z : Tm} {ps : List (List Int)} {p : List Int} {r : Pr} (hp : p ∈ ps) (hr : r ∈ rs) (hx : atT t p = some x) (hf : fitT r x = some z) : putT z p t ∈ ps.flatMap (stAt rs t) := by
  refine List.mem_flatMap.2 ⟨p, hp, ?_⟩
  unfold stAt
  rw [hx]
  exact List.mem_filterMap.2 ⟨r, hr, by rw [hf]; rfl⟩

end Go.Proofs.Ythlgknglalcggac
