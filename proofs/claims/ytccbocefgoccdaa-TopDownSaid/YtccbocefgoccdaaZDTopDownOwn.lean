/- Several texts in one. -/
import Derived.Test.YtccbocefgoccdaaZTopDownOwn
import Derived.Deep.RegionHeld3
import Derived.Test.YtccbocefgoccdaaZBTopDownOwn
import Derived.Laws.EntriesVeiled
/- Walks: numbers out of raw numbers. -/
namespace Go.Proofs.Ytccbocefgoccdaa
open Go.RowKit
set_option linter.unusedSimpArgs false
set_option linter.unusedVariables false
set_option maxRecDepth 8000

theorem mod_nat {x : Int} (hx : 0 ≤ x) {n : Nat} (hn : 0 < n) : ∃ k : Nat, x % (n : Int) = k ∧ k < n := by
  have h1 := Int.emod_nonneg x (b := (n : Int)) (by omega)
  have h2 := Int.emod_lt_of_pos x (b := (n : Int)) (by omega)
  exact ⟨(x % (n : Int)).toNat, by omega, by omega⟩

theorem pick_any (c : Int) (n : Nat) (hn : 0 < n) (hn2 : n ≤ 2000000) (hc : -9223372036854775808 ≤ c ∧ c ≤ 9223372036854775807) (w : World) :
    Calls Try.prog 6 #[.int .i64 c, .int .i64 (n : Int)] w fun e w' => ∃ k : Nat, e = .returned (.int .i64 (k : Int)) ∧ k < n ∧ w' = w := by
  go_enter Try.func6, Try.ntmps6
  by_cases h : c < 0
  · go_wp2_with fail
    go_ret
    obtain ⟨k, hk, hkn⟩ := mod_nat (x := -(c + 1)) (by omega) hn
    refine ⟨k, ?_, hkn, rfl⟩
    have h1 : -(c + 1).tmod (n : Int) = k := by rw [← Int.neg_tmod, Int.tmod_eq_emod_of_nonneg (by omega)]; exact hk
    simp [h1]
  · go_wp2_with fail
    go_ret
    obtain ⟨k, hk, hkn⟩ := mod_nat (x := c) (by omega) hn
    exact ⟨k, by simp [hk], hkn, rfl⟩

def pickN (c : Int) (n : Nat) : Nat := if c < 0 then (-(c + 1) % (n : Int)).toNat else (c % (n : Int)).toNat
theorem pickN_lt (c : Int) (n : Nat) (hn : 0 < n) : pickN c n < n := by
  unfold pickN
  split
  · obtain ⟨k, hk, hkn⟩ := mod_nat (x := -(c + 1)) (by omega) hn
    rw [hk]; simpa using hkn
  · obtain ⟨k, hk, hkn⟩ := mod_nat (x := c) (by omega) hn
    rw [hk]; simpa using hkn

theorem pick_eq (c : Int) (n : Nat) (hn : 0 < n) (hn2 : n ≤ 2000000) (hc : -9223372036854775808 ≤ c ∧ c ≤ 9223372036854775807) (w : World) :
    Calls Try.prog 6 #[.int .i64 c, .int .i64 (n : Int)] w fun e w' => e = .returned (.int .i64 (pickN c n : Int)) ∧ w' = w := by
  go_enter Try.func6, Try.ntmps6
  by_cases h : c < 0
  · have HK : Hid (((pickN c n : Nat) : Int) = -(c + 1).tmod (n : Int)) := by
      obtain ⟨k, hk, hkn⟩ := mod_nat (x := -(c + 1)) (by omega) hn
      have h1 : -(c + 1).tmod (n : Int) = k := by rw [← Int.neg_tmod, Int.tmod_eq_emod_of_nonneg (by omega)]; exact hk
      unfold Hid pickN
      rw [h1, if_pos h, hk]; simp
    go_wp2_with fail
    go_ret
    exact ⟨by simp [HK.out], rfl⟩
  · have HK : Hid (((pickN c n : Nat) : Int) = c % (n : Int)) := by
      obtain ⟨k, hk, hkn⟩ := mod_nat (x := c) (by omega) hn
      unfold Hid pickN
      rw [if_neg h, hk]; simp
    go_wp2_with fail
    go_ret
    exact ⟨by simp [HK.out], rfl⟩

theorem wrapI (x : Int) (h : -9223372036854775808 ≤ x ∧ x ≤ 9223372036854775807) : IntKind.i64.wrap x = x := by
  rw [IntKind.wrap_i64]; omega

def Rng (z : Int) : Prop := -9223372036854775808 ≤ z ∧ z ≤ 9223372036854775807

set_option maxHeartbeats 1000000 in
theorem raw_any (zs : List Int) (u : Value) (w : World) (X : Nat → Prop) (hu : PV w X u zs) (hr : ∀ z ∈ zs, Rng z) (i : Nat) (hi : i ≤ 1000000) (hzl : zs.length ≤ 1000000) :
    Calls Try.prog 25 #[u, .int .i64 (i : Int)] w fun e w' => ∃ k : Nat, e = .returned (.int .i64 (k : Int)) ∧ k ≤ 100000000000 ∧ Below w.heap.size w w' := by
  obtain ⟨a, c, rfl, hl, h⟩ := hu
  by_cases h0 : zs.length = 0
  · go_enter Try.func25, Try.ntmps25
    go_wp2_with fail
    go_ret
    exact ⟨i * 31, by simp, by omega, Below.refl _ _⟩
  · rcases h with h | ⟨b, o, rfl, hX, hc⟩
    · subst h; simp at h0
    · have hpos : 0 < zs.length := by omega
      obtain ⟨m, hm, hlt⟩ := mod_nat (x := (i : Int)) (by omega) hpos
      obtain ⟨d, hd, hdl⟩ : ∃ d : Nat, (i : Int) / (zs.length : Int) = d ∧ d ≤ i := ⟨i / zs.length, by simp, Nat.div_le_self _ _⟩
      have hm2 : (i : Int).tmod (zs.length : Int) = m := by rw [Int.tmod_eq_emod_of_nonneg (by omega)]; exact hm
      have hd2 : (i : Int).tdiv (zs.length : Int) = d := by rw [Int.tdiv_eq_ediv_of_nonneg (by omega)]; exact hd
      have hcc := hc m hlt
      have hrg := hr _ (List.getElem_mem hlt)
      generalize zs[m] = z at *
      have hm0 : (0 : Int) ≤ (m : Int) := by omega
      have hm1 : (m : Int) < (zs.length : Int) := by omega
      clear hc hr
      go_enter Try.func25, Try.ntmps25
      go_wp2_with fail
      go_region_held3 (fun w' => w'.cell? ⟨b, o + m, none⟩ = some (.int .i64 z)) (first | exact hcc | go_keep)
        ((go_at_call 6; refine (pick_any z 1000003 (by decide) (by decide) hrg _).mono ?_; rintro e w1 ⟨k, rfl, hk, rfl⟩))
      go_wp2_with fail
      go_ret
      refine ⟨k + d * 7919, by simp [wrapI (d : Int) (by omega), wrapI ((d : Int) * 7919) (by omega), wrapI ((k : Int) + (d : Int) * 7919) (by omega)], by omega, ?_⟩
      exact (Below.refl _ _).drew
#print axioms raw_any
#print axioms pick_any
end Go.Proofs.Ytccbocefgoccdaa

/- Rows of pairs that a call makes. -/
namespace Go.Proofs.Ytccbocefgoccdaa
open Go.RowKit
set_option linter.unusedSimpArgs false
set_option linter.unusedVariables false

/-- A pair, and where those below its terms' first knots lie. -/
abbrev Pc := Pr × (Option Addr × Nat) × (Option Addr × Nat)
instance : Inhabited Pc := ⟨(⟨⟨⟨#[]⟩, []⟩, ⟨⟨#[]⟩, []⟩⟩, (none, 0), (none, 0))⟩
def enc4 (x : Pc) : List Value := [.string x.1.l.name, .slice x.2.1.1 x.1.l.args.length x.2.1.2, .string x.1.r.name, .slice x.2.2.1 x.1.r.args.length x.2.2.2]
def flat4 : List Pc → List Value
  | [] => []
  | x :: r => enc4 x ++ flat4 r
theorem flat4_append (b : List Pc) : ∀ a, flat4 (a ++ b) = flat4 a ++ flat4 b
  | [] => rfl
  | x :: r => by rw [List.cons_append, flat4, flat4, flat4_append b r, List.append_assoc]
theorem flat4_length : ∀ a : List Pc, (flat4 a).length = a.length * 4
  | [] => rfl
  | x :: r => by rw [flat4, List.length_append, flat4_length r]; simp [enc4]; omega
theorem flat4_get : ∀ (a : List Pc) (i : Nat) (h : i < a.length) (j : Nat), j < 4 → (flat4 a)[i * 4 + j]? = (enc4 a[i])[j]?
  | [], i, h, j, hj => by simp at h
  | x :: r, 0, h, j, hj => by
    rw [flat4, List.getElem?_append_left (by simp [enc4]; omega)]; simp
  | x :: r, i + 1, h, j, hj => by
    rw [flat4, List.getElem?_append_right (by simp [enc4]; omega)]
    have e : (i + 1) * 4 + j - (enc4 x).length = i * 4 + j := by simp [enc4]; omega
    rw [e, flat4_get r i (by simpa using h) j hj]
    simp

/-- The row so far, apart from what its terms are made of: old memory that Y lets, and new memory. -/
structure QRow (w : World) (N : Nat) (Y : Nat → Prop) (v : Value) (cs : List Pc) : Prop where
  own : w.ownsRow N 48 4 v cs.length (flat4 cs)
  row : ∀ x ∈ cs, Sl w (fun b => Y b ∨ (N ≤ b ∧ some b ≠ v.ownBlock)) x.2.1.1 x.1.l.args ∧ Sl w (fun b => Y b ∨ (N ≤ b ∧ some b ≠ v.ownBlock)) x.2.2.1 x.1.r.args

theorem QRow.start (w : World) (N : Nat) (Y : Nat → Prop) : QRow w N Y (.slice none 0 0) [] := ⟨World.ownsRow_nil w N _ 4, by simp⟩
theorem QRow.below {w w' : World} {N : Nat} {Y : Nat → Prop} {v : Value} {cs : List Pc} (h : QRow w N Y v cs) (hb : Below w.heap.size w w') : QRow w' N Y v cs :=
  ⟨h.own.kept (w' := w') (row := none) ⟨hb.os, hb.tape, hb.output, hb.size, fun j hj _ => hb.block j hj⟩ (by rcases Option.eq_none_or_eq_some (Value.ownBlock v) with h | ⟨x, h⟩; exact Or.inl h; exact Or.inr (by rw [h]; simp)),
   fun x hx => ⟨(h.row x hx).1.later hb, (h.row x hx).2.later hb⟩⟩
theorem QRow.ne {w : World} {N : Nat} {Y : Nat → Prop} {v : Value} {cs : List Pc} (h : QRow w N Y v cs) {b : Nat} (hb : b < N) : some b ≠ v.ownBlock := fun e => by
  have := (h.own.lt b e.symm).1; omega
/-- One more: the pair's cells have been laid into a block of their own, and appended. -/
theorem QRow.push {w w1 w2 w3 : World} {N : Nat} {Y : Nat → Prop} {v : Value} {cs : List Pc} (h : QRow w N Y v cs) (hN : N ≤ w.heap.size) (hY : ∀ b, Y b → b < N) (hb : Below w.heap.size w w1) {x : Pc}
    (ht : Sl w1 (fun b => Y b ∨ w.heap.size ≤ b) x.2.1.1 x.1.l.args ∧ Sl w1 (fun b => Y b ∨ w.heap.size ≤ b) x.2.2.1 x.1.r.args) (o : Obj) (hw2 : w2 = w1.alloc o) {g cap : Nat}
    (hown : w3.ownsRow N 48 4 (.slice (some ⟨g, 0, none⟩) (cs.length + 1) cap) (cs.length + 1) (flat4 cs ++ enc4 x)) (hg : w2.grownBy w3 v.ownBlock) (hg1 : v.ownBlock = some g ∨ g = w2.heap.size) :
    QRow w3 N Y (.slice (some ⟨g, 0, none⟩) (cs.length + 1) cap) (cs ++ [x]) := by
  subst hw2
  have hlt := h.own.lt
  have hsz : w1.heap.size ≤ (w1.alloc o).heap.size := by simp
  have hbs := hb.size
  have hgN : N ≤ g := by
    rcases hg1 with e | e
    · exact (hlt g e).1
    · simp at e; omega
  have old : ∀ (a : Option Addr) (l : List Tm), Sl w (fun b => Y b ∨ (N ≤ b ∧ some b ≠ v.ownBlock)) a l → Sl w3 (fun b => Y b ∨ (N ≤ b ∧ some b ≠ (Value.slice (some ⟨g, 0, none⟩) (cs.length + 1) cap).ownBlock)) a l := fun a l h0 => by
    have h1 : Sl w (fun b => (Y b ∨ (N ≤ b ∧ some b ≠ v.ownBlock)) ∧ b < w.heap.size) a l := h0.mono fun b h1 h2 => ⟨h1, h2⟩
    have h2 : Sl w3 (fun b => (Y b ∨ (N ≤ b ∧ some b ≠ v.ownBlock)) ∧ b < w.heap.size) a l := h1.kept fun b hx => by
      have hne : some b ≠ v.ownBlock := by
        rcases hx.1 with hy | hy
        · exact h.ne (hY b hy)
        · exact hy.2
      rw [hg.block b (by simp; omega) hne, Below.heap_alloc _ _ _ (by omega), hb.block b hx.2]
    refine h2.mono fun b hx _ => ?_
    rcases hx.1 with hy | hy
    · exact Or.inl hy
    · refine Or.inr ⟨hy.1, fun e => ?_⟩
      simp [Value.ownBlock] at e
      rcases hg1 with e' | e'
      · exact hy.2 (by rw [e', e])
      · simp at e'; omega
  have new : ∀ (a : Option Addr) (l : List Tm), Sl w1 (fun b => Y b ∨ w.heap.size ≤ b) a l → Sl w3 (fun b => Y b ∨ (N ≤ b ∧ some b ≠ (Value.slice (some ⟨g, 0, none⟩) (cs.length + 1) cap).ownBlock)) a l := fun a l h0 => by
    have h1 : Sl w1 (fun b => (Y b ∨ w.heap.size ≤ b) ∧ b < w1.heap.size) a l := h0.mono fun b h1 h2 => ⟨h1, h2⟩
    have h2 : Sl w3 (fun b => (Y b ∨ w.heap.size ≤ b) ∧ b < w1.heap.size) a l := h1.kept fun b hx => by
      have hne : some b ≠ v.ownBlock := by
        rcases hx.1 with hy | hy
        · exact h.ne (hY b hy)
        · intro e; have := (hlt b e.symm).2; omega
      rw [hg.block b (by simp; omega) hne, Below.heap_alloc _ _ _ hx.2]
    refine h2.mono fun b hx _ => ?_
    rcases hx.1 with hy | hy
    · exact Or.inl hy
    · refine Or.inr ⟨by omega, fun e => ?_⟩
      simp [Value.ownBlock] at e
      rcases hg1 with e' | e'
      · have := (hlt g e').2; omega
      · simp at e'; omega
  refine ⟨by rw [flat4_append]; simpa [flat4] using hown, fun y hy => ?_⟩
  rcases List.mem_append.1 hy with hy | hy
  · exact ⟨old _ _ (h.row y hy).1, old _ _ (h.row y hy).2⟩
  · have e : y = x := by simpa using hy
    subst e
    exact ⟨new _ _ ht.1, new _ _ ht.2⟩

/-- As a list of pairs. -/
theorem QRow.qv {w : World} {N : Nat} {Y : Nat → Prop} {v : Value} {cs : List Pc} (h : QRow w N Y v cs) : QV w (fun b => Y b ∨ N ≤ b) v (cs.map (·.1)) := by
  have hml : cs.length ≤ 9223372036854775807 := by
    rcases h.own.2 with ⟨_, h0⟩ | ⟨g, cap, cur, _, _, _, h1, h2, _⟩
    · omega
    · unfold maxLen at h2; omega
  by_cases h0 : 0 < cs.length
  · obtain ⟨g, cap, rfl, hg, hlt, hc⟩ := owned_val h.own h0
    have hcap : cs.length ≤ cap := by
      rcases h.own.2 with ⟨e, _⟩ | ⟨g', cap', cur, e, _, _, h1, _⟩
      · cases e
      · simp at e; omega
    refine ⟨_, cap, by simp, ⟨by simpa using hml, by simpa using hcap⟩, Or.inr ⟨g, 0, rfl, Or.inr hg, fun i hi => ?_⟩⟩
    have hi' : i < cs.length := by simpa using hi
    have g0 := hc (i * 4 + 0) (.string cs[i].1.l.name) (by rw [flat4_get cs i hi' 0 (by decide)]; rfl)
    have g1 := hc (i * 4 + 1) (.slice cs[i].2.1.1 cs[i].1.l.args.length cs[i].2.1.2) (by rw [flat4_get cs i hi' 1 (by decide)]; rfl)
    have g2 := hc (i * 4 + 2) (.string cs[i].1.r.name) (by rw [flat4_get cs i hi' 2 (by decide)]; rfl)
    have g3 := hc (i * 4 + 3) (.slice cs[i].2.2.1 cs[i].1.r.args.length cs[i].2.2.2) (by rw [flat4_get cs i hi' 3 (by decide)]; rfl)
    simp only [List.getElem_map, Nat.zero_add]
    obtain ⟨r1, r2⟩ := h.row cs[i] (List.getElem_mem hi')
    exact ⟨_, _, _, _, g0, g1, g2, g3, r1.mono fun b hb _ => hb.imp id (fun h => h.1), r2.mono fun b hb _ => hb.imp id (fun h => h.1)⟩
  · have e : cs = [] := List.length_eq_zero_iff.1 (by omega)
    subst e
    rcases h.own.2 with ⟨hv, _⟩ | ⟨g, cap, cur, hv, _⟩
    · exact ⟨none, 0, hv, by simp, Or.inl rfl⟩
    · exact ⟨_, _, hv, by simp, Or.inl rfl⟩

theorem Try.infoPair : (Try.prog.info? 48).map (fun i => (i.zero, i.size, i.bytes)) = some (some (.agg #[.string ByteArray.empty, .slice none 0 0, .string ByteArray.empty, .slice none 0 0]), 4, 80) := by kernel_rfl
theorem cell_four_new (w : World) (c0 c1 c2 c3 : Value) (T : Nat) : ∀ j u, [c0, c1, c2, c3][j]? = some u → (w.alloc (.cells #[c0, c1, c2, c3] T)).cell? ((⟨w.heap.size, 0, none⟩ : Addr).add j) = some u :=
  World.news_of_block (cs := #[c0, c1, c2, c3]) (heap_alloc_new w _)
/-- A pair appended to a row of them, and where the row is. -/
theorem pairs_append {w w1 : World} {N : Nat} {Y : Nat → Prop} {v : Value} {cs : List Pc} (h : QRow w N Y v cs) (hN : N ≤ w.heap.size) (hY : ∀ b, Y b → b < N) (hb : Below w.heap.size w w1) (x : Pc) (ht : Sl w1 (fun b => Y b ∨ w.heap.size ≤ b) x.2.1.1 x.1.l.args ∧ Sl w1 (fun b => Y b ∨ w.heap.size ≤ b) x.2.2.1 x.1.r.args) (hn : cs.length ≤ 1000000) (A : Nat) (hA : w1.heap.size = A) :
    ∃ v2 w3, (Builtin.append_ #[23, 23] 23 #[v, .slice (some ⟨A, 0, none⟩) 1 1]).run Try.prog (w1.alloc (.cells #[.string x.1.l.name, .slice x.2.1.1 x.1.l.args.length x.2.1.2, .string x.1.r.name, .slice x.2.2.1 x.1.r.args.length x.2.2.2] 48)) = .ok v2 w3 ∧ QRow w3 N Y v2 (cs ++ [x]) ∧
      (w1.alloc (.cells #[.string x.1.l.name, .slice x.2.1.1 x.1.l.args.length x.2.1.2, .string x.1.r.name, .slice x.2.2.1 x.1.r.args.length x.2.2.2] 48)).grownBy w3 v.ownBlock ∧ ∀ k, v2.ownBlock = some k → v.ownBlock = some k ∨ w1.heap.size ≤ k := by
  subst hA
  obtain ⟨i0, hi, hz0, hz1, hz2⟩ := info_parts Try.infoPair
  have hbs := hb.size
  obtain ⟨g, cap, w3, hr, ho, hg, hat, hlt⟩ := run_append_lies (P := Try.prog) (w := w1.alloc (.cells #[.string x.1.l.name, .slice x.2.1.1 x.1.l.args.length x.2.1.2, .string x.1.r.name, .slice x.2.2.1 x.1.r.args.length x.2.2.2] 48)) 23 23 N 48 i0 _ 4 80 Try.underlying23 hi hz0 hz1 hz2 rfl (by decide) v cs.length (flat4 cs) ((h.below hb).own.alloc _)
    ⟨w1.heap.size, 0, none⟩ 1 1 (enc4 x) rfl (cell_four_new _ _ _ _ _ _) (fun y hy => by simp [enc4] at hy; rcases hy with rfl | rfl | rfl | rfl <;> rfl) (by decide) (by unfold maxLen; omega) (by omega) (by simp; omega) _ rfl
  refine ⟨_, w3, hr, h.push hN hY hb ht _ rfl ho hg hat, hg, fun k hk => ?_⟩
  have e : g = k := by simpa [Value.ownBlock] using hk
  rcases hat with h1 | h1
  · exact Or.inl (by rw [h1, e])
  · right; simp at h1; omega
#print axioms pairs_append
end Go.Proofs.Ytccbocefgoccdaa

/- Two terms made one, step by step: plain. With the limit on bindings (as the document says) and without. -/
namespace Go.Proofs.Ytccbocefgoccdaa
open Go.RowKit
set_option linter.unusedSimpArgs false
set_option linter.unusedVariables false

/-- One binding, put where it belongs. -/
def insB (d : Bd) : List Bd → List Bd
  | [] => [d]
  | e :: r => if ltB d.nm e.nm = true then d :: e :: r else e :: insB d r
def srtB : List Bd → List Bd
  | [] => []
  | d :: r => insB d (srtB r)
theorem insB_perm (d : Bd) : ∀ l, (insB d l).Perm (d :: l)
  | [] => List.Perm.refl _
  | e :: r => by
    rw [insB]
    split
    · exact List.Perm.refl _
    · exact ((insB_perm d r).cons e).trans (List.Perm.swap d e r)
theorem srtB_perm : ∀ l, (srtB l).Perm l
  | [] => List.Perm.refl _
  | d :: r => (insB_perm d _).trans ((srtB_perm r).cons d)
theorem insB_sorted (d : Bd) : ∀ l, SortedB l → (∀ e ∈ l, d.nm ≠ e.nm) → SortedB (insB d l)
  | [], _, _ => by simp [insB, SortedB]
  | e :: r, h, hn => by
    obtain ⟨h1, h2⟩ := List.pairwise_cons.1 h
    rw [insB]
    split
    · rename_i hlt
      refine List.pairwise_cons.2 ⟨fun x hx => ?_, h⟩
      rcases List.mem_cons.1 hx with rfl | hx
      · exact hlt
      · exact ltB_trans hlt (h1 x hx)
    · rename_i hlt
      refine List.pairwise_cons.2 ⟨fun x hx => ?_, insB_sorted d r h2 fun e he => hn e (by simp [he])⟩
      rcases List.mem_cons.1 ((insB_perm d r).subset hx) with rfl | hx
      · cases h3 : ltB e.nm x.nm with
        | true => rfl
        | false => exact absurd (ltB_conn (by simpa using hlt) h3) (hn e (by simp))
      · exact h1 x hx
theorem srtB_sorted : ∀ l, ApartB l → SortedB (srtB l)
  | [], _ => by simp [srtB, SortedB]
  | d :: r, h => by
    obtain ⟨h1, h2⟩ := List.pairwise_cons.1 h
    exact insB_sorted d _ (srtB_sorted r h2) fun e he => h1 e ((srtB_perm r).subset he)

/-- What a step leaves: more to do, or the end. -/
inductive UO where
  | go (s : List Bd) (l : List Pr)
  | stop (e : Int) (s : List Bd)
def zipP : List Tm → List Tm → List Pr
  | a :: r, b :: q => ⟨a, b⟩ :: zipP r q
  | _, _ => []
def putB (x : ByteArray) (t : Tm) (d : Bd) : Bd := ⟨d.nm, onT [⟨x, t⟩] d.t⟩
def grtB (s : List Bd) : Bool := s.any fun d => decide (2000 < sizeL [d.t])
def uBind (lim : Bool) (s : List Bd) (l : List Pr) (x : ByteArray) (t : Tm) : UO :=
  if inB x (varsP [] (preL [t])) = true then .stop 6 s
  else if (lim && grtB (s.map (putB x t))) = true then .stop 8 s
  else .go (srtB (s.map (putB x t) ++ [⟨x, t⟩])) l
def uPair (lim : Bool) (s : List Bd) (l : List Pr) (a b : Tm) : UO :=
  if 2000 < sizeL [a] ∨ 2000 < sizeL [b] then .stop 8 s
  else if varB a.name = true then (if a.name = b.name then .go s l else uBind lim s l a.name b)
  else if varB b.name = true then uBind lim s l b.name a
  else if a.name = b.name ∧ a.args.length = b.args.length then .go s (zipP a.args b.args ++ l)
  else .stop 5 s
def uNext (lim : Bool) (s : List Bd) : List Pr → UO
  | [] => .stop 0 s
  | p :: l => uPair lim s l (onT s p.l) (onT s p.r)
theorem uNext_cons (lim : Bool) (s : List Bd) (p : Pr) (l : List Pr) : uNext lim s (p :: l) = uPair lim s l (onT s p.l) (onT s p.r) := rfl
def uRun (lim : Bool) : Nat → List Bd → List Pr → Option (Int × List Bd)
  | 0, _, _ => none
  | n + 1, s, l => match uNext lim s l with
    | .stop e s' => some (e, s')
    | .go s' l' => uRun lim n s' l'

theorem sizeL_pos (t : Tm) : 1 ≤ sizeL [t] := by
  obtain ⟨s, l⟩ := t
  simp [sizeL]
theorem onL_grow (ls : List Bd) : ∀ l : List Tm, sizeL l ≤ sizeL (onL ls l) := by
  intro l
  induction l using Tm.indL with
  | h0 => simp [onL, sizeL]
  | h s l r ihl ihr =>
    have e1 : sizeL (onL ls (⟨s, l⟩ :: r)) = sizeL [onT ls ⟨s, l⟩] + sizeL (onL ls r) := by
      rw [onL_cons]
      generalize onT ls ⟨s, l⟩ = x
      obtain ⟨s2, m⟩ := x
      simp [sizeL]
    have e2 : sizeL (⟨s, l⟩ :: r) = (1 + sizeL l) + sizeL r := by simp [sizeL]
    have h1 : 1 + sizeL l ≤ sizeL [onT ls ⟨s, l⟩] := by
      by_cases hl : l = []
      · subst hl
        have := sizeL_pos (onT ls ⟨s, []⟩)
        simpa [sizeL] using this
      · rw [onT_deep (Or.inl hl)]
        simp only [sizeL]
        omega
    rw [e1, e2]
    omega
theorem onT_grow (ls : List Bd) (t : Tm) : sizeL [t] ≤ sizeL [onT ls t] := by
  have h := onL_grow ls [t]
  rw [onL_cons] at h
  simpa [onL] using h

theorem grtB_perm {l k : List Bd} (h : l.Perm k) : grtB l = grtB k := by
  unfold grtB
  rw [Bool.eq_iff_iff, List.any_eq_true, List.any_eq_true]
  exact ⟨fun ⟨d, hd, e⟩ => ⟨d, h.subset hd, e⟩, fun ⟨d, hd, e⟩ => ⟨d, h.symm.subset hd, e⟩⟩
theorem grtB_put {s : List Bd} (x : ByteArray) (t : Tm) (h : grtB s = true) : grtB (s.map (putB x t)) = true := by
  unfold grtB at *
  rw [List.any_eq_true] at *
  obtain ⟨d, hd, e⟩ := h
  refine ⟨putB x t d, List.mem_map.2 ⟨d, hd, rfl⟩, ?_⟩
  have h1 := onT_grow [⟨x, t⟩] d.t
  simp only [decide_eq_true_eq] at e ⊢
  exact Nat.lt_of_lt_of_le e h1
theorem grtB_new {s : List Bd} (x : ByteArray) (t : Tm) : grtB (srtB (s.map (putB x t) ++ [⟨x, t⟩])) = (grtB (s.map (putB x t)) || decide (2000 < sizeL [t])) := by
  rw [grtB_perm (srtB_perm _)]
  unfold grtB
  rw [List.any_append]
  simp
/-- What is too great stays so. -/
theorem uNext_great {lim : Bool} {s s' : List Bd} {l l' : List Pr} (h : uNext lim s l = .go s' l') (hg : grtB s = true) : grtB s' = true := by
  cases l with
  | nil => cases h
  | cons p l =>
    have bind : ∀ x t, uBind lim s l x t = .go s' l' → grtB s' = true := fun x t h => by
      unfold uBind at h
      split at h
      · cases h
      · split at h
        · cases h
        · cases h
          rw [grtB_new, grtB_put x t hg]
          rfl
    rw [uNext_cons] at h
    unfold uPair at h
    generalize onT s p.l = a at h
    generalize onT s p.r = b at h
    split at h
    · cases h
    · split at h
      · split at h
        · cases h; exact hg
        · exact bind _ _ h
      · split at h
        · exact bind _ _ h
        · split at h
          · cases h; exact hg
          · cases h
theorem uNext_stop {lim : Bool} {s s' : List Bd} {l : List Pr} {e : Int} (h : uNext lim s l = .stop e s') : s' = s := by
  cases l with
  | nil => cases h; rfl
  | cons p l =>
    have bind : ∀ x t, uBind lim s l x t = .stop e s' → s' = s := fun x t h => by
      unfold uBind at h
      split at h
      · cases h; rfl
      · split at h
        · cases h; rfl
        · cases h
    rw [uNext_cons] at h
    unfold uPair at h
    generalize onT s p.l = a at h
    generalize onT s p.r = b at h
    split at h
    · cases h; rfl
    · split at h
      · split at h
        · cases h
        · exact bind _ _ h
      · split at h
        · exact bind _ _ h
        · split at h
          · cases h
          · cases h; rfl
theorem uRun_great {lim : Bool} : ∀ (n : Nat) (s : List Bd) (l : List Pr) (e : Int) (sf : List Bd), uRun lim n s l = some (e, sf) → grtB s = true → grtB sf = true
  | 0, _, _, _, _, h, _ => by cases h
  | n + 1, s, l, e, sf, h, hg => by
    rw [uRun] at h
    cases hn : uNext lim s l with
    | stop e' s' =>
      rw [hn] at h
      cases h
      rw [uNext_stop hn]; exact hg
    | go s' l' =>
      rw [hn] at h
      exact uRun_great n s' l' e sf h (uNext_great hn hg)
/-- With the limit a step is the same, or it ends since something has become too great. -/
theorem uNext_lim {s : List Bd} {l : List Pr} : uNext true s l = uNext false s l ∨ (uNext true s l = .stop 8 s ∧ ∃ s' l', uNext false s l = .go s' l' ∧ grtB s' = true) := by
  cases l with
  | nil => exact Or.inl rfl
  | cons p l =>
    have bind : ∀ x t, uBind true s l x t = uBind false s l x t ∨ (uBind true s l x t = .stop 8 s ∧ ∃ s' l', uBind false s l x t = .go s' l' ∧ grtB s' = true) := fun x t => by
      unfold uBind
      by_cases h1 : inB x (varsP [] (preL [t])) = true
      · rw [if_pos h1, if_pos h1]; exact Or.inl rfl
      · rw [if_neg h1, if_neg h1]
        cases h2 : grtB (s.map (putB x t)) with
        | true => exact Or.inr ⟨rfl, _, _, rfl, by rw [grtB_new, h2]; rfl⟩
        | false => exact Or.inl rfl
    rw [uNext_cons, uNext_cons]
    unfold uPair
    generalize onT s p.l = a
    generalize onT s p.r = b
    by_cases h1 : 2000 < sizeL [a] ∨ 2000 < sizeL [b]
    · rw [if_pos h1, if_pos h1]; exact Or.inl rfl
    · rw [if_neg h1, if_neg h1]
      by_cases h2 : varB a.name = true
      · rw [if_pos h2, if_pos h2]
        by_cases h3 : a.name = b.name
        · rw [if_pos h3, if_pos h3]; exact Or.inl rfl
        · rw [if_neg h3, if_neg h3]; exact bind _ _
      · rw [if_neg h2, if_neg h2]
        by_cases h3 : varB b.name = true
        · rw [if_pos h3, if_pos h3]; exact bind _ _
        · rw [if_neg h3, if_neg h3]; exact Or.inl rfl
/-- With the limit: too great, if at the end something is; else the same. -/
theorem uRun_lim : ∀ (n : Nat) (s : List Bd) (l : List Pr) (e : Int) (sf : List Bd), uRun false n s l = some (e, sf) → grtB s = false → ∃ e' sf', uRun true n s l = some (e', sf') ∧ (grtB sf = true → e' = 8) ∧ (grtB sf = false → e' = e ∧ sf' = sf)
  | 0, _, _, _, _, h, _ => by cases h
  | n + 1, s, l, e, sf, h, hg => by
    rw [uRun] at h
    rcases uNext_lim (s := s) (l := l) with h1 | ⟨h1, s', l', h2, h3⟩
    · rw [uRun, h1]
      cases hn : uNext false s l with
      | stop e' s' =>
        rw [hn] at h
        cases h
        refine ⟨e, sf, rfl, fun h4 => ?_, fun _ => ⟨rfl, rfl⟩⟩
        rw [uNext_stop hn, hg] at h4
        cases h4
      | go s' l' =>
        rw [hn] at h
        cases h4 : grtB s' with
        | false => exact uRun_lim n s' l' e sf h h4
        | true =>
          exfalso
          rw [hn] at h1
          have h5 : grtB s' = false := by
            cases l with
            | nil => cases hn
            | cons p l =>
              have bind : ∀ x t, sizeL [t] ≤ 2000 → uBind true s l x t = .go s' l' → grtB s' = false := fun x t ht h => by
                unfold uBind at h
                split at h
                · cases h
                · split at h
                  · cases h
                  · rename_i h6
                    cases h
                    rw [grtB_new]
                    simp only [Bool.true_and, Bool.not_eq_true] at h6
                    rw [h6]
                    simp; omega
              rw [uNext_cons] at h1
              unfold uPair at h1
              generalize onT s p.l = a at h1
              generalize onT s p.r = b at h1
              split at h1
              · cases h1
              · rename_i h7
                split at h1
                · split at h1
                  · cases h1; exact hg
                  · exact bind _ _ (by omega) h1
                · split at h1
                  · exact bind _ _ (by omega) h1
                  · split at h1
                    · cases h1; exact hg
                    · cases h1
          rw [h5] at h4
          cases h4
    · rw [h2] at h
      have h4 := uRun_great n s' l' e sf h h3
      refine ⟨8, s, by rw [uRun, h1], fun _ => rfl, fun h5 => ?_⟩
      rw [h4] at h5
      cases h5
#print axioms uRun_lim
end Go.Proofs.Ytccbocefgoccdaa


/- Walks: Fill. -/
namespace Go.Proofs.Ytccbocefgoccdaa
open Go.RowKit
set_option linter.unusedSimpArgs false
set_option linter.unusedVariables false
set_option maxRecDepth 8000

end Go.Proofs.Ytccbocefgoccdaa


/- Walks: subst's fill. -/
namespace Go.Proofs.Ytccbocefgoccdaa
open Go.RowKit
set_option linter.unusedSimpArgs false
set_option linter.unusedVariables false
set_option maxRecDepth 8000

end Go.Proofs.Ytccbocefgoccdaa


/- Walks: whether bindings may be. -/
namespace Go.Proofs.Ytccbocefgoccdaa
open Go.RowKit
set_option linter.unusedSimpArgs false
set_option linter.unusedVariables false
set_option maxRecDepth 8000

def ScInv (ls : List Bd) (w : World) (v : Value) (wr : World) : Prop := ∃ k : Nat, v = .int .i64 (k : Int) ∧ k ≤ ls.length ∧ bmT ls k = 0 ∧ Below w.heap.size w wr

end Go.Proofs.Ytccbocefgoccdaa


/- Walks: Apply. -/
namespace Go.Proofs.Ytccbocefgoccdaa
open Go.RowKit
set_option linter.unusedSimpArgs false
set_option linter.unusedVariables false
set_option maxRecDepth 8000

def ApPost (w : World) (ls : List Bd) (t : Tm) (e : Ending) (w' : World) : Prop :=
  Below w.heap.size w w' ∧ ((bindsE ls ≠ 0 ∧ e = .returned (.tuple #[.agg #[.string ⟨#[]⟩, .slice none 0 0], .int .i64 (bindsE ls)])) ∨ (bindsE ls = 0 ∧ mayE t ≠ 0 ∧ e = .returned (.tuple #[.agg #[.string ⟨#[]⟩, .slice none 0 0], .int .i64 (mayE t)])) ∨
    (bindsE ls = 0 ∧ mayE t = 0 ∧ ((sizeL [fT ls t] ≤ 2000 ∧ ∃ a' c', e = .returned (.tuple #[.agg #[.string (fT ls t).name, .slice a' (fT ls t).args.length c'], .int .i64 0]) ∧ Sl w' (fun b => w.heap.size ≤ b) a' (fT ls t).args) ∨ (2000 < sizeL [fT ls t] ∧ e = .returned (.tuple #[.agg #[.string ⟨#[]⟩, .slice none 0 0], .int .i64 8])))))

end Go.Proofs.Ytccbocefgoccdaa
