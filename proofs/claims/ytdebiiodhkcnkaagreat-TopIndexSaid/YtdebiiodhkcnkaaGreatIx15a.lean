import Derived.Test.YtdebiiodhkcnkaaGreatIx14
namespace Go.Proofs.YtdebiiodhkcnkaaGreat
open Go.RowKit
set_option linter.unusedSimpArgs false
set_option linter.unusedVariables false
set_option maxRecDepth 8000
noncomputable def metF (k : Nat) (ts : List Tm) (t : Tm) : Nat → Bool := by classical exact fun n => if h : n < ts.length then decide (MetP k ts[n] t) else false
theorem metF_iff {k n : Nat} {ts : List Tm} {t : Tm} (h : n < ts.length) : metF k ts t n = true ↔ MetP k ts[n] t := by unfold metF; simp [h]
noncomputable def flI (k : Nat) (ts : List Tm) (t : Tm) (m : Nat) : List Nat := (List.range m).filter (metF k ts t)
theorem asc_flI {k : Nat} {ts : List Tm} {t : Tm} {met : Nat → Bool} (h : ∀ n (h : n < ts.length), met n = true ↔ MetP k ts[n] t) : ascI ts.length met = (flI k ts t ts.length).map fun n : Nat => (n : Int) := by
 unfold ascI flI
 congr 1
 refine List.filter_congr fun n hn => ?_
 have hn' : n < ts.length := by simpa using hn
 have h1 := (h n hn').trans (metF_iff hn').symm
 cases hm : met n <;> cases hf : metF k ts t n <;> simp_all
noncomputable def tldI (k : Nat) (ts : List Tm) (t : Tm) : List Nat := if mayE t = 0 then flI k ts t ts.length else []
def AnsP (k : Nat) (ts : List Tm) (t : Tm) (w : World) (e : Ending) (w' : World) : Prop :=
 ∃ v, e = .returned (.tuple #[v, .int .i64 (mayE t)]) ∧ LV (fun z : Int => .int .i64 z) w' (fun _ => True) v ((tldI k ts t).map fun n : Nat => (n : Int)) ∧ Below w.heap.size w w'
theorem AskP.ans {k : Nat} {ts : List Tm} {t : Tm} {w w' : World} {e : Ending} (h : AskP k ts t w e w') : AnsP k ts t w e w' := by
 obtain ⟨hb, ⟨h0, rfl⟩ | ⟨h0, v, met, rfl, hm, hl⟩⟩ := h
 ·refine ⟨_, rfl, ?_, hb⟩
  unfold tldI; rw [if_neg h0]
  exact ⟨none, 0, rfl, ⟨by simp, by simp⟩, Or.inl rfl⟩
 ·refine ⟨v, by rw [h0], ?_, hb⟩
  unfold tldI; rw [if_pos h0, ← asc_flI hm]
  exact hl
set_option maxHeartbeats 2000000 in
theorem overI_any {t : Tm} {ts : List Tm} (hts : ∀ x ∈ ts, mayE x = 0) (hl : ts.length ≤ 40) (N X : Nat) (w : World) (hI : IdxW w N X ts) (ta : Option Addr) (tc : Nat) (hst : Sl w (fun _ => True) ta t.args) :
  Calls Tryz.prog 10 #[.pointer (some ⟨X, 0, none⟩), .agg #[.string t.name, .slice ta t.args.length tc]] w fun e w' => AnsP 0 ts t w e w' := by
 have H1 : Hid (Below w.heap.size w (w.alloc (.cells #[.string t.name, .slice ta t.args.length tc] 26))) := (Below.refl _ _).alloc (Nat.le_refl _) _
 have HC := hide (ask_any 0 (by omega) hts hl N X _ (hI.later H1.out) ta tc (hst.later H1.out))
 clear hI hst
 go_enter Tryz.func10, Tryz.ntmps10
 go_wp2_with (go_at_call 27; refine HC.out.mono ?_; intro e w2 h2; obtain ⟨v, rfl, hv, hb⟩ := h2.ans; have HV := hide hv; have HB := hide hb; clear hv hb h2)
 refine bodyPost_ret (v := .tuple #[v, .int .i64 (mayE t)]) (by simp [results, Tryz.results10, go_sem]) rfl ?_
 exact ⟨v, rfl, HV.out, H1.out.trans (HB.out.mono H1.out.size)⟩
set_option maxHeartbeats 2000000 in
theorem underI_any {t : Tm} {ts : List Tm} (hts : ∀ x ∈ ts, mayE x = 0) (hl : ts.length ≤ 40) (N X : Nat) (w : World) (hI : IdxW w N X ts) (ta : Option Addr) (tc : Nat) (hst : Sl w (fun _ => True) ta t.args) :
  Calls Tryz.prog 11 #[.pointer (some ⟨X, 0, none⟩), .agg #[.string t.name, .slice ta t.args.length tc]] w fun e w' => AnsP 1 ts t w e w' := by
 have H1 : Hid (Below w.heap.size w (w.alloc (.cells #[.string t.name, .slice ta t.args.length tc] 26))) := (Below.refl _ _).alloc (Nat.le_refl _) _
 have HC := hide (ask_any 1 (by omega) hts hl N X _ (hI.later H1.out) ta tc (hst.later H1.out))
 clear hI hst
 go_enter Tryz.func11, Tryz.ntmps11
 go_wp2_with (go_at_call 27; refine HC.out.mono ?_; intro e w2 h2; obtain ⟨v, rfl, hv, hb⟩ := h2.ans; have HV := hide hv; have HB := hide hb; clear hv hb h2)
 refine bodyPost_ret (v := .tuple #[v, .int .i64 (mayE t)]) (by simp [results, Tryz.results11, go_sem]) rfl ?_
 exact ⟨v, rfl, HV.out, H1.out.trans (HB.out.mono H1.out.size)⟩
set_option maxHeartbeats 2000000 in
theorem nearI_any {t : Tm} {ts : List Tm} (hts : ∀ x ∈ ts, mayE x = 0) (hl : ts.length ≤ 40) (N X : Nat) (w : World) (hI : IdxW w N X ts) (ta : Option Addr) (tc : Nat) (hst : Sl w (fun _ => True) ta t.args) :
  Calls Tryz.prog 12 #[.pointer (some ⟨X, 0, none⟩), .agg #[.string t.name, .slice ta t.args.length tc]] w fun e w' => AnsP 2 ts t w e w' := by
 have H1 : Hid (Below w.heap.size w (w.alloc (.cells #[.string t.name, .slice ta t.args.length tc] 26))) := (Below.refl _ _).alloc (Nat.le_refl _) _
 have HC := hide (ask_any 2 (by omega) hts hl N X _ (hI.later H1.out) ta tc (hst.later H1.out))
 clear hI hst
 go_enter Tryz.func12, Tryz.ntmps12
 go_wp2_with (go_at_call 27; refine HC.out.mono ?_; intro e w2 h2; obtain ⟨v, rfl, hv, hb⟩ := h2.ans; have HV := hide hv; have HB := hide hb; clear hv hb h2)
 refine bodyPost_ret (v := .tuple #[v, .int .i64 (mayE t)]) (by simp [results, Tryz.results12, go_sem]) rfl ?_
 exact ⟨v, rfl, HV.out, H1.out.trans (HB.out.mono H1.out.size)⟩
theorem Sl.getA {w : World} {X : Nat → Prop} {a : Option Addr} {l : List Tm} (h : Sl w X a l) (k : Nat) (hk : k < l.length) :
  ∃ b o a' c', a = some ⟨b, o, none⟩ ∧ ∀ w', Below w.heap.size w w' → w'.cell? ⟨b, o + k * 2, none⟩ = some (.string l[k].name) ∧ w'.cell? ⟨b, o + k * 2 + 1, none⟩ = some (.slice a' l[k].args.length c') ∧ TV w' (fun _ => True) (.agg #[.string l[k].name, .slice a' l[k].args.length c']) l[k] ∧ Sl w' (fun _ => True) a' l[k].args := by
 obtain ⟨b, o, a', c', rfl, d0, d1, a9, c9, e9, h9⟩ := h.get (Below.refl w.heap.size w) (fun _ _ h => h) k hk
 simp at e9
 obtain ⟨⟨rfl, rfl⟩⟩ := e9
 have hlt : b < w.heap.size := World.block_lt_of_cell? w _ d0
 refine ⟨b, o, _, _, rfl, fun w' hb => ⟨(hb.cell (p := ⟨b, o + k * 2, none⟩) hlt).trans d0, (hb.cell (p := ⟨b, o + k * 2 + 1, none⟩) hlt).trans d1, ⟨_, _, rfl, (h9.later hb).mono fun _ _ _ => trivial⟩, (h9.later hb).mono fun _ _ _ => trivial⟩⟩
structure Rw3 (N : Nat) (w : World) (v1 v2 v3 : Value) (l1 l2 l3 : List Nat) : Prop where
 r1 : w.ownsRow N 3 1 v1 l1.length (nuV l1)
 r2 : w.ownsRow N 3 1 v2 l2.length (nuV l2)
 r3 : w.ownsRow N 3 1 v3 l3.length (nuV l3)
 d1 : ∀ b, v1.ownBlock = some b → v2.ownBlock ≠ some b
 d2 : ∀ b, v2.ownBlock = some b → v3.ownBlock ≠ some b
 d3 : ∀ b, v3.ownBlock = some b → v1.ownBlock ≠ some b
theorem Rw3.later {N : Nat} {w w' : World} {v1 v2 v3 : Value} {l1 l2 l3 : List Nat} (h : Rw3 N w v1 v2 v3 l1 l2 l3) (hb : Below w.heap.size w w') : Rw3 N w' v1 v2 v3 l1 l2 l3 :=
 ⟨ownsRow_at h.r1 fun b hv => hb.block b (h.r1.lt b hv).2, ownsRow_at h.r2 fun b hv => hb.block b (h.r2.lt b hv).2, ownsRow_at h.r3 fun b hv => hb.block b (h.r3.lt b hv).2, h.d1, h.d2, h.d3⟩
theorem Rw3.start (N : Nat) (w : World) : Rw3 N w (.slice none 0 0) (.slice none 0 0) (.slice none 0 0) [] [] [] :=
 ⟨World.ownsRow_nil _ _ _ _, World.ownsRow_nil _ _ _ _, World.ownsRow_nil _ _ _ _, (fun _ h => by cases h), (fun _ h => by cases h), (fun _ h => by cases h)⟩
theorem Rw3.add {N : Nat} {w W2 : World} {v1 v2 v3 : Value} {l1 l2 l3 : List Nat} (h : Rw3 N w v1 v2 v3 l1 l2 l3) (hN : N ≤ w.heap.size) (hB : Below N W2 w) (hs : l1.length ≤ 1000000) (n : Nat) :
  ∃ v' w', (Builtin.append_ #[22, 22] 22 #[v1, .slice (some ⟨w.heap.size, 0, none⟩) 1 1]).run Tryz.prog (w.alloc (.cells #[.int .i64 (n : Int)] 3)) = .ok v' w' ∧ Rw3 N w' v' v2 v3 (l1 ++ [n]) l2 l3 ∧ Below N W2 w' ∧ N ≤ w'.heap.size := by
 have hA := h.later ((Below.refl _ _).alloc (Nat.le_refl _) (.cells #[.int .i64 (n : Int)] 3))
 obtain ⟨g, cap, w', h1, h2, h3, h4⟩ := app_num hA.r1 (by rw [World.size_alloc]; omega) hs n w.heap.size (Blk.new _ _ _)
 have hz : N ≤ w'.heap.size := by have := h3.size; rw [World.size_alloc] at this; omega
 refine ⟨_, w', h1, ⟨?_, hA.r2.kept h3 ?_, hA.r3.kept h3 ?_, fun b hb => ?_, h.d2, fun b hb => ?_⟩, ?_, hz⟩
 ·rw [List.length_append] at h2 ⊢; exact h2
 ·cases e : v2.ownBlock with
  | none => exact Or.inl rfl
  | some b => exact Or.inr fun e2 => h.d1 b e2.symm e
 ·cases e : v3.ownBlock with
  | none => exact Or.inl rfl
  | some b => exact Or.inr fun e2 => h.d3 b e e2.symm
 ·have e : g = b := by simpa [Value.ownBlock] using hb
  subst e
  rcases h4 with h5 | h5
  ·exact h.d1 g h5
  ·intro e; have := (h.r2.lt g e).2; rw [World.size_alloc] at h5; omega
 ·intro e2
  have e : g = b := by simpa [Value.ownBlock] using e2
  subst e
  rcases h4 with h5 | h5
  ·exact h.d3 g hb h5
  ·have := (h.r3.lt g hb).2; rw [World.size_alloc] at h5; omega
 ·have hB1 : Below N W2 (w.alloc (.cells #[.int .i64 (n : Int)] 3)) := hB.alloc hN _
  exact hB1.grown h3 (by rw [World.size_alloc]; omega) fun k hk => (h.r1.lt k hk).1
end Go.Proofs.YtdebiiodhkcnkaaGreat
