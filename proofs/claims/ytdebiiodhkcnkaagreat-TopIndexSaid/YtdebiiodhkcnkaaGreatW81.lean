import Derived.Test.YtdebiiodhkcnkaaGreatSortL
import Derived.Test.YtdebiiodhkcnkaaGreatSrtW
import Derived.Test.YtdebiiodhkcnkaaGreatZCTopIndexOwn
namespace Go.Proofs.YtdebiiodhkcnkaaGreat
open Go.RowKit Go.Sort Go.Proofs
set_option linter.unusedSimpArgs false
set_option linter.unusedVariables false
set_option maxRecDepth 8000
set_option maxHeartbeats 2000000 in
theorem insertionNone_any (p : Option Addr) (cap : Nat) (fv : Value) (w : World) :
  Calls Tryz.prog 96 #[.slice p 0 cap, .int .i64 0, .int .i64 0, fv] w fun e w' => e = .returned (.tuple #[]) ∧ w' = w := by
 go_enter Tryz.func96, Tryz.ntmps96
 go_wp2_with fail
 refine wp_loop_rounds 1 ?_
 rw [rounds_succ]
 go_wp2_with fail
 go_end0
 exact ⟨rfl, rfl⟩
set_option maxHeartbeats 2000000 in
theorem pdqNone_any (p : Option Addr) (cap : Nat) (lim : Int) (fv : Value) (w : World) :
  Calls Tryz.prog 73 #[.slice p 0 cap, .int .i64 0, .int .i64 0, .int .i64 lim, fv] w fun e w' => e = .returned (.tuple #[]) ∧ w' = w := by
 go_enter Tryz.func73, Tryz.ntmps73
 go_wp2_with fail
 refine wp_loop_rounds 1 ?_
 rw [rounds_succ]
 go_wp2_with (go_at_call 96; refine (insertionNone_any _ _ _ _).mono ?_; rintro e w' ⟨rfl, rfl⟩)
 (try simp only [Exit.inBlock, Exit.then]); refine bodyPost_ret (results_none rfl _ _ _) rfl ?_
 exact ⟨rfl, rfl⟩
set_option maxHeartbeats 2000000 in
theorem sortNone_any (p : Option Addr) (cap : Nat) (fv : Value) (w : World) :
  Calls Tryz.prog 54 #[.slice p 0 cap, fv] w fun e w' => e = .returned (.tuple #[]) ∧ w' = w := by
 have hl : ∀ W, Calls Tryz.prog 71 #[.int .u64 0] W fun e w' => e = .returned (.int .i64 (Lib.bitLen 0 : Nat)) ∧ w' = W := fun W => by
  have h := Any.bits_Len (SlLaysF0.n15.bits (P := Tryz.prog) (ρ := Tryz.sortBind_ren) { Tryz.sortBind with }) 0 W (by omega) (by omega)
  exact h
 go_enter Tryz.func54, Tryz.ntmps54
 go_wp2_with (first | (go_at_call 71; refine (hl _).mono ?_; rintro e w' ⟨rfl, rfl⟩) | (go_at_call 73; refine (pdqNone_any _ _ _ _ _).mono ?_; rintro e w' ⟨rfl, rfl⟩))
 go_end0
 exact ⟨rfl, rfl⟩
theorem ltOf_cmpN (x y : Bc) : ltOf (fun x y : Bc => cmpN x.1.nm y.1.nm) x y = ltB x.1.nm y.1.nm := by
 unfold ltOf cmpN
 cases h : ltB x.1.nm y.1.nm with
 | true => simp [h]
 | false => cases h2 : ltB y.1.nm x.1.nm <;> simp [h, h2]
theorem swo_cmpN : SWO (ltOf fun x y : Bc => cmpN x.1.nm y.1.nm) where
 irrefl x := by rw [ltOf_cmpN]; exact ltB_irrefl _
 trans x y z h1 h2 := by rw [ltOf_cmpN] at *; exact ltB_trans h1 h2
 ntrans x y z h1 h2 := by rw [ltOf_cmpN] at *; exact ltB_ntrans h1 h2
set_option maxHeartbeats 1000000 in
theorem sortBinds : SortBinds := by
 intro cs v w N Y h hY hn
 by_cases h0 : 0 < cs.length
 ·obtain ⟨g, cap, rfl, hN, hlt⟩ := h.own.form h0
  have hH : HoldsK enc3 3 w g 0 cs.toArray := by
   rcases h.own.2 with ⟨e, _⟩ | ⟨g', cap', cur, e, _, hb, _, _, _, h4⟩
   ·cases e
   ·simp at e
    obtain ⟨rfl, rfl⟩ := e
    exact holdsK_row hb h4
  have eg : ∀ args w, (callFunc 55 args).run Tryz.prog w = .ok (.enter 55 args) w := enters_of Tryz.func55 (by kernel_rfl) rfl
  have hcon := AnyQ.slices_SortFunc Tryz.sortBind 3 Tryz.isAgg82 Tryz.sizeOf82 enc3 (fun _ => rfl) (fun x v hv => by simp [enc3] at hv; rcases hv with rfl | rfl | rfl <;> rfl) (fun x y => cmpN x.1.nm y.1.nm) swo_cmpN 55 #[] g 0 cap cs.toArray w eg (fun _ _ _ _ x y => inOrder1_any x y _) hH hlt (by simpa using hn)
  change Calls Tryz.prog 54 _ _ _ at hcon
  have hsz : cs.toArray.size = cs.length := by simp
  rw [hsz] at hcon
  refine hcon.mono ?_
  rintro e w' ⟨rfl, d', n, os, hp, hs, rfl⟩
  obtain ⟨hp1, _, hp3⟩ := hp
  have hd : d'.size = cs.length := by simpa using hp1
  have hp4 : d'.toList.Perm cs := by
   have e1 : d'.extract 0 cs.length = d' := by rw [← hd]; simp
   have e2 : cs.toArray.extract 0 cs.length = cs.toArray := by rw [← hsz]; exact Array.extract_size
   rw [e1, e2] at hp3
   simpa using hp3
  obtain ⟨r1, r2⟩ := h.sorted (n := n) (os := os) hY hp4
  refine ⟨rfl, d'.toList, hp4, ?_, r1, r2⟩
  rw [List.pairwise_iff_getElem]
  intro i j hi hj hij
  have := hs i j (Nat.zero_le _) hij (by simpa [hd] using hj)
  rw [ltOf_cmpN, getElem!_pos _ j (by simpa using hj), getElem!_pos _ i (by simpa using hi)] at this
  simpa using this
 ·have e : cs = [] := List.length_eq_zero_iff.1 (by omega)
  subst e
  obtain ⟨p, cap, rfl⟩ : ∃ p cap, v = .slice p 0 cap := by
   rcases h.own.2 with ⟨e, _⟩ | ⟨g', cap', cur, e, _⟩
   ·exact ⟨none, 0, e⟩
   ·exact ⟨_, _, e⟩
  refine (sortNone_any p cap _ w).mono ?_
  rintro e w' ⟨rfl, rfl⟩
  exact ⟨rfl, [], List.Perm.refl _, List.Pairwise.nil, h, ⟨rfl, rfl, rfl, Nat.le_refl _, fun _ _ _ => rfl⟩⟩
end Go.Proofs.YtdebiiodhkcnkaaGreat
