/- Several texts in one. -/
import Derived.Test.YtofebfjkodceeaaZUAutoMadeOwn
import Derived.Test.YtofebfjkodceeaaZIAutoMadeOwn
import Derived.Test.YtofebfjkodceeaaAx4
import Derived.Test.YtofebfjkodceeaaZAutoMadeOwn
namespace Go.Proofs.Ytofebfjkodceeaa
open Go.RowKit
set_option linter.unusedSimpArgs false
set_option linter.unusedVariables false
set_option maxRecDepth 8000
structure RowG (w : World) (N : Nat) (Z : Nat → Prop) (v : Value) (l : List Tm) (xs : List Value) : Prop where
 own : w.ownsRow N 30 2 v l.length xs
 row : RowT w Z l xs
theorem RowG.start (w : World) (N : Nat) (Z : Nat → Prop) : RowG w N Z (.slice none 0 0) [] [] := ⟨World.ownsRow_nil w N _ 2, rfl⟩
theorem RowG.mono {w : World} {N : Nat} {Z Z' : Nat → Prop} {v : Value} {l : List Tm} {xs : List Value} (h : RowG w N Z v l xs) (hZ : ∀ b, Z b → b < w.heap.size → Z' b) : RowG w N Z' v l xs :=
 ⟨h.own, h.row.imp fun a l hs => hs.mono hZ⟩
theorem RowG.exq {w w' : World} {N : Nat} {Q Z : Nat → Prop} {v : Value} {l : List Tm} {xs : List Value} (h : RowG w N Z v l xs) (he : ExQ Q w w') (hv : ∀ b, v.ownBlock = some b → ¬ Q b) (hZ : ∀ b, Z b → ¬ Q b) : RowG w' N Z v l xs :=
 ⟨ownsRow_at h.own fun g hg => he.block g (h.own.lt g hg).2 (hv g hg), h.row.imp fun a l hs => hs.exq he hZ⟩
theorem RowG.below {w w' : World} {N : Nat} {Z : Nat → Prop} {v : Value} {l : List Tm} {xs : List Value} (h : RowG w N Z v l xs) (hb : Below w.heap.size w w') : RowG w' N Z v l xs :=
 ⟨ownsRow_at h.own fun g hg => hb.block g (h.own.lt g hg).2, h.row.imp fun a l hs => hs.later hb⟩
theorem RowG.shape {w : World} {N : Nat} {Z : Nat → Prop} {v : Value} {l : List Tm} {xs : List Value} (h : RowG w N Z v l xs) : ∃ a c, v = .slice a l.length c := by
 rcases h.own.2 with ⟨h1, h0⟩ | ⟨g, cap, cur, h1, _⟩
 ·exact ⟨none, 0, by rw [h1, h0]⟩
 ·exact ⟨_, _, h1⟩
theorem RowG.sl {w : World} {N : Nat} {Z : Nat → Prop} {a : Option Addr} {c : Nat} {l : List Tm} {xs : List Value} (h : RowG w N Z (.slice a l.length c) l xs) : Sl w (fun b => Z b ∨ (Value.slice a l.length c).ownBlock = some b) a l := by
 rcases h.own.2 with ⟨h1, h0⟩ | ⟨g, cap, cur, h1, _, _, hnc, hcm, _⟩
 ·have : l = [] := List.length_eq_zero_iff.1 h0
  subst this
  exact ⟨by simp, Or.inl rfl⟩
 ·have hc := h.own.cells (g := g) (by rw [h1]; rfl)
  cases h1
  unfold maxLen at hcm
  refine ⟨by omega, Or.inr ⟨g, 0, rfl, ?_⟩⟩
  refine lies_of_rowT (w := w) (X := Z) g (Or.inr rfl) l xs 0 h.row (fun a k hs => hs.mono fun b hb _ => Or.inl hb) fun j u hj => ?_
  have := hc j u hj
  rw [show (⟨g, 0, none⟩ : Addr).add j = ⟨g, 0 + j, none⟩ by by_cases h0 : j = 0 <;> simp [Addr.add, h0]] at this
  exact this
theorem cell_termG (w : World) (s : ByteArray) (u : Value) (T : Nat) : ∀ j v, [Value.string s, u][j]? = some v → (w.alloc (.cells #[.string s, u] T)).cell? ((⟨w.heap.size, 0, none⟩ : Addr).add j) = some v :=
 World.news_of_block (cs := #[.string s, u]) (heap_alloc_new w _)
theorem app_termG {w : World} {N : Nat} {Z : Nat → Prop} {u : Value} {L : List Tm} {xs : List Value} {z : Tm} {a1 : Option Addr} {c : Nat} (h : RowG w N Z u L xs) (hN : N ≤ w.heap.size) (hZ : ∀ b, Z b → some b ≠ u.ownBlock) (hl : L.length ≤ 1000000) (hz : Sl w Z a1 z.args) :
  ∃ g cap w3, (Builtin.append_ #[28, 28] 28 #[u, .slice (some ⟨w.heap.size, 0, none⟩) 1 1]).run Try.prog (w.alloc (.cells #[.string z.name, .slice a1 z.args.length c] 30)) = .ok (.slice (some ⟨g, 0, none⟩) (L.length + 1) cap) w3 ∧
   RowG w3 N (fun b => Z b ∧ b ≠ g) (.slice (some ⟨g, 0, none⟩) (L.length + 1) cap) (L ++ [z]) (xs ++ [.string z.name, .slice a1 z.args.length c]) ∧ ExQ (fun b => some b = u.ownBlock) w w3 ∧ (u.ownBlock = some g ∨ g = w.heap.size + 1) := by
 obtain ⟨i0, hi, hz0, hz1, hz2⟩ := info_parts Try.infoTerm
 obtain ⟨g, cap, w3, hr, ho, hg, hat, _⟩ := run_append_lies (P := Try.prog) (w := w.alloc (.cells #[.string z.name, .slice a1 z.args.length c] 30)) 28 28 N 30 i0 _ 2 40 Try.underlying28 hi hz0 hz1 hz2 rfl (by decide) u L.length xs (h.own.alloc _) ⟨w.heap.size, 0, none⟩ 1 1 [.string z.name, .slice a1 z.args.length c] rfl (cell_termG _ _ _ _) (fun x hx => by simp at hx; rcases hx with rfl | rfl <;> rfl) (by decide) (by unfold maxLen; omega) (by omega) (by simp; omega) _ rfl
 have he : ExQ (fun b => some b = u.ownBlock) w w3 := ((ExQ.refl _ w).alloc _).grown hg (fun k hk => Or.inr hk.symm)
 have hold : ∀ (a : Option Addr) (l : List Tm), Sl w Z a l → Sl w3 (fun b => Z b ∧ b ≠ g) a l := fun a l hs =>
  ((hs.mono (Y := fun b => Z b ∧ b < w.heap.size) fun b h1 h2 => ⟨h1, h2⟩).exq he (fun b hb e => hZ b hb.1 e)).mono fun b hb _ => ⟨hb.1, fun e => by
   subst e
   rcases hat with e' | e'
   ·exact hZ b hb.1 e'.symm
   ·simp at e'; omega⟩
 refine ⟨g, cap, w3, hr, ⟨by simpa using ho, RowT.append (h.row.imp hold) ⟨a1, c, [], rfl, hold _ _ hz, rfl⟩⟩, he, by simpa using hat⟩
theorem rowTV_one {w : World} {X : Nat → Prop} : ∀ {l : List Mv} {xs : List Value}, RowTV w X l xs → (∀ u ∈ xs, u.oneCell' = true) ∧ xs.length = l.length * 3
 | [], xs, h => by simp [RowTV] at h; subst h; simp
 | m :: l, xs, h => by
  obtain ⟨a, c, q, rfl, _, h⟩ := h
  obtain ⟨h1, h2⟩ := rowTV_one h
  refine ⟨fun u hu => ?_, by simp [h2]; omega⟩
  simp at hu
  rcases hu with rfl | rfl | rfl | hu
  ·rfl
  ·rfl
  ·rfl
  ·exact h1 u hu
theorem slV_rowG {w : World} {X : Nat → Prop} {b : Nat} : ∀ (l : List Mv) (o : Nat), (∀ i (h : i < l.length), MvAt w X b (o + i * 3) l[i]) → ∃ xs, RowTV w X l xs ∧ ∀ j u, xs[j]? = some u → w.cell? ⟨b, o + j, none⟩ = some u
 | [], o, _ => ⟨[], rfl, fun j u hj => by simp at hj⟩
 | m :: l, o, h => by
  obtain ⟨xs, h1, h2⟩ := slV_rowG l (o + 3) fun i hi => by
   have := h (i + 1) (by simpa using hi)
   rw [show o + (i + 1) * 3 = o + 3 + i * 3 by omega] at this
   exact this
  obtain ⟨g0, ⟨a, c, g1, g2⟩, g3⟩ := h 0 (by simp)
  rw [Nat.zero_mul, Nat.add_zero] at g0 g1 g3
  refine ⟨.string m.name :: .slice a m.frm.length c :: .int .i64 m.to :: xs, ⟨a, c, xs, rfl, g2, h1⟩, fun j u hj => ?_⟩
  match j, hj with
  | 0, hj => simp at hj; subst hj; exact g0
  | 1, hj => simp at hj; subst hj; exact g1
  | 2, hj => simp at hj; subst hj; exact g3
  | j + 3, hj =>
   have := h2 j u (by simpa using hj)
   rw [show o + 3 + j = o + (j + 3) by omega] at this
   exact this
theorem appV {W : World} {N : Nat} {Z : Nat → Prop} {v : Value} {ms l : List Mv} {xs : List Value} {a : Option Addr} {c : Nat} (hown : W.ownsRow N 40 3 v ms.length xs) (hrow : RowTV W Z ms xs) (hN : N ≤ W.heap.size) (hZ : ∀ b, Z b → some b ≠ v.ownBlock) (hs : SlV W Z a l) (hl : ms.length + l.length ≤ 100000) :
  ∃ v1 W1 ys, (Builtin.append_ #[23, 23] 23 #[v, .slice a l.length c]).run Try.prog W = .ok v1 W1 ∧ W1.ownsRow N 40 3 v1 (ms ++ l).length ys ∧ RowTV W1 Z (ms ++ l) ys ∧ W.grownBy W1 v.ownBlock := by
 obtain ⟨i0, hi, hz0, hz1, hz2⟩ := info_parts Try.infoMove
 have fin : ∀ (v1 : Value) (W1 : World) (ys : List Value), W1.ownsRow N 40 3 v1 (ms ++ l).length (xs ++ ys) → W.grownBy W1 v.ownBlock → RowTV W Z l ys → W1.ownsRow N 40 3 v1 (ms ++ l).length (xs ++ ys) ∧ RowTV W1 Z (ms ++ l) (xs ++ ys) ∧ W.grownBy W1 v.ownBlock := fun v1 W1 ys ho hg hr =>
  ⟨ho, (hrow.append hr).imp fun u k hp => ((hp.mono (Y := fun b => Z b ∧ b < W.heap.size) fun b h1 h2 => ⟨h1, h2⟩).kept fun b hb => hg.block b hb.2 (fun e => hZ b hb.1 e)).mono fun b hb _ => hb.1, hg⟩
 by_cases hl0 : l = []
 ·subst hl0
  obtain ⟨va, vc, rfl⟩ : ∃ va vc, v = .slice va ms.length vc := by
   rcases hown.2 with ⟨h1, h0⟩ | ⟨g, cap, cur, h1, _⟩
   ·exact ⟨none, 0, by rw [h1, h0]⟩
   ·exact ⟨_, _, h1⟩
  cases a with
  | none =>
   refine ⟨_, W, xs ++ [], ?_, fin _ _ [] (by simpa using hown) ⟨rfl, rfl, rfl, Nat.le_refl _, fun k hk _ => rfl⟩ rfl⟩
   have hcap : ms.length ≤ vc := by
    rcases hown.2 with ⟨h1, h0⟩ | ⟨g, cap, cur, h1, _, _, h2, _⟩
    ·omega
    ·simp at h1
     rw [h1.2]
     exact h2
   simp [Builtin.append_, run_underlying Try.underlying23, sizeOf, typeInfo, hi, Builtin.lenOf, Builtin.firstCells, storeCells, hcap]
   cases va <;> rfl
  | some ad =>
   obtain ⟨v1, W1, hrun, ho, hg, _⟩ := run_append_own (P := Try.prog) W N 23 23 40 i0 _ 3 48 Try.underlying23 hi hz0 hz1 hz2 rfl (by decide) _ ms.length xs hown ad 0 c [] rfl (fun j u hj => by simp at hj) (fun u hu => by simp at hu) (by unfold maxLen; omega) (by omega) hN
   exact ⟨v1, W1, xs ++ [], hrun, fin v1 W1 [] (by simpa using ho) hg rfl⟩
 ·rcases hs.2 with h | ⟨b, o, rfl, _, h1⟩
  ·exact absurd h hl0
  ·obtain ⟨ys, h2, h3⟩ := slV_rowG l o h1
   obtain ⟨h4, h5⟩ := rowTV_one h2
   obtain ⟨v1, W1, hrun, ho, hg, _⟩ := run_append_own (P := Try.prog) W N 23 23 40 i0 _ 3 48 Try.underlying23 hi hz0 hz1 hz2 rfl (by decide) _ ms.length xs hown ⟨b, o, none⟩ l.length c ys h5 (fun j u hj => by
    have := h3 j u hj
    rw [show (⟨b, o, none⟩ : Addr).add j = ⟨b, o + j, none⟩ by by_cases h0 : j = 0 <;> simp [Addr.add, h0]]
    exact this) h4 (by unfold maxLen; omega) (by omega) hN
   exact ⟨v1, W1, xs ++ ys, hrun, fin v1 W1 ys (by simpa using ho) hg h2⟩
def tldB (l : List Bool) : ByteArray := l.foldl (fun s b => s ++ ⟨#[if b then 49 else 48]⟩) ⟨#[]⟩
theorem tldB_snoc (l : List Bool) (b : Bool) : tldB (l ++ [b]) = tldB l ++ ⟨#[if b then 49 else 48]⟩ := by simp [tldB]
theorem tldB_data (l : List Bool) : (tldB l).data.toList = l.map fun b => if b then 49 else 48 := by
 have key : ∀ (l : List Bool) (s : ByteArray), (l.foldl (fun s b => s ++ (⟨#[if b then 49 else 48]⟩ : ByteArray)) s).data.toList = s.data.toList ++ l.map fun b => if b then 49 else 48 := by
  intro l
  induction l with
  | nil => intro s; simp
  | cons b l ih =>
   intro s
   rw [List.foldl_cons, ih, ByteArray.data_append, Array.toList_append]
   simp
 have := key l ⟨#[]⟩
 simpa [tldB] using this
theorem tldB_inj {l k : List Bool} (h : tldB l = tldB k) : l = k := by
 have h1 := congrArg (fun x : ByteArray => x.data.toList) h
 simp only [tldB_data] at h1
 have inj : ∀ (l k : List Bool), (l.map fun b => if b then (49 : UInt8) else 48) = (k.map fun b => if b then (49 : UInt8) else 48) → l = k := by
  intro l
  induction l with
  | nil => intro k h; cases k with
   | nil => rfl
   | cons => simp at h
  | cons b l ih => intro k h; cases k with
   | nil => simp at h
   | cons c k =>
    simp only [List.map_cons, List.cons.injEq] at h
    obtain ⟨h2, h3⟩ := h
    rw [ih k h3]
    congr 1
    cases b <;> cases c <;> simp_all
 exact inj l k h1
def keyT (A B : Au) (t : Tm) : ByteArray := tldB (endT A t) ++ ⟨#[124]⟩ ++ tldB (endT B t)
theorem endT_len {A : Au} (t : Tm) : (endT A t).length = A.st.toNat := by unfold endT; rw [edgT_len]
theorem key_iff {A B : Au} {t u : Tm} : keyT A B t = keyT A B u ↔ SameE A B t u := by
 constructor
 ·intro h
  have h1 := congrArg (fun x : ByteArray => x.data.toList) h
  simp only [keyT, ByteArray.data_append, Array.toList_append, tldB_data, List.append_assoc] at h1
  obtain ⟨h2, h3⟩ := List.append_inj h1 (by simp [endT_len])
  obtain ⟨_, h4⟩ := List.append_inj h3 (by simp)
  have e1 : tldB (endT A t) = tldB (endT A u) := by
   apply ByteArray.ext
   apply Array.ext'
   rw [tldB_data, tldB_data]
   exact h2
  have e2 : tldB (endT B t) = tldB (endT B u) := by
   apply ByteArray.ext
   apply Array.ext'
   rw [tldB_data, tldB_data]
   exact h4
  exact ⟨tldB_inj e1, tldB_inj e2⟩
 ·rintro ⟨h1, h2⟩
  unfold keyT
  rw [h1, h2]
theorem inB_memG {x : ByteArray} {l : List ByteArray} : inB x l = true ↔ x ∈ l := by
 unfold inB
 rw [List.any_eq_true]
 constructor
 ·rintro ⟨y, hy, e⟩
  have e1 : y.toList = x.toList := eq_of_beq e
  have : y = x := by
   rw [ByteArray.toList_eq, ByteArray.toList_eq] at e1
   obtain ⟨⟨a⟩⟩ := y
   obtain ⟨⟨b⟩⟩ := x
   simpa using e1
  rw [← this]; exact hy
 ·intro h
  exact ⟨x, h, by simp⟩
theorem tldB_size (l : List Bool) : (tldB l).size = l.length := by
 have h := congrArg List.length (tldB_data l)
 rw [List.length_map] at h
 rw [← h]
 rfl
set_option maxHeartbeats 1000000 in
theorem told_any (l : List Bool) (hl : l.length ≤ 1000) (v : Value) (w : World) (X : Nat → Prop) (hv : LV Value.bool w X v l) :
  Calls Try.prog 54 #[v] w fun e w' => e = .returned (.string (tldB l)) ∧ w' = w := by
 obtain ⟨a, c, rfl, hll, _⟩ := id hv
 have HV := hide hv
 clear hv
 go_enter Try.func54, Try.ntmps54
 go_wp2_with fail
 go_loopw [3, 4] (fun q i wr => ∃ k : Nat, k ≤ l.length ∧ i = .int .i64 (k : Int) ∧ q = .string (tldB (l.take k)) ∧ wr = w) (fun q i wr => l.length - (intOf i).toNat)
 case atStart => exact ⟨0, Nat.zero_le _, rfl, rfl, rfl⟩
 case round =>
  obtain ⟨k, hk, rfl, rfl, rfl⟩ := hrel
  by_cases hlt : k < l.length
  ·have hki : (k : Int) < (l.length : Int) := by omega
   obtain ⟨b, o, rfl, hb, hc⟩ := HV.out.at (Below.refl wr.heap.size wr) k hlt
   have hasz : (tldB (l.take k)).size ≤ 1000000 := by rw [tldB_size, List.length_take]; omega
   have HS := hide (tldB_snoc (l.take k) l[k])
   have HTK : Hid (l.take (k + 1) = l.take k ++ [l[k]]) := List.take_succ_eq_append_getElem hlt
   cases hb : l[k] with
   | true =>
    rw [hb] at hc HS HTK
    clear hb
    go_wp2_with fail
    go_roundw
    case rel => exact ⟨k + 1, by omega, by go_num, by rw [HTK.out, HS.out]; rfl, by trivial⟩
    case measure => simp [intOf]; omega
   | false =>
    rw [hb] at hc HS HTK
    clear hb
    go_wp2_with fail
    go_roundw
    case rel => exact ⟨k + 1, by omega, by go_num, by rw [HTK.out, HS.out]; rfl, by trivial⟩
    case measure => simp [intOf]; omega
  ·have hki : ¬ (k : Int) < (l.length : Int) := by omega
   have htk : l.take k = l := List.take_of_length_le (by omega)
   rw [htk]
   go_wp2_with fail
   go_ret
   exact ⟨rfl, rfl⟩
def allB : Nat → List (List Bool)
 | 0 => [[]]
 | n + 1 => (allB n).flatMap fun l => [true :: l, false :: l]
theorem allB_len : ∀ n, (allB n).length = 2 ^ n
 | 0 => rfl
 | n + 1 => by
  have h : ∀ m : List (List Bool), (m.flatMap fun l => [true :: l, false :: l]).length = 2 * m.length := by
   intro m
   induction m with
   | nil => rfl
   | cons a m ih => rw [List.flatMap_cons, List.length_append, ih]; simp; omega
  rw [allB, h, allB_len n, Nat.pow_succ, Nat.mul_comm]
theorem allB_mem : ∀ l : List Bool, l ∈ allB l.length
 | [] => by simp [allB]
 | b :: l => by
  simp only [List.length_cons, allB, List.mem_flatMap]
  exact ⟨l, allB_mem l, by cases b <;> simp⟩
structure GsP (A B : Au) (out : List Tm) : Prop where
 sym : ∀ t ∈ out, SymT (A.mv ++ B.mv) t
 wid : ∀ t ∈ out, Wid t
 nd : (out.map (keyT A B)).Nodup
theorem GsP.nil (A B : Au) : GsP A B [] := ⟨(fun t ht => by cases ht), (fun t ht => by cases ht), List.nodup_nil⟩
theorem GsP.add {A B : Au} {out : List Tm} (h : GsP A B out) {t : Tm} (hs : SymT (A.mv ++ B.mv) t) (hw : Wid t) (hn : keyT A B t ∉ out.map (keyT A B)) : GsP A B (out ++ [t]) := by
 refine ⟨fun x hx => ?_, fun x hx => ?_, ?_⟩
 ·rcases List.mem_append.1 hx with hx | hx
  ·exact h.sym x hx
  ·simp at hx; subst hx; exact hs
 ·rcases List.mem_append.1 hx with hx | hx
  ·exact h.wid x hx
  ·simp at hx; subst hx; exact hw
 ·rw [List.map_append, List.nodup_append]
  exact ⟨h.nd, by simp, fun a ha b hb => by simp at hb; subst hb; intro e; subst e; exact hn ha⟩
theorem GsP.len {A B : Au} {out : List Tm} (h : GsP A B out) (hA : A.st ≤ 3) (hB : B.st ≤ 3) : out.length ≤ 64 := by
 have h1 := inj_len (Q := fun (t : Tm) (p : List Bool × List Bool) => endT A t = p.1 ∧ endT B t = p.2) (l1 := out) (l2 := (allB A.st.toNat).flatMap fun x => (allB B.st.toNat).map fun y => (x, y)) ?_ ?_
 ·have h2 : ∀ m : List (List Bool), (m.flatMap fun x => (allB B.st.toNat).map fun y => (x, y)).length = m.length * 2 ^ B.st.toNat := by
   intro m
   induction m with
   | nil => simp
   | cons a m ih => rw [List.flatMap_cons, List.length_append, ih, List.length_map, allB_len, List.length_cons, Nat.succ_mul, Nat.add_comm]
  rw [h2, allB_len] at h1
  have h3 : 2 ^ A.st.toNat ≤ 2 ^ 3 := Nat.pow_le_pow_right (by decide) (by omega)
  have h4 : 2 ^ B.st.toNat ≤ 2 ^ 3 := Nat.pow_le_pow_right (by decide) (by omega)
  have h5 : 2 ^ A.st.toNat * 2 ^ B.st.toNat ≤ 2 ^ 3 * 2 ^ 3 := Nat.mul_le_mul h3 h4
  omega
 ·have := h.nd
  rw [List.nodup_iff_pairwise_ne, List.pairwise_map] at this
  exact this.imp fun hne p h1 h2 => hne (key_iff.2 ⟨h1.1.trans h2.1.symm, h1.2.trans h2.2.symm⟩)
 ·intro t ht
  refine ⟨(endT A t, endT B t), ?_, rfl, rfl⟩
  rw [List.mem_flatMap]
  refine ⟨endT A t, ?_, List.mem_map.2 ⟨endT B t, ?_, rfl⟩⟩
  ·have := allB_mem (endT A t); rw [endT_len] at this; exact this
  ·have := allB_mem (endT B t); rw [endT_len] at this; exact this
def argJ (out : List Tm) (n c j : Nat) : Tm := out.getD (if j = 0 then c % n else c / n) ⟨⟨#[]⟩, []⟩
def argsC (out : List Tm) (n c k : Nat) : List Tm := (List.range k).map (argJ out n c)
theorem argsC_zero (out : List Tm) (n c : Nat) : argsC out n c 0 = [] := rfl
theorem argsC_succ (out : List Tm) (n c j : Nat) : argsC out n c (j + 1) = argsC out n c j ++ [argJ out n c j] := by simp [argsC, List.range_succ]
theorem argsC_len (out : List Tm) (n c k : Nat) : (argsC out n c k).length = k := by simp [argsC]
theorem idx_lt {n c k j : Nat} (hk : k ≤ 2) (hj : j < k) (hc : c < n ^ k) : (if j = 0 then c % n else c / n) < n := by
 have hn : 0 < n := by
  rcases Nat.eq_zero_or_pos n with h | h
  ·subst h; rw [Nat.zero_pow (by omega)] at hc; omega
  ·exact h
 match k, hk with
 | 1, _ =>
  have : j = 0 := by omega
  rw [if_pos this]; exact Nat.mod_lt _ hn
 | 2, _ =>
  by_cases h : j = 0
  ·rw [if_pos h]; exact Nat.mod_lt _ hn
  ·rw [if_neg h]
   have h2 : c < n * n := by rw [Nat.pow_two] at hc; exact hc
   exact Nat.div_lt_of_lt_mul h2
theorem argJ_at {out1 out : List Tm} (he : out1 <+: out) {c k j : Nat} (hk : k ≤ 2) (hj : j < k) (hc : c < out1.length ^ k) : ∃ i, ∃ h : i < out.length, i = (if j = 0 then c % out1.length else c / out1.length) ∧ argJ out out1.length c j = out[i] ∧ argJ out1 out1.length c j = out[i] ∧ out[i] ∈ out1 := by
 have hi := idx_lt hk hj hc
 obtain ⟨i0, e0⟩ : ∃ i0, i0 = (if j = 0 then c % out1.length else c / out1.length) := ⟨_, rfl⟩
 rw [← e0] at hi
 have hle := he.length_le
 have hi2 : i0 < out.length := by omega
 obtain ⟨q, hq⟩ := he
 have h1 : out[i0] = out1[i0] := by simp only [← hq]; rw [List.getElem_append_left hi]
 refine ⟨i0, hi2, e0, ?_, ?_, by rw [h1]; exact List.getElem_mem hi⟩
 ·unfold argJ
  rw [← e0, List.getD_eq_getElem?_getD, List.getElem?_eq_getElem hi2]
  rfl
 ·unfold argJ
  rw [← e0, List.getD_eq_getElem?_getD, List.getElem?_eq_getElem hi, h1]
  rfl
theorem argsC_pre {out1 out : List Tm} (he : out1 <+: out) {c k : Nat} (hk : k ≤ 2) (hc : c < out1.length ^ k) : argsC out out1.length c k = argsC out1 out1.length c k := by
 unfold argsC
 refine List.map_congr_left fun j hj => ?_
 obtain ⟨i, h, _, h1, h2, _⟩ := argJ_at he hk (List.mem_range.1 hj) hc
 rw [h1, h2]
theorem argsC_in {out1 : List Tm} {c k : Nat} (hk : k ≤ 2) (hc : c < out1.length ^ k) : ∀ x ∈ argsC out1 out1.length c k, x ∈ out1 := by
 intro x hx
 obtain ⟨j, hj, rfl⟩ := List.mem_map.1 hx
 obtain ⟨i, h, _, h1, _, h2⟩ := argJ_at (List.prefix_refl out1) hk (List.mem_range.1 hj) hc
 rw [h1]; exact h2
theorem argsC_all {out1 : List Tm} {k : Nat} (hk : k ≤ 2) {l : List Tm} (hl : l.length = k) (hx : ∀ x ∈ l, x ∈ out1) : ∃ c, c < out1.length ^ k ∧ argsC out1 out1.length c k = l := by
 match k, hk with
 | 0, _ => exact ⟨0, by simp, by rw [argsC_zero]; exact (List.length_eq_zero_iff.1 hl).symm⟩
 | 1, _ =>
  match l, hl with
  | [x], _ =>
   obtain ⟨i, hi, e⟩ := List.mem_iff_getElem.1 (hx x (by simp))
   refine ⟨i, by simpa using hi, ?_⟩
   rw [argsC_succ, argsC_zero]
   simp [argJ, Nat.mod_eq_of_lt hi, hi, e]
 | 2, _ =>
  match l, hl with
  | [x, y], _ =>
   obtain ⟨i, hi, e⟩ := List.mem_iff_getElem.1 (hx x (by simp))
   obtain ⟨j, hj, e2⟩ := List.mem_iff_getElem.1 (hx y (by simp))
   have hn : 0 < out1.length := by omega
   have h1 : (j * out1.length + i) % out1.length = i := by rw [Nat.mul_comm, Nat.mul_add_mod, Nat.mod_eq_of_lt hi]
   have h2 : (j * out1.length + i) / out1.length = j := by rw [Nat.mul_comm, Nat.mul_add_div hn, Nat.div_eq_of_lt hi]; omega
   refine ⟨j * out1.length + i, ?_, ?_⟩
   ·rw [Nat.pow_two]
    have : j * out1.length + out1.length ≤ out1.length * out1.length := by
     have := Nat.mul_le_mul_right out1.length (show j + 1 ≤ out1.length by omega)
     rw [Nat.succ_mul] at this
     exact this
    omega
   ·rw [argsC_succ, argsC_succ, argsC_zero]
    simp [argJ, h1, h2, hi, hj, e, e2]
def ClL (A B : Au) (nm : ByteArray) (k : Nat) (out1 out : List Tm) : Prop := ∀ l : List Tm, l.length = k → (∀ x ∈ l, x ∈ out1) → ∃ t ∈ out, SameE A B t ⟨nm, l⟩
def DoC (A B : Au) (nm : ByteArray) (k : Nat) (out1 : List Tm) (c0 : Nat) (out : List Tm) : Prop := ∀ c, c < c0 → ∃ t ∈ out, SameE A B t ⟨nm, argsC out1 out1.length c k⟩
theorem DoC.all {A B : Au} {nm : ByteArray} {k : Nat} (hk : k ≤ 2) {out1 out : List Tm} (h : DoC A B nm k out1 (out1.length ^ k) out) : ClL A B nm k out1 out := fun l hl hx => by
 obtain ⟨c, hc, e⟩ := argsC_all hk hl hx
 rw [← e]
 exact h c hc
theorem DoC.mono {A B : Au} {nm : ByteArray} {k c0 : Nat} {out1 out out' : List Tm} (h : DoC A B nm k out1 c0 out) (he : out <+: out') : DoC A B nm k out1 c0 out' := fun c hc => by
 obtain ⟨t, ht, hs⟩ := h c hc
 exact ⟨t, he.subset ht, hs⟩
def ClP (A B : Au) (ms : List Mv) (i0 : Nat) (out0 out : List Tm) : Prop := ∀ (i : Nat) (h : i < ms.length), i < i0 → ClL A B ms[i].name ms[i].frm.length out0 out
theorem ClP.mono {A B : Au} {ms : List Mv} {i0 : Nat} {out0 out out' : List Tm} (h : ClP A B ms i0 out0 out) (he : out <+: out') : ClP A B ms i0 out0 out' := fun i hi hij l hl hx => by
 obtain ⟨t, ht, hs⟩ := h i hi hij l hl hx
 exact ⟨t, he.subset ht, hs⟩
theorem ClP.grd {A B : Au} {out : List Tm} (h : ClP A B (A.mv ++ B.mv) (A.mv ++ B.mv).length out out) (hp : GsP A B out) : GrdOk A B out := by
 refine ⟨hp.sym, fun m hm l hl hx => ?_⟩
 obtain ⟨i, hi, rfl⟩ := List.mem_iff_getElem.1 hm
 exact h i hi hi l hl hx
end Go.Proofs.Ytofebfjkodceeaa
