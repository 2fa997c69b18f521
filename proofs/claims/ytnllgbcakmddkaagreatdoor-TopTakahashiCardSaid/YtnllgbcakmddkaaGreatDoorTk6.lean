/- Walks: the document's Parallel. -/
import Derived.Test.YtnllgbcakmddkaaGreatDoorZLTopTakahashiOwn
import Derived.Test.YtnllgbcakmddkaaGreatDoorZOTopTakahashiOwn
namespace Go.Proofs.YtnllgbcakmddkaaGreatDoor
open Go.RowKit
set_option linter.unusedSimpArgs false
set_option linter.unusedVariables false
set_option maxRecDepth 8000

/-- What is below a knot. -/
def PX.subs : PX → List PX
  | .v _ => []
  | .c _ => []
  | .l b => [b]
  | .a f x => [f, x]
theorem px_subs (p : PX) : p.m.subs = p.subs.map PX.m := by cases p <;> rfl
theorem subs_le (p : PX) : p.subs.length ≤ 2 := by cases p <;> simp [PX.subs]
/-- What all that is below has become, so far. -/
def foP (n : Nat) (l : List Lm) (m : Nat) : List (List Lm) := (l.take m).foldl (fun all s => prdT 300 all (parR 300 n s)) [[]]
theorem foP_zero (n : Nat) (l : List Lm) : foP n l 0 = [[]] := by simp [foP]
theorem foP_succ (n : Nat) (l : List Lm) (m : Nat) (h : m < l.length) : foP n l (m + 1) = prdT 300 (foP n l m) (parR 300 n l[m]) := by
  unfold foP
  rw [List.take_succ_eq_append_getElem h, List.foldl_append]
  rfl
theorem foP_all (n : Nat) (p : PX) : parR 300 (n + 1) p.m = outL 300 (knoT p.m) (foP n p.m.subs p.m.subs.length) [] := by
  unfold foP
  rw [List.take_length]
  rfl
theorem prdT_len (most : Nat) (all : List (List Lm)) (l : List Lm) : (prdT most all l).length ≤ most + 1 := by
  unfold prdT
  rw [List.length_take]
  omega
theorem outL_len {most : Nat} {f : List Lm → List Lm} (hf : ∀ a, (f a).length ≤ 2) : ∀ (all : List (List Lm)) (out : List Lm), out.length ≤ most + 2 → (outL most f all out).length ≤ most + 2
  | [], out, h => by simpa [outL] using h
  | a :: r, out, h => by
    unfold outL
    split
    · refine outL_len hf r _ ?_
      have := hf a
      rw [List.length_append]
      omega
    · exact h
theorem parR_len (most n : Nat) (t : Lm) : (parR most n t).length ≤ most + 2 := by
  cases n with
  | zero => simp [parR]
  | succ n =>
    unfold parR
    refine outL_len (fun a => ?_) _ _ (by simp)
    unfold knoT
    split <;> simp
theorem foP_len (n : Nat) (l : List Lm) : ∀ m, m ≤ l.length → (foP n l m).length ≤ 301
  | 0, _ => by rw [foP_zero]; simp
  | m + 1, h => by rw [foP_succ n l m (by omega)]; exact prdT_len 300 _ _
theorem foP_par (n : Nat) (p : PX) : ∀ m, m ≤ p.subs.length → ∀ a ∈ foP n p.m.subs m, ParL (p.subs.take m) a
  | 0, _ => by
    rw [foP_zero]
    intro a h
    simp at h
    subst h
    simpa using parL_nil
  | m + 1, h => by
    have hl : m < p.m.subs.length := by rw [px_subs, List.length_map]; omega
    have h1 := foP_par n p m (by omega)
    rw [foP_succ n _ m hl, List.take_succ_eq_append_getElem (by omega : m < p.subs.length)]
    refine prdT_par h1 fun y hy => ?_
    have e : p.m.subs[m] = (p.subs[m]'(by omega)).m := by simp [px_subs]
    rw [e] at hy
    exact parR_sub 300 n _ y hy
theorem foP_long (n : Nat) (p : PX) {m : Nat} (hm : m ≤ p.subs.length) {a : List Lm} (h : a ∈ foP n p.m.subs m) : a.length = m := by
  obtain ⟨qs, rfl, hl, _⟩ := foP_par n p m hm a h
  rw [List.length_map, hl, List.length_take]
  omega

theorem gonP_stop {most : Nat} {all : List (List Lm)} {l : List Lm} {k j : Nat} (hk : k < all.length) (h : most < ((gonP all l k j).take (most + 1)).length) : (gonP all l (k + 1) 0).take (most + 1) = (gonP all l k j).take (most + 1) := by
  have e : gonP all l k l.length = gonP all l k j ++ (l.drop j).map fun x => (all[k]?.getD []) ++ [x] := by
    unfold gonP
    rw [List.append_assoc, ← List.map_append, List.take_append_drop, List.take_length]
  rw [gonP_row hk, e, List.take_append_of_le_length]
  rw [List.length_take] at h
  omega
def PrAt (n : Nat) (t : Lm) : Prop := ∀ (v : Value) (w : World) (X : Nat → Prop), MV w X v t → Calls Tryz.prog 9 #[v, .int .i64 300] w fun e w' => ∃ a c, e = .returned (.slice a (parR 300 n t).length c) ∧ SlM w' (fun _ => True) a (parR 300 n t) ∧ Below w.heap.size w w'

/-- What is known at each round's head. -/
def P1I (n : Nat) (l : List Lm) (w2 : World) (q i : Value) (wr : World) : Prop := ∃ m : Nat, m ≤ l.length ∧ i = .int .i64 (m : Int) ∧ LS wr q (foP n l m) ∧ Below w2.heap.size w2 wr
def P2I (all : List (List Lm)) (l : List Lm) (w4 : World) (q i : Value) (wr : World) : Prop := ∃ (k : Nat) (xs : List Value), k ≤ all.length ∧ i = .int .i64 (k : Int) ∧ RowS wr w4.heap.size 24 (fun b => b < w4.heap.size) q ((gonP all l k 0).take 301) xs ∧ Below w4.heap.size w4 wr
def P3I (all : List (List Lm)) (l : List Lm) (k : Nat) (w4 : World) (q i : Value) (wr : World) : Prop := ∃ (j : Nat) (xs : List Value), j ≤ l.length ∧ i = .int .i64 (j : Int) ∧ RowS wr w4.heap.size 24 (fun b => b < w4.heap.size) q ((gonP all l k j).take 301) xs ∧ Below w4.heap.size w4 wr

theorem two_cells {w : World} {X : Nat → Prop} {a : Option Addr} {f z : Lm} (h : SlM w X a [f, z]) : ∃ B o a1 c1 a2 c2, a = some ⟨B, o, none⟩ ∧ B < w.heap.size ∧ w.cell? ⟨B, o + 2, none⟩ = some (.slice a1 f.subs.length c1) ∧ w.cell? ⟨B, o + 3, none⟩ = some (.int .i64 z.kind) ∧ w.cell? ⟨B, o + 4, none⟩ = some (.int .i64 z.idx) ∧ w.cell? ⟨B, o + 5, none⟩ = some (.slice a2 z.subs.length c2) ∧ SlM w X a1 f.subs ∧ SlM w X a2 z.subs := by
  obtain ⟨B, o, a1, c1, rfl, d0, d1, d2, a1', c1', e1, m1⟩ := h.get (Below.refl w.heap.size w) (fun b _ h => h) 0 (by simp)
  obtain ⟨B', o', a2, c2, e0, f0, f1, f2, a2', c2', e2, m2⟩ := h.get (Below.refl w.heap.size w) (fun b _ h => h) 1 (by simp)
  simp only [Option.some.injEq, Addr.mk.injEq, and_true] at e0
  obtain ⟨rfl, rfl⟩ := e0
  simp only [Value.agg.injEq, Array.mk.injEq, List.cons.injEq, Value.slice.injEq, and_true, true_and] at e1 e2
  obtain ⟨rfl, rfl⟩ := e1
  obtain ⟨rfl, rfl⟩ := e2
  exact ⟨B, o, a1, c1, a2, c2, rfl, cell_ltM d0, by simpa using d2, f0, f1, f2, m1, m2⟩
theorem one_cells {w : World} {X : Nat → Prop} {a : Option Addr} {f : Lm} (h : SlM w X a [f]) : ∃ B o a1 c1, a = some ⟨B, o, none⟩ ∧ B < w.heap.size ∧ w.cell? ⟨B, o, none⟩ = some (.int .i64 f.kind) ∧ w.cell? ⟨B, o + 1, none⟩ = some (.int .i64 f.idx) ∧ w.cell? ⟨B, o + 2, none⟩ = some (.slice a1 f.subs.length c1) ∧ SlM w X a1 f.subs := by
  obtain ⟨B, o, a1, c1, rfl, d0, d1, d2, a1', c1', e1, m1⟩ := h.get (Below.refl w.heap.size w) (fun b _ h => h) 0 (by simp)
  simp only [Value.agg.injEq, Array.mk.injEq, List.cons.injEq, Value.slice.injEq, and_true, true_and] at e1
  obtain ⟨rfl, rfl⟩ := e1
  exact ⟨B, o, a1, c1, rfl, cell_ltM d0, by simpa using d0, by simpa using d1, by simpa using d2, m1⟩
theorem red_parts {p : PX} (hr : rdxT p.m = true) {a : List Lm} (ha : ParL p.subs a) (hsz : p.sz ≤ 36) {u : Nat} (hok : p.ok u) (hu : u + p.sz ≤ 200) : ∃ b z : PX, a = [⟨2, 0, [b.m]⟩, z.m] ∧ conT a = insT z.m 0 b.m ∧ sizeM [b.m] ≤ 100000 ∧ BndM [b.m] ∧ sizeM [z.m] ≤ 100000 ∧ BndM [z.m] := by
  obtain ⟨b0, x0, rfl⟩ : ∃ b0 x0, p = .a (.l b0) x0 := by
    cases p with
    | v i => simp [PX.m, rdxT] at hr
    | c k => simp [PX.m, rdxT] at hr
    | l b => simp [PX.m, rdxT] at hr
    | a f x =>
      cases f with
      | v i => simp [PX.m, rdxT] at hr
      | c k => simp [PX.m, rdxT] at hr
      | l b => exact ⟨b, x, rfl⟩
      | a f2 x2 => simp [PX.m, rdxT] at hr
  obtain ⟨qs, rfl, hl, hp⟩ := ha
  match qs, hl with
  | [q0, q1], _ =>
    have h0 : PX.Par (.l b0) q0 := hp 0 (by simp [PX.subs]) (by simp)
    have h1 : PX.Par x0 q1 := hp 1 (by simp [PX.subs]) (by simp)
    simp only [PX.sz] at hsz hu
    have hok0 : (PX.l b0).ok u := hok.1
    cases h0 with
    | @l b1 b' hb =>
      have s0 := par_sz hb (by omega)
      have s1 := par_sz h1 (by omega)
      have t0 := gD_top b0.sz (by omega)
      have t1 := gD_top x0.sz (by omega)
      have k0 := par_ok hb (u + 1) hok0
      have k1 := par_ok h1 u hok.2
      refine ⟨b', q1, rfl, rfl, by rw [px_sz]; omega, ?_, by rw [px_sz]; omega, ?_⟩
      · exact bnd_of_err _ ((u + 1 : Nat) : Int) 0 (by omega) (by rw [px_sz]; omega) (by omega) ((px_ok b' (u + 1)).2 k0)
      · exact bnd_of_err _ (u : Int) 0 (by omega) (by rw [px_sz]; omega) (by omega) ((px_ok q1 u).2 k1)
theorem outL_step {most : Nat} {f : List Lm → List Lm} {all : List (List Lm)} {k : Nat} (hk : k < all.length) {o : List Lm} (ho : o.length ≤ most) : outL most f (all.drop k) o = outL most f (all.drop (k + 1)) (o ++ f all[k]) := by
  rw [List.drop_eq_getElem_cons hk]
  show (if o.length ≤ most then _ else _) = _
  rw [if_pos ho]
theorem outL_full {most : Nat} {f : List Lm → List Lm} {all : List (List Lm)} {o : List Lm} (ho : most < o.length) : outL most f all o = o := by
  cases all with
  | nil => rfl
  | cons a r => show (if o.length ≤ most then _ else _) = _; rw [if_neg (by omega)]
/-- One more behind a row of one's own, wherever it lies. -/
theorem oneB {W : World} {N P : Nat} {Y : Nat → Prop} {v : Value} {l : List Lm} {xs : List Value} {y : Lm} {a : Option Addr} {c : Nat} (hN : N ≤ W.heap.size) (hY : ∀ b, Y b → b < N) (h : RowM W N 26 Y v l xs) (hP : Blk W P #[.int .i64 y.kind, .int .i64 y.idx, .slice a y.subs.length c] 26) (hs : SlM W (fun b => Y b ∨ (N ≤ b ∧ some b ≠ v.ownBlock)) a y.subs) (hl : l.length ≤ 100000) :
    ∃ g cap W1 ys, (Builtin.append_ #[24, 24] 24 #[v, .slice (some ⟨P, 0, none⟩) 1 1]).run Tryz.prog W = .ok (.slice (some ⟨g, 0, none⟩) (l.length + 1) cap) W1 ∧ RowM W1 N 26 Y (.slice (some ⟨g, 0, none⟩) (l.length + 1) cap) (l ++ [y]) ys ∧ W.grownBy W1 v.ownBlock := by
  obtain ⟨i0, hi, hz0, hz1, hz2⟩ := info_parts Tryz.infoLam
  have hlt := h.own.lt
  obtain ⟨g, cap, W1, hr, ho, hg, hat, hgl⟩ := run_append_lies (P := Tryz.prog) (w := W) 24 24 N 26 i0 _ 3 40 Tryz.underlying24 hi hz0 hz1 hz2 rfl (by decide) v l.length xs h.own
    ⟨P, 0, none⟩ 1 1 [.int .i64 y.kind, .int .i64 y.idx, .slice a y.subs.length c] rfl (fun j u hj => by
      have e : (⟨P, 0, none⟩ : Addr).add j = ⟨P, j, none⟩ := by
        by_cases h0 : j = 0
        · subst h0; simp [Addr.add]
        · simp [Addr.add, h0]
      rw [e, hP.cell j]
      simpa using hj) (fun u hu => by simp at hu; rcases hu with rfl | rfl | rfl <;> rfl) (by decide) (by unfold maxLen; omega) (by omega) hN _ rfl
  exact ⟨g, cap, W1, _, hr, h.snoc hN hY hs ho hg hat, hg⟩
def P4I (t : Lm) (all : List (List Lm)) (w4 : World) (q i : Value) (wr : World) : Prop := ∃ (k : Nat) (o : List Lm) (xs : List Value), k ≤ all.length ∧ i = .int .i64 (k : Int) ∧ RowM wr w4.heap.size 26 (fun b => b < w4.heap.size) q o xs ∧ outL 300 (knoT t) all [] = outL 300 (knoT t) (all.drop k) o ∧ o.length ≤ 302 ∧ Below w4.heap.size w4 wr

set_option maxHeartbeats 8000000 in
theorem parallel_step (n : Nat) (p : PX) (hsz : p.sz ≤ 36) (u : Nat) (hok : p.ok u) (hu : u + p.sz ≤ 200) (ih : ∀ q ∈ p.m.subs, PrAt n q) : PrAt (n + 1) p.m := by
  intro v w X hv
  obtain ⟨a, c, rfl, hs⟩ := hv
  have IH := hide ih
  have HFA := hide (foP_all n p)
  have hl2 : p.m.subs.length ≤ 2 := by rw [px_subs, List.length_map]; exact subs_le p
  obtain ⟨t, ht⟩ : ∃ t, t = p.m := ⟨_, rfl⟩
  have HTP := hide ht
  rw [← ht] at hs IH HFA hl2 ⊢
  have B2 : Hid (Below w.heap.size w ((w.alloc (.cells #[.int .i64 t.kind, .int .i64 t.idx, .slice a t.subs.length c] 26)).alloc (.cells #[.slice none 0 0] 24))) := ((Below.refl _ _).alloc (Nat.le_refl _) _).alloc (by simp) _
  have T2 : Hid (Blk ((w.alloc (.cells #[.int .i64 t.kind, .int .i64 t.idx, .slice a t.subs.length c] 26)).alloc (.cells #[.slice none 0 0] 24)) w.heap.size #[.int .i64 t.kind, .int .i64 t.idx, .slice a t.subs.length c] 26) := (Blk.new w _ _).alloc _
  have A2 : Hid (Blk ((w.alloc (.cells #[.int .i64 t.kind, .int .i64 t.idx, .slice a t.subs.length c] 26)).alloc (.cells #[.slice none 0 0] 24)) (w.heap.size + 1) #[.slice none 0 0] 24) := by
    have h := Blk.new (w.alloc (.cells #[.int .i64 t.kind, .int .i64 t.idx, .slice a t.subs.length c] 26)) #[.slice none 0 0] 24
    rw [World.size_alloc] at h
    exact h
  have S2 := hide (((hs.mono (Y := fun b => b < w.heap.size) fun b _ h2 => h2).below B2.out (fun b h _ => h)))
  clear hs ih ht
  go_enter Tryz.func9, Tryz.ntmps9
  go_wp2_with fail
  generalize ((w.alloc (.cells #[.int .i64 t.kind, .int .i64 t.idx, .slice a t.subs.length c] 26)).alloc (.cells #[.slice none 0 0] 24)) = w2 at *
  go_loopw [5, 6] (fun q i wr => P1I n t.subs w2 q i wr) (fun q i wr => t.subs.length - (intOf i).toNat)
  case atStart =>
    refine ⟨0, Nat.zero_le _, rfl, ?_, Below.refl _ _⟩
    rw [foP_zero]
    exact ⟨_, _, rfl, Or.inr ⟨w.heap.size + 1, 0, rfl, A2.out.lt, fun i hi => by
      have hi0 : i = 0 := by simpa using hi
      subst hi0
      exact ⟨none, 0, A2.out.cell 0, ⟨by simp, Or.inl rfl⟩⟩⟩⟩
  case round =>
    obtain ⟨m, hm, rfl, hls, hbr⟩ := hrel
    have HLS := hide hls
    have HBR := hide hbr
    have TR := hide (T2.out.below hbr T2.out.lt)
    have c0 : wr.cell? ⟨w.heap.size, 0, none⟩ = some (.int .i64 t.kind) := TR.out.cell 0
    have c1 : wr.cell? ⟨w.heap.size, 1, none⟩ = some (.int .i64 t.idx) := TR.out.cell 1
    have c2 : wr.cell? ⟨w.heap.size, 2, none⟩ = some (.slice a t.subs.length c) := TR.out.cell 2
    by_cases hlt : m < t.subs.length
    · obtain ⟨s, hsE⟩ : ∃ s, s = t.subs[m] := ⟨_, rfl⟩
      have HIS : Hid (PrAt n s) := IH.out s (by rw [hsE]; exact List.getElem_mem hlt)
      have HFS : Hid (foP n t.subs (m + 1) = prdT 300 (foP n t.subs m) (parR 300 n s)) := by unfold Hid; rw [hsE]; exact foP_succ n t.subs m hlt
      obtain ⟨B, o, a', c', rfl, d0, d0', d1, hx⟩ := (S2.out.mono (Y := fun b => b < w2.heap.size) fun b _ h2 => h2).get hbr (fun b h _ => h) m hlt
      rw [← hsE] at d0 d0' d1 hx
      have HX := hide hx
      clear hx hsE hls hbr
      go_wp2_with fail
      refine (HIS.out _ wr _ HX.out).mono ?_
      rintro e w4 ⟨al, cl, rfl, hsl, hb4⟩
      have HL4 := hide (HLS.out.later hb4)
      have HSL := hide (hsl.mono (Y := fun b => b < w4.heap.size) fun b _ h2 => h2)
      have HB4 := hide (HBR.out.trans (hb4.mono HBR.out.size))
      have HAL : Hid ((foP n t.subs m).length ≤ 301 ∧ ∀ x ∈ foP n t.subs m, x.length ≤ 2) := by
        have e9 := HTP.out
        refine ⟨foP_len n _ m hm, fun x hx => ?_⟩
        rw [e9] at hx hm
        have := foP_long n p (by rw [px_subs, List.length_map] at hm; exact hm) hx
        rw [e9] at hl2
        omega
      obtain ⟨all, hall⟩ : ∃ all, all = foP n t.subs m := ⟨_, rfl⟩
      obtain ⟨L, hL⟩ : ∃ L, L = parR 300 n s := ⟨_, rfl⟩
      have HLE : Hid (L.length ≤ 302) := by unfold Hid; rw [hL]; exact parR_len 300 n s
      rw [← hall, ← hL] at HFS
      rw [← hall] at HL4 HAL
      rw [← hL] at HSL ⊢
      clear hsl hb4 hall hL HLS HBR TR c0 c1 c2 d0 d0' d1 HX HIS
      obtain ⟨aa, ca, hu5, _⟩ := HL4.out
      subst hu5
      go_wp2_with fail
      go_loopw [8, 9] (fun q i w5 => P2I all L w4 q i w5) (fun q i w5 => all.length - (intOf i).toNat)
      case atStart => exact ⟨0, [], Nat.zero_le _, rfl, by rw [gonP_zero]; exact RowS.start _ _ _ _, Below.refl _ _⟩
      case round =>
        obtain ⟨k, xs, hk, rfl, hrow, hb5⟩ := hrel
        obtain ⟨w5, rfl⟩ : ∃ w5, w5 = wr := ⟨_, rfl⟩
        obtain ⟨an, cn, hu8, _⟩ := hrow.ls
        subst hu8
        have HROW := hide hrow
        have HB5 := hide hb5
        clear hrow hb5
        obtain ⟨ln, hln⟩ : ∃ ln, ln = ((gonP all L k 0).take 301).length := ⟨_, rfl⟩
        have HLN := hide hln
        rw [← hln]
        clear hln
        by_cases hk1 : k < all.length
        · by_cases hk2 : ln ≤ 300
          · have hki : (k : Int) < (all.length : Int) := by omega
            have hli : (ln : Int) ≤ 300 := by omega
            go_wp2_with fail
            go_loopw [8, 10] (fun q i w6 => P3I all L k w4 q i w6) (fun q i w6 => L.length - (intOf i).toNat)
            case atStart => exact ⟨0, xs, Nat.zero_le _, rfl, by rw [HLN.out]; exact HROW.out, HB5.out⟩
            case round =>
              obtain ⟨j, ys, hj, rfl, hrow3, hb6⟩ := hrel
              obtain ⟨w6, rfl⟩ : ∃ w6, w6 = wr := ⟨_, rfl⟩
              obtain ⟨an3, cn3, hu8, _⟩ := hrow3.ls
              subst hu8
              have HB6 := hide hb6
              have HN46 := hide hb6.size
              obtain ⟨ln3, hln⟩ : ∃ ln3, ln3 = ((gonP all L k j).take 301).length := ⟨_, rfl⟩
              have HLN3 := hide hln
              have HLL3 : Hid (((gonP all L k j).take 301).length ≤ 100000) := by unfold Hid; rw [List.length_take]; omega
              rw [← hln] at hrow3 ⊢
              have HROW3 := hide hrow3
              clear hrow3 hln
              by_cases hj1 : j < L.length
              · by_cases hj2 : ln3 ≤ 300
                · have hji : (j : Int) < (L.length : Int) := by omega
                  have hlj : (ln3 : Int) ≤ 300 := by omega
                  obtain ⟨ba, oa, c6, a7, c7, hva, hbal, hca, hsa⟩ := HL4.out.get k hk1
                  simp only [Value.slice.injEq] at hva
                  obtain ⟨rfl, _, rfl⟩ := hva
                  have HSA := hide ((hsa.mono (Y := fun b => b < w4.heap.size) fun b _ h2 => h2).later hb6)
                  obtain ⟨y, hy⟩ : ∃ y, y = L[j] := ⟨_, rfl⟩
                  obtain ⟨bl, ol, a8, c8, rfl, f0, f0', f1, hx⟩ := HSL.out.get (Below.refl w4.heap.size w4) (fun b h _ => h) j hj1
                  rw [← hy] at f0 f0' f1 hx
                  have HSY : Hid (SlM w6 (fun b => b < w4.heap.size) a8 y.subs) := by
                    obtain ⟨x1, x2, e9, h9⟩ := hx
                    simp only [Value.agg.injEq, Array.mk.injEq, List.cons.injEq, Value.slice.injEq, and_true, true_and] at e9
                    obtain ⟨rfl, rfl⟩ := e9
                    exact h9.later hb6
                  have HKL : Hid (all[k].length ≤ 100000) := Nat.le_trans (HAL.out.2 _ (List.getElem_mem hk1)) (by omega)
                  have KP4 : Hid (∀ w', Below w4.heap.size w4 w' → w'.cell? ⟨ba, oa + k, none⟩ = some (.slice a7 all[k].length c7) ∧ w'.cell? ⟨bl, ol + j * 3, none⟩ = some (.int .i64 y.kind) ∧ w'.cell? ⟨bl, ol + j * 3 + 1, none⟩ = some (.int .i64 y.idx) ∧ w'.cell? ⟨bl, ol + j * 3 + 2, none⟩ = some (.slice a8 y.subs.length c8)) := fun w' hb => ⟨cell_sameM (hb.block _ (cell_ltM hca)) hca, cell_sameM (hb.block _ (cell_ltM f0)) f0, cell_sameM (hb.block _ (cell_ltM f0')) f0', cell_sameM (hb.block _ (cell_ltM f1)) f1⟩
                  have KP : Hid (∀ w', Below w6.heap.size w6 w' → w'.cell? ⟨ba, oa + k, none⟩ = some (.slice a7 all[k].length c7) ∧ w'.cell? ⟨bl, ol + j * 3, none⟩ = some (.int .i64 y.kind) ∧ w'.cell? ⟨bl, ol + j * 3 + 1, none⟩ = some (.int .i64 y.idx) ∧ w'.cell? ⟨bl, ol + j * 3 + 2, none⟩ = some (.slice a8 y.subs.length c8)) := fun w' hb => KP4.out w' (HB6.out.trans (hb.mono HN46.out))
                  have HSTEP : Hid ((gonP all L k (j + 1)).take 301 = (gonP all L k j).take 301 ++ [all[k] ++ [y]]) := by
                    unfold Hid
                    rw [gonP_step hk1 hj1, ← hy]
                    exact take_snoc (most := 300) (by show ((gonP all L k j).take 301).length ≤ 300; rw [← HLN3.out]; exact hj2)
                  have hle := HLE.out
                  have k6 : Below w6.heap.size w6 w6.drew := (Below.refl w6.heap.size w6).drew
                  have HSd := hide (KP.out _ k6)
                  have hbal6 : ba < w6.heap.size := Nat.lt_of_lt_of_le hbal HN46.out
                  clear hsa hx hca f0 f0' f1 hb6 hy
                  go_wp2_with fail
                  refine wp_region_held_drew (S := (fun w' => w'.cell? ⟨ba, oa + k, none⟩ = some (.slice a7 all[k].length c7) ∧ w'.cell? ⟨bl, ol + j * 3, none⟩ = some (.int .i64 y.kind) ∧ w'.cell? ⟨bl, ol + j * 3 + 1, none⟩ = some (.int .i64 y.idx) ∧ w'.cell? ⟨bl, ol + j * 3 + 2, none⟩ = some (.slice a8 y.subs.length c8))) (by kernel_rfl) HSd.out (fun hHeld => ?_)
                  refine wpAnyH_take (i := 0) (v := ?_) rfl (by kernel_rfl) (by kernel_rfl) (by kernel_rfl) (fun _ _ _ h => h) (Or.inl ⟨by rfl, ?_⟩) (by assumption) ?_
                  rotate_left
                  · intro w' hSw
                    go_simp <;> with_reducible rfl
                  try simp only [Act.put, List.setIfInBounds_toArray, List.set_cons_zero, List.set_cons_succ, List.getElem_toArray, List.getElem_cons_succ, List.getElem_cons_zero]
                  refine wpAnyH_take (i := 2) (v := ?_) rfl (by kernel_rfl) (by kernel_rfl) (by kernel_rfl) (fun _ _ _ h => h) (Or.inl ⟨by rfl, ?_⟩) (by assumption) ?_
                  rotate_left
                  · intro w' hSw
                    go_simp <;> with_reducible rfl
                  try simp only [Act.put, List.setIfInBounds_toArray, List.set_cons_zero, List.set_cons_succ, List.getElem_toArray, List.getElem_cons_succ, List.getElem_cons_zero]
                  refine wpAnyH_take (i := 3) (v := ?_) rfl (by kernel_rfl) (by kernel_rfl) (by kernel_rfl) (fun _ _ _ h => h) (Or.inl ⟨by rfl, ?_⟩) (by assumption) ?_
                  rotate_left
                  · intro w' hSw
                    go_simp <;> with_reducible rfl
                  try simp only [Act.put, List.setIfInBounds_toArray, List.set_cons_zero, List.set_cons_succ, List.getElem_toArray, List.getElem_cons_succ, List.getElem_cons_zero]
                  refine wpAnyH_take (i := 4) (v := ?_) rfl (by kernel_rfl) (by kernel_rfl) (by kernel_rfl) (fun _ _ _ h => h) (Or.inl ⟨by rfl, ?_⟩) (by assumption) ?_
                  rotate_left
                  · intro w' hSw
                    go_simp <;> with_reducible rfl
                  try simp only [Act.put, List.setIfInBounds_toArray, List.set_cons_zero, List.set_cons_succ, List.getElem_toArray, List.getElem_cons_succ, List.getElem_cons_zero]
                  refine wpAnyH_take (i := 5) (v := ?_) rfl (by kernel_rfl) (by kernel_rfl) (by kernel_rfl) (fun _ _ _ h => h) (Or.inl ⟨by rfl, ?_⟩) (by assumption) ?_
                  rotate_left
                  · intro w' hSw
                    obtain ⟨e0, e1, e2, e3⟩ := hSw
                    go_simp <;> with_reducible rfl
                  try simp only [Act.put, List.setIfInBounds_toArray, List.set_cons_zero, List.set_cons_succ, List.getElem_toArray, List.getElem_cons_succ, List.getElem_cons_zero]
                  refine wpAnyH_take (i := 7) (v := ?_) rfl (by kernel_rfl) (by kernel_rfl) (by kernel_rfl) (fun _ _ _ h => h) (Or.inl ⟨by rfl, ?_⟩) (by assumption) ?_
                  rotate_left
                  · intro w' hSw
                    go_simp <;> with_reducible rfl
                  try simp only [Act.put, List.setIfInBounds_toArray, List.set_cons_zero, List.set_cons_succ, List.getElem_toArray, List.getElem_cons_succ, List.getElem_cons_zero]
                  refine wpAnyH_take (i := 8) (v := ?_) rfl (by kernel_rfl) (by kernel_rfl) (by kernel_rfl) (fun _ _ _ h => h) (Or.inl ⟨by rfl, ?_⟩) (by assumption) ?_
                  rotate_left
                  · intro w' hSw
                    go_simp <;> with_reducible rfl
                  try simp only [Act.put, List.setIfInBounds_toArray, List.set_cons_zero, List.set_cons_succ, List.getElem_toArray, List.getElem_cons_succ, List.getElem_cons_zero]
                  refine wpAnyH_take (i := 9) (v := ?_) rfl (by kernel_rfl) (by kernel_rfl) (by kernel_rfl) (fun _ _ _ h => h) (Or.inl ⟨by rfl, ?_⟩) (by assumption) ?_
                  rotate_left
                  · intro w' hSw
                    go_simp <;> with_reducible rfl
                  try simp only [Act.put, List.setIfInBounds_toArray, List.set_cons_zero, List.set_cons_succ, List.getElem_toArray, List.getElem_cons_succ, List.getElem_cons_zero]
                  refine wpAnyH_take (i := 10) (v := ?_) rfl (by kernel_rfl) (by kernel_rfl) (by kernel_rfl) (fun _ _ _ h => h) (Or.inl ⟨by rfl, ?_⟩) (by assumption) ?_
                  rotate_left
                  · intro w' hSw
                    obtain ⟨e0, e1, e2, e3⟩ := hSw
                    go_simp <;> with_reducible rfl
                  try simp only [Act.put, List.setIfInBounds_toArray, List.set_cons_zero, List.set_cons_succ, List.getElem_toArray, List.getElem_cons_succ, List.getElem_cons_zero]
                  refine wpAnyH_ready (rs := [1, 11]) (by kernel_rfl) (by simp) ?_
                  refine AllReadyH.cons rfl (fun K hK => ?_) (AllReadyH.cons rfl (fun K hK => ?_) AllReadyH.nil)
                  · go_simp
                    have kwp : Below w6.heap.size w6 (w6.alloc (.cells #[] 26)).drew := ((Below.refl w6.heap.size w6).alloc (Nat.le_refl _) _).drew
                    have Gwp : Hid (Blk (w6.alloc (.cells #[] 26)).drew w6.heap.size #[] 26) := Blk.new w6 _ _
                    refine hK.out _ _ (by exact KP.out _ kwp) (fun hHeld => ?_)
                    clear hK K
                    try simp only [Act.put, List.setIfInBounds_toArray, List.set_cons_zero, List.set_cons_succ, List.getElem_toArray, List.getElem_cons_succ, List.getElem_cons_zero]
                    generalize (w6.alloc (.cells #[] 26)).drew = wp at *
                    have qwp : Hid (w6.heap.size < wp.heap.size) := Gwp.out.lt
                    refine wpAnyH_ready (rs := [6, 11]) (by kernel_rfl) (by simp) ?_
                    refine AllReadyH.cons rfl (fun K hK => ?_) (AllReadyH.cons rfl (fun K hK => ?_) AllReadyH.nil)
                    · have ltwq := kwp.size
                      have gltwq := Gwp.out.lt
                      obtain ⟨v1, wq, x1, hrun1, hM1, hB1, hF1, hZ1⟩ := spreadL (c := c7) kwp HN46.out (fun b h => h) (by have := qwp.out; omega) Gwp.out HSA.out HKL.out
                      have HR1 := hide hrun1
                      have Mwq := hide hM1
                      have kwq := hB1
                      clear hrun1 hM1 hB1 hF1
                      refine step_append_eqM rfl _ _ _ _ rfl rfl rfl HR1.out ?_
                      refine hK.out _ _ (by exact KP.out _ kwq) (fun hHeld => ?_)
                      clear hK K
                      try simp only [Act.put, List.setIfInBounds_toArray, List.set_cons_zero, List.set_cons_succ, List.getElem_toArray, List.getElem_cons_succ, List.getElem_cons_zero]
                      refine wpAnyH_ready (rs := [11]) (by kernel_rfl) (by simp) ?_
                      refine AllReadyH.cons rfl (fun K hK => ?_) AllReadyH.nil
                      go_simp
                      have kwr : Below w6.heap.size w6 (wq.alloc (.cells #[.int .i64 y.kind, .int .i64 y.idx, .slice a8 y.subs.length c8] 26)) := kwq.alloc kwq.size _
                      have Pwr : Hid (Blk (wq.alloc (.cells #[.int .i64 y.kind, .int .i64 y.idx, .slice a8 y.subs.length c8] 26)) wq.heap.size #[.int .i64 y.kind, .int .i64 y.idx, .slice a8 y.subs.length c8] 26) := Blk.new wq _ _
                      have Mwr := hide (Mwq.out.below ((Below.refl _ _).alloc (Nat.le_refl _) (.cells #[.int .i64 y.kind, .int .i64 y.idx, .slice a8 y.subs.length c8] 26)))
                      refine hK.out _ _ (by exact KP.out _ kwr) (fun hHeld => ?_)
                      clear hK K
                      try simp only [Act.put, List.setIfInBounds_toArray, List.set_cons_zero, List.set_cons_succ, List.getElem_toArray, List.getElem_cons_succ, List.getElem_cons_zero]
                      generalize (wq.alloc (.cells #[.int .i64 y.kind, .int .i64 y.idx, .slice a8 y.subs.length c8] 26)) = wr at *
                      have qwr : Hid (wq.heap.size < wr.heap.size) := Pwr.out.lt
                      obtain ⟨g2, cap2, wB, x2, hrun2, hM2, hB2⟩ := oneL kwr (fun b h => Nat.lt_of_lt_of_le h HN46.out) Mwr.out Pwr.out HSY.out HKL.out
                      have HR2 := hide hrun2
                      have MB := hide hM2
                      have kB := hB2
                      clear hrun2 hM2 hB2
                      have HKL1 : (all[k] ++ [y]).length = all[k].length + 1 := by simp
                      refine wpAnyH_ready (rs := [12]) (by kernel_rfl) (by simp) ?_
                      refine AllReadyH.cons rfl (fun K hK => ?_) AllReadyH.nil
                      refine step_append_eqM rfl _ _ _ _ rfl rfl rfl HR2.out ?_
                      refine hK.out _ _ (by exact KP.out _ kB) (fun hHeld => ?_)
                      clear hK K
                      try simp only [Act.put, List.setIfInBounds_toArray, List.set_cons_zero, List.set_cons_succ, List.getElem_toArray, List.getElem_cons_succ, List.getElem_cons_zero]
                      have kC : Below w6.heap.size w6 (wB.alloc (.cells #[.slice (some ⟨g2, 0, none⟩) (all[k].length + 1) cap2] 24)) := kB.alloc kB.size _
                      have QC : Hid (Blk (wB.alloc (.cells #[.slice (some ⟨g2, 0, none⟩) (all[k].length + 1) cap2] 24)) wB.heap.size #[.slice (some ⟨g2, 0, none⟩) (all[k] ++ [y]).length cap2] 24) := by rw [HKL1]; exact Blk.new wB _ _
                      have RC := hide (HROW3.out.below kC)
                      have SC : Hid (SlM (wB.alloc (.cells #[.slice (some ⟨g2, 0, none⟩) (all[k].length + 1) cap2] 24)) (fun b => b < w4.heap.size ∨ (w4.heap.size ≤ b ∧ some b ≠ (Value.slice an3 ln3 cn3).ownBlock)) (some ⟨g2, 0, none⟩) (all[k] ++ [y])) := by
                        obtain ⟨a9, c9, e9, h9⟩ := MB.out.sl
                        simp only [Value.slice.injEq] at e9
                        obtain ⟨rfl, _, _⟩ := e9
                        refine (h9.later ((Below.refl _ _).alloc (Nat.le_refl _) _)).mono fun b hb _ => ?_
                        rcases hb with hb | hb
                        · exact Or.inl hb
                        · refine Or.inr ⟨Nat.le_trans HN46.out hb, fun e => ?_⟩
                          have := (HROW3.out.own.lt b e.symm).2
                          omega
                      refine wpAnyH_ready (rs := [13]) (by kernel_rfl) (by simp) ?_
                      refine AllReadyH.cons rfl (fun K hK => ?_) AllReadyH.nil
                      go_simp
                      refine hK.out _ _ (by exact KP.out _ kC) (fun hHeld => ?_)
                      clear hK K
                      try simp only [Act.put, List.setIfInBounds_toArray, List.set_cons_zero, List.set_cons_succ, List.getElem_toArray, List.getElem_cons_succ, List.getElem_cons_zero]
                      generalize (wB.alloc (.cells #[.slice (some ⟨g2, 0, none⟩) (all[k].length + 1) cap2] 24)) = wC at *
                      obtain ⟨g3, cap3, wD, x3, hrun3, hR3, hG3⟩ := oneS (Nat.le_trans HN46.out kC.size) (fun b h => h) RC.out QC.out SC.out HLL3.out
                      rw [← HLN3.out] at hrun3 hR3
                      have HR3 := hide hrun3
                      have RD := hide hR3
                      have kD4 : Below w4.heap.size w4 wD := (HB6.out.trans (kC.mono HN46.out)).grown hG3 (Nat.le_trans HN46.out kC.size) (fun q hq => (RC.out.own.lt q hq).1)
                      clear hrun3 hR3 hG3
                      refine wpAnyH_ready (rs := [14]) (by kernel_rfl) (by simp) ?_
                      refine AllReadyH.cons rfl (fun K hK => ?_) AllReadyH.nil
                      refine step_append_eqM rfl _ _ _ _ rfl rfl rfl HR3.out ?_
                      refine hK.out _ _ (by exact KP4.out _ kD4) (fun hHeld => ?_)
                      clear hK K
                      try simp only [Act.put, List.setIfInBounds_toArray, List.set_cons_zero, List.set_cons_succ, List.getElem_toArray, List.getElem_cons_succ, List.getElem_cons_zero]
                      refine wpAnyH_take (i := 15) (v := ?_) rfl (by kernel_rfl) (by kernel_rfl) (by kernel_rfl) (fun _ _ _ h => h) (Or.inl ⟨by rfl, ?_⟩) (by assumption) ?_
                      rotate_left
                      · intro w' hSw
                        go_simp <;> with_reducible rfl
                      try simp only [Act.put, List.setIfInBounds_toArray, List.set_cons_zero, List.set_cons_succ, List.getElem_toArray, List.getElem_cons_succ, List.getElem_cons_zero]
                      refine wpAnyH_done (by kernel_rfl) ?_ _
                      go_wp2_with fail
                      go_roundw
                      case rel => exact ⟨j + 1, x3, by omega, by go_num, by rw [HSTEP.out]; exact RD.out, kD4⟩
                      case measure => simp [intOf]; omega
                    · go_simp
                      have kwq : Below w6.heap.size w6 (wp.alloc (.cells #[.int .i64 y.kind, .int .i64 y.idx, .slice a8 y.subs.length c8] 26)) := kwp.alloc kwp.size _
                      have Pwq : Hid (Blk (wp.alloc (.cells #[.int .i64 y.kind, .int .i64 y.idx, .slice a8 y.subs.length c8] 26)) wp.heap.size #[.int .i64 y.kind, .int .i64 y.idx, .slice a8 y.subs.length c8] 26) := Blk.new wp _ _
                      have Gwq : Hid (Blk (wp.alloc (.cells #[.int .i64 y.kind, .int .i64 y.idx, .slice a8 y.subs.length c8] 26)) w6.heap.size #[] 26) := Gwp.out.alloc _
                      refine hK.out _ _ (by exact KP.out _ kwq) (fun hHeld => ?_)
                      clear hK K
                      try simp only [Act.put, List.setIfInBounds_toArray, List.set_cons_zero, List.set_cons_succ, List.getElem_toArray, List.getElem_cons_succ, List.getElem_cons_zero]
                      generalize (wp.alloc (.cells #[.int .i64 y.kind, .int .i64 y.idx, .slice a8 y.subs.length c8] 26)) = wq at *
                      have qwq : Hid (wp.heap.size < wq.heap.size) := Pwq.out.lt
                      refine wpAnyH_ready (rs := [6]) (by kernel_rfl) (by simp) ?_
                      refine AllReadyH.cons rfl (fun K hK => ?_) AllReadyH.nil
                      have ltwr := kwq.size
                      have gltwr := Gwq.out.lt
                      obtain ⟨v1, wr, x1, hrun1, hM1, hB1, hF1, hZ1⟩ := spreadL (c := c7) kwq HN46.out (fun b h => h) (by have := qwp.out; have := qwq.out; omega) Gwq.out HSA.out HKL.out
                      have HR1 := hide hrun1
                      have Mwr := hide hM1
                      have kwr := hB1
                      have Pwr : Hid (Blk wr wp.heap.size #[.int .i64 y.kind, .int .i64 y.idx, .slice a8 y.subs.length c8] 26) := (hF1 _ Pwq.out.lt (by have := qwp.out; have := qwq.out; omega)).trans Pwq.out
                      clear hrun1 hM1 hB1 hF1
                      refine step_append_eqM rfl _ _ _ _ rfl rfl rfl HR1.out ?_
                      refine hK.out _ _ (by exact KP.out _ kwr) (fun hHeld => ?_)
                      clear hK K
                      try simp only [Act.put, List.setIfInBounds_toArray, List.set_cons_zero, List.set_cons_succ, List.getElem_toArray, List.getElem_cons_succ, List.getElem_cons_zero]
                      obtain ⟨g2, cap2, wB, x2, hrun2, hM2, hB2⟩ := oneL kwr (fun b h => Nat.lt_of_lt_of_le h HN46.out) Mwr.out Pwr.out HSY.out HKL.out
                      have HR2 := hide hrun2
                      have MB := hide hM2
                      have kB := hB2
                      clear hrun2 hM2 hB2
                      have HKL1 : (all[k] ++ [y]).length = all[k].length + 1 := by simp
                      refine wpAnyH_ready (rs := [12]) (by kernel_rfl) (by simp) ?_
                      refine AllReadyH.cons rfl (fun K hK => ?_) AllReadyH.nil
                      refine step_append_eqM rfl _ _ _ _ rfl rfl rfl HR2.out ?_
                      refine hK.out _ _ (by exact KP.out _ kB) (fun hHeld => ?_)
                      clear hK K
                      try simp only [Act.put, List.setIfInBounds_toArray, List.set_cons_zero, List.set_cons_succ, List.getElem_toArray, List.getElem_cons_succ, List.getElem_cons_zero]
                      have kC : Below w6.heap.size w6 (wB.alloc (.cells #[.slice (some ⟨g2, 0, none⟩) (all[k].length + 1) cap2] 24)) := kB.alloc kB.size _
                      have QC : Hid (Blk (wB.alloc (.cells #[.slice (some ⟨g2, 0, none⟩) (all[k].length + 1) cap2] 24)) wB.heap.size #[.slice (some ⟨g2, 0, none⟩) (all[k] ++ [y]).length cap2] 24) := by rw [HKL1]; exact Blk.new wB _ _
                      have RC := hide (HROW3.out.below kC)
                      have SC : Hid (SlM (wB.alloc (.cells #[.slice (some ⟨g2, 0, none⟩) (all[k].length + 1) cap2] 24)) (fun b => b < w4.heap.size ∨ (w4.heap.size ≤ b ∧ some b ≠ (Value.slice an3 ln3 cn3).ownBlock)) (some ⟨g2, 0, none⟩) (all[k] ++ [y])) := by
                        obtain ⟨a9, c9, e9, h9⟩ := MB.out.sl
                        simp only [Value.slice.injEq] at e9
                        obtain ⟨rfl, _, _⟩ := e9
                        refine (h9.later ((Below.refl _ _).alloc (Nat.le_refl _) _)).mono fun b hb _ => ?_
                        rcases hb with hb | hb
                        · exact Or.inl hb
                        · refine Or.inr ⟨Nat.le_trans HN46.out hb, fun e => ?_⟩
                          have := (HROW3.out.own.lt b e.symm).2
                          omega
                      refine wpAnyH_ready (rs := [13]) (by kernel_rfl) (by simp) ?_
                      refine AllReadyH.cons rfl (fun K hK => ?_) AllReadyH.nil
                      go_simp
                      refine hK.out _ _ (by exact KP.out _ kC) (fun hHeld => ?_)
                      clear hK K
                      try simp only [Act.put, List.setIfInBounds_toArray, List.set_cons_zero, List.set_cons_succ, List.getElem_toArray, List.getElem_cons_succ, List.getElem_cons_zero]
                      generalize (wB.alloc (.cells #[.slice (some ⟨g2, 0, none⟩) (all[k].length + 1) cap2] 24)) = wC at *
                      obtain ⟨g3, cap3, wD, x3, hrun3, hR3, hG3⟩ := oneS (Nat.le_trans HN46.out kC.size) (fun b h => h) RC.out QC.out SC.out HLL3.out
                      rw [← HLN3.out] at hrun3 hR3
                      have HR3 := hide hrun3
                      have RD := hide hR3
                      have kD4 : Below w4.heap.size w4 wD := (HB6.out.trans (kC.mono HN46.out)).grown hG3 (Nat.le_trans HN46.out kC.size) (fun q hq => (RC.out.own.lt q hq).1)
                      clear hrun3 hR3 hG3
                      refine wpAnyH_ready (rs := [14]) (by kernel_rfl) (by simp) ?_
                      refine AllReadyH.cons rfl (fun K hK => ?_) AllReadyH.nil
                      refine step_append_eqM rfl _ _ _ _ rfl rfl rfl HR3.out ?_
                      refine hK.out _ _ (by exact KP4.out _ kD4) (fun hHeld => ?_)
                      clear hK K
                      try simp only [Act.put, List.setIfInBounds_toArray, List.set_cons_zero, List.set_cons_succ, List.getElem_toArray, List.getElem_cons_succ, List.getElem_cons_zero]
                      refine wpAnyH_take (i := 15) (v := ?_) rfl (by kernel_rfl) (by kernel_rfl) (by kernel_rfl) (fun _ _ _ h => h) (Or.inl ⟨by rfl, ?_⟩) (by assumption) ?_
                      rotate_left
                      · intro w' hSw
                        go_simp <;> with_reducible rfl
                      try simp only [Act.put, List.setIfInBounds_toArray, List.set_cons_zero, List.set_cons_succ, List.getElem_toArray, List.getElem_cons_succ, List.getElem_cons_zero]
                      refine wpAnyH_done (by kernel_rfl) ?_ _
                      go_wp2_with fail
                      go_roundw
                      case rel => exact ⟨j + 1, x3, by omega, by go_num, by rw [HSTEP.out]; exact RD.out, kD4⟩
                      case measure => simp [intOf]; omega
                  · go_simp
                    have kwp : Below w6.heap.size w6 (w6.alloc (.cells #[.int .i64 y.kind, .int .i64 y.idx, .slice a8 y.subs.length c8] 26)).drew := ((Below.refl w6.heap.size w6).alloc (Nat.le_refl _) _).drew
                    have Pwp : Hid (Blk (w6.alloc (.cells #[.int .i64 y.kind, .int .i64 y.idx, .slice a8 y.subs.length c8] 26)).drew w6.heap.size #[.int .i64 y.kind, .int .i64 y.idx, .slice a8 y.subs.length c8] 26) := Blk.new w6 _ _
                    refine hK.out _ _ (by exact KP.out _ kwp) (fun hHeld => ?_)
                    clear hK K
                    try simp only [Act.put, List.setIfInBounds_toArray, List.set_cons_zero, List.set_cons_succ, List.getElem_toArray, List.getElem_cons_succ, List.getElem_cons_zero]
                    generalize (w6.alloc (.cells #[.int .i64 y.kind, .int .i64 y.idx, .slice a8 y.subs.length c8] 26)).drew = wp at *
                    have qwp : Hid (w6.heap.size < wp.heap.size) := Pwp.out.lt
                    refine wpAnyH_ready (rs := [1]) (by kernel_rfl) (by simp) ?_
                    refine AllReadyH.cons rfl (fun K hK => ?_) AllReadyH.nil
                    go_simp
                    have kwq : Below w6.heap.size w6 (wp.alloc (.cells #[] 26)) := kwp.alloc kwp.size _
                    have Gwq : Hid (Blk (wp.alloc (.cells #[] 26)) wp.heap.size #[] 26) := Blk.new wp _ _
                    have Pwq : Hid (Blk (wp.alloc (.cells #[] 26)) w6.heap.size #[.int .i64 y.kind, .int .i64 y.idx, .slice a8 y.subs.length c8] 26) := Pwp.out.alloc _
                    refine hK.out _ _ (by exact KP.out _ kwq) (fun hHeld => ?_)
                    clear hK K
                    try simp only [Act.put, List.setIfInBounds_toArray, List.set_cons_zero, List.set_cons_succ, List.getElem_toArray, List.getElem_cons_succ, List.getElem_cons_zero]
                    generalize (wp.alloc (.cells #[] 26)) = wq at *
                    have qwq : Hid (wp.heap.size < wq.heap.size) := Gwq.out.lt
                    refine wpAnyH_ready (rs := [6]) (by kernel_rfl) (by simp) ?_
                    refine AllReadyH.cons rfl (fun K hK => ?_) AllReadyH.nil
                    have ltwr := kwq.size
                    have gltwr := Gwq.out.lt
                    obtain ⟨v1, wr, x1, hrun1, hM1, hB1, hF1, hZ1⟩ := spreadL (c := c7) kwq HN46.out (fun b h => h) (by have := qwp.out; have := qwq.out; omega) Gwq.out HSA.out HKL.out
                    have HR1 := hide hrun1
                    have Mwr := hide hM1
                    have kwr := hB1
                    have Pwr : Hid (Blk wr w6.heap.size #[.int .i64 y.kind, .int .i64 y.idx, .slice a8 y.subs.length c8] 26) := (hF1 _ Pwq.out.lt (by have := qwp.out; have := qwq.out; omega)).trans Pwq.out
                    clear hrun1 hM1 hB1 hF1
                    refine step_append_eqM rfl _ _ _ _ rfl rfl rfl HR1.out ?_
                    refine hK.out _ _ (by exact KP.out _ kwr) (fun hHeld => ?_)
                    clear hK K
                    try simp only [Act.put, List.setIfInBounds_toArray, List.set_cons_zero, List.set_cons_succ, List.getElem_toArray, List.getElem_cons_succ, List.getElem_cons_zero]
                    obtain ⟨g2, cap2, wB, x2, hrun2, hM2, hB2⟩ := oneL kwr (fun b h => Nat.lt_of_lt_of_le h HN46.out) Mwr.out Pwr.out HSY.out HKL.out
                    have HR2 := hide hrun2
                    have MB := hide hM2
                    have kB := hB2
                    clear hrun2 hM2 hB2
                    have HKL1 : (all[k] ++ [y]).length = all[k].length + 1 := by simp
                    refine wpAnyH_ready (rs := [12]) (by kernel_rfl) (by simp) ?_
                    refine AllReadyH.cons rfl (fun K hK => ?_) AllReadyH.nil
                    refine step_append_eqM rfl _ _ _ _ rfl rfl rfl HR2.out ?_
                    refine hK.out _ _ (by exact KP.out _ kB) (fun hHeld => ?_)
                    clear hK K
                    try simp only [Act.put, List.setIfInBounds_toArray, List.set_cons_zero, List.set_cons_succ, List.getElem_toArray, List.getElem_cons_succ, List.getElem_cons_zero]
                    have kC : Below w6.heap.size w6 (wB.alloc (.cells #[.slice (some ⟨g2, 0, none⟩) (all[k].length + 1) cap2] 24)) := kB.alloc kB.size _
                    have QC : Hid (Blk (wB.alloc (.cells #[.slice (some ⟨g2, 0, none⟩) (all[k].length + 1) cap2] 24)) wB.heap.size #[.slice (some ⟨g2, 0, none⟩) (all[k] ++ [y]).length cap2] 24) := by rw [HKL1]; exact Blk.new wB _ _
                    have RC := hide (HROW3.out.below kC)
                    have SC : Hid (SlM (wB.alloc (.cells #[.slice (some ⟨g2, 0, none⟩) (all[k].length + 1) cap2] 24)) (fun b => b < w4.heap.size ∨ (w4.heap.size ≤ b ∧ some b ≠ (Value.slice an3 ln3 cn3).ownBlock)) (some ⟨g2, 0, none⟩) (all[k] ++ [y])) := by
                      obtain ⟨a9, c9, e9, h9⟩ := MB.out.sl
                      simp only [Value.slice.injEq] at e9
                      obtain ⟨rfl, _, _⟩ := e9
                      refine (h9.later ((Below.refl _ _).alloc (Nat.le_refl _) _)).mono fun b hb _ => ?_
                      rcases hb with hb | hb
                      · exact Or.inl hb
                      · refine Or.inr ⟨Nat.le_trans HN46.out hb, fun e => ?_⟩
                        have := (HROW3.out.own.lt b e.symm).2
                        omega
                    refine wpAnyH_ready (rs := [13]) (by kernel_rfl) (by simp) ?_
                    refine AllReadyH.cons rfl (fun K hK => ?_) AllReadyH.nil
                    go_simp
                    refine hK.out _ _ (by exact KP.out _ kC) (fun hHeld => ?_)
                    clear hK K
                    try simp only [Act.put, List.setIfInBounds_toArray, List.set_cons_zero, List.set_cons_succ, List.getElem_toArray, List.getElem_cons_succ, List.getElem_cons_zero]
                    generalize (wB.alloc (.cells #[.slice (some ⟨g2, 0, none⟩) (all[k].length + 1) cap2] 24)) = wC at *
                    obtain ⟨g3, cap3, wD, x3, hrun3, hR3, hG3⟩ := oneS (Nat.le_trans HN46.out kC.size) (fun b h => h) RC.out QC.out SC.out HLL3.out
                    rw [← HLN3.out] at hrun3 hR3
                    have HR3 := hide hrun3
                    have RD := hide hR3
                    have kD4 : Below w4.heap.size w4 wD := (HB6.out.trans (kC.mono HN46.out)).grown hG3 (Nat.le_trans HN46.out kC.size) (fun q hq => (RC.out.own.lt q hq).1)
                    clear hrun3 hR3 hG3
                    refine wpAnyH_ready (rs := [14]) (by kernel_rfl) (by simp) ?_
                    refine AllReadyH.cons rfl (fun K hK => ?_) AllReadyH.nil
                    refine step_append_eqM rfl _ _ _ _ rfl rfl rfl HR3.out ?_
                    refine hK.out _ _ (by exact KP4.out _ kD4) (fun hHeld => ?_)
                    clear hK K
                    try simp only [Act.put, List.setIfInBounds_toArray, List.set_cons_zero, List.set_cons_succ, List.getElem_toArray, List.getElem_cons_succ, List.getElem_cons_zero]
                    refine wpAnyH_take (i := 15) (v := ?_) rfl (by kernel_rfl) (by kernel_rfl) (by kernel_rfl) (fun _ _ _ h => h) (Or.inl ⟨by rfl, ?_⟩) (by assumption) ?_
                    rotate_left
                    · intro w' hSw
                      go_simp <;> with_reducible rfl
                    try simp only [Act.put, List.setIfInBounds_toArray, List.set_cons_zero, List.set_cons_succ, List.getElem_toArray, List.getElem_cons_succ, List.getElem_cons_zero]
                    refine wpAnyH_done (by kernel_rfl) ?_ _
                    go_wp2_with fail
                    go_roundw
                    case rel => exact ⟨j + 1, x3, by omega, by go_num, by rw [HSTEP.out]; exact RD.out, kD4⟩
                    case measure => simp [intOf]; omega
                · have hlj : ¬ (ln3 : Int) ≤ 300 := by omega
                  have hal := HAL.out.1
                  have hji : (j : Int) < (L.length : Int) := by omega
                  have HST2 : Hid ((gonP all L (k + 1) 0).take 301 = (gonP all L k j).take 301) := gonP_stop (most := 300) hk1 (by show 300 < ((gonP all L k j).take 301).length; rw [← HLN3.out]; omega)
                  go_wp2_with fail
                  go_roundw
                  case rel => exact ⟨k + 1, ys, by omega, by go_num, by rw [HST2.out]; exact HROW3.out, HB6.out⟩
                  case measure => simp [intOf]; omega
              · have hji : ¬ (j : Int) < (L.length : Int) := by omega
                have hal := HAL.out.1
                have HST2 : Hid ((gonP all L (k + 1) 0).take 301 = (gonP all L k j).take 301) := by
                  unfold Hid
                  rw [gonP_row hk1, show j = L.length by omega]
                go_wp2_with fail
                go_roundw
                case rel => exact ⟨k + 1, ys, by omega, by go_num, by rw [HST2.out]; exact HROW3.out, HB6.out⟩
                case measure => simp [intOf]; omega
          · have hki : (k : Int) < (all.length : Int) := by omega
            have hli : ¬ (ln : Int) ≤ 300 := by omega
            have HST1 : Hid (foP n t.subs (m + 1) = (gonP all L k 0).take 301) := by
              unfold Hid
              rw [HFS.out]
              exact (gonP_full (most := 300) hk1 (by show 300 < ((gonP all L k 0).take 301).length; rw [← HLN.out]; omega)).symm
            go_wp2_with fail
            go_roundw
            case rel => exact ⟨m + 1, by omega, by go_num, by rw [HST1.out, HLN.out]; exact HROW.out.ls, HB4.out.trans (HB5.out.mono HB4.out.size)⟩
            case measure => simp [intOf]; omega
        · have hki : ¬ (k : Int) < (all.length : Int) := by omega
          have HST1 : Hid (foP n t.subs (m + 1) = (gonP all L k 0).take 301) := by
            unfold Hid
            rw [HFS.out, show k = all.length by omega, gonP_all]
            rfl
          go_wp2_with fail
          go_roundw
          case rel => exact ⟨m + 1, by omega, by go_num, by rw [HST1.out, HLN.out]; exact HROW.out.ls, HB4.out.trans (HB5.out.mono HB4.out.size)⟩
          case measure => simp [intOf]; omega
    · have hni : ¬ (m : Int) < (t.subs.length : Int) := by omega
      have hme : m = t.subs.length := by omega
      have HPL : Hid (∀ x ∈ foP n t.subs m, ParL p.subs x) := by
        intro x hx
        have e9 := HTP.out
        have hml : m = p.subs.length := by rw [hme, e9, px_subs, List.length_map]
        rw [e9] at hx
        have h9 := foP_par n p m (by omega) x hx
        rw [hml, List.take_length] at h9
        exact h9
      have HAL := hide (foP_len n t.subs m hm)
      have HFB : Hid (parR 300 (n + 1) t = outL 300 (knoT t) (foP n t.subs m) []) := by unfold Hid; rw [hme]; exact HFA.out
      have H3S : Hid (t.kind = 3 → t.subs ≠ []) := by
        intro h3 h4
        have e9 := HTP.out
        rw [e9] at h3 h4
        cases p with
        | v i => simp [PX.m] at h3
        | c k => simp [PX.m] at h3
        | l b => simp [PX.m] at h3
        | a f x => simp [PX.m] at h4
      obtain ⟨all, hall⟩ : ∃ all, all = foP n t.subs m := ⟨_, rfl⟩
      rw [← hall] at HPL HAL HFB HLS
      clear hall hme hls hbr HFA IH
      obtain ⟨aa, ca, hu5, _⟩ := HLS.out
      subst hu5
      have HSB : Hid (SlM wr (fun b => b < wr.heap.size) a t.subs) := (S2.out.below HBR.out (fun b _ h => h)).mono fun b _ h2 => h2
      clear S2 T2 A2
      obtain ⟨wk, rfl⟩ : ∃ wk, wk = wr := ⟨_, rfl⟩
      go_wp2_with fail
      go_loopw [11, 12] (fun q i w5 => P4I t all wk q i w5) (fun q i w5 => all.length - (intOf i).toNat)
      case atStart => exact ⟨0, [], [], Nat.zero_le _, rfl, RowM.start _ _ _ _, by simp, by simp, Below.refl _ _⟩
      case round =>
        obtain ⟨k, o, xs, hk, rfl, hrow, hout, hol, hb5⟩ := hrel
        obtain ⟨w5, rfl⟩ : ∃ w5, w5 = wr := ⟨_, rfl⟩
        obtain ⟨an, cn, hu8, _⟩ := hrow.sl
        subst hu8
        have HB5 := hide hb5
        have HN5 := hide hb5.size
        have HOUT := hide hout
        obtain ⟨ln, hln⟩ : ∃ ln, ln = o.length := ⟨_, rfl⟩
        have HLN := hide hln
        have HLL : Hid (o.length ≤ 100000) := by unfold Hid; omega
        have HOL := hide hol
        rw [← hln] at hrow hol ⊢
        have HROW := hide hrow
        clear hrow hln hout hb5
        by_cases hk1 : k < all.length
        · by_cases hk2 : ln ≤ 300
          · have hki : (k : Int) < (all.length : Int) := by omega
            have hli : (ln : Int) ≤ 300 := by omega
            have hal := HAL.out
            obtain ⟨ba, oa, c6, a7, c7, hva, hbal, hca, hsa⟩ := HLS.out.get k hk1
            simp only [Value.slice.injEq] at hva
            obtain ⟨rfl, _, rfl⟩ := hva
            have HSA := hide (hsa.mono (Y := fun b => b < wk.heap.size) fun b _ h2 => h2)
            have KP : Hid (∀ w', Below wk.heap.size wk w' → w'.cell? ⟨ba, oa + k, none⟩ = some (.slice a7 all[k].length c7) ∧ w'.cell? ⟨w.heap.size, 0, none⟩ = some (.int .i64 t.kind) ∧ w'.cell? ⟨w.heap.size, 1, none⟩ = some (.int .i64 t.idx) ∧ w'.cell? ⟨w.heap.size, 2, none⟩ = some (.slice a t.subs.length c)) := fun w' hb => ⟨cell_sameM (hb.block _ (cell_ltM hca)) hca, cell_sameM (hb.block _ (cell_ltM c0)) c0, cell_sameM (hb.block _ (cell_ltM c1)) c1, cell_sameM (hb.block _ (cell_ltM c2)) c2⟩
            have HCA := hide hca
            have k5 : Below wk.heap.size wk w5.drew := HB5.out.drew
            have HSd := hide (KP.out _ k5)
            have hbal5 : ba < w5.heap.size := Nat.lt_of_lt_of_le hbal HN5.out
            have HBA := hide hbal
            have hwl5 : w.heap.size < w5.heap.size := Nat.lt_of_lt_of_le TR.out.lt HN5.out
            clear hsa hca c0 c1 c2
            go_wp2_with fail
            refine wp_region_held_drew (S := (fun w' => w'.cell? ⟨ba, oa + k, none⟩ = some (.slice a7 all[k].length c7) ∧ w'.cell? ⟨w.heap.size, 0, none⟩ = some (.int .i64 t.kind) ∧ w'.cell? ⟨w.heap.size, 1, none⟩ = some (.int .i64 t.idx) ∧ w'.cell? ⟨w.heap.size, 2, none⟩ = some (.slice a t.subs.length c))) (by kernel_rfl) HSd.out (fun hHeld => ?_)
            refine wpAnyH_take (i := 0) (v := ?_) rfl (by kernel_rfl) (by kernel_rfl) (by kernel_rfl) (fun _ _ _ h => h) (Or.inl ⟨by rfl, ?_⟩) (by assumption) ?_
            rotate_left
            · intro w' hSw
              go_simp <;> with_reducible rfl
            try simp only [Act.put, List.setIfInBounds_toArray, List.set_cons_zero, List.set_cons_succ, List.getElem_toArray, List.getElem_cons_succ, List.getElem_cons_zero]
            refine wpAnyH_take (i := 1) (v := ?_) rfl (by kernel_rfl) (by kernel_rfl) (by kernel_rfl) (fun _ _ _ h => h) (Or.inl ⟨by rfl, ?_⟩) (by assumption) ?_
            rotate_left
            · intro w' hSw
              go_simp <;> with_reducible rfl
            try simp only [Act.put, List.setIfInBounds_toArray, List.set_cons_zero, List.set_cons_succ, List.getElem_toArray, List.getElem_cons_succ, List.getElem_cons_zero]
            refine wpAnyH_take (i := 2) (v := ?_) rfl (by kernel_rfl) (by kernel_rfl) (by kernel_rfl) (fun _ _ _ h => h) (Or.inl ⟨by rfl, ?_⟩) (by assumption) ?_
            rotate_left
            · intro w' hSw
              obtain ⟨e0, e1, e2, e3⟩ := hSw
              go_simp <;> with_reducible rfl
            try simp only [Act.put, List.setIfInBounds_toArray, List.set_cons_zero, List.set_cons_succ, List.getElem_toArray, List.getElem_cons_succ, List.getElem_cons_zero]
            refine wpAnyH_take (i := 3) (v := ?_) rfl (by kernel_rfl) (by kernel_rfl) (by kernel_rfl) (fun _ _ _ h => h) (Or.inl ⟨by rfl, ?_⟩) (by assumption) ?_
            rotate_left
            · intro w' hSw
              go_simp <;> with_reducible rfl
            try simp only [Act.put, List.setIfInBounds_toArray, List.set_cons_zero, List.set_cons_succ, List.getElem_toArray, List.getElem_cons_succ, List.getElem_cons_zero]
            refine wpAnyH_take (i := 4) (v := ?_) rfl (by kernel_rfl) (by kernel_rfl) (by kernel_rfl) (fun _ _ _ h => h) (Or.inl ⟨by rfl, ?_⟩) (by assumption) ?_
            rotate_left
            · intro w' hSw
              obtain ⟨e0, e1, e2, e3⟩ := hSw
              go_simp <;> with_reducible rfl
            try simp only [Act.put, List.setIfInBounds_toArray, List.set_cons_zero, List.set_cons_succ, List.getElem_toArray, List.getElem_cons_succ, List.getElem_cons_zero]
            refine wpAnyH_take (i := 5) (v := ?_) rfl (by kernel_rfl) (by kernel_rfl) (by kernel_rfl) (fun _ _ _ h => h) (Or.inl ⟨by rfl, ?_⟩) (by assumption) ?_
            rotate_left
            · intro w' hSw
              go_simp <;> with_reducible rfl
            try simp only [Act.put, List.setIfInBounds_toArray, List.set_cons_zero, List.set_cons_succ, List.getElem_toArray, List.getElem_cons_succ, List.getElem_cons_zero]
            refine wpAnyH_take (i := 6) (v := ?_) rfl (by kernel_rfl) (by kernel_rfl) (by kernel_rfl) (fun _ _ _ h => h) (Or.inl ⟨by rfl, ?_⟩) (by assumption) ?_
            rotate_left
            · intro w' hSw
              go_simp <;> with_reducible rfl
            try simp only [Act.put, List.setIfInBounds_toArray, List.set_cons_zero, List.set_cons_succ, List.getElem_toArray, List.getElem_cons_succ, List.getElem_cons_zero]
            refine wpAnyH_take (i := 7) (v := ?_) rfl (by kernel_rfl) (by kernel_rfl) (by kernel_rfl) (fun _ _ _ h => h) (Or.inl ⟨by rfl, ?_⟩) (by assumption) ?_
            rotate_left
            · intro w' hSw
              go_simp <;> with_reducible rfl
            try simp only [Act.put, List.setIfInBounds_toArray, List.set_cons_zero, List.set_cons_succ, List.getElem_toArray, List.getElem_cons_succ, List.getElem_cons_zero]
            refine wpAnyH_take (i := 8) (v := ?_) rfl (by kernel_rfl) (by kernel_rfl) (by kernel_rfl) (fun _ _ _ h => h) (Or.inl ⟨by rfl, ?_⟩) (by assumption) ?_
            rotate_left
            · intro w' hSw
              obtain ⟨e0, e1, e2, e3⟩ := hSw
              go_simp <;> with_reducible rfl
            try simp only [Act.put, List.setIfInBounds_toArray, List.set_cons_zero, List.set_cons_succ, List.getElem_toArray, List.getElem_cons_succ, List.getElem_cons_zero]
            refine wpAnyH_take (i := 9) (v := ?_) rfl (by kernel_rfl) (by kernel_rfl) (by kernel_rfl) (fun _ _ _ h => h) (Or.inl ⟨by rfl, ?_⟩) (by assumption) ?_
            rotate_left
            · intro w' hSw
              go_simp <;> with_reducible rfl
            try simp only [Act.put, List.setIfInBounds_toArray, List.set_cons_zero, List.set_cons_succ, List.getElem_toArray, List.getElem_cons_succ, List.getElem_cons_zero]
            refine wpAnyH_ready (rs := [10]) (by kernel_rfl) (by simp) ?_
            refine AllReadyH.cons rfl (fun K hK => ?_) AllReadyH.nil
            go_simp
            have kp : Below wk.heap.size wk (w5.alloc (.cells #[.int .i64 t.kind, .int .i64 t.idx, .slice a7 all[k].length c7] 26)).drew := (HB5.out.alloc HN5.out _).drew
            have Pp : Hid (Blk (w5.alloc (.cells #[.int .i64 t.kind, .int .i64 t.idx, .slice a7 all[k].length c7] 26)).drew w5.heap.size #[.int .i64 t.kind, .int .i64 t.idx, .slice a7 all[k].length c7] 26) := Blk.new w5 _ _
            have Rp : Hid (RowM (w5.alloc (.cells #[.int .i64 t.kind, .int .i64 t.idx, .slice a7 all[k].length c7] 26)).drew wk.heap.size 26 (fun b => b < wk.heap.size) (.slice an ln cn) o xs) := HROW.out.below (((Below.refl _ _).alloc (Nat.le_refl _) _).drew)
            refine hK.out _ _ (by exact KP.out _ kp) (fun hHeld => ?_)
            clear hK K
            try simp only [Act.put, List.setIfInBounds_toArray, List.set_cons_zero, List.set_cons_succ, List.getElem_toArray, List.getElem_cons_succ, List.getElem_cons_zero]
            generalize (w5.alloc (.cells #[.int .i64 t.kind, .int .i64 t.idx, .slice a7 all[k].length c7] 26)).drew = w6 at *
            obtain ⟨g2, cap2, wB, x2, hrun2, hM2, hB2⟩ := oneL (y := ⟨t.kind, t.idx, all[k]⟩) kp (fun b h => h) Rp.out Pp.out HSA.out HLL.out
            rw [← HLN.out] at hrun2 hM2
            have HR2 := hide hrun2
            have MB := hide hM2
            have kB := hB2
            clear hrun2 hM2 hB2
            refine wpAnyH_ready (rs := [11]) (by kernel_rfl) (by simp) ?_
            refine AllReadyH.cons rfl (fun K hK => ?_) AllReadyH.nil
            refine step_append_eqM rfl _ _ _ _ rfl rfl rfl HR2.out ?_
            refine hK.out _ _ (by exact KP.out _ kB) (fun hHeld => ?_)
            clear hK K
            try simp only [Act.put, List.setIfInBounds_toArray, List.set_cons_zero, List.set_cons_succ, List.getElem_toArray, List.getElem_cons_succ, List.getElem_cons_zero]
            refine wpAnyH_take (i := 12) (v := ?_) rfl (by kernel_rfl) (by kernel_rfl) (by kernel_rfl) (fun _ _ _ h => h) (Or.inl ⟨by rfl, ?_⟩) (by assumption) ?_
            rotate_left
            · intro w' hSw
              go_simp <;> with_reducible rfl
            try simp only [Act.put, List.setIfInBounds_toArray, List.set_cons_zero, List.set_cons_succ, List.getElem_toArray, List.getElem_cons_succ, List.getElem_cons_zero]
            refine wpAnyH_done (by kernel_rfl) ?_ _
            clear Rp Pp kp HR2 hHeld HSd k5 hbal5 hwl5
            obtain ⟨c0, c1, c2⟩ := (KP.out _ kB).2
            have hwlB : w.heap.size < wB.heap.size := Nat.lt_of_lt_of_le TR.out.lt kB.size
            go_wp2_with fail
            refine (isRedex_any t _ _ (fun b => b < wk.heap.size) (by exact ⟨a, c, rfl, HSB.out.later kB⟩) H3S.out).mono ?_
            rintro e w7 ⟨rfl, hb7⟩
            have k7 := hide (kB.trans (hb7.mono kB.size))
            have M7 := hide (MB.out.below hb7)
            have HZ7 := hide k7.out.size
            clear hb7 c0 c1 c2 hwlB kB MB
            by_cases hrd : rdxT t = true
            · obtain ⟨b, z, hak, hcon, hs1, hb1, hs2, hb2⟩ := red_parts (p := p) (by rw [← HTP.out]; exact hrd) (HPL.out _ (List.getElem_mem hk1)) hsz hok hu
              have HKN : Hid (knoT t all[k] = [⟨t.kind, t.idx, all[k]⟩, insT z.m 0 b.m]) := by unfold Hid knoT; rw [if_pos hrd, hcon]
              have HSA2 : Hid (SlM wk (fun b => b < wk.heap.size) a7 [⟨2, 0, [b.m]⟩, z.m]) := by unfold Hid; rw [← hak]; exact HSA.out
              have hl2k : all[k].length = 2 := by rw [hak]; rfl
              obtain ⟨B1, o1, a1, c1, a2, c2, e7, hB1, d2, d3, d4, d5, h1s, h2s⟩ := two_cells HSA2.out
              obtain ⟨B2, o2, a3, c3, e8, hB2, g0, g1, g2', h3s⟩ := one_cells h1s
              subst e7 e8
              have HCA2 : Hid (wk.cell? ⟨ba, oa + k, none⟩ = some (.slice (some ⟨B1, o1, none⟩) 2 c7)) := by unfold Hid; rw [← hl2k]; exact HCA.out
              have KP2 : Hid (∀ w', Below wk.heap.size wk w' → w'.cell? ⟨ba, oa + k, none⟩ = some (.slice (some ⟨B1, o1, none⟩) 2 c7) ∧ w'.cell? ⟨B1, o1 + 2, none⟩ = some (.slice (some ⟨B2, o2, none⟩) 1 c1) ∧ w'.cell? ⟨B2, o2, none⟩ = some (.int .i64 b.m.kind) ∧ w'.cell? ⟨B2, o2 + 1, none⟩ = some (.int .i64 b.m.idx) ∧ w'.cell? ⟨B2, o2 + 2, none⟩ = some (.slice a3 b.m.subs.length c3) ∧ w'.cell? ⟨B1, o1 + 3, none⟩ = some (.int .i64 z.m.kind) ∧ w'.cell? ⟨B1, o1 + 4, none⟩ = some (.int .i64 z.m.idx) ∧ w'.cell? ⟨B1, o1 + 5, none⟩ = some (.slice a2 z.m.subs.length c2)) := fun w' hb => ⟨(hb.cell (p := ⟨ba, oa + k, none⟩) HBA.out).trans HCA2.out, (hb.cell (p := ⟨B1, o1 + 2, none⟩) hB1).trans d2, (hb.cell (p := ⟨B2, o2, none⟩) hB2).trans g0, (hb.cell (p := ⟨B2, o2 + 1, none⟩) hB2).trans g1, (hb.cell (p := ⟨B2, o2 + 2, none⟩) hB2).trans g2', (hb.cell (p := ⟨B1, o1 + 3, none⟩) hB1).trans d3, (hb.cell (p := ⟨B1, o1 + 4, none⟩) hB1).trans d4, (hb.cell (p := ⟨B1, o1 + 5, none⟩) hB1).trans d5⟩
              have k8 : Below wk.heap.size wk w7.drew := k7.out.drew
              have HSe := hide (KP2.out _ k8)
              have hbal7 : ba < w7.heap.size := Nat.lt_of_lt_of_le HBA.out HZ7.out
              have hB17 : B1 < w7.heap.size := Nat.lt_of_lt_of_le hB1 HZ7.out
              have hB27 : B2 < w7.heap.size := Nat.lt_of_lt_of_le hB2 HZ7.out
              have H3 := hide h3s
              have H2 := hide h2s
              have HBE := hide (And.intro (And.intro hs1 hb1) (And.intro hs2 hb2))
              rw [hrd]
              clear hs1 hb1 hs2 hb2 d2 d3 d4 d5 g0 g1 g2' h1s h2s h3s hak hcon hrd hl2k HCA HCA2
              go_wp2_with fail
              refine wp_region_held_drew (S := (fun w' => w'.cell? ⟨ba, oa + k, none⟩ = some (.slice (some ⟨B1, o1, none⟩) 2 c7) ∧ w'.cell? ⟨B1, o1 + 2, none⟩ = some (.slice (some ⟨B2, o2, none⟩) 1 c1) ∧ w'.cell? ⟨B2, o2, none⟩ = some (.int .i64 b.m.kind) ∧ w'.cell? ⟨B2, o2 + 1, none⟩ = some (.int .i64 b.m.idx) ∧ w'.cell? ⟨B2, o2 + 2, none⟩ = some (.slice a3 b.m.subs.length c3) ∧ w'.cell? ⟨B1, o1 + 3, none⟩ = some (.int .i64 z.m.kind) ∧ w'.cell? ⟨B1, o1 + 4, none⟩ = some (.int .i64 z.m.idx) ∧ w'.cell? ⟨B1, o1 + 5, none⟩ = some (.slice a2 z.m.subs.length c2))) (by kernel_rfl) HSe.out (fun hHeld => ?_)
              refine wpAnyH_take (i := 0) (v := ?_) rfl (by kernel_rfl) (by kernel_rfl) (by kernel_rfl) (fun _ _ _ h => h) (Or.inl ⟨by rfl, ?_⟩) (by assumption) ?_
              rotate_left
              · intro w' hSw
                go_simp <;> with_reducible rfl
              try simp only [Act.put, List.setIfInBounds_toArray, List.set_cons_zero, List.set_cons_succ, List.getElem_toArray, List.getElem_cons_succ, List.getElem_cons_zero]
              refine wpAnyH_take (i := 1) (v := ?_) rfl (by kernel_rfl) (by kernel_rfl) (by kernel_rfl) (fun _ _ _ h => h) (Or.inl ⟨by rfl, ?_⟩) (by assumption) ?_
              rotate_left
              · intro w' hSw
                go_simp <;> with_reducible rfl
              try simp only [Act.put, List.setIfInBounds_toArray, List.set_cons_zero, List.set_cons_succ, List.getElem_toArray, List.getElem_cons_succ, List.getElem_cons_zero]
              refine wpAnyH_take (i := 2) (v := ?_) rfl (by kernel_rfl) (by kernel_rfl) (by kernel_rfl) (fun _ _ _ h => h) (Or.inl ⟨by rfl, ?_⟩) (by assumption) ?_
              rotate_left
              · intro w' hSw
                go_simp <;> with_reducible rfl
              try simp only [Act.put, List.setIfInBounds_toArray, List.set_cons_zero, List.set_cons_succ, List.getElem_toArray, List.getElem_cons_succ, List.getElem_cons_zero]
              refine wpAnyH_take (i := 3) (v := ?_) rfl (by kernel_rfl) (by kernel_rfl) (by kernel_rfl) (fun _ _ _ h => h) (Or.inl ⟨by rfl, ?_⟩) (by assumption) ?_
              rotate_left
              · intro w' hSw
                go_simp <;> with_reducible rfl
              try simp only [Act.put, List.setIfInBounds_toArray, List.set_cons_zero, List.set_cons_succ, List.getElem_toArray, List.getElem_cons_succ, List.getElem_cons_zero]
              refine wpAnyH_take (i := 4) (v := ?_) rfl (by kernel_rfl) (by kernel_rfl) (by kernel_rfl) (fun _ _ _ h => h) (Or.inl ⟨by rfl, ?_⟩) (by assumption) ?_
              rotate_left
              · intro w' hSw
                obtain ⟨e0, e1, e2, e3, e4, e5, e6, e7⟩ := hSw
                go_simp <;> with_reducible rfl
              try simp only [Act.put, List.setIfInBounds_toArray, List.set_cons_zero, List.set_cons_succ, List.getElem_toArray, List.getElem_cons_succ, List.getElem_cons_zero]
              refine wpAnyH_take (i := 5) (v := ?_) rfl (by kernel_rfl) (by kernel_rfl) (by kernel_rfl) (fun _ _ _ h => h) (Or.inl ⟨by rfl, ?_⟩) (by assumption) ?_
              rotate_left
              · intro w' hSw
                go_simp <;> with_reducible rfl
              try simp only [Act.put, List.setIfInBounds_toArray, List.set_cons_zero, List.set_cons_succ, List.getElem_toArray, List.getElem_cons_succ, List.getElem_cons_zero]
              refine wpAnyH_take (i := 6) (v := ?_) rfl (by kernel_rfl) (by kernel_rfl) (by kernel_rfl) (fun _ _ _ h => h) (Or.inl ⟨by rfl, ?_⟩) (by assumption) ?_
              rotate_left
              · intro w' hSw
                go_simp <;> with_reducible rfl
              try simp only [Act.put, List.setIfInBounds_toArray, List.set_cons_zero, List.set_cons_succ, List.getElem_toArray, List.getElem_cons_succ, List.getElem_cons_zero]
              refine wpAnyH_take (i := 7) (v := ?_) rfl (by kernel_rfl) (by kernel_rfl) (by kernel_rfl) (fun _ _ _ h => h) (Or.inl ⟨by rfl, ?_⟩) (by assumption) ?_
              rotate_left
              · intro w' hSw
                obtain ⟨e0, e1, e2, e3, e4, e5, e6, e7⟩ := hSw
                go_simp <;> with_reducible rfl
              try simp only [Act.put, List.setIfInBounds_toArray, List.set_cons_zero, List.set_cons_succ, List.getElem_toArray, List.getElem_cons_succ, List.getElem_cons_zero]
              refine wpAnyH_take (i := 8) (v := ?_) rfl (by kernel_rfl) (by kernel_rfl) (by kernel_rfl) (fun _ _ _ h => h) (Or.inl ⟨by rfl, ?_⟩) (by assumption) ?_
              rotate_left
              · intro w' hSw
                go_simp <;> with_reducible rfl
              try simp only [Act.put, List.setIfInBounds_toArray, List.set_cons_zero, List.set_cons_succ, List.getElem_toArray, List.getElem_cons_succ, List.getElem_cons_zero]
              refine wpAnyH_take (i := 9) (v := ?_) rfl (by kernel_rfl) (by kernel_rfl) (by kernel_rfl) (fun _ _ _ h => h) (Or.inl ⟨by rfl, ?_⟩) (by assumption) ?_
              rotate_left
              · intro w' hSw
                obtain ⟨e0, e1, e2, e3, e4, e5, e6, e7⟩ := hSw
                go_simp <;> with_reducible rfl
              try simp only [Act.put, List.setIfInBounds_toArray, List.set_cons_zero, List.set_cons_succ, List.getElem_toArray, List.getElem_cons_succ, List.getElem_cons_zero]
              refine wpAnyH_take (i := 10) (v := ?_) rfl (by kernel_rfl) (by kernel_rfl) (by kernel_rfl) (fun _ _ _ h => h) (Or.inl ⟨by rfl, ?_⟩) (by assumption) ?_
              rotate_left
              · intro w' hSw
                go_simp <;> with_reducible rfl
              try simp only [Act.put, List.setIfInBounds_toArray, List.set_cons_zero, List.set_cons_succ, List.getElem_toArray, List.getElem_cons_succ, List.getElem_cons_zero]
              refine wpAnyH_take (i := 11) (v := ?_) rfl (by kernel_rfl) (by kernel_rfl) (by kernel_rfl) (fun _ _ _ h => h) (Or.inl ⟨by rfl, ?_⟩) (by assumption) ?_
              rotate_left
              · intro w' hSw
                go_simp <;> with_reducible rfl
              try simp only [Act.put, List.setIfInBounds_toArray, List.set_cons_zero, List.set_cons_succ, List.getElem_toArray, List.getElem_cons_succ, List.getElem_cons_zero]
              refine wpAnyH_take (i := 12) (v := ?_) rfl (by kernel_rfl) (by kernel_rfl) (by kernel_rfl) (fun _ _ _ h => h) (Or.inl ⟨by rfl, ?_⟩) (by assumption) ?_
              rotate_left
              · intro w' hSw
                go_simp <;> with_reducible rfl
              try simp only [Act.put, List.setIfInBounds_toArray, List.set_cons_zero, List.set_cons_succ, List.getElem_toArray, List.getElem_cons_succ, List.getElem_cons_zero]
              refine wpAnyH_take (i := 13) (v := ?_) rfl (by kernel_rfl) (by kernel_rfl) (by kernel_rfl) (fun _ _ _ h => h) (Or.inl ⟨by rfl, ?_⟩) (by assumption) ?_
              rotate_left
              · intro w' hSw
                obtain ⟨e0, e1, e2, e3, e4, e5, e6, e7⟩ := hSw
                go_simp <;> with_reducible rfl
              try simp only [Act.put, List.setIfInBounds_toArray, List.set_cons_zero, List.set_cons_succ, List.getElem_toArray, List.getElem_cons_succ, List.getElem_cons_zero]
              refine wpAnyH_take (i := 14) (v := ?_) rfl (by kernel_rfl) (by kernel_rfl) (by kernel_rfl) (fun _ _ _ h => h) (Or.inl ⟨by rfl, ?_⟩) (by assumption) ?_
              rotate_left
              · intro w' hSw
                go_simp <;> with_reducible rfl
              try simp only [Act.put, List.setIfInBounds_toArray, List.set_cons_zero, List.set_cons_succ, List.getElem_toArray, List.getElem_cons_succ, List.getElem_cons_zero]
              refine wpAnyH_take (i := 15) (v := ?_) rfl (by kernel_rfl) (by kernel_rfl) (by kernel_rfl) (fun _ _ _ h => h) (Or.inl ⟨by rfl, ?_⟩) (by assumption) ?_
              rotate_left
              · intro w' hSw
                obtain ⟨e0, e1, e2, e3, e4, e5, e6, e7⟩ := hSw
                go_simp <;> with_reducible rfl
              try simp only [Act.put, List.setIfInBounds_toArray, List.set_cons_zero, List.set_cons_succ, List.getElem_toArray, List.getElem_cons_succ, List.getElem_cons_zero]
              refine wpAnyH_ready (rs := [16]) (by kernel_rfl) (by simp) ?_
              refine AllReadyH.cons rfl (fun K hK => ?_) AllReadyH.nil
              go_simp
              go_at_call 21
              refine (beta_any b.m z.m _ _ _ (fun b => b < wk.heap.size) (by exact ⟨a3, c3, rfl, H3.out.later k8⟩) (by exact ⟨a2, c2, rfl, H2.out.later k8⟩) HBE.out.1.1 HBE.out.1.2 HBE.out.2.1 HBE.out.2.2).mono ?_
              rintro e w9 ⟨a9, c9, rfl, hs9, hb9⟩
              have k9 : Below wk.heap.size wk w9 := k8.trans (hb9.mono k8.size)
              have M9 := hide ((M7.out.below (Below.refl _ _).drew).below hb9)
              obtain ⟨y2, hy2⟩ : ∃ y2, y2 = insT z.m 0 b.m := ⟨_, rfl⟩
              rw [← hy2] at HKN hs9 ⊢
              have S9 : Hid (SlM w9 (fun b => b < wk.heap.size ∨ (wk.heap.size ≤ b ∧ some b ≠ (Value.slice (some ⟨g2, 0, none⟩) (ln + 1) cap2).ownBlock)) a9 y2.subs) := by
                refine hs9.mono fun b hb _ => ?_
                rcases hb with hb | hb
                · exact Or.inl hb.1
                · refine Or.inr ⟨Nat.le_trans k8.size hb, fun e => ?_⟩
                  have h1 := (M7.out.own.lt b e.symm).2
                  have h2 : w7.drew.heap.size = w7.heap.size := rfl
                  omega
              clear hs9 hb9 hy2
              go_simp
              refine hK.out _ _ (by exact KP2.out _ k9) (fun hHeld => ?_)
              clear hK K
              try simp only [Act.put, List.setIfInBounds_toArray, List.set_cons_zero, List.set_cons_succ, List.getElem_toArray, List.getElem_cons_succ, List.getElem_cons_zero]
              refine wpAnyH_ready (rs := [17]) (by kernel_rfl) (by simp) ?_
              refine AllReadyH.cons rfl (fun K hK => ?_) AllReadyH.nil
              go_simp
              have kq : Below wk.heap.size wk (w9.alloc (.cells #[.int .i64 y2.kind, .int .i64 y2.idx, .slice a9 y2.subs.length c9] 26)) := k9.alloc k9.size _
              have Pq : Hid (Blk (w9.alloc (.cells #[.int .i64 y2.kind, .int .i64 y2.idx, .slice a9 y2.subs.length c9] 26)) w9.heap.size #[.int .i64 y2.kind, .int .i64 y2.idx, .slice a9 y2.subs.length c9] 26) := Blk.new w9 _ _
              have Rq := hide (M9.out.below ((Below.refl w9.heap.size w9).alloc (Nat.le_refl _) (.cells #[.int .i64 y2.kind, .int .i64 y2.idx, .slice a9 y2.subs.length c9] 26)))
              have Sq := hide (S9.out.later ((Below.refl w9.heap.size w9).alloc (Nat.le_refl _) (.cells #[.int .i64 y2.kind, .int .i64 y2.idx, .slice a9 y2.subs.length c9] 26)))
              refine hK.out _ _ (by exact KP2.out _ kq) (fun hHeld => ?_)
              clear hK K
              try simp only [Act.put, List.setIfInBounds_toArray, List.set_cons_zero, List.set_cons_succ, List.getElem_toArray, List.getElem_cons_succ, List.getElem_cons_zero]
              generalize (w9.alloc (.cells #[.int .i64 y2.kind, .int .i64 y2.idx, .slice a9 y2.subs.length c9] 26)) = wq at *
              obtain ⟨g4, cap4, wD, x4, hrun4, hM4, hG4⟩ := oneB (y := y2) kq.size (fun b h => h) Rq.out Pq.out Sq.out (by have := HOL.out; simp; omega)
              have HLA : (o ++ [(⟨t.kind, t.idx, all[k]⟩ : Lm)]).length = ln + 1 := by rw [List.length_append, ← HLN.out]; rfl
              rw [HLA] at hrun4 hM4
              have HR4 := hide hrun4
              have MD := hide hM4
              have kD : Below wk.heap.size wk wD := kq.grown hG4 kq.size (fun q hq => (Rq.out.own.lt q hq).1)
              clear hrun4 hM4 hG4
              refine wpAnyH_ready (rs := [18]) (by kernel_rfl) (by simp) ?_
              refine AllReadyH.cons rfl (fun K hK => ?_) AllReadyH.nil
              refine step_append_eqM rfl _ _ _ _ rfl rfl rfl HR4.out ?_
              refine hK.out _ _ (by exact KP2.out _ kD) (fun hHeld => ?_)
              clear hK K
              try simp only [Act.put, List.setIfInBounds_toArray, List.set_cons_zero, List.set_cons_succ, List.getElem_toArray, List.getElem_cons_succ, List.getElem_cons_zero]
              refine wpAnyH_take (i := 19) (v := ?_) rfl (by kernel_rfl) (by kernel_rfl) (by kernel_rfl) (fun _ _ _ h => h) (Or.inl ⟨by rfl, ?_⟩) (by assumption) ?_
              rotate_left
              · intro w' hSw
                go_simp <;> with_reducible rfl
              try simp only [Act.put, List.setIfInBounds_toArray, List.set_cons_zero, List.set_cons_succ, List.getElem_toArray, List.getElem_cons_succ, List.getElem_cons_zero]
              refine wpAnyH_done (by kernel_rfl) ?_ _
              go_wp2_with fail
              go_roundw
              case rel => exact ⟨k + 1, o ++ [⟨t.kind, t.idx, all[k]⟩] ++ [y2], x4, by omega, by go_num, MD.out, by rw [HOUT.out, outL_step hk1 (by rw [← HLN.out]; exact hk2), HKN.out, List.append_assoc]; rfl, by rw [List.length_append, HLA]; show ln + 1 + 1 ≤ 302; omega, kD⟩
              case measure => simp [intOf]; omega
            · have hrf : rdxT t = false := by simpa using hrd
              have HKN : Hid (knoT t all[k] = [⟨t.kind, t.idx, all[k]⟩]) := by unfold Hid knoT; rw [if_neg hrd]
              rw [hrf]
              clear hrd hrf
              go_wp2_with fail
              go_roundw
              case rel => exact ⟨k + 1, o ++ [⟨t.kind, t.idx, all[k]⟩], x2, by omega, by go_num, M7.out, by rw [HOUT.out, outL_step hk1 (by rw [← HLN.out]; exact hk2), HKN.out], by rw [List.length_append, ← HLN.out]; show ln + 1 ≤ 302; omega, k7.out⟩
              case measure => simp [intOf]; omega
          · have hki : (k : Int) < (all.length : Int) := by omega
            have hli : ¬ (ln : Int) ≤ 300 := by omega
            have hal := HAL.out
            have HEO : Hid (parR 300 (n + 1) t = o) := by unfold Hid; rw [HFB.out, HOUT.out, outL_full (by rw [← HLN.out]; omega)]
            obtain ⟨a8, c8, e8, h8⟩ := HROW.out.sl
            simp only [Value.slice.injEq] at e8
            obtain ⟨rfl, _, rfl⟩ := e8
            go_wp2_with fail
            go_ret
            rw [HEO.out]
            exact ⟨an, ⟨cn, rfl⟩, h8.mono fun _ _ _ => trivial, B2.out.trans ((HBR.out.trans (HB5.out.mono HBR.out.size)).mono B2.out.size)⟩
        · have hki : ¬ (k : Int) < (all.length : Int) := by omega
          have hal := HAL.out
          have HEO : Hid (parR 300 (n + 1) t = o) := by unfold Hid; rw [HFB.out, HOUT.out, show k = all.length by omega, List.drop_length]; rfl
          obtain ⟨a8, c8, e8, h8⟩ := HROW.out.sl
          simp only [Value.slice.injEq] at e8
          obtain ⟨rfl, _, rfl⟩ := e8
          go_wp2_with fail
          go_ret
          rw [HEO.out]
          exact ⟨an, ⟨cn, rfl⟩, h8.mono fun _ _ _ => trivial, B2.out.trans ((HBR.out.trans (HB5.out.mono HBR.out.size)).mono B2.out.size)⟩
end Go.Proofs.YtnllgbcakmddkaaGreatDoor
