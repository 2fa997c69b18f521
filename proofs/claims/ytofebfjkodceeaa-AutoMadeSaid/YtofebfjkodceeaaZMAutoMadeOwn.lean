/- Several texts in one. -/
import Derived.Test.YtofebfjkodceeaaAu2
import Derived.Laws.BitsAllLaws
import Derived.Deep.DeepCutAuto
namespace Go.Proofs.Ytofebfjkodceeaa
open Go.RowKit
set_option linter.unusedSimpArgs false
set_option linter.unusedVariables false
set_option maxRecDepth 8000
theorem okSt_take {n : Int} {zs : List Int} {k : Nat} (h : k < zs.length) (hk : okSt n (zs.take k) = true) (h1 : 0 ≤ zs[k] ∧ zs[k] < n) : okSt n (zs.take (k + 1)) = true := by
 rw [List.take_succ_eq_append_getElem h]
 unfold okSt at *
 rw [List.all_append, hk]
 simp
 exact h1
theorem okSt_bad {n : Int} {zs : List Int} {k : Nat} (h : k < zs.length) (h1 : ¬ (0 ≤ zs[k] ∧ zs[k] < n)) : okSt n zs = false := by
 rw [Bool.eq_false_iff]
 intro h2
 exact h1 (okSt_mem h2 _ (List.getElem_mem h))
set_option maxHeartbeats 400000 in
theorem areStates_any (n : Int) (zs : List Int) (v : Value) (w : World) (X : Nat → Prop) (hv : PV w X v zs) :
  Calls Try.prog 48 #[.int .i64 n, v] w fun e w' => e = .returned (.bool (okSt n zs)) ∧ Below w.heap.size w w' := by
 obtain ⟨a, c, rfl, hl, _⟩ := id hv
 have HV := hide hv
 clear hv
 go_enter Try.func48, Try.ntmps48
 go_wp2_with fail
 go_loopw [9] (fun i wr => ∃ k : Nat, k ≤ zs.length ∧ i = .int .i64 (k : Int) ∧ okSt n (zs.take k) = true ∧ wr = w) (fun i wr => zs.length - (intOf i).toNat)
 case atStart => exact ⟨0, Nat.zero_le _, rfl, by simp [okSt], rfl⟩
 case round =>
  obtain ⟨k, hk, rfl, hok, rfl⟩ := hrel
  have HOK := hide hok
  clear hok
  by_cases hlt : k < zs.length
  ·have hki : (k : Int) < (zs.length : Int) := by omega
   obtain ⟨b, o, rfl, hb, hc⟩ := HV.out.at (Below.refl wr.heap.size wr) k hlt
   obtain ⟨z, hz⟩ : ∃ z, z = zs[k] := ⟨_, rfl⟩
   have HZ := hide hz
   rw [← hz] at hc
   clear hz
   by_cases h1 : z < 0
   ·have HB : Hid (okSt n zs = false) := okSt_bad hlt (by rw [← HZ.out]; omega)
    go_wp2_with fail
    go_ret
    exact ⟨by rw [HB.out]; rfl, Below.refl _ _⟩
   ·by_cases h2 : n ≤ z
    ·have HB : Hid (okSt n zs = false) := okSt_bad hlt (by rw [← HZ.out]; omega)
     go_wp2_with fail
     go_ret
     exact ⟨by rw [HB.out]; rfl, Below.refl _ _⟩
    ·have HB : Hid (okSt n (zs.take (k + 1)) = true) := okSt_take hlt HOK.out (by rw [← HZ.out]; omega)
     go_wp2_with fail
     go_roundw
     case rel => exact ⟨k + 1, by omega, by go_num, HB.out, trivial⟩
     case measure => simp [intOf]; omega
  ·have hki : ¬ (k : Int) < (zs.length : Int) := by omega
   have HB : Hid (okSt n zs = true) := by unfold Hid; rw [show zs = zs.take k by rw [List.take_of_length_le (by omega)]]; exact HOK.out
   go_wp2_with fail
   go_ret
   exact ⟨by rw [HB.out]; rfl, Below.refl _ _⟩
theorem bit_and (x s : Nat) (hx : x < 18446744073709551616) : (bits BinOp.and IntKind.u64 ((x : Int) / 2 ^ s) 1 != 0) = x.testBit s := by
 have h1 : ((x : Int) / 2 ^ s) = ((x / 2 ^ s : Nat) : Int) := by simp
 have h2 : x / 2 ^ s < 18446744073709551616 := Nat.lt_of_le_of_lt (Nat.div_le_self _ _) hx
 have h3 : bits BinOp.and IntKind.u64 ((x / 2 ^ s : Nat) : Int) ((1 : Nat) : Int) = ((x / 2 ^ s &&& 1 : Nat) : Int) := u64_and_nat _ _ h2 (by omega)
 rw [h1]
 rw [show (1 : Int) = ((1 : Nat) : Int) from rfl, h3, Nat.testBit, Nat.shiftRight_eq_div_pow, Nat.and_comm]
 cases h : (1 &&& x / 2 ^ s) with
 | zero => simp
 | succ n => simp; omega
set_option maxHeartbeats 400000 in
theorem has_any (x s : Nat) (hs : s < 64) (hx : x < 18446744073709551616) (w : World) :
  Calls Try.prog 69 #[.int .u64 (x : Int), .int .i64 (s : Int)] w fun e w' => e = .returned (.bool (x.testBit s)) ∧ w' = w := by
 have HB := hide (bit_and x s hx)
 go_enter Try.func69, Try.ntmps69
 go_wp2_with fail
 rw [HB.out]
 go_ret
 exact ⟨rfl, rfl⟩
def setN (zs : List Int) : Nat := zs.foldl (fun x z => x ||| 2 ^ z.toNat) 0
theorem setN_snoc (zs : List Int) (z : Int) : setN (zs ++ [z]) = setN zs ||| 2 ^ z.toNat := by simp [setN]
theorem setN_bit (zs : List Int) (h : ∀ z ∈ zs, 0 ≤ z) (s : Nat) : (setN zs).testBit s = decide ((s : Int) ∈ zs) := by
 have key : ∀ (zs : List Int) (x : Nat), (∀ z ∈ zs, 0 ≤ z) → (zs.foldl (fun x z => x ||| 2 ^ z.toNat) x).testBit s = (x.testBit s || decide ((s : Int) ∈ zs)) := by
  intro zs
  induction zs with
  | nil => intro x _; simp
  | cons z r ih =>
   intro x hz
   have hz0 := hz z (by simp)
   rw [List.foldl_cons, ih _ (fun y hy => hz y (List.mem_cons_of_mem _ hy)), Nat.testBit_or, Nat.testBit_two_pow]
   rw [Bool.or_assoc]
   congr 1
   by_cases e : (s : Int) = z
   ·have : z.toNat = s := by omega
    simp [e, this]
   ·have : z.toNat ≠ s := by omega
    simp [e, this]
 have := key zs 0 h
 simpa [setN] using this
theorem setN_lt (zs : List Int) (h : ∀ z ∈ zs, z < 64) : setN zs < 18446744073709551616 := by
 have key : ∀ (zs : List Int) (x : Nat), x < 2 ^ 64 → (∀ z ∈ zs, z < 64) → zs.foldl (fun x z => x ||| 2 ^ z.toNat) x < 2 ^ 64 := by
  intro zs
  induction zs with
  | nil => intro x hx _; exact hx
  | cons z r ih =>
   intro x hx hz
   refine ih _ (Nat.or_lt_two_pow hx ?_) (fun y hy => hz y (List.mem_cons_of_mem _ hy))
   exact Nat.pow_lt_pow_right (by omega) (by have := hz z (by simp); omega)
 exact key zs 0 (by decide) h
theorem setN_step (x s : Nat) (hx : x < 18446744073709551616) (hs : s < 64) : bits BinOp.or IntKind.u64 (x : Int) (IntKind.u64.wrap (2 ^ s)) = ((x ||| 2 ^ s : Nat) : Int) := by
 have h2 : 2 ^ s < 18446744073709551616 := Nat.pow_lt_pow_right (n := 64) (by omega) hs
 have h1 : IntKind.u64.wrap (2 ^ s) = ((2 ^ s : Nat) : Int) := by
  have h3 : (2 : Int) ^ s = ((2 ^ s : Nat) : Int) := by simp
  rw [h3, IntKind.wrap_u64]
  generalize 2 ^ s = y at *
  omega
 rw [h1]
 exact u64_or_nat _ _ hx h2
set_option maxHeartbeats 400000 in
theorem setOf_any (zs : List Int) (hz : ∀ z ∈ zs, 0 ≤ z ∧ z < 64) (v : Value) (w : World) (X : Nat → Prop) (hv : PV w X v zs) :
  Calls Try.prog 42 #[v] w fun e w' => e = .returned (.int .u64 (setN zs : Int)) ∧ w' = w := by
 obtain ⟨a, c, rfl, hl, _⟩ := id hv
 have HV := hide hv
 have HZ := hide hz
 clear hv hz
 go_enter Try.func42, Try.ntmps42
 go_wp2_with fail
 go_loopw [3, 8] (fun q i wr => ∃ k : Nat, k ≤ zs.length ∧ i = .int .i64 (k : Int) ∧ q = .int .u64 (setN (zs.take k) : Int) ∧ wr = w) (fun q i wr => zs.length - (intOf i).toNat)
 case atStart => exact ⟨0, Nat.zero_le _, rfl, rfl, rfl⟩
 case round =>
  obtain ⟨k, hk, rfl, rfl, rfl⟩ := hrel
  by_cases hlt : k < zs.length
  ·have hki : (k : Int) < (zs.length : Int) := by omega
   obtain ⟨b, o, rfl, hb, hc⟩ := HV.out.at (Below.refl wr.heap.size wr) k hlt
   have h9 := HZ.out zs[k] (List.getElem_mem hlt)
   obtain ⟨s, hs⟩ : ∃ s : Nat, zs[k] = (s : Int) := ⟨zs[k].toNat, by omega⟩
   have HN : Hid (setN (zs.take (k + 1)) = setN (zs.take k) ||| 2 ^ s) := by
    unfold Hid
    rw [List.take_succ_eq_append_getElem hlt, setN_snoc, hs]
    simp
   rw [hs] at hc h9
   have HL := hide (setN_lt (zs.take k) (fun z hz => (HZ.out z (List.mem_of_mem_take hz)).2))
   generalize setN (zs.take k) = x at *
   have HST := hide (setN_step x s HL.out (by omega))
   clear hs
   go_wp2_with fail
   rw [HST.out]
   go_roundw
   case rel => exact ⟨k + 1, by omega, by go_num, by rw [HN.out], trivial⟩
   case measure => simp [intOf]; omega
  ·have hki : ¬ (k : Int) < (zs.length : Int) := by omega
   have HB : Hid (zs.take k = zs) := List.take_of_length_le (by omega)
   go_wp2_with fail
   go_ret
   exact ⟨by rw [HB.out]; rfl, rfl⟩
theorem rowZ_push {W : World} {N P : Nat} {v : Value} {l : List Int} {x : Int} (h : W.ownsRow N 3 1 v l.length (l.map fun z => .int .i64 z)) (hN : N ≤ W.heap.size) (hP : Blk W P #[.int .i64 x] 3) (hl : l.length ≤ 100000) :
  ∃ g cap W1, (Builtin.append_ #[22, 22] 22 #[v, .slice (some ⟨P, 0, none⟩) 1 1]).run Try.prog W = .ok (.slice (some ⟨g, 0, none⟩) (l.length + 1) cap) W1 ∧ W1.ownsRow N 3 1 (.slice (some ⟨g, 0, none⟩) (l.length + 1) cap) (l ++ [x]).length ((l ++ [x]).map fun z => .int .i64 z) ∧ W.grownBy W1 v.ownBlock ∧ N ≤ g := by
 obtain ⟨i0, hi, hz0, hz1, hz2⟩ := info_parts Try.infoInt
 obtain ⟨g, cap, W1, hr, ho, hg, hat, hgl⟩ := run_append_lies (P := Try.prog) (w := W) 22 22 N 3 i0 _ 1 8 Try.underlying22 hi hz0 hz1 hz2 rfl (by decide) v l.length _ h
  ⟨P, 0, none⟩ 1 1 [.int .i64 x] rfl (fun j u hj => by
   rw [add_at, hP.cell j]
   simpa using hj) (fun u hu => by simp at hu; subst hu; rfl) (by decide) (by unfold maxLen; omega) (by omega) hN _ rfl
 exact ⟨g, cap, W1, hr, by simpa using ho, hg, (ho.lt g rfl).1⟩
theorem rowZ_more {W : World} {N P : Nat} {v : Value} {l : List Int} {x : Int} (h : W.ownsRow N 3 1 v l.length (l.map fun z => .int .i64 z)) (hN : N ≤ W.heap.size) (hP : Blk W P #[.int .i64 x] 3) (hl : l.length ≤ 100000) :
  ∃ g n cap W1, (Builtin.append_ #[22, 22] 22 #[v, .slice (some ⟨P, 0, none⟩) 1 1]).run Try.prog W = .ok (.slice (some ⟨g, 0, none⟩) n cap) W1 ∧ W1.ownsRow N 3 1 (.slice (some ⟨g, 0, none⟩) n cap) (l ++ [x]).length ((l ++ [x]).map fun z => .int .i64 z) ∧ W.grownBy W1 v.ownBlock := by
 obtain ⟨g, cap, W1, hr, ho, hg, _⟩ := rowZ_push h hN hP hl
 exact ⟨g, _, cap, W1, hr, ho, hg⟩
def lastK (A : Au) (k : Nat) : List Int := ((List.range k).filter fun (s : Nat) => decide ((s : Int) ∈ A.la)).map fun (s : Nat) => (s : Int)
theorem lastK_succ (A : Au) (k : Nat) : lastK A (k + 1) = if (k : Int) ∈ A.la then lastK A k ++ [(k : Int)] else lastK A k := by
 unfold lastK
 rw [List.range_succ, List.filter_append, List.map_append]
 by_cases h : (k : Int) ∈ A.la <;> simp [h]
theorem lastK_len (A : Au) (k : Nat) : (lastK A k).length ≤ k := by
 unfold lastK
 rw [List.length_map]
 exact Nat.le_trans (List.length_filter_le _ _) (by simp)
set_option maxHeartbeats 1000000 in
theorem lastOnce_any (A : Au) {S M : Nat} (hS : S ≤ 64) (hA : OkAu S M A) (v : Value) (w : World) (X : Nat → Prop) (hv : AV w X v A) :
  Calls Try.prog 44 #[v] w fun e w' => ∃ a c, e = .returned (.slice a (lastO A).length c) ∧ PV w' (fun b => w.heap.size ≤ b) (.slice a (lastO A).length c) (lastO A) ∧ Below w.heap.size w w' := by
 obtain ⟨am, cm, al, cl, rfl, hm, hp⟩ := hv
 obtain ⟨n, hn⟩ : ∃ n : Nat, A.st = (n : Int) := ⟨A.st.toNat, by have := hA.pos; omega⟩
 have hn64 : n ≤ 64 := by have := hA.st; omega
 have HLO : Hid (lastO A = lastK A n) := by unfold Hid lastO lastK; rw [hn]; rfl
 have HLA : Hid (∀ z ∈ A.la, 0 ≤ z ∧ z < 64) := fun z hz => by have := hA.la z hz; omega
 have HBT := hide (fun s : Nat => setN_bit A.la (fun z hz => (HLA.out z hz).1) s)
 have HST := hide (setN_lt A.la (fun z hz => (HLA.out z hz).2))
 rw [hn]
 have B1 : Hid (Below w.heap.size w (w.alloc (.cells #[.int .i64 (n : Int), .slice am A.mv.length cm, .slice al A.la.length cl] 25))) := (Below.refl _ _).alloc (Nat.le_refl _) _
 have T1 : Hid (Blk (w.alloc (.cells #[.int .i64 (n : Int), .slice am A.mv.length cm, .slice al A.la.length cl] 25)) w.heap.size #[.int .i64 (n : Int), .slice am A.mv.length cm, .slice al A.la.length cl] 25) := Blk.new w _ _
 have P1 := hide (hp.later B1.out)
 clear hm hp hA
 go_enter Try.func44, Try.ntmps44
 go_upto_region 2 with fail
 generalize (w.alloc (.cells #[.int .i64 (n : Int), .slice am A.mv.length cm, .slice al A.la.length cl] 25)) = w1 at *
 have c0 : w1.cell? ⟨w.heap.size, 0, none⟩ = some (.int .i64 (n : Int)) := T1.out.cell 0
 have c2 : w1.cell? ⟨w.heap.size, 2, none⟩ = some (.slice al A.la.length cl) := T1.out.cell 2
 have hlt1 := T1.out.lt
 go_wp2_with fail
 refine (setOf_any A.la HLA.out _ w1 X P1.out).mono ?_
 rintro e w2 ⟨rfl, rfl⟩
 generalize setN A.la = x at *
 go_wp2_with fail
 go_loopw [3, 11] (fun q i wr => ∃ k : Nat, k ≤ n ∧ i = .int .i64 (k : Int) ∧ wr.ownsRow w2.heap.size 3 1 q (lastK A k).length ((lastK A k).map fun z => .int .i64 z) ∧ Below w2.heap.size w2 wr) (fun q i wr => n - (intOf i).toNat)
 case atStart => exact ⟨0, Nat.zero_le _, rfl, World.ownsRow_nil _ _ _ _, Below.refl _ _⟩
 case round =>
  obtain ⟨k, hk, rfl, hown, hb⟩ := hrel
  obtain ⟨w3, rfl⟩ : ∃ w3, w3 = wr := ⟨_, rfl⟩
  obtain ⟨aq, cq, hq, _⟩ := pv_of_own hown
  subst hq
  have HOWN := hide hown
  have HB := hide hb
  have HLK := hide (lastK_len A k)
  clear hown hb
  by_cases hlt : k < n
  ·have hki : (k : Int) < (n : Int) := by omega
   go_wp2_with fail
   refine (has_any x k (by omega) HST.out _).mono ?_
   rintro e w4 ⟨rfl, rfl⟩
   rw [HBT.out k]
   by_cases hin : (k : Int) ∈ A.la
   ·have HNX : Hid (lastK A (k + 1) = lastK A k ++ [(k : Int)]) := by unfold Hid; rw [lastK_succ, if_pos hin]
    have hd : decide ((k : Int) ∈ A.la) = true := by simpa using hin
    rw [hd]
    obtain ⟨g, cap, W1, hr, ho, hg, hgN⟩ := rowZ_push (x := (k : Int)) (W := w4.alloc (.cells #[.int .i64 (k : Int)] 3)) (owns_keptA HOWN.out (fun b e => Below.heap_alloc _ _ _ (HOWN.out.lt b e).2)) (by have := HB.out.size; simp; omega) (Blk.new w4 _ _) (by have := HLK.out; omega)
    have HRUN := hide hr
    have HO2 := hide ho
    have HB5 : Hid (Below w2.heap.size w2 W1) := (HB.out.alloc HB.out.size _).grown hg (by have := HB.out.size; simp; omega) (fun q hq => (HOWN.out.lt q hq).1)
    clear hr ho hg hd hin
    go_wp2_with (at_builtin; refine wpList_append_eq rfl _ _ _ _ rfl rfl rfl HRUN.out ?_)
    go_roundw
    case rel => exact ⟨k + 1, by omega, by go_num, by rw [HNX.out, List.length_append]; have h9 := HO2.out; rw [List.length_append] at h9; exact h9, HB5.out⟩
    case measure => simp [intOf]; omega
   ·have HNX : Hid (lastK A (k + 1) = lastK A k) := by unfold Hid; rw [lastK_succ, if_neg hin]
    have hd : decide ((k : Int) ∈ A.la) = false := by simpa using hin
    rw [hd]
    clear hd hin
    go_wp2_with fail
    go_roundw
    case rel => exact ⟨k + 1, by omega, by go_num, by rw [HNX.out]; exact HOWN.out, HB.out⟩
    case measure => simp [intOf]; omega
  ·have hki : ¬ (k : Int) < (n : Int) := by omega
   have hkn : k = n := by omega
   subst hkn
   go_wp2_with fail
   go_ret
   rw [HLO.out]
   have h9 := pv_of_own HOWN.out
   exact ⟨aq, cq, rfl, h9.mono fun b h1 _ => Nat.le_trans B1.out.size h1.1, B1.out.trans (HB.out.mono B1.out.size)⟩
theorem pv_one (w : World) (x : Int) : PV (w.alloc (.cells #[.int .i64 x] 3)) (fun _ => True) (.slice (some ⟨w.heap.size, 0, none⟩) 1 1) [x] :=
 ⟨_, _, rfl, by simp, Or.inr ⟨w.heap.size, 0, rfl, trivial, fun i hi => by simp at hi; subst hi; exact (Blk.new w #[.int .i64 x] 3).cell 0⟩⟩
set_option maxHeartbeats 1000000 in
theorem checkMove_any (n : Int) (m : Mv) (a : Option Addr) (c : Nat) (w : World) (X : Nat → Prop) (hp : PV w X (.slice a m.frm.length c) m.frm) :
  Calls Try.prog 47 #[.int .i64 n, .agg #[.string m.name, .slice a m.frm.length c, .int .i64 m.to]] w fun e w' => e = .returned (.int .i64 (mvE n m)) ∧ Below w.heap.size w w' := by
 have hml := hp.len.1
 have B1 : Hid (Below w.heap.size w (w.alloc (.cells #[.string m.name, .slice a m.frm.length c, .int .i64 m.to] 40))) := (Below.refl _ _).alloc (Nat.le_refl _) _
 have T1 : Hid (Blk (w.alloc (.cells #[.string m.name, .slice a m.frm.length c, .int .i64 m.to] 40)) w.heap.size #[.string m.name, .slice a m.frm.length c, .int .i64 m.to] 40) := Blk.new w _ _
 have P1 := hide (hp.later B1.out)
 clear hp
 generalize hE : mvE n m = E
 unfold mvE at hE
 have HE := hide hE
 clear hE
 go_enter Try.func47, Try.ntmps47
 go_upto_region 1 with fail
 generalize (w.alloc (.cells #[.string m.name, .slice a m.frm.length c, .int .i64 m.to] 40)) = w1 at *
 have c0 : w1.cell? ⟨w.heap.size, 0, none⟩ = some (.string m.name) := T1.out.cell 0
 have c1 : w1.cell? ⟨w.heap.size, 1, none⟩ = some (.slice a m.frm.length c) := T1.out.cell 1
 have c2 : w1.cell? ⟨w.heap.size, 2, none⟩ = some (.int .i64 m.to) := T1.out.cell 2
 have hlt1 := T1.out.lt
 go_wp2_with fail
 refine (isName_any m.name _).mono ?_
 rintro e w2 ⟨rfl, rfl⟩
 cases h1 : nameB m.name with
 | false =>
  have hE : E = 1 := by rw [← HE.out, h1]; rfl
  subst hE
  clear h1
  go_wp2_with fail
  go_ret
  exact ⟨rfl, B1.out⟩
 | true =>
  go_wp2_with fail
  refine (isVariable_all m.name _).mono ?_
  rintro e w3 ⟨rfl, rfl⟩
  cases h2 : varB m.name with
  | true =>
   have hE : E = 1 := by rw [← HE.out, h1, h2]; rfl
   subst hE
   clear h1 h2
   go_wp2_with fail
   go_ret
   exact ⟨rfl, B1.out⟩
  | false =>
   have HE2 : Hid ((if 4 < m.frm.length then 3 else if (okSt n m.frm && okSt n [m.to]) = true then 0 else 10) = E) := by
    unfold Hid; rw [← HE.out, h1, h2]; rfl
   clear h1 h2 HE
   by_cases h3 : 4 < m.frm.length
   ·have h3i : (4 : Int) < (m.frm.length : Int) := by omega
    have hE : E = 3 := by rw [← HE2.out, if_pos h3]
    subst hE
    go_wp2_with fail
    go_ret
    exact ⟨rfl, B1.out⟩
   ·have h3i : ¬ (4 : Int) < (m.frm.length : Int) := by omega
    have HE3 : Hid ((if (okSt n m.frm && okSt n [m.to]) = true then 0 else 10) = E) := by
     unfold Hid; rw [← HE2.out, if_neg h3]
    clear HE2
    go_wp2_with fail
    refine (areStates_any n m.frm _ _ X (by exact P1.out)).mono ?_
    rintro e w4 ⟨rfl, hb4⟩
    have B4 := hide (B1.out.trans (hb4.mono B1.out.size))
    have T4 := hide (T1.out.below hb4 T1.out.lt)
    clear hb4 c0 c1 c2 hlt1
    cases h5 : okSt n m.frm with
    | false =>
     have hE : E = 10 := by rw [← HE3.out, h5]; rfl
     subst hE
     clear h5
     go_wp2_with fail
     go_ret
     exact ⟨rfl, B4.out⟩
    | true =>
     have HE4 : Hid ((if okSt n [m.to] = true then 0 else 10) = E) := by
      unfold Hid; rw [← HE3.out, h5]; rfl
     clear h5 HE3
     have c2 : w4.cell? ⟨w.heap.size, 2, none⟩ = some (.int .i64 m.to) := T4.out.cell 2
     have hlt1 := T4.out.lt
     go_wp2_with fail
     refine (areStates_any n [m.to] _ _ (fun _ => True) (by exact pv_one _ _)).mono ?_
     rintro e w5 ⟨rfl, hb5⟩
     have B5 := hide ((B4.out.alloc B4.out.size (.cells #[.int .i64 m.to] 3)).trans (hb5.mono (B4.out.alloc B4.out.size (.cells #[.int .i64 m.to] 3)).size))
     clear hb5 c2 hlt1
     cases h6 : okSt n [m.to] with
     | false =>
      have hE : E = 10 := by rw [← HE4.out, h6]; rfl
      subst hE
      clear h6
      go_wp2_with fail
      go_ret
      exact ⟨rfl, B5.out⟩
     | true =>
      have hE : E = 0 := by rw [← HE4.out, h6]; rfl
      subst hE
      clear h6
      go_wp2_with fail
      go_ret
      exact ⟨rfl, B5.out⟩
theorem mvsE_take {n : Int} {l : List Mv} {k : Nat} (h : k < l.length) (hk : mvsE n (l.take k) = 0) (h1 : mvE n l[k] = 0) : mvsE n (l.take (k + 1)) = 0 := by
 rw [List.take_succ_eq_append_getElem h]
 rw [mvsE_zero] at *
 intro m hm
 rcases List.mem_append.1 hm with hm | hm
 ·exact hk m hm
 ·simp at hm; subst hm; exact mvE_zero.1 h1
theorem mvsE_bad {n : Int} : ∀ {l : List Mv} {k : Nat} (h : k < l.length), mvsE n (l.take k) = 0 → mvE n l[k] ≠ 0 → mvsE n l = mvE n l[k]
 | m :: r, 0, _, _, h1 => by simp only [List.getElem_cons_zero] at *; unfold mvsE; rw [if_neg h1]
 | m :: r, k + 1, h, hk, h1 => by
  rw [List.take_succ_cons] at hk
  unfold mvsE at hk
  by_cases h0 : mvE n m = 0
  ·rw [if_pos h0] at hk
   simp only [List.getElem_cons_succ] at *
   conv => lhs; unfold mvsE
   rw [if_pos h0]
   exact mvsE_bad (by simpa using h) hk h1
  ·rw [if_neg h0] at hk; exact absurd hk h0
set_option maxHeartbeats 1000000 in
theorem aCheck_any (A : Au) (v : Value) (w : World) (X : Nat → Prop) (hv : AV w X v A) :
  Calls Try.prog 21 #[v] w fun e w' => e = .returned (.int .i64 (auE 8 40 A)) ∧ Below w.heap.size w w' := by
 obtain ⟨am, cm, al, cl, rfl, hm, hp⟩ := hv
 have hml := hm.1
 have B1 : Hid (Below w.heap.size w (w.alloc (.cells #[.int .i64 A.st, .slice am A.mv.length cm, .slice al A.la.length cl] 25))) := (Below.refl _ _).alloc (Nat.le_refl _) _
 have T1 : Hid (Blk (w.alloc (.cells #[.int .i64 A.st, .slice am A.mv.length cm, .slice al A.la.length cl] 25)) w.heap.size #[.int .i64 A.st, .slice am A.mv.length cm, .slice al A.la.length cl] 25) := Blk.new w _ _
 have P1 := hide (hp.later B1.out)
 have M1 := hide (hm.later B1.out)
 clear hp hm
 generalize hE : auE 8 40 A = E
 unfold auE at hE
 have HE := hide hE
 clear hE
 go_enter Try.func21, Try.ntmps21
 go_upto_region 1 with fail
 generalize (w.alloc (.cells #[.int .i64 A.st, .slice am A.mv.length cm, .slice al A.la.length cl] 25)) = w1 at *
 have c0 : w1.cell? ⟨w.heap.size, 0, none⟩ = some (.int .i64 A.st) := T1.out.cell 0
 have c1 : w1.cell? ⟨w.heap.size, 1, none⟩ = some (.slice am A.mv.length cm) := T1.out.cell 1
 have c2 : w1.cell? ⟨w.heap.size, 2, none⟩ = some (.slice al A.la.length cl) := T1.out.cell 2
 have hlt1 := T1.out.lt
 by_cases h1 : A.st < 0
 ·have hE : E = 3 := by rw [← HE.out, if_pos (Or.inl h1)]
  subst hE
  go_wp2_with fail
  go_ret
  exact ⟨rfl, B1.out⟩
 by_cases h2 : 8 < A.st
 ·have hE : E = 3 := by rw [← HE.out, if_pos (Or.inr (Or.inl (by exact_mod_cast h2)))]
  subst hE
  go_wp2_with fail
  go_ret
  exact ⟨rfl, B1.out⟩
 by_cases h3 : 40 < A.mv.length
 ·have hE : E = 3 := by rw [← HE.out, if_pos (Or.inr (Or.inr h3))]
  have h3i : (40 : Int) < (A.mv.length : Int) := by omega
  subst hE
  go_wp2_with fail
  go_ret
  exact ⟨rfl, B1.out⟩
 have h3i : ¬ (40 : Int) < (A.mv.length : Int) := by omega
 have HE2 : Hid ((if mvsE A.st A.mv = 0 then (if okSt A.st A.la = true then 0 else 10) else mvsE A.st A.mv) = E) := by
  unfold Hid
  rw [← HE.out, if_neg (show ¬ (A.st < 0 ∨ ((8 : Nat) : Int) < A.st ∨ 40 < A.mv.length) by omega)]
 clear HE
 go_wp2_with fail
 go_loopw [23] (fun i wr => ∃ k : Nat, k ≤ A.mv.length ∧ i = .int .i64 (k : Int) ∧ mvsE A.st (A.mv.take k) = 0 ∧ Below w1.heap.size w1 wr) (fun i wr => A.mv.length - (intOf i).toNat)
 case atStart => exact ⟨0, Nat.zero_le _, rfl, rfl, Below.refl _ _⟩
 case round =>
  obtain ⟨k, hk, rfl, hok, hb⟩ := hrel
  obtain ⟨w2, rfl⟩ : ∃ w2, w2 = wr := ⟨_, rfl⟩
  have HOK := hide hok
  have HB := hide hb
  have T2 := hide (T1.out.below hb T1.out.lt)
  clear hok c0 c1 c2 hlt1
  have c0 : w2.cell? ⟨w.heap.size, 0, none⟩ = some (.int .i64 A.st) := T2.out.cell 0
  have c2 : w2.cell? ⟨w.heap.size, 2, none⟩ = some (.slice al A.la.length cl) := T2.out.cell 2
  have hlt2 := T2.out.lt
  by_cases hlt : k < A.mv.length
  ·have hki : (k : Int) < (A.mv.length : Int) := by omega
   obtain ⟨b, o, af, cf, rfl, hbl, d0, d1, d2, hpf⟩ := M1.out.get hb k hlt
   obtain ⟨m, hm⟩ : ∃ m, m = A.mv[k] := ⟨_, rfl⟩
   have HM := hide hm
   rw [← hm] at d0 d1 d2 hpf
   have hbl2 : b < w2.heap.size := Nat.lt_of_lt_of_le hbl hb.size
   have PF := hide (hpf.later ((Below.refl w2.heap.size w2).alloc (Nat.le_refl _) (.cells #[.string m.name, .slice af m.frm.length cf, .int .i64 m.to] 40)))
   clear hm hpf hb
   go_wp2_with fail
   refine (checkMove_any A.st m af cf _ X (by exact PF.out)).mono ?_
   rintro e w3 ⟨rfl, hb3⟩
   have HB3 := hide ((HB.out.alloc HB.out.size (.cells #[.string m.name, .slice af m.frm.length cf, .int .i64 m.to] 40)).trans (hb3.mono (HB.out.alloc HB.out.size (.cells #[.string m.name, .slice af m.frm.length cf, .int .i64 m.to] 40)).size))
   clear hb3 c0 c2 d0 d1 d2
   by_cases h5 : mvE A.st m = 0
   ·have HNX : Hid (mvsE A.st (A.mv.take (k + 1)) = 0) := mvsE_take hlt HOK.out (by rw [← HM.out]; exact h5)
    rw [h5]
    clear h5
    go_wp2_with fail
    go_roundw
    case rel => exact ⟨k + 1, by omega, by go_num, HNX.out, HB3.out⟩
    case measure => simp [intOf]; omega
   ·have HNX : Hid (mvE A.st m = E) := by
     unfold Hid
     have h6 := mvsE_bad hlt HOK.out (by rw [← HM.out]; exact h5)
     rw [← HM.out] at h6
     rw [← HE2.out, if_neg (by rw [h6]; exact h5), h6]
    rw [HNX.out]
    rw [HNX.out] at h5
    have hne : (E == 0) = false := by simpa using h5
    have hne2 : (E != 0) = true := by simpa using h5
    clear h5
    go_wp2_with fail
    go_ret
    exact ⟨rfl, B1.out.trans (HB3.out.mono B1.out.size)⟩
  ·have hki : ¬ (k : Int) < (A.mv.length : Int) := by omega
   have HE3 : Hid ((if okSt A.st A.la = true then 0 else 10) = E) := by
    unfold Hid
    have h6 := HOK.out
    rw [List.take_of_length_le (by omega)] at h6
    rw [← HE2.out, if_pos h6]
   have P2 := hide (P1.out.later hb)
   clear hb
   go_wp2_with fail
   refine (areStates_any A.st A.la _ _ X (by exact P2.out)).mono ?_
   rintro e w3 ⟨rfl, hb3⟩
   have HB3 := hide (HB.out.trans (hb3.mono HB.out.size))
   clear hb3
   cases h6 : okSt A.st A.la with
   | false =>
    have hE : E = 10 := by rw [← HE3.out, h6]; rfl
    subst hE
    clear h6
    go_wp2_with fail
    go_ret
    exact ⟨rfl, B1.out.trans (HB3.out.mono B1.out.size)⟩
   | true =>
    have hE : E = 0 := by rw [← HE3.out, h6]; rfl
    subst hE
    clear h6
    go_wp2_with fail
    go_ret
    exact ⟨rfl, B1.out.trans (HB3.out.mono B1.out.size)⟩
end Go.Proofs.Ytofebfjkodceeaa
