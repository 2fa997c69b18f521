/- Several texts in one. -/
import Derived.Test.YtofebfjkodceeaaSq
import Derived.Test.YtofebfjkodceeaaZTAutoMadeOwn
import Derived.Test.YtofebfjkodceeaaZFAutoMadeOwn
import Derived.Deep.RegionHeld3
import Derived.Test.YtofebfjkodceeaaZIAutoMadeOwn
import Derived.Deep.AppendSrc
namespace Go.Proofs.Ytofebfjkodceeaa
open Go.RowKit Go.Shelf
attribute [local go_sem] Oper.semAt_some
set_option linter.unusedSimpArgs false
set_option linter.unusedVariables false
set_option maxRecDepth 8000
def lsN (L : List Nat) : Nat → List (List Nat)
 | 0 => [[]]
 | n + 1 => L.flatMap fun s => (lsN L n).map (s :: ·)
theorem lsN_mem {L : List Nat} : ∀ {n : Nat} {xs : List Nat}, xs ∈ lsN L n ↔ xs.length = n ∧ ∀ x ∈ xs, x ∈ L
 | 0, xs => by
  simp only [lsN, List.mem_singleton]
  constructor
  ·rintro rfl; exact ⟨rfl, fun x hx => by cases hx⟩
  ·rintro ⟨h, _⟩; exact List.length_eq_zero_iff.1 h
 | n + 1, xs => by
  simp only [lsN, List.mem_flatMap, List.mem_map]
  constructor
  ·rintro ⟨s, hs, ys, hy, rfl⟩
   obtain ⟨h1, h2⟩ := lsN_mem.1 hy
   refine ⟨by simp [h1], fun x hx => ?_⟩
   rcases List.mem_cons.1 hx with rfl | hx
   ·exact hs
   ·exact h2 x hx
  ·rintro ⟨h1, h2⟩
   cases xs with
   | nil => simp at h1
   | cons s ys => exact ⟨s, h2 s (by simp), ys, lsN_mem.2 ⟨by simpa using h1, fun x hx => h2 x (by simp [hx])⟩, rfl⟩
def lsP (L p : List Nat) (n : Nat) : List (List Nat) := (lsN L n).map (p ++ ·)
theorem lsP_zero (L p : List Nat) : lsP L p 0 = [p] := by simp [lsP, lsN]
theorem lsP_nil (L : List Nat) (n : Nat) : lsP L [] n = lsN L n := by simp [lsP]
theorem lsP_succ (L p : List Nat) (n : Nat) : lsP L p (n + 1) = L.flatMap fun s => lsP L (p ++ [s]) n := by
 unfold lsP
 rw [lsN, List.map_flatMap]
 congr 1
 funext s
 rw [List.map_map]
 congr 1
 funext ys
 simp
theorem flatX_take {α β : Type} {L : List α} {f : α → List β} {k : Nat} (h : k < L.length) : (L.take (k + 1)).flatMap f = (L.take k).flatMap f ++ f L[k] := by
 rw [List.take_succ_eq_append_getElem h, List.flatMap_append]
 simp
theorem flatX_pre {α β : Type} {L : List α} {f : α → List β} {k : Nat} (h : k < L.length) (pre all : List β) (hp : (pre ++ L.flatMap f) <+: all) : ((pre ++ (L.take k).flatMap f) ++ f L[k]) <+: all := by
 refine List.IsPrefix.trans ⟨(L.drop (k + 1)).flatMap f, ?_⟩ hp
 rw [List.append_assoc pre, ← flatX_take h, List.append_assoc, ← List.flatMap_append, List.take_append_drop]
theorem blk_setN {W : World} {B T : Nat} {xs : List Nat} (h : Blk W B (xs.map stV).toArray T) (i s : Nat) : Blk (W.setCell ⟨B, i, none⟩ (stV s)) B ((xs.set i s).map stV).toArray T := by
 have := h.set i (stV s)
 rw [List.setIfInBounds_toArray, ← List.map_set] at this
 exact this
theorem blk_lvN {W : World} {B T : Nat} {xs : List Nat} (h : Blk W B (xs.map stV).toArray T) (hn : xs.length ≤ 9223372036854775807) : LV stV W (fun b => b = B) (.slice (some ⟨B, 0, none⟩) xs.length xs.length) xs :=
 ⟨_, _, rfl, ⟨hn, Nat.le_refl _⟩, Or.inr ⟨B, 0, rfl, rfl, fun i hi => by rw [h.cell]; simp [hi]⟩⟩
structure KpL (J : List (List Nat) → World → Prop) (B : Nat) (ov : Value) (L : List Nat) : Prop where
 abide : ∀ {pre W W'}, J pre W → ExQ (fun b => b = B) W W' → J pre W'
 row : ∀ {pre W}, J pre W → LV stV W (fun b => b ≠ B) ov L
def RndL (lp B n0 : Nat) (J : List (List Nat) → World → Prop) (all : List (List Nat)) : Prop :=
 ∀ (n : Nat) (pre : List (List Nat)) (x : List Nat) (W : World), (pre ++ [x]) <+: all → x.length = n0 → J pre W → Blk W B (x.map stV).toArray 71 →
  YieldAt Fence.wide n Try.prog lp #[.slice (some ⟨B, 0, none⟩) n0 n0] W fun e W' => e = .returned (.bool true) ∧ J (pre ++ [x]) W' ∧ W'.heap[B]? = W.heap[B]? ∧ W.heap.size ≤ W'.heap.size
def LsPost (J : List (List Nat) → World → Prop) (B n0 i n : Nat) (L xs : List Nat) (pre : List (List Nat)) (W : World) (e : Ending) (W' : World) : Prop :=
 e = .returned (.bool true) ∧ J (pre ++ lsP L (xs.take i) n) W' ∧ W.heap.size ≤ W'.heap.size ∧ ∃ ys : List Nat, ys.length = n0 ∧ ys.take i = xs.take i ∧ Blk W' B (ys.map stV).toArray 71
def LsI (J : List (List Nat) → World → Prop) (B n0 i n : Nat) (L xs : List Nat) (pre : List (List Nat)) (W : World) (q : Value) (wr : World) : Prop :=
 ∃ (k : Nat) (ys : List Nat), k ≤ L.length ∧ q = .int .i64 (k : Int) ∧ J (pre ++ (L.take k).flatMap fun s => lsP L (xs.take i ++ [s]) n) wr ∧ W.heap.size ≤ wr.heap.size ∧ ys.length = n0 ∧ ys.take i = xs.take i ∧ Blk wr B (ys.map stV).toArray 71
set_option maxHeartbeats 2000000 in
theorem listsOn_any {J : List (List Nat) → World → Prop} {lp B n0 : Nat} {ov : Value} {L : List Nat} {all : List (List Nat)} (hn0 : n0 ≤ 1000000) (hJ : KpL J B ov L) (RH : RndL lp B n0 J all) : ∀ (n i : Nat) (xs : List Nat) (pre : List (List Nat)) (W : World), i + n = n0 → xs.length = n0 → Blk W B (xs.map stV).toArray 71 → J pre W → (pre ++ lsP L (xs.take i) n) <+: all →
  Calls Try.prog 87 #[ov, .slice (some ⟨B, 0, none⟩) n0 n0, .int .i64 (i : Int), .func (.yield lp) #[] #[]] W fun e W' => LsPost J B n0 i n L xs pre W e W' := by
 intro n
 induction n with
 | zero =>
  intro i xs pre W hin hxl hB hj hOk
  obtain rfl : i = n0 := by omega
  have htk : xs.take i = xs := List.take_of_length_le (by omega)
  rw [htk, lsP_zero] at hOk
  obtain ⟨hfn, htmps, hasg, hbody, hy, hR⟩ := RH 0 pre xs W hOk hxl hj hB
  have HR := hide hR
  have HB := hide hB
  obtain ⟨a, c, rfl, hl, _⟩ := id (hJ.row hj)
  clear hR RH hJ hOk
  have HTK := hide htk
  have HXL := hide hxl
  clear htk hxl
  go_enter Try.func87, Try.ntmps87
  refine (wpIn_wide (n := 1)).1 ?_
  gi_wp2
  refine HR.out.mono ?_
  rintro e W1 ⟨rfl, hj1, hb1, hz1⟩
  have HJ1 := hide hj1
  have HB1 := hide hb1
  have HZ1 := hide hz1
  clear hj1 hb1 hz1 hy
  gi_wp2
  go_ret
  exact ⟨rfl, by rw [HTK.out, lsP_zero]; exact HJ1.out, HZ1.out, xs, HXL.out, rfl, HB1.out.trans HB.out⟩
 | succ n ih =>
  intro i xs pre W hin hxl hB hj hOk
  have IH := hide ih
  have HJ := hide hJ
  have HRH := hide RH
  have HB := hide hB
  have HJJ := hide hj
  have HXL := hide hxl
  have HOK := hide hOk
  obtain ⟨a, c, rfl, hl, _⟩ := id (hJ.row hj)
  have hne : ((i : Int) == (n0 : Int)) = false := by simp; omega
  have hne2 : ¬ ((i : Int) = (n0 : Int)) := by omega
  have hlen := hl.1
  clear ih hJ RH hB hj hxl hOk hl
  go_enter Try.func87, Try.ntmps87
  go_wp2_with fail
  go_loopw [20] (fun q wr => LsI J B n0 i n L xs pre W q wr) (fun q wr => L.length - (intOf q).toNat)
  case atStart => exact ⟨0, xs, Nat.zero_le _, rfl, by simpa using HJJ.out, Nat.le_refl _, HXL.out, rfl, HB.out⟩
  case round =>
   obtain ⟨k, ys, hk, rfl, hj, hz, hyl, hyt, hB⟩ := hrel
   have HJk := hide hj
   have HZk := hide hz
   have HYL := hide hyl
   have HYT := hide hyt
   have HBk := hide hB
   clear hj hz hyl hyt hB
   by_cases hlt : k < L.length
   ·have hki : (k : Int) < (L.length : Int) := by omega
    obtain ⟨b2, o2, rfl, hb2, hc2⟩ := (HJ.out.row HJk.out).at (Below.refl wr.heap.size wr) k hlt
    have hBl := HBk.out.lt
    have hBf := HBk.out.frozen i
    obtain ⟨u, hu⟩ : ∃ u, wr.cell? ⟨B, i, none⟩ = some u := ⟨_, by rw [HBk.out.cell]; simp; exact ⟨ys[i]'(by have := HYL.out; omega), by simp [show i < ys.length by have := HYL.out; omega], rfl⟩⟩
    have hii : (i : Int) < (n0 : Int) := by omega
    unfold stV at hc2
    have HE : Hid (ExQ (fun b => b = B) wr (wr.setCell ⟨B, i, none⟩ (.int .u64 (L[k] : Int)))) := (ExQ.refl (fun b => b = B) wr).set (B := B) rfl _ _
    have HBS : Hid (Blk (wr.setCell ⟨B, i, none⟩ (.int .u64 (L[k] : Int))) B ((ys.set i L[k]).map stV).toArray 71) := blk_setN HBk.out i L[k]
    have HTS : Hid ((ys.set i L[k]).take (i + 1) = xs.take i ++ [L[k]]) := by
     unfold Hid
     rw [List.take_succ_eq_append_getElem (by rw [List.length_set, HYL.out]; omega), List.getElem_set_self, List.take_set_of_le (Nat.le_refl _), HYT.out]
    have HLS : Hid ((ys.set i L[k]).length = n0) := by unfold Hid; rw [List.length_set]; exact HYL.out
    have HPR : Hid (((pre ++ (L.take k).flatMap fun s => lsP L (xs.take i ++ [s]) n) ++ lsP L ((ys.set i L[k]).take (i + 1)) n) <+: all) := by
     unfold Hid
     rw [HTS.out]
     exact flatX_pre hlt pre all (by have := HOK.out; rw [lsP_succ] at this; exact this)
    go_wp2_with fail
    refine (IH.out (i + 1) (ys.set i L[k]) _ _ (by omega) HLS.out HBS.out (HJ.out.abide HJk.out HE.out) HPR.out).mono ?_
    rintro e W5 ⟨rfl, hj5, hz5, zs, hzl, hzt, hb5⟩
    have HJ5 : Hid (J (pre ++ (L.take (k + 1)).flatMap fun s => lsP L (xs.take i ++ [s]) n) W5) := by
     unfold Hid
     rw [flatX_take hlt, ← List.append_assoc, ← HTS.out]
     exact hj5
    have HZ5 : Hid (W.heap.size ≤ W5.heap.size) := by have h1 := HZk.out; have h2 := HE.out.size; unfold Hid; omega
    have HZT : Hid (zs.take i = xs.take i) := by
     have h := congrArg (List.take i) hzt
     rw [List.take_take, List.take_take, Nat.min_eq_left (Nat.le_succ i), List.take_set_of_le (Nat.le_refl _)] at h
     exact h.trans HYT.out
    have HZL := hide hzl
    have HB5 := hide hb5
    clear hj5 hz5 hzl hzt hb5 hu hBf hBl hc2
    go_wp2_with fail
    go_roundw
    case rel => exact ⟨k + 1, zs, by omega, by go_num, HJ5.out, HZ5.out, HZL.out, HZT.out, HB5.out⟩
    case measure => simp [intOf]; omega
   ·have hki : ¬ (k : Int) < (L.length : Int) := by omega
    have htk : L.take k = L := List.take_of_length_le (by omega)
    have HTK := hide htk
    clear htk
    go_wp2_with fail
    go_ret
    exact ⟨rfl, by rw [lsP_succ]; have := HJk.out; rw [HTK.out] at this; exact this, HZk.out, ys, HYL.out, HYT.out, HBk.out⟩
theorem infoSetX : (Try.prog.info? 71).map (fun i => (i.zero, i.size, i.bytes)) = some (some (.int .u64 0), 1, 8) := by kernel_rfl
theorem make_setsX (n : Nat) (hn : n ≤ 1000000) (w : World) : (Instr.makeSlice 95 (.int .i64 (n : Int)) (.int .i64 (n : Int))).run Try.prog w = .ok (.slice (some ⟨w.heap.size, 0, none⟩) n n) (w.alloc (.cells ((List.replicate n 0).map stV).toArray 71)) := by
 obtain ⟨i0, hi, hz0, hz1, hz2⟩ := info_parts infoSetX
 have hr := run_make (P := Try.prog) w 95 71 i0 _ Try.underlying95 hi hz0 .i64 .i64 n n (by omega) (by omega) (by rw [hz2]; omega) (by omega)
 have h2 : madeCells (Value.int .u64 0).cells n = ((List.replicate n 0).map stV).toArray := by
  have h3 := toList_madeCells_one (.int .u64 0) n
  apply Array.ext'
  rw [List.toList_toArray, List.map_replicate]
  rw [show stV 0 = Value.int .u64 0 from rfl, ← h3]
  rfl
 rw [hz1, Nat.mul_one] at hr
 simp only [Int.toNat_natCast] at hr
 rw [h2] at hr
 exact hr
theorem lists_any (ov nv : Value) (w : World) (ho : ∃ a l c, ov = .slice a l c) (n0 : Nat) (hn : nv = .int .i64 (n0 : Int)) :
  Calls Try.prog 74 #[ov, nv] w fun e w' => e = .returned (.func (.func 86) #[] #[.pointer (some ⟨w.heap.size, 0, none⟩), .pointer (some ⟨w.heap.size + 1, 0, none⟩)]) ∧ w' = (w.alloc (.cells #[ov] 95)).alloc (.cells #[nv] 3) := by
 obtain ⟨a, l, c, rfl⟩ := ho
 subst hn
 have hmf : ∀ (fn : Fn) (first cap : Array Value) (w : World), (Instr.makeFunc fn first cap).run Try.prog w = .ok (.func fn first cap) w := fun _ _ _ _ => rfl
 go_enter Try.func74, Try.ntmps74
 go_wp2_with fail
 go_ret
 exact ⟨rfl, rfl⟩
set_option maxHeartbeats 2000000 in
theorem lists1_any {J : List (List Nat) → World → Prop} {lp B n0 : Nat} {ov : Value} {L : List Nat} (hn0 : n0 ≤ 1000000) (hJ : KpL J B ov L) (RH : RndL lp B n0 J (lsN L n0)) (B1 B2 : Nat) (W : World) (hBW : B = W.heap.size) (hj : J [] W)
  (hbx : ∀ {pre W'}, J pre W' → Blk W' B1 #[ov] 95 ∧ Blk W' B2 #[.int .i64 (n0 : Int)] 3) :
  Calls Try.prog 86 #[.func (.yield lp) #[] #[], .pointer (some ⟨B1, 0, none⟩), .pointer (some ⟨B2, 0, none⟩)] W fun e W' => (∃ v, e = .returned v) ∧ J (lsN L n0) W' := by
 obtain ⟨a, c, rfl, hl, _⟩ := id (hJ.row hj)
 obtain ⟨Z, hZ⟩ : ∃ Z, Z = ((List.replicate n0 0).map stV).toArray := ⟨_, rfl⟩
 have hmk : ∀ w : World, (Instr.makeSlice 95 (.int .i64 (n0 : Int)) (.int .i64 (n0 : Int))).run Try.prog w = .ok (.slice (some ⟨w.heap.size, 0, none⟩) n0 n0) (w.alloc (.cells Z 71)) := by rw [hZ]; exact make_setsX n0 hn0
 have HJ := hide hJ
 have HRH := hide RH
 have HBX : Hid (∀ pre W', J pre W' → Blk W' B1 #[.slice a L.length c] 95 ∧ Blk W' B2 #[.int .i64 (n0 : Int)] 3) := fun pre W' h => hbx h
 have HJJ := hide hj
 have hlen := hl.1
 clear hJ RH hbx hj hl
 subst hBW
 have HJD : Hid (J [] W.drew) := HJ.out.abide HJJ.out (ExQ.refl _ _).drew
 have HJA : Hid (J [] (W.drew.alloc (.cells Z 71))) := HJ.out.abide HJJ.out ((ExQ.refl _ _).drew.alloc _)
 have HBA : Hid (Blk (W.drew.alloc (.cells Z 71)) W.heap.size ((List.replicate n0 0).map stV).toArray 71) := by rw [← hZ]; exact Blk.new W.drew _ _
 have hzd : W.drew.heap.size = W.heap.size := rfl
 clear hZ
 have CS : Hid (∀ pre w', J pre w' → w'.cell? ⟨B1, 0, none⟩ = some (.slice a L.length c) ∧ w'.cell? ⟨B2, 0, none⟩ = some (.int .i64 (n0 : Int))) := fun pre w' h => ⟨(HBX.out pre w' h).1.cell 0, (HBX.out pre w' h).2.cell 0⟩
 go_enter Try.func86, Try.ntmps86
 go_upto_region 0 with fail
 refine wp_region_held_drew (S := fun w' => w'.cell? ⟨B1, 0, none⟩ = some (.slice a L.length c) ∧ w'.cell? ⟨B2, 0, none⟩ = some (.int .i64 (n0 : Int))) (by kernel_rfl) (CS.out _ _ HJD.out) (fun hHeld => ?_)
 generalize W.drew = Wd at *
 refine tkq (v := ?_) 0 rfl ?_ ?_
 rotate_left
 ·intro w' hSw
  obtain ⟨x0, x1⟩ := hSw
  go_simp <;> with_reducible rfl
 try simp only [Act.put, sqA, sqB, sqC, sqD, sqE, sqF]
 refine tkq (v := ?_) 1 rfl ?_ ?_
 rotate_left
 ·intro w' hSw
  obtain ⟨x0, x1⟩ := hSw
  go_simp <;> with_reducible rfl
 try simp only [Act.put, sqA, sqB, sqC, sqD, sqE, sqF]
 refine tkq (v := ?_) 3 rfl ?_ ?_
 rotate_left
 ·intro w' hSw
  go_simp <;> with_reducible rfl
 try simp only [Act.put, sqA, sqB, sqC, sqD, sqE, sqF]
 refine rdq 2 rfl fun K hK => ?_
 go_simp
 refine hK.out _ _ (by exact CS.out _ _ HJA.out) (fun hHeld => ?_)
 clear hK K
 try simp only [Act.put, sqA, sqB, sqC, sqD, sqE, sqF]
 refine rdq 4 rfl fun K hK => ?_
 go_simp
 go_at_call 87
 refine (listsOn_any hn0 HJ.out HRH.out n0 0 (List.replicate n0 0) [] _ (by omega) (by simp) HBA.out HJA.out (by rw [List.take_zero, lsP_nil, List.nil_append]; exact List.prefix_refl _)).mono ?_
 rintro e W5 ⟨rfl, hj5, hz5, zs, hzl, hzt, hb5⟩
 rw [List.take_zero, lsP_nil, List.nil_append] at hj5
 have HJ5 := hide hj5
 clear hj5 hz5 hzl hzt hb5
 go_simp
 refine hK.out _ _ (by exact CS.out _ _ HJ5.out) (fun hHeld => ?_)
 clear hK K
 try simp only [Act.put, sqA, sqB, sqC, sqD, sqE, sqF]
 refine wpAnyH_done (by kernel_rfl) ?_ _
 go_wp2_with fail
 go_end0
 exact ⟨⟨_, rfl⟩, HJ5.out⟩
def allocsX (w : World) (os : List Obj) : World := os.foldl (fun w o => w.alloc o) w
theorem allocsX_facts : ∀ (os : List Obj) (w : World), Below w.heap.size w (allocsX w os) ∧ (allocsX w os).heap.size = w.heap.size + os.length ∧ ∀ (i : Nat) (o : Obj), os[i]? = some o → (allocsX w os).heap[w.heap.size + i]? = some o
 | [], w => ⟨Below.refl _ _, rfl, fun i o h => by simp at h⟩
 | o :: os, w => by
  obtain ⟨h1, h2, h3⟩ := allocsX_facts os (w.alloc o)
  have e : allocsX w (o :: os) = allocsX (w.alloc o) os := rfl
  rw [e]
  refine ⟨((Below.refl _ _).alloc (Nat.le_refl _) o).trans (h1.mono (by simp)), by rw [h2]; simp; omega, fun i q h => ?_⟩
  match i, h with
  | 0, h =>
   simp at h
   subst h
   rw [Nat.add_zero, h1.block _ (by simp)]
   exact heap_alloc_new w o
  | i + 1, h =>
   have := h3 i q (by simpa using h)
   rw [World.size_alloc] at this
   rw [show w.heap.size + (i + 1) = w.heap.size + 1 + i by omega]
   exact this
theorem addX (b i : Nat) : (⟨b, 0, none⟩ : Addr).add i = ⟨b, i, none⟩ := by
 by_cases h0 : i = 0
 ·subst h0; simp [Addr.add]
 ·simp [Addr.add, h0]
theorem wpListIn_append_eqX {F : Fence} {nF : Nat} {P : Program} {ops : Array Oper} {rest : List Oper} {o : Oper} {a : Act} {Q : Exit → Act → World → Prop} {w w' : World} {v u v' : Value} (hgd : o.guard = none) (s x : Operand) (t t' : TypeId)
  (ho : o.op = .call { callee := .builtin .append, args := #[s, x], argTypes := #[t, t'] }) (hs : a.eval s = v) (hx : a.eval x = u)
  (hr : (Builtin.append_ #[t, t'] o.type #[v, u]).run P w = .ok v' w') (h : wpListIn F nF P ops Q rest (a.put o.dst v') w') : wpListIn F nF P ops Q (o :: rest) a w := by
 refine wpListIn_plain hgd fun K hK => ?_
 unfold Oper.wpIn
 refine ⟨by simp [Oper.about, ho, resolve, Target.leads, Sem.run_pure], ?_⟩
 rw [Oper.semAt_plain F _ _ (by rw [ho]; intro c hc'; cases hc')]
 simp [execOp, ho, resolve, invoke, builtin, hs, hx, hr, Result.andThen]
 exact hK _ _ h
structure AlP (ms : List Mv) (n : Nat) (al : List Nat) : Prop where
 nd : al.Nodup
 lt : ∀ x ∈ al, x < 64
 tm : ∀ x ∈ al, ∃ t : Tm, SymT ms t ∧ SetIs x (endX ms n t)
theorem AlP.nil (ms : List Mv) (n : Nat) : AlP ms n [] := ⟨List.nodup_nil, (fun x hx => by cases hx), (fun x hx => by cases hx)⟩
theorem AlP.len {ms : List Mv} {n : Nat} {al : List Nat} (h : AlP ms n al) : al.length ≤ 64 := by
 have := inj_len (Q := fun (a b : Nat) => a = b) (l1 := al) (l2 := List.range 64) (h.nd.imp fun hne b h1 h2 => hne (h1.trans h2.symm)) fun a ha => ⟨a, List.mem_range.2 (h.lt a ha), rfl⟩
 simpa using this
theorem AlP.add {ms : List Mv} {n : Nat} {al : List Nat} (h : AlP ms n al) {x : Nat} (hx : x ∉ al) (hl : x < 64) (ht : ∃ t : Tm, SymT ms t ∧ SetIs x (endX ms n t)) : AlP ms n (al ++ [x]) := by
 refine ⟨?_, fun y hy => ?_, fun y hy => ?_⟩
 ·rw [List.nodup_append]
  exact ⟨h.nd, by simp, fun a ha b hb => by simp at hb; subst hb; intro e; subst e; exact hx ha⟩
 ·rcases List.mem_append.1 hy with hy | hy
  ·exact h.lt y hy
  ·simp at hy; subst hy; exact hl
 ·rcases List.mem_append.1 hy with hy | hy
  ·exact h.tm y hy
  ·simp at hy; subst hy; exact ht
theorem setN_ltK {zs : List Int} {k : Nat} (h : ∀ z ∈ zs, 0 ≤ z ∧ z < (k : Int)) : setN zs < 2 ^ k := by
 apply Nat.lt_pow_two_of_testBit
 intro i hi
 rw [setN_bit _ (fun z hz => (h z hz).1), decide_eq_false_iff_not]
 intro hm
 have := (h _ hm).2
 omega
theorem endN_lt64 {ms : List Mv} {n : Nat} {bs : List (List Bool)} (hn : n ≤ 6) (h : ∀ m ∈ ms, 0 ≤ m.to ∧ m.to < (n : Int)) : endN ms bs < 64 := by
 have h1 : setN ((ms.filter fun m => goB bs m.frm).map (·.to)) < 2 ^ 6 := setN_ltK fun z hz => by
  obtain ⟨m, hm, rfl⟩ := List.mem_map.1 hz
  have := h m (List.mem_filter.1 hm).1
  omega
 exact h1
def seenA (al : List Nat) : Array Value := ((List.range 64).map fun (i : Nat) => Value.bool (decide (i ∈ al))).toArray
theorem seenA_at (al : List Nat) {x : Nat} (hx : x < 64) : (seenA al)[x]? = some (.bool (decide (x ∈ al))) := by
 simp [seenA, hx]
theorem seenA_add (al : List Nat) {x : Nat} (hx : x < 64) : (seenA al).setIfInBounds x (.bool true) = seenA (al ++ [x]) := by
 unfold seenA
 rw [List.setIfInBounds_toArray]
 congr 1
 apply List.ext_getElem
 ·simp
 ·intro i h1 h2
  simp only [List.length_set, List.length_map, List.length_range] at h1
  rw [List.getElem_set]
  simp only [List.getElem_map, List.getElem_range]
  by_cases e : x = i
  ·subst e; simp
  ·rw [if_neg e]
   have : (i ∈ al ++ [x]) ↔ i ∈ al := by simp; intro h; exact absurd h.symm e
   simp [this]
def ExtX (W W' : World) (u u' : Value) (n : Nat) : Prop :=
 (∃ g cap, u = .slice (some ⟨g, 0, none⟩) n cap ∧ u' = .slice (some ⟨g, 0, none⟩) (n + 1) cap) ∨ ((∀ k, u'.ownBlock = some k → W.heap.size ≤ k) ∧ Below W.heap.size W W')
theorem here_stepX {W : World} {N : Nat} {u : Value} {hs : List Nat} (h : W.ownsRow N 71 1 u hs.length (hs.map stV)) (hN : N ≤ W.heap.size) (i : Nat) (F : Nat) (hF : W.heap[F]? = some (.cells #[stV i] 71 (0, 0))) (hn : hs.length ≤ 1000000) :
  ∃ u' W', (Builtin.append_ #[95, 95] 95 #[u, .slice (some ⟨F, 0, none⟩) 1 1]).run Try.prog W = .ok u' W' ∧ W'.ownsRow N 71 1 u' (hs ++ [i]).length ((hs ++ [i]).map stV) ∧ W.grownBy W' u.ownBlock ∧ ExtX W W' u u' hs.length := by
 obtain ⟨i0, hi, hz0, hz1, hz2⟩ := info_parts infoSetX
 have hFc : W.cell? ⟨F, 0, none⟩ = some (stV i) := by simp [World.cell?, hF]
 have hsrc : Src Try.prog i0.size 95 (.slice (some ⟨F, 0, none⟩) 1 1) 1 [stV i] W := by
  rw [hz1]
  refine Src.ofSlice W Try.underlying95 ⟨F, 0, none⟩ 1 1 _ (by simp) (fun j v hj => ?_) (by intro v hv; simp at hv; subst hv; rfl)
  match j, hj with
  | 0, hj => simp at hj; subst hj; simpa [Addr.add] using hFc
 have h' := h
 obtain ⟨hl, h1⟩ := h
 have grow : ∀ (base : Option Addr) (cap : Nat), u = .slice base hs.length cap → (Builtin.firstCells i0.size hs.length (.slice base hs.length cap)).run Try.prog W.drew = .ok (hs.map stV).toArray W.drew → cap < hs.length + 1 → cap ≤ 1000000 → 
   ∃ u' W', (Builtin.append_ #[95, 95] 95 #[u, .slice (some ⟨F, 0, none⟩) 1 1]).run Try.prog W = .ok u' W' ∧ W'.ownsRow N 71 1 u' (hs ++ [i]).length ((hs ++ [i]).map stV) ∧ W.grownBy W' u.ownBlock ∧ ExtX W W' u u' hs.length := by
  intro base cap hu hfc hcap hcm
  subst hu
  have hg := run_append_grow_src (P := Try.prog) W 95 95 95 71 i0 (.int .u64 0) Try.underlying95 hi hz0 base hs.length cap _ hfc _ 1 _ hsrc (by omega) (by omega) (by rw [hz2]; exact growslice_fits (by omega) (by omega))
  have hge := grownCap_ge W (hs.length + 1) cap 71
  have hcm := grownCap_le_maxLen W (hs.length + 1) cap 71 (by unfold maxLen; omega)
  have hbl : Below W.heap.size W (W.drew.alloc (.cells (((hs.map stV) ++ [stV i]).toArray ++ Builtin.zeroCells (Value.int .u64 0).cells (grownCap W (hs.length + 1) cap 71 - (hs.length + 1))) 71)) := ((Below.refl W.heap.size W).drew).alloc (Nat.le_refl _) _
  refine ⟨_, _, hg, ⟨by simp, Or.inr ⟨W.heap.size, _, _, by simp, hN, heap_alloc_new W.drew _, by simp; omega, hcm, ?_, ?_⟩⟩, grown_of_below hbl _, Or.inr ⟨fun k hk => ?_, hbl⟩⟩
  ·simp [Builtin.zeroCells, Value.cells]; omega
  ·rw [Array.toList_append, List.take_append_of_le_length (by simp), List.take_of_length_le (by simp)]; simp
  ·simp [Value.ownBlock] at hk; omega
 rcases h1 with ⟨hu, h0⟩ | ⟨g, cap, cur, hu, hgN, hgb, hnc, hcm, hcs, htk⟩
 ·have e : hs = [] := List.length_eq_zero_iff.1 h0
  subst e
  exact grow none 0 hu (by simp [Builtin.firstCells, go_sem]) (by simp) (by omega)
 ·by_cases hroom : hs.length + 1 ≤ cap
  ·subst hu
   simp only [Nat.mul_one] at hcs htk
   have hgl : g < W.heap.size := (h'.lt g rfl).2
   have hnz : hs.length < cur.size := by omega
   have hg := run_append_room_src (P := Try.prog) W 95 95 95 71 i0 Try.underlying95 hi g 0 hs.length cap _ 1 _ hsrc hroom (fun j hj => by simp at hj; subst hj; rw [hz1]; simp [World.cell?, hgb, hnz]) (fun j hj => by simp at hj; subst hj; rw [hz1]; simp [World.frozen?, hgb])
   rw [hz1] at hg
   simp only [World.setCells, Nat.zero_add, Nat.mul_one] at hg
   refine ⟨_, _, hg, ⟨by simp, Or.inr ⟨g, cap, cur.setIfInBounds hs.length (stV i), by simp, hgN, ?_, by simpa using hroom, hcm, by simp [hcs], ?_⟩⟩, ⟨rfl, rfl, rfl, by simp [World.setCell], fun k hk hkb => Below.heap_setCell _ _ _ _ (by simp [Value.ownBlock] at hkb; simpa using hkb)⟩, Or.inl ⟨g, cap, rfl, rfl⟩⟩
   ·simp [World.setCell, Array.getElem?_modify, hgb]
   ·simp only [Array.toList_setIfInBounds, List.length_append, List.length_singleton, Nat.mul_one, List.map_append, List.map_cons, List.map_nil]
    rw [List.take_succ_eq_append_getElem (by simpa using hnz), List.take_set_of_le (by omega), htk]
    simp
  ·exact grow (some ⟨g, 0, none⟩) cap hu (by
    have hc := h'.cells (g := g) (by rw [hu]; rfl)
    exact run_firstCells_some (P := Try.prog) W.drew i0.size hs.length ⟨g, 0, none⟩ hs.length cap _ (by rw [hz1]; simp) (fun j v hj => hc j v hj)) (by omega) (by omega)
structure EnS (N A S : Nat) (W : World) (al : List Nat) (v : Value) : Prop where
 bA : Blk W A #[v] 95
 own : W.ownsRow N 71 1 v al.length (al.map stV)
 bS : Blk W S (seenA al) 112
 lo : A < N ∧ S < N ∧ A ≠ S ∧ N ≤ W.heap.size
theorem EnS.kept {N A S : Nat} {W W' : World} {al : List Nat} {v : Value} (h : EnS N A S W al v) (hz : W.heap.size ≤ W'.heap.size) (hk : ∀ b, b = A ∨ b = S ∨ v.ownBlock = some b → W'.heap[b]? = W.heap[b]?) : EnS N A S W' al v :=
 ⟨(hk A (Or.inl rfl)).trans h.bA, ownsRow_at h.own fun g hg => hk g (Or.inr (Or.inr hg)), (hk S (Or.inr (Or.inl rfl))).trans h.bS, h.lo.1, h.lo.2.1, h.lo.2.2.1, by have := h.lo; omega⟩
theorem EnS.later {N A S : Nat} {W W' : World} {al : List Nat} {v : Value} (h : EnS N A S W al v) (hb : Below W.heap.size W W') : EnS N A S W' al v :=
 h.kept hb.size fun b hb' => hb.block b (by
  rcases hb' with e | e | e
  ·have := h.lo; omega
  ·have := h.lo; omega
  ·exact (h.own.lt b e).2)
theorem EnS.lv {N A S : Nat} {W : World} {al : List Nat} {v : Value} (h : EnS N A S W al v) : LV stV W (fun b => v.ownBlock = some b) v al := by
 obtain ⟨a, c, rfl, hl, hc⟩ := LV.of_own h.own
 refine ⟨a, c, rfl, hl, ?_⟩
 rcases hc with hc | ⟨b, o, rfl, hb, hc⟩
 ·exact Or.inl hc
 ·rcases h.own.2 with ⟨e, _⟩ | ⟨g, cap, cur, e, _⟩
  ·cases e
  ·cases e
   exact Or.inr ⟨_, _, rfl, rfl, hc⟩
theorem EnS.push {N A S : Nat} {V : World} {al : List Nat} {v : Value} (h : EnS N A S V al v) {x : Nat} (hx : x < 64) (hl : al.length ≤ 64) :
  ∃ g cap w3, (Builtin.append_ #[95, 95] 95 #[v, .slice (some ⟨V.heap.size, 0, none⟩) 1 1]).run Try.prog ((V.setCell ⟨S, x, none⟩ (.bool true)).alloc (.cells #[stV x] 71)) = .ok (.slice (some ⟨g, 0, none⟩) (al.length + 1) cap) w3 ∧
   w3.cell? ⟨A, 0, none⟩ = some v ∧ w3.frozen? ⟨A, 0, none⟩ = false ∧ A < w3.heap.size ∧
   EnS N A S (w3.setCell ⟨A, 0, none⟩ (.slice (some ⟨g, 0, none⟩) (al.length + 1) cap)) (al ++ [x]) (.slice (some ⟨g, 0, none⟩) (al.length + 1) cap) ∧
   ExQ (fun b => b = A ∨ b = S ∨ v.ownBlock = some b) V (w3.setCell ⟨A, 0, none⟩ (.slice (some ⟨g, 0, none⟩) (al.length + 1) cap)) ∧ (v.ownBlock = some g ∨ (V.heap.size ≤ g ∧ ∀ b, v.ownBlock = some b → (w3.setCell ⟨A, 0, none⟩ (.slice (some ⟨g, 0, none⟩) (al.length + 1) cap)).heap[b]? = V.heap[b]?)) := by
 obtain ⟨hA, hS, hAS, hN⟩ := h.lo
 have hlt := h.own.lt
 have hnA : v.ownBlock ≠ some A := fun e => by have := (hlt A e).1; omega
 have hnS : v.ownBlock ≠ some S := fun e => by have := (hlt S e).1; omega
 obtain ⟨V2, hV2⟩ : ∃ V2, V2 = (V.setCell ⟨S, x, none⟩ (.bool true)).alloc (.cells #[stV x] 71) := ⟨_, rfl⟩
 have hz2 : V2.heap.size = V.heap.size + 1 := by rw [hV2]; simp
 have k2 : ∀ b, b < V.heap.size → b ≠ S → V2.heap[b]? = V.heap[b]? := fun b hb hne => by
  rw [hV2]
  exact (Below.heap_alloc _ _ _ (by simpa using hb)).trans (Below.heap_setCell _ _ _ _ (by simpa using hne))
 have hF : V2.heap[V.heap.size]? = some (.cells #[stV x] 71 (0, 0)) := by
  rw [hV2]
  have := heap_alloc_new (V.setCell ⟨S, x, none⟩ (.bool true)) (.cells #[stV x] 71)
  simpa using this
 have hS2 : Blk V2 S (seenA (al ++ [x])) 112 := by
  rw [hV2]
  have := h.bS.set x (.bool true)
  rw [seenA_add al hx] at this
  exact this.alloc _
 have hA2 : Blk V2 A #[v] 95 := (k2 A (by omega) hAS).trans h.bA
 have ho2 : V2.ownsRow N 71 1 v al.length (al.map stV) := ownsRow_at h.own fun g hg => k2 g (hlt g hg).2 (fun e => hnS (e ▸ hg))
 obtain ⟨u', w3, hr, hown, hgr, hext⟩ := here_stepX ho2 (by omega) x V.heap.size hF (by omega)
 obtain ⟨g, cap, hu⟩ : ∃ g cap, u' = .slice (some ⟨g, 0, none⟩) (al.length + 1) cap := by
  rcases hown.2 with ⟨_, h0⟩ | ⟨g, cap, cur, hv, _⟩
  ·simp at h0
  ·exact ⟨g, cap, by rw [hv]; simp⟩
 subst hu
 have hgs := hgr.size
 have k3 : ∀ b, b < V2.heap.size → v.ownBlock ≠ some b → w3.heap[b]? = V2.heap[b]? := fun b hb hne => hgr.block b hb (fun e => hne e.symm)
 have hA3 : Blk w3 A #[v] 95 := (k3 A (by omega) hnA).trans hA2
 have hgl := hown.lt g rfl
 refine ⟨g, cap, w3, by rw [hV2] at hr; exact hr, hA3.cell 0, hA3.frozen 0, hA3.lt, ⟨?_, ?_, ?_, hA, hS, hAS, by simp; omega⟩, ⟨hgr.os.trans (by rw [hV2]; rfl), hgr.tape.trans (by rw [hV2]; rfl), hgr.output.trans (by rw [hV2]; rfl), by simp; omega, fun b hb hn => ?_⟩, ?_⟩
 ·exact hA3.set 0 _
 ·rw [List.length_append, List.length_singleton]
  refine ownsRow_at (by simpa using hown) fun b hb => Below.heap_setCell _ _ _ _ ?_
  have e : g = b := by simpa [Value.ownBlock] using hb
  subst e
  simp
  omega
 ·refine Blk.setOther ((k3 S (by omega) hnS).trans hS2) _ _ (fun e => hAS e.symm)
 ·have h1 : b ≠ A := fun e => hn (Or.inl e)
  have h2 : b ≠ S := fun e => hn (Or.inr (Or.inl e))
  have h3 : v.ownBlock ≠ some b := fun e => hn (Or.inr (Or.inr e))
  rw [Below.heap_setCell _ _ _ _ (by simpa using h1), k3 b (by omega) h3, k2 b hb h2]
 ·rcases hext with ⟨g', cap', e1, e2⟩ | ⟨h1, h2⟩
  ·left
   simp at e2
   rw [e1, e2.1]
   rfl
  ·right
   have := h1 g rfl
   refine ⟨by omega, fun b hb => ?_⟩
   have hbA : b ≠ A := fun e => hnA (e ▸ hb)
   have hbS : b ≠ S := fun e => hnS (e ▸ hb)
   rw [Below.heap_setCell _ _ _ _ (by simpa using hbA), h2.block b (by have := (hlt b hb).2; omega), k2 b (hlt b hb).2 hbS]
end Go.Proofs.Ytofebfjkodceeaa
