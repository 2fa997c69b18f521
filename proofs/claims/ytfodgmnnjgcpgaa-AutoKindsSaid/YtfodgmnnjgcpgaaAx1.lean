/- Walks: all lists of so many sets, handed over one by one (auto.lists, auto.listsOn). -/
import Derived.Test.YtfodgmnnjgcpgaaAv1
import Derived.Test.YtfodgmnnjgcpgaaZLAutoKindsOwn
import Derived.Deep.RegionHeld3
namespace Go.Proofs.Ytfodgmnnjgcpgaa
open Go.RowKit Go.Shelf
attribute [local go_sem] Oper.semAt_some
set_option linter.unusedSimpArgs false
set_option linter.unusedVariables false
set_option maxRecDepth 8000

/-- All lists of so many of these. -/
def lsN (L : List Nat) : Nat → List (List Nat)
  | 0 => [[]]
  | n + 1 => L.flatMap fun s => (lsN L n).map (s :: ·)
theorem lsN_mem {L : List Nat} : ∀ {n : Nat} {xs : List Nat}, xs ∈ lsN L n ↔ xs.length = n ∧ ∀ x ∈ xs, x ∈ L
  | 0, xs => by
    simp only [lsN, List.mem_singleton]
    constructor
    · rintro rfl; exact ⟨rfl, fun x hx => by cases hx⟩
    · rintro ⟨h, _⟩; exact List.length_eq_zero_iff.1 h
  | n + 1, xs => by
    simp only [lsN, List.mem_flatMap, List.mem_map]
    constructor
    · rintro ⟨s, hs, ys, hy, rfl⟩
      obtain ⟨h1, h2⟩ := lsN_mem.1 hy
      refine ⟨by simp [h1], fun x hx => ?_⟩
      rcases List.mem_cons.1 hx with rfl | hx
      · exact hs
      · exact h2 x hx
    · rintro ⟨h1, h2⟩
      cases xs with
      | nil => simp at h1
      | cons s ys => exact ⟨s, h2 s (by simp), ys, lsN_mem.2 ⟨by simpa using h1, fun x hx => h2 x (by simp [hx])⟩, rfl⟩
/-- Those that begin so. -/
def lsP (L p : List Nat) (n : Nat) : List (List Nat) := (lsN L n).map (p ++ ·)
theorem lsP_zero (L p : List Nat) : lsP L p 0 = [p] := by simp [lsP, lsN]
theorem lsP_nil (L : List Nat) (n : Nat) : lsP L [] n = lsN L n := by simp [lsP]
theorem lsP_succ (L p : List Nat) (n : Nat) : lsP L p (n + 1) = L.flatMap fun s => lsP L (p ++ [s]) n := by
  unfold lsP
  rw [lsN, List.map_flatMap]
  congr 1
  funext s
  rw [List.map_map]
  congr 1
  funext ys
  simp
theorem flatX_take {α β : Type} {L : List α} {f : α → List β} {k : Nat} (h : k < L.length) : (L.take (k + 1)).flatMap f = (L.take k).flatMap f ++ f L[k] := by
  rw [List.take_succ_eq_append_getElem h, List.flatMap_append]
  simp
theorem flatX_pre {α β : Type} {L : List α} {f : α → List β} {k : Nat} (h : k < L.length) (pre all : List β) (hp : (pre ++ L.flatMap f) <+: all) : ((pre ++ (L.take k).flatMap f) ++ f L[k]) <+: all := by
  refine List.IsPrefix.trans ⟨(L.drop (k + 1)).flatMap f, ?_⟩ hp
  rw [List.append_assoc pre, ← flatX_take h, List.append_assoc, ← List.flatMap_append, List.take_append_drop]
theorem blk_setN {W : World} {B T : Nat} {xs : List Nat} (h : Blk W B (xs.map stV).toArray T) (i s : Nat) : Blk (W.setCell ⟨B, i, none⟩ (stV s)) B ((xs.set i s).map stV).toArray T := by
  have := h.set i (stV s)
  rw [List.setIfInBounds_toArray, ← List.map_set] at this
  exact this
theorem blk_lvN {W : World} {B T : Nat} {xs : List Nat} (h : Blk W B (xs.map stV).toArray T) (hn : xs.length ≤ 9223372036854775807) : LV stV W (fun b => b = B) (.slice (some ⟨B, 0, none⟩) xs.length xs.length) xs :=
  ⟨_, _, rfl, ⟨hn, Nat.le_refl _⟩, Or.inr ⟨B, 0, rfl, rfl, fun i hi => by rw [h.cell]; simp [hi]⟩⟩

/-- What is kept from one list to the next. -/
structure KpL (J : List (List Nat) → World → Prop) (B : Nat) (ov : Value) (L : List Nat) : Prop where
  abide : ∀ {pre W W'}, J pre W → ExQ (fun b => b = B) W W' → J pre W'
  row : ∀ {pre W}, J pre W → LV stV W (fun b => b ≠ B) ov L
/-- One round: a list is handed over. -/
def RndL (lp B n0 : Nat) (J : List (List Nat) → World → Prop) (all : List (List Nat)) : Prop :=
  ∀ (n : Nat) (pre : List (List Nat)) (x : List Nat) (W : World), (pre ++ [x]) <+: all → x.length = n0 → J pre W → Blk W B (x.map stV).toArray 61 →
    YieldAt Fence.wide n Try.prog lp #[.slice (some ⟨B, 0, none⟩) n0 n0] W fun e W' => e = .returned (.bool true) ∧ J (pre ++ [x]) W' ∧ W'.heap[B]? = W.heap[B]? ∧ W.heap.size ≤ W'.heap.size
def LsPost (J : List (List Nat) → World → Prop) (B n0 i n : Nat) (L xs : List Nat) (pre : List (List Nat)) (W : World) (e : Ending) (W' : World) : Prop :=
  e = .returned (.bool true) ∧ J (pre ++ lsP L (xs.take i) n) W' ∧ W.heap.size ≤ W'.heap.size ∧ ∃ ys : List Nat, ys.length = n0 ∧ ys.take i = xs.take i ∧ Blk W' B (ys.map stV).toArray 61
def LsI (J : List (List Nat) → World → Prop) (B n0 i n : Nat) (L xs : List Nat) (pre : List (List Nat)) (W : World) (q : Value) (wr : World) : Prop :=
  ∃ (k : Nat) (ys : List Nat), k ≤ L.length ∧ q = .int .i64 (k : Int) ∧ J (pre ++ (L.take k).flatMap fun s => lsP L (xs.take i ++ [s]) n) wr ∧ W.heap.size ≤ wr.heap.size ∧ ys.length = n0 ∧ ys.take i = xs.take i ∧ Blk wr B (ys.map stV).toArray 61

set_option maxHeartbeats 2000000 in
theorem listsOn_any {J : List (List Nat) → World → Prop} {lp B n0 : Nat} {ov : Value} {L : List Nat} {all : List (List Nat)} (hn0 : n0 ≤ 1000000) (hJ : KpL J B ov L) (RH : RndL lp B n0 J all) : ∀ (n i : Nat) (xs : List Nat) (pre : List (List Nat)) (W : World), i + n = n0 → xs.length = n0 → Blk W B (xs.map stV).toArray 61 → J pre W → (pre ++ lsP L (xs.take i) n) <+: all →
    Calls Try.prog 78 #[ov, .slice (some ⟨B, 0, none⟩) n0 n0, .int .i64 (i : Int), .func (.yield lp) #[] #[]] W fun e W' => LsPost J B n0 i n L xs pre W e W' := by
  intro n
  induction n with
  | zero =>
    intro i xs pre W hin hxl hB hj hOk
    obtain rfl : i = n0 := by omega
    have htk : xs.take i = xs := List.take_of_length_le (by omega)
    rw [htk, lsP_zero] at hOk
    obtain ⟨hfn, htmps, hasg, hbody, hy, hR⟩ := RH 0 pre xs W hOk hxl hj hB
    have HR := hide hR
    have HB := hide hB
    obtain ⟨a, c, rfl, hl, _⟩ := id (hJ.row hj)
    clear hR RH hJ hOk
    have HTK := hide htk
    have HXL := hide hxl
    clear htk hxl
    go_enter Try.func78, Try.ntmps78
    refine (wpIn_wide (n := 1)).1 ?_
    gi_wp2
    refine HR.out.mono ?_
    rintro e W1 ⟨rfl, hj1, hb1, hz1⟩
    have HJ1 := hide hj1
    have HB1 := hide hb1
    have HZ1 := hide hz1
    clear hj1 hb1 hz1 hy
    gi_wp2
    go_ret
    exact ⟨rfl, by rw [HTK.out, lsP_zero]; exact HJ1.out, HZ1.out, xs, HXL.out, rfl, HB1.out.trans HB.out⟩
  | succ n ih =>
    intro i xs pre W hin hxl hB hj hOk
    have IH := hide ih
    have HJ := hide hJ
    have HRH := hide RH
    have HB := hide hB
    have HJJ := hide hj
    have HXL := hide hxl
    have HOK := hide hOk
    obtain ⟨a, c, rfl, hl, _⟩ := id (hJ.row hj)
    have hne : ((i : Int) == (n0 : Int)) = false := by simp; omega
    have hne2 : ¬ ((i : Int) = (n0 : Int)) := by omega
    have hlen := hl.1
    clear ih hJ RH hB hj hxl hOk hl
    go_enter Try.func78, Try.ntmps78
    go_wp2_with fail
    go_loopw [20] (fun q wr => LsI J B n0 i n L xs pre W q wr) (fun q wr => L.length - (intOf q).toNat)
    case atStart => exact ⟨0, xs, Nat.zero_le _, rfl, by simpa using HJJ.out, Nat.le_refl _, HXL.out, rfl, HB.out⟩
    case round =>
      obtain ⟨k, ys, hk, rfl, hj, hz, hyl, hyt, hB⟩ := hrel
      have HJk := hide hj
      have HZk := hide hz
      have HYL := hide hyl
      have HYT := hide hyt
      have HBk := hide hB
      clear hj hz hyl hyt hB
      by_cases hlt : k < L.length
      · have hki : (k : Int) < (L.length : Int) := by omega
        obtain ⟨b2, o2, rfl, hb2, hc2⟩ := (HJ.out.row HJk.out).at (Below.refl wr.heap.size wr) k hlt
        have hBl := HBk.out.lt
        have hBf := HBk.out.frozen i
        obtain ⟨u, hu⟩ : ∃ u, wr.cell? ⟨B, i, none⟩ = some u := ⟨_, by rw [HBk.out.cell]; simp; exact ⟨ys[i]'(by have := HYL.out; omega), by simp [show i < ys.length by have := HYL.out; omega], rfl⟩⟩
        have hii : (i : Int) < (n0 : Int) := by omega
        unfold stV at hc2
        have HE : Hid (ExQ (fun b => b = B) wr (wr.setCell ⟨B, i, none⟩ (.int .u64 (L[k] : Int)))) := (ExQ.refl (fun b => b = B) wr).set (B := B) rfl _ _
        have HBS : Hid (Blk (wr.setCell ⟨B, i, none⟩ (.int .u64 (L[k] : Int))) B ((ys.set i L[k]).map stV).toArray 61) := blk_setN HBk.out i L[k]
        have HTS : Hid ((ys.set i L[k]).take (i + 1) = xs.take i ++ [L[k]]) := by
          unfold Hid
          rw [List.take_succ_eq_append_getElem (by rw [List.length_set, HYL.out]; omega), List.getElem_set_self, List.take_set_of_le (Nat.le_refl _), HYT.out]
        have HLS : Hid ((ys.set i L[k]).length = n0) := by unfold Hid; rw [List.length_set]; exact HYL.out
        have HPR : Hid (((pre ++ (L.take k).flatMap fun s => lsP L (xs.take i ++ [s]) n) ++ lsP L ((ys.set i L[k]).take (i + 1)) n) <+: all) := by
          unfold Hid
          rw [HTS.out]
          exact flatX_pre hlt pre all (by have := HOK.out; rw [lsP_succ] at this; exact this)
        go_wp2_with fail
        refine (IH.out (i + 1) (ys.set i L[k]) _ _ (by omega) HLS.out HBS.out (HJ.out.abide HJk.out HE.out) HPR.out).mono ?_
        rintro e W5 ⟨rfl, hj5, hz5, zs, hzl, hzt, hb5⟩
        have HJ5 : Hid (J (pre ++ (L.take (k + 1)).flatMap fun s => lsP L (xs.take i ++ [s]) n) W5) := by
          unfold Hid
          rw [flatX_take hlt, ← List.append_assoc, ← HTS.out]
          exact hj5
        have HZ5 : Hid (W.heap.size ≤ W5.heap.size) := by have h1 := HZk.out; have h2 := HE.out.size; unfold Hid; omega
        have HZT : Hid (zs.take i = xs.take i) := by
          have h := congrArg (List.take i) hzt
          rw [List.take_take, List.take_take, Nat.min_eq_left (Nat.le_succ i), List.take_set_of_le (Nat.le_refl _)] at h
          exact h.trans HYT.out
        have HZL := hide hzl
        have HB5 := hide hb5
        clear hj5 hz5 hzl hzt hb5 hu hBf hBl hc2
        go_wp2_with fail
        go_roundw
        case rel => exact ⟨k + 1, zs, by omega, by go_num, HJ5.out, HZ5.out, HZL.out, HZT.out, HB5.out⟩
        case measure => simp [intOf]; omega
      · have hki : ¬ (k : Int) < (L.length : Int) := by omega
        have htk : L.take k = L := List.take_of_length_le (by omega)
        have HTK := hide htk
        clear htk
        go_wp2_with fail
        go_ret
        exact ⟨rfl, by rw [lsP_succ]; have := HJk.out; rw [HTK.out] at this; exact this, HZk.out, ys, HYL.out, HYT.out, HBk.out⟩

theorem infoSetX : (Try.prog.info? 61).map (fun i => (i.zero, i.size, i.bytes)) = some (some (.int .u64 0), 1, 8) := by kernel_rfl
theorem make_setsX (n : Nat) (hn : n ≤ 1000000) (w : World) : (Instr.makeSlice 63 (.int .i64 (n : Int)) (.int .i64 (n : Int))).run Try.prog w = .ok (.slice (some ⟨w.heap.size, 0, none⟩) n n) (w.alloc (.cells ((List.replicate n 0).map stV).toArray 61)) := by
  obtain ⟨i0, hi, hz0, hz1, hz2⟩ := info_parts infoSetX
  have hr := run_make (P := Try.prog) w 63 61 i0 _ Try.underlying63 hi hz0 .i64 .i64 n n (by omega) (by omega) (by rw [hz2]; omega) (by omega)
  have h2 : madeCells (Value.int .u64 0).cells n = ((List.replicate n 0).map stV).toArray := by
    have h3 := toList_madeCells_one (.int .u64 0) n
    apply Array.ext'
    rw [List.toList_toArray, List.map_replicate]
    rw [show stV 0 = Value.int .u64 0 from rfl, ← h3]
    rfl
  rw [hz1, Nat.mul_one] at hr
  simp only [Int.toNat_natCast] at hr
  rw [h2] at hr
  exact hr
theorem lists_any (ov nv : Value) (w : World) (ho : ∃ a l c, ov = .slice a l c) (n0 : Nat) (hn : nv = .int .i64 (n0 : Int)) :
    Calls Try.prog 58 #[ov, nv] w fun e w' => e = .returned (.func (.func 77) #[] #[.pointer (some ⟨w.heap.size, 0, none⟩), .pointer (some ⟨w.heap.size + 1, 0, none⟩)]) ∧ w' = (w.alloc (.cells #[ov] 63)).alloc (.cells #[nv] 3) := by
  obtain ⟨a, l, c, rfl⟩ := ho
  subst hn
  have hmf : ∀ (fn : Fn) (first cap : Array Value) (w : World), (Instr.makeFunc fn first cap).run Try.prog w = .ok (.func fn first cap) w := fun _ _ _ _ => rfl
  go_enter Try.func58, Try.ntmps58
  go_wp2_with fail
  go_ret
  exact ⟨rfl, rfl⟩

set_option maxHeartbeats 2000000 in
/-- The closure: all lists are handed over. -/
theorem lists1_any {J : List (List Nat) → World → Prop} {lp B n0 : Nat} {ov : Value} {L : List Nat} (hn0 : n0 ≤ 1000000) (hJ : KpL J B ov L) (RH : RndL lp B n0 J (lsN L n0)) (B1 B2 : Nat) (W : World) (hBW : B = W.heap.size) (hj : J [] W)
    (hbx : ∀ {pre W'}, J pre W' → Blk W' B1 #[ov] 63 ∧ Blk W' B2 #[.int .i64 (n0 : Int)] 3) :
    Calls Try.prog 77 #[.func (.yield lp) #[] #[], .pointer (some ⟨B1, 0, none⟩), .pointer (some ⟨B2, 0, none⟩)] W fun e W' => (∃ v, e = .returned v) ∧ J (lsN L n0) W' := by
  obtain ⟨a, c, rfl, hl, _⟩ := id (hJ.row hj)
  obtain ⟨Z, hZ⟩ : ∃ Z, Z = ((List.replicate n0 0).map stV).toArray := ⟨_, rfl⟩
  have hmk : ∀ w : World, (Instr.makeSlice 63 (.int .i64 (n0 : Int)) (.int .i64 (n0 : Int))).run Try.prog w = .ok (.slice (some ⟨w.heap.size, 0, none⟩) n0 n0) (w.alloc (.cells Z 61)) := by rw [hZ]; exact make_setsX n0 hn0
  have HJ := hide hJ
  have HRH := hide RH
  have HBX : Hid (∀ pre W', J pre W' → Blk W' B1 #[.slice a L.length c] 63 ∧ Blk W' B2 #[.int .i64 (n0 : Int)] 3) := fun pre W' h => hbx h
  have HJJ := hide hj
  have hlen := hl.1
  clear hJ RH hbx hj hl
  subst hBW
  have HJD : Hid (J [] W.drew) := HJ.out.abide HJJ.out (ExQ.refl _ _).drew
  have HJA : Hid (J [] (W.drew.alloc (.cells Z 61))) := HJ.out.abide HJJ.out ((ExQ.refl _ _).drew.alloc _)
  have HBA : Hid (Blk (W.drew.alloc (.cells Z 61)) W.heap.size ((List.replicate n0 0).map stV).toArray 61) := by rw [← hZ]; exact Blk.new W.drew _ _
  have hzd : W.drew.heap.size = W.heap.size := rfl
  clear hZ
  have CS : Hid (∀ pre w', J pre w' → w'.cell? ⟨B1, 0, none⟩ = some (.slice a L.length c) ∧ w'.cell? ⟨B2, 0, none⟩ = some (.int .i64 (n0 : Int))) := fun pre w' h => ⟨(HBX.out pre w' h).1.cell 0, (HBX.out pre w' h).2.cell 0⟩
  go_enter Try.func77, Try.ntmps77
  go_upto_region 0 with fail
  refine wp_region_held_drew (S := fun w' => w'.cell? ⟨B1, 0, none⟩ = some (.slice a L.length c) ∧ w'.cell? ⟨B2, 0, none⟩ = some (.int .i64 (n0 : Int))) (by kernel_rfl) (CS.out _ _ HJD.out) (fun hHeld => ?_)
  generalize W.drew = Wd at *
  refine wpAnyH_take (i := 0) (v := ?_) rfl (by kernel_rfl) (by kernel_rfl) (by kernel_rfl) (fun _ _ _ h => h) (Or.inl ⟨by rfl, ?_⟩) (by assumption) ?_
  rotate_left
  · intro w' hSw
    obtain ⟨x0, x1⟩ := hSw
    go_simp <;> with_reducible rfl
  try simp only [Act.put, List.setIfInBounds_toArray, List.set_cons_zero, List.set_cons_succ, List.getElem_toArray, List.getElem_cons_succ, List.getElem_cons_zero]
  refine wpAnyH_take (i := 1) (v := ?_) rfl (by kernel_rfl) (by kernel_rfl) (by kernel_rfl) (fun _ _ _ h => h) (Or.inl ⟨by rfl, ?_⟩) (by assumption) ?_
  rotate_left
  · intro w' hSw
    obtain ⟨x0, x1⟩ := hSw
    go_simp <;> with_reducible rfl
  try simp only [Act.put, List.setIfInBounds_toArray, List.set_cons_zero, List.set_cons_succ, List.getElem_toArray, List.getElem_cons_succ, List.getElem_cons_zero]
  refine wpAnyH_take (i := 3) (v := ?_) rfl (by kernel_rfl) (by kernel_rfl) (by kernel_rfl) (fun _ _ _ h => h) (Or.inl ⟨by rfl, ?_⟩) (by assumption) ?_
  rotate_left
  · intro w' hSw
    go_simp <;> with_reducible rfl
  try simp only [Act.put, List.setIfInBounds_toArray, List.set_cons_zero, List.set_cons_succ, List.getElem_toArray, List.getElem_cons_succ, List.getElem_cons_zero]
  refine wpAnyH_ready (rs := [2]) (by kernel_rfl) (by simp) ?_
  refine AllReadyH.cons rfl (fun K hK => ?_) AllReadyH.nil
  go_simp
  refine hK.out _ _ (by exact CS.out _ _ HJA.out) (fun hHeld => ?_)
  clear hK K
  try simp only [Act.put, List.setIfInBounds_toArray, List.set_cons_zero, List.set_cons_succ, List.getElem_toArray, List.getElem_cons_succ, List.getElem_cons_zero]
  refine wpAnyH_ready (rs := [4]) (by kernel_rfl) (by simp) ?_
  refine AllReadyH.cons rfl (fun K hK => ?_) AllReadyH.nil
  go_simp
  go_at_call 78
  refine (listsOn_any hn0 HJ.out HRH.out n0 0 (List.replicate n0 0) [] _ (by omega) (by simp) HBA.out HJA.out (by rw [List.take_zero, lsP_nil, List.nil_append]; exact List.prefix_refl _)).mono ?_
  rintro e W5 ⟨rfl, hj5, hz5, zs, hzl, hzt, hb5⟩
  rw [List.take_zero, lsP_nil, List.nil_append] at hj5
  have HJ5 := hide hj5
  clear hj5 hz5 hzl hzt hb5
  go_simp
  refine hK.out _ _ (by exact CS.out _ _ HJ5.out) (fun hHeld => ?_)
  clear hK K
  try simp only [Act.put, List.setIfInBounds_toArray, List.set_cons_zero, List.set_cons_succ, List.getElem_toArray, List.getElem_cons_succ, List.getElem_cons_zero]
  refine wpAnyH_done (by kernel_rfl) ?_ _
  go_wp2_with fail
  go_end0
  exact ⟨⟨_, rfl⟩, HJ5.out⟩
end Go.Proofs.Ytfodgmnnjgcpgaa
