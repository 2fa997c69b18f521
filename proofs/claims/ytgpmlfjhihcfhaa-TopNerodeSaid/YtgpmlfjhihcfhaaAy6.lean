/- The law TopNerode, if AutoFrom is as it is said to be. -/
import Derived.Test.YtgpmlfjhihcfhaaAy5
import Derived.Test.YtgpmlfjhihcfhaaZJTopNerodeOwn
import Derived.Test.YtgpmlfjhihcfhaaAx6
namespace Go.Proofs.Ytgpmlfjhihcfhaa
open Go.RowKit
set_option linter.unusedSimpArgs false
set_option linter.unusedVariables false
set_option maxRecDepth 8000

/-- What AutoFrom gives. -/
def AfN (n : Nat) (w : World) (e : Ending) (w' : World) : Prop := ∃ (v : Value) (A : Au), e = .returned v ∧ AV w' (fun _ => True) v A ∧ OkAu 8 40 A ∧ A.st = (n : Int) ∧ fewM A.mv = true ∧ A.la.length ≤ 8 ∧ Below w.heap.size w w'
theorem rvM_take {k : Int} {l : List Mv} {j : Nat} (h : j < l.length) : (l.take (j + 1)).map (rvM k) = (l.take j).map (rvM k) ++ [rvM k l[j]] := by
  rw [List.take_succ_eq_append_getElem h, List.map_append]; rfl
theorem subI_take {k : Int} {l : List Int} {j : Nat} (h : j < l.length) : (l.take (j + 1)).map (k - ·) = (l.take j).map (k - ·) ++ [k - l[j]] := by
  rw [List.take_succ_eq_append_getElem h, List.map_append]; rfl
/-- What holds at each round's head: moves, what a move comes from, last states. -/
def N1I (A : Au) (n : Int) (wN : World) (O : Nat) (i : Value) (wr : World) : Prop := ∃ (j : Nat) (mv lv : Value) (xs : List Value) (X : Nat → Prop), j ≤ A.mv.length ∧ i = .int .i64 (j : Int) ∧ OutA wr wN.heap.size O (n + 1) ((A.mv.take j).map (rvM n)) [] mv lv xs X ∧ Ex O wN wr
def N2I (m : Mv) (n : Int) (w5 : World) (Q N2 : Nat) (i : Value) (wr : World) : Prop := ∃ (j : Nat) (fv : Value), j ≤ m.frm.length ∧ i = .int .i64 (j : Int) ∧ Blk wr Q #[.string m.name, fv, .int .i64 (n - m.to)] 29 ∧ wr.ownsRow N2 3 1 fv ((m.frm.take j).map (n - ·)).length (((m.frm.take j).map (n - ·)).map fun z => .int .i64 z) ∧ N2 ≤ wr.heap.size ∧ Below w5.heap.size w5 wr
def N3I (A : Au) (n : Int) (wN : World) (O : Nat) (i : Value) (wr : World) : Prop := ∃ (j : Nat) (mv lv : Value) (xs : List Value) (X : Nat → Prop), j ≤ A.la.length ∧ i = .int .i64 (j : Int) ∧ OutA wr wN.heap.size O (n + 1) (A.mv.map (rvM n)) ((A.la.take j).map (n - ·)) mv lv xs X ∧ Ex O wN wr
theorem least_good {A : Au} {n : Nat} (hn : A.st = (n : Int)) {w w' : World} {e : Ending} (h : LeP A w e w') (h0 : fewL [A] = 0) : ∃ (N : Nat) (all : List Nat), e = .returned (.tuple #[.int .i64 (N : Int), .int .i64 0]) ∧ EndsOk A.mv n all ∧ N = cntK (alkS A.mv (setN A.la) all) all ∧ Below w.heap.size w w' := by
  obtain ⟨N, he, _, h2, hb⟩ := h
  obtain ⟨all, h3, _, h4⟩ := h2 h0 n hn
  rw [h0] at he
  exact ⟨N, all, he, h3, h4, hb⟩
theorem few_one {A : Au} (hA : OkAu 8 40 A) (sA : smB A = true) : fewL [A] = 0 := by
  unfold fewL
  rw [if_pos (eachL_ok (by simp [auE_zero.2 hA])), if_pos (by simp [sA])]
theorem oneN_av (w : World) : AV (((w.alloc (.cells #[.int .i64 0] 3)).alloc (.cells #[.string ⟨#[97]⟩, .slice none 0 0, .int .i64 0, .string ⟨#[104]⟩, .slice (some ⟨w.heap.size, 0, none⟩) 1 1, .int .i64 0] 29)).alloc (.cells #[.int .i64 0] 3)) (fun _ => True) (.agg #[.int .i64 1, .slice (some ⟨w.heap.size + 1, 0, none⟩) 2 2, .slice (some ⟨w.heap.size + 2, 0, none⟩) 1 1]) oneN := by
  have hA := allocsX_facts [(.cells #[.int .i64 0] 3 : Obj), (.cells #[.string ⟨#[97]⟩, .slice none 0 0, .int .i64 0, .string ⟨#[104]⟩, .slice (some ⟨w.heap.size, 0, none⟩) 1 1, .int .i64 0] 29 : Obj), (.cells #[.int .i64 0] 3 : Obj)] w
  have h0 : Blk (((w.alloc (.cells #[.int .i64 0] 3)).alloc (.cells #[.string ⟨#[97]⟩, .slice none 0 0, .int .i64 0, .string ⟨#[104]⟩, .slice (some ⟨w.heap.size, 0, none⟩) 1 1, .int .i64 0] 29)).alloc (.cells #[.int .i64 0] 3)) w.heap.size #[.int .i64 0] 3 := hA.2.2 0 _ rfl
  have h1 : Blk (((w.alloc (.cells #[.int .i64 0] 3)).alloc (.cells #[.string ⟨#[97]⟩, .slice none 0 0, .int .i64 0, .string ⟨#[104]⟩, .slice (some ⟨w.heap.size, 0, none⟩) 1 1, .int .i64 0] 29)).alloc (.cells #[.int .i64 0] 3)) (w.heap.size + 1) #[.string ⟨#[97]⟩, .slice none 0 0, .int .i64 0, .string ⟨#[104]⟩, .slice (some ⟨w.heap.size, 0, none⟩) 1 1, .int .i64 0] 29 := hA.2.2 1 _ rfl
  have h2 : Blk (((w.alloc (.cells #[.int .i64 0] 3)).alloc (.cells #[.string ⟨#[97]⟩, .slice none 0 0, .int .i64 0, .string ⟨#[104]⟩, .slice (some ⟨w.heap.size, 0, none⟩) 1 1, .int .i64 0] 29)).alloc (.cells #[.int .i64 0] 3)) (w.heap.size + 2) #[.int .i64 0] 3 := hA.2.2 2 _ rfl
  refine ⟨_, _, _, _, rfl, ⟨by simp [oneN], Or.inr ⟨_, _, rfl, trivial, fun i hi => ?_⟩⟩, ⟨_, _, rfl, by simp [oneN], Or.inr ⟨_, _, rfl, trivial, fun i hi => ?_⟩⟩⟩
  · match i, hi with
    | 0, _ => exact ⟨h1.cell 0, ⟨none, 0, h1.cell 1, ⟨none, 0, rfl, by simp [oneN], Or.inl rfl⟩⟩, h1.cell 2⟩
    | 1, _ =>
      refine ⟨h1.cell 3, ⟨_, _, h1.cell 4, ⟨_, _, rfl, by simp [oneN], Or.inr ⟨_, _, rfl, trivial, fun k hk => ?_⟩⟩⟩, h1.cell 5⟩
      have : k = 0 := by simp [oneN] at hk; omega
      subst this
      exact h0.cell 0
  · have : i = 0 := by simp [oneN] at hi; omega
    subst this
    exact h2.cell 0
theorem oneN_small : smB oneN = true := by decide

set_option maxHeartbeats 20000000 in
theorem topNerode_from (zs : List Int) (hr : ∀ z ∈ zs, Rng z) (y1 y2 : Int) (hy1 : Rng y1) (hy2 : Rng y2) (u : Value) (w : World) (X : Nat → Prop) (hu : PV w X u zs)
    (AF : Hid (zs.length ≤ 256 → ∀ (a_ n m : Nat) (w' : World), a_ ≤ 100 → 1 ≤ n → n ≤ 4 → m < 12 → Below w.heap.size w w' → Calls Try.prog 5 #[u, .int .i64 (a_ : Int), .int .i64 (n : Int), .int .i64 (m : Int)] w' fun e w'' => AfN n w' e w'')) :
    Calls Try.prog 3 #[u, .int .i64 y1, .int .i64 y2] w fun e w' => e = .returned (.bool true) ∧ Below w.heap.size w w' := by
  have HU := hide hu
  obtain ⟨au, cu, rfl, hlc, hu2⟩ := hu
  clear hu2
  by_cases h256 : 256 < zs.length
  · go_enter Try.func3, Try.ntmps3
    go_wp2_with fail
    go_ret
    exact ⟨rfl, Below.refl _ _⟩
  go_enter Try.func3, Try.ntmps3
  go_wp2_with fail
  refine (pick_any _ 2 (by decide) (by decide) hy1 _).mono ?_
  rintro e w2 ⟨k, rfl, hk, hw2⟩
  rw [hw2]
  clear hw2 w2
  go_upto_region 4 with fail
  obtain ⟨n, hn⟩ : ∃ n, n = 1 + k := ⟨_, rfl⟩
  have en : (1 + (k : Int)) = (n : Int) := by omega
  rw [en]
  have hn3 : 1 ≤ n ∧ n ≤ 2 := by omega
  clear en hn hk
  go_wp2_with fail
  refine (pick_any _ 9 (by decide) (by decide) hy2 _).mono ?_
  rintro e w2 ⟨m, rfl, hm, hw2⟩
  rw [hw2]
  clear hw2 w2
  go_wp2_with fail
  refine (AF.out (by omega) 0 n m _ (by omega) (by omega) (by omega) (by omega) (Below.refl _ _)).mono ?_
  rintro e w2 ⟨v, A, rfl, hav, hok, hst, hfw, hlal, hb2⟩
  have OA := hide hok
  have HST := hide hst
  have SA : Hid (smB A = true) := by unfold Hid smB; rw [hfw, decide_eq_true (by omega)]; rfl
  have SB : Hid (smB (rvA n A) = true) := by
    unfold Hid smB
    rw [decide_eq_true (show (rvA n A).st ≤ 3 by show (n : Int) + 1 ≤ 3; omega), Bool.true_and]
    refine List.all_eq_true.2 fun m hm => ?_
    obtain ⟨m', hm', rfl⟩ := List.mem_map.1 (show m ∈ A.mv.map (rvM n) from hm)
    have := List.all_eq_true.1 hfw m' hm'
    simpa [rvM] using this
  have OB := hide (ok_rv hok hst (by omega))
  have AV2 := hide (hav.mono (Y := fun b => b < w2.heap.size) fun _ _ h => h)
  obtain ⟨am, an, al, ao, rfl, -, -⟩ := hav
  have K0 : Hid (EvS (fun wr => Below w.heap.size w wr ∧ Blk wr w2.heap.size #[.int .i64 A.st, .slice am A.mv.length an, .slice al A.la.length ao] 26 ∧ AV wr (fun b => b < w2.heap.size) (.agg #[.int .i64 A.st, .slice am A.mv.length an, .slice al A.la.length ao]) A) (w2.alloc (.cells #[.int .i64 A.st, .slice am A.mv.length an, .slice al A.la.length ao] 26))) := EvS.boxA (evS_below (Below.refl _ _)) hb2 AV2.out
  have hml := OA.out.len
  have HLAL : Hid (A.la.length ≤ 1000) := by unfold Hid; omega
  have hfwk := hfw
  clear hok hst hfw hb2 AV2 hm AF hfwk hlal
  go_upto_region 5 with fail
  generalize w2.heap.size = PA at *
  generalize w2.alloc (.cells #[.int .i64 A.st, .slice am A.mv.length an, .slice al A.la.length ao] 26) = w3 at *
  clear w2
  have K1 : Hid (EvS (fun wr => Below w.heap.size w wr ∧ Blk wr PA #[.int .i64 A.st, .slice am A.mv.length an, .slice al A.la.length ao] 26 ∧ AV wr (fun b => b < PA) (.agg #[.int .i64 A.st, .slice am A.mv.length an, .slice al A.la.length ao]) A) (w3.alloc (.cells #[.int .i64 ((n : Int) + 1), .slice none 0 0, .slice none 0 0] 26))) := K0.out.alloc _
  have O1 : Hid (OutA (w3.alloc (.cells #[.int .i64 ((n : Int) + 1), .slice none 0 0, .slice none 0 0] 26)) (w3.alloc (.cells #[.int .i64 ((n : Int) + 1), .slice none 0 0, .slice none 0 0] 26)).heap.size w3.heap.size ((n : Int) + 1) [] [] (.slice none 0 0) (.slice none 0 0) [] (fun _ => False)) := OutA.start (Blk.new _ _ _)
  have HPO : Hid (PA < w3.heap.size) := K0.out.now.2.1.lt
  go_upto_region 6 with fail
  generalize hOO : w3.heap.size = O at *
  generalize w3.alloc (.cells #[.int .i64 ((n : Int) + 1), .slice none 0 0, .slice none 0 0] 26) = wN at *
  have HWO : Hid (w.heap.size ≤ O) := by have := K0.out.now.1.size; unfold Hid; omega
  have HON : Hid (O < wN.heap.size) := O1.out.blk.lt
  clear K0 hOO w3
  have HAM : Hid (∀ wr, Ex O wN wr → (wr.cell? ⟨PA, 1, none⟩ = some (.slice am A.mv.length an) ∧ wr.cell? ⟨PA, 2, none⟩ = some (.slice al A.la.length ao)) ∧ SlV wr (fun b => b ≠ O) am A.mv ∧ PV wr (fun b => b ≠ O) (.slice al A.la.length ao) A.la) := fun wr hx => by
    obtain ⟨_, h1, ⟨a1, a2, a3, a4, e, h2, h3⟩⟩ := K1.out.now
    simp at e
    obtain ⟨⟨rfl, rfl⟩, rfl, rfl⟩ := e
    have hB := h1.ex hx (by have := HPO.out; omega)
    exact ⟨⟨hB.cell 1, hB.cell 2⟩, (slV_monoX (h2.ex hx (fun b hb => by have := HPO.out; omega)) fun b hb _ => by have := HPO.out; omega), (h3.ex hx (fun b hb => by have := HPO.out; omega)).mono fun b hb _ => by have := HPO.out; omega⟩
  go_wp2_with fail
  go_loopw [10] (fun i wr => N1I A n wN O i wr) (fun i wr => A.mv.length - (intOf i).toNat)
  case atStart => exact ⟨0, _, _, [], _, Nat.zero_le _, rfl, by simpa using O1.out, Ex.refl _ _⟩
  case round =>
    obtain ⟨j, mv, lv, xs, X', hj, rfl, ho, he⟩ := hrel
    obtain ⟨w2, rfl⟩ : ∃ w2, w2 = wr := ⟨_, rfl⟩
    have HO := hide ho
    have HE := hide he
    have hOl2 := ho.blk.lt
    have HN2 := hide he.size
    obtain ⟨⟨p1, p2⟩, hsl, hpl⟩ := HAM.out w2 he
    have HSL := hide hsl
    have HPL := hide hpl
    have hml2 := hsl.1
    by_cases hlt : j < A.mv.length
    · have hji : (j : Int) < (A.mv.length : Int) := by omega
      obtain ⟨b, o, af, cf, rfl, hbl, d0, d1, d2, hpf⟩ := hsl.get (Below.refl w2.heap.size w2) j hlt
      obtain ⟨m, hm⟩ : ∃ m, m = A.mv[j] := ⟨_, rfl⟩
      have HMJ := hide hm
      have HOM : Hid (OkMv A.st m) := by unfold Hid; rw [hm]; exact OA.out.mv _ (List.getElem_mem hlt)
      rw [← hm] at d0 d1 d2 hpf
      have HPF := hide hpf
      have hto := HOM.out.to
      have hst := HST.out
      have hwt : IntKind.i64.wrap ((n : Int) - m.to) = (n : Int) - m.to := by rw [IntKind.wrap_i64]; omega
      have hfl := HOM.out.len
      have KP : Hid (∀ w', Below w2.heap.size w2 w' → w'.cell? ⟨PA, 1, none⟩ = some (.slice (some ⟨b, o, none⟩) A.mv.length an) ∧ w'.cell? ⟨b, o + j * 3, none⟩ = some (.string m.name) ∧ w'.cell? ⟨b, o + j * 3 + 1, none⟩ = some (.slice af m.frm.length cf) ∧ w'.cell? ⟨b, o + j * 3 + 2, none⟩ = some (.int .i64 m.to)) := fun w' hb =>
        ⟨(hb.cell (p := ⟨PA, 1, none⟩) (cell_ltA p1)).trans p1, (hb.cell (p := ⟨b, o + j * 3, none⟩) (cell_ltA d0)).trans d0, (hb.cell (p := ⟨b, o + j * 3 + 1, none⟩) (cell_ltA d1)).trans d1, (hb.cell (p := ⟨b, o + j * 3 + 2, none⟩) (cell_ltA d2)).trans d2⟩
      have kd : Below w2.heap.size w2 w2.drew := (Below.refl _ _).drew
      have ka : ∀ ob, Below w2.heap.size w2 (w2.drew.alloc ob) := fun ob => kd.alloc (Nat.le_refl _) ob
      clear hm ho he hpf hsl hpl hto d0 d1 d2 p2 hst
      go_upto_region 9 with fail
      clear p1
      refine wp_region_held_drew (S := Below w2.heap.size w2) (by kernel_rfl) kd (fun hHeld => ?_)
      refine wpAnyH_take (i := 0) (v := ?_) rfl (by kernel_rfl) (by kernel_rfl) (by kernel_rfl) (fun _ _ _ h => h) (Or.inl ⟨by rfl, ?_⟩) (by assumption) ?_
      rotate_left
      · intro w' hSw
        go_simp <;> with_reducible rfl
      try simp only [Act.put, List.setIfInBounds_toArray, List.set_cons_zero, List.set_cons_succ, List.getElem_toArray, List.getElem_cons_succ, List.getElem_cons_zero]
      refine wpAnyH_take (i := 1) (v := ?_) rfl (by kernel_rfl) (by kernel_rfl) (by kernel_rfl) (fun _ _ _ h => h) (Or.inl ⟨by rfl, ?_⟩) (by assumption) ?_
      rotate_left
      · intro w' hSw
        obtain ⟨x0, x1, x2, x3⟩ := KP.out w' hSw
        go_simp <;> with_reducible rfl
      try simp only [Act.put, List.setIfInBounds_toArray, List.set_cons_zero, List.set_cons_succ, List.getElem_toArray, List.getElem_cons_succ, List.getElem_cons_zero]
      refine wpAnyH_take (i := 2) (v := ?_) rfl (by kernel_rfl) (by kernel_rfl) (by kernel_rfl) (fun _ _ _ h => h) (Or.inl ⟨by rfl, ?_⟩) (by assumption) ?_
      rotate_left
      · intro w' hSw
        go_simp <;> with_reducible rfl
      try simp only [Act.put, List.setIfInBounds_toArray, List.set_cons_zero, List.set_cons_succ, List.getElem_toArray, List.getElem_cons_succ, List.getElem_cons_zero]
      refine wpAnyH_take (i := 3) (v := ?_) rfl (by kernel_rfl) (by kernel_rfl) (by kernel_rfl) (fun _ _ _ h => h) (Or.inl ⟨by rfl, ?_⟩) (by assumption) ?_
      rotate_left
      · intro w' hSw
        obtain ⟨x0, x1, x2, x3⟩ := KP.out w' hSw
        go_simp <;> with_reducible rfl
      try simp only [Act.put, List.setIfInBounds_toArray, List.set_cons_zero, List.set_cons_succ, List.getElem_toArray, List.getElem_cons_succ, List.getElem_cons_zero]
      refine wpAnyH_take (i := 4) (v := ?_) rfl (by kernel_rfl) (by kernel_rfl) (by kernel_rfl) (fun _ _ _ h => h) (Or.inl ⟨by rfl, ?_⟩) (by assumption) ?_
      rotate_left
      · intro w' hSw
        go_simp <;> with_reducible rfl
      try simp only [Act.put, List.setIfInBounds_toArray, List.set_cons_zero, List.set_cons_succ, List.getElem_toArray, List.getElem_cons_succ, List.getElem_cons_zero]
      refine wpAnyH_take (i := 5) (v := ?_) rfl (by kernel_rfl) (by kernel_rfl) (by kernel_rfl) (fun _ _ _ h => h) (Or.inl ⟨by rfl, ?_⟩) (by assumption) ?_
      rotate_left
      · intro w' hSw
        obtain ⟨x0, x1, x2, x3⟩ := KP.out w' hSw
        go_simp <;> with_reducible rfl
      try simp only [Act.put, List.setIfInBounds_toArray, List.set_cons_zero, List.set_cons_succ, List.getElem_toArray, List.getElem_cons_succ, List.getElem_cons_zero]
      refine wpAnyH_take (i := 6) (v := ?_) rfl (by kernel_rfl) (by kernel_rfl) (by kernel_rfl) (fun _ _ _ h => h) (Or.inl ⟨by rfl, ?_⟩) (by assumption) ?_
      rotate_left
      · intro w' hSw
        go_simp <;> with_reducible rfl
      try simp only [Act.put, List.setIfInBounds_toArray, List.set_cons_zero, List.set_cons_succ, List.getElem_toArray, List.getElem_cons_succ, List.getElem_cons_zero]
      refine wpAnyH_take (i := 7) (v := ?_) rfl (by kernel_rfl) (by kernel_rfl) (by kernel_rfl) (fun _ _ _ h => h) (Or.inl ⟨by rfl, ?_⟩) (by assumption) ?_
      rotate_left
      · intro w' hSw
        go_simp <;> with_reducible rfl
      try simp only [Act.put, List.setIfInBounds_toArray, List.set_cons_zero, List.set_cons_succ, List.getElem_toArray, List.getElem_cons_succ, List.getElem_cons_zero]
      refine wpAnyH_take (i := 8) (v := ?_) rfl (by kernel_rfl) (by kernel_rfl) (by kernel_rfl) (fun _ _ _ h => h) (Or.inl ⟨by rfl, ?_⟩) (by assumption) ?_
      rotate_left
      · intro w' hSw
        obtain ⟨x0, x1, x2, x3⟩ := KP.out w' hSw
        go_simp <;> with_reducible rfl
      try simp only [Act.put, List.setIfInBounds_toArray, List.set_cons_zero, List.set_cons_succ, List.getElem_toArray, List.getElem_cons_succ, List.getElem_cons_zero]
      refine wpAnyH_take (i := 9) (v := ?_) rfl (by kernel_rfl) (by kernel_rfl) (by kernel_rfl) (fun _ _ _ h => h) (Or.inl ⟨by rfl, ?_⟩) (by assumption) ?_
      rotate_left
      · intro w' hSw
        go_simp <;> with_reducible rfl
      try simp only [Act.put, List.setIfInBounds_toArray, List.set_cons_zero, List.set_cons_succ, List.getElem_toArray, List.getElem_cons_succ, List.getElem_cons_zero]
      refine wpAnyH_take (i := 10) (v := ?_) rfl (by kernel_rfl) (by kernel_rfl) (by kernel_rfl) (fun _ _ _ h => h) (Or.inl ⟨by rfl, ?_⟩) (by assumption) ?_
      rotate_left
      · intro w' hSw
        obtain ⟨x0, x1, x2, x3⟩ := KP.out w' hSw
        go_simp <;> with_reducible rfl
      try simp only [Act.put, List.setIfInBounds_toArray, List.set_cons_zero, List.set_cons_succ, List.getElem_toArray, List.getElem_cons_succ, List.getElem_cons_zero]
      refine wpAnyH_take (i := 11) (v := ?_) rfl (by kernel_rfl) (by kernel_rfl) (by kernel_rfl) (fun _ _ _ h => h) (Or.inl ⟨by rfl, ?_⟩) (by assumption) ?_
      rotate_left
      · intro w' hSw
        go_simp <;> with_reducible rfl
      try simp only [Act.put, List.setIfInBounds_toArray, List.set_cons_zero, List.set_cons_succ, List.getElem_toArray, List.getElem_cons_succ, List.getElem_cons_zero]
      refine wpAnyH_take (i := 12) (v := ?_) rfl (by kernel_rfl) (by kernel_rfl) (by kernel_rfl) (fun _ _ _ h => h) (Or.inl ⟨by rfl, ?_⟩) (by assumption) ?_
      rotate_left
      · intro w' hSw
        obtain ⟨x0, x1, x2, x3⟩ := KP.out w' hSw
        go_simp <;> with_reducible rfl
      try simp only [Act.put, List.setIfInBounds_toArray, List.set_cons_zero, List.set_cons_succ, List.getElem_toArray, List.getElem_cons_succ, List.getElem_cons_zero]
      refine wpAnyH_take (i := 13) (v := ?_) rfl (by kernel_rfl) (by kernel_rfl) (by kernel_rfl) (fun _ _ _ h => h) (Or.inl ⟨by rfl, ?_⟩) (by assumption) ?_
      rotate_left
      · intro w' hSw
        go_simp <;> with_reducible rfl
      try simp only [Act.put, List.setIfInBounds_toArray, List.set_cons_zero, List.set_cons_succ, List.getElem_toArray, List.getElem_cons_succ, List.getElem_cons_zero]
      refine wpAnyH_take (i := 14) (v := ?_) rfl (by kernel_rfl) (by kernel_rfl) (by kernel_rfl) (fun _ _ _ h => h) (Or.inl ⟨by rfl, ?_⟩) (by assumption) ?_
      rotate_left
      · intro w' hSw
        go_simp <;> with_reducible rfl
      try simp only [Act.put, List.setIfInBounds_toArray, List.set_cons_zero, List.set_cons_succ, List.getElem_toArray, List.getElem_cons_succ, List.getElem_cons_zero]
      refine wpAnyH_ready (rs := [15]) (by kernel_rfl) (by simp) ?_
      refine AllReadyH.cons rfl (fun K hK => ?_) AllReadyH.nil
      go_simp
      refine hK.out _ _ (by exact ka _) (fun hHeld => ?_)
      clear hK K
      try simp only [Act.put, List.setIfInBounds_toArray, List.set_cons_zero, List.set_cons_succ, List.getElem_toArray, List.getElem_cons_succ, List.getElem_cons_zero]
      refine wpAnyH_ready (rs := [16]) (by kernel_rfl) (by simp) ?_
      refine AllReadyH.cons rfl (fun K hK => ?_) AllReadyH.nil
      go_simp
      refine hK.out _ _ (by exact by exact ka _) (fun hHeld => ?_)
      clear hK K
      try simp only [Act.put, List.setIfInBounds_toArray, List.set_cons_zero, List.set_cons_succ, List.getElem_toArray, List.getElem_cons_succ, List.getElem_cons_zero]
      refine wpAnyH_done (by kernel_rfl) ?_ _
      have BW : Hid (Below w2.heap.size w2 (w2.alloc (.cells #[.string m.name, .slice none 0 0, .int .i64 ((n : Int) - m.to)] 29)).drew) := ka _
      have V5 : Hid (Blk (w2.alloc (.cells #[.string m.name, .slice none 0 0, .int .i64 ((n : Int) - m.to)] 29)).drew w2.heap.size #[.string m.name, .slice none 0 0, .int .i64 ((n : Int) - m.to)] 29) := Blk.new w2 _ _
      generalize (w2.alloc (.cells #[.string m.name, .slice none 0 0, .int .i64 ((n : Int) - m.to)] 29)).drew = w5 at *
      obtain ⟨Q, hQ⟩ : ∃ Q, Q = w2.heap.size := ⟨_, rfl⟩
      rw [← hQ]
      rw [← hQ] at V5
      have HQ := hide hQ
      have HQ5 := hide V5.out.lt
      clear hQ kd ka hHeld
      go_wp2_with fail
      go_loopw [12] (fun i wr => N2I m n w2 Q w5.heap.size i wr) (fun i wr => m.frm.length - (intOf i).toNat)
      case atStart => exact ⟨0, .slice none 0 0, Nat.zero_le _, rfl, V5.out, World.ownsRow_nil _ _ _ _, Nat.le_refl _, BW.out⟩
      case round =>
        obtain ⟨j2, fv, hj2, rfl, hq, hown, hn6, hb6⟩ := hrel
        obtain ⟨w6, rfl⟩ : ∃ w6, w6 = wr := ⟨_, rfl⟩
        have HQB := hide hq
        have HOWN := hide hown
        have HB6 := hide hb6
        have HN6 := hide hn6
        have hQl := hq.lt
        obtain ⟨p1, d0, d1, d2⟩ := KP.out w6 hb6
        clear hown hq hb6 hn6 d0 d2
        by_cases hlt2 : j2 < m.frm.length
        · have hj2i : (j2 : Int) < (m.frm.length : Int) := by omega
          obtain ⟨b2, o2, rfl, hb2, hc2⟩ := HPF.out.at HB6.out j2 hlt2
          obtain ⟨z, hz⟩ : ∃ z, z = m.frm[j2] := ⟨_, rfl⟩
          have HNX : Hid ((m.frm.take (j2 + 1)).map ((n : Int) - ·) = (m.frm.take j2).map ((n : Int) - ·) ++ [(n : Int) - z]) := by unfold Hid; rw [hz]; exact subI_take hlt2
          have hzr := HOM.out.frm z (by rw [hz]; exact List.getElem_mem hlt2)
          rw [← hz] at hc2
          have hst := HST.out
          have hwz : IntKind.i64.wrap ((n : Int) - z) = (n : Int) - z := by rw [IntKind.wrap_i64]; omega
          have HLE : Hid (((m.frm.take j2).map ((n : Int) - ·)).length ≤ 100000) := by unfold Hid; rw [List.length_map, List.length_take]; omega
          obtain ⟨fa, fn', fc, hfv⟩ : ∃ fa fn' fc, fv = .slice fa fn' fc := by
            rcases HOWN.out.2 with ⟨h1, _⟩ | ⟨g', cap, cur, h1, _⟩
            · exact ⟨_, _, _, h1⟩
            · exact ⟨_, _, _, h1⟩
          subst hfv
          have hd6 : Below w2.heap.size w2 w6.drew := HB6.out.drew
          have HQ7 : Hid (Blk w6.drew Q #[.string m.name, .slice fa fn' fc, .int .i64 ((n : Int) - m.to)] 29) := HQB.out
          have HW7 : Hid (w6.drew.ownsRow w5.heap.size 3 1 (.slice fa fn' fc) ((m.frm.take j2).map ((n : Int) - ·)).length (((m.frm.take j2).map ((n : Int) - ·)).map fun z => .int .i64 z)) := HOWN.out
          have HN7 : Hid (w5.heap.size ≤ w6.drew.heap.size) := HN6.out
          have KQ : Hid (∀ w', Below w2.heap.size w2 w' → w'.cell? ⟨PA, 1, none⟩ = some (.slice (some ⟨b, o, none⟩) A.mv.length an) ∧ w'.cell? ⟨b, o + j * 3 + 1, none⟩ = some (.slice (some ⟨b2, o2, none⟩) m.frm.length cf) ∧ w'.cell? ⟨b2, o2 + j2, none⟩ = some (.int .i64 z)) := fun w' hb =>
            ⟨(KP.out w' hb).1, (KP.out w' hb).2.2.1, by
              obtain ⟨b9, o9, e9, _, hc9⟩ := HPF.out.at hb j2 hlt2
              cases e9
              rw [hz]
              exact hc9⟩
          clear hz hzr hc2 HQB HOWN HN6 hst
          go_upto_region 13 with fail
          clear p1 d1
          refine wp_region_held_drew (S := Below w2.heap.size w2) (by kernel_rfl) hd6 (fun hHeld => ?_)
          generalize w6.drew = w7 at *
          obtain ⟨g, n', cap, W1, hr, ho1, hg⟩ := rowZ_more (x := (n : Int) - z) (W := w7.alloc (.cells #[.int .i64 ((n : Int) - z)] 3)) (owns_keptA HW7.out (fun b e => Below.heap_alloc _ _ _ (HW7.out.lt b e).2)) (by have := HN7.out; simp; omega) (Blk.new w7 _ _) HLE.out
          have HRUN := hide hr
          have HQ1 : Hid (Blk W1 Q #[.string m.name, .slice fa fn' fc, .int .i64 ((n : Int) - m.to)] 29) := (HQ7.out.alloc _).grown hg (fun e => by have := (HW7.out.lt Q e.symm).1; have := HQ5.out; omega)
          have HOV := hide ho1
          have hb8 : Below w2.heap.size w2 (w7.alloc (.cells #[.int .i64 ((n : Int) - z)] 3)) := hd6.alloc hd6.size _
          have HBW : Hid (Below w2.heap.size w2 W1) := (hd6.alloc hd6.size _).grown hg (by have := hd6.size; simp; omega) (fun q hq => by have := (HW7.out.lt q hq).1; have := BW.out.size; omega)
          have HS1 : Hid (w7.heap.size ≤ W1.heap.size) := Nat.le_trans (by simp) hg.size
          have HBS : Hid (Below w2.heap.size w2 (W1.setCell ⟨Q, 1, none⟩ (.slice (some ⟨g, 0, none⟩) n' cap))) := HBW.out.setCell (by have := HQ.out; simp; omega) _
          have q1 : w7.cell? ⟨Q, 1, none⟩ = some (.slice fa fn' fc) := HQ7.out.cell 1
          have q1a : (w7.alloc (.cells #[.int .i64 ((n : Int) - z)] 3)).cell? ⟨Q, 1, none⟩ = some (.slice fa fn' fc) := (HQ7.out.alloc _).cell 1
          have qf : W1.frozen? ⟨Q, 1, none⟩ = false := HQ1.out.frozen 1
          have qc : W1.cell? ⟨Q, 1, none⟩ = some (.slice fa fn' fc) := HQ1.out.cell 1
          have ql : Q < W1.heap.size := HQ1.out.lt
          have HRQ : Hid (N2I m n w2 Q w5.heap.size (.int .i64 ((j2 : Int) + 1)) (W1.setCell ⟨Q, 1, none⟩ (.slice (some ⟨g, 0, none⟩) n' cap))) := by
            refine ⟨j2 + 1, .slice (some ⟨g, 0, none⟩) n' cap, by omega, by simp, HQ1.out.set 1 _, ?_, ?_, HBS.out⟩
            · rw [HNX.out]
              exact owns_keptA HOV.out fun b e => Below.heap_setCell _ _ _ _ (by have := (HOV.out.lt b e).1; have := HQ5.out; simp; omega)
            · have := HN7.out; have := HS1.out; simp [World.setCell]; omega
          clear hr ho1 hg
          refine wpAnyH_take (i := 0) (v := ?_) rfl (by kernel_rfl) (by kernel_rfl) (by kernel_rfl) (fun _ _ _ h => h) (Or.inl ⟨by rfl, ?_⟩) (by assumption) ?_
          rotate_left
          · intro w' hSw
            go_simp <;> with_reducible rfl
          try simp only [Act.put, List.setIfInBounds_toArray, List.set_cons_zero, List.set_cons_succ, List.getElem_toArray, List.getElem_cons_succ, List.getElem_cons_zero]
          refine wpAnyH_take (i := 2) (v := ?_) rfl (by kernel_rfl) (by kernel_rfl) (by kernel_rfl) (fun _ _ _ h => h) (Or.inl ⟨by rfl, ?_⟩) (by assumption) ?_
          rotate_left
          · intro w' hSw
            go_simp <;> with_reducible rfl
          try simp only [Act.put, List.setIfInBounds_toArray, List.set_cons_zero, List.set_cons_succ, List.getElem_toArray, List.getElem_cons_succ, List.getElem_cons_zero]
          refine wpAnyH_take (i := 3) (v := ?_) rfl (by kernel_rfl) (by kernel_rfl) (by kernel_rfl) (fun _ _ _ h => h) (Or.inl ⟨by rfl, ?_⟩) (by assumption) ?_
          rotate_left
          · intro w' hSw
            go_simp <;> with_reducible rfl
          try simp only [Act.put, List.setIfInBounds_toArray, List.set_cons_zero, List.set_cons_succ, List.getElem_toArray, List.getElem_cons_succ, List.getElem_cons_zero]
          refine wpAnyH_take (i := 4) (v := ?_) rfl (by kernel_rfl) (by kernel_rfl) (by kernel_rfl) (fun _ _ _ h => h) (Or.inl ⟨by rfl, ?_⟩) (by assumption) ?_
          rotate_left
          · intro w' hSw
            obtain ⟨x0, x1, x2⟩ := KQ.out w' hSw
            go_simp <;> with_reducible rfl
          try simp only [Act.put, List.setIfInBounds_toArray, List.set_cons_zero, List.set_cons_succ, List.getElem_toArray, List.getElem_cons_succ, List.getElem_cons_zero]
          refine wpAnyH_take (i := 5) (v := ?_) rfl (by kernel_rfl) (by kernel_rfl) (by kernel_rfl) (fun _ _ _ h => h) (Or.inl ⟨by rfl, ?_⟩) (by assumption) ?_
          rotate_left
          · intro w' hSw
            go_simp <;> with_reducible rfl
          try simp only [Act.put, List.setIfInBounds_toArray, List.set_cons_zero, List.set_cons_succ, List.getElem_toArray, List.getElem_cons_succ, List.getElem_cons_zero]
          refine wpAnyH_take (i := 6) (v := ?_) rfl (by kernel_rfl) (by kernel_rfl) (by kernel_rfl) (fun _ _ _ h => h) (Or.inl ⟨by rfl, ?_⟩) (by assumption) ?_
          rotate_left
          · intro w' hSw
            obtain ⟨x0, x1, x2⟩ := KQ.out w' hSw
            go_simp <;> with_reducible rfl
          try simp only [Act.put, List.setIfInBounds_toArray, List.set_cons_zero, List.set_cons_succ, List.getElem_toArray, List.getElem_cons_succ, List.getElem_cons_zero]
          refine wpAnyH_take (i := 7) (v := ?_) rfl (by kernel_rfl) (by kernel_rfl) (by kernel_rfl) (fun _ _ _ h => h) (Or.inl ⟨by rfl, ?_⟩) (by assumption) ?_
          rotate_left
          · intro w' hSw
            go_simp <;> with_reducible rfl
          try simp only [Act.put, List.setIfInBounds_toArray, List.set_cons_zero, List.set_cons_succ, List.getElem_toArray, List.getElem_cons_succ, List.getElem_cons_zero]
          refine wpAnyH_take (i := 8) (v := ?_) rfl (by kernel_rfl) (by kernel_rfl) (by kernel_rfl) (fun _ _ _ h => h) (Or.inl ⟨by rfl, ?_⟩) (by assumption) ?_
          rotate_left
          · intro w' hSw
            obtain ⟨x0, x1, x2⟩ := KQ.out w' hSw
            go_simp <;> with_reducible rfl
          try simp only [Act.put, List.setIfInBounds_toArray, List.set_cons_zero, List.set_cons_succ, List.getElem_toArray, List.getElem_cons_succ, List.getElem_cons_zero]
          refine wpAnyH_take (i := 9) (v := ?_) rfl (by kernel_rfl) (by kernel_rfl) (by kernel_rfl) (fun _ _ _ h => h) (Or.inl ⟨by rfl, ?_⟩) (by assumption) ?_
          rotate_left
          · intro w' hSw
            go_simp <;> with_reducible rfl
          try simp only [Act.put, List.setIfInBounds_toArray, List.set_cons_zero, List.set_cons_succ, List.getElem_toArray, List.getElem_cons_succ, List.getElem_cons_zero]
          refine wpAnyH_take (i := 10) (v := ?_) rfl (by kernel_rfl) (by kernel_rfl) (by kernel_rfl) (fun _ _ _ h => h) (Or.inl ⟨by rfl, ?_⟩) (by assumption) ?_
          rotate_left
          · intro w' hSw
            obtain ⟨x0, x1, x2⟩ := KQ.out w' hSw
            go_simp <;> with_reducible rfl
          try simp only [Act.put, List.setIfInBounds_toArray, List.set_cons_zero, List.set_cons_succ, List.getElem_toArray, List.getElem_cons_succ, List.getElem_cons_zero]
          refine wpAnyH_take (i := 11) (v := ?_) rfl (by kernel_rfl) (by kernel_rfl) (by kernel_rfl) (fun _ _ _ h => h) (Or.inl ⟨by rfl, ?_⟩) (by assumption) ?_
          rotate_left
          · intro w' hSw
            obtain ⟨x0, x1, x2⟩ := KQ.out w' hSw
            go_simp <;> with_reducible rfl
          try simp only [Act.put, List.setIfInBounds_toArray, List.set_cons_zero, List.set_cons_succ, List.getElem_toArray, List.getElem_cons_succ, List.getElem_cons_zero]
          refine wpAnyH_take (i := 12) (v := ?_) rfl (by kernel_rfl) (by kernel_rfl) (by kernel_rfl) (fun _ _ _ h => h) (Or.inl ⟨by rfl, ?_⟩) (by assumption) ?_
          rotate_left
          · intro w' hSw
            go_simp <;> with_reducible rfl
          try simp only [Act.put, List.setIfInBounds_toArray, List.set_cons_zero, List.set_cons_succ, List.getElem_toArray, List.getElem_cons_succ, List.getElem_cons_zero]
          refine wpAnyH_ready (rs := [1, 13]) (by kernel_rfl) (by simp) ?_
          refine AllReadyH.cons rfl (fun K hK => ?_) (AllReadyH.cons rfl (fun K hK => ?_) AllReadyH.nil)
          · go_simp
            refine hK.out _ _ (by exact hd6) (fun hHeld => ?_)
            clear hK K
            try simp only [Act.put, List.setIfInBounds_toArray, List.set_cons_zero, List.set_cons_succ, List.getElem_toArray, List.getElem_cons_succ, List.getElem_cons_zero]
            refine wpAnyH_ready (rs := [13]) (by kernel_rfl) (by simp) ?_
            refine AllReadyH.cons rfl (fun K hK => ?_) AllReadyH.nil
            go_simp
            refine hK.out _ _ (by exact hb8) (fun hHeld => ?_)
            clear hK K
            try simp only [Act.put, List.setIfInBounds_toArray, List.set_cons_zero, List.set_cons_succ, List.getElem_toArray, List.getElem_cons_succ, List.getElem_cons_zero]
            refine wpAnyH_ready (rs := [14]) (by kernel_rfl) (by simp) ?_
            refine AllReadyH.cons rfl (fun K hK => ?_) AllReadyH.nil
            refine step_append_eqM rfl _ _ _ _ rfl rfl rfl HRUN.out ?_
            refine hK.out _ _ (by exact HBW.out) (fun hHeld => ?_)
            clear hK K
            try simp only [Act.put, List.setIfInBounds_toArray, List.set_cons_zero, List.set_cons_succ, List.getElem_toArray, List.getElem_cons_succ, List.getElem_cons_zero]
            refine wpAnyH_take (i := 15) (v := ?_) rfl (by kernel_rfl) (by kernel_rfl) (by kernel_rfl) (fun _ _ _ h => h) (Or.inl ⟨by rfl, ?_⟩) (by assumption) ?_
            rotate_left
            · intro w' hSw
              go_simp <;> with_reducible rfl
            try simp only [Act.put, List.setIfInBounds_toArray, List.set_cons_zero, List.set_cons_succ, List.getElem_toArray, List.getElem_cons_succ, List.getElem_cons_zero]
            refine wpAnyH_ready (rs := [16]) (by kernel_rfl) (by simp) ?_
            refine AllReadyH.cons rfl (fun K hK => ?_) AllReadyH.nil
            go_simp
            refine hK.out _ _ (by exact HBS.out) (fun hHeld => ?_)
            clear hK K
            try simp only [Act.put, List.setIfInBounds_toArray, List.set_cons_zero, List.set_cons_succ, List.getElem_toArray, List.getElem_cons_succ, List.getElem_cons_zero]
            refine wpAnyH_done (by kernel_rfl) ?_ _
            clear hHeld q1 q1a qf qc ql
            go_wp2_with fail
            go_roundw
            case rel => simpa using HRQ.out
            case measure => simp [intOf]; omega
          · go_simp
            refine hK.out _ _ (by exact hb8) (fun hHeld => ?_)
            clear hK K
            try simp only [Act.put, List.setIfInBounds_toArray, List.set_cons_zero, List.set_cons_succ, List.getElem_toArray, List.getElem_cons_succ, List.getElem_cons_zero]
            refine wpAnyH_ready (rs := [1]) (by kernel_rfl) (by simp) ?_
            refine AllReadyH.cons rfl (fun K hK => ?_) AllReadyH.nil
            go_simp
            refine hK.out _ _ (by exact hb8) (fun hHeld => ?_)
            clear hK K
            try simp only [Act.put, List.setIfInBounds_toArray, List.set_cons_zero, List.set_cons_succ, List.getElem_toArray, List.getElem_cons_succ, List.getElem_cons_zero]
            refine wpAnyH_ready (rs := [14]) (by kernel_rfl) (by simp) ?_
            refine AllReadyH.cons rfl (fun K hK => ?_) AllReadyH.nil
            refine step_append_eqM rfl _ _ _ _ rfl rfl rfl HRUN.out ?_
            refine hK.out _ _ (by exact HBW.out) (fun hHeld => ?_)
            clear hK K
            try simp only [Act.put, List.setIfInBounds_toArray, List.set_cons_zero, List.set_cons_succ, List.getElem_toArray, List.getElem_cons_succ, List.getElem_cons_zero]
            refine wpAnyH_take (i := 15) (v := ?_) rfl (by kernel_rfl) (by kernel_rfl) (by kernel_rfl) (fun _ _ _ h => h) (Or.inl ⟨by rfl, ?_⟩) (by assumption) ?_
            rotate_left
            · intro w' hSw
              go_simp <;> with_reducible rfl
            try simp only [Act.put, List.setIfInBounds_toArray, List.set_cons_zero, List.set_cons_succ, List.getElem_toArray, List.getElem_cons_succ, List.getElem_cons_zero]
            refine wpAnyH_ready (rs := [16]) (by kernel_rfl) (by simp) ?_
            refine AllReadyH.cons rfl (fun K hK => ?_) AllReadyH.nil
            go_simp
            refine hK.out _ _ (by exact HBS.out) (fun hHeld => ?_)
            clear hK K
            try simp only [Act.put, List.setIfInBounds_toArray, List.set_cons_zero, List.set_cons_succ, List.getElem_toArray, List.getElem_cons_succ, List.getElem_cons_zero]
            refine wpAnyH_done (by kernel_rfl) ?_ _
            clear hHeld q1 q1a qf qc ql
            go_wp2_with fail
            go_roundw
            case rel => simpa using HRQ.out
            case measure => simp [intOf]; omega
        · have hj2i : ¬ (j2 : Int) < (m.frm.length : Int) := by omega
          have HTK : Hid (m.frm.take j2 = m.frm) := List.take_of_length_le (by omega)
          have HOW2 : Hid (w6.ownsRow w5.heap.size 3 1 fv (m.frm.map ((n : Int) - ·)).length ((m.frm.map ((n : Int) - ·)).map fun z => .int .i64 z)) := by have h9 := HOWN.out; rw [HTK.out] at h9; exact h9
          have HPV := hide (pv_of_own HOW2.out)
          obtain ⟨fa, n2, fc, hfv, hn2⟩ : ∃ fa n2 fc, fv = .slice fa n2 fc ∧ n2 = (rvM n m).frm.length := by obtain ⟨fa, fc, h, _⟩ := pv_of_own HOW2.out; exact ⟨fa, _, fc, h, rfl⟩
          subst hfv
          have HB7 : Hid (Below w2.heap.size w2 (w6.alloc (.cells #[.string m.name, .slice fa n2 fc, .int .i64 ((n : Int) - m.to)] 29))) := HB6.out.alloc HB6.out.size _
          have HLM : Hid (((A.mv.take j).map (rvM n)).length ≤ 100000) := by unfold Hid; rw [List.length_map, List.length_take]; omega
          obtain ⟨g, cap, W1, ys, X2, hr, hO1, hout, hex, hfr⟩ := HO.out.push (wN := wN) (W := w6.alloc (.cells #[.string m.name, .slice fa n2 fc, .int .i64 ((n : Int) - m.to)] 29)) (m := rvM n m) (P := w6.heap.size) (a := fa) (c := fc) HN2.out HB7.out (HE.out.trans (ex_below HB7.out O)) rfl (by rw [← hn2]; exact Blk.new w6 _ _) (by
            have h9 : PV (w6.alloc (.cells #[.string m.name, .slice fa n2 fc, .int .i64 ((n : Int) - m.to)] 29)) (fun b => w2.heap.size ≤ b) (.slice fa n2 fc) (m.frm.map ((n : Int) - ·)) := (HPV.out.mono fun b h1 _ => by have := BW.out.size; omega).later ((Below.refl _ _).alloc (Nat.le_refl _) _)
            rw [← hn2]
            exact h9) HLM.out
          generalize hv' : (((A.mv.take j).map (rvM n)).length + 1) = n' at *
          have HRUN := hide hr
          have HO1 := hide hO1
          have HOUT := hide hout
          have HEX := hide hex
          have q0 : w6.cell? ⟨Q, 0, none⟩ = some (.string m.name) := HQB.out.cell 0
          have q1 : w6.cell? ⟨Q, 1, none⟩ = some (.slice fa n2 fc) := HQB.out.cell 1
          have q2 : w6.cell? ⟨Q, 2, none⟩ = some (.int .i64 ((n : Int) - m.to)) := HQB.out.cell 2
          have o1 : w6.cell? ⟨O, 1, none⟩ = some mv := (HO.out.blk.below HB6.out hOl2).cell 1
          have ol6 : O < w6.heap.size := Nat.lt_of_lt_of_le hOl2 HB6.out.size
          have of : W1.frozen? ⟨O, 1, none⟩ = false := HO1.out.frozen 1
          have oc : W1.cell? ⟨O, 1, none⟩ = some mv := HO1.out.cell 1
          have ol1 : O < W1.heap.size := HO1.out.lt
          have HSTK : Hid ((A.mv.take (j + 1)).map (rvM n) = (A.mv.take j).map (rvM n) ++ [rvM n m]) := by unfold Hid; rw [rvM_take hlt, ← HMJ.out]
          clear hr hO1 hout hex hfr hv' hn2
          go_wp2_with (at_builtin; refine wpList_append_eq rfl _ _ _ _ rfl rfl rfl HRUN.out ?_)
          go_roundw
          case rel => exact ⟨j + 1, .slice (some ⟨g, 0, none⟩) n' cap, lv, ys, X2, by omega, by go_num, by rw [HSTK.out]; exact HOUT.out, HEX.out⟩
          case measure => simp [intOf]; omega
    · have hji : ¬ (j : Int) < (A.mv.length : Int) := by omega
      have HTK : Hid (A.mv.take j = A.mv) := List.take_of_length_le (by omega)
      have HO3 : Hid (OutA w2 wN.heap.size O ((n : Int) + 1) (A.mv.map (rvM n)) [] mv lv xs X') := by have h9 := HO.out; rw [HTK.out] at h9; exact h9
      clear ho he hsl hpl
      go_wp2_with fail
      clear p1 p2
      have hla := OA.out.la
      have HLA := hide hla
      have hll := HPL.out.len.1
      clear hla
      go_loopw [13] (fun i wr => N3I A n wN O i wr) (fun i wr => A.la.length - (intOf i).toNat)
      case atStart => exact ⟨0, mv, lv, xs, X', Nat.zero_le _, rfl, by simpa using HO3.out, HE.out⟩
      case round =>
        obtain ⟨j3, mv3, lv3, xs3, X3, hj3, rfl, ho3, he3⟩ := hrel
        obtain ⟨w4, rfl⟩ : ∃ w4, w4 = wr := ⟨_, rfl⟩
        have HO4 := hide ho3
        have HE4 := hide he3
        have hOl4 := ho3.blk.lt
        obtain ⟨⟨p1, p2⟩, hsl3, hpl3⟩ := HAM.out w4 he3
        have HPL3 := hide hpl3
        clear p1 hsl3
        by_cases hlt3 : j3 < A.la.length
        · have hj3i : (j3 : Int) < (A.la.length : Int) := by omega
          obtain ⟨b3, o3, rfl, hb3, hc3⟩ := hpl3.at (Below.refl w4.heap.size w4) j3 hlt3
          obtain ⟨z, hz⟩ : ∃ z, z = A.la[j3] := ⟨_, rfl⟩
          have hzr := HLA.out z (by rw [hz]; exact List.getElem_mem hlt3)
          have HSTK : Hid ((A.la.take (j3 + 1)).map ((n : Int) - ·) = (A.la.take j3).map ((n : Int) - ·) ++ [(n : Int) - z]) := by unfold Hid; rw [subI_take hlt3, ← hz]
          rw [← hz] at hc3
          have hst := HST.out
          have hwz : IntKind.i64.wrap ((n : Int) - z) = (n : Int) - z := by rw [IntKind.wrap_i64]; omega
          have KQ : Hid (∀ w', Ex O wN w' → w'.cell? ⟨PA, 2, none⟩ = some (.slice (some ⟨b3, o3, none⟩) A.la.length ao) ∧ w'.cell? ⟨b3, o3 + j3, none⟩ = some (.int .i64 z)) := fun w' hx =>
            ⟨(HAM.out w' hx).1.2, by
              obtain ⟨b9, o9, e9, _, hc9⟩ := (HAM.out w' hx).2.2.at (Below.refl w'.heap.size w') j3 hlt3
              cases e9
              rw [hz]
              exact hc9⟩
          have HLM : Hid (((A.la.take j3).map ((n : Int) - ·)).length ≤ 100000) := by
            unfold Hid
            rw [List.length_map, List.length_take]
            have := HLAL.out
            omega
          have hd4 : Ex O wN w4.drew := HE4.out.trans (ex_below ((Below.refl w4.heap.size w4).drew) O)
          have HO5 : Hid (OutA w4.drew wN.heap.size O ((n : Int) + 1) (A.mv.map (rvM n)) ((A.la.take j3).map ((n : Int) - ·)) mv3 lv3 xs3 X3) := HO4.out.below ((Below.refl w4.heap.size w4).drew)
          clear hz hzr hc3 ho3 he3 hpl3 hst
          go_upto_region 18 with fail
          clear p2
          refine wp_region_held_drew (S := Ex O wN) (by kernel_rfl) hd4 (fun hHeld => ?_)
          generalize w4.drew = w7 at *
          have HB7 : Hid (Below w7.heap.size w7 (w7.alloc (.cells #[.int .i64 ((n : Int) - z)] 3))) := (Below.refl _ _).alloc (Nat.le_refl _) _
          obtain ⟨g, cap, W1, X2, hr, hO1, hout, hex, hfr⟩ := HO5.out.pushL (wN := wN) (x := (n : Int) - z) (P := w7.heap.size) hd4.size HB7.out (hd4.trans (ex_below HB7.out O)) rfl (Blk.new w7 _ _) HLM.out
          generalize hv' : (((A.la.take j3).map ((n : Int) - ·)).length + 1) = n' at *
          have HRUN := hide hr
          have HO1 := hide hO1
          have hb8 : Ex O wN (w7.alloc (.cells #[.int .i64 ((n : Int) - z)] 3)) := hd4.trans (ex_below HB7.out O)
          have HBW : Hid (Ex O wN W1) := ⟨hex.os, hex.tape, hex.output, by have := hex.size; simpa using this, fun k hk hne => (Below.heap_setCell _ _ _ _ (by simpa using hne)).symm.trans (hex.block k hk hne)⟩
          have HBS := hide hex
          obtain ⟨la3, ln3, lc3, hlv3⟩ : ∃ fa fn' fc, lv3 = .slice fa fn' fc := by
            rcases HO5.out.las.2 with ⟨h1, _⟩ | ⟨g', cap, cur, h1, _⟩
            · exact ⟨_, _, _, h1⟩
            · exact ⟨_, _, _, h1⟩
          subst hlv3
          have q1 : w7.cell? ⟨O, 2, none⟩ = some (.slice la3 ln3 lc3) := HO5.out.blk.cell 2
          have q1a : (w7.alloc (.cells #[.int .i64 ((n : Int) - z)] 3)).cell? ⟨O, 2, none⟩ = some (.slice la3 ln3 lc3) := (HO5.out.blk.alloc _).cell 2
          have of : W1.frozen? ⟨O, 2, none⟩ = false := HO1.out.frozen 2
          have oc : W1.cell? ⟨O, 2, none⟩ = some (.slice la3 ln3 lc3) := HO1.out.cell 2
          have ol1 : O < W1.heap.size := HO1.out.lt
          have HRQ : Hid (N3I A n wN O (.int .i64 ((j3 : Int) + 1)) (W1.setCell ⟨O, 2, none⟩ (.slice (some ⟨g, 0, none⟩) n' cap))) := ⟨j3 + 1, mv3, _, xs3, X2, by omega, by simp, by rw [HSTK.out]; exact hout, hex⟩
          clear hr hO1 hout hex hfr hv'
          refine wpAnyH_take (i := 0) (v := ?_) rfl (by kernel_rfl) (by kernel_rfl) (by kernel_rfl) (fun _ _ _ h => h) (Or.inl ⟨by rfl, ?_⟩) (by assumption) ?_
          rotate_left
          · intro w' hSw
            go_simp <;> with_reducible rfl
          try simp only [Act.put, List.setIfInBounds_toArray, List.set_cons_zero, List.set_cons_succ, List.getElem_toArray, List.getElem_cons_succ, List.getElem_cons_zero]
          refine wpAnyH_take (i := 2) (v := ?_) rfl (by kernel_rfl) (by kernel_rfl) (by kernel_rfl) (fun _ _ _ h => h) (Or.inl ⟨by rfl, ?_⟩) (by assumption) ?_
          rotate_left
          · intro w' hSw
            go_simp <;> with_reducible rfl
          try simp only [Act.put, List.setIfInBounds_toArray, List.set_cons_zero, List.set_cons_succ, List.getElem_toArray, List.getElem_cons_succ, List.getElem_cons_zero]
          refine wpAnyH_take (i := 3) (v := ?_) rfl (by kernel_rfl) (by kernel_rfl) (by kernel_rfl) (fun _ _ _ h => h) (Or.inl ⟨by rfl, ?_⟩) (by assumption) ?_
          rotate_left
          · intro w' hSw
            go_simp <;> with_reducible rfl
          try simp only [Act.put, List.setIfInBounds_toArray, List.set_cons_zero, List.set_cons_succ, List.getElem_toArray, List.getElem_cons_succ, List.getElem_cons_zero]
          refine wpAnyH_take (i := 4) (v := ?_) rfl (by kernel_rfl) (by kernel_rfl) (by kernel_rfl) (fun _ _ _ h => h) (Or.inl ⟨by rfl, ?_⟩) (by assumption) ?_
          rotate_left
          · intro w' hSw
            obtain ⟨x0, x1⟩ := KQ.out w' hSw
            go_simp <;> with_reducible rfl
          try simp only [Act.put, List.setIfInBounds_toArray, List.set_cons_zero, List.set_cons_succ, List.getElem_toArray, List.getElem_cons_succ, List.getElem_cons_zero]
          refine wpAnyH_take (i := 5) (v := ?_) rfl (by kernel_rfl) (by kernel_rfl) (by kernel_rfl) (fun _ _ _ h => h) (Or.inl ⟨by rfl, ?_⟩) (by assumption) ?_
          rotate_left
          · intro w' hSw
            go_simp <;> with_reducible rfl
          try simp only [Act.put, List.setIfInBounds_toArray, List.set_cons_zero, List.set_cons_succ, List.getElem_toArray, List.getElem_cons_succ, List.getElem_cons_zero]
          refine wpAnyH_take (i := 6) (v := ?_) rfl (by kernel_rfl) (by kernel_rfl) (by kernel_rfl) (fun _ _ _ h => h) (Or.inl ⟨by rfl, ?_⟩) (by assumption) ?_
          rotate_left
          · intro w' hSw
            obtain ⟨x0, x1⟩ := KQ.out w' hSw
            go_simp <;> with_reducible rfl
          try simp only [Act.put, List.setIfInBounds_toArray, List.set_cons_zero, List.set_cons_succ, List.getElem_toArray, List.getElem_cons_succ, List.getElem_cons_zero]
          refine wpAnyH_take (i := 7) (v := ?_) rfl (by kernel_rfl) (by kernel_rfl) (by kernel_rfl) (fun _ _ _ h => h) (Or.inl ⟨by rfl, ?_⟩) (by assumption) ?_
          rotate_left
          · intro w' hSw
            obtain ⟨x0, x1⟩ := KQ.out w' hSw
            go_simp <;> with_reducible rfl
          try simp only [Act.put, List.setIfInBounds_toArray, List.set_cons_zero, List.set_cons_succ, List.getElem_toArray, List.getElem_cons_succ, List.getElem_cons_zero]
          refine wpAnyH_take (i := 8) (v := ?_) rfl (by kernel_rfl) (by kernel_rfl) (by kernel_rfl) (fun _ _ _ h => h) (Or.inl ⟨by rfl, ?_⟩) (by assumption) ?_
          rotate_left
          · intro w' hSw
            go_simp <;> with_reducible rfl
          try simp only [Act.put, List.setIfInBounds_toArray, List.set_cons_zero, List.set_cons_succ, List.getElem_toArray, List.getElem_cons_succ, List.getElem_cons_zero]
          refine wpAnyH_ready (rs := [1, 9]) (by kernel_rfl) (by simp) ?_
          refine AllReadyH.cons rfl (fun K hK => ?_) (AllReadyH.cons rfl (fun K hK => ?_) AllReadyH.nil)
          · go_simp
            refine hK.out _ _ (by exact hd4) (fun hHeld => ?_)
            clear hK K
            try simp only [Act.put, List.setIfInBounds_toArray, List.set_cons_zero, List.set_cons_succ, List.getElem_toArray, List.getElem_cons_succ, List.getElem_cons_zero]
            refine wpAnyH_ready (rs := [9]) (by kernel_rfl) (by simp) ?_
            refine AllReadyH.cons rfl (fun K hK => ?_) AllReadyH.nil
            go_simp
            refine hK.out _ _ (by exact hb8) (fun hHeld => ?_)
            clear hK K
            try simp only [Act.put, List.setIfInBounds_toArray, List.set_cons_zero, List.set_cons_succ, List.getElem_toArray, List.getElem_cons_succ, List.getElem_cons_zero]
            refine wpAnyH_ready (rs := [10]) (by kernel_rfl) (by simp) ?_
            refine AllReadyH.cons rfl (fun K hK => ?_) AllReadyH.nil
            refine step_append_eqM rfl _ _ _ _ rfl rfl rfl HRUN.out ?_
            refine hK.out _ _ (by exact HBW.out) (fun hHeld => ?_)
            clear hK K
            try simp only [Act.put, List.setIfInBounds_toArray, List.set_cons_zero, List.set_cons_succ, List.getElem_toArray, List.getElem_cons_succ, List.getElem_cons_zero]
            refine wpAnyH_take (i := 11) (v := ?_) rfl (by kernel_rfl) (by kernel_rfl) (by kernel_rfl) (fun _ _ _ h => h) (Or.inl ⟨by rfl, ?_⟩) (by assumption) ?_
            rotate_left
            · intro w' hSw
              go_simp <;> with_reducible rfl
            try simp only [Act.put, List.setIfInBounds_toArray, List.set_cons_zero, List.set_cons_succ, List.getElem_toArray, List.getElem_cons_succ, List.getElem_cons_zero]
            refine wpAnyH_ready (rs := [12]) (by kernel_rfl) (by simp) ?_
            refine AllReadyH.cons rfl (fun K hK => ?_) AllReadyH.nil
            go_simp
            refine hK.out _ _ (by exact HBS.out) (fun hHeld => ?_)
            clear hK K
            try simp only [Act.put, List.setIfInBounds_toArray, List.set_cons_zero, List.set_cons_succ, List.getElem_toArray, List.getElem_cons_succ, List.getElem_cons_zero]
            refine wpAnyH_done (by kernel_rfl) ?_ _
            clear hHeld q1 q1a of oc ol1
            go_wp2_with fail
            go_roundw
            case rel => simpa using HRQ.out
            case measure => simp [intOf]; omega
          · go_simp
            refine hK.out _ _ (by exact hb8) (fun hHeld => ?_)
            clear hK K
            try simp only [Act.put, List.setIfInBounds_toArray, List.set_cons_zero, List.set_cons_succ, List.getElem_toArray, List.getElem_cons_succ, List.getElem_cons_zero]
            refine wpAnyH_ready (rs := [1]) (by kernel_rfl) (by simp) ?_
            refine AllReadyH.cons rfl (fun K hK => ?_) AllReadyH.nil
            go_simp
            refine hK.out _ _ (by exact hb8) (fun hHeld => ?_)
            clear hK K
            try simp only [Act.put, List.setIfInBounds_toArray, List.set_cons_zero, List.set_cons_succ, List.getElem_toArray, List.getElem_cons_succ, List.getElem_cons_zero]
            refine wpAnyH_ready (rs := [10]) (by kernel_rfl) (by simp) ?_
            refine AllReadyH.cons rfl (fun K hK => ?_) AllReadyH.nil
            refine step_append_eqM rfl _ _ _ _ rfl rfl rfl HRUN.out ?_
            refine hK.out _ _ (by exact HBW.out) (fun hHeld => ?_)
            clear hK K
            try simp only [Act.put, List.setIfInBounds_toArray, List.set_cons_zero, List.set_cons_succ, List.getElem_toArray, List.getElem_cons_succ, List.getElem_cons_zero]
            refine wpAnyH_take (i := 11) (v := ?_) rfl (by kernel_rfl) (by kernel_rfl) (by kernel_rfl) (fun _ _ _ h => h) (Or.inl ⟨by rfl, ?_⟩) (by assumption) ?_
            rotate_left
            · intro w' hSw
              go_simp <;> with_reducible rfl
            try simp only [Act.put, List.setIfInBounds_toArray, List.set_cons_zero, List.set_cons_succ, List.getElem_toArray, List.getElem_cons_succ, List.getElem_cons_zero]
            refine wpAnyH_ready (rs := [12]) (by kernel_rfl) (by simp) ?_
            refine AllReadyH.cons rfl (fun K hK => ?_) AllReadyH.nil
            go_simp
            refine hK.out _ _ (by exact HBS.out) (fun hHeld => ?_)
            clear hK K
            try simp only [Act.put, List.setIfInBounds_toArray, List.set_cons_zero, List.set_cons_succ, List.getElem_toArray, List.getElem_cons_succ, List.getElem_cons_zero]
            refine wpAnyH_done (by kernel_rfl) ?_ _
            clear hHeld q1 q1a of oc ol1
            go_wp2_with fail
            go_roundw
            case rel => simpa using HRQ.out
            case measure => simp [intOf]; omega
        · have hj3i : ¬ (j3 : Int) < (A.la.length : Int) := by omega
          have HTL : Hid (A.la.take j3 = A.la) := List.take_of_length_le (by omega)
          have HO6 : Hid (OutA w4 wN.heap.size O ((n : Int) + 1) (A.mv.map (rvM n)) (A.la.map ((n : Int) - ·)) mv3 lv3 xs3 X3) := by have h9 := HO4.out; rw [HTL.out] at h9; exact h9
          have HB4 : Hid (Below w.heap.size w w4) := by
            have h1 := K1.out.now.1
            have h2 := HE4.out
            exact h1.trans ⟨h2.os, h2.tape, h2.output, h2.size, fun k hk => h2.block k (by have := h1.size; omega) (by have := HWO.out; omega)⟩
          obtain ⟨B, hB⟩ : ∃ B, B = rvA n A := ⟨_, rfl⟩
          have HBE := hide hB
          obtain ⟨bm, bn, bl, bo, hbe, hbm, hbl⟩ := HO6.out.av
          have hbe1 : mv3 = .slice bm B.mv.length bn ∧ lv3 = .slice bl B.la.length bo := by rw [hB]; simp at hbe; simpa [rvA] using hbe
          obtain ⟨rfl, rfl⟩ := hbe1
          have hBlk : Blk w4 O #[.int .i64 B.st, .slice bm B.mv.length bn, .slice bl B.la.length bo] 26 := by have h := HO6.out.blk; have e : B.st = (n : Int) + 1 := (by rw [hB]; rfl); rw [e]; exact h
          have hBav : AV w4 (fun _ => True) (.agg #[.int .i64 B.st, .slice bm B.mv.length bn, .slice bl B.la.length bo]) B := by
            rw [hB]
            exact ⟨_, _, _, _, rfl, slV_monoX hbm fun _ _ _ => trivial, hbl.mono fun _ _ _ => trivial⟩
          have hAbl : Blk w4 PA #[.int .i64 A.st, .slice am A.mv.length an, .slice al A.la.length ao] 26 := K1.out.now.2.1.ex HE4.out (by have := HPO.out; omega)
          have hAav : AV w4 (fun _ => True) (.agg #[.int .i64 A.st, .slice am A.mv.length an, .slice al A.la.length ao]) A := by
            obtain ⟨⟨_, _⟩, hs9, hp9⟩ := HAM.out w4 HE4.out
            exact ⟨_, _, _, _, rfl, slV_monoX hs9 fun _ _ _ => trivial, hp9.mono fun _ _ _ => trivial⟩
          have K2 : Hid (EvS (fun wr => (Below w.heap.size w wr ∧ Blk wr PA #[.int .i64 A.st, .slice am A.mv.length an, .slice al A.la.length ao] 26 ∧ AV wr (fun _ => True) (.agg #[.int .i64 A.st, .slice am A.mv.length an, .slice al A.la.length ao]) A) ∧ Blk wr O #[.int .i64 B.st, .slice bm B.mv.length bn, .slice bl B.la.length bo] 26 ∧ AV wr (fun _ => True) (.agg #[.int .i64 B.st, .slice bm B.mv.length bn, .slice bl B.la.length bo]) B) w4) := ((evS_below HB4.out).and ((evS_blk hAbl).and (evS_av hAav))).and ((evS_blk hBlk).and (evS_av hBav))
          rw [← hB] at SB OB
          clear hB hbe hBlk hBav hAbl hAav HB4 hbm hbl ho3 he3 hpl3 HO4 HO6
          have HAB : Hid (true = wiB A B) := (wiB_iff.2 fun t h => by rw [HBE.out, acc_rv OA.out HST.out]; exact h).symm
          have HBA : Hid (true = wiB B A) := (wiB_iff.2 fun t h => by rw [HBE.out, acc_rv OA.out HST.out] at h; exact h).symm
          have FAB := hide (few_two OA.out SA.out OB.out SB.out)
          have FBA := hide (few_two OB.out SB.out OA.out SA.out)
          have FA := hide (few_one OA.out SA.out)
          have FB := hide (few_one OB.out SB.out)
          have FO := hide (few_one oneN_ok oneN_small)
          have HSTB : Hid (B.st = ((n + 1 : Nat) : Int)) := by rw [HBE.out]; rfl
          go_upto_region 19 with fail
          clear p2
          have c00 : w4.cell? ⟨PA, 0, none⟩ = some (.int .i64 A.st) := K2.out.now.1.2.1.cell 0
          have c01 : w4.cell? ⟨PA, 1, none⟩ = some (.slice am A.mv.length an) := K2.out.now.1.2.1.cell 1
          have c02 : w4.cell? ⟨PA, 2, none⟩ = some (.slice al A.la.length ao) := K2.out.now.1.2.1.cell 2
          have c10 : w4.cell? ⟨O, 0, none⟩ = some (.int .i64 B.st) := K2.out.now.2.1.cell 0
          have c11 : w4.cell? ⟨O, 1, none⟩ = some (.slice bm B.mv.length bn) := K2.out.now.2.1.cell 1
          have c12 : w4.cell? ⟨O, 2, none⟩ = some (.slice bl B.la.length bo) := K2.out.now.2.1.cell 2
          go_wp2_with fail
          refine (within_any A B _ _ _ (fun _ => True) (by exact K2.out.now.1.2.2) (by exact K2.out.now.2.2)).mono ?_
          rintro e w5 hq
          obtain ⟨rfl, hb⟩ := within_good hq FAB.out true HAB.out
          have K3 := hide (K2.out.later hb)
          clear hq hb K2
          clear c00 c01 c02 c10 c11 c12
          go_upto_region 20 with fail
          have c00 : w5.cell? ⟨PA, 0, none⟩ = some (.int .i64 A.st) := K3.out.now.1.2.1.cell 0
          have c01 : w5.cell? ⟨PA, 1, none⟩ = some (.slice am A.mv.length an) := K3.out.now.1.2.1.cell 1
          have c02 : w5.cell? ⟨PA, 2, none⟩ = some (.slice al A.la.length ao) := K3.out.now.1.2.1.cell 2
          have c10 : w5.cell? ⟨O, 0, none⟩ = some (.int .i64 B.st) := K3.out.now.2.1.cell 0
          have c11 : w5.cell? ⟨O, 1, none⟩ = some (.slice bm B.mv.length bn) := K3.out.now.2.1.cell 1
          have c12 : w5.cell? ⟨O, 2, none⟩ = some (.slice bl B.la.length bo) := K3.out.now.2.1.cell 2
          go_wp2_with fail
          refine (within_any B A _ _ _ (fun _ => True) (by exact K3.out.now.2.2) (by exact K3.out.now.1.2.2)).mono ?_
          rintro e w6 hq
          obtain ⟨rfl, hb⟩ := within_good hq FBA.out true HBA.out
          have K4 := hide (K3.out.later hb)
          clear hq hb K3
          clear c00 c01 c02 c10 c11 c12
          go_upto_region 21 with fail
          have c00 : w6.cell? ⟨PA, 0, none⟩ = some (.int .i64 A.st) := K4.out.now.1.2.1.cell 0
          have c01 : w6.cell? ⟨PA, 1, none⟩ = some (.slice am A.mv.length an) := K4.out.now.1.2.1.cell 1
          have c02 : w6.cell? ⟨PA, 2, none⟩ = some (.slice al A.la.length ao) := K4.out.now.1.2.1.cell 2
          go_wp2_with fail
          refine (least_any A _ _ (fun _ => True) (by exact K4.out.now.1.2.2)).mono ?_
          rintro e w7 hq
          obtain ⟨NA, allA, rfl, hea, hna, hb⟩ := least_good HST.out hq FA.out
          have HNA := hide hna
          have HEA := hide hea
          clear hna hea
          have K5 := hide (K4.out.later hb)
          clear hq hb K4
          clear c00 c01 c02
          go_upto_region 22 with fail
          have c10 : w7.cell? ⟨O, 0, none⟩ = some (.int .i64 B.st) := K5.out.now.2.1.cell 0
          have c11 : w7.cell? ⟨O, 1, none⟩ = some (.slice bm B.mv.length bn) := K5.out.now.2.1.cell 1
          have c12 : w7.cell? ⟨O, 2, none⟩ = some (.slice bl B.la.length bo) := K5.out.now.2.1.cell 2
          go_wp2_with fail
          refine (least_any B _ _ (fun _ => True) (by exact K5.out.now.2.2)).mono ?_
          rintro e w8 hq
          obtain ⟨NB, allB, rfl, heb, hnb, hb⟩ := least_good HSTB.out hq FB.out
          have K6 := hide (K5.out.later hb)
          clear hq hb K5
          clear c10 c11 c12
          have HEQ : Hid (NA = NB) := by
            unfold Hid
            rw [HNA.out, hnb]
            rw [HBE.out] at heb ⊢
            exact nerode_rv OA.out HST.out (by omega) HEA.out heb
          clear heb hnb HNA HEA
          go_upto_region 23 with fail
          have AO := hide (oneN_av w8)
          have K7 := hide (((K6.out.alloc (.cells #[.int .i64 0] 3)).alloc (.cells #[.string ⟨#[97]⟩, .slice none 0 0, .int .i64 0, .string ⟨#[104]⟩, .slice (some ⟨w8.heap.size, 0, none⟩) 1 1, .int .i64 0] 29)).alloc (.cells #[.int .i64 0] 3))
          go_wp2_with fail
          try rw [show w8.heap.size + 1 + 1 = w8.heap.size + 2 from rfl]
          refine (least_any oneN _ _ (fun _ => True) (by exact AO.out)).mono ?_
          rintro e w9 hq
          obtain ⟨NO, allO, rfl, heo, hno, hb⟩ := least_good (n := 1) rfl hq FO.out
          have HO1 : Hid (NO = 1) := by rw [hno]; exact one_kind heo
          have K8 := hide (K7.out.later hb)
          clear hq hb heo hno AO
          have hE1 := HEQ.out
          have hE2 := HO1.out
          subst hE1
          subst hE2
          clear HEQ HO1
          go_wp2_with fail
          go_ret
          exact ⟨rfl, K8.out.now.1.1⟩
end Go.Proofs.Ytgpmlfjhihcfhaa
