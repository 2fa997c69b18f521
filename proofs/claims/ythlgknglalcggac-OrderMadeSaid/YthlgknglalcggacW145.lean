/- Walks: one place of the document's table of what is above what. -/
import Derived.Test.YthlgknglalcggacW144
import Derived.Test.YthlgknglalcggacW143
namespace Go.Proofs.Ythlgknglalcggac
open Go.RowKit
set_option linter.unusedSimpArgs false
set_option linter.unusedVariables false
set_option maxRecDepth 8000

/-- The q-th below the i-th: where it stands, and where it ends. -/
theorem kid_facts {A a : Tm} {i : Nat} (hi : (preL [A])[i]? = some a) : i < sizeL [A] ∧ endAt A i = ((i + 1 + sizeL a.args : Nat) : Int) ∧ ∀ q (hq : q < a.args.length), (preL [A])[i + 1 + sizeL (a.args.take q)]? = some a.args[q] ∧ i + 1 + sizeL (a.args.take q) < sizeL [A] ∧ endAt A (i + 1 + sizeL (a.args.take q)) = ((i + 1 + sizeL (a.args.take (q + 1)) : Nat) : Int) ∧ sizeL (a.args.take q) < sizeL a.args := by
  have hpl := preL_len0 [A]
  have hlt : ∀ {j : Nat} {x : Tm}, (preL [A])[j]? = some x → j < (preL [A]).length := fun {j x} h => by
    rcases Nat.lt_or_ge j (preL [A]).length with h' | h'
    · exact h'
    · rw [List.getElem?_eq_none h'] at h; cases h
  have hget : ∀ {j : Nat} {x : Tm} (h : (preL [A])[j]? = some x), endAt A j = (j : Int) + (sizeL [x] : Int) := fun {j x} h => by
    have h1 := hlt h
    rw [endAt_get h1]
    rw [List.getElem?_eq_getElem h1] at h
    cases h
    rfl
  have hsa : sizeL [a] = 1 + sizeL a.args := by obtain ⟨s, l⟩ := a; simp [sizeL]
  refine ⟨by have := hlt hi; omega, by rw [hget hi, hsa]; omega, fun q hq => ?_⟩
  have hk := kid_at [A] i a hi q hq
  have h1 := hlt hk
  have h2 := sizeL_take a.args q hq
  have h3 := sizeL_append (a.args.take (q + 1)) (a.args.drop (q + 1))
  rw [List.take_append_drop] at h3
  have h4 := size_pos a.args[q]
  exact ⟨hk, by omega, by rw [hget hk]; omega, by omega⟩

/-- A row of knots as it lies. -/
def KnR (w : World) (X : Nat → Prop) (A : Tm) (g : Nat) : Prop := ∀ j x, (preL [A])[j]? = some x → ∃ a' c', w.cell? ⟨g, j * 2, none⟩ = some (.string x.name) ∧ w.cell? ⟨g, j * 2 + 1, none⟩ = some (.slice a' x.args.length c') ∧ Sl w X a' x.args
/-- What of the table is filled already. -/
def TabR (row : List ByteArray) (A B : Tm) (w : World) (g i k : Nat) : Prop := ∀ j x, i ≤ j → (preL [A])[j]? = some x → ∃ b' c', w.cell? ⟨g, j, none⟩ = some (.slice (some ⟨b', 0, none⟩) (sizeL [B]) c') ∧ ∀ q y, (i < j ∨ k < q) → (preL [B])[q]? = some y → w.cell? ⟨b', q, none⟩ = some (.bool (pathB row x y))
theorem bcell1 {w w' : World} (hb : Below w.heap.size w w') {b o : Nat} {v : Value} (h : w.cell? ⟨b, o, none⟩ = some v) : w'.cell? ⟨b, o, none⟩ = some v := (hb.cell (p := ⟨b, o, none⟩) (cell_lt h)).trans h

def S1Inv (row : List ByteArray) (i : Nat) (a b : Tm) (aa : Option Addr) (ca : Nat) (ab : Option Addr) (cb : Nat) (w : World) (j : Value) (wr : World) : Prop :=
  ∃ q n : Nat, q ≤ a.args.length ∧ n = i + 1 + sizeL (a.args.take q) ∧ j = .int .i64 (n : Int) ∧ ((a.args.take q).any fun x => sameB x b || pathB row x b) = false ∧ TwW a b aa ca ab cb w wr
def S2Inv (row : List ByteArray) (k : Nat) (a b : Tm) (aa : Option Addr) (ca : Nat) (ab : Option Addr) (cb : Nat) (w : World) (j : Value) (wr : World) : Prop :=
  ∃ q n : Nat, q ≤ b.args.length ∧ n = k + 1 + sizeL (b.args.take q) ∧ j = .int .i64 (n : Int) ∧ ((b.args.take q).all fun y => pathB row a y) = true ∧ TwW a b aa ca ab cb w wr
def S3Inv (i k : Nat) (a b : Tm) (aa : Option Addr) (ca : Nat) (ab : Option Addr) (cb : Nat) (w : World) (m j : Value) (wr : World) : Prop :=
  ∃ q n n' : Nat, q ≤ a.args.length ∧ n = i + 1 + sizeL (a.args.take q) ∧ n' = k + 1 + sizeL (b.args.take q) ∧ j = .int .i64 (n : Int) ∧ m = .int .i64 (n' : Int) ∧ (∀ z (h1 : z < q) (h2 : z < a.args.length) (h3 : z < b.args.length), a.args[z] = b.args[z]) ∧ TwW a b aa ca ab cb w wr

set_option maxHeartbeats 4000000 in
theorem pathStep_any (row : List ByteArray) (hrl : row.length ≤ 1000) (A B a b : Tm) (zA : sizeL [A] ≤ 20000) (zB : sizeL [B] ≤ 20000) (i k : Nat) (hi : (preL [A])[i]? = some a) (hk : (preL [B])[k]? = some b) (u ve vf : Value) (gx cx gy cy gi ci : Nat) (w : World) (X : Nat → Prop)
    (hu : LV Value.string w X u row) (hx : KnR w X A gx) (hy : KnR w X B gy) (he : LV (fun z => .int .i64 z) w X ve (endK A (sizeL [A]))) (hf : LV (fun z => .int .i64 z) w X vf (endK B (sizeL [B]))) (hT : TabR row A B w gi i k) :
    Calls Try.prog 39 #[u, .slice (some ⟨gx, 0, none⟩) (sizeL [A]) cx, .slice (some ⟨gy, 0, none⟩) (sizeL [B]) cy, ve, vf, .slice (some ⟨gi, 0, none⟩) (sizeL [A]) ci, .int .i64 (i : Int), .int .i64 (k : Int)] w fun e w' => e = .returned (.bool (pathB row a b)) ∧ Below w.heap.size w w' := by
  obtain ⟨aa, ca, x0, x1, hsa⟩ := hx i a hi
  obtain ⟨ab, cb, y0, y1, hsb⟩ := hy k b hk
  obtain ⟨fi1, fi2, fi3⟩ := kid_facts hi
  obtain ⟨fk1, fk2, fk3⟩ := kid_facts hk
  have FI := hide fi3
  have FK := hide fk3
  have hii : (i : Int) < (sizeL [A] : Int) := by omega
  have hki : (k : Int) < (sizeL [B] : Int) := by omega
  have HPB := hide (pathB_eq row a b)
  have HA := hide (show TV w X (.agg #[.string a.name, .slice aa a.args.length ca]) a from ⟨aa, ca, rfl, hsa⟩)
  have HB := hide (show TV w X (.agg #[.string b.name, .slice ab b.args.length cb]) b from ⟨ab, cb, rfl, hsb⟩)
  have HU := hide hu
  have HX := hide hx
  have HY := hide hy
  have HT := hide hT
  obtain ⟨ea, ec, rfl, ⟨hel, _⟩, hec⟩ := he
  obtain ⟨fa, fc, rfl, ⟨hfl, _⟩, hfc⟩ := hf
  have hApos := size_pos A
  have hBpos := size_pos B
  have lenA := endK_len A (sizeL [A])
  have lenB := endK_len B (sizeL [B])
  obtain ⟨eb, eo, rfl, _, hec⟩ := hec.resolve_left (fun h => by rw [h] at lenA; simp at lenA; omega)
  obtain ⟨fb, fo, rfl, _, hfc⟩ := hfc.resolve_left (fun h => by rw [h] at lenB; simp at lenB; omega)
  have HEC : Hid (∀ j, j < sizeL [A] → w.cell? ⟨eb, eo + j, none⟩ = some (.int .i64 (endAt A j))) := fun j hj => by
    have h := hec j (by rw [lenA]; exact hj)
    rw [endK_get A _ j hj] at h
    exact h
  have HFC : Hid (∀ j, j < sizeL [B] → w.cell? ⟨fb, fo + j, none⟩ = some (.int .i64 (endAt B j))) := fun j hj => by
    have h := hfc j (by rw [lenB]; exact hj)
    rw [endK_get B _ j hj] at h
    exact h
  rw [lenA, lenB]
  have EI := hide (show w.cell? ⟨eb, eo + i, none⟩ = some (.int .i64 ((i + 1 + sizeL a.args : Nat) : Int)) by rw [← fi2]; exact HEC.out i fi1)
  have EK := hide (show w.cell? ⟨fb, fo + k, none⟩ = some (.int .i64 ((k + 1 + sizeL b.args : Nat) : Int)) by rw [← fk2]; exact HFC.out k fk1)
  clear hec hfc hel hfl lenA lenB fi2 fk2 fi3 fk3 hu hx hy hT hsa hsb
  have y0' := fun o => cell_alloc y0 o
  have y1' := fun o => cell_alloc y1 o
  have A2 := hide (TwW.start a b aa ca ab cb w)
  go_enter Try.func39, Try.ntmps39
  cases hva : varB a.name with
  | true =>
    have HR : Hid (pathB row a b = false) := by unfold Hid; rw [HPB.out, if_pos hva]
    go_wp2_with (go_at_call 35; refine (isVarR_any _ _).mono ?_; rintro e w' ⟨rfl, rfl⟩; rw [hva])
    go_ret
    exact ⟨by rw [HR.out]; rfl, A2.out.bl⟩
  | false =>
    go_wp2_with (go_at_call 35; refine (isVarR_any _ _).mono ?_; rintro e w' ⟨rfl, rfl⟩; rw [hva])
    generalize ((w.alloc (.cells #[.string a.name, .slice aa a.args.length ca] 25)).alloc (.cells #[.string b.name, .slice ab b.args.length cb] 25)) = w2 at *
    clear y0' y1' x0 x1 y0 y1
    go_loopw [19] (fun j wr => S1Inv row i a b aa ca ab cb w j wr) (fun j wr => i + 1 + sizeL a.args - (intOf j).toNat)
    case atStart => exact ⟨0, i + 1, Nat.zero_le _, by simp [sizeL], by simp, by simp, A2.out⟩
    case round =>
      clear A2
      obtain ⟨q, n, hq, hn, rfl, hany, hTw⟩ := hrel
      have HANY := hide hany
      have HTW := hide hTw
      have HN := hide hn
      have ei : wr.cell? ⟨eb, eo + i, none⟩ = some (.int .i64 ((i + 1 + sizeL a.args : Nat) : Int)) := bcell1 hTw.bl EI.out
      clear hany hTw hn
      by_cases hlt : q < a.args.length
      · obtain ⟨g1, g2, g3, g4⟩ := FI.out q hlt
        rw [← HN.out] at g1 g2 g3
        have hni : (n : Int) < ((i + 1 + sizeL a.args : Nat) : Int) := by have := HN.out; omega
        have hnA : (n : Int) < (sizeL [A] : Int) := by omega
        obtain ⟨a1, c1, d0, d1, hs1⟩ := HX.out n _ g1
        obtain ⟨bt, ct, d2, d3⟩ := HT.out n _ (by have := HN.out; omega) g1
        have d4 := d3 k b (Or.inl (by have := HN.out; omega)) hk
        have en := HEC.out n g2
        rw [g3] at en
        have HD : Hid (∀ w', Below w.heap.size w w' → w'.cell? ⟨gx, n * 2, none⟩ = some (.string a.args[q].name) ∧ w'.cell? ⟨gx, n * 2 + 1, none⟩ = some (.slice a1 a.args[q].args.length c1) ∧ w'.cell? ⟨gi, n, none⟩ = some (.slice (some ⟨bt, 0, none⟩) (sizeL [B]) ct) ∧ w'.cell? ⟨bt, k, none⟩ = some (.bool (pathB row a.args[q] b))) := fun w' hb => ⟨bcell1 hb d0, bcell1 hb d1, bcell1 hb d2, bcell1 hb d4⟩
        have HX1 := hide (show TV w X (.agg #[.string a.args[q].name, .slice a1 a.args[q].args.length c1]) a.args[q] from ⟨a1, c1, rfl, hs1⟩)
        have HEN : Hid (∀ w', Below w.heap.size w w' → w'.cell? ⟨eb, eo + n, none⟩ = some (.int .i64 ((i + 1 + sizeL (a.args.take (q + 1)) : Nat) : Int))) := fun w' hb => bcell1 hb en
        have HYES : Hid ((sameB a.args[q] b || pathB row a.args[q] b) = true → (a.args.any fun x => sameB x b || pathB row x b) = true) := fun h => (any_take hlt HANY.out).1 h
        have HNO : Hid ((sameB a.args[q] b || pathB row a.args[q] b) = false → ((a.args.take (q + 1)).any fun x => sameB x b || pathB row x b) = false) := fun h => (any_take hlt HANY.out).2 h
        have hst : sizeL (a.args.take q) < sizeL (a.args.take (q + 1)) := by have := sizeL_take a.args q hlt; have := size_pos a.args[q]; omega
        have hst2 : sizeL (a.args.take (q + 1)) ≤ sizeL a.args := by have h3 := sizeL_append (a.args.take (q + 1)) (a.args.drop (q + 1)); rw [List.take_append_drop] at h3; omega
        have HST := hide (And.intro hst hst2)
        generalize a.args[q] = x at *
        clear hs1 d0 d1 d2 d3 d4 en g1 g3 g4 hst hst2
        have HS0 : Hid (TwW a b aa ca ab cb w wr.drew) := HTW.out.later (below_drewN (Below.refl _ _) 1)
        go_wp2_with fail
        refine wp_region_held_drew (S := TwW a b aa ca ab cb w) (by kernel_rfl) HS0.out (fun hHeld => ?_)
        refine wpAnyH_take (i := 0) (v := ?_) rfl (by kernel_rfl) (by kernel_rfl) (by kernel_rfl) (fun _ _ _ h => h) (Or.inl ⟨by rfl, ?_⟩) (by assumption) ?_
        rotate_left
        · intro w' hSw
          have r0 : w'.cell? ⟨w.heap.size, 0, none⟩ = some (.string a.name) := hSw.k1.cell 0
          have r1 : w'.cell? ⟨w.heap.size, 1, none⟩ = some (.slice aa a.args.length ca) := hSw.k1.cell 1
          have s0 : w'.cell? ⟨w.heap.size + 1, 0, none⟩ = some (.string b.name) := hSw.k2.cell 0
          have s1 : w'.cell? ⟨w.heap.size + 1, 1, none⟩ = some (.slice ab b.args.length cb) := hSw.k2.cell 1
          obtain ⟨t0, t1, t2, t3⟩ := HD.out w' hSw.bl
          go_simp <;> with_reducible rfl
        try simp only [Act.put, List.setIfInBounds_toArray, List.set_cons_zero, List.set_cons_succ, List.getElem_toArray, List.getElem_cons_succ, List.getElem_cons_zero]
        refine wpAnyH_take (i := 1) (v := ?_) rfl (by kernel_rfl) (by kernel_rfl) (by kernel_rfl) (fun _ _ _ h => h) (Or.inl ⟨by rfl, ?_⟩) (by assumption) ?_
        rotate_left
        · intro w' hSw
          have r0 : w'.cell? ⟨w.heap.size, 0, none⟩ = some (.string a.name) := hSw.k1.cell 0
          have r1 : w'.cell? ⟨w.heap.size, 1, none⟩ = some (.slice aa a.args.length ca) := hSw.k1.cell 1
          have s0 : w'.cell? ⟨w.heap.size + 1, 0, none⟩ = some (.string b.name) := hSw.k2.cell 0
          have s1 : w'.cell? ⟨w.heap.size + 1, 1, none⟩ = some (.slice ab b.args.length cb) := hSw.k2.cell 1
          obtain ⟨t0, t1, t2, t3⟩ := HD.out w' hSw.bl
          go_simp <;> with_reducible rfl
        try simp only [Act.put, List.setIfInBounds_toArray, List.set_cons_zero, List.set_cons_succ, List.getElem_toArray, List.getElem_cons_succ, List.getElem_cons_zero]
        refine wpAnyH_take (i := 2) (v := ?_) rfl (by kernel_rfl) (by kernel_rfl) (by kernel_rfl) (fun _ _ _ h => h) (Or.inl ⟨by rfl, ?_⟩) (by assumption) ?_
        rotate_left
        · intro w' hSw
          have r0 : w'.cell? ⟨w.heap.size, 0, none⟩ = some (.string a.name) := hSw.k1.cell 0
          have r1 : w'.cell? ⟨w.heap.size, 1, none⟩ = some (.slice aa a.args.length ca) := hSw.k1.cell 1
          have s0 : w'.cell? ⟨w.heap.size + 1, 0, none⟩ = some (.string b.name) := hSw.k2.cell 0
          have s1 : w'.cell? ⟨w.heap.size + 1, 1, none⟩ = some (.slice ab b.args.length cb) := hSw.k2.cell 1
          obtain ⟨t0, t1, t2, t3⟩ := HD.out w' hSw.bl
          go_simp <;> with_reducible rfl
        try simp only [Act.put, List.setIfInBounds_toArray, List.set_cons_zero, List.set_cons_succ, List.getElem_toArray, List.getElem_cons_succ, List.getElem_cons_zero]
        refine wpAnyH_take (i := 3) (v := ?_) rfl (by kernel_rfl) (by kernel_rfl) (by kernel_rfl) (fun _ _ _ h => h) (Or.inl ⟨by rfl, ?_⟩) (by assumption) ?_
        rotate_left
        · intro w' hSw
          have r0 : w'.cell? ⟨w.heap.size, 0, none⟩ = some (.string a.name) := hSw.k1.cell 0
          have r1 : w'.cell? ⟨w.heap.size, 1, none⟩ = some (.slice aa a.args.length ca) := hSw.k1.cell 1
          have s0 : w'.cell? ⟨w.heap.size + 1, 0, none⟩ = some (.string b.name) := hSw.k2.cell 0
          have s1 : w'.cell? ⟨w.heap.size + 1, 1, none⟩ = some (.slice ab b.args.length cb) := hSw.k2.cell 1
          obtain ⟨t0, t1, t2, t3⟩ := HD.out w' hSw.bl
          go_simp <;> with_reducible rfl
        try simp only [Act.put, List.setIfInBounds_toArray, List.set_cons_zero, List.set_cons_succ, List.getElem_toArray, List.getElem_cons_succ, List.getElem_cons_zero]
        refine wpAnyH_take (i := 4) (v := ?_) rfl (by kernel_rfl) (by kernel_rfl) (by kernel_rfl) (fun _ _ _ h => h) (Or.inl ⟨by rfl, ?_⟩) (by assumption) ?_
        rotate_left
        · intro w' hSw
          have r0 : w'.cell? ⟨w.heap.size, 0, none⟩ = some (.string a.name) := hSw.k1.cell 0
          have r1 : w'.cell? ⟨w.heap.size, 1, none⟩ = some (.slice aa a.args.length ca) := hSw.k1.cell 1
          have s0 : w'.cell? ⟨w.heap.size + 1, 0, none⟩ = some (.string b.name) := hSw.k2.cell 0
          have s1 : w'.cell? ⟨w.heap.size + 1, 1, none⟩ = some (.slice ab b.args.length cb) := hSw.k2.cell 1
          obtain ⟨t0, t1, t2, t3⟩ := HD.out w' hSw.bl
          go_simp <;> with_reducible rfl
        try simp only [Act.put, List.setIfInBounds_toArray, List.set_cons_zero, List.set_cons_succ, List.getElem_toArray, List.getElem_cons_succ, List.getElem_cons_zero]
        refine wpAnyH_ready (rs := [5]) (by kernel_rfl) (by simp) ?_
        refine AllReadyH.cons rfl (fun K hK => ?_) AllReadyH.nil
        go_simp
        go_at_call 27
        refine (sameR_all x b _ _ _ X X (by exact HX1.out.later hHeld.bl) (by exact HB.out.later hHeld.bl)).mono ?_
        rintro e w5 ⟨rfl, hb5⟩
        have H5 := hide (hHeld.later hb5)
        clear hb5
        go_simp
        refine hK.out _ _ (by exact H5.out) (fun hHeld => ?_)
        clear hK K
        try simp only [Act.put, List.setIfInBounds_toArray, List.set_cons_zero, List.set_cons_succ, List.getElem_toArray, List.getElem_cons_succ, List.getElem_cons_zero]
        cases hsm : sameB x b with
        | true =>
          refine wpAnyH_take (i := 6) (v := ?_) rfl (by kernel_rfl) (by kernel_rfl) (by kernel_rfl) (fun _ _ _ h => h) (Or.inl ⟨by rfl, ?_⟩) (by assumption) ?_
          rotate_left
          · intro w' hSw
            go_simp <;> with_reducible rfl
          try simp only [Act.put, List.setIfInBounds_toArray, List.set_cons_zero, List.set_cons_succ, List.getElem_toArray, List.getElem_cons_succ, List.getElem_cons_zero]
          refine wpAnyH_take (i := 7) (v := undef) rfl (by kernel_rfl) (by kernel_rfl) (by kernel_rfl) (fun _ _ _ h => h) (Or.inr ⟨by rfl, rfl⟩) (by assumption) ?_
          try simp only [Act.put, List.setIfInBounds_toArray, List.set_cons_zero, List.set_cons_succ, List.getElem_toArray, List.getElem_cons_succ, List.getElem_cons_zero]
          refine wpAnyH_take (i := 8) (v := undef) rfl (by kernel_rfl) (by kernel_rfl) (by kernel_rfl) (fun _ _ _ h => h) (Or.inr ⟨by rfl, rfl⟩) (by assumption) ?_
          try simp only [Act.put, List.setIfInBounds_toArray, List.set_cons_zero, List.set_cons_succ, List.getElem_toArray, List.getElem_cons_succ, List.getElem_cons_zero]
          refine wpAnyH_take (i := 9) (v := undef) rfl (by kernel_rfl) (by kernel_rfl) (by kernel_rfl) (fun _ _ _ h => h) (Or.inr ⟨by rfl, rfl⟩) (by assumption) ?_
          try simp only [Act.put, List.setIfInBounds_toArray, List.set_cons_zero, List.set_cons_succ, List.getElem_toArray, List.getElem_cons_succ, List.getElem_cons_zero]
          refine wpAnyH_take (i := 10) (v := undef) rfl (by kernel_rfl) (by kernel_rfl) (by kernel_rfl) (fun _ _ _ h => h) (Or.inr ⟨by rfl, rfl⟩) (by assumption) ?_
          try simp only [Act.put, List.setIfInBounds_toArray, List.set_cons_zero, List.set_cons_succ, List.getElem_toArray, List.getElem_cons_succ, List.getElem_cons_zero]
          refine wpAnyH_take (i := 11) (v := undef) rfl (by kernel_rfl) (by kernel_rfl) (by kernel_rfl) (fun _ _ _ h => h) (Or.inr ⟨by rfl, rfl⟩) (by assumption) ?_
          try simp only [Act.put, List.setIfInBounds_toArray, List.set_cons_zero, List.set_cons_succ, List.getElem_toArray, List.getElem_cons_succ, List.getElem_cons_zero]
          refine wpAnyH_take (i := 12) (v := undef) rfl (by kernel_rfl) (by kernel_rfl) (by kernel_rfl) (fun _ _ _ h => h) (Or.inr ⟨by rfl, rfl⟩) (by assumption) ?_
          try simp only [Act.put, List.setIfInBounds_toArray, List.set_cons_zero, List.set_cons_succ, List.getElem_toArray, List.getElem_cons_succ, List.getElem_cons_zero]
          refine wpAnyH_take (i := 13) (v := undef) rfl (by kernel_rfl) (by kernel_rfl) (by kernel_rfl) (fun _ _ _ h => h) (Or.inr ⟨by rfl, rfl⟩) (by assumption) ?_
          try simp only [Act.put, List.setIfInBounds_toArray, List.set_cons_zero, List.set_cons_succ, List.getElem_toArray, List.getElem_cons_succ, List.getElem_cons_zero]
          refine wpAnyH_take (i := 14) (v := ?_) rfl (by kernel_rfl) (by kernel_rfl) (by kernel_rfl) (fun _ _ _ h => h) (Or.inl ⟨by rfl, ?_⟩) (by assumption) ?_
          rotate_left
          · intro w' hSw
            go_simp <;> with_reducible rfl
          try simp only [Act.put, List.setIfInBounds_toArray, List.set_cons_zero, List.set_cons_succ, List.getElem_toArray, List.getElem_cons_succ, List.getElem_cons_zero]
          refine wpAnyH_done (by kernel_rfl) ?_ _
          have HR : Hid (pathB row a b = true) := by unfold Hid; rw [HPB.out, if_neg (by rw [hva]; simp), if_pos (HYES.out (by rw [hsm]; rfl))]
          go_wp2_with fail
          go_ret
          exact ⟨by rw [HR.out]; rfl, H5.out.bl⟩
        | false =>
          refine wpAnyH_take (i := 6) (v := ?_) rfl (by kernel_rfl) (by kernel_rfl) (by kernel_rfl) (fun _ _ _ h => h) (Or.inl ⟨by rfl, ?_⟩) (by assumption) ?_
          rotate_left
          · intro w' hSw
            go_simp <;> with_reducible rfl
          try simp only [Act.put, List.setIfInBounds_toArray, List.set_cons_zero, List.set_cons_succ, List.getElem_toArray, List.getElem_cons_succ, List.getElem_cons_zero]
          refine wpAnyH_take (i := 7) (v := ?_) rfl (by kernel_rfl) (by kernel_rfl) (by kernel_rfl) (fun _ _ _ h => h) (Or.inl ⟨by rfl, ?_⟩) (by assumption) ?_
          rotate_left
          · intro w' hSw
            have r0 : w'.cell? ⟨w.heap.size, 0, none⟩ = some (.string a.name) := hSw.k1.cell 0
            have r1 : w'.cell? ⟨w.heap.size, 1, none⟩ = some (.slice aa a.args.length ca) := hSw.k1.cell 1
            have s0 : w'.cell? ⟨w.heap.size + 1, 0, none⟩ = some (.string b.name) := hSw.k2.cell 0
            have s1 : w'.cell? ⟨w.heap.size + 1, 1, none⟩ = some (.slice ab b.args.length cb) := hSw.k2.cell 1
            obtain ⟨t0, t1, t2, t3⟩ := HD.out w' hSw.bl
            go_simp <;> with_reducible rfl
          try simp only [Act.put, List.setIfInBounds_toArray, List.set_cons_zero, List.set_cons_succ, List.getElem_toArray, List.getElem_cons_succ, List.getElem_cons_zero]
          refine wpAnyH_take (i := 8) (v := ?_) rfl (by kernel_rfl) (by kernel_rfl) (by kernel_rfl) (fun _ _ _ h => h) (Or.inl ⟨by rfl, ?_⟩) (by assumption) ?_
          rotate_left
          · intro w' hSw
            have r0 : w'.cell? ⟨w.heap.size, 0, none⟩ = some (.string a.name) := hSw.k1.cell 0
            have r1 : w'.cell? ⟨w.heap.size, 1, none⟩ = some (.slice aa a.args.length ca) := hSw.k1.cell 1
            have s0 : w'.cell? ⟨w.heap.size + 1, 0, none⟩ = some (.string b.name) := hSw.k2.cell 0
            have s1 : w'.cell? ⟨w.heap.size + 1, 1, none⟩ = some (.slice ab b.args.length cb) := hSw.k2.cell 1
            obtain ⟨t0, t1, t2, t3⟩ := HD.out w' hSw.bl
            go_simp <;> with_reducible rfl
          try simp only [Act.put, List.setIfInBounds_toArray, List.set_cons_zero, List.set_cons_succ, List.getElem_toArray, List.getElem_cons_succ, List.getElem_cons_zero]
          refine wpAnyH_take (i := 9) (v := ?_) rfl (by kernel_rfl) (by kernel_rfl) (by kernel_rfl) (fun _ _ _ h => h) (Or.inl ⟨by rfl, ?_⟩) (by assumption) ?_
          rotate_left
          · intro w' hSw
            have r0 : w'.cell? ⟨w.heap.size, 0, none⟩ = some (.string a.name) := hSw.k1.cell 0
            have r1 : w'.cell? ⟨w.heap.size, 1, none⟩ = some (.slice aa a.args.length ca) := hSw.k1.cell 1
            have s0 : w'.cell? ⟨w.heap.size + 1, 0, none⟩ = some (.string b.name) := hSw.k2.cell 0
            have s1 : w'.cell? ⟨w.heap.size + 1, 1, none⟩ = some (.slice ab b.args.length cb) := hSw.k2.cell 1
            obtain ⟨t0, t1, t2, t3⟩ := HD.out w' hSw.bl
            go_simp <;> with_reducible rfl
          try simp only [Act.put, List.setIfInBounds_toArray, List.set_cons_zero, List.set_cons_succ, List.getElem_toArray, List.getElem_cons_succ, List.getElem_cons_zero]
          refine wpAnyH_take (i := 10) (v := ?_) rfl (by kernel_rfl) (by kernel_rfl) (by kernel_rfl) (fun _ _ _ h => h) (Or.inl ⟨by rfl, ?_⟩) (by assumption) ?_
          rotate_left
          · intro w' hSw
            have r0 : w'.cell? ⟨w.heap.size, 0, none⟩ = some (.string a.name) := hSw.k1.cell 0
            have r1 : w'.cell? ⟨w.heap.size, 1, none⟩ = some (.slice aa a.args.length ca) := hSw.k1.cell 1
            have s0 : w'.cell? ⟨w.heap.size + 1, 0, none⟩ = some (.string b.name) := hSw.k2.cell 0
            have s1 : w'.cell? ⟨w.heap.size + 1, 1, none⟩ = some (.slice ab b.args.length cb) := hSw.k2.cell 1
            obtain ⟨t0, t1, t2, t3⟩ := HD.out w' hSw.bl
            go_simp <;> with_reducible rfl
          try simp only [Act.put, List.setIfInBounds_toArray, List.set_cons_zero, List.set_cons_succ, List.getElem_toArray, List.getElem_cons_succ, List.getElem_cons_zero]
          refine wpAnyH_take (i := 11) (v := ?_) rfl (by kernel_rfl) (by kernel_rfl) (by kernel_rfl) (fun _ _ _ h => h) (Or.inl ⟨by rfl, ?_⟩) (by assumption) ?_
          rotate_left
          · intro w' hSw
            have r0 : w'.cell? ⟨w.heap.size, 0, none⟩ = some (.string a.name) := hSw.k1.cell 0
            have r1 : w'.cell? ⟨w.heap.size, 1, none⟩ = some (.slice aa a.args.length ca) := hSw.k1.cell 1
            have s0 : w'.cell? ⟨w.heap.size + 1, 0, none⟩ = some (.string b.name) := hSw.k2.cell 0
            have s1 : w'.cell? ⟨w.heap.size + 1, 1, none⟩ = some (.slice ab b.args.length cb) := hSw.k2.cell 1
            obtain ⟨t0, t1, t2, t3⟩ := HD.out w' hSw.bl
            go_simp <;> with_reducible rfl
          try simp only [Act.put, List.setIfInBounds_toArray, List.set_cons_zero, List.set_cons_succ, List.getElem_toArray, List.getElem_cons_succ, List.getElem_cons_zero]
          refine wpAnyH_take (i := 12) (v := ?_) rfl (by kernel_rfl) (by kernel_rfl) (by kernel_rfl) (fun _ _ _ h => h) (Or.inl ⟨by rfl, ?_⟩) (by assumption) ?_
          rotate_left
          · intro w' hSw
            have r0 : w'.cell? ⟨w.heap.size, 0, none⟩ = some (.string a.name) := hSw.k1.cell 0
            have r1 : w'.cell? ⟨w.heap.size, 1, none⟩ = some (.slice aa a.args.length ca) := hSw.k1.cell 1
            have s0 : w'.cell? ⟨w.heap.size + 1, 0, none⟩ = some (.string b.name) := hSw.k2.cell 0
            have s1 : w'.cell? ⟨w.heap.size + 1, 1, none⟩ = some (.slice ab b.args.length cb) := hSw.k2.cell 1
            obtain ⟨t0, t1, t2, t3⟩ := HD.out w' hSw.bl
            go_simp <;> with_reducible rfl
          try simp only [Act.put, List.setIfInBounds_toArray, List.set_cons_zero, List.set_cons_succ, List.getElem_toArray, List.getElem_cons_succ, List.getElem_cons_zero]
          refine wpAnyH_take (i := 13) (v := ?_) rfl (by kernel_rfl) (by kernel_rfl) (by kernel_rfl) (fun _ _ _ h => h) (Or.inl ⟨by rfl, ?_⟩) (by assumption) ?_
          rotate_left
          · intro w' hSw
            have r0 : w'.cell? ⟨w.heap.size, 0, none⟩ = some (.string a.name) := hSw.k1.cell 0
            have r1 : w'.cell? ⟨w.heap.size, 1, none⟩ = some (.slice aa a.args.length ca) := hSw.k1.cell 1
            have s0 : w'.cell? ⟨w.heap.size + 1, 0, none⟩ = some (.string b.name) := hSw.k2.cell 0
            have s1 : w'.cell? ⟨w.heap.size + 1, 1, none⟩ = some (.slice ab b.args.length cb) := hSw.k2.cell 1
            obtain ⟨t0, t1, t2, t3⟩ := HD.out w' hSw.bl
            go_simp <;> with_reducible rfl
          try simp only [Act.put, List.setIfInBounds_toArray, List.set_cons_zero, List.set_cons_succ, List.getElem_toArray, List.getElem_cons_succ, List.getElem_cons_zero]
          refine wpAnyH_take (i := 14) (v := ?_) rfl (by kernel_rfl) (by kernel_rfl) (by kernel_rfl) (fun _ _ _ h => h) (Or.inl ⟨by rfl, ?_⟩) (by assumption) ?_
          rotate_left
          · intro w' hSw
            go_simp <;> with_reducible rfl
          try simp only [Act.put, List.setIfInBounds_toArray, List.set_cons_zero, List.set_cons_succ, List.getElem_toArray, List.getElem_cons_succ, List.getElem_cons_zero]
          refine wpAnyH_done (by kernel_rfl) ?_ _
          cases hp : pathB row x b with
          | true =>
            have HR : Hid (pathB row a b = true) := by unfold Hid; rw [HPB.out, if_neg (by rw [hva]; simp), if_pos (HYES.out (by rw [hsm, hp]; rfl))]
            go_wp2_with fail
            go_ret
            exact ⟨by rw [HR.out]; rfl, H5.out.bl⟩
          | false =>
            have HR := hide (HNO.out (by rw [hsm, hp]; rfl))
            have en5 := HEN.out _ H5.out.bl
            go_wp2_with fail
            go_roundw
            case rel => exact ⟨q + 1, _, by omega, rfl, rfl, HR.out, H5.out⟩
            case measure => have h1 := HST.out; have h2 := HN.out; simp only [intOf]; omega
      · have hqe : q = a.args.length := by omega
        have htk : a.args.take q = a.args := List.take_of_length_le (by omega)
        have hne : n = i + 1 + sizeL a.args := by have := HN.out; rw [htk] at this; exact this
        subst hne
        have HAN : Hid ((a.args.any fun x => sameB x b || pathB row x b) = false) := by unfold Hid; have h := HANY.out; rw [htk] at h; exact h
        clear htk HANY HN hqe hq hlt
        have r0 : wr.cell? ⟨w.heap.size, 0, none⟩ = some (.string a.name) := HTW.out.k1.cell 0
        have r1 : wr.cell? ⟨w.heap.size, 1, none⟩ = some (.slice aa a.args.length ca) := HTW.out.k1.cell 1
        have s0 : wr.cell? ⟨w.heap.size + 1, 0, none⟩ = some (.string b.name) := HTW.out.k2.cell 0
        have s1 : wr.cell? ⟨w.heap.size + 1, 1, none⟩ = some (.slice ab b.args.length cb) := HTW.out.k2.cell 1
        cases hvb : varB b.name with
        | true =>
          have HR : Hid (pathB row a b = false) := by unfold Hid; rw [HPB.out, if_neg (by rw [hva]; simp), if_neg (by rw [HAN.out]; simp), if_pos hvb]
          go_wp2_with (go_at_call 35; refine (isVarR_any _ _).mono ?_; rintro e w' ⟨rfl, rfl⟩; rw [hvb])
          go_ret
          exact ⟨by rw [HR.out]; rfl, HTW.out.bl⟩
        | false =>
          have HEAD : Hid (pathB row a b = if gtS row b a = true then false else if (b.args.all fun y => pathB row a y) = false then false else if gtS row a b = true then true else match unl a.args b.args with | none => false | some (x, y) => pathB row x y) := by
            unfold Hid
            rw [HPB.out, if_neg (by rw [hva]; simp), if_neg (by rw [HAN.out]; simp), if_neg (by rw [hvb]; simp)]
            cases unl a.args b.args with
            | none => rfl
            | some p => rfl
          clear HPB HAN
          go_wp2_with (go_at_call 35; refine (isVarR_any _ _).mono ?_; rintro e w' ⟨rfl, rfl⟩; rw [hvb])
          refine (greater_any row b a _ _ _ _ X hrl (by exact HU.out.later HTW.out.bl) (by exact HB.out.later HTW.out.bl) (by exact HA.out.later HTW.out.bl)).mono ?_
          rintro e w5 ⟨rfl, hb5⟩
          have A5 := hide (HTW.out.later hb5)
          clear hb5 HTW hva hvb
          clear r0 r1 s0 s1
          cases hg1 : gtS row b a with
          | true =>
            have HR : Hid (pathB row a b = false) := by unfold Hid; rw [HEAD.out, if_pos hg1]
            go_wp2_with fail
            go_ret
            exact ⟨by rw [HR.out]; rfl, A5.out.bl⟩
          | false =>
            have G1 := hide hg1
            clear hg1 ei
            go_wp2_with fail
            go_loopw [20] (fun j wr => S2Inv row k a b aa ca ab cb w j wr) (fun j wr => k + 1 + sizeL b.args - (intOf j).toNat)
            case atStart => exact ⟨0, k + 1, Nat.zero_le _, by simp [sizeL], by simp, by simp, A5.out⟩
            case round =>
              clear A5
              obtain ⟨q, n, hq, hn, rfl, hall, hTw⟩ := hrel
              have HALL := hide hall
              have HTW := hide hTw
              have HN := hide hn
              have ek : wr.cell? ⟨fb, fo + k, none⟩ = some (.int .i64 ((k + 1 + sizeL b.args : Nat) : Int)) := bcell1 hTw.bl EK.out
              clear hall hTw hn
              by_cases hlt : q < b.args.length
              · obtain ⟨g1, g2, g3, g4⟩ := FK.out q hlt
                rw [← HN.out] at g1 g2 g3
                have hni : (n : Int) < ((k + 1 + sizeL b.args : Nat) : Int) := by have := HN.out; omega
                have hnB : (n : Int) < (sizeL [B] : Int) := by omega
                obtain ⟨bt, ct, d2, d3⟩ := HT.out i _ (Nat.le_refl _) hi
                have d4 := d3 n _ (Or.inr (by have := HN.out; omega)) g1
                have en := HFC.out n g2
                rw [g3] at en
                have e2 : wr.cell? ⟨gi, i, none⟩ = some (.slice (some ⟨bt, 0, none⟩) (sizeL [B]) ct) := bcell1 HTW.out.bl d2
                have e4 : wr.cell? ⟨bt, n, none⟩ = some (.bool (pathB row a b.args[q])) := bcell1 HTW.out.bl d4
                have e5 : wr.cell? ⟨fb, fo + n, none⟩ = some (.int .i64 ((k + 1 + sizeL (b.args.take (q + 1)) : Nat) : Int)) := bcell1 HTW.out.bl en
                have hst : sizeL (b.args.take q) < sizeL (b.args.take (q + 1)) := by have := sizeL_take b.args q hlt; have := size_pos b.args[q]; omega
                have hst2 : sizeL (b.args.take (q + 1)) ≤ sizeL b.args := by have h3 := sizeL_append (b.args.take (q + 1)) (b.args.drop (q + 1)); rw [List.take_append_drop] at h3; omega
                have HST := hide (And.intro hst hst2)
                have HYES : Hid (pathB row a b.args[q] = false → (b.args.all fun y => pathB row a y) = false) := fun h => (all_take hlt HALL.out).1 h
                have HNO : Hid (pathB row a b.args[q] = true → ((b.args.take (q + 1)).all fun y => pathB row a y) = true) := fun h => (all_take hlt HALL.out).2 h
                generalize b.args[q] = y at *
                clear d2 d3 d4 en g1 g3 g4 hst hst2
                cases hp : pathB row a y with
                | false =>
                  rw [hp] at e4
                  have HR : Hid (pathB row a b = false) := by unfold Hid; rw [HEAD.out, if_neg (by rw [G1.out]; simp), if_pos (HYES.out hp)]
                  go_wp2_with fail
                  go_ret
                  exact ⟨by rw [HR.out]; rfl, HTW.out.bl⟩
                | true =>
                  rw [hp] at e4
                  have HR := hide (HNO.out hp)
                  go_wp2_with fail
                  go_roundw
                  case rel => exact ⟨q + 1, _, by omega, rfl, rfl, HR.out, HTW.out⟩
                  case measure => have h1 := HST.out; have h2 := HN.out; simp only [intOf]; omega
              · have htk : b.args.take q = b.args := List.take_of_length_le (by omega)
                have hne : n = k + 1 + sizeL b.args := by have := HN.out; rw [htk] at this; exact this
                subst hne
                have HAL : Hid ((b.args.all fun y => pathB row a y) = true) := by unfold Hid; have h := HALL.out; rw [htk] at h; exact h
                clear htk HALL HN hq hlt
                have r0 : wr.cell? ⟨w.heap.size, 0, none⟩ = some (.string a.name) := HTW.out.k1.cell 0
                have r1 : wr.cell? ⟨w.heap.size, 1, none⟩ = some (.slice aa a.args.length ca) := HTW.out.k1.cell 1
                have s0 : wr.cell? ⟨w.heap.size + 1, 0, none⟩ = some (.string b.name) := HTW.out.k2.cell 0
                have s1 : wr.cell? ⟨w.heap.size + 1, 1, none⟩ = some (.slice ab b.args.length cb) := HTW.out.k2.cell 1
                go_wp2_with fail
                refine (greater_any row a b _ _ _ _ X hrl (by exact HU.out.later HTW.out.bl) (by exact HA.out.later HTW.out.bl) (by exact HB.out.later HTW.out.bl)).mono ?_
                rintro e w6 ⟨rfl, hb6⟩
                have A6 := hide (HTW.out.later hb6)
                clear hb6 HTW
                clear r0 r1 s0 s1
                cases hg2 : gtS row a b with
                | true =>
                  have HR : Hid (pathB row a b = true) := by unfold Hid; rw [HEAD.out, if_neg (by rw [G1.out]; simp), if_neg (by rw [HAL.out]; simp), if_pos hg2]
                  go_wp2_with fail
                  go_ret
                  exact ⟨by rw [HR.out]; rfl, A6.out.bl⟩
                | false =>
                  have HLEN := hide (gtS_same hg2 G1.out).2
                  have HLAST : Hid (pathB row a b = match unl a.args b.args with | none => false | some (x, y) => pathB row x y) := by unfold Hid; rw [HEAD.out, if_neg (by rw [G1.out]; simp), if_neg (by rw [HAL.out]; simp), if_neg (by rw [hg2]; simp)]
                  clear HEAD HAL G1 hg2 ek
                  go_wp2_with fail
                  go_loopw [21, 22] (fun m j wr => S3Inv i k a b aa ca ab cb w m j wr) (fun m j wr => i + 1 + sizeL a.args - (intOf j).toNat)
                  case atStart => exact ⟨0, i + 1, k + 1, Nat.zero_le _, by simp [sizeL], by simp [sizeL], by simp, by simp, fun z h => by omega, A6.out⟩
                  case round =>
                    clear A6
                    obtain ⟨q, n, n', hq, hn, hn', rfl, rfl, hall, hTw⟩ := hrel
                    have HALL := hide hall
                    have HTW := hide hTw
                    have HN := hide (And.intro hn hn')
                    have ei : wr.cell? ⟨eb, eo + i, none⟩ = some (.int .i64 ((i + 1 + sizeL a.args : Nat) : Int)) := bcell1 hTw.bl EI.out
                    clear hall hTw hn hn'
                    by_cases hlt : q < a.args.length
                    · have hlt2 : q < b.args.length := by have := HLEN.out; omega
                      obtain ⟨g1, g2, g3, g4⟩ := FI.out q hlt
                      obtain ⟨k1, k2, k3, k4⟩ := FK.out q hlt2
                      rw [← HN.out.1] at g1 g2 g3
                      rw [← HN.out.2] at k1 k2 k3
                      have hni : (n : Int) < ((i + 1 + sizeL a.args : Nat) : Int) := by have := HN.out.1; omega
                      have hnA : (n : Int) < (sizeL [A] : Int) := by omega
                      have hnB : (n' : Int) < (sizeL [B] : Int) := by omega
                      obtain ⟨a1, c1, d0, d1, hs1⟩ := HX.out n _ g1
                      obtain ⟨a2, c2, f0, f1, hs2⟩ := HY.out n' _ k1
                      obtain ⟨bt, ct, d2, d3⟩ := HT.out n _ (by have := HN.out.1; omega) g1
                      have d4 := d3 n' _ (Or.inl (by have := HN.out.1; omega)) k1
                      have en := HEC.out n g2
                      rw [g3] at en
                      have fn := HFC.out n' k2
                      rw [k3] at fn
                      have HD : Hid (∀ w', Below w.heap.size w w' → w'.cell? ⟨gx, n * 2, none⟩ = some (.string a.args[q].name) ∧ w'.cell? ⟨gx, n * 2 + 1, none⟩ = some (.slice a1 a.args[q].args.length c1) ∧ w'.cell? ⟨gy, n' * 2, none⟩ = some (.string b.args[q].name) ∧ w'.cell? ⟨gy, n' * 2 + 1, none⟩ = some (.slice a2 b.args[q].args.length c2)) := fun w' hb => ⟨bcell1 hb d0, bcell1 hb d1, bcell1 hb f0, bcell1 hb f1⟩
                      have HTB : Hid (∀ w', Below w.heap.size w w' → w'.cell? ⟨gi, n, none⟩ = some (.slice (some ⟨bt, 0, none⟩) (sizeL [B]) ct) ∧ w'.cell? ⟨bt, n', none⟩ = some (.bool (pathB row a.args[q] b.args[q])) ∧ w'.cell? ⟨eb, eo + n, none⟩ = some (.int .i64 ((i + 1 + sizeL (a.args.take (q + 1)) : Nat) : Int)) ∧ w'.cell? ⟨fb, fo + n', none⟩ = some (.int .i64 ((k + 1 + sizeL (b.args.take (q + 1)) : Nat) : Int))) := fun w' hb => ⟨bcell1 hb d2, bcell1 hb d4, bcell1 hb en, bcell1 hb fn⟩
                      have HX1 := hide (show TV w X (.agg #[.string a.args[q].name, .slice a1 a.args[q].args.length c1]) a.args[q] from ⟨a1, c1, rfl, hs1⟩)
                      have HY1 := hide (show TV w X (.agg #[.string b.args[q].name, .slice a2 b.args[q].args.length c2]) b.args[q] from ⟨a2, c2, rfl, hs2⟩)
                      have hst : sizeL (a.args.take q) < sizeL (a.args.take (q + 1)) := by have := sizeL_take a.args q hlt; have := size_pos a.args[q]; omega
                      have hst2 : sizeL (a.args.take (q + 1)) ≤ sizeL a.args := by have h3 := sizeL_append (a.args.take (q + 1)) (a.args.drop (q + 1)); rw [List.take_append_drop] at h3; omega
                      have HST := hide (And.intro hst hst2)
                      have HU1 : Hid (a.args[q] ≠ b.args[q] → unl a.args b.args = some (a.args[q], b.args[q])) := fun he => unl_from hlt hlt2 (fun j hj => HALL.out j hj (by omega) (by omega)) he
                      have HU2 : Hid (a.args[q] = b.args[q] → ∀ j (h1 : j < q + 1) (h2 : j < a.args.length) (h3 : j < b.args.length), a.args[j] = b.args[j]) := fun he j h1 h2 h3 => by
                        by_cases hj : j = q
                        · subst hj; exact he
                        · exact HALL.out j (by omega) h2 h3
                      generalize a.args[q] = x at *
                      generalize b.args[q] = y at *
                      clear hs1 hs2 d0 d1 d2 d3 d4 f0 f1 en fn g1 g3 g4 k1 k3 k4 hst hst2
                      have HS0 : Hid (TwW a b aa ca ab cb w wr.drew) := HTW.out.later (below_drewN (Below.refl _ _) 1)
                      go_wp2_with fail
                      refine wp_region_held_drew (S := TwW a b aa ca ab cb w) (by kernel_rfl) HS0.out (fun hHeld => ?_)
                      refine wpAnyH_take (i := 0) (v := ?_) rfl (by kernel_rfl) (by kernel_rfl) (by kernel_rfl) (fun _ _ _ h => h) (Or.inl ⟨by rfl, ?_⟩) (by assumption) ?_
                      rotate_left
                      · intro w' hSw
                        have r0 : w'.cell? ⟨w.heap.size, 0, none⟩ = some (.string a.name) := hSw.k1.cell 0
                        have r1 : w'.cell? ⟨w.heap.size, 1, none⟩ = some (.slice aa a.args.length ca) := hSw.k1.cell 1
                        have s0 : w'.cell? ⟨w.heap.size + 1, 0, none⟩ = some (.string b.name) := hSw.k2.cell 0
                        have s1 : w'.cell? ⟨w.heap.size + 1, 1, none⟩ = some (.slice ab b.args.length cb) := hSw.k2.cell 1
                        obtain ⟨t0, t1, t2, t3⟩ := HD.out w' hSw.bl
                        go_simp <;> with_reducible rfl
                      try simp only [Act.put, List.setIfInBounds_toArray, List.set_cons_zero, List.set_cons_succ, List.getElem_toArray, List.getElem_cons_succ, List.getElem_cons_zero]
                      refine wpAnyH_take (i := 1) (v := ?_) rfl (by kernel_rfl) (by kernel_rfl) (by kernel_rfl) (fun _ _ _ h => h) (Or.inl ⟨by rfl, ?_⟩) (by assumption) ?_
                      rotate_left
                      · intro w' hSw
                        have r0 : w'.cell? ⟨w.heap.size, 0, none⟩ = some (.string a.name) := hSw.k1.cell 0
                        have r1 : w'.cell? ⟨w.heap.size, 1, none⟩ = some (.slice aa a.args.length ca) := hSw.k1.cell 1
                        have s0 : w'.cell? ⟨w.heap.size + 1, 0, none⟩ = some (.string b.name) := hSw.k2.cell 0
                        have s1 : w'.cell? ⟨w.heap.size + 1, 1, none⟩ = some (.slice ab b.args.length cb) := hSw.k2.cell 1
                        obtain ⟨t0, t1, t2, t3⟩ := HD.out w' hSw.bl
                        go_simp <;> with_reducible rfl
                      try simp only [Act.put, List.setIfInBounds_toArray, List.set_cons_zero, List.set_cons_succ, List.getElem_toArray, List.getElem_cons_succ, List.getElem_cons_zero]
                      refine wpAnyH_take (i := 2) (v := ?_) rfl (by kernel_rfl) (by kernel_rfl) (by kernel_rfl) (fun _ _ _ h => h) (Or.inl ⟨by rfl, ?_⟩) (by assumption) ?_
                      rotate_left
                      · intro w' hSw
                        have r0 : w'.cell? ⟨w.heap.size, 0, none⟩ = some (.string a.name) := hSw.k1.cell 0
                        have r1 : w'.cell? ⟨w.heap.size, 1, none⟩ = some (.slice aa a.args.length ca) := hSw.k1.cell 1
                        have s0 : w'.cell? ⟨w.heap.size + 1, 0, none⟩ = some (.string b.name) := hSw.k2.cell 0
                        have s1 : w'.cell? ⟨w.heap.size + 1, 1, none⟩ = some (.slice ab b.args.length cb) := hSw.k2.cell 1
                        obtain ⟨t0, t1, t2, t3⟩ := HD.out w' hSw.bl
                        go_simp <;> with_reducible rfl
                      try simp only [Act.put, List.setIfInBounds_toArray, List.set_cons_zero, List.set_cons_succ, List.getElem_toArray, List.getElem_cons_succ, List.getElem_cons_zero]
                      refine wpAnyH_take (i := 3) (v := ?_) rfl (by kernel_rfl) (by kernel_rfl) (by kernel_rfl) (fun _ _ _ h => h) (Or.inl ⟨by rfl, ?_⟩) (by assumption) ?_
                      rotate_left
                      · intro w' hSw
                        have r0 : w'.cell? ⟨w.heap.size, 0, none⟩ = some (.string a.name) := hSw.k1.cell 0
                        have r1 : w'.cell? ⟨w.heap.size, 1, none⟩ = some (.slice aa a.args.length ca) := hSw.k1.cell 1
                        have s0 : w'.cell? ⟨w.heap.size + 1, 0, none⟩ = some (.string b.name) := hSw.k2.cell 0
                        have s1 : w'.cell? ⟨w.heap.size + 1, 1, none⟩ = some (.slice ab b.args.length cb) := hSw.k2.cell 1
                        obtain ⟨t0, t1, t2, t3⟩ := HD.out w' hSw.bl
                        go_simp <;> with_reducible rfl
                      try simp only [Act.put, List.setIfInBounds_toArray, List.set_cons_zero, List.set_cons_succ, List.getElem_toArray, List.getElem_cons_succ, List.getElem_cons_zero]
                      refine wpAnyH_take (i := 4) (v := ?_) rfl (by kernel_rfl) (by kernel_rfl) (by kernel_rfl) (fun _ _ _ h => h) (Or.inl ⟨by rfl, ?_⟩) (by assumption) ?_
                      rotate_left
                      · intro w' hSw
                        have r0 : w'.cell? ⟨w.heap.size, 0, none⟩ = some (.string a.name) := hSw.k1.cell 0
                        have r1 : w'.cell? ⟨w.heap.size, 1, none⟩ = some (.slice aa a.args.length ca) := hSw.k1.cell 1
                        have s0 : w'.cell? ⟨w.heap.size + 1, 0, none⟩ = some (.string b.name) := hSw.k2.cell 0
                        have s1 : w'.cell? ⟨w.heap.size + 1, 1, none⟩ = some (.slice ab b.args.length cb) := hSw.k2.cell 1
                        obtain ⟨t0, t1, t2, t3⟩ := HD.out w' hSw.bl
                        go_simp <;> with_reducible rfl
                      try simp only [Act.put, List.setIfInBounds_toArray, List.set_cons_zero, List.set_cons_succ, List.getElem_toArray, List.getElem_cons_succ, List.getElem_cons_zero]
                      refine wpAnyH_take (i := 5) (v := ?_) rfl (by kernel_rfl) (by kernel_rfl) (by kernel_rfl) (fun _ _ _ h => h) (Or.inl ⟨by rfl, ?_⟩) (by assumption) ?_
                      rotate_left
                      · intro w' hSw
                        have r0 : w'.cell? ⟨w.heap.size, 0, none⟩ = some (.string a.name) := hSw.k1.cell 0
                        have r1 : w'.cell? ⟨w.heap.size, 1, none⟩ = some (.slice aa a.args.length ca) := hSw.k1.cell 1
                        have s0 : w'.cell? ⟨w.heap.size + 1, 0, none⟩ = some (.string b.name) := hSw.k2.cell 0
                        have s1 : w'.cell? ⟨w.heap.size + 1, 1, none⟩ = some (.slice ab b.args.length cb) := hSw.k2.cell 1
                        obtain ⟨t0, t1, t2, t3⟩ := HD.out w' hSw.bl
                        go_simp <;> with_reducible rfl
                      try simp only [Act.put, List.setIfInBounds_toArray, List.set_cons_zero, List.set_cons_succ, List.getElem_toArray, List.getElem_cons_succ, List.getElem_cons_zero]
                      refine wpAnyH_take (i := 6) (v := ?_) rfl (by kernel_rfl) (by kernel_rfl) (by kernel_rfl) (fun _ _ _ h => h) (Or.inl ⟨by rfl, ?_⟩) (by assumption) ?_
                      rotate_left
                      · intro w' hSw
                        have r0 : w'.cell? ⟨w.heap.size, 0, none⟩ = some (.string a.name) := hSw.k1.cell 0
                        have r1 : w'.cell? ⟨w.heap.size, 1, none⟩ = some (.slice aa a.args.length ca) := hSw.k1.cell 1
                        have s0 : w'.cell? ⟨w.heap.size + 1, 0, none⟩ = some (.string b.name) := hSw.k2.cell 0
                        have s1 : w'.cell? ⟨w.heap.size + 1, 1, none⟩ = some (.slice ab b.args.length cb) := hSw.k2.cell 1
                        obtain ⟨t0, t1, t2, t3⟩ := HD.out w' hSw.bl
                        go_simp <;> with_reducible rfl
                      try simp only [Act.put, List.setIfInBounds_toArray, List.set_cons_zero, List.set_cons_succ, List.getElem_toArray, List.getElem_cons_succ, List.getElem_cons_zero]
                      refine wpAnyH_take (i := 7) (v := ?_) rfl (by kernel_rfl) (by kernel_rfl) (by kernel_rfl) (fun _ _ _ h => h) (Or.inl ⟨by rfl, ?_⟩) (by assumption) ?_
                      rotate_left
                      · intro w' hSw
                        have r0 : w'.cell? ⟨w.heap.size, 0, none⟩ = some (.string a.name) := hSw.k1.cell 0
                        have r1 : w'.cell? ⟨w.heap.size, 1, none⟩ = some (.slice aa a.args.length ca) := hSw.k1.cell 1
                        have s0 : w'.cell? ⟨w.heap.size + 1, 0, none⟩ = some (.string b.name) := hSw.k2.cell 0
                        have s1 : w'.cell? ⟨w.heap.size + 1, 1, none⟩ = some (.slice ab b.args.length cb) := hSw.k2.cell 1
                        obtain ⟨t0, t1, t2, t3⟩ := HD.out w' hSw.bl
                        go_simp <;> with_reducible rfl
                      try simp only [Act.put, List.setIfInBounds_toArray, List.set_cons_zero, List.set_cons_succ, List.getElem_toArray, List.getElem_cons_succ, List.getElem_cons_zero]
                      refine wpAnyH_ready (rs := [8]) (by kernel_rfl) (by simp) ?_
                      refine AllReadyH.cons rfl (fun K hK => ?_) AllReadyH.nil
                      go_simp
                      go_at_call 27
                      refine (sameR_all x y _ _ _ X X (by exact HX1.out.later hHeld.bl) (by exact HY1.out.later hHeld.bl)).mono ?_
                      rintro e w7 ⟨rfl, hb7⟩
                      have H7 := hide (hHeld.later hb7)
                      clear hb7
                      go_simp
                      refine hK.out _ _ (by exact H7.out) (fun hHeld => ?_)
                      clear hK K
                      try simp only [Act.put, List.setIfInBounds_toArray, List.set_cons_zero, List.set_cons_succ, List.getElem_toArray, List.getElem_cons_succ, List.getElem_cons_zero]
                      refine wpAnyH_take (i := 9) (v := ?_) rfl (by kernel_rfl) (by kernel_rfl) (by kernel_rfl) (fun _ _ _ h => h) (Or.inl ⟨by rfl, ?_⟩) (by assumption) ?_
                      rotate_left
                      · intro w' hSw
                        go_simp <;> with_reducible rfl
                      try simp only [Act.put, List.setIfInBounds_toArray, List.set_cons_zero, List.set_cons_succ, List.getElem_toArray, List.getElem_cons_succ, List.getElem_cons_zero]
                      refine wpAnyH_done (by kernel_rfl) ?_ _
                      obtain ⟨z0, z1, z2, z3⟩ := HTB.out _ H7.out.bl
                      by_cases he : x = y
                      · have hs : sameB x y = true := sameB_iff.2 he
                        rw [hs]
                        have HREL := hide (HU2.out he)
                        clear he hs z1
                        go_wp2_with fail
                        go_roundw
                        case rel => exact ⟨q + 1, _, _, by omega, rfl, rfl, rfl, rfl, HREL.out, H7.out⟩
                        case measure => have h1 := HST.out; have h2 := HN.out; simp only [intOf]; omega
                      · have hs : sameB x y = false := by
                          cases h : sameB x y with
                          | false => rfl
                          | true => exact absurd (sameB_iff.1 h) he
                        rw [hs]
                        have HR : Hid (pathB row a b = pathB row x y) := by unfold Hid; rw [HLAST.out, HU1.out he]
                        clear he hs
                        go_wp2_with fail
                        go_ret
                        exact ⟨by rw [HR.out]; rfl, H7.out.bl⟩
                    · have htk : a.args.take q = a.args := List.take_of_length_le (by omega)
                      have hne : n = i + 1 + sizeL a.args := by have := HN.out.1; rw [htk] at this; exact this
                      subst hne
                      have HR : Hid (pathB row a b = false) := by
                        unfold Hid
                        rw [HLAST.out, unl_all HLEN.out fun j h1 h2 => HALL.out j (by omega) h1 h2]
                      clear htk HN
                      go_wp2_with fail
                      go_ret
                      exact ⟨by rw [HR.out]; rfl, HTW.out.bl⟩
#print axioms pathStep_any
end Go.Proofs.Ythlgknglalcggac
