/- Several texts in one. -/
import Derived.Test.YtpbnbkeoiojpaacZOrderSaysOwn
import Derived.Test.YtpbnbkeoiojpaacRows
import Derived.Test.YtpbnbkeoiojpaacW7
import Derived.ProofKit
import Derived.Test.YtpbnbkeoiojpaacL
/- Walks: one place of the document's table of what is above what. -/
namespace Go.Proofs.Ytpbnbkeoiojpaac
open Go.RowKit
set_option linter.unusedSimpArgs false
set_option linter.unusedVariables false
set_option maxRecDepth 8000

/-- The q-th below the i-th: where it stands, and where it ends. -/
theorem kid_facts {A a : Tm} {i : Nat} (hi : (preL [A])[i]? = some a) : i < sizeL [A] ∧ endAt A i = ((i + 1 + sizeL a.args : Nat) : Int) ∧ ∀ q (hq : q < a.args.length), (preL [A])[i + 1 + sizeL (a.args.take q)]? = some a.args[q] ∧ i + 1 + sizeL (a.args.take q) < sizeL [A] ∧ endAt A (i + 1 + sizeL (a.args.take q)) = ((i + 1 + sizeL (a.args.take (q + 1)) : Nat) : Int) ∧ sizeL (a.args.take q) < sizeL a.args := by
  have hpl := preL_len0 [A]
  have hlt : ∀ {j : Nat} {x : Tm}, (preL [A])[j]? = some x → j < (preL [A]).length := fun {j x} h => by
    rcases Nat.lt_or_ge j (preL [A]).length with h' | h'
    · exact h'
    · rw [List.getElem?_eq_none h'] at h; cases h
  have hget : ∀ {j : Nat} {x : Tm} (h : (preL [A])[j]? = some x), endAt A j = (j : Int) + (sizeL [x] : Int) := fun {j x} h => by
    have h1 := hlt h
    rw [endAt_get h1]
    rw [List.getElem?_eq_getElem h1] at h
    cases h
    rfl
  have hsa : sizeL [a] = 1 + sizeL a.args := by obtain ⟨s, l⟩ := a; simp [sizeL]
  refine ⟨by have := hlt hi; omega, by rw [hget hi, hsa]; omega, fun q hq => ?_⟩
  have hk := kid_at [A] i a hi q hq
  have h1 := hlt hk
  have h2 := sizeL_take a.args q hq
  have h3 := sizeL_append (a.args.take (q + 1)) (a.args.drop (q + 1))
  rw [List.take_append_drop] at h3
  have h4 := size_pos a.args[q]
  exact ⟨hk, by omega, by rw [hget hk]; omega, by omega⟩

/-- A row of knots as it lies. -/
def KnR (w : World) (X : Nat → Prop) (A : Tm) (g : Nat) : Prop := ∀ j x, (preL [A])[j]? = some x → ∃ a' c', w.cell? ⟨g, j * 2, none⟩ = some (.string x.name) ∧ w.cell? ⟨g, j * 2 + 1, none⟩ = some (.slice a' x.args.length c') ∧ Sl w X a' x.args
/-- What of the table is filled already. -/
def TabR (row : List ByteArray) (A B : Tm) (w : World) (g i k : Nat) : Prop := ∀ j x, i ≤ j → (preL [A])[j]? = some x → ∃ b' c', w.cell? ⟨g, j, none⟩ = some (.slice (some ⟨b', 0, none⟩) (sizeL [B]) c') ∧ ∀ q y, (i < j ∨ k < q) → (preL [B])[q]? = some y → w.cell? ⟨b', q, none⟩ = some (.bool (pathB row x y))
theorem bcell1 {w w' : World} (hb : Below w.heap.size w w') {b o : Nat} {v : Value} (h : w.cell? ⟨b, o, none⟩ = some v) : w'.cell? ⟨b, o, none⟩ = some v := (hb.cell (p := ⟨b, o, none⟩) (cell_lt h)).trans h

def S1Inv (row : List ByteArray) (i : Nat) (a b : Tm) (aa : Option Addr) (ca : Nat) (ab : Option Addr) (cb : Nat) (w : World) (j : Value) (wr : World) : Prop :=
  ∃ q n : Nat, q ≤ a.args.length ∧ n = i + 1 + sizeL (a.args.take q) ∧ j = .int .i64 (n : Int) ∧ ((a.args.take q).any fun x => sameB x b || pathB row x b) = false ∧ TwW a b aa ca ab cb w wr
def S2Inv (row : List ByteArray) (k : Nat) (a b : Tm) (aa : Option Addr) (ca : Nat) (ab : Option Addr) (cb : Nat) (w : World) (j : Value) (wr : World) : Prop :=
  ∃ q n : Nat, q ≤ b.args.length ∧ n = k + 1 + sizeL (b.args.take q) ∧ j = .int .i64 (n : Int) ∧ ((b.args.take q).all fun y => pathB row a y) = true ∧ TwW a b aa ca ab cb w wr
def S3Inv (i k : Nat) (a b : Tm) (aa : Option Addr) (ca : Nat) (ab : Option Addr) (cb : Nat) (w : World) (m j : Value) (wr : World) : Prop :=
  ∃ q n n' : Nat, q ≤ a.args.length ∧ n = i + 1 + sizeL (a.args.take q) ∧ n' = k + 1 + sizeL (b.args.take q) ∧ j = .int .i64 (n : Int) ∧ m = .int .i64 (n' : Int) ∧ (∀ z (h1 : z < q) (h2 : z < a.args.length) (h3 : z < b.args.length), a.args[z] = b.args[z]) ∧ TwW a b aa ca ab cb w wr

set_option maxHeartbeats 4000000 in
theorem pathStep_any (row : List ByteArray) (hrl : row.length ≤ 1000) (A B a b : Tm) (zA : sizeL [A] ≤ 20000) (zB : sizeL [B] ≤ 20000) (i k : Nat) (hi : (preL [A])[i]? = some a) (hk : (preL [B])[k]? = some b) (u ve vf : Value) (gx cx gy cy gi ci : Nat) (w : World) (X : Nat → Prop)
    (hu : LV Value.string w X u row) (hx : KnR w X A gx) (hy : KnR w X B gy) (he : LV (fun z => .int .i64 z) w X ve (endK A (sizeL [A]))) (hf : LV (fun z => .int .i64 z) w X vf (endK B (sizeL [B]))) (hT : TabR row A B w gi i k) :
    Calls Try.prog 39 #[u, .slice (some ⟨gx, 0, none⟩) (sizeL [A]) cx, .slice (some ⟨gy, 0, none⟩) (sizeL [B]) cy, ve, vf, .slice (some ⟨gi, 0, none⟩) (sizeL [A]) ci, .int .i64 (i : Int), .int .i64 (k : Int)] w fun e w' => e = .returned (.bool (pathB row a b)) ∧ Below w.heap.size w w' := by
  obtain ⟨aa, ca, x0, x1, hsa⟩ := hx i a hi
  obtain ⟨ab, cb, y0, y1, hsb⟩ := hy k b hk
  obtain ⟨fi1, fi2, fi3⟩ := kid_facts hi
  obtain ⟨fk1, fk2, fk3⟩ := kid_facts hk
  have FI := hide fi3
  have FK := hide fk3
  have hii : (i : Int) < (sizeL [A] : Int) := by omega
  have hki : (k : Int) < (sizeL [B] : Int) := by omega
  have HPB := hide (pathB_eq row a b)
  have HA := hide (show TV w X (.agg #[.string a.name, .slice aa a.args.length ca]) a from ⟨aa, ca, rfl, hsa⟩)
  have HB := hide (show TV w X (.agg #[.string b.name, .slice ab b.args.length cb]) b from ⟨ab, cb, rfl, hsb⟩)
  have HU := hide hu
  have HX := hide hx
  have HY := hide hy
  have HT := hide hT
  obtain ⟨ea, ec, rfl, ⟨hel, _⟩, hec⟩ := he
  obtain ⟨fa, fc, rfl, ⟨hfl, _⟩, hfc⟩ := hf
  have hApos := size_pos A
  have hBpos := size_pos B
  have lenA := endK_len A (sizeL [A])
  have lenB := endK_len B (sizeL [B])
  obtain ⟨eb, eo, rfl, _, hec⟩ := hec.resolve_left (fun h => by rw [h] at lenA; simp at lenA; omega)
  obtain ⟨fb, fo, rfl, _, hfc⟩ := hfc.resolve_left (fun h => by rw [h] at lenB; simp at lenB; omega)
  have HEC : Hid (∀ j, j < sizeL [A] → w.cell? ⟨eb, eo + j, none⟩ = some (.int .i64 (endAt A j))) := fun j hj => by
    have h := hec j (by rw [lenA]; exact hj)
    rw [endK_get A _ j hj] at h
    exact h
  have HFC : Hid (∀ j, j < sizeL [B] → w.cell? ⟨fb, fo + j, none⟩ = some (.int .i64 (endAt B j))) := fun j hj => by
    have h := hfc j (by rw [lenB]; exact hj)
    rw [endK_get B _ j hj] at h
    exact h
  rw [lenA, lenB]
  have EI := hide (show w.cell? ⟨eb, eo + i, none⟩ = some (.int .i64 ((i + 1 + sizeL a.args : Nat) : Int)) by rw [← fi2]; exact HEC.out i fi1)
  have EK := hide (show w.cell? ⟨fb, fo + k, none⟩ = some (.int .i64 ((k + 1 + sizeL b.args : Nat) : Int)) by rw [← fk2]; exact HFC.out k fk1)
  clear hec hfc hel hfl lenA lenB fi2 fk2 fi3 fk3 hu hx hy hT hsa hsb
  have y0' := fun o => cell_alloc y0 o
  have y1' := fun o => cell_alloc y1 o
  have A2 := hide (TwW.start a b aa ca ab cb w)
  go_enter Try.func39, Try.ntmps39
  cases hva : varB a.name with
  | true =>
    have HR : Hid (pathB row a b = false) := by unfold Hid; rw [HPB.out, if_pos hva]
    go_wp2_with (go_at_call 35; refine (isVarR_any _ _).mono ?_; rintro e w' ⟨rfl, rfl⟩; rw [hva])
    go_ret
    exact ⟨by rw [HR.out]; rfl, A2.out.bl⟩
  | false =>
    go_wp2_with (go_at_call 35; refine (isVarR_any _ _).mono ?_; rintro e w' ⟨rfl, rfl⟩; rw [hva])
    generalize ((w.alloc (.cells #[.string a.name, .slice aa a.args.length ca] 25)).alloc (.cells #[.string b.name, .slice ab b.args.length cb] 25)) = w2 at *
    clear y0' y1' x0 x1 y0 y1
    go_loopw [19] (fun j wr => S1Inv row i a b aa ca ab cb w j wr) (fun j wr => i + 1 + sizeL a.args - (intOf j).toNat)
    case atStart => exact ⟨0, i + 1, Nat.zero_le _, by simp [sizeL], by simp, by simp, A2.out⟩
    case round =>
      clear A2
      obtain ⟨q, n, hq, hn, rfl, hany, hTw⟩ := hrel
      have HANY := hide hany
      have HTW := hide hTw
      have HN := hide hn
      have ei : wr.cell? ⟨eb, eo + i, none⟩ = some (.int .i64 ((i + 1 + sizeL a.args : Nat) : Int)) := bcell1 hTw.bl EI.out
      clear hany hTw hn
      by_cases hlt : q < a.args.length
      · obtain ⟨g1, g2, g3, g4⟩ := FI.out q hlt
        rw [← HN.out] at g1 g2 g3
        have hni : (n : Int) < ((i + 1 + sizeL a.args : Nat) : Int) := by have := HN.out; omega
        have hnA : (n : Int) < (sizeL [A] : Int) := by omega
        obtain ⟨a1, c1, d0, d1, hs1⟩ := HX.out n _ g1
        obtain ⟨bt, ct, d2, d3⟩ := HT.out n _ (by have := HN.out; omega) g1
        have d4 := d3 k b (Or.inl (by have := HN.out; omega)) hk
        have en := HEC.out n g2
        rw [g3] at en
        have HD : Hid (∀ w', Below w.heap.size w w' → w'.cell? ⟨gx, n * 2, none⟩ = some (.string a.args[q].name) ∧ w'.cell? ⟨gx, n * 2 + 1, none⟩ = some (.slice a1 a.args[q].args.length c1) ∧ w'.cell? ⟨gi, n, none⟩ = some (.slice (some ⟨bt, 0, none⟩) (sizeL [B]) ct) ∧ w'.cell? ⟨bt, k, none⟩ = some (.bool (pathB row a.args[q] b))) := fun w' hb => ⟨bcell1 hb d0, bcell1 hb d1, bcell1 hb d2, bcell1 hb d4⟩
        have HX1 := hide (show TV w X (.agg #[.string a.args[q].name, .slice a1 a.args[q].args.length c1]) a.args[q] from ⟨a1, c1, rfl, hs1⟩)
        have HEN : Hid (∀ w', Below w.heap.size w w' → w'.cell? ⟨eb, eo + n, none⟩ = some (.int .i64 ((i + 1 + sizeL (a.args.take (q + 1)) : Nat) : Int))) := fun w' hb => bcell1 hb en
        have HYES : Hid ((sameB a.args[q] b || pathB row a.args[q] b) = true → (a.args.any fun x => sameB x b || pathB row x b) = true) := fun h => (any_take hlt HANY.out).1 h
        have HNO : Hid ((sameB a.args[q] b || pathB row a.args[q] b) = false → ((a.args.take (q + 1)).any fun x => sameB x b || pathB row x b) = false) := fun h => (any_take hlt HANY.out).2 h
        have hst : sizeL (a.args.take q) < sizeL (a.args.take (q + 1)) := by have := sizeL_take a.args q hlt; have := size_pos a.args[q]; omega
        have hst2 : sizeL (a.args.take (q + 1)) ≤ sizeL a.args := by have h3 := sizeL_append (a.args.take (q + 1)) (a.args.drop (q + 1)); rw [List.take_append_drop] at h3; omega
        have HST := hide (And.intro hst hst2)
        generalize a.args[q] = x at *
        clear hs1 d0 d1 d2 d3 d4 en g1 g3 g4 hst hst2
        have HS0 : Hid (TwW a b aa ca ab cb w wr.drew) := HTW.out.later (below_drewN (Below.refl _ _) 1)
        go_wp2_with fail
        refine wp_region_held_drew (S := TwW a b aa ca ab cb w) (by kernel_rfl) HS0.out (fun hHeld => ?_)
        refine wpAnyH_take (i := 0) (v := ?_) rfl (by kernel_rfl) (by kernel_rfl) (by kernel_rfl) (fun _ _ _ h => h) (Or.inl ⟨by rfl, ?_⟩) (by assumption) ?_
        rotate_left
        · intro w' hSw
          have r0 : w'.cell? ⟨w.heap.size, 0, none⟩ = some (.string a.name) := hSw.k1.cell 0
          have r1 : w'.cell? ⟨w.heap.size, 1, none⟩ = some (.slice aa a.args.length ca) := hSw.k1.cell 1
          have s0 : w'.cell? ⟨w.heap.size + 1, 0, none⟩ = some (.string b.name) := hSw.k2.cell 0
          have s1 : w'.cell? ⟨w.heap.size + 1, 1, none⟩ = some (.slice ab b.args.length cb) := hSw.k2.cell 1
          obtain ⟨t0, t1, t2, t3⟩ := HD.out w' hSw.bl
          go_simp <;> with_reducible rfl
        try simp only [Act.put, List.setIfInBounds_toArray, List.set_cons_zero, List.set_cons_succ, List.getElem_toArray, List.getElem_cons_succ, List.getElem_cons_zero]
        refine wpAnyH_take (i := 1) (v := ?_) rfl (by kernel_rfl) (by kernel_rfl) (by kernel_rfl) (fun _ _ _ h => h) (Or.inl ⟨by rfl, ?_⟩) (by assumption) ?_
        rotate_left
        · intro w' hSw
          have r0 : w'.cell? ⟨w.heap.size, 0, none⟩ = some (.string a.name) := hSw.k1.cell 0
          have r1 : w'.cell? ⟨w.heap.size, 1, none⟩ = some (.slice aa a.args.length ca) := hSw.k1.cell 1
          have s0 : w'.cell? ⟨w.heap.size + 1, 0, none⟩ = some (.string b.name) := hSw.k2.cell 0
          have s1 : w'.cell? ⟨w.heap.size + 1, 1, none⟩ = some (.slice ab b.args.length cb) := hSw.k2.cell 1
          obtain ⟨t0, t1, t2, t3⟩ := HD.out w' hSw.bl
          go_simp <;> with_reducible rfl
        try simp only [Act.put, List.setIfInBounds_toArray, List.set_cons_zero, List.set_cons_succ, List.getElem_toArray, List.getElem_cons_succ, List.getElem_cons_zero]
        refine wpAnyH_take (i := 2) (v := ?_) rfl (by kernel_rfl) (by kernel_rfl) (by kernel_rfl) (fun _ _ _ h => h) (Or.inl ⟨by rfl, ?_⟩) (by assumption) ?_
        rotate_left
        · intro w' hSw
          have r0 : w'.cell? ⟨w.heap.size, 0, none⟩ = some (.string a.name) := hSw.k1.cell 0
          have r1 : w'.cell? ⟨w.heap.size, 1, none⟩ = some (.slice aa a.args.length ca) := hSw.k1.cell 1
          have s0 : w'.cell? ⟨w.heap.size + 1, 0, none⟩ = some (.string b.name) := hSw.k2.cell 0
          have s1 : w'.cell? ⟨w.heap.size + 1, 1, none⟩ = some (.slice ab b.args.length cb) := hSw.k2.cell 1
          obtain ⟨t0, t1, t2, t3⟩ := HD.out w' hSw.bl
          go_simp <;> with_reducible rfl
        try simp only [Act.put, List.setIfInBounds_toArray, List.set_cons_zero, List.set_cons_succ, List.getElem_toArray, List.getElem_cons_succ, List.getElem_cons_zero]
        refine wpAnyH_take (i := 3) (v := ?_) rfl (by kernel_rfl) (by kernel_rfl) (by kernel_rfl) (fun _ _ _ h => h) (Or.inl ⟨by rfl, ?_⟩) (by assumption) ?_
        rotate_left
        · intro w' hSw
          have r0 : w'.cell? ⟨w.heap.size, 0, none⟩ = some (.string a.name) := hSw.k1.cell 0
          have r1 : w'.cell? ⟨w.heap.size, 1, none⟩ = some (.slice aa a.args.length ca) := hSw.k1.cell 1
          have s0 : w'.cell? ⟨w.heap.size + 1, 0, none⟩ = some (.string b.name) := hSw.k2.cell 0
          have s1 : w'.cell? ⟨w.heap.size + 1, 1, none⟩ = some (.slice ab b.args.length cb) := hSw.k2.cell 1
          obtain ⟨t0, t1, t2, t3⟩ := HD.out w' hSw.bl
          go_simp <;> with_reducible rfl
        try simp only [Act.put, List.setIfInBounds_toArray, List.set_cons_zero, List.set_cons_succ, List.getElem_toArray, List.getElem_cons_succ, List.getElem_cons_zero]
        refine wpAnyH_take (i := 4) (v := ?_) rfl (by kernel_rfl) (by kernel_rfl) (by kernel_rfl) (fun _ _ _ h => h) (Or.inl ⟨by rfl, ?_⟩) (by assumption) ?_
        rotate_left
        · intro w' hSw
          have r0 : w'.cell? ⟨w.heap.size, 0, none⟩ = some (.string a.name) := hSw.k1.cell 0
          have r1 : w'.cell? ⟨w.heap.size, 1, none⟩ = some (.slice aa a.args.length ca) := hSw.k1.cell 1
          have s0 : w'.cell? ⟨w.heap.size + 1, 0, none⟩ = some (.string b.name) := hSw.k2.cell 0
          have s1 : w'.cell? ⟨w.heap.size + 1, 1, none⟩ = some (.slice ab b.args.length cb) := hSw.k2.cell 1
          obtain ⟨t0, t1, t2, t3⟩ := HD.out w' hSw.bl
          go_simp <;> with_reducible rfl
        try simp only [Act.put, List.setIfInBounds_toArray, List.set_cons_zero, List.set_cons_succ, List.getElem_toArray, List.getElem_cons_succ, List.getElem_cons_zero]
        refine wpAnyH_ready (rs := [5]) (by kernel_rfl) (by simp) ?_
        refine AllReadyH.cons rfl (fun K hK => ?_) AllReadyH.nil
        go_simp
        go_at_call 27
        refine (sameR_all x b _ _ _ X X (by exact HX1.out.later hHeld.bl) (by exact HB.out.later hHeld.bl)).mono ?_
        rintro e w5 ⟨rfl, hb5⟩
        have H5 := hide (hHeld.later hb5)
        clear hb5
        go_simp
        refine hK.out _ _ (by exact H5.out) (fun hHeld => ?_)
        clear hK K
        try simp only [Act.put, List.setIfInBounds_toArray, List.set_cons_zero, List.set_cons_succ, List.getElem_toArray, List.getElem_cons_succ, List.getElem_cons_zero]
        cases hsm : sameB x b with
        | true =>
          refine wpAnyH_take (i := 6) (v := ?_) rfl (by kernel_rfl) (by kernel_rfl) (by kernel_rfl) (fun _ _ _ h => h) (Or.inl ⟨by rfl, ?_⟩) (by assumption) ?_
          rotate_left
          · intro w' hSw
            go_simp <;> with_reducible rfl
          try simp only [Act.put, List.setIfInBounds_toArray, List.set_cons_zero, List.set_cons_succ, List.getElem_toArray, List.getElem_cons_succ, List.getElem_cons_zero]
          refine wpAnyH_take (i := 7) (v := undef) rfl (by kernel_rfl) (by kernel_rfl) (by kernel_rfl) (fun _ _ _ h => h) (Or.inr ⟨by rfl, rfl⟩) (by assumption) ?_
          try simp only [Act.put, List.setIfInBounds_toArray, List.set_cons_zero, List.set_cons_succ, List.getElem_toArray, List.getElem_cons_succ, List.getElem_cons_zero]
          refine wpAnyH_take (i := 8) (v := undef) rfl (by kernel_rfl) (by kernel_rfl) (by kernel_rfl) (fun _ _ _ h => h) (Or.inr ⟨by rfl, rfl⟩) (by assumption) ?_
          try simp only [Act.put, List.setIfInBounds_toArray, List.set_cons_zero, List.set_cons_succ, List.getElem_toArray, List.getElem_cons_succ, List.getElem_cons_zero]
          refine wpAnyH_take (i := 9) (v := undef) rfl (by kernel_rfl) (by kernel_rfl) (by kernel_rfl) (fun _ _ _ h => h) (Or.inr ⟨by rfl, rfl⟩) (by assumption) ?_
          try simp only [Act.put, List.setIfInBounds_toArray, List.set_cons_zero, List.set_cons_succ, List.getElem_toArray, List.getElem_cons_succ, List.getElem_cons_zero]
          refine wpAnyH_take (i := 10) (v := undef) rfl (by kernel_rfl) (by kernel_rfl) (by kernel_rfl) (fun _ _ _ h => h) (Or.inr ⟨by rfl, rfl⟩) (by assumption) ?_
          try simp only [Act.put, List.setIfInBounds_toArray, List.set_cons_zero, List.set_cons_succ, List.getElem_toArray, List.getElem_cons_succ, List.getElem_cons_zero]
          refine wpAnyH_take (i := 11) (v := undef) rfl (by kernel_rfl) (by kernel_rfl) (by kernel_rfl) (fun _ _ _ h => h) (Or.inr ⟨by rfl, rfl⟩) (by assumption) ?_
          try simp only [Act.put, List.setIfInBounds_toArray, List.set_cons_zero, List.set_cons_succ, List.getElem_toArray, List.getElem_cons_succ, List.getElem_cons_zero]
          refine wpAnyH_take (i := 12) (v := undef) rfl (by kernel_rfl) (by kernel_rfl) (by kernel_rfl) (fun _ _ _ h => h) (Or.inr ⟨by rfl, rfl⟩) (by assumption) ?_
          try simp only [Act.put, List.setIfInBounds_toArray, List.set_cons_zero, List.set_cons_succ, List.getElem_toArray, List.getElem_cons_succ, List.getElem_cons_zero]
          refine wpAnyH_take (i := 13) (v := undef) rfl (by kernel_rfl) (by kernel_rfl) (by kernel_rfl) (fun _ _ _ h => h) (Or.inr ⟨by rfl, rfl⟩) (by assumption) ?_
          try simp only [Act.put, List.setIfInBounds_toArray, List.set_cons_zero, List.set_cons_succ, List.getElem_toArray, List.getElem_cons_succ, List.getElem_cons_zero]
          refine wpAnyH_take (i := 14) (v := ?_) rfl (by kernel_rfl) (by kernel_rfl) (by kernel_rfl) (fun _ _ _ h => h) (Or.inl ⟨by rfl, ?_⟩) (by assumption) ?_
          rotate_left
          · intro w' hSw
            go_simp <;> with_reducible rfl
          try simp only [Act.put, List.setIfInBounds_toArray, List.set_cons_zero, List.set_cons_succ, List.getElem_toArray, List.getElem_cons_succ, List.getElem_cons_zero]
          refine wpAnyH_done (by kernel_rfl) ?_ _
          have HR : Hid (pathB row a b = true) := by unfold Hid; rw [HPB.out, if_neg (by rw [hva]; simp), if_pos (HYES.out (by rw [hsm]; rfl))]
          go_wp2_with fail
          go_ret
          exact ⟨by rw [HR.out]; rfl, H5.out.bl⟩
        | false =>
          refine wpAnyH_take (i := 6) (v := ?_) rfl (by kernel_rfl) (by kernel_rfl) (by kernel_rfl) (fun _ _ _ h => h) (Or.inl ⟨by rfl, ?_⟩) (by assumption) ?_
          rotate_left
          · intro w' hSw
            go_simp <;> with_reducible rfl
          try simp only [Act.put, List.setIfInBounds_toArray, List.set_cons_zero, List.set_cons_succ, List.getElem_toArray, List.getElem_cons_succ, List.getElem_cons_zero]
          refine wpAnyH_take (i := 7) (v := ?_) rfl (by kernel_rfl) (by kernel_rfl) (by kernel_rfl) (fun _ _ _ h => h) (Or.inl ⟨by rfl, ?_⟩) (by assumption) ?_
          rotate_left
          · intro w' hSw
            have r0 : w'.cell? ⟨w.heap.size, 0, none⟩ = some (.string a.name) := hSw.k1.cell 0
            have r1 : w'.cell? ⟨w.heap.size, 1, none⟩ = some (.slice aa a.args.length ca) := hSw.k1.cell 1
            have s0 : w'.cell? ⟨w.heap.size + 1, 0, none⟩ = some (.string b.name) := hSw.k2.cell 0
            have s1 : w'.cell? ⟨w.heap.size + 1, 1, none⟩ = some (.slice ab b.args.length cb) := hSw.k2.cell 1
            obtain ⟨t0, t1, t2, t3⟩ := HD.out w' hSw.bl
            go_simp <;> with_reducible rfl
          try simp only [Act.put, List.setIfInBounds_toArray, List.set_cons_zero, List.set_cons_succ, List.getElem_toArray, List.getElem_cons_succ, List.getElem_cons_zero]
          refine wpAnyH_take (i := 8) (v := ?_) rfl (by kernel_rfl) (by kernel_rfl) (by kernel_rfl) (fun _ _ _ h => h) (Or.inl ⟨by rfl, ?_⟩) (by assumption) ?_
          rotate_left
          · intro w' hSw
            have r0 : w'.cell? ⟨w.heap.size, 0, none⟩ = some (.string a.name) := hSw.k1.cell 0
            have r1 : w'.cell? ⟨w.heap.size, 1, none⟩ = some (.slice aa a.args.length ca) := hSw.k1.cell 1
            have s0 : w'.cell? ⟨w.heap.size + 1, 0, none⟩ = some (.string b.name) := hSw.k2.cell 0
            have s1 : w'.cell? ⟨w.heap.size + 1, 1, none⟩ = some (.slice ab b.args.length cb) := hSw.k2.cell 1
            obtain ⟨t0, t1, t2, t3⟩ := HD.out w' hSw.bl
            go_simp <;> with_reducible rfl
          try simp only [Act.put, List.setIfInBounds_toArray, List.set_cons_zero, List.set_cons_succ, List.getElem_toArray, List.getElem_cons_succ, List.getElem_cons_zero]
          refine wpAnyH_take (i := 9) (v := ?_) rfl (by kernel_rfl) (by kernel_rfl) (by kernel_rfl) (fun _ _ _ h => h) (Or.inl ⟨by rfl, ?_⟩) (by assumption) ?_
          rotate_left
          · intro w' hSw
            have r0 : w'.cell? ⟨w.heap.size, 0, none⟩ = some (.string a.name) := hSw.k1.cell 0
            have r1 : w'.cell? ⟨w.heap.size, 1, none⟩ = some (.slice aa a.args.length ca) := hSw.k1.cell 1
            have s0 : w'.cell? ⟨w.heap.size + 1, 0, none⟩ = some (.string b.name) := hSw.k2.cell 0
            have s1 : w'.cell? ⟨w.heap.size + 1, 1, none⟩ = some (.slice ab b.args.length cb) := hSw.k2.cell 1
            obtain ⟨t0, t1, t2, t3⟩ := HD.out w' hSw.bl
            go_simp <;> with_reducible rfl
          try simp only [Act.put, List.setIfInBounds_toArray, List.set_cons_zero, List.set_cons_succ, List.getElem_toArray, List.getElem_cons_succ, List.getElem_cons_zero]
          refine wpAnyH_take (i := 10) (v := ?_) rfl (by kernel_rfl) (by kernel_rfl) (by kernel_rfl) (fun _ _ _ h => h) (Or.inl ⟨by rfl, ?_⟩) (by assumption) ?_
          rotate_left
          · intro w' hSw
            have r0 : w'.cell? ⟨w.heap.size, 0, none⟩ = some (.string a.name) := hSw.k1.cell 0
            have r1 : w'.cell? ⟨w.heap.size, 1, none⟩ = some (.slice aa a.args.length ca) := hSw.k1.cell 1
            have s0 : w'.cell? ⟨w.heap.size + 1, 0, none⟩ = some (.string b.name) := hSw.k2.cell 0
            have s1 : w'.cell? ⟨w.heap.size + 1, 1, none⟩ = some (.slice ab b.args.length cb) := hSw.k2.cell 1
            obtain ⟨t0, t1, t2, t3⟩ := HD.out w' hSw.bl
            go_simp <;> with_reducible rfl
          try simp only [Act.put, List.setIfInBounds_toArray, List.set_cons_zero, List.set_cons_succ, List.getElem_toArray, List.getElem_cons_succ, List.getElem_cons_zero]
          refine wpAnyH_take (i := 11) (v := ?_) rfl (by kernel_rfl) (by kernel_rfl) (by kernel_rfl) (fun _ _ _ h => h) (Or.inl ⟨by rfl, ?_⟩) (by assumption) ?_
          rotate_left
          · intro w' hSw
            have r0 : w'.cell? ⟨w.heap.size, 0, none⟩ = some (.string a.name) := hSw.k1.cell 0
            have r1 : w'.cell? ⟨w.heap.size, 1, none⟩ = some (.slice aa a.args.length ca) := hSw.k1.cell 1
            have s0 : w'.cell? ⟨w.heap.size + 1, 0, none⟩ = some (.string b.name) := hSw.k2.cell 0
            have s1 : w'.cell? ⟨w.heap.size + 1, 1, none⟩ = some (.slice ab b.args.length cb) := hSw.k2.cell 1
            obtain ⟨t0, t1, t2, t3⟩ := HD.out w' hSw.bl
            go_simp <;> with_reducible rfl
          try simp only [Act.put, List.setIfInBounds_toArray, List.set_cons_zero, List.set_cons_succ, List.getElem_toArray, List.getElem_cons_succ, List.getElem_cons_zero]
          refine wpAnyH_take (i := 12) (v := ?_) rfl (by kernel_rfl) (by kernel_rfl) (by kernel_rfl) (fun _ _ _ h => h) (Or.inl ⟨by rfl, ?_⟩) (by assumption) ?_
          rotate_left
          · intro w' hSw
            have r0 : w'.cell? ⟨w.heap.size, 0, none⟩ = some (.string a.name) := hSw.k1.cell 0
            have r1 : w'.cell? ⟨w.heap.size, 1, none⟩ = some (.slice aa a.args.length ca) := hSw.k1.cell 1
            have s0 : w'.cell? ⟨w.heap.size + 1, 0, none⟩ = some (.string b.name) := hSw.k2.cell 0
            have s1 : w'.cell? ⟨w.heap.size + 1, 1, none⟩ = some (.slice ab b.args.length cb) := hSw.k2.cell 1
            obtain ⟨t0, t1, t2, t3⟩ := HD.out w' hSw.bl
            go_simp <;> with_reducible rfl
          try simp only [Act.put, List.setIfInBounds_toArray, List.set_cons_zero, List.set_cons_succ, List.getElem_toArray, List.getElem_cons_succ, List.getElem_cons_zero]
          refine wpAnyH_take (i := 13) (v := ?_) rfl (by kernel_rfl) (by kernel_rfl) (by kernel_rfl) (fun _ _ _ h => h) (Or.inl ⟨by rfl, ?_⟩) (by assumption) ?_
          rotate_left
          · intro w' hSw
            have r0 : w'.cell? ⟨w.heap.size, 0, none⟩ = some (.string a.name) := hSw.k1.cell 0
            have r1 : w'.cell? ⟨w.heap.size, 1, none⟩ = some (.slice aa a.args.length ca) := hSw.k1.cell 1
            have s0 : w'.cell? ⟨w.heap.size + 1, 0, none⟩ = some (.string b.name) := hSw.k2.cell 0
            have s1 : w'.cell? ⟨w.heap.size + 1, 1, none⟩ = some (.slice ab b.args.length cb) := hSw.k2.cell 1
            obtain ⟨t0, t1, t2, t3⟩ := HD.out w' hSw.bl
            go_simp <;> with_reducible rfl
          try simp only [Act.put, List.setIfInBounds_toArray, List.set_cons_zero, List.set_cons_succ, List.getElem_toArray, List.getElem_cons_succ, List.getElem_cons_zero]
          refine wpAnyH_take (i := 14) (v := ?_) rfl (by kernel_rfl) (by kernel_rfl) (by kernel_rfl) (fun _ _ _ h => h) (Or.inl ⟨by rfl, ?_⟩) (by assumption) ?_
          rotate_left
          · intro w' hSw
            go_simp <;> with_reducible rfl
          try simp only [Act.put, List.setIfInBounds_toArray, List.set_cons_zero, List.set_cons_succ, List.getElem_toArray, List.getElem_cons_succ, List.getElem_cons_zero]
          refine wpAnyH_done (by kernel_rfl) ?_ _
          cases hp : pathB row x b with
          | true =>
            have HR : Hid (pathB row a b = true) := by unfold Hid; rw [HPB.out, if_neg (by rw [hva]; simp), if_pos (HYES.out (by rw [hsm, hp]; rfl))]
            go_wp2_with fail
            go_ret
            exact ⟨by rw [HR.out]; rfl, H5.out.bl⟩
          | false =>
            have HR := hide (HNO.out (by rw [hsm, hp]; rfl))
            have en5 := HEN.out _ H5.out.bl
            go_wp2_with fail
            go_roundw
            case rel => exact ⟨q + 1, _, by omega, rfl, rfl, HR.out, H5.out⟩
            case measure => have h1 := HST.out; have h2 := HN.out; simp only [intOf]; omega
      · have hqe : q = a.args.length := by omega
        have htk : a.args.take q = a.args := List.take_of_length_le (by omega)
        have hne : n = i + 1 + sizeL a.args := by have := HN.out; rw [htk] at this; exact this
        subst hne
        have HAN : Hid ((a.args.any fun x => sameB x b || pathB row x b) = false) := by unfold Hid; have h := HANY.out; rw [htk] at h; exact h
        clear htk HANY HN hqe hq hlt
        have r0 : wr.cell? ⟨w.heap.size, 0, none⟩ = some (.string a.name) := HTW.out.k1.cell 0
        have r1 : wr.cell? ⟨w.heap.size, 1, none⟩ = some (.slice aa a.args.length ca) := HTW.out.k1.cell 1
        have s0 : wr.cell? ⟨w.heap.size + 1, 0, none⟩ = some (.string b.name) := HTW.out.k2.cell 0
        have s1 : wr.cell? ⟨w.heap.size + 1, 1, none⟩ = some (.slice ab b.args.length cb) := HTW.out.k2.cell 1
        cases hvb : varB b.name with
        | true =>
          have HR : Hid (pathB row a b = false) := by unfold Hid; rw [HPB.out, if_neg (by rw [hva]; simp), if_neg (by rw [HAN.out]; simp), if_pos hvb]
          go_wp2_with (go_at_call 35; refine (isVarR_any _ _).mono ?_; rintro e w' ⟨rfl, rfl⟩; rw [hvb])
          go_ret
          exact ⟨by rw [HR.out]; rfl, HTW.out.bl⟩
        | false =>
          have HEAD : Hid (pathB row a b = if gtS row b a = true then false else if (b.args.all fun y => pathB row a y) = false then false else if gtS row a b = true then true else match unl a.args b.args with | none => false | some (x, y) => pathB row x y) := by
            unfold Hid
            rw [HPB.out, if_neg (by rw [hva]; simp), if_neg (by rw [HAN.out]; simp), if_neg (by rw [hvb]; simp)]
            cases unl a.args b.args with
            | none => rfl
            | some p => rfl
          clear HPB HAN
          go_wp2_with (go_at_call 35; refine (isVarR_any _ _).mono ?_; rintro e w' ⟨rfl, rfl⟩; rw [hvb])
          refine (greater_any row b a _ _ _ _ X hrl (by exact HU.out.later HTW.out.bl) (by exact HB.out.later HTW.out.bl) (by exact HA.out.later HTW.out.bl)).mono ?_
          rintro e w5 ⟨rfl, hb5⟩
          have A5 := hide (HTW.out.later hb5)
          clear hb5 HTW hva hvb
          clear r0 r1 s0 s1
          cases hg1 : gtS row b a with
          | true =>
            have HR : Hid (pathB row a b = false) := by unfold Hid; rw [HEAD.out, if_pos hg1]
            go_wp2_with fail
            go_ret
            exact ⟨by rw [HR.out]; rfl, A5.out.bl⟩
          | false =>
            have G1 := hide hg1
            clear hg1 ei
            go_wp2_with fail
            go_loopw [20] (fun j wr => S2Inv row k a b aa ca ab cb w j wr) (fun j wr => k + 1 + sizeL b.args - (intOf j).toNat)
            case atStart => exact ⟨0, k + 1, Nat.zero_le _, by simp [sizeL], by simp, by simp, A5.out⟩
            case round =>
              clear A5
              obtain ⟨q, n, hq, hn, rfl, hall, hTw⟩ := hrel
              have HALL := hide hall
              have HTW := hide hTw
              have HN := hide hn
              have ek : wr.cell? ⟨fb, fo + k, none⟩ = some (.int .i64 ((k + 1 + sizeL b.args : Nat) : Int)) := bcell1 hTw.bl EK.out
              clear hall hTw hn
              by_cases hlt : q < b.args.length
              · obtain ⟨g1, g2, g3, g4⟩ := FK.out q hlt
                rw [← HN.out] at g1 g2 g3
                have hni : (n : Int) < ((k + 1 + sizeL b.args : Nat) : Int) := by have := HN.out; omega
                have hnB : (n : Int) < (sizeL [B] : Int) := by omega
                obtain ⟨bt, ct, d2, d3⟩ := HT.out i _ (Nat.le_refl _) hi
                have d4 := d3 n _ (Or.inr (by have := HN.out; omega)) g1
                have en := HFC.out n g2
                rw [g3] at en
                have e2 : wr.cell? ⟨gi, i, none⟩ = some (.slice (some ⟨bt, 0, none⟩) (sizeL [B]) ct) := bcell1 HTW.out.bl d2
                have e4 : wr.cell? ⟨bt, n, none⟩ = some (.bool (pathB row a b.args[q])) := bcell1 HTW.out.bl d4
                have e5 : wr.cell? ⟨fb, fo + n, none⟩ = some (.int .i64 ((k + 1 + sizeL (b.args.take (q + 1)) : Nat) : Int)) := bcell1 HTW.out.bl en
                have hst : sizeL (b.args.take q) < sizeL (b.args.take (q + 1)) := by have := sizeL_take b.args q hlt; have := size_pos b.args[q]; omega
                have hst2 : sizeL (b.args.take (q + 1)) ≤ sizeL b.args := by have h3 := sizeL_append (b.args.take (q + 1)) (b.args.drop (q + 1)); rw [List.take_append_drop] at h3; omega
                have HST := hide (And.intro hst hst2)
                have HYES : Hid (pathB row a b.args[q] = false → (b.args.all fun y => pathB row a y) = false) := fun h => (all_take hlt HALL.out).1 h
                have HNO : Hid (pathB row a b.args[q] = true → ((b.args.take (q + 1)).all fun y => pathB row a y) = true) := fun h => (all_take hlt HALL.out).2 h
                generalize b.args[q] = y at *
                clear d2 d3 d4 en g1 g3 g4 hst hst2
                cases hp : pathB row a y with
                | false =>
                  rw [hp] at e4
                  have HR : Hid (pathB row a b = false) := by unfold Hid; rw [HEAD.out, if_neg (by rw [G1.out]; simp), if_pos (HYES.out hp)]
                  go_wp2_with fail
                  go_ret
                  exact ⟨by rw [HR.out]; rfl, HTW.out.bl⟩
                | true =>
                  rw [hp] at e4
                  have HR := hide (HNO.out hp)
                  go_wp2_with fail
                  go_roundw
                  case rel => exact ⟨q + 1, _, by omega, rfl, rfl, HR.out, HTW.out⟩
                  case measure => have h1 := HST.out; have h2 := HN.out; simp only [intOf]; omega
              · have htk : b.args.take q = b.args := List.take_of_length_le (by omega)
                have hne : n = k + 1 + sizeL b.args := by have := HN.out; rw [htk] at this; exact this
                subst hne
                have HAL : Hid ((b.args.all fun y => pathB row a y) = true) := by unfold Hid; have h := HALL.out; rw [htk] at h; exact h
                clear htk HALL HN hq hlt
                have r0 : wr.cell? ⟨w.heap.size, 0, none⟩ = some (.string a.name) := HTW.out.k1.cell 0
                have r1 : wr.cell? ⟨w.heap.size, 1, none⟩ = some (.slice aa a.args.length ca) := HTW.out.k1.cell 1
                have s0 : wr.cell? ⟨w.heap.size + 1, 0, none⟩ = some (.string b.name) := HTW.out.k2.cell 0
                have s1 : wr.cell? ⟨w.heap.size + 1, 1, none⟩ = some (.slice ab b.args.length cb) := HTW.out.k2.cell 1
                go_wp2_with fail
                refine (greater_any row a b _ _ _ _ X hrl (by exact HU.out.later HTW.out.bl) (by exact HA.out.later HTW.out.bl) (by exact HB.out.later HTW.out.bl)).mono ?_
                rintro e w6 ⟨rfl, hb6⟩
                have A6 := hide (HTW.out.later hb6)
                clear hb6 HTW
                clear r0 r1 s0 s1
                cases hg2 : gtS row a b with
                | true =>
                  have HR : Hid (pathB row a b = true) := by unfold Hid; rw [HEAD.out, if_neg (by rw [G1.out]; simp), if_neg (by rw [HAL.out]; simp), if_pos hg2]
                  go_wp2_with fail
                  go_ret
                  exact ⟨by rw [HR.out]; rfl, A6.out.bl⟩
                | false =>
                  have HLEN := hide (gtS_same hg2 G1.out).2
                  have HLAST : Hid (pathB row a b = match unl a.args b.args with | none => false | some (x, y) => pathB row x y) := by unfold Hid; rw [HEAD.out, if_neg (by rw [G1.out]; simp), if_neg (by rw [HAL.out]; simp), if_neg (by rw [hg2]; simp)]
                  clear HEAD HAL G1 hg2 ek
                  go_wp2_with fail
                  go_loopw [21, 22] (fun m j wr => S3Inv i k a b aa ca ab cb w m j wr) (fun m j wr => i + 1 + sizeL a.args - (intOf j).toNat)
                  case atStart => exact ⟨0, i + 1, k + 1, Nat.zero_le _, by simp [sizeL], by simp [sizeL], by simp, by simp, fun z h => by omega, A6.out⟩
                  case round =>
                    clear A6
                    obtain ⟨q, n, n', hq, hn, hn', rfl, rfl, hall, hTw⟩ := hrel
                    have HALL := hide hall
                    have HTW := hide hTw
                    have HN := hide (And.intro hn hn')
                    have ei : wr.cell? ⟨eb, eo + i, none⟩ = some (.int .i64 ((i + 1 + sizeL a.args : Nat) : Int)) := bcell1 hTw.bl EI.out
                    clear hall hTw hn hn'
                    by_cases hlt : q < a.args.length
                    · have hlt2 : q < b.args.length := by have := HLEN.out; omega
                      obtain ⟨g1, g2, g3, g4⟩ := FI.out q hlt
                      obtain ⟨k1, k2, k3, k4⟩ := FK.out q hlt2
                      rw [← HN.out.1] at g1 g2 g3
                      rw [← HN.out.2] at k1 k2 k3
                      have hni : (n : Int) < ((i + 1 + sizeL a.args : Nat) : Int) := by have := HN.out.1; omega
                      have hnA : (n : Int) < (sizeL [A] : Int) := by omega
                      have hnB : (n' : Int) < (sizeL [B] : Int) := by omega
                      obtain ⟨a1, c1, d0, d1, hs1⟩ := HX.out n _ g1
                      obtain ⟨a2, c2, f0, f1, hs2⟩ := HY.out n' _ k1
                      obtain ⟨bt, ct, d2, d3⟩ := HT.out n _ (by have := HN.out.1; omega) g1
                      have d4 := d3 n' _ (Or.inl (by have := HN.out.1; omega)) k1
                      have en := HEC.out n g2
                      rw [g3] at en
                      have fn := HFC.out n' k2
                      rw [k3] at fn
                      have HD : Hid (∀ w', Below w.heap.size w w' → w'.cell? ⟨gx, n * 2, none⟩ = some (.string a.args[q].name) ∧ w'.cell? ⟨gx, n * 2 + 1, none⟩ = some (.slice a1 a.args[q].args.length c1) ∧ w'.cell? ⟨gy, n' * 2, none⟩ = some (.string b.args[q].name) ∧ w'.cell? ⟨gy, n' * 2 + 1, none⟩ = some (.slice a2 b.args[q].args.length c2)) := fun w' hb => ⟨bcell1 hb d0, bcell1 hb d1, bcell1 hb f0, bcell1 hb f1⟩
                      have HTB : Hid (∀ w', Below w.heap.size w w' → w'.cell? ⟨gi, n, none⟩ = some (.slice (some ⟨bt, 0, none⟩) (sizeL [B]) ct) ∧ w'.cell? ⟨bt, n', none⟩ = some (.bool (pathB row a.args[q] b.args[q])) ∧ w'.cell? ⟨eb, eo + n, none⟩ = some (.int .i64 ((i + 1 + sizeL (a.args.take (q + 1)) : Nat) : Int)) ∧ w'.cell? ⟨fb, fo + n', none⟩ = some (.int .i64 ((k + 1 + sizeL (b.args.take (q + 1)) : Nat) : Int))) := fun w' hb => ⟨bcell1 hb d2, bcell1 hb d4, bcell1 hb en, bcell1 hb fn⟩
                      have HX1 := hide (show TV w X (.agg #[.string a.args[q].name, .slice a1 a.args[q].args.length c1]) a.args[q] from ⟨a1, c1, rfl, hs1⟩)
                      have HY1 := hide (show TV w X (.agg #[.string b.args[q].name, .slice a2 b.args[q].args.length c2]) b.args[q] from ⟨a2, c2, rfl, hs2⟩)
                      have hst : sizeL (a.args.take q) < sizeL (a.args.take (q + 1)) := by have := sizeL_take a.args q hlt; have := size_pos a.args[q]; omega
                      have hst2 : sizeL (a.args.take (q + 1)) ≤ sizeL a.args := by have h3 := sizeL_append (a.args.take (q + 1)) (a.args.drop (q + 1)); rw [List.take_append_drop] at h3; omega
                      have HST := hide (And.intro hst hst2)
                      have HU1 : Hid (a.args[q] ≠ b.args[q] → unl a.args b.args = some (a.args[q], b.args[q])) := fun he => unl_from hlt hlt2 (fun j hj => HALL.out j hj (by omega) (by omega)) he
                      have HU2 : Hid (a.args[q] = b.args[q] → ∀ j (h1 : j < q + 1) (h2 : j < a.args.length) (h3 : j < b.args.length), a.args[j] = b.args[j]) := fun he j h1 h2 h3 => by
                        by_cases hj : j = q
                        · subst hj; exact he
                        · exact HALL.out j (by omega) h2 h3
                      generalize a.args[q] = x at *
                      generalize b.args[q] = y at *
                      clear hs1 hs2 d0 d1 d2 d3 d4 f0 f1 en fn g1 g3 g4 k1 k3 k4 hst hst2
                      have HS0 : Hid (TwW a b aa ca ab cb w wr.drew) := HTW.out.later (below_drewN (Below.refl _ _) 1)
                      go_wp2_with fail
                      refine wp_region_held_drew (S := TwW a b aa ca ab cb w) (by kernel_rfl) HS0.out (fun hHeld => ?_)
                      refine wpAnyH_take (i := 0) (v := ?_) rfl (by kernel_rfl) (by kernel_rfl) (by kernel_rfl) (fun _ _ _ h => h) (Or.inl ⟨by rfl, ?_⟩) (by assumption) ?_
                      rotate_left
                      · intro w' hSw
                        have r0 : w'.cell? ⟨w.heap.size, 0, none⟩ = some (.string a.name) := hSw.k1.cell 0
                        have r1 : w'.cell? ⟨w.heap.size, 1, none⟩ = some (.slice aa a.args.length ca) := hSw.k1.cell 1
                        have s0 : w'.cell? ⟨w.heap.size + 1, 0, none⟩ = some (.string b.name) := hSw.k2.cell 0
                        have s1 : w'.cell? ⟨w.heap.size + 1, 1, none⟩ = some (.slice ab b.args.length cb) := hSw.k2.cell 1
                        obtain ⟨t0, t1, t2, t3⟩ := HD.out w' hSw.bl
                        go_simp <;> with_reducible rfl
                      try simp only [Act.put, List.setIfInBounds_toArray, List.set_cons_zero, List.set_cons_succ, List.getElem_toArray, List.getElem_cons_succ, List.getElem_cons_zero]
                      refine wpAnyH_take (i := 1) (v := ?_) rfl (by kernel_rfl) (by kernel_rfl) (by kernel_rfl) (fun _ _ _ h => h) (Or.inl ⟨by rfl, ?_⟩) (by assumption) ?_
                      rotate_left
                      · intro w' hSw
                        have r0 : w'.cell? ⟨w.heap.size, 0, none⟩ = some (.string a.name) := hSw.k1.cell 0
                        have r1 : w'.cell? ⟨w.heap.size, 1, none⟩ = some (.slice aa a.args.length ca) := hSw.k1.cell 1
                        have s0 : w'.cell? ⟨w.heap.size + 1, 0, none⟩ = some (.string b.name) := hSw.k2.cell 0
                        have s1 : w'.cell? ⟨w.heap.size + 1, 1, none⟩ = some (.slice ab b.args.length cb) := hSw.k2.cell 1
                        obtain ⟨t0, t1, t2, t3⟩ := HD.out w' hSw.bl
                        go_simp <;> with_reducible rfl
                      try simp only [Act.put, List.setIfInBounds_toArray, List.set_cons_zero, List.set_cons_succ, List.getElem_toArray, List.getElem_cons_succ, List.getElem_cons_zero]
                      refine wpAnyH_take (i := 2) (v := ?_) rfl (by kernel_rfl) (by kernel_rfl) (by kernel_rfl) (fun _ _ _ h => h) (Or.inl ⟨by rfl, ?_⟩) (by assumption) ?_
                      rotate_left
                      · intro w' hSw
                        have r0 : w'.cell? ⟨w.heap.size, 0, none⟩ = some (.string a.name) := hSw.k1.cell 0
                        have r1 : w'.cell? ⟨w.heap.size, 1, none⟩ = some (.slice aa a.args.length ca) := hSw.k1.cell 1
                        have s0 : w'.cell? ⟨w.heap.size + 1, 0, none⟩ = some (.string b.name) := hSw.k2.cell 0
                        have s1 : w'.cell? ⟨w.heap.size + 1, 1, none⟩ = some (.slice ab b.args.length cb) := hSw.k2.cell 1
                        obtain ⟨t0, t1, t2, t3⟩ := HD.out w' hSw.bl
                        go_simp <;> with_reducible rfl
                      try simp only [Act.put, List.setIfInBounds_toArray, List.set_cons_zero, List.set_cons_succ, List.getElem_toArray, List.getElem_cons_succ, List.getElem_cons_zero]
                      refine wpAnyH_take (i := 3) (v := ?_) rfl (by kernel_rfl) (by kernel_rfl) (by kernel_rfl) (fun _ _ _ h => h) (Or.inl ⟨by rfl, ?_⟩) (by assumption) ?_
                      rotate_left
                      · intro w' hSw
                        have r0 : w'.cell? ⟨w.heap.size, 0, none⟩ = some (.string a.name) := hSw.k1.cell 0
                        have r1 : w'.cell? ⟨w.heap.size, 1, none⟩ = some (.slice aa a.args.length ca) := hSw.k1.cell 1
                        have s0 : w'.cell? ⟨w.heap.size + 1, 0, none⟩ = some (.string b.name) := hSw.k2.cell 0
                        have s1 : w'.cell? ⟨w.heap.size + 1, 1, none⟩ = some (.slice ab b.args.length cb) := hSw.k2.cell 1
                        obtain ⟨t0, t1, t2, t3⟩ := HD.out w' hSw.bl
                        go_simp <;> with_reducible rfl
                      try simp only [Act.put, List.setIfInBounds_toArray, List.set_cons_zero, List.set_cons_succ, List.getElem_toArray, List.getElem_cons_succ, List.getElem_cons_zero]
                      refine wpAnyH_take (i := 4) (v := ?_) rfl (by kernel_rfl) (by kernel_rfl) (by kernel_rfl) (fun _ _ _ h => h) (Or.inl ⟨by rfl, ?_⟩) (by assumption) ?_
                      rotate_left
                      · intro w' hSw
                        have r0 : w'.cell? ⟨w.heap.size, 0, none⟩ = some (.string a.name) := hSw.k1.cell 0
                        have r1 : w'.cell? ⟨w.heap.size, 1, none⟩ = some (.slice aa a.args.length ca) := hSw.k1.cell 1
                        have s0 : w'.cell? ⟨w.heap.size + 1, 0, none⟩ = some (.string b.name) := hSw.k2.cell 0
                        have s1 : w'.cell? ⟨w.heap.size + 1, 1, none⟩ = some (.slice ab b.args.length cb) := hSw.k2.cell 1
                        obtain ⟨t0, t1, t2, t3⟩ := HD.out w' hSw.bl
                        go_simp <;> with_reducible rfl
                      try simp only [Act.put, List.setIfInBounds_toArray, List.set_cons_zero, List.set_cons_succ, List.getElem_toArray, List.getElem_cons_succ, List.getElem_cons_zero]
                      refine wpAnyH_take (i := 5) (v := ?_) rfl (by kernel_rfl) (by kernel_rfl) (by kernel_rfl) (fun _ _ _ h => h) (Or.inl ⟨by rfl, ?_⟩) (by assumption) ?_
                      rotate_left
                      · intro w' hSw
                        have r0 : w'.cell? ⟨w.heap.size, 0, none⟩ = some (.string a.name) := hSw.k1.cell 0
                        have r1 : w'.cell? ⟨w.heap.size, 1, none⟩ = some (.slice aa a.args.length ca) := hSw.k1.cell 1
                        have s0 : w'.cell? ⟨w.heap.size + 1, 0, none⟩ = some (.string b.name) := hSw.k2.cell 0
                        have s1 : w'.cell? ⟨w.heap.size + 1, 1, none⟩ = some (.slice ab b.args.length cb) := hSw.k2.cell 1
                        obtain ⟨t0, t1, t2, t3⟩ := HD.out w' hSw.bl
                        go_simp <;> with_reducible rfl
                      try simp only [Act.put, List.setIfInBounds_toArray, List.set_cons_zero, List.set_cons_succ, List.getElem_toArray, List.getElem_cons_succ, List.getElem_cons_zero]
                      refine wpAnyH_take (i := 6) (v := ?_) rfl (by kernel_rfl) (by kernel_rfl) (by kernel_rfl) (fun _ _ _ h => h) (Or.inl ⟨by rfl, ?_⟩) (by assumption) ?_
                      rotate_left
                      · intro w' hSw
                        have r0 : w'.cell? ⟨w.heap.size, 0, none⟩ = some (.string a.name) := hSw.k1.cell 0
                        have r1 : w'.cell? ⟨w.heap.size, 1, none⟩ = some (.slice aa a.args.length ca) := hSw.k1.cell 1
                        have s0 : w'.cell? ⟨w.heap.size + 1, 0, none⟩ = some (.string b.name) := hSw.k2.cell 0
                        have s1 : w'.cell? ⟨w.heap.size + 1, 1, none⟩ = some (.slice ab b.args.length cb) := hSw.k2.cell 1
                        obtain ⟨t0, t1, t2, t3⟩ := HD.out w' hSw.bl
                        go_simp <;> with_reducible rfl
                      try simp only [Act.put, List.setIfInBounds_toArray, List.set_cons_zero, List.set_cons_succ, List.getElem_toArray, List.getElem_cons_succ, List.getElem_cons_zero]
                      refine wpAnyH_take (i := 7) (v := ?_) rfl (by kernel_rfl) (by kernel_rfl) (by kernel_rfl) (fun _ _ _ h => h) (Or.inl ⟨by rfl, ?_⟩) (by assumption) ?_
                      rotate_left
                      · intro w' hSw
                        have r0 : w'.cell? ⟨w.heap.size, 0, none⟩ = some (.string a.name) := hSw.k1.cell 0
                        have r1 : w'.cell? ⟨w.heap.size, 1, none⟩ = some (.slice aa a.args.length ca) := hSw.k1.cell 1
                        have s0 : w'.cell? ⟨w.heap.size + 1, 0, none⟩ = some (.string b.name) := hSw.k2.cell 0
                        have s1 : w'.cell? ⟨w.heap.size + 1, 1, none⟩ = some (.slice ab b.args.length cb) := hSw.k2.cell 1
                        obtain ⟨t0, t1, t2, t3⟩ := HD.out w' hSw.bl
                        go_simp <;> with_reducible rfl
                      try simp only [Act.put, List.setIfInBounds_toArray, List.set_cons_zero, List.set_cons_succ, List.getElem_toArray, List.getElem_cons_succ, List.getElem_cons_zero]
                      refine wpAnyH_ready (rs := [8]) (by kernel_rfl) (by simp) ?_
                      refine AllReadyH.cons rfl (fun K hK => ?_) AllReadyH.nil
                      go_simp
                      go_at_call 27
                      refine (sameR_all x y _ _ _ X X (by exact HX1.out.later hHeld.bl) (by exact HY1.out.later hHeld.bl)).mono ?_
                      rintro e w7 ⟨rfl, hb7⟩
                      have H7 := hide (hHeld.later hb7)
                      clear hb7
                      go_simp
                      refine hK.out _ _ (by exact H7.out) (fun hHeld => ?_)
                      clear hK K
                      try simp only [Act.put, List.setIfInBounds_toArray, List.set_cons_zero, List.set_cons_succ, List.getElem_toArray, List.getElem_cons_succ, List.getElem_cons_zero]
                      refine wpAnyH_take (i := 9) (v := ?_) rfl (by kernel_rfl) (by kernel_rfl) (by kernel_rfl) (fun _ _ _ h => h) (Or.inl ⟨by rfl, ?_⟩) (by assumption) ?_
                      rotate_left
                      · intro w' hSw
                        go_simp <;> with_reducible rfl
                      try simp only [Act.put, List.setIfInBounds_toArray, List.set_cons_zero, List.set_cons_succ, List.getElem_toArray, List.getElem_cons_succ, List.getElem_cons_zero]
                      refine wpAnyH_done (by kernel_rfl) ?_ _
                      obtain ⟨z0, z1, z2, z3⟩ := HTB.out _ H7.out.bl
                      by_cases he : x = y
                      · have hs : sameB x y = true := sameB_iff.2 he
                        rw [hs]
                        have HREL := hide (HU2.out he)
                        clear he hs z1
                        go_wp2_with fail
                        go_roundw
                        case rel => exact ⟨q + 1, _, _, by omega, rfl, rfl, rfl, rfl, HREL.out, H7.out⟩
                        case measure => have h1 := HST.out; have h2 := HN.out; simp only [intOf]; omega
                      · have hs : sameB x y = false := by
                          cases h : sameB x y with
                          | false => rfl
                          | true => exact absurd (sameB_iff.1 h) he
                        rw [hs]
                        have HR : Hid (pathB row a b = pathB row x y) := by unfold Hid; rw [HLAST.out, HU1.out he]
                        clear he hs
                        go_wp2_with fail
                        go_ret
                        exact ⟨by rw [HR.out]; rfl, H7.out.bl⟩
                    · have htk : a.args.take q = a.args := List.take_of_length_le (by omega)
                      have hne : n = i + 1 + sizeL a.args := by have := HN.out.1; rw [htk] at this; exact this
                      subst hne
                      have HR : Hid (pathB row a b = false) := by
                        unfold Hid
                        rw [HLAST.out, unl_all HLEN.out fun j h1 h2 => HALL.out j (by omega) h1 h2]
                      clear htk HN
                      go_wp2_with fail
                      go_ret
                      exact ⟨by rw [HR.out]; rfl, HTW.out.bl⟩
#print axioms pathStep_any
end Go.Proofs.Ytpbnbkeoiojpaac

/- Walks: above by paths, as the document says. -/
namespace Go.Proofs.Ytpbnbkeoiojpaac
open Go.RowKit
set_option linter.unusedSimpArgs false
set_option linter.unusedVariables false
set_option maxRecDepth 8000

theorem infoBs : (Try.prog.info? 62).map (fun i => (i.zero, i.size, i.bytes)) = some (some (.slice none 0 0), 1, 24) := by kernel_rfl
theorem infoBo : (Try.prog.info? 4).map (fun i => (i.zero, i.size, i.bytes)) = some (some (.bool false), 1, 1) := by kernel_rfl
theorem make_rows (n : Nat) (hn : n ≤ 20000) : ∃ cs : Array Value, cs.size = n ∧ ∀ w, (Instr.makeSlice 61 (.int .i64 (n : Int)) (.int .i64 (n : Int))).run Try.prog w = .ok (.slice (some ⟨w.heap.size, 0, none⟩) n n) (w.alloc (.cells cs 62)) := by
  obtain ⟨i0, hi, hz0, hz1, hz2⟩ := info_parts infoBs
  refine ⟨madeCells (Value.slice none 0 0).cells (n * i0.size), by rw [size_madeCells, hz1, Nat.mul_one], fun w => ?_⟩
  have hr := run_make (P := Try.prog) w 61 62 i0 _ Try.underlying61 hi hz0 .i64 .i64 n n (by omega) (by omega) (by rw [hz2]; omega) (by omega)
  simpa using hr
theorem make_bools (n : Nat) (hn : n ≤ 20000) : ∃ cs : Array Value, cs.size = n ∧ ∀ w, (Instr.makeSlice 62 (.int .i64 (n : Int)) (.int .i64 (n : Int))).run Try.prog w = .ok (.slice (some ⟨w.heap.size, 0, none⟩) n n) (w.alloc (.cells cs 4)) := by
  obtain ⟨i0, hi, hz0, hz1, hz2⟩ := info_parts infoBo
  refine ⟨madeCells (Value.bool false).cells (n * i0.size), by rw [size_madeCells, hz1, Nat.mul_one], fun w => ?_⟩
  have hr := run_make (P := Try.prog) w 62 4 i0 _ Try.underlying62 hi hz0 .i64 .i64 n n (by omega) (by omega) (by rw [hz2]; omega) (by omega)
  simpa using hr
theorem knR_of {w1 w2 : World} {X : Nat → Prop} {A : Tm} {g : Nat} {xs : List Value} (hrow : RowT w1 X (preL [A]) xs) (hb : Below w1.heap.size w1 w2) (hc : ∀ j u, xs[j]? = some u → w2.cell? ⟨g, j, none⟩ = some u) : KnR w2 (fun _ => True) A g := by
  intro j x hx
  have hlt : j < (preL [A]).length := by
    rcases Nat.lt_or_ge j (preL [A]).length with h' | h'
    · exact h'
    · rw [List.getElem?_eq_none h'] at hx; cases hx
  rw [List.getElem?_eq_getElem hlt] at hx
  cases hx
  obtain ⟨d0, a', c', d1, hs⟩ := hrow.get j hlt
  exact ⟨a', c', hc _ _ d0, hc _ _ d1, (hs.later hb).mono fun _ _ _ => trivial⟩
theorem KnR.later {w w' : World} {X : Nat → Prop} {A : Tm} {g : Nat} (h : KnR w X A g) (hb : Below w.heap.size w w') : KnR w' X A g := fun j x hx => by
  obtain ⟨a', c', h1, h2, h3⟩ := h j x hx
  exact ⟨a', c', bcell1 hb h1, bcell1 hb h2, h3.later hb⟩

theorem cell_other {w : World} {b o b2 o2 : Nat} {v u : Value} (h : b2 ≠ b ∨ o2 ≠ o) (hc : w.cell? ⟨b2, o2, none⟩ = some u) : (w.setCell ⟨b, o, none⟩ v).cell? ⟨b2, o2, none⟩ = some u := by
  rw [← hc]
  refine World.cell?_setCell_other _ _ _ _ fun e => ?_
  simp at e
  omega
/-- The rows from the p-th on are filled. -/
def TabF (row : List ByteArray) (A B : Tm) (N g p top : Nat) (wr : World) : Prop := ∀ j x, p ≤ j → (preL [A])[j]? = some x → ∃ b' c', (N < b' ∧ b' < top) ∧ wr.cell? ⟨g, j, none⟩ = some (.slice (some ⟨b', 0, none⟩) (sizeL [B]) c') ∧ ∀ q y, (preL [B])[q]? = some y → wr.cell? ⟨b', q, none⟩ = some (.bool (pathB row x y))
def OInv (row : List ByteArray) (A B : Tm) (w6 : World) (i : Value) (wr : World) : Prop :=
  ∃ p : Nat, p ≤ sizeL [A] ∧ i = .int .i64 ((p : Int) - 1) ∧ Below w6.heap.size w6 wr ∧ (∃ cs, cs.size = sizeL [A] ∧ Blk wr w6.heap.size cs 62) ∧ TabF row A B w6.heap.size w6.heap.size p wr.heap.size wr
def IInv (row : List ByteArray) (A B a : Tm) (w6 : World) (i bt : Nat) (k : Value) (wr : World) : Prop :=
  ∃ r : Nat, r ≤ sizeL [B] ∧ k = .int .i64 ((r : Int) - 1) ∧ Below w6.heap.size w6 wr ∧ bt < wr.heap.size ∧ (∃ cs, cs.size = sizeL [A] ∧ Blk wr w6.heap.size cs 62) ∧ (∃ cs, cs.size = sizeL [B] ∧ Blk wr bt cs 4) ∧ TabF row A B w6.heap.size w6.heap.size (i + 1) bt wr ∧
    wr.cell? ⟨w6.heap.size, i, none⟩ = some (.slice (some ⟨bt, 0, none⟩) (sizeL [B]) (sizeL [B])) ∧ ∀ q y, r ≤ q → (preL [B])[q]? = some y → wr.cell? ⟨bt, q, none⟩ = some (.bool (pathB row a y))

set_option maxHeartbeats 4000000 in
theorem pathOf_any (row : List ByteArray) (hrl : row.length ≤ 1000) (a b : Tm) (za : sizeL [a] ≤ 20000) (zb : sizeL [b] ≤ 20000) (u va vb : Value) (w : World) (X : Nat → Prop) (hu : LV Value.string w X u row) (ha : TV w X va a) (hb : TV w X vb b) :
    Calls Try.prog 11 #[u, va, vb] w fun e w' => e = .returned (.bool (pathB row a b)) ∧ Below w.heap.size w w' := by
  have HA := hide ha
  have HB := hide hb
  have HU := hide hu
  obtain ⟨aa, ca, rfl, hsa⟩ := ha
  obtain ⟨ab, cb, rfl, hsb⟩ := hb
  clear hsa hsb hu
  have pa := size_pos a
  have pb := size_pos b
  obtain ⟨csR, hcsR, hmkR⟩ := make_rows (sizeL [a]) za
  obtain ⟨csB, hcsB, hmkB⟩ := make_bools (sizeL [b]) zb
  have A2 := hide (TwW.start a b aa ca ab cb w)
  go_enter Try.func11, Try.ntmps11
  go_wp2_with fail
  generalize ((w.alloc (.cells #[.string a.name, .slice aa a.args.length ca] 25)).alloc (.cells #[.string b.name, .slice ab b.args.length cb] 25)) = w2 at *
  refine (knots_any a _ _ X (by exact HA.out.later A2.out.bl) (by omega)).mono ?_
  rintro e w3 ⟨v3, xs3, rfl, hown3, hrow3, hb3⟩
  obtain ⟨gx, cx, rfl, hgx, hgxl, hc3⟩ := owned_val hown3 pa
  have KX3 := hide (knR_of hrow3 hb3 hc3)
  have A3 := hide (A2.out.later hb3)
  clear hown3 hrow3 hc3 hb3 A2
  have r0 : w3.cell? ⟨w.heap.size, 0, none⟩ = some (.string a.name) := A3.out.k1.cell 0
  have r1 : w3.cell? ⟨w.heap.size, 1, none⟩ = some (.slice aa a.args.length ca) := A3.out.k1.cell 1
  have s0 : w3.cell? ⟨w.heap.size + 1, 0, none⟩ = some (.string b.name) := A3.out.k2.cell 0
  have s1 : w3.cell? ⟨w.heap.size + 1, 1, none⟩ = some (.slice ab b.args.length cb) := A3.out.k2.cell 1
  go_wp2_with fail
  refine (knots_any b _ _ X (by exact HB.out.later A3.out.bl) (by omega)).mono ?_
  rintro e w4 ⟨v4, xs4, rfl, hown4, hrow4, hb4⟩
  obtain ⟨gy, cy, rfl, hgy, hgyl, hc4⟩ := owned_val hown4 pb
  have KY4 := hide (knR_of hrow4 hb4 hc4)
  have KX4 := hide (KX3.out.later hb4)
  have A4 := hide (A3.out.later hb4)
  clear hown4 hrow4 hc4 hb4 A3 KX3
  clear r0 r1 s0 s1
  have r0 : w4.cell? ⟨w.heap.size, 0, none⟩ = some (.string a.name) := A4.out.k1.cell 0
  have r1 : w4.cell? ⟨w.heap.size, 1, none⟩ = some (.slice aa a.args.length ca) := A4.out.k1.cell 1
  have s0 : w4.cell? ⟨w.heap.size + 1, 0, none⟩ = some (.string b.name) := A4.out.k2.cell 0
  have s1 : w4.cell? ⟨w.heap.size + 1, 1, none⟩ = some (.slice ab b.args.length cb) := A4.out.k2.cell 1
  go_wp2_with fail
  refine (ends_any a _ _ X za (by exact HA.out.later A4.out.bl)).mono ?_
  rintro e w5 ⟨ve, rfl, hlv5, hb5⟩
  have E5 := hide (hlv5.mono (Y := fun _ => True) fun _ _ _ => trivial)
  have KX5 := hide (KX4.out.later hb5)
  have KY5 := hide (KY4.out.later hb5)
  have A5 := hide (A4.out.later hb5)
  clear hlv5 hb5 A4 KX4 KY4
  clear r0 r1 s0 s1
  have r0 : w5.cell? ⟨w.heap.size, 0, none⟩ = some (.string a.name) := A5.out.k1.cell 0
  have r1 : w5.cell? ⟨w.heap.size, 1, none⟩ = some (.slice aa a.args.length ca) := A5.out.k1.cell 1
  have s0 : w5.cell? ⟨w.heap.size + 1, 0, none⟩ = some (.string b.name) := A5.out.k2.cell 0
  have s1 : w5.cell? ⟨w.heap.size + 1, 1, none⟩ = some (.slice ab b.args.length cb) := A5.out.k2.cell 1
  go_wp2_with fail
  refine (ends_any b _ _ X zb (by exact HB.out.later A5.out.bl)).mono ?_
  rintro e w6 ⟨vf, rfl, hlv6, hb6⟩
  have F6 := hide (hlv6.mono (Y := fun _ => True) fun _ _ _ => trivial)
  have E6 := hide (E5.out.later hb6)
  have KX6 := hide (KX5.out.later hb6)
  have KY6 := hide (KY5.out.later hb6)
  have B6 := hide (A5.out.later hb6).bl
  have U6 := hide ((HU.out.later B6.out).mono (Y := fun _ => True) fun _ _ _ => trivial)
  clear hlv6 hb6 A5 KX5 KY5 E5
  clear r0 r1 s0 s1
  have hpa := preL_len0 [a]
  have hpb := preL_len0 [b]
  have HHA : Hid ((preL [a])[0]? = some a ∧ (preL [b])[0]? = some b) := by
    obtain ⟨s1, l1⟩ := a
    obtain ⟨s2, l2⟩ := b
    exact ⟨by simp [preL], by simp [preL]⟩
  have hcsR' := hcsR
  go_wp2_with fail
  have O0 : Hid (OInv row a b w6 (.int .i64 ((sizeL [a] : Int) - 1)) (w6.alloc (.cells csR 62))) := by
    refine ⟨sizeL [a], Nat.le_refl _, rfl, (Below.refl _ _).alloc (Nat.le_refl _) _, ⟨csR, hcsR, Blk.new _ _ _⟩, fun j x hj hx => ?_⟩
    rw [List.getElem?_eq_none (by omega)] at hx; cases hx
  generalize w6.alloc (.cells csR 62) = w7 at *
  go_loopw [12] (fun i wr => OInv row a b w6 i wr) (fun i wr => (intOf i + 1).toNat)
  case atStart => exact O0.out
  case round =>
    clear O0
    obtain ⟨p, hp, rfl, hb, ⟨cs, hcs, hblk⟩, hTF⟩ := hrel
    have HB7 := hide hb
    have HBLK := hide hblk
    have HTF := hide hTF
    clear hb hTF
    cases p with
    | zero =>
      obtain ⟨b0, c0, _, d1, d2⟩ := HTF.out 0 a (Nat.le_refl _) HHA.out.1
      have d3 := d2 0 b HHA.out.2
      clear d2
      have hpai : (0 : Int) < (sizeL [a] : Int) := by omega
      have hpbi : (0 : Int) < (sizeL [b] : Int) := by omega
      go_wp2_with fail
      go_ret
      exact ⟨rfl, B6.out.trans (HB7.out.mono B6.out.size)⟩
    | succ i =>
      have ei : (((i + 1 : Nat) : Int) - 1) = (i : Int) := by omega
      rw [ei]
      clear ei
      have hii : (i : Int) < (sizeL [a] : Int) := by omega
      obtain ⟨x, hx⟩ : ∃ x, (preL [a])[i]? = some x := ⟨_, List.getElem?_eq_getElem (by omega)⟩
      have HX := hide hx
      clear hx
      have hgl := hblk.lt
      have hci : ∃ v, cs[i]? = some v := ⟨_, Array.getElem?_eq_getElem (by omega)⟩
      obtain ⟨v0, hv0⟩ := hci
      have q0 : ∀ o, (wr.alloc o).cell? ⟨w6.heap.size, i, none⟩ = some v0 := fun o => ((hblk.alloc o).cell i).trans hv0
      have qf : ∀ o j, (wr.alloc o).frozen? ⟨w6.heap.size, j, none⟩ = false := fun o j => (hblk.alloc o).frozen j
      have q1 : wr.cell? ⟨w6.heap.size, i, none⟩ = some v0 := (hblk.cell i).trans hv0
      have qg := hblk.frozen
      clear hblk
      go_wp2_with fail
      have I0 : Hid (IInv row a b x w6 i wr.heap.size (.int .i64 ((sizeL [b] : Int) - 1)) ((wr.setCell ⟨w6.heap.size, i, none⟩ (.slice (some ⟨wr.heap.size, 0, none⟩) (sizeL [b]) (sizeL [b]))).alloc (.cells csB 4))) := by
        have hset := (HBLK.out.set i (.slice (some ⟨wr.heap.size, 0, none⟩) (sizeL [b]) (sizeL [b]))).alloc (.cells csB 4)
        have hz : (wr.setCell ⟨w6.heap.size, i, none⟩ (.slice (some ⟨wr.heap.size, 0, none⟩) (sizeL [b]) (sizeL [b]))).heap.size = wr.heap.size := by simp [World.setCell]
        have hnew := Blk.new (wr.setCell ⟨w6.heap.size, i, none⟩ (.slice (some ⟨wr.heap.size, 0, none⟩) (sizeL [b]) (sizeL [b]))) csB 4
        rw [hz] at hnew
        have hbs : Below w6.heap.size w6 (wr.setCell ⟨w6.heap.size, i, none⟩ (.slice (some ⟨wr.heap.size, 0, none⟩) (sizeL [b]) (sizeL [b]))) := HB7.out.setCell (by simp) _
        refine ⟨sizeL [b], Nat.le_refl _, rfl, hbs.alloc hbs.size _, hnew.lt, ⟨_, by simp [hcs], hset⟩, ⟨csB, hcsB, hnew⟩, fun j y hj hy => ?_, ?_, fun q y hq hy => ?_⟩
        · obtain ⟨b', c', hbb, e1, e2⟩ := HTF.out j y (by omega) hy
          refine ⟨b', c', hbb, ?_, fun q z hz' => ?_⟩
          · refine (cell_alloc (w := wr.setCell ⟨w6.heap.size, i, none⟩ _) ?_ _)
            exact cell_other (Or.inr (by omega)) e1
          · refine (cell_alloc (w := wr.setCell ⟨w6.heap.size, i, none⟩ _) ?_ _)
            exact cell_other (Or.inl (by omega)) (e2 q z hz')
        · have hlt : i < cs.size := by omega
          rw [hset.cell, Array.getElem?_setIfInBounds]
          simp [hlt]
        · rw [List.getElem?_eq_none (by omega)] at hy; cases hy
      have hbt : w6.heap.size < wr.heap.size := hgl
      generalize hbtg : wr.heap.size = bt at *
      generalize (wr.setCell ⟨w6.heap.size, i, none⟩ (.slice (some ⟨bt, 0, none⟩) (sizeL [b]) (sizeL [b]))).alloc (.cells csB 4) = w8 at *
      clear q0 qf q1 qg hv0 HTF HB7 HBLK hcs hbtg hgl
      go_loopw [13] (fun k wr => IInv row a b x w6 i bt k wr) (fun k wr => (intOf k + 1).toNat)
      case atStart => exact I0.out
      case round =>
        clear I0
        obtain ⟨r, hr, rfl, hb, hbl, ⟨cs1, hcs1, hblk1⟩, ⟨cs2, hcs2, hblk2⟩, hTF, hrow, hfil⟩ := hrel
        have HB8 := hide hb
        have HBLK1 := hide hblk1
        have HBLK2 := hide hblk2
        have HTF := hide hTF
        have HFIL := hide hfil
        clear hb hTF hfil
        cases r with
        | zero =>
          go_wp2_with fail
          go_roundw
          case rel =>
            refine ⟨i, by omega, rfl, HB8.out, ⟨cs1, hcs1, HBLK1.out⟩, fun j y hj hy => ?_⟩
            by_cases hji : j = i
            · subst hji
              have e : y = x := by have h := HX.out; rw [hy] at h; cases h; rfl
              subst e
              exact ⟨bt, _, ⟨hbt, hbl⟩, hrow, fun q z hz => HFIL.out q z (Nat.zero_le _) hz⟩
            · obtain ⟨b', c', hbb, e1, e2⟩ := HTF.out j y (by omega) hy
              exact ⟨b', c', ⟨hbb.1, by omega⟩, e1, e2⟩
          case measure => simp only [intOf]; omega
        | succ k =>
          have ek : (((k + 1 : Nat) : Int) - 1) = (k : Int) := by omega
          rw [ek]
          clear ek
          have hki : (k : Int) < (sizeL [b] : Int) := by omega
          obtain ⟨y, hy⟩ : ∃ y, (preL [b])[k]? = some y := ⟨_, List.getElem?_eq_getElem (by omega)⟩
          have HY := hide hy
          clear hy
          have hck : ∃ v, cs2[k]? = some v := ⟨_, Array.getElem?_eq_getElem (by omega)⟩
          obtain ⟨v1, hv1⟩ := hck
          have HTAB : Hid (TabR row a b wr w6.heap.size i k) := fun j z hj hz => by
            by_cases hji : j = i
            · subst hji
              have e : z = x := by have h := HX.out; rw [hz] at h; cases h; rfl
              subst e
              exact ⟨bt, _, hrow, fun q z' hq hz' => HFIL.out q z' (by omega) hz'⟩
            · obtain ⟨b', c', _, e1, e2⟩ := HTF.out j z (by omega) hz
              exact ⟨b', c', e1, fun q z' _ hz' => e2 q z' hz'⟩
          have HROW := hide hrow
          have HS0 : Hid (Below wr.heap.size wr wr.drew) := below_drewN (Below.refl _ _) 1
          clear hblk1 hblk2 hrow
          have HCALL : Hid (∀ w', Below wr.heap.size wr w' → Calls Try.prog 39 #[u, .slice (some ⟨gx, 0, none⟩) (sizeL [a]) cx, .slice (some ⟨gy, 0, none⟩) (sizeL [b]) cy, ve, vf, .slice (some ⟨w6.heap.size, 0, none⟩) (sizeL [a]) (sizeL [a]), .int .i64 (i : Int), .int .i64 (k : Int)] w' fun e w'' => e = .returned (.bool (pathB row x y)) ∧ Below w'.heap.size w' w'') := fun w' hb' => by
            have hb6' : Below w6.heap.size w6 w' := HB8.out.trans (hb'.mono HB8.out.size)
            refine pathStep_any row hrl a b x y za zb i k HX.out HY.out u ve vf gx cx gy cy w6.heap.size (sizeL [a]) w' (fun _ => True) (U6.out.later hb6') (KX6.out.later hb6') (KY6.out.later hb6') (E6.out.later hb6') (F6.out.later hb6') fun j z hj hz => ?_
            obtain ⟨b', c', e1, e2⟩ := HTAB.out j z hj hz
            exact ⟨b', c', bcell1 hb' e1, fun q z' hq hz' => bcell1 hb' (e2 q z' hq hz')⟩
          go_wp2_with fail
          refine wp_region_held_drew (S := fun w' => w'.cell? ⟨w6.heap.size, i, none⟩ = some (.slice (some ⟨bt, 0, none⟩) (sizeL [b]) (sizeL [b]))) (by kernel_rfl) HROW.out (fun hHeld => ?_)
          refine wpAnyH_take (i := 0) (v := ?_) rfl (by kernel_rfl) (by kernel_rfl) (by kernel_rfl) (fun _ _ _ h => h) (Or.inl ⟨by rfl, ?_⟩) (by assumption) ?_
          rotate_left
          · intro w' hSw
            have t0 := hSw
            go_simp <;> with_reducible rfl
          try simp only [Act.put, List.setIfInBounds_toArray, List.set_cons_zero, List.set_cons_succ, List.getElem_toArray, List.getElem_cons_succ, List.getElem_cons_zero]
          refine wpAnyH_take (i := 1) (v := ?_) rfl (by kernel_rfl) (by kernel_rfl) (by kernel_rfl) (fun _ _ _ h => h) (Or.inl ⟨by rfl, ?_⟩) (by assumption) ?_
          rotate_left
          · intro w' hSw
            have t0 := hSw
            go_simp <;> with_reducible rfl
          try simp only [Act.put, List.setIfInBounds_toArray, List.set_cons_zero, List.set_cons_succ, List.getElem_toArray, List.getElem_cons_succ, List.getElem_cons_zero]
          refine wpAnyH_take (i := 2) (v := ?_) rfl (by kernel_rfl) (by kernel_rfl) (by kernel_rfl) (fun _ _ _ h => h) (Or.inl ⟨by rfl, ?_⟩) (by assumption) ?_
          rotate_left
          · intro w' hSw
            have t0 := hSw
            go_simp <;> with_reducible rfl
          try simp only [Act.put, List.setIfInBounds_toArray, List.set_cons_zero, List.set_cons_succ, List.getElem_toArray, List.getElem_cons_succ, List.getElem_cons_zero]
          refine wpAnyH_take (i := 3) (v := ?_) rfl (by kernel_rfl) (by kernel_rfl) (by kernel_rfl) (fun _ _ _ h => h) (Or.inl ⟨by rfl, ?_⟩) (by assumption) ?_
          rotate_left
          · intro w' hSw
            have t0 := hSw
            go_simp <;> with_reducible rfl
          try simp only [Act.put, List.setIfInBounds_toArray, List.set_cons_zero, List.set_cons_succ, List.getElem_toArray, List.getElem_cons_succ, List.getElem_cons_zero]
          refine wpAnyH_take (i := 4) (v := ?_) rfl (by kernel_rfl) (by kernel_rfl) (by kernel_rfl) (fun _ _ _ h => h) (Or.inl ⟨by rfl, ?_⟩) (by assumption) ?_
          rotate_left
          · intro w' hSw
            have t0 := hSw
            go_simp <;> with_reducible rfl
          try simp only [Act.put, List.setIfInBounds_toArray, List.set_cons_zero, List.set_cons_succ, List.getElem_toArray, List.getElem_cons_succ, List.getElem_cons_zero]
          refine wpAnyH_take (i := 5) (v := ?_) rfl (by kernel_rfl) (by kernel_rfl) (by kernel_rfl) (fun _ _ _ h => h) (Or.inl ⟨by rfl, ?_⟩) (by assumption) ?_
          rotate_left
          · intro w' hSw
            have t0 := hSw
            go_simp <;> with_reducible rfl
          try simp only [Act.put, List.setIfInBounds_toArray, List.set_cons_zero, List.set_cons_succ, List.getElem_toArray, List.getElem_cons_succ, List.getElem_cons_zero]
          refine wpAnyH_take (i := 6) (v := ?_) rfl (by kernel_rfl) (by kernel_rfl) (by kernel_rfl) (fun _ _ _ h => h) (Or.inl ⟨by rfl, ?_⟩) (by assumption) ?_
          rotate_left
          · intro w' hSw
            have t0 := hSw
            go_simp <;> with_reducible rfl
          try simp only [Act.put, List.setIfInBounds_toArray, List.set_cons_zero, List.set_cons_succ, List.getElem_toArray, List.getElem_cons_succ, List.getElem_cons_zero]
          refine wpAnyH_take (i := 7) (v := ?_) rfl (by kernel_rfl) (by kernel_rfl) (by kernel_rfl) (fun _ _ _ h => h) (Or.inl ⟨by rfl, ?_⟩) (by assumption) ?_
          rotate_left
          · intro w' hSw
            have t0 := hSw
            go_simp <;> with_reducible rfl
          try simp only [Act.put, List.setIfInBounds_toArray, List.set_cons_zero, List.set_cons_succ, List.getElem_toArray, List.getElem_cons_succ, List.getElem_cons_zero]
          refine wpAnyH_take (i := 8) (v := ?_) rfl (by kernel_rfl) (by kernel_rfl) (by kernel_rfl) (fun _ _ _ h => h) (Or.inl ⟨by rfl, ?_⟩) (by assumption) ?_
          rotate_left
          · intro w' hSw
            have t0 := hSw
            go_simp <;> with_reducible rfl
          try simp only [Act.put, List.setIfInBounds_toArray, List.set_cons_zero, List.set_cons_succ, List.getElem_toArray, List.getElem_cons_succ, List.getElem_cons_zero]
          refine wpAnyH_take (i := 9) (v := ?_) rfl (by kernel_rfl) (by kernel_rfl) (by kernel_rfl) (fun _ _ _ h => h) (Or.inl ⟨by rfl, ?_⟩) (by assumption) ?_
          rotate_left
          · intro w' hSw
            have t0 := hSw
            go_simp <;> with_reducible rfl
          try simp only [Act.put, List.setIfInBounds_toArray, List.set_cons_zero, List.set_cons_succ, List.getElem_toArray, List.getElem_cons_succ, List.getElem_cons_zero]
          refine wpAnyH_take (i := 10) (v := ?_) rfl (by kernel_rfl) (by kernel_rfl) (by kernel_rfl) (fun _ _ _ h => h) (Or.inl ⟨by rfl, ?_⟩) (by assumption) ?_
          rotate_left
          · intro w' hSw
            have t0 := hSw
            go_simp <;> with_reducible rfl
          try simp only [Act.put, List.setIfInBounds_toArray, List.set_cons_zero, List.set_cons_succ, List.getElem_toArray, List.getElem_cons_succ, List.getElem_cons_zero]
          refine wpAnyH_take (i := 11) (v := ?_) rfl (by kernel_rfl) (by kernel_rfl) (by kernel_rfl) (fun _ _ _ h => h) (Or.inl ⟨by rfl, ?_⟩) (by assumption) ?_
          rotate_left
          · intro w' hSw
            have t0 := hSw
            go_simp <;> with_reducible rfl
          try simp only [Act.put, List.setIfInBounds_toArray, List.set_cons_zero, List.set_cons_succ, List.getElem_toArray, List.getElem_cons_succ, List.getElem_cons_zero]
          refine wpAnyH_take (i := 12) (v := ?_) rfl (by kernel_rfl) (by kernel_rfl) (by kernel_rfl) (fun _ _ _ h => h) (Or.inl ⟨by rfl, ?_⟩) (by assumption) ?_
          rotate_left
          · intro w' hSw
            have t0 := hSw
            go_simp <;> with_reducible rfl
          try simp only [Act.put, List.setIfInBounds_toArray, List.set_cons_zero, List.set_cons_succ, List.getElem_toArray, List.getElem_cons_succ, List.getElem_cons_zero]

          refine wpAnyH_ready (rs := [13]) (by kernel_rfl) (by simp) ?_
          refine AllReadyH.cons rfl (fun K hK => ?_) AllReadyH.nil
          go_simp
          go_at_call 39
          refine (HCALL.out _ HS0.out).mono ?_
          rintro e w9 ⟨rfl, hb9⟩
          have H9 := hide (HS0.out.trans (hb9.mono HS0.out.size))
          clear hb9
          go_simp
          refine hK.out _ _ (by exact bcell1 H9.out HROW.out) (fun hHeld => ?_)
          clear hK K
          try simp only [Act.put, List.setIfInBounds_toArray, List.set_cons_zero, List.set_cons_succ, List.getElem_toArray, List.getElem_cons_succ, List.getElem_cons_zero]
          refine wpAnyH_take (i := 14) (v := ?_) rfl (by kernel_rfl) (by kernel_rfl) (by kernel_rfl) (fun _ _ _ h => h) (Or.inl ⟨by rfl, ?_⟩) (by assumption) ?_
          rotate_left
          · intro w' hSw
            have t0 := hSw
            go_simp <;> with_reducible rfl
          try simp only [Act.put, List.setIfInBounds_toArray, List.set_cons_zero, List.set_cons_succ, List.getElem_toArray, List.getElem_cons_succ, List.getElem_cons_zero]
          have K9 := HBLK2.out.below H9.out HBLK2.out.lt
          have z0 : w9.cell? ⟨bt, k, none⟩ = some v1 := (K9.cell k).trans hv1
          have zf := K9.frozen k
          refine wpAnyH_ready (rs := [15]) (by kernel_rfl) (by simp) ?_
          refine AllReadyH.cons rfl (fun K hK => ?_) AllReadyH.nil
          go_simp
          refine hK.out _ _ (by exact cell_other (Or.inl (by omega)) (bcell1 H9.out HROW.out)) (fun hHeld => ?_)
          clear hK K
          try simp only [Act.put, List.setIfInBounds_toArray, List.set_cons_zero, List.set_cons_succ, List.getElem_toArray, List.getElem_cons_succ, List.getElem_cons_zero]
          refine wpAnyH_done (by kernel_rfl) ?_ _
          have HREL : Hid (IInv row a b x w6 i bt (.int .i64 ((k : Int) - 1)) (w9.setCell ⟨bt, k, none⟩ (.bool (pathB row x y)))) := by
            have hb69 := HB8.out.trans (H9.out.mono HB8.out.size)
            have k1 := (HBLK1.out.below H9.out HBLK1.out.lt).setOther k (.bool (pathB row x y)) (b' := bt) (by omega)
            have k2 := K9.set k (.bool (pathB row x y))
            refine ⟨k, by omega, rfl, hb69.setCell (by simp; omega) _, by have := k2.lt; exact this, ⟨cs1, hcs1, k1⟩, ⟨_, by simp [hcs2], k2⟩, fun j z hj hz => ?_, ?_, fun q z hq hz => ?_⟩
            · obtain ⟨b', c', hbb, e1, e2⟩ := HTF.out j z hj hz
              exact ⟨b', c', hbb, cell_other (Or.inl (by omega)) (bcell1 H9.out e1), fun q z' hz' => cell_other (Or.inl (by omega)) (bcell1 H9.out (e2 q z' hz'))⟩
            · exact cell_other (Or.inl (by omega)) (bcell1 H9.out HROW.out)
            · by_cases hqk : q = k
              · subst hqk
                have e : z = y := by have h := HY.out; rw [hz] at h; cases h; rfl
                subst e
                have hlt : q < cs2.size := by omega
                rw [k2.cell, Array.getElem?_setIfInBounds]
                simp [hlt]
              · exact cell_other (Or.inr hqk) (bcell1 H9.out (HFIL.out q z (by omega) hz))
          go_wp2_with fail
          go_roundw
          case rel => exact HREL.out
          case measure => simp only [intOf]; omega
#print axioms pathOf_any
end Go.Proofs.Ytpbnbkeoiojpaac

/- Walks: the law on orders. -/
namespace Go.Proofs.Ytpbnbkeoiojpaac
open Go.RowKit
set_option linter.unusedSimpArgs false
set_option linter.unusedVariables false
set_option maxRecDepth 8000

set_option maxHeartbeats 4000000 in
theorem orderSays_any (row : List ByteArray) (a b : Tm) (u va vb : Value) (w : World) (X : Nat → Prop) (hu : LV Value.string w X u row) (ha : TV w X va a) (hb : TV w X vb b) :
    Calls Try.prog 3 #[u, va, vb] w fun e w' => e = .returned (.bool true) ∧ Below w.heap.size w w' := by
  have HA := hide ha
  have HB := hide hb
  have HU := hide hu
  obtain ⟨aa, ca, rfl, hsa⟩ := ha
  obtain ⟨ab, cb, rfl, hsb⟩ := hb
  obtain ⟨au, cu, rfl, ⟨hul, _⟩, _⟩ := hu
  clear hsa hsb
  have A2 := hide (TwW.start a b aa ca ab cb w)
  go_enter Try.func3, Try.ntmps3
  by_cases h100 : 100 < row.length
  · have h100i : (100 : Int) < (row.length : Int) := by omega
    go_wp2_with fail
    go_ret
    exact ⟨rfl, A2.out.bl⟩
  · have h100i : ¬ (100 : Int) < (row.length : Int) := by omega
    have hrl : row.length ≤ 1000 := by omega
    go_wp2_with fail
    generalize ((w.alloc (.cells #[.string a.name, .slice aa a.args.length ca] 25)).alloc (.cells #[.string b.name, .slice ab b.args.length cb] 25)) = w2 at *
    refine (huge_any a _ _ X (by exact HA.out.later A2.out.bl)).mono ?_
    rintro e w3 ⟨rfl, hb3⟩
    have A3 := hide (A2.out.later hb3)
    clear hb3 A2
    have r0 : w3.cell? ⟨w.heap.size, 0, none⟩ = some (.string a.name) := A3.out.k1.cell 0
    have r1 : w3.cell? ⟨w.heap.size, 1, none⟩ = some (.slice aa a.args.length ca) := A3.out.k1.cell 1
    have s0 : w3.cell? ⟨w.heap.size + 1, 0, none⟩ = some (.string b.name) := A3.out.k2.cell 0
    have s1 : w3.cell? ⟨w.heap.size + 1, 1, none⟩ = some (.slice ab b.args.length cb) := A3.out.k2.cell 1
    by_cases g1 : 3000 < sizeL [a]
    · have g1d : decide (3000 < sizeL [a]) = true := by simpa using g1
      rw [g1d]
      go_wp2_with fail
      go_ret
      exact ⟨rfl, A3.out.bl⟩
    · have g1d : decide (3000 < sizeL [a]) = false := by simpa using g1
      rw [g1d]
      clear g1d
      go_wp2_with fail
      refine (huge_any b _ _ X (by exact HB.out.later A3.out.bl)).mono ?_
      rintro e w4 ⟨rfl, hbw4⟩
      have A4 := hide (A3.out.later hbw4)
      clear hbw4 A3
      clear r0 r1 s0 s1
      have r0 : w4.cell? ⟨w.heap.size, 0, none⟩ = some (.string a.name) := A4.out.k1.cell 0
      have r1 : w4.cell? ⟨w.heap.size, 1, none⟩ = some (.slice aa a.args.length ca) := A4.out.k1.cell 1
      have s0 : w4.cell? ⟨w.heap.size + 1, 0, none⟩ = some (.string b.name) := A4.out.k2.cell 0
      have s1 : w4.cell? ⟨w.heap.size + 1, 1, none⟩ = some (.slice ab b.args.length cb) := A4.out.k2.cell 1

      by_cases g2 : 3000 < sizeL [b]
      · have g2d : decide (3000 < sizeL [b]) = true := by simpa using g2
        rw [g2d]
        go_wp2_with fail
        go_ret
        exact ⟨rfl, A4.out.bl⟩
      · have g2d : decide (3000 < sizeL [b]) = false := by simpa using g2
        rw [g2d]
        clear g2d
        go_wp2_with fail
        refine (rowMay_any row _ _ X (by exact HU.out.later A4.out.bl)).mono ?_
        rintro e w5 ⟨rfl, hbw5⟩
        have A5 := hide (A4.out.later hbw5)
        clear hbw5 A4
        clear r0 r1 s0 s1
        have r0 : w5.cell? ⟨w.heap.size, 0, none⟩ = some (.string a.name) := A5.out.k1.cell 0
        have r1 : w5.cell? ⟨w.heap.size, 1, none⟩ = some (.slice aa a.args.length ca) := A5.out.k1.cell 1
        have s0 : w5.cell? ⟨w.heap.size + 1, 0, none⟩ = some (.string b.name) := A5.out.k2.cell 0
        have s1 : w5.cell? ⟨w.heap.size + 1, 1, none⟩ = some (.slice ab b.args.length cb) := A5.out.k2.cell 1

        by_cases h0 : rowE row = 0
        · have HE : Hid (ordE row a b = twoE a b) := by unfold Hid ordE; rw [if_pos h0]
          rw [h0]
          go_wp2_with fail
          refine (twoMay_any a b _ _ _ X (by exact HA.out.later A5.out.bl) (by exact HB.out.later A5.out.bl)).mono ?_
          rintro e w6 ⟨rfl, hbw6⟩
          have A6 := hide (A5.out.later hbw6)
          clear hbw6 A5
          clear r0 r1 s0 s1
          have r0 : w6.cell? ⟨w.heap.size, 0, none⟩ = some (.string a.name) := A6.out.k1.cell 0
          have r1 : w6.cell? ⟨w.heap.size, 1, none⟩ = some (.slice aa a.args.length ca) := A6.out.k1.cell 1
          have s0 : w6.cell? ⟨w.heap.size + 1, 0, none⟩ = some (.string b.name) := A6.out.k2.cell 0
          have s1 : w6.cell? ⟨w.heap.size + 1, 1, none⟩ = some (.slice ab b.args.length cb) := A6.out.k2.cell 1

          by_cases h1 : twoE a b = 0
          · have HO : Hid (ordE row a b = 0) := by unfold Hid; rw [HE.out, h1]
            rw [h1]
            go_wp2_with fail
            refine (size_any a _ 60 _ X (by exact HA.out.later A6.out.bl) (by decide) (by decide)).mono ?_
            rintro e w7 ⟨rfl, hbw7⟩
            have A7 := hide (A6.out.later hbw7)
            clear hbw7 A6
            clear r0 r1 s0 s1
            have r0 : w7.cell? ⟨w.heap.size, 0, none⟩ = some (.string a.name) := A7.out.k1.cell 0
            have r1 : w7.cell? ⟨w.heap.size, 1, none⟩ = some (.slice aa a.args.length ca) := A7.out.k1.cell 1
            have s0 : w7.cell? ⟨w.heap.size + 1, 0, none⟩ = some (.string b.name) := A7.out.k2.cell 0
            have s1 : w7.cell? ⟨w.heap.size + 1, 1, none⟩ = some (.slice ab b.args.length cb) := A7.out.k2.cell 1

            by_cases z1 : 60 < sizeL [a]
            · have e1 : min ((sizeL [a] : Nat) : Int) (60 + 1) = 61 := by omega
              rw [e1]
              go_wp2_with fail
              go_ret
              exact ⟨rfl, A7.out.bl⟩
            · have e1 : min ((sizeL [a] : Nat) : Int) (60 + 1) = (sizeL [a] : Int) := by omega
              have e1' : ¬ (60 : Int) < (sizeL [a] : Int) := by omega
              rw [e1]
              clear e1
              go_wp2_with fail
              refine (size_any b _ 60 _ X (by exact HB.out.later A7.out.bl) (by decide) (by decide)).mono ?_
              rintro e w8 ⟨rfl, hbw8⟩
              have A8 := hide (A7.out.later hbw8)
              clear hbw8 A7
              clear r0 r1 s0 s1
              have r0 : w8.cell? ⟨w.heap.size, 0, none⟩ = some (.string a.name) := A8.out.k1.cell 0
              have r1 : w8.cell? ⟨w.heap.size, 1, none⟩ = some (.slice aa a.args.length ca) := A8.out.k1.cell 1
              have s0 : w8.cell? ⟨w.heap.size + 1, 0, none⟩ = some (.string b.name) := A8.out.k2.cell 0
              have s1 : w8.cell? ⟨w.heap.size + 1, 1, none⟩ = some (.slice ab b.args.length cb) := A8.out.k2.cell 1

              by_cases z2 : 60 < sizeL [b]
              · have e2 : min ((sizeL [b] : Nat) : Int) (60 + 1) = 61 := by omega
                rw [e2]
                go_wp2_with fail
                go_ret
                exact ⟨rfl, A8.out.bl⟩
              · have e2 : min ((sizeL [b] : Nat) : Int) (60 + 1) = (sizeL [b] : Int) := by omega
                have e2' : ¬ (60 : Int) < (sizeL [b] : Int) := by omega
                rw [e2]
                clear e2
                go_wp2_with fail
                refine (pathOf_any row hrl a b (by omega) (by omega) _ _ _ _ X (by exact HU.out.later A8.out.bl) (by exact HA.out.later A8.out.bl) (by exact HB.out.later A8.out.bl)).mono ?_
                rintro e w9 ⟨rfl, hbw9⟩
                have A9 := hide (A8.out.later hbw9)
                clear hbw9 A8
                clear r0 r1 s0 s1
                have r0 : w9.cell? ⟨w.heap.size, 0, none⟩ = some (.string a.name) := A9.out.k1.cell 0
                have r1 : w9.cell? ⟨w.heap.size, 1, none⟩ = some (.slice aa a.args.length ca) := A9.out.k1.cell 1
                have s0 : w9.cell? ⟨w.heap.size + 1, 0, none⟩ = some (.string b.name) := A9.out.k2.cell 0
                have s1 : w9.cell? ⟨w.heap.size + 1, 1, none⟩ = some (.slice ab b.args.length cb) := A9.out.k2.cell 1
                go_wp2_with fail
                refine (weightOf_any row hrl (sizeL [a]) a b _ _ _ _ X (Nat.le_refl _) (by omega) (by omega) (by exact HU.out.later A9.out.bl) (by exact HA.out.later A9.out.bl) (by exact HB.out.later A9.out.bl)).mono ?_
                rintro e wA ⟨rfl, hbwA⟩
                have AA := hide (A9.out.later hbwA)
                clear hbwA A9
                clear r0 r1 s0 s1
                have r0 : wA.cell? ⟨w.heap.size, 0, none⟩ = some (.string a.name) := AA.out.k1.cell 0
                have r1 : wA.cell? ⟨w.heap.size, 1, none⟩ = some (.slice aa a.args.length ca) := AA.out.k1.cell 1
                have s0 : wA.cell? ⟨w.heap.size + 1, 0, none⟩ = some (.string b.name) := AA.out.k2.cell 0
                have s1 : wA.cell? ⟨w.heap.size + 1, 1, none⟩ = some (.slice ab b.args.length cb) := AA.out.k2.cell 1
                have P1 : Hid ((decide (ordE row a b = 0) && pathB row a b) = pathB row a b) := by unfold Hid; rw [HO.out]; simp
                have P2 : Hid ((decide (ordE row a b = 0) && weightB row a b) = weightB row a b) := by unfold Hid; rw [HO.out]; simp
                go_wp2_with fail
                refine (oPath_any row a b _ _ _ _ X (by exact HU.out.later AA.out.bl) (by exact HA.out.later AA.out.bl) (by exact HB.out.later AA.out.bl)).mono ?_
                rintro e wp ⟨rfl, hbwp⟩
                have Ap := hide (AA.out.later hbwp)
                clear hbwp AA
                clear r0 r1 s0 s1
                have r0 : wp.cell? ⟨w.heap.size, 0, none⟩ = some (.string a.name) := Ap.out.k1.cell 0
                have r1 : wp.cell? ⟨w.heap.size, 1, none⟩ = some (.slice aa a.args.length ca) := Ap.out.k1.cell 1
                have s0 : wp.cell? ⟨w.heap.size + 1, 0, none⟩ = some (.string b.name) := Ap.out.k2.cell 0
                have s1 : wp.cell? ⟨w.heap.size + 1, 1, none⟩ = some (.slice ab b.args.length cb) := Ap.out.k2.cell 1
                rw [P1.out, HO.out]
                go_wp2_with fail
                refine (oWeight_any row a b _ _ _ _ X (by exact HU.out.later Ap.out.bl) (by exact HA.out.later Ap.out.bl) (by exact HB.out.later Ap.out.bl)).mono ?_
                rintro e wq ⟨rfl, hbwq⟩
                have Aq := hide (Ap.out.later hbwq)
                clear hbwq Ap
                clear r0 r1 s0 s1
                have r0 : wq.cell? ⟨w.heap.size, 0, none⟩ = some (.string a.name) := Aq.out.k1.cell 0
                have r1 : wq.cell? ⟨w.heap.size, 1, none⟩ = some (.slice aa a.args.length ca) := Aq.out.k1.cell 1
                have s0 : wq.cell? ⟨w.heap.size + 1, 0, none⟩ = some (.string b.name) := Aq.out.k2.cell 0
                have s1 : wq.cell? ⟨w.heap.size + 1, 1, none⟩ = some (.slice ab b.args.length cb) := Aq.out.k2.cell 1
                rw [P2.out, HO.out]
                go_wp2_with fail
                refine (oCheck_any row _ _ X (by exact HU.out.later Aq.out.bl)).mono ?_
                rintro e wr ⟨rfl, hbwr⟩
                have Ar := hide (Aq.out.later hbwr)
                clear hbwr Aq
                clear r0 r1 s0 s1
                have r0 : wr.cell? ⟨w.heap.size, 0, none⟩ = some (.string a.name) := Ar.out.k1.cell 0
                have r1 : wr.cell? ⟨w.heap.size, 1, none⟩ = some (.slice aa a.args.length ca) := Ar.out.k1.cell 1
                have s0 : wr.cell? ⟨w.heap.size + 1, 0, none⟩ = some (.string b.name) := Ar.out.k2.cell 0
                have s1 : wr.cell? ⟨w.heap.size + 1, 1, none⟩ = some (.slice ab b.args.length cb) := Ar.out.k2.cell 1
                rw [h0]
                generalize pathB row a b = y1 at *
                generalize weightB row a b = y2 at *
                cases y1 <;> cases y2 <;>
                · go_wp2_with fail
                  go_ret
                  exact ⟨rfl, Ar.out.bl⟩
          · have h1' : (twoE a b == 0) = false := by simpa using h1
            have P1 : Hid ((decide (ordE row a b = 0) && pathB row a b) = false) := by unfold Hid; rw [HE.out]; simp [h1]
            have P2 : Hid ((decide (ordE row a b = 0) && weightB row a b) = false) := by unfold Hid; rw [HE.out]; simp [h1]
            go_wp2_with fail
            refine (oPath_any row a b _ _ _ _ X (by exact HU.out.later A6.out.bl) (by exact HA.out.later A6.out.bl) (by exact HB.out.later A6.out.bl)).mono ?_
            rintro e wp ⟨rfl, hbwp⟩
            have Ap := hide (A6.out.later hbwp)
            clear hbwp A6
            clear r0 r1 s0 s1
            have r0 : wp.cell? ⟨w.heap.size, 0, none⟩ = some (.string a.name) := Ap.out.k1.cell 0
            have r1 : wp.cell? ⟨w.heap.size, 1, none⟩ = some (.slice aa a.args.length ca) := Ap.out.k1.cell 1
            have s0 : wp.cell? ⟨w.heap.size + 1, 0, none⟩ = some (.string b.name) := Ap.out.k2.cell 0
            have s1 : wp.cell? ⟨w.heap.size + 1, 1, none⟩ = some (.slice ab b.args.length cb) := Ap.out.k2.cell 1
            rw [P1.out, HE.out]
            go_wp2_with fail
            refine (oWeight_any row a b _ _ _ _ X (by exact HU.out.later Ap.out.bl) (by exact HA.out.later Ap.out.bl) (by exact HB.out.later Ap.out.bl)).mono ?_
            rintro e wq ⟨rfl, hbwq⟩
            have Aq := hide (Ap.out.later hbwq)
            clear hbwq Ap
            clear r0 r1 s0 s1
            have r0 : wq.cell? ⟨w.heap.size, 0, none⟩ = some (.string a.name) := Aq.out.k1.cell 0
            have r1 : wq.cell? ⟨w.heap.size, 1, none⟩ = some (.slice aa a.args.length ca) := Aq.out.k1.cell 1
            have s0 : wq.cell? ⟨w.heap.size + 1, 0, none⟩ = some (.string b.name) := Aq.out.k2.cell 0
            have s1 : wq.cell? ⟨w.heap.size + 1, 1, none⟩ = some (.slice ab b.args.length cb) := Aq.out.k2.cell 1
            rw [P2.out, HE.out]
            go_wp2_with fail
            refine (oCheck_any row _ _ X (by exact HU.out.later Aq.out.bl)).mono ?_
            rintro e wr ⟨rfl, hbwr⟩
            have Ar := hide (Aq.out.later hbwr)
            clear hbwr Aq
            clear r0 r1 s0 s1
            have r0 : wr.cell? ⟨w.heap.size, 0, none⟩ = some (.string a.name) := Ar.out.k1.cell 0
            have r1 : wr.cell? ⟨w.heap.size, 1, none⟩ = some (.slice aa a.args.length ca) := Ar.out.k1.cell 1
            have s0 : wr.cell? ⟨w.heap.size + 1, 0, none⟩ = some (.string b.name) := Ar.out.k2.cell 0
            have s1 : wr.cell? ⟨w.heap.size + 1, 1, none⟩ = some (.slice ab b.args.length cb) := Ar.out.k2.cell 1
            rw [h0]
            go_wp2_with fail
            go_ret
            exact ⟨rfl, Ar.out.bl⟩
        · have h0' : (rowE row == 0) = false := by simpa using h0
          have HE : Hid (ordE row a b = rowE row) := by unfold Hid ordE; rw [if_neg h0]
          have P1 : Hid ((decide (ordE row a b = 0) && pathB row a b) = false) := by unfold Hid; rw [HE.out]; simp [h0]
          have P2 : Hid ((decide (ordE row a b = 0) && weightB row a b) = false) := by unfold Hid; rw [HE.out]; simp [h0]
          go_wp2_with fail
          refine (oPath_any row a b _ _ _ _ X (by exact HU.out.later A5.out.bl) (by exact HA.out.later A5.out.bl) (by exact HB.out.later A5.out.bl)).mono ?_
          rintro e wp ⟨rfl, hbwp⟩
          have Ap := hide (A5.out.later hbwp)
          clear hbwp A5
          clear r0 r1 s0 s1
          have r0 : wp.cell? ⟨w.heap.size, 0, none⟩ = some (.string a.name) := Ap.out.k1.cell 0
          have r1 : wp.cell? ⟨w.heap.size, 1, none⟩ = some (.slice aa a.args.length ca) := Ap.out.k1.cell 1
          have s0 : wp.cell? ⟨w.heap.size + 1, 0, none⟩ = some (.string b.name) := Ap.out.k2.cell 0
          have s1 : wp.cell? ⟨w.heap.size + 1, 1, none⟩ = some (.slice ab b.args.length cb) := Ap.out.k2.cell 1
          rw [P1.out, HE.out]
          go_wp2_with fail
          refine (oWeight_any row a b _ _ _ _ X (by exact HU.out.later Ap.out.bl) (by exact HA.out.later Ap.out.bl) (by exact HB.out.later Ap.out.bl)).mono ?_
          rintro e wq ⟨rfl, hbwq⟩
          have Aq := hide (Ap.out.later hbwq)
          clear hbwq Ap
          clear r0 r1 s0 s1
          have r0 : wq.cell? ⟨w.heap.size, 0, none⟩ = some (.string a.name) := Aq.out.k1.cell 0
          have r1 : wq.cell? ⟨w.heap.size, 1, none⟩ = some (.slice aa a.args.length ca) := Aq.out.k1.cell 1
          have s0 : wq.cell? ⟨w.heap.size + 1, 0, none⟩ = some (.string b.name) := Aq.out.k2.cell 0
          have s1 : wq.cell? ⟨w.heap.size + 1, 1, none⟩ = some (.slice ab b.args.length cb) := Aq.out.k2.cell 1
          rw [P2.out, HE.out]
          go_wp2_with fail
          refine (oCheck_any row _ _ X (by exact HU.out.later Aq.out.bl)).mono ?_
          rintro e wr ⟨rfl, hbwr⟩
          have Ar := hide (Aq.out.later hbwr)
          clear hbwr Aq
          clear r0 r1 s0 s1
          have r0 : wr.cell? ⟨w.heap.size, 0, none⟩ = some (.string a.name) := Ar.out.k1.cell 0
          have r1 : wr.cell? ⟨w.heap.size, 1, none⟩ = some (.slice aa a.args.length ca) := Ar.out.k1.cell 1
          have s0 : wr.cell? ⟨w.heap.size + 1, 0, none⟩ = some (.string b.name) := Ar.out.k2.cell 0
          have s1 : wr.cell? ⟨w.heap.size + 1, 1, none⟩ = some (.slice ab b.args.length cb) := Ar.out.k2.cell 1
          go_wp2_with fail
          go_ret
          exact ⟨rfl, Ar.out.bl⟩
#print axioms orderSays_any
end Go.Proofs.Ytpbnbkeoiojpaac

/- Terms and lists of numbers as they are read before the call. -/
namespace Go.Proofs.Ytpbnbkeoiojpaac
open Go.ChangeShapes Go.WideShapes Go.ChangeAt Go.RowKit
set_option linter.unusedSimpArgs false
set_option linter.unusedVariables false
set_option maxRecDepth 8000

theorem Try.cellsTerm : Try.prog.cellsOf 25 = 2 := by kernel_rfl
theorem Try.cellsStr : Try.prog.cellsOf 9 = 1 := by kernel_rfl
theorem Try.cellsSl : Try.prog.cellsOf 23 = 1 := by kernel_rfl
theorem Try.cellsInt : Try.prog.cellsOf 3 = 1 := by kernel_rfl

theorem cells2 {w : World} {a : Addr} {cs : List Value} (h : w.cells? 0 a 2 = some cs) : ∃ c0 c1, cs = [c0, c1] ∧ w.cell? a = some c0 ∧ w.cell? (a.add 1) = some c1 := by
  have e : (List.range 2) = [0, 1] := rfl
  simp only [World.cells?, Nat.zero_le, if_true, e] at h
  simp only [List.mapM_cons, List.mapM_nil, Option.bind_eq_bind, Option.bind_eq_some_iff, Option.pure_def] at h
  obtain ⟨c0, h0, r, ⟨c1, h1, r2, h2, h3⟩, h4⟩ := h
  simp only [Option.some.injEq] at h2 h3 h4
  subst h2; subst h3; subst h4
  exact ⟨c0, c1, rfl, by simpa [Addr.add] using h0, h1⟩

theorem cells1 {w : World} {a : Addr} {cs : List Value} (h : w.cells? 0 a 1 = some cs) : ∃ c0, cs = [c0] ∧ w.cell? a = some c0 := by
  have e : (List.range 1) = [0] := rfl
  simp only [World.cells?, Nat.zero_le, if_true, e] at h
  simp only [List.mapM_cons, List.mapM_nil, Option.bind_eq_bind, Option.bind_eq_some_iff, Option.pure_def] at h
  obtain ⟨c0, h0, r, h1, h2⟩ := h
  simp only [Option.some.injEq] at h1 h2
  subst h1; subst h2
  exact ⟨c0, rfl, by simpa [Addr.add] using h0⟩

theorem open_term {H : Type} {enc : TypeId × Value → H} {w : World} {sp : Nat → Bool} {held : Bool} : ∀ (fuel : Nat) (cs : List Value) (x : DataW H × List MemPlace), DataW.trod enc Try.prog w 0 sp held fuel 25 cs = some x →
    ∃ (t : Tm) (a : Option Addr) (c : Nat), cs = [.string t.name, .slice a t.args.length c] ∧ Sl w (fun _ => True) a t.args := by
  intro fuel
  induction fuel using Nat.strongRecOn with
  | ind fuel ih =>
    intro cs x h
    obtain ⟨xs, n, hfu, hx, hl, hxl, hf⟩ := DataW.trod_struct Try.underlying25 h
    have f0 := hf 0 _ rfl
    have f1 := hf 1 _ rfl
    rw [Try.cellsTerm] at hl
    match cs, hl with
    | [c0, c1], _ =>
      match xs, hxl with
      | [y0, y1], _ =>
        simp [Try.cellsStr, Try.cellsSl] at f0 f1
        obtain ⟨s, e0, _, hs⟩ := DataW.trod_string Try.underlying9 f0
        simp at e0
        subst e0
        rcases DataW.trod_slice Try.underlying23 f1 with ⟨e1, _⟩ | ⟨a, len, cap, elems, rest, n2, hn2, e1, _, hb, hlc, hcm, hel, helem, _⟩
        · simp at e1
          subst e1
          exact ⟨⟨s, []⟩, none, 0, rfl, by simp, Or.inl rfl⟩
        · simp at e1
          subst e1
          unfold maxLen at hcm
          rw [Try.cellsTerm] at helem
          have key : ∀ i, ∃ t : Tm, i < len → ∃ a' c', w.cell? (a.add (i * 2)) = some (.string t.name) ∧ w.cell? ((a.add (i * 2)).add 1) = some (.slice a' t.args.length c') ∧ Sl w (fun _ => True) a' t.args := by
            intro i
            by_cases hi : i < len
            · have h1 := helem i hi
              have hie : i < elems.length := by omega
              rw [List.getElem?_eq_getElem hie, Option.bind_eq_some_iff] at h1
              obtain ⟨cs', h2, h3⟩ := h1
              obtain ⟨d0, d1, rfl, g0, g1⟩ := cells2 h2
              obtain ⟨t, a', c', e3, hsl⟩ := ih n2 (by omega) _ _ h3
              simp at e3
              obtain ⟨rfl, rfl⟩ := e3
              exact ⟨t, fun _ => ⟨a', c', g0, g1, hsl⟩⟩
            · exact ⟨⟨s, []⟩, fun h => absurd h hi⟩
          obtain ⟨T, hT⟩ := Classical.skolem.1 key
          refine ⟨⟨s, (List.range len).map T⟩, some a, cap, by simp, by simp; omega, ?_⟩
          by_cases h0 : len = 0
          · subst h0; exact Or.inl rfl
          · right
            obtain ⟨b, o, sp⟩ := a
            obtain ⟨a0, c0, g0, _, _⟩ := hT 0 (by omega)
            have hsp : sp = none := by simpa [Addr.add] using World.cell?_spot g0
            subst hsp
            refine ⟨b, o, rfl, lies_mk _ _ _ fun i hi => ?_⟩
            simp at hi
            obtain ⟨a', c', g0, g1, hsl⟩ := hT i hi
            refine ⟨trivial, ?_, a', c', ?_, ?_⟩
            · simp only [List.getElem_map, List.getElem_range]
              by_cases h00 : i = 0
              · subst h00; simpa [Addr.add] using g0
              · have : i * 2 ≠ 0 := by omega
                simpa [Addr.add, this] using g0
            · simp only [List.getElem_map, List.getElem_range]
              by_cases h00 : i = 0
              · subst h00; simpa [Addr.add] using g1
              · have : i * 2 ≠ 0 := by omega
                simpa [Addr.add, this] using g1
            · simpa using hsl

theorem open_tv {H : Type} {enc : TypeId × Value → H} {w : World} {sp : Nat → Bool} {held : Bool} {r : Reach} {b0 : Nat} {v : Value} {d : DataW H} {p : List MemPlace} (hv : Value.okWide Try.prog w r b0 25 v) (h : DataW.Trod enc Try.prog w 0 sp held 25 v d p) : ∃ t, TV w (fun _ => True) v t := by
  obtain ⟨cs, rfl, hsz⟩ := okWide_struct Try.underlying25 hv
  obtain ⟨fuel, hf⟩ := h
  obtain ⟨t, a, c, e, hs⟩ := open_term fuel _ _ hf
  refine ⟨t, a, c, ?_, hs⟩
  simp [Value.cells] at e
  congr 1
  apply Array.ext'
  simpa using e

theorem open_pv {H : Type} {enc : TypeId × Value → H} {w : World} {sp : Nat → Bool} {held : Bool} {r : Reach} {b0 : Nat} {v : Value} {d : DataW H} {p : List MemPlace} (hv : Value.okWide Try.prog w r b0 34 v) (h : DataW.Trod enc Try.prog w 0 sp held 34 v d p) : ∃ zs, PV w (fun _ => True) v zs := by
  obtain ⟨a0, len0, cap0, rfl⟩ := okWide_slice Try.underlying34 hv
  obtain ⟨fuel, hf⟩ := h
  rcases DataW.trod_slice Try.underlying34 hf with ⟨e1, _⟩ | ⟨a, len, cap, elems, rest, n2, hn2, e1, _, hb, hlc, hcm, hel, helem, _⟩
  · simp [Value.cells] at e1
    obtain ⟨rfl, rfl, rfl⟩ := e1
    exact ⟨[], none, 0, rfl, by simp, Or.inl rfl⟩
  · simp [Value.cells] at e1
    obtain ⟨rfl, rfl, rfl⟩ := e1
    unfold maxLen at hcm
    rw [Try.cellsInt] at helem
    have key : ∀ i, ∃ z : Int, i < len0 → w.cell? (a.add i) = some (.int .i64 z) := by
      intro i
      by_cases hi : i < len0
      · have h1 := helem i hi
        have hie : i < elems.length := by omega
        rw [List.getElem?_eq_getElem hie, Option.bind_eq_some_iff, Nat.mul_one] at h1
        obtain ⟨cs', h2, h3⟩ := h1
        obtain ⟨d0, rfl, g0⟩ := cells1 h2
        obtain ⟨z, e3, _⟩ := DataW.trod_int Try.underlying3 h3
        simp at e3
        subst e3
        exact ⟨z, fun _ => g0⟩
      · exact ⟨0, fun h => absurd h hi⟩
    obtain ⟨Z, hZ⟩ := Classical.skolem.1 key
    refine ⟨(List.range len0).map Z, some a, cap0, by simp, by simp; omega, ?_⟩
    by_cases h0 : len0 = 0
    · subst h0; exact Or.inl rfl
    · right
      obtain ⟨b, o, sp⟩ := a
      have g0 := hZ 0 (by omega)
      have hsp : sp = none := by simpa [Addr.add] using World.cell?_spot g0
      subst hsp
      refine ⟨b, o, rfl, trivial, fun i hi => ?_⟩
      simp at hi
      have g1 := hZ i hi
      simp only [List.getElem_map, List.getElem_range]
      by_cases h00 : i = 0
      · subst h00; simpa [Addr.add] using g1
      · simpa [Addr.add, h00] using g1
#print axioms open_tv
#print axioms open_pv
end Go.Proofs.Ytpbnbkeoiojpaac

/- Lists of texts as they are read before the call. -/
namespace Go.Proofs.Ytpbnbkeoiojpaac
open Go.ChangeShapes Go.WideShapes Go.ChangeAt Go.RowKit
set_option linter.unusedSimpArgs false
set_option linter.unusedVariables false
set_option maxRecDepth 8000

theorem open_names {H : Type} {enc : TypeId × Value → H} {w : World} {sp : Nat → Bool} {held : Bool} {r : Reach} {b0 : Nat} {v : Value} {d : DataW H} {p : List MemPlace} (hv : Value.okWide Try.prog w r b0 22 v) (h : DataW.Trod enc Try.prog w 0 sp held 22 v d p) : ∃ t : List ByteArray, LV Value.string w (fun _ => True) v t := by
  obtain ⟨a0, len0, cap0, rfl⟩ := okWide_slice Try.underlying22 hv
  obtain ⟨fuel, hf⟩ := h
  rcases DataW.trod_slice Try.underlying22 hf with ⟨e1, _⟩ | ⟨a, len, cap, elems, rest, n2, hn2, e1, _, hb, hlc, hcm, hel, helem, _⟩
  · simp [Value.cells] at e1
    obtain ⟨rfl, rfl, rfl⟩ := e1
    exact ⟨[], none, 0, rfl, by simp, Or.inl rfl⟩
  · simp [Value.cells] at e1
    obtain ⟨rfl, rfl, rfl⟩ := e1
    unfold maxLen at hcm
    rw [Try.cellsStr] at helem
    have key : ∀ i, ∃ z : ByteArray, i < len0 → w.cell? (a.add i) = some (.string z) := by
      intro i
      by_cases hi : i < len0
      · have h1 := helem i hi
        have hie : i < elems.length := by omega
        rw [List.getElem?_eq_getElem hie, Option.bind_eq_some_iff, Nat.mul_one] at h1
        obtain ⟨cs', h2, h3⟩ := h1
        obtain ⟨d0, rfl, g0⟩ := cells1 h2
        obtain ⟨z, e3, _, _⟩ := DataW.trod_string Try.underlying9 h3
        simp at e3
        subst e3
        exact ⟨z, fun _ => g0⟩
      · exact ⟨⟨#[]⟩, fun h => absurd h hi⟩
    obtain ⟨Z, hZ⟩ := Classical.skolem.1 key
    refine ⟨(List.range len0).map Z, some a, cap0, by simp, by simp; omega, ?_⟩
    by_cases h0 : len0 = 0
    · subst h0; exact Or.inl rfl
    · right
      obtain ⟨b, o, sp⟩ := a
      have g0 := hZ 0 (by omega)
      have hsp : sp = none := by simpa [Addr.add] using World.cell?_spot g0
      subst hsp
      refine ⟨b, o, rfl, trivial, fun i hi => ?_⟩
      simp at hi
      have g1 := hZ i hi
      simp only [List.getElem_map, List.getElem_range]
      by_cases h00 : i = 0
      · subst h00; simpa [Addr.add] using g1
      · simpa [Addr.add, h00] using g1
#print axioms open_names
end Go.Proofs.Ytpbnbkeoiojpaac
