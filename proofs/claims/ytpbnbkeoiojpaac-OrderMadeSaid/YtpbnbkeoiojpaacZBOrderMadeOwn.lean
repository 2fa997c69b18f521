/- Several texts in one. -/
import Derived.Test.YtpbnbkeoiojpaacZOrderMadeOwn
import Derived.Test.YtpbnbkeoiojpaacW9
import Derived.Deep.RegionHeld3
import Derived.Test.YtpbnbkeoiojpaacW80
import Derived.Test.YtpbnbkeoiojpaacMapR
import Derived.Test.YtpbnbkeoiojpaacBnd
import Derived.Test.YtpbnbkeoiojpaacW4
import Derived.Test.YtpbnbkeoiojpaacRows
import Derived.Test.YtpbnbkeoiojpaacOnM
/- Walks: one place of the document's table of what is above what. -/
namespace Go.Proofs.Ytpbnbkeoiojpaac
open Go.RowKit
set_option linter.unusedSimpArgs false
set_option linter.unusedVariables false
set_option maxRecDepth 8000

/-- The q-th below the i-th: where it stands, and where it ends. -/
theorem kid_facts {A a : Tm} {i : Nat} (hi : (preL [A])[i]? = some a) : i < sizeL [A] ∧ endAt A i = ((i + 1 + sizeL a.args : Nat) : Int) ∧ ∀ q (hq : q < a.args.length), (preL [A])[i + 1 + sizeL (a.args.take q)]? = some a.args[q] ∧ i + 1 + sizeL (a.args.take q) < sizeL [A] ∧ endAt A (i + 1 + sizeL (a.args.take q)) = ((i + 1 + sizeL (a.args.take (q + 1)) : Nat) : Int) ∧ sizeL (a.args.take q) < sizeL a.args := by
  have hpl := preL_len0 [A]
  have hlt : ∀ {j : Nat} {x : Tm}, (preL [A])[j]? = some x → j < (preL [A]).length := fun {j x} h => by
    rcases Nat.lt_or_ge j (preL [A]).length with h' | h'
    · exact h'
    · rw [List.getElem?_eq_none h'] at h; cases h
  have hget : ∀ {j : Nat} {x : Tm} (h : (preL [A])[j]? = some x), endAt A j = (j : Int) + (sizeL [x] : Int) := fun {j x} h => by
    have h1 := hlt h
    rw [endAt_get h1]
    rw [List.getElem?_eq_getElem h1] at h
    cases h
    rfl
  have hsa : sizeL [a] = 1 + sizeL a.args := by obtain ⟨s, l⟩ := a; simp [sizeL]
  refine ⟨by have := hlt hi; omega, by rw [hget hi, hsa]; omega, fun q hq => ?_⟩
  have hk := kid_at [A] i a hi q hq
  have h1 := hlt hk
  have h2 := sizeL_take a.args q hq
  have h3 := sizeL_append (a.args.take (q + 1)) (a.args.drop (q + 1))
  rw [List.take_append_drop] at h3
  have h4 := size_pos a.args[q]
  exact ⟨hk, by omega, by rw [hget hk]; omega, by omega⟩

/-- A row of knots as it lies. -/
def KnR (w : World) (X : Nat → Prop) (A : Tm) (g : Nat) : Prop := ∀ j x, (preL [A])[j]? = some x → ∃ a' c', w.cell? ⟨g, j * 2, none⟩ = some (.string x.name) ∧ w.cell? ⟨g, j * 2 + 1, none⟩ = some (.slice a' x.args.length c') ∧ Sl w X a' x.args
/-- What of the table is filled already. -/
def TabR (row : List ByteArray) (A B : Tm) (w : World) (g i k : Nat) : Prop := ∀ j x, i ≤ j → (preL [A])[j]? = some x → ∃ b' c', w.cell? ⟨g, j, none⟩ = some (.slice (some ⟨b', 0, none⟩) (sizeL [B]) c') ∧ ∀ q y, (i < j ∨ k < q) → (preL [B])[q]? = some y → w.cell? ⟨b', q, none⟩ = some (.bool (pathB row x y))
theorem bcell1 {w w' : World} (hb : Below w.heap.size w w') {b o : Nat} {v : Value} (h : w.cell? ⟨b, o, none⟩ = some v) : w'.cell? ⟨b, o, none⟩ = some v := (hb.cell (p := ⟨b, o, none⟩) (cell_lt h)).trans h

def S1Inv (row : List ByteArray) (i : Nat) (a b : Tm) (aa : Option Addr) (ca : Nat) (ab : Option Addr) (cb : Nat) (w : World) (j : Value) (wr : World) : Prop :=
  ∃ q n : Nat, q ≤ a.args.length ∧ n = i + 1 + sizeL (a.args.take q) ∧ j = .int .i64 (n : Int) ∧ ((a.args.take q).any fun x => sameB x b || pathB row x b) = false ∧ TwW a b aa ca ab cb w wr
def S2Inv (row : List ByteArray) (k : Nat) (a b : Tm) (aa : Option Addr) (ca : Nat) (ab : Option Addr) (cb : Nat) (w : World) (j : Value) (wr : World) : Prop :=
  ∃ q n : Nat, q ≤ b.args.length ∧ n = k + 1 + sizeL (b.args.take q) ∧ j = .int .i64 (n : Int) ∧ ((b.args.take q).all fun y => pathB row a y) = true ∧ TwW a b aa ca ab cb w wr
def S3Inv (i k : Nat) (a b : Tm) (aa : Option Addr) (ca : Nat) (ab : Option Addr) (cb : Nat) (w : World) (m j : Value) (wr : World) : Prop :=
  ∃ q n n' : Nat, q ≤ a.args.length ∧ n = i + 1 + sizeL (a.args.take q) ∧ n' = k + 1 + sizeL (b.args.take q) ∧ j = .int .i64 (n : Int) ∧ m = .int .i64 (n' : Int) ∧ (∀ z (h1 : z < q) (h2 : z < a.args.length) (h3 : z < b.args.length), a.args[z] = b.args[z]) ∧ TwW a b aa ca ab cb w wr

set_option maxHeartbeats 4000000 in
theorem pathStep_any (row : List ByteArray) (hrl : row.length ≤ 1000) (A B a b : Tm) (zA : sizeL [A] ≤ 20000) (zB : sizeL [B] ≤ 20000) (i k : Nat) (hi : (preL [A])[i]? = some a) (hk : (preL [B])[k]? = some b) (u ve vf : Value) (gx cx gy cy gi ci : Nat) (w : World) (X : Nat → Prop)
    (hu : LV Value.string w X u row) (hx : KnR w X A gx) (hy : KnR w X B gy) (he : LV (fun z => .int .i64 z) w X ve (endK A (sizeL [A]))) (hf : LV (fun z => .int .i64 z) w X vf (endK B (sizeL [B]))) (hT : TabR row A B w gi i k) :
    Calls Try.prog 39 #[u, .slice (some ⟨gx, 0, none⟩) (sizeL [A]) cx, .slice (some ⟨gy, 0, none⟩) (sizeL [B]) cy, ve, vf, .slice (some ⟨gi, 0, none⟩) (sizeL [A]) ci, .int .i64 (i : Int), .int .i64 (k : Int)] w fun e w' => e = .returned (.bool (pathB row a b)) ∧ Below w.heap.size w w' := by
  obtain ⟨aa, ca, x0, x1, hsa⟩ := hx i a hi
  obtain ⟨ab, cb, y0, y1, hsb⟩ := hy k b hk
  obtain ⟨fi1, fi2, fi3⟩ := kid_facts hi
  obtain ⟨fk1, fk2, fk3⟩ := kid_facts hk
  have FI := hide fi3
  have FK := hide fk3
  have hii : (i : Int) < (sizeL [A] : Int) := by omega
  have hki : (k : Int) < (sizeL [B] : Int) := by omega
  have HPB := hide (pathB_eq row a b)
  have HA := hide (show TV w X (.agg #[.string a.name, .slice aa a.args.length ca]) a from ⟨aa, ca, rfl, hsa⟩)
  have HB := hide (show TV w X (.agg #[.string b.name, .slice ab b.args.length cb]) b from ⟨ab, cb, rfl, hsb⟩)
  have HU := hide hu
  have HX := hide hx
  have HY := hide hy
  have HT := hide hT
  obtain ⟨ea, ec, rfl, ⟨hel, _⟩, hec⟩ := he
  obtain ⟨fa, fc, rfl, ⟨hfl, _⟩, hfc⟩ := hf
  have hApos := size_pos A
  have hBpos := size_pos B
  have lenA := endK_len A (sizeL [A])
  have lenB := endK_len B (sizeL [B])
  obtain ⟨eb, eo, rfl, _, hec⟩ := hec.resolve_left (fun h => by rw [h] at lenA; simp at lenA; omega)
  obtain ⟨fb, fo, rfl, _, hfc⟩ := hfc.resolve_left (fun h => by rw [h] at lenB; simp at lenB; omega)
  have HEC : Hid (∀ j, j < sizeL [A] → w.cell? ⟨eb, eo + j, none⟩ = some (.int .i64 (endAt A j))) := fun j hj => by
    have h := hec j (by rw [lenA]; exact hj)
    rw [endK_get A _ j hj] at h
    exact h
  have HFC : Hid (∀ j, j < sizeL [B] → w.cell? ⟨fb, fo + j, none⟩ = some (.int .i64 (endAt B j))) := fun j hj => by
    have h := hfc j (by rw [lenB]; exact hj)
    rw [endK_get B _ j hj] at h
    exact h
  rw [lenA, lenB]
  have EI := hide (show w.cell? ⟨eb, eo + i, none⟩ = some (.int .i64 ((i + 1 + sizeL a.args : Nat) : Int)) by rw [← fi2]; exact HEC.out i fi1)
  have EK := hide (show w.cell? ⟨fb, fo + k, none⟩ = some (.int .i64 ((k + 1 + sizeL b.args : Nat) : Int)) by rw [← fk2]; exact HFC.out k fk1)
  clear hec hfc hel hfl lenA lenB fi2 fk2 fi3 fk3 hu hx hy hT hsa hsb
  have y0' := fun o => cell_alloc y0 o
  have y1' := fun o => cell_alloc y1 o
  have A2 := hide (TwW.start a b aa ca ab cb w)
  go_enter Try.func39, Try.ntmps39
  cases hva : varB a.name with
  | true =>
    have HR : Hid (pathB row a b = false) := by unfold Hid; rw [HPB.out, if_pos hva]
    go_wp2_with (go_at_call 35; refine (isVarR_any _ _).mono ?_; rintro e w' ⟨rfl, rfl⟩; rw [hva])
    go_ret
    exact ⟨by rw [HR.out]; rfl, A2.out.bl⟩
  | false =>
    go_wp2_with (go_at_call 35; refine (isVarR_any _ _).mono ?_; rintro e w' ⟨rfl, rfl⟩; rw [hva])
    generalize ((w.alloc (.cells #[.string a.name, .slice aa a.args.length ca] 25)).alloc (.cells #[.string b.name, .slice ab b.args.length cb] 25)) = w2 at *
    clear y0' y1' x0 x1 y0 y1
    go_loopw [19] (fun j wr => S1Inv row i a b aa ca ab cb w j wr) (fun j wr => i + 1 + sizeL a.args - (intOf j).toNat)
    case atStart => exact ⟨0, i + 1, Nat.zero_le _, by simp [sizeL], by simp, by simp, A2.out⟩
    case round =>
      clear A2
      obtain ⟨q, n, hq, hn, rfl, hany, hTw⟩ := hrel
      have HANY := hide hany
      have HTW := hide hTw
      have HN := hide hn
      have ei : wr.cell? ⟨eb, eo + i, none⟩ = some (.int .i64 ((i + 1 + sizeL a.args : Nat) : Int)) := bcell1 hTw.bl EI.out
      clear hany hTw hn
      by_cases hlt : q < a.args.length
      · obtain ⟨g1, g2, g3, g4⟩ := FI.out q hlt
        rw [← HN.out] at g1 g2 g3
        have hni : (n : Int) < ((i + 1 + sizeL a.args : Nat) : Int) := by have := HN.out; omega
        have hnA : (n : Int) < (sizeL [A] : Int) := by omega
        obtain ⟨a1, c1, d0, d1, hs1⟩ := HX.out n _ g1
        obtain ⟨bt, ct, d2, d3⟩ := HT.out n _ (by have := HN.out; omega) g1
        have d4 := d3 k b (Or.inl (by have := HN.out; omega)) hk
        have en := HEC.out n g2
        rw [g3] at en
        have HD : Hid (∀ w', Below w.heap.size w w' → w'.cell? ⟨gx, n * 2, none⟩ = some (.string a.args[q].name) ∧ w'.cell? ⟨gx, n * 2 + 1, none⟩ = some (.slice a1 a.args[q].args.length c1) ∧ w'.cell? ⟨gi, n, none⟩ = some (.slice (some ⟨bt, 0, none⟩) (sizeL [B]) ct) ∧ w'.cell? ⟨bt, k, none⟩ = some (.bool (pathB row a.args[q] b))) := fun w' hb => ⟨bcell1 hb d0, bcell1 hb d1, bcell1 hb d2, bcell1 hb d4⟩
        have HX1 := hide (show TV w X (.agg #[.string a.args[q].name, .slice a1 a.args[q].args.length c1]) a.args[q] from ⟨a1, c1, rfl, hs1⟩)
        have HEN : Hid (∀ w', Below w.heap.size w w' → w'.cell? ⟨eb, eo + n, none⟩ = some (.int .i64 ((i + 1 + sizeL (a.args.take (q + 1)) : Nat) : Int))) := fun w' hb => bcell1 hb en
        have HYES : Hid ((sameB a.args[q] b || pathB row a.args[q] b) = true → (a.args.any fun x => sameB x b || pathB row x b) = true) := fun h => (any_take hlt HANY.out).1 h
        have HNO : Hid ((sameB a.args[q] b || pathB row a.args[q] b) = false → ((a.args.take (q + 1)).any fun x => sameB x b || pathB row x b) = false) := fun h => (any_take hlt HANY.out).2 h
        have hst : sizeL (a.args.take q) < sizeL (a.args.take (q + 1)) := by have := sizeL_take a.args q hlt; have := size_pos a.args[q]; omega
        have hst2 : sizeL (a.args.take (q + 1)) ≤ sizeL a.args := by have h3 := sizeL_append (a.args.take (q + 1)) (a.args.drop (q + 1)); rw [List.take_append_drop] at h3; omega
        have HST := hide (And.intro hst hst2)
        generalize a.args[q] = x at *
        clear hs1 d0 d1 d2 d3 d4 en g1 g3 g4 hst hst2
        have HS0 : Hid (TwW a b aa ca ab cb w wr.drew) := HTW.out.later (below_drewN (Below.refl _ _) 1)
        go_wp2_with fail
        refine wp_region_held_drew (S := TwW a b aa ca ab cb w) (by kernel_rfl) HS0.out (fun hHeld => ?_)
        refine wpAnyH_take (i := 0) (v := ?_) rfl (by kernel_rfl) (by kernel_rfl) (by kernel_rfl) (fun _ _ _ h => h) (Or.inl ⟨by rfl, ?_⟩) (by assumption) ?_
        rotate_left
        · intro w' hSw
          have r0 : w'.cell? ⟨w.heap.size, 0, none⟩ = some (.string a.name) := hSw.k1.cell 0
          have r1 : w'.cell? ⟨w.heap.size, 1, none⟩ = some (.slice aa a.args.length ca) := hSw.k1.cell 1
          have s0 : w'.cell? ⟨w.heap.size + 1, 0, none⟩ = some (.string b.name) := hSw.k2.cell 0
          have s1 : w'.cell? ⟨w.heap.size + 1, 1, none⟩ = some (.slice ab b.args.length cb) := hSw.k2.cell 1
          obtain ⟨t0, t1, t2, t3⟩ := HD.out w' hSw.bl
          go_simp <;> with_reducible rfl
        try simp only [Act.put, List.setIfInBounds_toArray, List.set_cons_zero, List.set_cons_succ, List.getElem_toArray, List.getElem_cons_succ, List.getElem_cons_zero]
        refine wpAnyH_take (i := 1) (v := ?_) rfl (by kernel_rfl) (by kernel_rfl) (by kernel_rfl) (fun _ _ _ h => h) (Or.inl ⟨by rfl, ?_⟩) (by assumption) ?_
        rotate_left
        · intro w' hSw
          have r0 : w'.cell? ⟨w.heap.size, 0, none⟩ = some (.string a.name) := hSw.k1.cell 0
          have r1 : w'.cell? ⟨w.heap.size, 1, none⟩ = some (.slice aa a.args.length ca) := hSw.k1.cell 1
          have s0 : w'.cell? ⟨w.heap.size + 1, 0, none⟩ = some (.string b.name) := hSw.k2.cell 0
          have s1 : w'.cell? ⟨w.heap.size + 1, 1, none⟩ = some (.slice ab b.args.length cb) := hSw.k2.cell 1
          obtain ⟨t0, t1, t2, t3⟩ := HD.out w' hSw.bl
          go_simp <;> with_reducible rfl
        try simp only [Act.put, List.setIfInBounds_toArray, List.set_cons_zero, List.set_cons_succ, List.getElem_toArray, List.getElem_cons_succ, List.getElem_cons_zero]
        refine wpAnyH_take (i := 2) (v := ?_) rfl (by kernel_rfl) (by kernel_rfl) (by kernel_rfl) (fun _ _ _ h => h) (Or.inl ⟨by rfl, ?_⟩) (by assumption) ?_
        rotate_left
        · intro w' hSw
          have r0 : w'.cell? ⟨w.heap.size, 0, none⟩ = some (.string a.name) := hSw.k1.cell 0
          have r1 : w'.cell? ⟨w.heap.size, 1, none⟩ = some (.slice aa a.args.length ca) := hSw.k1.cell 1
          have s0 : w'.cell? ⟨w.heap.size + 1, 0, none⟩ = some (.string b.name) := hSw.k2.cell 0
          have s1 : w'.cell? ⟨w.heap.size + 1, 1, none⟩ = some (.slice ab b.args.length cb) := hSw.k2.cell 1
          obtain ⟨t0, t1, t2, t3⟩ := HD.out w' hSw.bl
          go_simp <;> with_reducible rfl
        try simp only [Act.put, List.setIfInBounds_toArray, List.set_cons_zero, List.set_cons_succ, List.getElem_toArray, List.getElem_cons_succ, List.getElem_cons_zero]
        refine wpAnyH_take (i := 3) (v := ?_) rfl (by kernel_rfl) (by kernel_rfl) (by kernel_rfl) (fun _ _ _ h => h) (Or.inl ⟨by rfl, ?_⟩) (by assumption) ?_
        rotate_left
        · intro w' hSw
          have r0 : w'.cell? ⟨w.heap.size, 0, none⟩ = some (.string a.name) := hSw.k1.cell 0
          have r1 : w'.cell? ⟨w.heap.size, 1, none⟩ = some (.slice aa a.args.length ca) := hSw.k1.cell 1
          have s0 : w'.cell? ⟨w.heap.size + 1, 0, none⟩ = some (.string b.name) := hSw.k2.cell 0
          have s1 : w'.cell? ⟨w.heap.size + 1, 1, none⟩ = some (.slice ab b.args.length cb) := hSw.k2.cell 1
          obtain ⟨t0, t1, t2, t3⟩ := HD.out w' hSw.bl
          go_simp <;> with_reducible rfl
        try simp only [Act.put, List.setIfInBounds_toArray, List.set_cons_zero, List.set_cons_succ, List.getElem_toArray, List.getElem_cons_succ, List.getElem_cons_zero]
        refine wpAnyH_take (i := 4) (v := ?_) rfl (by kernel_rfl) (by kernel_rfl) (by kernel_rfl) (fun _ _ _ h => h) (Or.inl ⟨by rfl, ?_⟩) (by assumption) ?_
        rotate_left
        · intro w' hSw
          have r0 : w'.cell? ⟨w.heap.size, 0, none⟩ = some (.string a.name) := hSw.k1.cell 0
          have r1 : w'.cell? ⟨w.heap.size, 1, none⟩ = some (.slice aa a.args.length ca) := hSw.k1.cell 1
          have s0 : w'.cell? ⟨w.heap.size + 1, 0, none⟩ = some (.string b.name) := hSw.k2.cell 0
          have s1 : w'.cell? ⟨w.heap.size + 1, 1, none⟩ = some (.slice ab b.args.length cb) := hSw.k2.cell 1
          obtain ⟨t0, t1, t2, t3⟩ := HD.out w' hSw.bl
          go_simp <;> with_reducible rfl
        try simp only [Act.put, List.setIfInBounds_toArray, List.set_cons_zero, List.set_cons_succ, List.getElem_toArray, List.getElem_cons_succ, List.getElem_cons_zero]
        refine wpAnyH_ready (rs := [5]) (by kernel_rfl) (by simp) ?_
        refine AllReadyH.cons rfl (fun K hK => ?_) AllReadyH.nil
        go_simp
        go_at_call 27
        refine (sameR_all x b _ _ _ X X (by exact HX1.out.later hHeld.bl) (by exact HB.out.later hHeld.bl)).mono ?_
        rintro e w5 ⟨rfl, hb5⟩
        have H5 := hide (hHeld.later hb5)
        clear hb5
        go_simp
        refine hK.out _ _ (by exact H5.out) (fun hHeld => ?_)
        clear hK K
        try simp only [Act.put, List.setIfInBounds_toArray, List.set_cons_zero, List.set_cons_succ, List.getElem_toArray, List.getElem_cons_succ, List.getElem_cons_zero]
        cases hsm : sameB x b with
        | true =>
          refine wpAnyH_take (i := 6) (v := ?_) rfl (by kernel_rfl) (by kernel_rfl) (by kernel_rfl) (fun _ _ _ h => h) (Or.inl ⟨by rfl, ?_⟩) (by assumption) ?_
          rotate_left
          · intro w' hSw
            go_simp <;> with_reducible rfl
          try simp only [Act.put, List.setIfInBounds_toArray, List.set_cons_zero, List.set_cons_succ, List.getElem_toArray, List.getElem_cons_succ, List.getElem_cons_zero]
          refine wpAnyH_take (i := 7) (v := undef) rfl (by kernel_rfl) (by kernel_rfl) (by kernel_rfl) (fun _ _ _ h => h) (Or.inr ⟨by rfl, rfl⟩) (by assumption) ?_
          try simp only [Act.put, List.setIfInBounds_toArray, List.set_cons_zero, List.set_cons_succ, List.getElem_toArray, List.getElem_cons_succ, List.getElem_cons_zero]
          refine wpAnyH_take (i := 8) (v := undef) rfl (by kernel_rfl) (by kernel_rfl) (by kernel_rfl) (fun _ _ _ h => h) (Or.inr ⟨by rfl, rfl⟩) (by assumption) ?_
          try simp only [Act.put, List.setIfInBounds_toArray, List.set_cons_zero, List.set_cons_succ, List.getElem_toArray, List.getElem_cons_succ, List.getElem_cons_zero]
          refine wpAnyH_take (i := 9) (v := undef) rfl (by kernel_rfl) (by kernel_rfl) (by kernel_rfl) (fun _ _ _ h => h) (Or.inr ⟨by rfl, rfl⟩) (by assumption) ?_
          try simp only [Act.put, List.setIfInBounds_toArray, List.set_cons_zero, List.set_cons_succ, List.getElem_toArray, List.getElem_cons_succ, List.getElem_cons_zero]
          refine wpAnyH_take (i := 10) (v := undef) rfl (by kernel_rfl) (by kernel_rfl) (by kernel_rfl) (fun _ _ _ h => h) (Or.inr ⟨by rfl, rfl⟩) (by assumption) ?_
          try simp only [Act.put, List.setIfInBounds_toArray, List.set_cons_zero, List.set_cons_succ, List.getElem_toArray, List.getElem_cons_succ, List.getElem_cons_zero]
          refine wpAnyH_take (i := 11) (v := undef) rfl (by kernel_rfl) (by kernel_rfl) (by kernel_rfl) (fun _ _ _ h => h) (Or.inr ⟨by rfl, rfl⟩) (by assumption) ?_
          try simp only [Act.put, List.setIfInBounds_toArray, List.set_cons_zero, List.set_cons_succ, List.getElem_toArray, List.getElem_cons_succ, List.getElem_cons_zero]
          refine wpAnyH_take (i := 12) (v := undef) rfl (by kernel_rfl) (by kernel_rfl) (by kernel_rfl) (fun _ _ _ h => h) (Or.inr ⟨by rfl, rfl⟩) (by assumption) ?_
          try simp only [Act.put, List.setIfInBounds_toArray, List.set_cons_zero, List.set_cons_succ, List.getElem_toArray, List.getElem_cons_succ, List.getElem_cons_zero]
          refine wpAnyH_take (i := 13) (v := undef) rfl (by kernel_rfl) (by kernel_rfl) (by kernel_rfl) (fun _ _ _ h => h) (Or.inr ⟨by rfl, rfl⟩) (by assumption) ?_
          try simp only [Act.put, List.setIfInBounds_toArray, List.set_cons_zero, List.set_cons_succ, List.getElem_toArray, List.getElem_cons_succ, List.getElem_cons_zero]
          refine wpAnyH_take (i := 14) (v := ?_) rfl (by kernel_rfl) (by kernel_rfl) (by kernel_rfl) (fun _ _ _ h => h) (Or.inl ⟨by rfl, ?_⟩) (by assumption) ?_
          rotate_left
          · intro w' hSw
            go_simp <;> with_reducible rfl
          try simp only [Act.put, List.setIfInBounds_toArray, List.set_cons_zero, List.set_cons_succ, List.getElem_toArray, List.getElem_cons_succ, List.getElem_cons_zero]
          refine wpAnyH_done (by kernel_rfl) ?_ _
          have HR : Hid (pathB row a b = true) := by unfold Hid; rw [HPB.out, if_neg (by rw [hva]; simp), if_pos (HYES.out (by rw [hsm]; rfl))]
          go_wp2_with fail
          go_ret
          exact ⟨by rw [HR.out]; rfl, H5.out.bl⟩
        | false =>
          refine wpAnyH_take (i := 6) (v := ?_) rfl (by kernel_rfl) (by kernel_rfl) (by kernel_rfl) (fun _ _ _ h => h) (Or.inl ⟨by rfl, ?_⟩) (by assumption) ?_
          rotate_left
          · intro w' hSw
            go_simp <;> with_reducible rfl
          try simp only [Act.put, List.setIfInBounds_toArray, List.set_cons_zero, List.set_cons_succ, List.getElem_toArray, List.getElem_cons_succ, List.getElem_cons_zero]
          refine wpAnyH_take (i := 7) (v := ?_) rfl (by kernel_rfl) (by kernel_rfl) (by kernel_rfl) (fun _ _ _ h => h) (Or.inl ⟨by rfl, ?_⟩) (by assumption) ?_
          rotate_left
          · intro w' hSw
            have r0 : w'.cell? ⟨w.heap.size, 0, none⟩ = some (.string a.name) := hSw.k1.cell 0
            have r1 : w'.cell? ⟨w.heap.size, 1, none⟩ = some (.slice aa a.args.length ca) := hSw.k1.cell 1
            have s0 : w'.cell? ⟨w.heap.size + 1, 0, none⟩ = some (.string b.name) := hSw.k2.cell 0
            have s1 : w'.cell? ⟨w.heap.size + 1, 1, none⟩ = some (.slice ab b.args.length cb) := hSw.k2.cell 1
            obtain ⟨t0, t1, t2, t3⟩ := HD.out w' hSw.bl
            go_simp <;> with_reducible rfl
          try simp only [Act.put, List.setIfInBounds_toArray, List.set_cons_zero, List.set_cons_succ, List.getElem_toArray, List.getElem_cons_succ, List.getElem_cons_zero]
          refine wpAnyH_take (i := 8) (v := ?_) rfl (by kernel_rfl) (by kernel_rfl) (by kernel_rfl) (fun _ _ _ h => h) (Or.inl ⟨by rfl, ?_⟩) (by assumption) ?_
          rotate_left
          · intro w' hSw
            have r0 : w'.cell? ⟨w.heap.size, 0, none⟩ = some (.string a.name) := hSw.k1.cell 0
            have r1 : w'.cell? ⟨w.heap.size, 1, none⟩ = some (.slice aa a.args.length ca) := hSw.k1.cell 1
            have s0 : w'.cell? ⟨w.heap.size + 1, 0, none⟩ = some (.string b.name) := hSw.k2.cell 0
            have s1 : w'.cell? ⟨w.heap.size + 1, 1, none⟩ = some (.slice ab b.args.length cb) := hSw.k2.cell 1
            obtain ⟨t0, t1, t2, t3⟩ := HD.out w' hSw.bl
            go_simp <;> with_reducible rfl
          try simp only [Act.put, List.setIfInBounds_toArray, List.set_cons_zero, List.set_cons_succ, List.getElem_toArray, List.getElem_cons_succ, List.getElem_cons_zero]
          refine wpAnyH_take (i := 9) (v := ?_) rfl (by kernel_rfl) (by kernel_rfl) (by kernel_rfl) (fun _ _ _ h => h) (Or.inl ⟨by rfl, ?_⟩) (by assumption) ?_
          rotate_left
          · intro w' hSw
            have r0 : w'.cell? ⟨w.heap.size, 0, none⟩ = some (.string a.name) := hSw.k1.cell 0
            have r1 : w'.cell? ⟨w.heap.size, 1, none⟩ = some (.slice aa a.args.length ca) := hSw.k1.cell 1
            have s0 : w'.cell? ⟨w.heap.size + 1, 0, none⟩ = some (.string b.name) := hSw.k2.cell 0
            have s1 : w'.cell? ⟨w.heap.size + 1, 1, none⟩ = some (.slice ab b.args.length cb) := hSw.k2.cell 1
            obtain ⟨t0, t1, t2, t3⟩ := HD.out w' hSw.bl
            go_simp <;> with_reducible rfl
          try simp only [Act.put, List.setIfInBounds_toArray, List.set_cons_zero, List.set_cons_succ, List.getElem_toArray, List.getElem_cons_succ, List.getElem_cons_zero]
          refine wpAnyH_take (i := 10) (v := ?_) rfl (by kernel_rfl) (by kernel_rfl) (by kernel_rfl) (fun _ _ _ h => h) (Or.inl ⟨by rfl, ?_⟩) (by assumption) ?_
          rotate_left
          · intro w' hSw
            have r0 : w'.cell? ⟨w.heap.size, 0, none⟩ = some (.string a.name) := hSw.k1.cell 0
            have r1 : w'.cell? ⟨w.heap.size, 1, none⟩ = some (.slice aa a.args.length ca) := hSw.k1.cell 1
            have s0 : w'.cell? ⟨w.heap.size + 1, 0, none⟩ = some (.string b.name) := hSw.k2.cell 0
            have s1 : w'.cell? ⟨w.heap.size + 1, 1, none⟩ = some (.slice ab b.args.length cb) := hSw.k2.cell 1
            obtain ⟨t0, t1, t2, t3⟩ := HD.out w' hSw.bl
            go_simp <;> with_reducible rfl
          try simp only [Act.put, List.setIfInBounds_toArray, List.set_cons_zero, List.set_cons_succ, List.getElem_toArray, List.getElem_cons_succ, List.getElem_cons_zero]
          refine wpAnyH_take (i := 11) (v := ?_) rfl (by kernel_rfl) (by kernel_rfl) (by kernel_rfl) (fun _ _ _ h => h) (Or.inl ⟨by rfl, ?_⟩) (by assumption) ?_
          rotate_left
          · intro w' hSw
            have r0 : w'.cell? ⟨w.heap.size, 0, none⟩ = some (.string a.name) := hSw.k1.cell 0
            have r1 : w'.cell? ⟨w.heap.size, 1, none⟩ = some (.slice aa a.args.length ca) := hSw.k1.cell 1
            have s0 : w'.cell? ⟨w.heap.size + 1, 0, none⟩ = some (.string b.name) := hSw.k2.cell 0
            have s1 : w'.cell? ⟨w.heap.size + 1, 1, none⟩ = some (.slice ab b.args.length cb) := hSw.k2.cell 1
            obtain ⟨t0, t1, t2, t3⟩ := HD.out w' hSw.bl
            go_simp <;> with_reducible rfl
          try simp only [Act.put, List.setIfInBounds_toArray, List.set_cons_zero, List.set_cons_succ, List.getElem_toArray, List.getElem_cons_succ, List.getElem_cons_zero]
          refine wpAnyH_take (i := 12) (v := ?_) rfl (by kernel_rfl) (by kernel_rfl) (by kernel_rfl) (fun _ _ _ h => h) (Or.inl ⟨by rfl, ?_⟩) (by assumption) ?_
          rotate_left
          · intro w' hSw
            have r0 : w'.cell? ⟨w.heap.size, 0, none⟩ = some (.string a.name) := hSw.k1.cell 0
            have r1 : w'.cell? ⟨w.heap.size, 1, none⟩ = some (.slice aa a.args.length ca) := hSw.k1.cell 1
            have s0 : w'.cell? ⟨w.heap.size + 1, 0, none⟩ = some (.string b.name) := hSw.k2.cell 0
            have s1 : w'.cell? ⟨w.heap.size + 1, 1, none⟩ = some (.slice ab b.args.length cb) := hSw.k2.cell 1
            obtain ⟨t0, t1, t2, t3⟩ := HD.out w' hSw.bl
            go_simp <;> with_reducible rfl
          try simp only [Act.put, List.setIfInBounds_toArray, List.set_cons_zero, List.set_cons_succ, List.getElem_toArray, List.getElem_cons_succ, List.getElem_cons_zero]
          refine wpAnyH_take (i := 13) (v := ?_) rfl (by kernel_rfl) (by kernel_rfl) (by kernel_rfl) (fun _ _ _ h => h) (Or.inl ⟨by rfl, ?_⟩) (by assumption) ?_
          rotate_left
          · intro w' hSw
            have r0 : w'.cell? ⟨w.heap.size, 0, none⟩ = some (.string a.name) := hSw.k1.cell 0
            have r1 : w'.cell? ⟨w.heap.size, 1, none⟩ = some (.slice aa a.args.length ca) := hSw.k1.cell 1
            have s0 : w'.cell? ⟨w.heap.size + 1, 0, none⟩ = some (.string b.name) := hSw.k2.cell 0
            have s1 : w'.cell? ⟨w.heap.size + 1, 1, none⟩ = some (.slice ab b.args.length cb) := hSw.k2.cell 1
            obtain ⟨t0, t1, t2, t3⟩ := HD.out w' hSw.bl
            go_simp <;> with_reducible rfl
          try simp only [Act.put, List.setIfInBounds_toArray, List.set_cons_zero, List.set_cons_succ, List.getElem_toArray, List.getElem_cons_succ, List.getElem_cons_zero]
          refine wpAnyH_take (i := 14) (v := ?_) rfl (by kernel_rfl) (by kernel_rfl) (by kernel_rfl) (fun _ _ _ h => h) (Or.inl ⟨by rfl, ?_⟩) (by assumption) ?_
          rotate_left
          · intro w' hSw
            go_simp <;> with_reducible rfl
          try simp only [Act.put, List.setIfInBounds_toArray, List.set_cons_zero, List.set_cons_succ, List.getElem_toArray, List.getElem_cons_succ, List.getElem_cons_zero]
          refine wpAnyH_done (by kernel_rfl) ?_ _
          cases hp : pathB row x b with
          | true =>
            have HR : Hid (pathB row a b = true) := by unfold Hid; rw [HPB.out, if_neg (by rw [hva]; simp), if_pos (HYES.out (by rw [hsm, hp]; rfl))]
            go_wp2_with fail
            go_ret
            exact ⟨by rw [HR.out]; rfl, H5.out.bl⟩
          | false =>
            have HR := hide (HNO.out (by rw [hsm, hp]; rfl))
            have en5 := HEN.out _ H5.out.bl
            go_wp2_with fail
            go_roundw
            case rel => exact ⟨q + 1, _, by omega, rfl, rfl, HR.out, H5.out⟩
            case measure => have h1 := HST.out; have h2 := HN.out; simp only [intOf]; omega
      · have hqe : q = a.args.length := by omega
        have htk : a.args.take q = a.args := List.take_of_length_le (by omega)
        have hne : n = i + 1 + sizeL a.args := by have := HN.out; rw [htk] at this; exact this
        subst hne
        have HAN : Hid ((a.args.any fun x => sameB x b || pathB row x b) = false) := by unfold Hid; have h := HANY.out; rw [htk] at h; exact h
        clear htk HANY HN hqe hq hlt
        have r0 : wr.cell? ⟨w.heap.size, 0, none⟩ = some (.string a.name) := HTW.out.k1.cell 0
        have r1 : wr.cell? ⟨w.heap.size, 1, none⟩ = some (.slice aa a.args.length ca) := HTW.out.k1.cell 1
        have s0 : wr.cell? ⟨w.heap.size + 1, 0, none⟩ = some (.string b.name) := HTW.out.k2.cell 0
        have s1 : wr.cell? ⟨w.heap.size + 1, 1, none⟩ = some (.slice ab b.args.length cb) := HTW.out.k2.cell 1
        cases hvb : varB b.name with
        | true =>
          have HR : Hid (pathB row a b = false) := by unfold Hid; rw [HPB.out, if_neg (by rw [hva]; simp), if_neg (by rw [HAN.out]; simp), if_pos hvb]
          go_wp2_with (go_at_call 35; refine (isVarR_any _ _).mono ?_; rintro e w' ⟨rfl, rfl⟩; rw [hvb])
          go_ret
          exact ⟨by rw [HR.out]; rfl, HTW.out.bl⟩
        | false =>
          have HEAD : Hid (pathB row a b = if gtS row b a = true then false else if (b.args.all fun y => pathB row a y) = false then false else if gtS row a b = true then true else match unl a.args b.args with | none => false | some (x, y) => pathB row x y) := by
            unfold Hid
            rw [HPB.out, if_neg (by rw [hva]; simp), if_neg (by rw [HAN.out]; simp), if_neg (by rw [hvb]; simp)]
            cases unl a.args b.args with
            | none => rfl
            | some p => rfl
          clear HPB HAN
          go_wp2_with (go_at_call 35; refine (isVarR_any _ _).mono ?_; rintro e w' ⟨rfl, rfl⟩; rw [hvb])
          refine (greater_any row b a _ _ _ _ X hrl (by exact HU.out.later HTW.out.bl) (by exact HB.out.later HTW.out.bl) (by exact HA.out.later HTW.out.bl)).mono ?_
          rintro e w5 ⟨rfl, hb5⟩
          have A5 := hide (HTW.out.later hb5)
          clear hb5 HTW hva hvb
          clear r0 r1 s0 s1
          cases hg1 : gtS row b a with
          | true =>
            have HR : Hid (pathB row a b = false) := by unfold Hid; rw [HEAD.out, if_pos hg1]
            go_wp2_with fail
            go_ret
            exact ⟨by rw [HR.out]; rfl, A5.out.bl⟩
          | false =>
            have G1 := hide hg1
            clear hg1 ei
            go_wp2_with fail
            go_loopw [20] (fun j wr => S2Inv row k a b aa ca ab cb w j wr) (fun j wr => k + 1 + sizeL b.args - (intOf j).toNat)
            case atStart => exact ⟨0, k + 1, Nat.zero_le _, by simp [sizeL], by simp, by simp, A5.out⟩
            case round =>
              clear A5
              obtain ⟨q, n, hq, hn, rfl, hall, hTw⟩ := hrel
              have HALL := hide hall
              have HTW := hide hTw
              have HN := hide hn
              have ek : wr.cell? ⟨fb, fo + k, none⟩ = some (.int .i64 ((k + 1 + sizeL b.args : Nat) : Int)) := bcell1 hTw.bl EK.out
              clear hall hTw hn
              by_cases hlt : q < b.args.length
              · obtain ⟨g1, g2, g3, g4⟩ := FK.out q hlt
                rw [← HN.out] at g1 g2 g3
                have hni : (n : Int) < ((k + 1 + sizeL b.args : Nat) : Int) := by have := HN.out; omega
                have hnB : (n : Int) < (sizeL [B] : Int) := by omega
                obtain ⟨bt, ct, d2, d3⟩ := HT.out i _ (Nat.le_refl _) hi
                have d4 := d3 n _ (Or.inr (by have := HN.out; omega)) g1
                have en := HFC.out n g2
                rw [g3] at en
                have e2 : wr.cell? ⟨gi, i, none⟩ = some (.slice (some ⟨bt, 0, none⟩) (sizeL [B]) ct) := bcell1 HTW.out.bl d2
                have e4 : wr.cell? ⟨bt, n, none⟩ = some (.bool (pathB row a b.args[q])) := bcell1 HTW.out.bl d4
                have e5 : wr.cell? ⟨fb, fo + n, none⟩ = some (.int .i64 ((k + 1 + sizeL (b.args.take (q + 1)) : Nat) : Int)) := bcell1 HTW.out.bl en
                have hst : sizeL (b.args.take q) < sizeL (b.args.take (q + 1)) := by have := sizeL_take b.args q hlt; have := size_pos b.args[q]; omega
                have hst2 : sizeL (b.args.take (q + 1)) ≤ sizeL b.args := by have h3 := sizeL_append (b.args.take (q + 1)) (b.args.drop (q + 1)); rw [List.take_append_drop] at h3; omega
                have HST := hide (And.intro hst hst2)
                have HYES : Hid (pathB row a b.args[q] = false → (b.args.all fun y => pathB row a y) = false) := fun h => (all_take hlt HALL.out).1 h
                have HNO : Hid (pathB row a b.args[q] = true → ((b.args.take (q + 1)).all fun y => pathB row a y) = true) := fun h => (all_take hlt HALL.out).2 h
                generalize b.args[q] = y at *
                clear d2 d3 d4 en g1 g3 g4 hst hst2
                cases hp : pathB row a y with
                | false =>
                  rw [hp] at e4
                  have HR : Hid (pathB row a b = false) := by unfold Hid; rw [HEAD.out, if_neg (by rw [G1.out]; simp), if_pos (HYES.out hp)]
                  go_wp2_with fail
                  go_ret
                  exact ⟨by rw [HR.out]; rfl, HTW.out.bl⟩
                | true =>
                  rw [hp] at e4
                  have HR := hide (HNO.out hp)
                  go_wp2_with fail
                  go_roundw
                  case rel => exact ⟨q + 1, _, by omega, rfl, rfl, HR.out, HTW.out⟩
                  case measure => have h1 := HST.out; have h2 := HN.out; simp only [intOf]; omega
              · have htk : b.args.take q = b.args := List.take_of_length_le (by omega)
                have hne : n = k + 1 + sizeL b.args := by have := HN.out; rw [htk] at this; exact this
                subst hne
                have HAL : Hid ((b.args.all fun y => pathB row a y) = true) := by unfold Hid; have h := HALL.out; rw [htk] at h; exact h
                clear htk HALL HN hq hlt
                have r0 : wr.cell? ⟨w.heap.size, 0, none⟩ = some (.string a.name) := HTW.out.k1.cell 0
                have r1 : wr.cell? ⟨w.heap.size, 1, none⟩ = some (.slice aa a.args.length ca) := HTW.out.k1.cell 1
                have s0 : wr.cell? ⟨w.heap.size + 1, 0, none⟩ = some (.string b.name) := HTW.out.k2.cell 0
                have s1 : wr.cell? ⟨w.heap.size + 1, 1, none⟩ = some (.slice ab b.args.length cb) := HTW.out.k2.cell 1
                go_wp2_with fail
                refine (greater_any row a b _ _ _ _ X hrl (by exact HU.out.later HTW.out.bl) (by exact HA.out.later HTW.out.bl) (by exact HB.out.later HTW.out.bl)).mono ?_
                rintro e w6 ⟨rfl, hb6⟩
                have A6 := hide (HTW.out.later hb6)
                clear hb6 HTW
                clear r0 r1 s0 s1
                cases hg2 : gtS row a b with
                | true =>
                  have HR : Hid (pathB row a b = true) := by unfold Hid; rw [HEAD.out, if_neg (by rw [G1.out]; simp), if_neg (by rw [HAL.out]; simp), if_pos hg2]
                  go_wp2_with fail
                  go_ret
                  exact ⟨by rw [HR.out]; rfl, A6.out.bl⟩
                | false =>
                  have HLEN := hide (gtS_same hg2 G1.out).2
                  have HLAST : Hid (pathB row a b = match unl a.args b.args with | none => false | some (x, y) => pathB row x y) := by unfold Hid; rw [HEAD.out, if_neg (by rw [G1.out]; simp), if_neg (by rw [HAL.out]; simp), if_neg (by rw [hg2]; simp)]
                  clear HEAD HAL G1 hg2 ek
                  go_wp2_with fail
                  go_loopw [21, 22] (fun m j wr => S3Inv i k a b aa ca ab cb w m j wr) (fun m j wr => i + 1 + sizeL a.args - (intOf j).toNat)
                  case atStart => exact ⟨0, i + 1, k + 1, Nat.zero_le _, by simp [sizeL], by simp [sizeL], by simp, by simp, fun z h => by omega, A6.out⟩
                  case round =>
                    clear A6
                    obtain ⟨q, n, n', hq, hn, hn', rfl, rfl, hall, hTw⟩ := hrel
                    have HALL := hide hall
                    have HTW := hide hTw
                    have HN := hide (And.intro hn hn')
                    have ei : wr.cell? ⟨eb, eo + i, none⟩ = some (.int .i64 ((i + 1 + sizeL a.args : Nat) : Int)) := bcell1 hTw.bl EI.out
                    clear hall hTw hn hn'
                    by_cases hlt : q < a.args.length
                    · have hlt2 : q < b.args.length := by have := HLEN.out; omega
                      obtain ⟨g1, g2, g3, g4⟩ := FI.out q hlt
                      obtain ⟨k1, k2, k3, k4⟩ := FK.out q hlt2
                      rw [← HN.out.1] at g1 g2 g3
                      rw [← HN.out.2] at k1 k2 k3
                      have hni : (n : Int) < ((i + 1 + sizeL a.args : Nat) : Int) := by have := HN.out.1; omega
                      have hnA : (n : Int) < (sizeL [A] : Int) := by omega
                      have hnB : (n' : Int) < (sizeL [B] : Int) := by omega
                      obtain ⟨a1, c1, d0, d1, hs1⟩ := HX.out n _ g1
                      obtain ⟨a2, c2, f0, f1, hs2⟩ := HY.out n' _ k1
                      obtain ⟨bt, ct, d2, d3⟩ := HT.out n _ (by have := HN.out.1; omega) g1
                      have d4 := d3 n' _ (Or.inl (by have := HN.out.1; omega)) k1
                      have en := HEC.out n g2
                      rw [g3] at en
                      have fn := HFC.out n' k2
                      rw [k3] at fn
                      have HD : Hid (∀ w', Below w.heap.size w w' → w'.cell? ⟨gx, n * 2, none⟩ = some (.string a.args[q].name) ∧ w'.cell? ⟨gx, n * 2 + 1, none⟩ = some (.slice a1 a.args[q].args.length c1) ∧ w'.cell? ⟨gy, n' * 2, none⟩ = some (.string b.args[q].name) ∧ w'.cell? ⟨gy, n' * 2 + 1, none⟩ = some (.slice a2 b.args[q].args.length c2)) := fun w' hb => ⟨bcell1 hb d0, bcell1 hb d1, bcell1 hb f0, bcell1 hb f1⟩
                      have HTB : Hid (∀ w', Below w.heap.size w w' → w'.cell? ⟨gi, n, none⟩ = some (.slice (some ⟨bt, 0, none⟩) (sizeL [B]) ct) ∧ w'.cell? ⟨bt, n', none⟩ = some (.bool (pathB row a.args[q] b.args[q])) ∧ w'.cell? ⟨eb, eo + n, none⟩ = some (.int .i64 ((i + 1 + sizeL (a.args.take (q + 1)) : Nat) : Int)) ∧ w'.cell? ⟨fb, fo + n', none⟩ = some (.int .i64 ((k + 1 + sizeL (b.args.take (q + 1)) : Nat) : Int))) := fun w' hb => ⟨bcell1 hb d2, bcell1 hb d4, bcell1 hb en, bcell1 hb fn⟩
                      have HX1 := hide (show TV w X (.agg #[.string a.args[q].name, .slice a1 a.args[q].args.length c1]) a.args[q] from ⟨a1, c1, rfl, hs1⟩)
                      have HY1 := hide (show TV w X (.agg #[.string b.args[q].name, .slice a2 b.args[q].args.length c2]) b.args[q] from ⟨a2, c2, rfl, hs2⟩)
                      have hst : sizeL (a.args.take q) < sizeL (a.args.take (q + 1)) := by have := sizeL_take a.args q hlt; have := size_pos a.args[q]; omega
                      have hst2 : sizeL (a.args.take (q + 1)) ≤ sizeL a.args := by have h3 := sizeL_append (a.args.take (q + 1)) (a.args.drop (q + 1)); rw [List.take_append_drop] at h3; omega
                      have HST := hide (And.intro hst hst2)
                      have HU1 : Hid (a.args[q] ≠ b.args[q] → unl a.args b.args = some (a.args[q], b.args[q])) := fun he => unl_from hlt hlt2 (fun j hj => HALL.out j hj (by omega) (by omega)) he
                      have HU2 : Hid (a.args[q] = b.args[q] → ∀ j (h1 : j < q + 1) (h2 : j < a.args.length) (h3 : j < b.args.length), a.args[j] = b.args[j]) := fun he j h1 h2 h3 => by
                        by_cases hj : j = q
                        · subst hj; exact he
                        · exact HALL.out j (by omega) h2 h3
                      generalize a.args[q] = x at *
                      generalize b.args[q] = y at *
                      clear hs1 hs2 d0 d1 d2 d3 d4 f0 f1 en fn g1 g3 g4 k1 k3 k4 hst hst2
                      have HS0 : Hid (TwW a b aa ca ab cb w wr.drew) := HTW.out.later (below_drewN (Below.refl _ _) 1)
                      go_wp2_with fail
                      refine wp_region_held_drew (S := TwW a b aa ca ab cb w) (by kernel_rfl) HS0.out (fun hHeld => ?_)
                      refine wpAnyH_take (i := 0) (v := ?_) rfl (by kernel_rfl) (by kernel_rfl) (by kernel_rfl) (fun _ _ _ h => h) (Or.inl ⟨by rfl, ?_⟩) (by assumption) ?_
                      rotate_left
                      · intro w' hSw
                        have r0 : w'.cell? ⟨w.heap.size, 0, none⟩ = some (.string a.name) := hSw.k1.cell 0
                        have r1 : w'.cell? ⟨w.heap.size, 1, none⟩ = some (.slice aa a.args.length ca) := hSw.k1.cell 1
                        have s0 : w'.cell? ⟨w.heap.size + 1, 0, none⟩ = some (.string b.name) := hSw.k2.cell 0
                        have s1 : w'.cell? ⟨w.heap.size + 1, 1, none⟩ = some (.slice ab b.args.length cb) := hSw.k2.cell 1
                        obtain ⟨t0, t1, t2, t3⟩ := HD.out w' hSw.bl
                        go_simp <;> with_reducible rfl
                      try simp only [Act.put, List.setIfInBounds_toArray, List.set_cons_zero, List.set_cons_succ, List.getElem_toArray, List.getElem_cons_succ, List.getElem_cons_zero]
                      refine wpAnyH_take (i := 1) (v := ?_) rfl (by kernel_rfl) (by kernel_rfl) (by kernel_rfl) (fun _ _ _ h => h) (Or.inl ⟨by rfl, ?_⟩) (by assumption) ?_
                      rotate_left
                      · intro w' hSw
                        have r0 : w'.cell? ⟨w.heap.size, 0, none⟩ = some (.string a.name) := hSw.k1.cell 0
                        have r1 : w'.cell? ⟨w.heap.size, 1, none⟩ = some (.slice aa a.args.length ca) := hSw.k1.cell 1
                        have s0 : w'.cell? ⟨w.heap.size + 1, 0, none⟩ = some (.string b.name) := hSw.k2.cell 0
                        have s1 : w'.cell? ⟨w.heap.size + 1, 1, none⟩ = some (.slice ab b.args.length cb) := hSw.k2.cell 1
                        obtain ⟨t0, t1, t2, t3⟩ := HD.out w' hSw.bl
                        go_simp <;> with_reducible rfl
                      try simp only [Act.put, List.setIfInBounds_toArray, List.set_cons_zero, List.set_cons_succ, List.getElem_toArray, List.getElem_cons_succ, List.getElem_cons_zero]
                      refine wpAnyH_take (i := 2) (v := ?_) rfl (by kernel_rfl) (by kernel_rfl) (by kernel_rfl) (fun _ _ _ h => h) (Or.inl ⟨by rfl, ?_⟩) (by assumption) ?_
                      rotate_left
                      · intro w' hSw
                        have r0 : w'.cell? ⟨w.heap.size, 0, none⟩ = some (.string a.name) := hSw.k1.cell 0
                        have r1 : w'.cell? ⟨w.heap.size, 1, none⟩ = some (.slice aa a.args.length ca) := hSw.k1.cell 1
                        have s0 : w'.cell? ⟨w.heap.size + 1, 0, none⟩ = some (.string b.name) := hSw.k2.cell 0
                        have s1 : w'.cell? ⟨w.heap.size + 1, 1, none⟩ = some (.slice ab b.args.length cb) := hSw.k2.cell 1
                        obtain ⟨t0, t1, t2, t3⟩ := HD.out w' hSw.bl
                        go_simp <;> with_reducible rfl
                      try simp only [Act.put, List.setIfInBounds_toArray, List.set_cons_zero, List.set_cons_succ, List.getElem_toArray, List.getElem_cons_succ, List.getElem_cons_zero]
                      refine wpAnyH_take (i := 3) (v := ?_) rfl (by kernel_rfl) (by kernel_rfl) (by kernel_rfl) (fun _ _ _ h => h) (Or.inl ⟨by rfl, ?_⟩) (by assumption) ?_
                      rotate_left
                      · intro w' hSw
                        have r0 : w'.cell? ⟨w.heap.size, 0, none⟩ = some (.string a.name) := hSw.k1.cell 0
                        have r1 : w'.cell? ⟨w.heap.size, 1, none⟩ = some (.slice aa a.args.length ca) := hSw.k1.cell 1
                        have s0 : w'.cell? ⟨w.heap.size + 1, 0, none⟩ = some (.string b.name) := hSw.k2.cell 0
                        have s1 : w'.cell? ⟨w.heap.size + 1, 1, none⟩ = some (.slice ab b.args.length cb) := hSw.k2.cell 1
                        obtain ⟨t0, t1, t2, t3⟩ := HD.out w' hSw.bl
                        go_simp <;> with_reducible rfl
                      try simp only [Act.put, List.setIfInBounds_toArray, List.set_cons_zero, List.set_cons_succ, List.getElem_toArray, List.getElem_cons_succ, List.getElem_cons_zero]
                      refine wpAnyH_take (i := 4) (v := ?_) rfl (by kernel_rfl) (by kernel_rfl) (by kernel_rfl) (fun _ _ _ h => h) (Or.inl ⟨by rfl, ?_⟩) (by assumption) ?_
                      rotate_left
                      · intro w' hSw
                        have r0 : w'.cell? ⟨w.heap.size, 0, none⟩ = some (.string a.name) := hSw.k1.cell 0
                        have r1 : w'.cell? ⟨w.heap.size, 1, none⟩ = some (.slice aa a.args.length ca) := hSw.k1.cell 1
                        have s0 : w'.cell? ⟨w.heap.size + 1, 0, none⟩ = some (.string b.name) := hSw.k2.cell 0
                        have s1 : w'.cell? ⟨w.heap.size + 1, 1, none⟩ = some (.slice ab b.args.length cb) := hSw.k2.cell 1
                        obtain ⟨t0, t1, t2, t3⟩ := HD.out w' hSw.bl
                        go_simp <;> with_reducible rfl
                      try simp only [Act.put, List.setIfInBounds_toArray, List.set_cons_zero, List.set_cons_succ, List.getElem_toArray, List.getElem_cons_succ, List.getElem_cons_zero]
                      refine wpAnyH_take (i := 5) (v := ?_) rfl (by kernel_rfl) (by kernel_rfl) (by kernel_rfl) (fun _ _ _ h => h) (Or.inl ⟨by rfl, ?_⟩) (by assumption) ?_
                      rotate_left
                      · intro w' hSw
                        have r0 : w'.cell? ⟨w.heap.size, 0, none⟩ = some (.string a.name) := hSw.k1.cell 0
                        have r1 : w'.cell? ⟨w.heap.size, 1, none⟩ = some (.slice aa a.args.length ca) := hSw.k1.cell 1
                        have s0 : w'.cell? ⟨w.heap.size + 1, 0, none⟩ = some (.string b.name) := hSw.k2.cell 0
                        have s1 : w'.cell? ⟨w.heap.size + 1, 1, none⟩ = some (.slice ab b.args.length cb) := hSw.k2.cell 1
                        obtain ⟨t0, t1, t2, t3⟩ := HD.out w' hSw.bl
                        go_simp <;> with_reducible rfl
                      try simp only [Act.put, List.setIfInBounds_toArray, List.set_cons_zero, List.set_cons_succ, List.getElem_toArray, List.getElem_cons_succ, List.getElem_cons_zero]
                      refine wpAnyH_take (i := 6) (v := ?_) rfl (by kernel_rfl) (by kernel_rfl) (by kernel_rfl) (fun _ _ _ h => h) (Or.inl ⟨by rfl, ?_⟩) (by assumption) ?_
                      rotate_left
                      · intro w' hSw
                        have r0 : w'.cell? ⟨w.heap.size, 0, none⟩ = some (.string a.name) := hSw.k1.cell 0
                        have r1 : w'.cell? ⟨w.heap.size, 1, none⟩ = some (.slice aa a.args.length ca) := hSw.k1.cell 1
                        have s0 : w'.cell? ⟨w.heap.size + 1, 0, none⟩ = some (.string b.name) := hSw.k2.cell 0
                        have s1 : w'.cell? ⟨w.heap.size + 1, 1, none⟩ = some (.slice ab b.args.length cb) := hSw.k2.cell 1
                        obtain ⟨t0, t1, t2, t3⟩ := HD.out w' hSw.bl
                        go_simp <;> with_reducible rfl
                      try simp only [Act.put, List.setIfInBounds_toArray, List.set_cons_zero, List.set_cons_succ, List.getElem_toArray, List.getElem_cons_succ, List.getElem_cons_zero]
                      refine wpAnyH_take (i := 7) (v := ?_) rfl (by kernel_rfl) (by kernel_rfl) (by kernel_rfl) (fun _ _ _ h => h) (Or.inl ⟨by rfl, ?_⟩) (by assumption) ?_
                      rotate_left
                      · intro w' hSw
                        have r0 : w'.cell? ⟨w.heap.size, 0, none⟩ = some (.string a.name) := hSw.k1.cell 0
                        have r1 : w'.cell? ⟨w.heap.size, 1, none⟩ = some (.slice aa a.args.length ca) := hSw.k1.cell 1
                        have s0 : w'.cell? ⟨w.heap.size + 1, 0, none⟩ = some (.string b.name) := hSw.k2.cell 0
                        have s1 : w'.cell? ⟨w.heap.size + 1, 1, none⟩ = some (.slice ab b.args.length cb) := hSw.k2.cell 1
                        obtain ⟨t0, t1, t2, t3⟩ := HD.out w' hSw.bl
                        go_simp <;> with_reducible rfl
                      try simp only [Act.put, List.setIfInBounds_toArray, List.set_cons_zero, List.set_cons_succ, List.getElem_toArray, List.getElem_cons_succ, List.getElem_cons_zero]
                      refine wpAnyH_ready (rs := [8]) (by kernel_rfl) (by simp) ?_
                      refine AllReadyH.cons rfl (fun K hK => ?_) AllReadyH.nil
                      go_simp
                      go_at_call 27
                      refine (sameR_all x y _ _ _ X X (by exact HX1.out.later hHeld.bl) (by exact HY1.out.later hHeld.bl)).mono ?_
                      rintro e w7 ⟨rfl, hb7⟩
                      have H7 := hide (hHeld.later hb7)
                      clear hb7
                      go_simp
                      refine hK.out _ _ (by exact H7.out) (fun hHeld => ?_)
                      clear hK K
                      try simp only [Act.put, List.setIfInBounds_toArray, List.set_cons_zero, List.set_cons_succ, List.getElem_toArray, List.getElem_cons_succ, List.getElem_cons_zero]
                      refine wpAnyH_take (i := 9) (v := ?_) rfl (by kernel_rfl) (by kernel_rfl) (by kernel_rfl) (fun _ _ _ h => h) (Or.inl ⟨by rfl, ?_⟩) (by assumption) ?_
                      rotate_left
                      · intro w' hSw
                        go_simp <;> with_reducible rfl
                      try simp only [Act.put, List.setIfInBounds_toArray, List.set_cons_zero, List.set_cons_succ, List.getElem_toArray, List.getElem_cons_succ, List.getElem_cons_zero]
                      refine wpAnyH_done (by kernel_rfl) ?_ _
                      obtain ⟨z0, z1, z2, z3⟩ := HTB.out _ H7.out.bl
                      by_cases he : x = y
                      · have hs : sameB x y = true := sameB_iff.2 he
                        rw [hs]
                        have HREL := hide (HU2.out he)
                        clear he hs z1
                        go_wp2_with fail
                        go_roundw
                        case rel => exact ⟨q + 1, _, _, by omega, rfl, rfl, rfl, rfl, HREL.out, H7.out⟩
                        case measure => have h1 := HST.out; have h2 := HN.out; simp only [intOf]; omega
                      · have hs : sameB x y = false := by
                          cases h : sameB x y with
                          | false => rfl
                          | true => exact absurd (sameB_iff.1 h) he
                        rw [hs]
                        have HR : Hid (pathB row a b = pathB row x y) := by unfold Hid; rw [HLAST.out, HU1.out he]
                        clear he hs
                        go_wp2_with fail
                        go_ret
                        exact ⟨by rw [HR.out]; rfl, H7.out.bl⟩
                    · have htk : a.args.take q = a.args := List.take_of_length_le (by omega)
                      have hne : n = i + 1 + sizeL a.args := by have := HN.out.1; rw [htk] at this; exact this
                      subst hne
                      have HR : Hid (pathB row a b = false) := by
                        unfold Hid
                        rw [HLAST.out, unl_all HLEN.out fun j h1 h2 => HALL.out j (by omega) h1 h2]
                      clear htk HN
                      go_wp2_with fail
                      go_ret
                      exact ⟨by rw [HR.out]; rfl, HTW.out.bl⟩
#print axioms pathStep_any
end Go.Proofs.Ytpbnbkeoiojpaac

/- Walks: above by paths, as the document says. -/
namespace Go.Proofs.Ytpbnbkeoiojpaac
open Go.RowKit
set_option linter.unusedSimpArgs false
set_option linter.unusedVariables false
set_option maxRecDepth 8000

theorem infoBs : (Try.prog.info? 62).map (fun i => (i.zero, i.size, i.bytes)) = some (some (.slice none 0 0), 1, 24) := by kernel_rfl
theorem infoBo : (Try.prog.info? 4).map (fun i => (i.zero, i.size, i.bytes)) = some (some (.bool false), 1, 1) := by kernel_rfl
theorem make_rows (n : Nat) (hn : n ≤ 20000) : ∃ cs : Array Value, cs.size = n ∧ ∀ w, (Instr.makeSlice 61 (.int .i64 (n : Int)) (.int .i64 (n : Int))).run Try.prog w = .ok (.slice (some ⟨w.heap.size, 0, none⟩) n n) (w.alloc (.cells cs 62)) := by
  obtain ⟨i0, hi, hz0, hz1, hz2⟩ := info_parts infoBs
  refine ⟨madeCells (Value.slice none 0 0).cells (n * i0.size), by rw [size_madeCells, hz1, Nat.mul_one], fun w => ?_⟩
  have hr := run_make (P := Try.prog) w 61 62 i0 _ Try.underlying61 hi hz0 .i64 .i64 n n (by omega) (by omega) (by rw [hz2]; omega) (by omega)
  simpa using hr
theorem make_bools (n : Nat) (hn : n ≤ 20000) : ∃ cs : Array Value, cs.size = n ∧ ∀ w, (Instr.makeSlice 62 (.int .i64 (n : Int)) (.int .i64 (n : Int))).run Try.prog w = .ok (.slice (some ⟨w.heap.size, 0, none⟩) n n) (w.alloc (.cells cs 4)) := by
  obtain ⟨i0, hi, hz0, hz1, hz2⟩ := info_parts infoBo
  refine ⟨madeCells (Value.bool false).cells (n * i0.size), by rw [size_madeCells, hz1, Nat.mul_one], fun w => ?_⟩
  have hr := run_make (P := Try.prog) w 62 4 i0 _ Try.underlying62 hi hz0 .i64 .i64 n n (by omega) (by omega) (by rw [hz2]; omega) (by omega)
  simpa using hr
theorem knR_of {w1 w2 : World} {X : Nat → Prop} {A : Tm} {g : Nat} {xs : List Value} (hrow : RowT w1 X (preL [A]) xs) (hb : Below w1.heap.size w1 w2) (hc : ∀ j u, xs[j]? = some u → w2.cell? ⟨g, j, none⟩ = some u) : KnR w2 (fun _ => True) A g := by
  intro j x hx
  have hlt : j < (preL [A]).length := by
    rcases Nat.lt_or_ge j (preL [A]).length with h' | h'
    · exact h'
    · rw [List.getElem?_eq_none h'] at hx; cases hx
  rw [List.getElem?_eq_getElem hlt] at hx
  cases hx
  obtain ⟨d0, a', c', d1, hs⟩ := hrow.get j hlt
  exact ⟨a', c', hc _ _ d0, hc _ _ d1, (hs.later hb).mono fun _ _ _ => trivial⟩
theorem KnR.later {w w' : World} {X : Nat → Prop} {A : Tm} {g : Nat} (h : KnR w X A g) (hb : Below w.heap.size w w') : KnR w' X A g := fun j x hx => by
  obtain ⟨a', c', h1, h2, h3⟩ := h j x hx
  exact ⟨a', c', bcell1 hb h1, bcell1 hb h2, h3.later hb⟩

theorem cell_other {w : World} {b o b2 o2 : Nat} {v u : Value} (h : b2 ≠ b ∨ o2 ≠ o) (hc : w.cell? ⟨b2, o2, none⟩ = some u) : (w.setCell ⟨b, o, none⟩ v).cell? ⟨b2, o2, none⟩ = some u := by
  rw [← hc]
  refine World.cell?_setCell_other _ _ _ _ fun e => ?_
  simp at e
  omega
/-- The rows from the p-th on are filled. -/
def TabF (row : List ByteArray) (A B : Tm) (N g p top : Nat) (wr : World) : Prop := ∀ j x, p ≤ j → (preL [A])[j]? = some x → ∃ b' c', (N < b' ∧ b' < top) ∧ wr.cell? ⟨g, j, none⟩ = some (.slice (some ⟨b', 0, none⟩) (sizeL [B]) c') ∧ ∀ q y, (preL [B])[q]? = some y → wr.cell? ⟨b', q, none⟩ = some (.bool (pathB row x y))
def OInv (row : List ByteArray) (A B : Tm) (w6 : World) (i : Value) (wr : World) : Prop :=
  ∃ p : Nat, p ≤ sizeL [A] ∧ i = .int .i64 ((p : Int) - 1) ∧ Below w6.heap.size w6 wr ∧ (∃ cs, cs.size = sizeL [A] ∧ Blk wr w6.heap.size cs 62) ∧ TabF row A B w6.heap.size w6.heap.size p wr.heap.size wr
def IInv (row : List ByteArray) (A B a : Tm) (w6 : World) (i bt : Nat) (k : Value) (wr : World) : Prop :=
  ∃ r : Nat, r ≤ sizeL [B] ∧ k = .int .i64 ((r : Int) - 1) ∧ Below w6.heap.size w6 wr ∧ bt < wr.heap.size ∧ (∃ cs, cs.size = sizeL [A] ∧ Blk wr w6.heap.size cs 62) ∧ (∃ cs, cs.size = sizeL [B] ∧ Blk wr bt cs 4) ∧ TabF row A B w6.heap.size w6.heap.size (i + 1) bt wr ∧
    wr.cell? ⟨w6.heap.size, i, none⟩ = some (.slice (some ⟨bt, 0, none⟩) (sizeL [B]) (sizeL [B])) ∧ ∀ q y, r ≤ q → (preL [B])[q]? = some y → wr.cell? ⟨bt, q, none⟩ = some (.bool (pathB row a y))

set_option maxHeartbeats 4000000 in
theorem pathOf_any (row : List ByteArray) (hrl : row.length ≤ 1000) (a b : Tm) (za : sizeL [a] ≤ 20000) (zb : sizeL [b] ≤ 20000) (u va vb : Value) (w : World) (X : Nat → Prop) (hu : LV Value.string w X u row) (ha : TV w X va a) (hb : TV w X vb b) :
    Calls Try.prog 11 #[u, va, vb] w fun e w' => e = .returned (.bool (pathB row a b)) ∧ Below w.heap.size w w' := by
  have HA := hide ha
  have HB := hide hb
  have HU := hide hu
  obtain ⟨aa, ca, rfl, hsa⟩ := ha
  obtain ⟨ab, cb, rfl, hsb⟩ := hb
  clear hsa hsb hu
  have pa := size_pos a
  have pb := size_pos b
  obtain ⟨csR, hcsR, hmkR⟩ := make_rows (sizeL [a]) za
  obtain ⟨csB, hcsB, hmkB⟩ := make_bools (sizeL [b]) zb
  have A2 := hide (TwW.start a b aa ca ab cb w)
  go_enter Try.func11, Try.ntmps11
  go_wp2_with fail
  generalize ((w.alloc (.cells #[.string a.name, .slice aa a.args.length ca] 25)).alloc (.cells #[.string b.name, .slice ab b.args.length cb] 25)) = w2 at *
  refine (knots_any a _ _ X (by exact HA.out.later A2.out.bl) (by omega)).mono ?_
  rintro e w3 ⟨v3, xs3, rfl, hown3, hrow3, hb3⟩
  obtain ⟨gx, cx, rfl, hgx, hgxl, hc3⟩ := owned_val hown3 pa
  have KX3 := hide (knR_of hrow3 hb3 hc3)
  have A3 := hide (A2.out.later hb3)
  clear hown3 hrow3 hc3 hb3 A2
  have r0 : w3.cell? ⟨w.heap.size, 0, none⟩ = some (.string a.name) := A3.out.k1.cell 0
  have r1 : w3.cell? ⟨w.heap.size, 1, none⟩ = some (.slice aa a.args.length ca) := A3.out.k1.cell 1
  have s0 : w3.cell? ⟨w.heap.size + 1, 0, none⟩ = some (.string b.name) := A3.out.k2.cell 0
  have s1 : w3.cell? ⟨w.heap.size + 1, 1, none⟩ = some (.slice ab b.args.length cb) := A3.out.k2.cell 1
  go_wp2_with fail
  refine (knots_any b _ _ X (by exact HB.out.later A3.out.bl) (by omega)).mono ?_
  rintro e w4 ⟨v4, xs4, rfl, hown4, hrow4, hb4⟩
  obtain ⟨gy, cy, rfl, hgy, hgyl, hc4⟩ := owned_val hown4 pb
  have KY4 := hide (knR_of hrow4 hb4 hc4)
  have KX4 := hide (KX3.out.later hb4)
  have A4 := hide (A3.out.later hb4)
  clear hown4 hrow4 hc4 hb4 A3 KX3
  clear r0 r1 s0 s1
  have r0 : w4.cell? ⟨w.heap.size, 0, none⟩ = some (.string a.name) := A4.out.k1.cell 0
  have r1 : w4.cell? ⟨w.heap.size, 1, none⟩ = some (.slice aa a.args.length ca) := A4.out.k1.cell 1
  have s0 : w4.cell? ⟨w.heap.size + 1, 0, none⟩ = some (.string b.name) := A4.out.k2.cell 0
  have s1 : w4.cell? ⟨w.heap.size + 1, 1, none⟩ = some (.slice ab b.args.length cb) := A4.out.k2.cell 1
  go_wp2_with fail
  refine (ends_any a _ _ X za (by exact HA.out.later A4.out.bl)).mono ?_
  rintro e w5 ⟨ve, rfl, hlv5, hb5⟩
  have E5 := hide (hlv5.mono (Y := fun _ => True) fun _ _ _ => trivial)
  have KX5 := hide (KX4.out.later hb5)
  have KY5 := hide (KY4.out.later hb5)
  have A5 := hide (A4.out.later hb5)
  clear hlv5 hb5 A4 KX4 KY4
  clear r0 r1 s0 s1
  have r0 : w5.cell? ⟨w.heap.size, 0, none⟩ = some (.string a.name) := A5.out.k1.cell 0
  have r1 : w5.cell? ⟨w.heap.size, 1, none⟩ = some (.slice aa a.args.length ca) := A5.out.k1.cell 1
  have s0 : w5.cell? ⟨w.heap.size + 1, 0, none⟩ = some (.string b.name) := A5.out.k2.cell 0
  have s1 : w5.cell? ⟨w.heap.size + 1, 1, none⟩ = some (.slice ab b.args.length cb) := A5.out.k2.cell 1
  go_wp2_with fail
  refine (ends_any b _ _ X zb (by exact HB.out.later A5.out.bl)).mono ?_
  rintro e w6 ⟨vf, rfl, hlv6, hb6⟩
  have F6 := hide (hlv6.mono (Y := fun _ => True) fun _ _ _ => trivial)
  have E6 := hide (E5.out.later hb6)
  have KX6 := hide (KX5.out.later hb6)
  have KY6 := hide (KY5.out.later hb6)
  have B6 := hide (A5.out.later hb6).bl
  have U6 := hide ((HU.out.later B6.out).mono (Y := fun _ => True) fun _ _ _ => trivial)
  clear hlv6 hb6 A5 KX5 KY5 E5
  clear r0 r1 s0 s1
  have hpa := preL_len0 [a]
  have hpb := preL_len0 [b]
  have HHA : Hid ((preL [a])[0]? = some a ∧ (preL [b])[0]? = some b) := by
    obtain ⟨s1, l1⟩ := a
    obtain ⟨s2, l2⟩ := b
    exact ⟨by simp [preL], by simp [preL]⟩
  have hcsR' := hcsR
  go_wp2_with fail
  have O0 : Hid (OInv row a b w6 (.int .i64 ((sizeL [a] : Int) - 1)) (w6.alloc (.cells csR 62))) := by
    refine ⟨sizeL [a], Nat.le_refl _, rfl, (Below.refl _ _).alloc (Nat.le_refl _) _, ⟨csR, hcsR, Blk.new _ _ _⟩, fun j x hj hx => ?_⟩
    rw [List.getElem?_eq_none (by omega)] at hx; cases hx
  generalize w6.alloc (.cells csR 62) = w7 at *
  go_loopw [12] (fun i wr => OInv row a b w6 i wr) (fun i wr => (intOf i + 1).toNat)
  case atStart => exact O0.out
  case round =>
    clear O0
    obtain ⟨p, hp, rfl, hb, ⟨cs, hcs, hblk⟩, hTF⟩ := hrel
    have HB7 := hide hb
    have HBLK := hide hblk
    have HTF := hide hTF
    clear hb hTF
    cases p with
    | zero =>
      obtain ⟨b0, c0, _, d1, d2⟩ := HTF.out 0 a (Nat.le_refl _) HHA.out.1
      have d3 := d2 0 b HHA.out.2
      clear d2
      have hpai : (0 : Int) < (sizeL [a] : Int) := by omega
      have hpbi : (0 : Int) < (sizeL [b] : Int) := by omega
      go_wp2_with fail
      go_ret
      exact ⟨rfl, B6.out.trans (HB7.out.mono B6.out.size)⟩
    | succ i =>
      have ei : (((i + 1 : Nat) : Int) - 1) = (i : Int) := by omega
      rw [ei]
      clear ei
      have hii : (i : Int) < (sizeL [a] : Int) := by omega
      obtain ⟨x, hx⟩ : ∃ x, (preL [a])[i]? = some x := ⟨_, List.getElem?_eq_getElem (by omega)⟩
      have HX := hide hx
      clear hx
      have hgl := hblk.lt
      have hci : ∃ v, cs[i]? = some v := ⟨_, Array.getElem?_eq_getElem (by omega)⟩
      obtain ⟨v0, hv0⟩ := hci
      have q0 : ∀ o, (wr.alloc o).cell? ⟨w6.heap.size, i, none⟩ = some v0 := fun o => ((hblk.alloc o).cell i).trans hv0
      have qf : ∀ o j, (wr.alloc o).frozen? ⟨w6.heap.size, j, none⟩ = false := fun o j => (hblk.alloc o).frozen j
      have q1 : wr.cell? ⟨w6.heap.size, i, none⟩ = some v0 := (hblk.cell i).trans hv0
      have qg := hblk.frozen
      clear hblk
      go_wp2_with fail
      have I0 : Hid (IInv row a b x w6 i wr.heap.size (.int .i64 ((sizeL [b] : Int) - 1)) ((wr.setCell ⟨w6.heap.size, i, none⟩ (.slice (some ⟨wr.heap.size, 0, none⟩) (sizeL [b]) (sizeL [b]))).alloc (.cells csB 4))) := by
        have hset := (HBLK.out.set i (.slice (some ⟨wr.heap.size, 0, none⟩) (sizeL [b]) (sizeL [b]))).alloc (.cells csB 4)
        have hz : (wr.setCell ⟨w6.heap.size, i, none⟩ (.slice (some ⟨wr.heap.size, 0, none⟩) (sizeL [b]) (sizeL [b]))).heap.size = wr.heap.size := by simp [World.setCell]
        have hnew := Blk.new (wr.setCell ⟨w6.heap.size, i, none⟩ (.slice (some ⟨wr.heap.size, 0, none⟩) (sizeL [b]) (sizeL [b]))) csB 4
        rw [hz] at hnew
        have hbs : Below w6.heap.size w6 (wr.setCell ⟨w6.heap.size, i, none⟩ (.slice (some ⟨wr.heap.size, 0, none⟩) (sizeL [b]) (sizeL [b]))) := HB7.out.setCell (by simp) _
        refine ⟨sizeL [b], Nat.le_refl _, rfl, hbs.alloc hbs.size _, hnew.lt, ⟨_, by simp [hcs], hset⟩, ⟨csB, hcsB, hnew⟩, fun j y hj hy => ?_, ?_, fun q y hq hy => ?_⟩
        · obtain ⟨b', c', hbb, e1, e2⟩ := HTF.out j y (by omega) hy
          refine ⟨b', c', hbb, ?_, fun q z hz' => ?_⟩
          · refine (cell_alloc (w := wr.setCell ⟨w6.heap.size, i, none⟩ _) ?_ _)
            exact cell_other (Or.inr (by omega)) e1
          · refine (cell_alloc (w := wr.setCell ⟨w6.heap.size, i, none⟩ _) ?_ _)
            exact cell_other (Or.inl (by omega)) (e2 q z hz')
        · have hlt : i < cs.size := by omega
          rw [hset.cell, Array.getElem?_setIfInBounds]
          simp [hlt]
        · rw [List.getElem?_eq_none (by omega)] at hy; cases hy
      have hbt : w6.heap.size < wr.heap.size := hgl
      generalize hbtg : wr.heap.size = bt at *
      generalize (wr.setCell ⟨w6.heap.size, i, none⟩ (.slice (some ⟨bt, 0, none⟩) (sizeL [b]) (sizeL [b]))).alloc (.cells csB 4) = w8 at *
      clear q0 qf q1 qg hv0 HTF HB7 HBLK hcs hbtg hgl
      go_loopw [13] (fun k wr => IInv row a b x w6 i bt k wr) (fun k wr => (intOf k + 1).toNat)
      case atStart => exact I0.out
      case round =>
        clear I0
        obtain ⟨r, hr, rfl, hb, hbl, ⟨cs1, hcs1, hblk1⟩, ⟨cs2, hcs2, hblk2⟩, hTF, hrow, hfil⟩ := hrel
        have HB8 := hide hb
        have HBLK1 := hide hblk1
        have HBLK2 := hide hblk2
        have HTF := hide hTF
        have HFIL := hide hfil
        clear hb hTF hfil
        cases r with
        | zero =>
          go_wp2_with fail
          go_roundw
          case rel =>
            refine ⟨i, by omega, rfl, HB8.out, ⟨cs1, hcs1, HBLK1.out⟩, fun j y hj hy => ?_⟩
            by_cases hji : j = i
            · subst hji
              have e : y = x := by have h := HX.out; rw [hy] at h; cases h; rfl
              subst e
              exact ⟨bt, _, ⟨hbt, hbl⟩, hrow, fun q z hz => HFIL.out q z (Nat.zero_le _) hz⟩
            · obtain ⟨b', c', hbb, e1, e2⟩ := HTF.out j y (by omega) hy
              exact ⟨b', c', ⟨hbb.1, by omega⟩, e1, e2⟩
          case measure => simp only [intOf]; omega
        | succ k =>
          have ek : (((k + 1 : Nat) : Int) - 1) = (k : Int) := by omega
          rw [ek]
          clear ek
          have hki : (k : Int) < (sizeL [b] : Int) := by omega
          obtain ⟨y, hy⟩ : ∃ y, (preL [b])[k]? = some y := ⟨_, List.getElem?_eq_getElem (by omega)⟩
          have HY := hide hy
          clear hy
          have hck : ∃ v, cs2[k]? = some v := ⟨_, Array.getElem?_eq_getElem (by omega)⟩
          obtain ⟨v1, hv1⟩ := hck
          have HTAB : Hid (TabR row a b wr w6.heap.size i k) := fun j z hj hz => by
            by_cases hji : j = i
            · subst hji
              have e : z = x := by have h := HX.out; rw [hz] at h; cases h; rfl
              subst e
              exact ⟨bt, _, hrow, fun q z' hq hz' => HFIL.out q z' (by omega) hz'⟩
            · obtain ⟨b', c', _, e1, e2⟩ := HTF.out j z (by omega) hz
              exact ⟨b', c', e1, fun q z' _ hz' => e2 q z' hz'⟩
          have HROW := hide hrow
          have HS0 : Hid (Below wr.heap.size wr wr.drew) := below_drewN (Below.refl _ _) 1
          clear hblk1 hblk2 hrow
          have HCALL : Hid (∀ w', Below wr.heap.size wr w' → Calls Try.prog 39 #[u, .slice (some ⟨gx, 0, none⟩) (sizeL [a]) cx, .slice (some ⟨gy, 0, none⟩) (sizeL [b]) cy, ve, vf, .slice (some ⟨w6.heap.size, 0, none⟩) (sizeL [a]) (sizeL [a]), .int .i64 (i : Int), .int .i64 (k : Int)] w' fun e w'' => e = .returned (.bool (pathB row x y)) ∧ Below w'.heap.size w' w'') := fun w' hb' => by
            have hb6' : Below w6.heap.size w6 w' := HB8.out.trans (hb'.mono HB8.out.size)
            refine pathStep_any row hrl a b x y za zb i k HX.out HY.out u ve vf gx cx gy cy w6.heap.size (sizeL [a]) w' (fun _ => True) (U6.out.later hb6') (KX6.out.later hb6') (KY6.out.later hb6') (E6.out.later hb6') (F6.out.later hb6') fun j z hj hz => ?_
            obtain ⟨b', c', e1, e2⟩ := HTAB.out j z hj hz
            exact ⟨b', c', bcell1 hb' e1, fun q z' hq hz' => bcell1 hb' (e2 q z' hq hz')⟩
          go_wp2_with fail
          refine wp_region_held_drew (S := fun w' => w'.cell? ⟨w6.heap.size, i, none⟩ = some (.slice (some ⟨bt, 0, none⟩) (sizeL [b]) (sizeL [b]))) (by kernel_rfl) HROW.out (fun hHeld => ?_)
          refine wpAnyH_take (i := 0) (v := ?_) rfl (by kernel_rfl) (by kernel_rfl) (by kernel_rfl) (fun _ _ _ h => h) (Or.inl ⟨by rfl, ?_⟩) (by assumption) ?_
          rotate_left
          · intro w' hSw
            have t0 := hSw
            go_simp <;> with_reducible rfl
          try simp only [Act.put, List.setIfInBounds_toArray, List.set_cons_zero, List.set_cons_succ, List.getElem_toArray, List.getElem_cons_succ, List.getElem_cons_zero]
          refine wpAnyH_take (i := 1) (v := ?_) rfl (by kernel_rfl) (by kernel_rfl) (by kernel_rfl) (fun _ _ _ h => h) (Or.inl ⟨by rfl, ?_⟩) (by assumption) ?_
          rotate_left
          · intro w' hSw
            have t0 := hSw
            go_simp <;> with_reducible rfl
          try simp only [Act.put, List.setIfInBounds_toArray, List.set_cons_zero, List.set_cons_succ, List.getElem_toArray, List.getElem_cons_succ, List.getElem_cons_zero]
          refine wpAnyH_take (i := 2) (v := ?_) rfl (by kernel_rfl) (by kernel_rfl) (by kernel_rfl) (fun _ _ _ h => h) (Or.inl ⟨by rfl, ?_⟩) (by assumption) ?_
          rotate_left
          · intro w' hSw
            have t0 := hSw
            go_simp <;> with_reducible rfl
          try simp only [Act.put, List.setIfInBounds_toArray, List.set_cons_zero, List.set_cons_succ, List.getElem_toArray, List.getElem_cons_succ, List.getElem_cons_zero]
          refine wpAnyH_take (i := 3) (v := ?_) rfl (by kernel_rfl) (by kernel_rfl) (by kernel_rfl) (fun _ _ _ h => h) (Or.inl ⟨by rfl, ?_⟩) (by assumption) ?_
          rotate_left
          · intro w' hSw
            have t0 := hSw
            go_simp <;> with_reducible rfl
          try simp only [Act.put, List.setIfInBounds_toArray, List.set_cons_zero, List.set_cons_succ, List.getElem_toArray, List.getElem_cons_succ, List.getElem_cons_zero]
          refine wpAnyH_take (i := 4) (v := ?_) rfl (by kernel_rfl) (by kernel_rfl) (by kernel_rfl) (fun _ _ _ h => h) (Or.inl ⟨by rfl, ?_⟩) (by assumption) ?_
          rotate_left
          · intro w' hSw
            have t0 := hSw
            go_simp <;> with_reducible rfl
          try simp only [Act.put, List.setIfInBounds_toArray, List.set_cons_zero, List.set_cons_succ, List.getElem_toArray, List.getElem_cons_succ, List.getElem_cons_zero]
          refine wpAnyH_take (i := 5) (v := ?_) rfl (by kernel_rfl) (by kernel_rfl) (by kernel_rfl) (fun _ _ _ h => h) (Or.inl ⟨by rfl, ?_⟩) (by assumption) ?_
          rotate_left
          · intro w' hSw
            have t0 := hSw
            go_simp <;> with_reducible rfl
          try simp only [Act.put, List.setIfInBounds_toArray, List.set_cons_zero, List.set_cons_succ, List.getElem_toArray, List.getElem_cons_succ, List.getElem_cons_zero]
          refine wpAnyH_take (i := 6) (v := ?_) rfl (by kernel_rfl) (by kernel_rfl) (by kernel_rfl) (fun _ _ _ h => h) (Or.inl ⟨by rfl, ?_⟩) (by assumption) ?_
          rotate_left
          · intro w' hSw
            have t0 := hSw
            go_simp <;> with_reducible rfl
          try simp only [Act.put, List.setIfInBounds_toArray, List.set_cons_zero, List.set_cons_succ, List.getElem_toArray, List.getElem_cons_succ, List.getElem_cons_zero]
          refine wpAnyH_take (i := 7) (v := ?_) rfl (by kernel_rfl) (by kernel_rfl) (by kernel_rfl) (fun _ _ _ h => h) (Or.inl ⟨by rfl, ?_⟩) (by assumption) ?_
          rotate_left
          · intro w' hSw
            have t0 := hSw
            go_simp <;> with_reducible rfl
          try simp only [Act.put, List.setIfInBounds_toArray, List.set_cons_zero, List.set_cons_succ, List.getElem_toArray, List.getElem_cons_succ, List.getElem_cons_zero]
          refine wpAnyH_take (i := 8) (v := ?_) rfl (by kernel_rfl) (by kernel_rfl) (by kernel_rfl) (fun _ _ _ h => h) (Or.inl ⟨by rfl, ?_⟩) (by assumption) ?_
          rotate_left
          · intro w' hSw
            have t0 := hSw
            go_simp <;> with_reducible rfl
          try simp only [Act.put, List.setIfInBounds_toArray, List.set_cons_zero, List.set_cons_succ, List.getElem_toArray, List.getElem_cons_succ, List.getElem_cons_zero]
          refine wpAnyH_take (i := 9) (v := ?_) rfl (by kernel_rfl) (by kernel_rfl) (by kernel_rfl) (fun _ _ _ h => h) (Or.inl ⟨by rfl, ?_⟩) (by assumption) ?_
          rotate_left
          · intro w' hSw
            have t0 := hSw
            go_simp <;> with_reducible rfl
          try simp only [Act.put, List.setIfInBounds_toArray, List.set_cons_zero, List.set_cons_succ, List.getElem_toArray, List.getElem_cons_succ, List.getElem_cons_zero]
          refine wpAnyH_take (i := 10) (v := ?_) rfl (by kernel_rfl) (by kernel_rfl) (by kernel_rfl) (fun _ _ _ h => h) (Or.inl ⟨by rfl, ?_⟩) (by assumption) ?_
          rotate_left
          · intro w' hSw
            have t0 := hSw
            go_simp <;> with_reducible rfl
          try simp only [Act.put, List.setIfInBounds_toArray, List.set_cons_zero, List.set_cons_succ, List.getElem_toArray, List.getElem_cons_succ, List.getElem_cons_zero]
          refine wpAnyH_take (i := 11) (v := ?_) rfl (by kernel_rfl) (by kernel_rfl) (by kernel_rfl) (fun _ _ _ h => h) (Or.inl ⟨by rfl, ?_⟩) (by assumption) ?_
          rotate_left
          · intro w' hSw
            have t0 := hSw
            go_simp <;> with_reducible rfl
          try simp only [Act.put, List.setIfInBounds_toArray, List.set_cons_zero, List.set_cons_succ, List.getElem_toArray, List.getElem_cons_succ, List.getElem_cons_zero]
          refine wpAnyH_take (i := 12) (v := ?_) rfl (by kernel_rfl) (by kernel_rfl) (by kernel_rfl) (fun _ _ _ h => h) (Or.inl ⟨by rfl, ?_⟩) (by assumption) ?_
          rotate_left
          · intro w' hSw
            have t0 := hSw
            go_simp <;> with_reducible rfl
          try simp only [Act.put, List.setIfInBounds_toArray, List.set_cons_zero, List.set_cons_succ, List.getElem_toArray, List.getElem_cons_succ, List.getElem_cons_zero]

          refine wpAnyH_ready (rs := [13]) (by kernel_rfl) (by simp) ?_
          refine AllReadyH.cons rfl (fun K hK => ?_) AllReadyH.nil
          go_simp
          go_at_call 39
          refine (HCALL.out _ HS0.out).mono ?_
          rintro e w9 ⟨rfl, hb9⟩
          have H9 := hide (HS0.out.trans (hb9.mono HS0.out.size))
          clear hb9
          go_simp
          refine hK.out _ _ (by exact bcell1 H9.out HROW.out) (fun hHeld => ?_)
          clear hK K
          try simp only [Act.put, List.setIfInBounds_toArray, List.set_cons_zero, List.set_cons_succ, List.getElem_toArray, List.getElem_cons_succ, List.getElem_cons_zero]
          refine wpAnyH_take (i := 14) (v := ?_) rfl (by kernel_rfl) (by kernel_rfl) (by kernel_rfl) (fun _ _ _ h => h) (Or.inl ⟨by rfl, ?_⟩) (by assumption) ?_
          rotate_left
          · intro w' hSw
            have t0 := hSw
            go_simp <;> with_reducible rfl
          try simp only [Act.put, List.setIfInBounds_toArray, List.set_cons_zero, List.set_cons_succ, List.getElem_toArray, List.getElem_cons_succ, List.getElem_cons_zero]
          have K9 := HBLK2.out.below H9.out HBLK2.out.lt
          have z0 : w9.cell? ⟨bt, k, none⟩ = some v1 := (K9.cell k).trans hv1
          have zf := K9.frozen k
          refine wpAnyH_ready (rs := [15]) (by kernel_rfl) (by simp) ?_
          refine AllReadyH.cons rfl (fun K hK => ?_) AllReadyH.nil
          go_simp
          refine hK.out _ _ (by exact cell_other (Or.inl (by omega)) (bcell1 H9.out HROW.out)) (fun hHeld => ?_)
          clear hK K
          try simp only [Act.put, List.setIfInBounds_toArray, List.set_cons_zero, List.set_cons_succ, List.getElem_toArray, List.getElem_cons_succ, List.getElem_cons_zero]
          refine wpAnyH_done (by kernel_rfl) ?_ _
          have HREL : Hid (IInv row a b x w6 i bt (.int .i64 ((k : Int) - 1)) (w9.setCell ⟨bt, k, none⟩ (.bool (pathB row x y)))) := by
            have hb69 := HB8.out.trans (H9.out.mono HB8.out.size)
            have k1 := (HBLK1.out.below H9.out HBLK1.out.lt).setOther k (.bool (pathB row x y)) (b' := bt) (by omega)
            have k2 := K9.set k (.bool (pathB row x y))
            refine ⟨k, by omega, rfl, hb69.setCell (by simp; omega) _, by have := k2.lt; exact this, ⟨cs1, hcs1, k1⟩, ⟨_, by simp [hcs2], k2⟩, fun j z hj hz => ?_, ?_, fun q z hq hz => ?_⟩
            · obtain ⟨b', c', hbb, e1, e2⟩ := HTF.out j z hj hz
              exact ⟨b', c', hbb, cell_other (Or.inl (by omega)) (bcell1 H9.out e1), fun q z' hz' => cell_other (Or.inl (by omega)) (bcell1 H9.out (e2 q z' hz'))⟩
            · exact cell_other (Or.inl (by omega)) (bcell1 H9.out HROW.out)
            · by_cases hqk : q = k
              · subst hqk
                have e : z = y := by have h := HY.out; rw [hz] at h; cases h; rfl
                subst e
                have hlt : q < cs2.size := by omega
                rw [k2.cell, Array.getElem?_setIfInBounds]
                simp [hlt]
              · exact cell_other (Or.inr hqk) (bcell1 H9.out (HFIL.out q z (by omega) hz))
          go_wp2_with fail
          go_roundw
          case rel => exact HREL.out
          case measure => simp only [intOf]; omega
#print axioms pathOf_any
end Go.Proofs.Ytpbnbkeoiojpaac

/- Walks: the law on orders. -/
namespace Go.Proofs.Ytpbnbkeoiojpaac
open Go.RowKit
set_option linter.unusedSimpArgs false
set_option linter.unusedVariables false
set_option maxRecDepth 8000

set_option maxHeartbeats 4000000 in
theorem orderSays_any (row : List ByteArray) (a b : Tm) (u va vb : Value) (w : World) (X : Nat → Prop) (hu : LV Value.string w X u row) (ha : TV w X va a) (hb : TV w X vb b) :
    Calls Try.prog 3 #[u, va, vb] w fun e w' => e = .returned (.bool true) ∧ Below w.heap.size w w' := by
  have HA := hide ha
  have HB := hide hb
  have HU := hide hu
  obtain ⟨aa, ca, rfl, hsa⟩ := ha
  obtain ⟨ab, cb, rfl, hsb⟩ := hb
  obtain ⟨au, cu, rfl, ⟨hul, _⟩, _⟩ := hu
  clear hsa hsb
  have A2 := hide (TwW.start a b aa ca ab cb w)
  go_enter Try.func3, Try.ntmps3
  by_cases h100 : 100 < row.length
  · have h100i : (100 : Int) < (row.length : Int) := by omega
    go_wp2_with fail
    go_ret
    exact ⟨rfl, A2.out.bl⟩
  · have h100i : ¬ (100 : Int) < (row.length : Int) := by omega
    have hrl : row.length ≤ 1000 := by omega
    go_wp2_with fail
    generalize ((w.alloc (.cells #[.string a.name, .slice aa a.args.length ca] 25)).alloc (.cells #[.string b.name, .slice ab b.args.length cb] 25)) = w2 at *
    refine (huge_any a _ _ X (by exact HA.out.later A2.out.bl)).mono ?_
    rintro e w3 ⟨rfl, hb3⟩
    have A3 := hide (A2.out.later hb3)
    clear hb3 A2
    have r0 : w3.cell? ⟨w.heap.size, 0, none⟩ = some (.string a.name) := A3.out.k1.cell 0
    have r1 : w3.cell? ⟨w.heap.size, 1, none⟩ = some (.slice aa a.args.length ca) := A3.out.k1.cell 1
    have s0 : w3.cell? ⟨w.heap.size + 1, 0, none⟩ = some (.string b.name) := A3.out.k2.cell 0
    have s1 : w3.cell? ⟨w.heap.size + 1, 1, none⟩ = some (.slice ab b.args.length cb) := A3.out.k2.cell 1
    by_cases g1 : 3000 < sizeL [a]
    · have g1d : decide (3000 < sizeL [a]) = true := by simpa using g1
      rw [g1d]
      go_wp2_with fail
      go_ret
      exact ⟨rfl, A3.out.bl⟩
    · have g1d : decide (3000 < sizeL [a]) = false := by simpa using g1
      rw [g1d]
      clear g1d
      go_wp2_with fail
      refine (huge_any b _ _ X (by exact HB.out.later A3.out.bl)).mono ?_
      rintro e w4 ⟨rfl, hbw4⟩
      have A4 := hide (A3.out.later hbw4)
      clear hbw4 A3
      clear r0 r1 s0 s1
      have r0 : w4.cell? ⟨w.heap.size, 0, none⟩ = some (.string a.name) := A4.out.k1.cell 0
      have r1 : w4.cell? ⟨w.heap.size, 1, none⟩ = some (.slice aa a.args.length ca) := A4.out.k1.cell 1
      have s0 : w4.cell? ⟨w.heap.size + 1, 0, none⟩ = some (.string b.name) := A4.out.k2.cell 0
      have s1 : w4.cell? ⟨w.heap.size + 1, 1, none⟩ = some (.slice ab b.args.length cb) := A4.out.k2.cell 1

      by_cases g2 : 3000 < sizeL [b]
      · have g2d : decide (3000 < sizeL [b]) = true := by simpa using g2
        rw [g2d]
        go_wp2_with fail
        go_ret
        exact ⟨rfl, A4.out.bl⟩
      · have g2d : decide (3000 < sizeL [b]) = false := by simpa using g2
        rw [g2d]
        clear g2d
        go_wp2_with fail
        refine (rowMay_any row _ _ X (by exact HU.out.later A4.out.bl)).mono ?_
        rintro e w5 ⟨rfl, hbw5⟩
        have A5 := hide (A4.out.later hbw5)
        clear hbw5 A4
        clear r0 r1 s0 s1
        have r0 : w5.cell? ⟨w.heap.size, 0, none⟩ = some (.string a.name) := A5.out.k1.cell 0
        have r1 : w5.cell? ⟨w.heap.size, 1, none⟩ = some (.slice aa a.args.length ca) := A5.out.k1.cell 1
        have s0 : w5.cell? ⟨w.heap.size + 1, 0, none⟩ = some (.string b.name) := A5.out.k2.cell 0
        have s1 : w5.cell? ⟨w.heap.size + 1, 1, none⟩ = some (.slice ab b.args.length cb) := A5.out.k2.cell 1

        by_cases h0 : rowE row = 0
        · have HE : Hid (ordE row a b = twoE a b) := by unfold Hid ordE; rw [if_pos h0]
          rw [h0]
          go_wp2_with fail
          refine (twoMay_any a b _ _ _ X (by exact HA.out.later A5.out.bl) (by exact HB.out.later A5.out.bl)).mono ?_
          rintro e w6 ⟨rfl, hbw6⟩
          have A6 := hide (A5.out.later hbw6)
          clear hbw6 A5
          clear r0 r1 s0 s1
          have r0 : w6.cell? ⟨w.heap.size, 0, none⟩ = some (.string a.name) := A6.out.k1.cell 0
          have r1 : w6.cell? ⟨w.heap.size, 1, none⟩ = some (.slice aa a.args.length ca) := A6.out.k1.cell 1
          have s0 : w6.cell? ⟨w.heap.size + 1, 0, none⟩ = some (.string b.name) := A6.out.k2.cell 0
          have s1 : w6.cell? ⟨w.heap.size + 1, 1, none⟩ = some (.slice ab b.args.length cb) := A6.out.k2.cell 1

          by_cases h1 : twoE a b = 0
          · have HO : Hid (ordE row a b = 0) := by unfold Hid; rw [HE.out, h1]
            rw [h1]
            go_wp2_with fail
            refine (size_any a _ 60 _ X (by exact HA.out.later A6.out.bl) (by decide) (by decide)).mono ?_
            rintro e w7 ⟨rfl, hbw7⟩
            have A7 := hide (A6.out.later hbw7)
            clear hbw7 A6
            clear r0 r1 s0 s1
            have r0 : w7.cell? ⟨w.heap.size, 0, none⟩ = some (.string a.name) := A7.out.k1.cell 0
            have r1 : w7.cell? ⟨w.heap.size, 1, none⟩ = some (.slice aa a.args.length ca) := A7.out.k1.cell 1
            have s0 : w7.cell? ⟨w.heap.size + 1, 0, none⟩ = some (.string b.name) := A7.out.k2.cell 0
            have s1 : w7.cell? ⟨w.heap.size + 1, 1, none⟩ = some (.slice ab b.args.length cb) := A7.out.k2.cell 1

            by_cases z1 : 60 < sizeL [a]
            · have e1 : min ((sizeL [a] : Nat) : Int) (60 + 1) = 61 := by omega
              rw [e1]
              go_wp2_with fail
              go_ret
              exact ⟨rfl, A7.out.bl⟩
            · have e1 : min ((sizeL [a] : Nat) : Int) (60 + 1) = (sizeL [a] : Int) := by omega
              have e1' : ¬ (60 : Int) < (sizeL [a] : Int) := by omega
              rw [e1]
              clear e1
              go_wp2_with fail
              refine (size_any b _ 60 _ X (by exact HB.out.later A7.out.bl) (by decide) (by decide)).mono ?_
              rintro e w8 ⟨rfl, hbw8⟩
              have A8 := hide (A7.out.later hbw8)
              clear hbw8 A7
              clear r0 r1 s0 s1
              have r0 : w8.cell? ⟨w.heap.size, 0, none⟩ = some (.string a.name) := A8.out.k1.cell 0
              have r1 : w8.cell? ⟨w.heap.size, 1, none⟩ = some (.slice aa a.args.length ca) := A8.out.k1.cell 1
              have s0 : w8.cell? ⟨w.heap.size + 1, 0, none⟩ = some (.string b.name) := A8.out.k2.cell 0
              have s1 : w8.cell? ⟨w.heap.size + 1, 1, none⟩ = some (.slice ab b.args.length cb) := A8.out.k2.cell 1

              by_cases z2 : 60 < sizeL [b]
              · have e2 : min ((sizeL [b] : Nat) : Int) (60 + 1) = 61 := by omega
                rw [e2]
                go_wp2_with fail
                go_ret
                exact ⟨rfl, A8.out.bl⟩
              · have e2 : min ((sizeL [b] : Nat) : Int) (60 + 1) = (sizeL [b] : Int) := by omega
                have e2' : ¬ (60 : Int) < (sizeL [b] : Int) := by omega
                rw [e2]
                clear e2
                go_wp2_with fail
                refine (pathOf_any row hrl a b (by omega) (by omega) _ _ _ _ X (by exact HU.out.later A8.out.bl) (by exact HA.out.later A8.out.bl) (by exact HB.out.later A8.out.bl)).mono ?_
                rintro e w9 ⟨rfl, hbw9⟩
                have A9 := hide (A8.out.later hbw9)
                clear hbw9 A8
                clear r0 r1 s0 s1
                have r0 : w9.cell? ⟨w.heap.size, 0, none⟩ = some (.string a.name) := A9.out.k1.cell 0
                have r1 : w9.cell? ⟨w.heap.size, 1, none⟩ = some (.slice aa a.args.length ca) := A9.out.k1.cell 1
                have s0 : w9.cell? ⟨w.heap.size + 1, 0, none⟩ = some (.string b.name) := A9.out.k2.cell 0
                have s1 : w9.cell? ⟨w.heap.size + 1, 1, none⟩ = some (.slice ab b.args.length cb) := A9.out.k2.cell 1
                go_wp2_with fail
                refine (weightOf_any row hrl (sizeL [a]) a b _ _ _ _ X (Nat.le_refl _) (by omega) (by omega) (by exact HU.out.later A9.out.bl) (by exact HA.out.later A9.out.bl) (by exact HB.out.later A9.out.bl)).mono ?_
                rintro e wA ⟨rfl, hbwA⟩
                have AA := hide (A9.out.later hbwA)
                clear hbwA A9
                clear r0 r1 s0 s1
                have r0 : wA.cell? ⟨w.heap.size, 0, none⟩ = some (.string a.name) := AA.out.k1.cell 0
                have r1 : wA.cell? ⟨w.heap.size, 1, none⟩ = some (.slice aa a.args.length ca) := AA.out.k1.cell 1
                have s0 : wA.cell? ⟨w.heap.size + 1, 0, none⟩ = some (.string b.name) := AA.out.k2.cell 0
                have s1 : wA.cell? ⟨w.heap.size + 1, 1, none⟩ = some (.slice ab b.args.length cb) := AA.out.k2.cell 1
                have P1 : Hid ((decide (ordE row a b = 0) && pathB row a b) = pathB row a b) := by unfold Hid; rw [HO.out]; simp
                have P2 : Hid ((decide (ordE row a b = 0) && weightB row a b) = weightB row a b) := by unfold Hid; rw [HO.out]; simp
                go_wp2_with fail
                refine (oPath_any row a b _ _ _ _ X (by exact HU.out.later AA.out.bl) (by exact HA.out.later AA.out.bl) (by exact HB.out.later AA.out.bl)).mono ?_
                rintro e wp ⟨rfl, hbwp⟩
                have Ap := hide (AA.out.later hbwp)
                clear hbwp AA
                clear r0 r1 s0 s1
                have r0 : wp.cell? ⟨w.heap.size, 0, none⟩ = some (.string a.name) := Ap.out.k1.cell 0
                have r1 : wp.cell? ⟨w.heap.size, 1, none⟩ = some (.slice aa a.args.length ca) := Ap.out.k1.cell 1
                have s0 : wp.cell? ⟨w.heap.size + 1, 0, none⟩ = some (.string b.name) := Ap.out.k2.cell 0
                have s1 : wp.cell? ⟨w.heap.size + 1, 1, none⟩ = some (.slice ab b.args.length cb) := Ap.out.k2.cell 1
                rw [P1.out, HO.out]
                go_wp2_with fail
                refine (oWeight_any row a b _ _ _ _ X (by exact HU.out.later Ap.out.bl) (by exact HA.out.later Ap.out.bl) (by exact HB.out.later Ap.out.bl)).mono ?_
                rintro e wq ⟨rfl, hbwq⟩
                have Aq := hide (Ap.out.later hbwq)
                clear hbwq Ap
                clear r0 r1 s0 s1
                have r0 : wq.cell? ⟨w.heap.size, 0, none⟩ = some (.string a.name) := Aq.out.k1.cell 0
                have r1 : wq.cell? ⟨w.heap.size, 1, none⟩ = some (.slice aa a.args.length ca) := Aq.out.k1.cell 1
                have s0 : wq.cell? ⟨w.heap.size + 1, 0, none⟩ = some (.string b.name) := Aq.out.k2.cell 0
                have s1 : wq.cell? ⟨w.heap.size + 1, 1, none⟩ = some (.slice ab b.args.length cb) := Aq.out.k2.cell 1
                rw [P2.out, HO.out]
                go_wp2_with fail
                refine (oCheck_any row _ _ X (by exact HU.out.later Aq.out.bl)).mono ?_
                rintro e wr ⟨rfl, hbwr⟩
                have Ar := hide (Aq.out.later hbwr)
                clear hbwr Aq
                clear r0 r1 s0 s1
                have r0 : wr.cell? ⟨w.heap.size, 0, none⟩ = some (.string a.name) := Ar.out.k1.cell 0
                have r1 : wr.cell? ⟨w.heap.size, 1, none⟩ = some (.slice aa a.args.length ca) := Ar.out.k1.cell 1
                have s0 : wr.cell? ⟨w.heap.size + 1, 0, none⟩ = some (.string b.name) := Ar.out.k2.cell 0
                have s1 : wr.cell? ⟨w.heap.size + 1, 1, none⟩ = some (.slice ab b.args.length cb) := Ar.out.k2.cell 1
                rw [h0]
                generalize pathB row a b = y1 at *
                generalize weightB row a b = y2 at *
                cases y1 <;> cases y2 <;>
                · go_wp2_with fail
                  go_ret
                  exact ⟨rfl, Ar.out.bl⟩
          · have h1' : (twoE a b == 0) = false := by simpa using h1
            have P1 : Hid ((decide (ordE row a b = 0) && pathB row a b) = false) := by unfold Hid; rw [HE.out]; simp [h1]
            have P2 : Hid ((decide (ordE row a b = 0) && weightB row a b) = false) := by unfold Hid; rw [HE.out]; simp [h1]
            go_wp2_with fail
            refine (oPath_any row a b _ _ _ _ X (by exact HU.out.later A6.out.bl) (by exact HA.out.later A6.out.bl) (by exact HB.out.later A6.out.bl)).mono ?_
            rintro e wp ⟨rfl, hbwp⟩
            have Ap := hide (A6.out.later hbwp)
            clear hbwp A6
            clear r0 r1 s0 s1
            have r0 : wp.cell? ⟨w.heap.size, 0, none⟩ = some (.string a.name) := Ap.out.k1.cell 0
            have r1 : wp.cell? ⟨w.heap.size, 1, none⟩ = some (.slice aa a.args.length ca) := Ap.out.k1.cell 1
            have s0 : wp.cell? ⟨w.heap.size + 1, 0, none⟩ = some (.string b.name) := Ap.out.k2.cell 0
            have s1 : wp.cell? ⟨w.heap.size + 1, 1, none⟩ = some (.slice ab b.args.length cb) := Ap.out.k2.cell 1
            rw [P1.out, HE.out]
            go_wp2_with fail
            refine (oWeight_any row a b _ _ _ _ X (by exact HU.out.later Ap.out.bl) (by exact HA.out.later Ap.out.bl) (by exact HB.out.later Ap.out.bl)).mono ?_
            rintro e wq ⟨rfl, hbwq⟩
            have Aq := hide (Ap.out.later hbwq)
            clear hbwq Ap
            clear r0 r1 s0 s1
            have r0 : wq.cell? ⟨w.heap.size, 0, none⟩ = some (.string a.name) := Aq.out.k1.cell 0
            have r1 : wq.cell? ⟨w.heap.size, 1, none⟩ = some (.slice aa a.args.length ca) := Aq.out.k1.cell 1
            have s0 : wq.cell? ⟨w.heap.size + 1, 0, none⟩ = some (.string b.name) := Aq.out.k2.cell 0
            have s1 : wq.cell? ⟨w.heap.size + 1, 1, none⟩ = some (.slice ab b.args.length cb) := Aq.out.k2.cell 1
            rw [P2.out, HE.out]
            go_wp2_with fail
            refine (oCheck_any row _ _ X (by exact HU.out.later Aq.out.bl)).mono ?_
            rintro e wr ⟨rfl, hbwr⟩
            have Ar := hide (Aq.out.later hbwr)
            clear hbwr Aq
            clear r0 r1 s0 s1
            have r0 : wr.cell? ⟨w.heap.size, 0, none⟩ = some (.string a.name) := Ar.out.k1.cell 0
            have r1 : wr.cell? ⟨w.heap.size, 1, none⟩ = some (.slice aa a.args.length ca) := Ar.out.k1.cell 1
            have s0 : wr.cell? ⟨w.heap.size + 1, 0, none⟩ = some (.string b.name) := Ar.out.k2.cell 0
            have s1 : wr.cell? ⟨w.heap.size + 1, 1, none⟩ = some (.slice ab b.args.length cb) := Ar.out.k2.cell 1
            rw [h0]
            go_wp2_with fail
            go_ret
            exact ⟨rfl, Ar.out.bl⟩
        · have h0' : (rowE row == 0) = false := by simpa using h0
          have HE : Hid (ordE row a b = rowE row) := by unfold Hid ordE; rw [if_neg h0]
          have P1 : Hid ((decide (ordE row a b = 0) && pathB row a b) = false) := by unfold Hid; rw [HE.out]; simp [h0]
          have P2 : Hid ((decide (ordE row a b = 0) && weightB row a b) = false) := by unfold Hid; rw [HE.out]; simp [h0]
          go_wp2_with fail
          refine (oPath_any row a b _ _ _ _ X (by exact HU.out.later A5.out.bl) (by exact HA.out.later A5.out.bl) (by exact HB.out.later A5.out.bl)).mono ?_
          rintro e wp ⟨rfl, hbwp⟩
          have Ap := hide (A5.out.later hbwp)
          clear hbwp A5
          clear r0 r1 s0 s1
          have r0 : wp.cell? ⟨w.heap.size, 0, none⟩ = some (.string a.name) := Ap.out.k1.cell 0
          have r1 : wp.cell? ⟨w.heap.size, 1, none⟩ = some (.slice aa a.args.length ca) := Ap.out.k1.cell 1
          have s0 : wp.cell? ⟨w.heap.size + 1, 0, none⟩ = some (.string b.name) := Ap.out.k2.cell 0
          have s1 : wp.cell? ⟨w.heap.size + 1, 1, none⟩ = some (.slice ab b.args.length cb) := Ap.out.k2.cell 1
          rw [P1.out, HE.out]
          go_wp2_with fail
          refine (oWeight_any row a b _ _ _ _ X (by exact HU.out.later Ap.out.bl) (by exact HA.out.later Ap.out.bl) (by exact HB.out.later Ap.out.bl)).mono ?_
          rintro e wq ⟨rfl, hbwq⟩
          have Aq := hide (Ap.out.later hbwq)
          clear hbwq Ap
          clear r0 r1 s0 s1
          have r0 : wq.cell? ⟨w.heap.size, 0, none⟩ = some (.string a.name) := Aq.out.k1.cell 0
          have r1 : wq.cell? ⟨w.heap.size, 1, none⟩ = some (.slice aa a.args.length ca) := Aq.out.k1.cell 1
          have s0 : wq.cell? ⟨w.heap.size + 1, 0, none⟩ = some (.string b.name) := Aq.out.k2.cell 0
          have s1 : wq.cell? ⟨w.heap.size + 1, 1, none⟩ = some (.slice ab b.args.length cb) := Aq.out.k2.cell 1
          rw [P2.out, HE.out]
          go_wp2_with fail
          refine (oCheck_any row _ _ X (by exact HU.out.later Aq.out.bl)).mono ?_
          rintro e wr ⟨rfl, hbwr⟩
          have Ar := hide (Aq.out.later hbwr)
          clear hbwr Aq
          clear r0 r1 s0 s1
          have r0 : wr.cell? ⟨w.heap.size, 0, none⟩ = some (.string a.name) := Ar.out.k1.cell 0
          have r1 : wr.cell? ⟨w.heap.size, 1, none⟩ = some (.slice aa a.args.length ca) := Ar.out.k1.cell 1
          have s0 : wr.cell? ⟨w.heap.size + 1, 0, none⟩ = some (.string b.name) := Ar.out.k2.cell 0
          have s1 : wr.cell? ⟨w.heap.size + 1, 1, none⟩ = some (.slice ab b.args.length cb) := Ar.out.k2.cell 1
          go_wp2_with fail
          go_ret
          exact ⟨rfl, Ar.out.bl⟩
#print axioms orderSays_any
end Go.Proofs.Ytpbnbkeoiojpaac

/- Walks: numbers out of raw numbers. -/
namespace Go.Proofs.Ytpbnbkeoiojpaac
open Go.RowKit
set_option linter.unusedSimpArgs false
set_option linter.unusedVariables false
set_option maxRecDepth 8000

theorem mod_nat {x : Int} (hx : 0 ≤ x) {n : Nat} (hn : 0 < n) : ∃ k : Nat, x % (n : Int) = k ∧ k < n := by
  have h1 := Int.emod_nonneg x (b := (n : Int)) (by omega)
  have h2 := Int.emod_lt_of_pos x (b := (n : Int)) (by omega)
  exact ⟨(x % (n : Int)).toNat, by omega, by omega⟩

theorem pick_any (c : Int) (n : Nat) (hn : 0 < n) (hn2 : n ≤ 2000000) (hc : -9223372036854775808 ≤ c ∧ c ≤ 9223372036854775807) (w : World) :
    Calls Try.prog 17 #[.int .i64 c, .int .i64 (n : Int)] w fun e w' => ∃ k : Nat, e = .returned (.int .i64 (k : Int)) ∧ k < n ∧ w' = w := by
  go_enter Try.func17, Try.ntmps17
  by_cases h : c < 0
  · go_wp2_with fail
    go_ret
    obtain ⟨k, hk, hkn⟩ := mod_nat (x := -(c + 1)) (by omega) hn
    refine ⟨k, ?_, hkn, rfl⟩
    have h1 : -(c + 1).tmod (n : Int) = k := by rw [← Int.neg_tmod, Int.tmod_eq_emod_of_nonneg (by omega)]; exact hk
    simp [h1]
  · go_wp2_with fail
    go_ret
    obtain ⟨k, hk, hkn⟩ := mod_nat (x := c) (by omega) hn
    exact ⟨k, by simp [hk], hkn, rfl⟩

def pickN (c : Int) (n : Nat) : Nat := if c < 0 then (-(c + 1) % (n : Int)).toNat else (c % (n : Int)).toNat
theorem pickN_lt (c : Int) (n : Nat) (hn : 0 < n) : pickN c n < n := by
  unfold pickN
  split
  · obtain ⟨k, hk, hkn⟩ := mod_nat (x := -(c + 1)) (by omega) hn
    rw [hk]; simpa using hkn
  · obtain ⟨k, hk, hkn⟩ := mod_nat (x := c) (by omega) hn
    rw [hk]; simpa using hkn

theorem pick_eq (c : Int) (n : Nat) (hn : 0 < n) (hn2 : n ≤ 2000000) (hc : -9223372036854775808 ≤ c ∧ c ≤ 9223372036854775807) (w : World) :
    Calls Try.prog 17 #[.int .i64 c, .int .i64 (n : Int)] w fun e w' => e = .returned (.int .i64 (pickN c n : Int)) ∧ w' = w := by
  go_enter Try.func17, Try.ntmps17
  by_cases h : c < 0
  · have HK : Hid (((pickN c n : Nat) : Int) = -(c + 1).tmod (n : Int)) := by
      obtain ⟨k, hk, hkn⟩ := mod_nat (x := -(c + 1)) (by omega) hn
      have h1 : -(c + 1).tmod (n : Int) = k := by rw [← Int.neg_tmod, Int.tmod_eq_emod_of_nonneg (by omega)]; exact hk
      unfold Hid pickN
      rw [h1, if_pos h, hk]; simp
    go_wp2_with fail
    go_ret
    exact ⟨by simp [HK.out], rfl⟩
  · have HK : Hid (((pickN c n : Nat) : Int) = c % (n : Int)) := by
      obtain ⟨k, hk, hkn⟩ := mod_nat (x := c) (by omega) hn
      unfold Hid pickN
      rw [if_neg h, hk]; simp
    go_wp2_with fail
    go_ret
    exact ⟨by simp [HK.out], rfl⟩

theorem wrapI (x : Int) (h : -9223372036854775808 ≤ x ∧ x ≤ 9223372036854775807) : IntKind.i64.wrap x = x := by
  rw [IntKind.wrap_i64]; omega

def Rng (z : Int) : Prop := -9223372036854775808 ≤ z ∧ z ≤ 9223372036854775807

set_option maxHeartbeats 1000000 in
theorem raw_any (zs : List Int) (u : Value) (w : World) (X : Nat → Prop) (hu : PV w X u zs) (hr : ∀ z ∈ zs, Rng z) (i : Nat) (hi : i ≤ 1000000) (hzl : zs.length ≤ 1000000) :
    Calls Try.prog 52 #[u, .int .i64 (i : Int)] w fun e w' => ∃ k : Nat, e = .returned (.int .i64 (k : Int)) ∧ k ≤ 100000000000 ∧ Below w.heap.size w w' := by
  obtain ⟨a, c, rfl, hl, h⟩ := hu
  by_cases h0 : zs.length = 0
  · go_enter Try.func52, Try.ntmps52
    go_wp2_with fail
    go_ret
    exact ⟨i * 31, by simp, by omega, Below.refl _ _⟩
  · rcases h with h | ⟨b, o, rfl, hX, hc⟩
    · subst h; simp at h0
    · have hpos : 0 < zs.length := by omega
      obtain ⟨m, hm, hlt⟩ := mod_nat (x := (i : Int)) (by omega) hpos
      obtain ⟨d, hd, hdl⟩ : ∃ d : Nat, (i : Int) / (zs.length : Int) = d ∧ d ≤ i := ⟨i / zs.length, by simp, Nat.div_le_self _ _⟩
      have hm2 : (i : Int).tmod (zs.length : Int) = m := by rw [Int.tmod_eq_emod_of_nonneg (by omega)]; exact hm
      have hd2 : (i : Int).tdiv (zs.length : Int) = d := by rw [Int.tdiv_eq_ediv_of_nonneg (by omega)]; exact hd
      have hcc := hc m hlt
      have hrg := hr _ (List.getElem_mem hlt)
      generalize zs[m] = z at *
      have hm0 : (0 : Int) ≤ (m : Int) := by omega
      have hm1 : (m : Int) < (zs.length : Int) := by omega
      clear hc hr
      go_enter Try.func52, Try.ntmps52
      go_wp2_with fail
      go_region_held3 (fun w' => w'.cell? ⟨b, o + m, none⟩ = some (.int .i64 z)) (first | exact hcc | go_keep)
        ((go_at_call 17; refine (pick_any z 1000003 (by decide) (by decide) hrg _).mono ?_; rintro e w1 ⟨k, rfl, hk, rfl⟩))
      go_wp2_with fail
      go_ret
      refine ⟨k + d * 7919, by simp [wrapI (d : Int) (by omega), wrapI ((d : Int) * 7919) (by omega), wrapI ((k : Int) + (d : Int) * 7919) (by omega)], by omega, ?_⟩
      exact (Below.refl _ _).drew
#print axioms raw_any
#print axioms pick_any
end Go.Proofs.Ytpbnbkeoiojpaac

/- Walks: terms out of raw numbers. -/
namespace Go.Proofs.Ytpbnbkeoiojpaac
open Go.RowKit
set_option linter.unusedSimpArgs false
set_option linter.unusedVariables false
set_option maxRecDepth 8000

theorem leaf_any (s : ByteArray) (w : World) :
    Calls Try.prog 77 #[.string s] w fun e w' => e = .returned (.agg #[.string s, .slice none 0 0]) ∧ Below w.heap.size w w' := by
  go_enter Try.func77, Try.ntmps77
  go_wp2_with fail
  have hb := Blk.new w #[.string s, .slice none 0 0] 25
  have c0 := hb.cell 0
  have c1 := hb.cell 1
  refine bodyPost_ret (v := .agg #[.string s, .slice none 0 0]) (by simp [results, Try.results77, go_sem, c0, c1]) rfl ⟨rfl, (Below.refl _ _).alloc (Nat.le_refl _) _⟩

/-- How many knots at the most. -/
def top (m : Nat) : Nat := if m < 3 then 1 else 2 * m - 1

/-- No error, and no variables but the first ones. -/
def okV (nv : Nat) (l : List Tm) : Prop := errL l = 0 ∧ ∀ k ∈ preL l, varB k.name = true → k.name ∈ ([⟨#[88]⟩, ⟨#[89]⟩, ⟨#[90]⟩, ⟨#[85]⟩] : List ByteArray).take nv
def GrowPV (nv : Nat) (w : World) (i m : Nat) (e : Ending) (w' : World) : Prop :=
  ∃ (a : Option Addr) (c n : Nat) (t : Tm), e = .returned (.tuple #[.agg #[.string t.name, .slice a t.args.length c], .int .i64 (n : Int)]) ∧ Sl w' (fun b => w.heap.size ≤ b) a t.args ∧ t.args.length ≤ c ∧ c ≤ 9223372036854775807 ∧ sizeL [t] ≤ top m ∧ i ≤ n ∧ n ≤ i + top m ∧ Below w.heap.size w w' ∧ okV nv [t]

theorem top_pos (m : Nat) : 1 ≤ top m := by unfold top; split <;> omega

theorem top_step {m : Nat} (h : 3 ≤ m + 1) : top m + 1 ≤ top (m + 1) := by unfold top; split <;> split <;> omega

theorem top_half {m h : Nat} (hm : 3 ≤ m + 1) (hh : h = (m + 1) / 2) : 2 * top h + 1 ≤ top (m + 1) := by unfold top; split <;> split <;> omega

theorem err_leaf {s : ByteArray} (h : nameB s = true) : errL [(⟨s, []⟩ : Tm)] = 0 := by simp [errL, h]
theorem err_node {s : ByteArray} {l : List Tm} (h : nameB s = true) (hv : varB s = false) (hl : errL l = 0) : errL [(⟨s, l⟩ : Tm)] = 0 := by simp [errL, h, hv, hl]

theorem ok_node {nv : Nat} {s : ByteArray} {l : List Tm} (h : nameB s = true) (hv : varB s = false) (hl : okV nv l) : okV nv [(⟨s, l⟩ : Tm)] := by
  refine ⟨err_node h hv hl.1, fun k hk hvk => ?_⟩
  simp only [preL, List.append_nil, List.mem_cons] at hk
  rcases hk with rfl | hk
  · simp only at hvk
    rw [hv] at hvk; cases hvk
  · exact hl.2 k hk hvk
theorem preL_cons2 (t : Tm) (r : List Tm) : preL (t :: r) = preL [t] ++ preL r := by
  obtain ⟨s, l⟩ := t
  simp [preL]
theorem ok_two {nv : Nat} {a b : Tm} (ha : okV nv [a]) (hb : okV nv [b]) : okV nv [a, b] := by
  refine ⟨by rw [errL_cons, if_pos ha.1]; exact hb.1, fun k hk hv => ?_⟩
  rw [preL_cons2] at hk
  rcases List.mem_append.1 hk with hk | hk
  · exact ha.2 k hk hv
  · exact hb.2 k hk hv
theorem grow_leaf {nv : Nat} {w w' : World} {s : ByteArray} {i m : Nat} (hes : okV nv [(⟨s, []⟩ : Tm)]) (hb : Below w.heap.size w w') : GrowPV nv w i m (.returned (.tuple #[.agg #[.string s, .slice none 0 0], .int .i64 ((i : Int) + 1)])) w' := by
  have := top_pos m
  exact ⟨none, 0, i + 1, ⟨s, []⟩, by simp, ⟨by simp, Or.inl rfl⟩, by simp, by omega, by simp [sizeL]; omega, by omega, by omega, hb, hes⟩

theorem pick_var (w : World) (T k nv : Nat) (hk : k < nv) (hnv : nv ≤ 4) : ∃ s, okV nv [(⟨s, []⟩ : Tm)] ∧ (w.alloc (.cells #[.string ⟨#[88]⟩, .string ⟨#[89]⟩, .string ⟨#[90]⟩, .string ⟨#[85]⟩] T)).cell? ⟨w.heap.size, k, none⟩ = some (.string s) := by
  have h := heap_alloc_new w (.cells (([⟨#[88]⟩, ⟨#[89]⟩, ⟨#[90]⟩, ⟨#[85]⟩] : List ByteArray).map Value.string).toArray T)
  have hk4 : k < ([⟨#[88]⟩, ⟨#[89]⟩, ⟨#[90]⟩, ⟨#[85]⟩] : List ByteArray).length := by simp; omega
  refine ⟨([⟨#[88]⟩, ⟨#[89]⟩, ⟨#[90]⟩, ⟨#[85]⟩] : List ByteArray)[k], ⟨err_leaf ((show ∀ s ∈ ([⟨#[88]⟩, ⟨#[89]⟩, ⟨#[90]⟩, ⟨#[85]⟩] : List ByteArray), nameB s = true by decide) _ (List.getElem_mem hk4)), fun x hx _ => ?_⟩, ?_⟩
  · simp only [preL, List.append_nil, List.mem_cons, List.not_mem_nil, or_false] at hx
    rw [hx]
    rw [← List.getElem_take (h := by simp; omega) (j := nv)]
    exact List.getElem_mem _
  · have h2 := Lib.cell_of_heap h k
    refine h2.trans ?_
    rw [List.getElem?_toArray, List.getElem?_map, List.getElem?_eq_getElem hk4]
    rfl
theorem pick_const (w : World) (T k nv : Nat) (hk : k < 3) : ∃ s, okV nv [(⟨s, []⟩ : Tm)] ∧ (w.alloc (.cells #[.string ⟨#[97]⟩, .string ⟨#[98]⟩, .string ⟨#[99]⟩] T)).cell? ⟨w.heap.size, k, none⟩ = some (.string s) := by
  have h := heap_alloc_new w (.cells (([⟨#[97]⟩, ⟨#[98]⟩, ⟨#[99]⟩] : List ByteArray).map Value.string).toArray T)
  have hk4 : k < ([⟨#[97]⟩, ⟨#[98]⟩, ⟨#[99]⟩] : List ByteArray).length := by simpa using hk
  refine ⟨([⟨#[97]⟩, ⟨#[98]⟩, ⟨#[99]⟩] : List ByteArray)[k], ⟨err_leaf ((show ∀ s ∈ ([⟨#[97]⟩, ⟨#[98]⟩, ⟨#[99]⟩] : List ByteArray), nameB s = true by decide) _ (List.getElem_mem hk4)), fun x hx hv => ?_⟩, ?_⟩
  · simp only [preL, List.append_nil, List.mem_cons, List.not_mem_nil, or_false] at hx
    rw [hx] at hv
    have := (show ∀ s ∈ ([⟨#[97]⟩, ⟨#[98]⟩, ⟨#[99]⟩] : List ByteArray), varB s = false by decide) _ (List.getElem_mem hk4)
    rw [this] at hv; cases hv
  · have h2 := Lib.cell_of_heap h k
    refine h2.trans ?_
    rw [List.getElem?_toArray, List.getElem?_map, List.getElem?_eq_getElem hk4]
    rfl
theorem pick_cell (w : World) (l : List ByteArray) (T k : Nat) (hl : ∀ s ∈ l, nameB s = true) (hk : k < l.length) : ∃ s, errL [(⟨s, []⟩ : Tm)] = 0 ∧ (w.alloc (.cells (l.map Value.string).toArray T)).cell? ⟨w.heap.size, k, none⟩ = some (.string s) := by
  have h := heap_alloc_new w (.cells (l.map Value.string).toArray T)
  exact ⟨l[k], err_leaf (hl _ (List.getElem_mem hk)), by rw [Lib.cell_of_heap h]; simp [hk]⟩

theorem sl_one {w : World} {X Z : Nat → Prop} {B : Nat} {t : Tm} {a : Option Addr} {c T : Nat} (hb : w.heap[B]? = some (.cells #[.string t.name, .slice a t.args.length c] T (0, 0))) (hB : X B) (hs : Sl w Z a t.args) (hZ : ∀ b, Z b → b < w.heap.size → X b) : Sl w X (some ⟨B, 0, none⟩) [t] := by
  refine ⟨by simp, Or.inr ⟨B, 0, rfl, lies_mk _ _ _ fun i hi => ?_⟩⟩
  simp at hi
  subst hi
  exact ⟨hB, by simp [World.cell?, hb], a, c, by simp [World.cell?, hb], hs.mono hZ⟩

theorem grow_one {nv : Nat} {w w5 : World} {Z : Nat → Prop} {s : ByteArray} {i m n T : Nat} {a5 : Option Addr} {c5 : Nat} {t5 : Tm} {v0 v1 : Value} {o1 : Obj} (hB : Below w.heap.size w w5) (hlt : w.heap.size < w5.heap.size) (hs : Sl w5 Z a5 t5.args) (hZ : ∀ b, Z b → w.heap.size < b) (hz : sizeL [t5] ≤ top m) (hm : 3 ≤ m + 1) (hn : i ≤ n) (hn' : n ≤ i + 1 + top m) (hes : okV nv [(⟨s, [t5]⟩ : Tm)]) :
    GrowPV nv w i (m + 1) (.returned (.tuple #[.agg #[.string s, .slice (some ⟨w5.heap.size + 1, 0, none⟩) 1 1], .int .i64 (n : Int)])) ((((w5.setCell ⟨w.heap.size, 0, none⟩ v0).setCell ⟨w.heap.size, 1, none⟩ v1).alloc o1).alloc (.cells #[.string t5.name, .slice a5 t5.args.length c5] T)) := by
  have ht := top_step hm
  have hb0 : Below w.heap.size w (((w5.setCell ⟨w.heap.size, 0, none⟩ v0).setCell ⟨w.heap.size, 1, none⟩ v1).alloc o1) := ((hB.setCell (by simp) _).setCell (by simp) _).alloc (by simp [World.setCell]; omega) _
  refine ⟨some ⟨w5.heap.size + 1, 0, none⟩, 1, n, ⟨s, [t5]⟩, rfl, ?_, by simp, by omega, by simp [sizeL] at hz ⊢; omega, hn, by omega, hb0.alloc hb0.size _, hes⟩
  have hnew := heap_alloc_new (((w5.setCell ⟨w.heap.size, 0, none⟩ v0).setCell ⟨w.heap.size, 1, none⟩ v1).alloc o1) (.cells #[.string t5.name, .slice a5 t5.args.length c5] T)
  have e : (((w5.setCell ⟨w.heap.size, 0, none⟩ v0).setCell ⟨w.heap.size, 1, none⟩ v1).alloc o1).heap.size = w5.heap.size + 1 := by simp [World.setCell]
  rw [e] at hnew
  refine sl_one hnew (by omega) ((hs.mono (Y := fun b => Z b ∧ b < w5.heap.size) fun b h1 h2 => ⟨h1, h2⟩).kept (w' := _) fun b hb => ?_) (fun b hb _ => by have := hZ b hb.1; omega)
  have := hZ b hb.1
  rw [Below.heap_alloc _ _ _ (by rw [e]; omega), Below.heap_alloc _ _ _ (by simp [World.setCell]; omega), Below.heap_setCell _ _ _ _ (by simp; omega), Below.heap_setCell _ _ _ _ (by simp; omega)]

section
variable {P : Program} {ops : Array Oper} {Q : Exit → Act → World → Prop} {md : Region.Mode}
/-- A stronger condition held does as well. -/
theorem held_mono {S S' : World → Prop} (h : ∀ w, S' w → S w) : ∀ (fuel : Nat) (listed : Array Bool) (a : Act) (w : World), wpAnyH P md ops Q S' fuel listed a w → wpAnyH P md ops Q S fuel listed a w
  | 0, _, _, _, H => H
  | fuel + 1, listed, a, w, H => ⟨H.1, fun i hi => wpOp_mono (fun a' w' hh => ⟨h _ hh.1, held_mono h fuel _ a' w' hh.2⟩) (H.2 i hi)⟩
end

def TwoS (w5 w6 : World) (t5 t6 : Tm) (a5 a6 : Option Addr) (c5 c6 : Nat) (w' : World) : Prop :=
  Blk w' w5.heap.size #[.string t5.name, .slice a5 t5.args.length c5] 25 ∧ Blk w' w6.heap.size #[.string t6.name, .slice a6 t6.args.length c6] 25
def TwoF (w5 w6 : World) (t5 t6 : Tm) (a5 a6 : Option Addr) (c5 c6 : Nat) (b : Nat) (w' : World) : Prop :=
  TwoS w5 w6 t5 t6 a5 a6 c5 c6 w' ∧ Blk w' b #[.string ⟨#[102]⟩, .string ⟨#[103]⟩] 9
theorem TwoS.alloc {w5 w6 : World} {t5 t6 : Tm} {a5 a6 : Option Addr} {c5 c6 : Nat} {w' : World} (h : TwoS w5 w6 t5 t6 a5 a6 c5 c6 w') (o : Obj) : TwoS w5 w6 t5 t6 a5 a6 c5 c6 (w'.alloc o) := ⟨h.1.alloc o, h.2.alloc o⟩
theorem TwoF.alloc {w5 w6 : World} {t5 t6 : Tm} {a5 a6 : Option Addr} {c5 c6 b : Nat} {w' : World} (h : TwoF w5 w6 t5 t6 a5 a6 c5 c6 b w') (o : Obj) : TwoF w5 w6 t5 t6 a5 a6 c5 c6 b (w'.alloc o) := ⟨h.1.alloc o, h.2.alloc o⟩

theorem blk_at {w : World} {n : Nat} (h : w.heap.size = n) (cs : Array Value) (T : Nat) : Blk (w.alloc (.cells cs T)) n cs T := h ▸ Blk.new w cs T
theorem two_endA {w5 w6 : World} {t5 t6 : Tm} {a5 a6 : Option Addr} {c5 c6 b : Nat} (v0 v1 : Value) (A : Obj) (hX : Blk w6 w5.heap.size #[.string t5.name, .slice a5 t5.args.length c5] 25) (hne : w5.heap.size ≠ b) :
    TwoF w5 w6 t5 t6 a5 a6 c5 c6 (w6.heap.size + 1) (((((w6.setCell ⟨b, 0, none⟩ v0).setCell ⟨b, 1, none⟩ v1).alloc (.cells #[.string t6.name, .slice a6 t6.args.length c6] 25)).alloc (.cells #[.string ⟨#[102]⟩, .string ⟨#[103]⟩] 9)).alloc A) :=
  ⟨⟨(((((hX.setOther 0 v0 hne).setOther 1 v1 hne).alloc _).alloc _).alloc _), ((blk_at (by simp [World.setCell]) _ _).alloc _).alloc _⟩, (blk_at (by simp [World.setCell]) _ _).alloc _⟩
theorem two_endB {w5 w6 : World} {t5 t6 : Tm} {a5 a6 : Option Addr} {c5 c6 b : Nat} (v0 v1 : Value) (A : Obj) (hX : Blk w6 w5.heap.size #[.string t5.name, .slice a5 t5.args.length c5] 25) (hne : w5.heap.size ≠ b) :
    TwoF w5 w6 t5 t6 a5 a6 c5 c6 (w6.heap.size + 1 + 1) (((((w6.setCell ⟨b, 0, none⟩ v0).setCell ⟨b, 1, none⟩ v1).alloc (.cells #[.string t6.name, .slice a6 t6.args.length c6] 25)).alloc A).alloc (.cells #[.string ⟨#[102]⟩, .string ⟨#[103]⟩] 9)) :=
  ⟨⟨(((((hX.setOther 0 v0 hne).setOther 1 v1 hne).alloc _).alloc _).alloc _), ((blk_at (by simp [World.setCell]) _ _).alloc _).alloc _⟩, (blk_at (by simp [World.setCell]) _ _)⟩

theorem sl_two {w : World} {X Z5 Z6 : Nat → Prop} {B : Nat} {t5 t6 : Tm} {a5 a6 : Option Addr} {c5 c6 T : Nat} (hb : Blk w B #[.string t5.name, .slice a5 t5.args.length c5, .string t6.name, .slice a6 t6.args.length c6] T) (hB : X B) (h5 : Sl w Z5 a5 t5.args) (h6 : Sl w Z6 a6 t6.args) (hZ5 : ∀ b, Z5 b → b < w.heap.size → X b) (hZ6 : ∀ b, Z6 b → b < w.heap.size → X b) : Sl w X (some ⟨B, 0, none⟩) [t5, t6] := by
  refine ⟨by simp, Or.inr ⟨B, 0, rfl, lies_mk _ _ _ fun i hi => ?_⟩⟩
  have h01 : i = 0 ∨ i = 1 := by simp at hi; omega
  rcases h01 with rfl | rfl
  · exact ⟨hB, hb.cell 0, a5, c5, hb.cell 1, h5.mono hZ5⟩
  · exact ⟨hB, hb.cell 2, a6, c6, hb.cell 3, h6.mono hZ6⟩

theorem two_world {w w6 : World} {Z : Nat → Prop} {a : Option Addr} {l : List Tm} {v0 v1 : Value} {o1 o2 o3 : Obj} (hs : Sl w6 Z a l) (hZ : ∀ b, Z b → w.heap.size < b) : Sl (((((w6.setCell ⟨w.heap.size, 0, none⟩ v0).setCell ⟨w.heap.size, 1, none⟩ v1).alloc o1).alloc o2).alloc o3).drew (fun b => Z b ∧ b < w6.heap.size) a l := by
  refine (hs.mono (Y := fun b => Z b ∧ b < w6.heap.size) fun b h1 h2 => ⟨h1, h2⟩).kept fun b hb => ?_
  have := hZ b hb.1
  show ((((((w6.setCell ⟨w.heap.size, 0, none⟩ v0).setCell ⟨w.heap.size, 1, none⟩ v1).alloc o1).alloc o2).alloc o3)).heap[b]? = w6.heap[b]?
  rw [Below.heap_alloc _ _ _ (by simp [World.setCell]; omega), Below.heap_alloc _ _ _ (by simp [World.setCell]; omega), Below.heap_alloc _ _ _ (by simp [World.setCell]; omega), Below.heap_setCell _ _ _ _ (by simp; omega), Below.heap_setCell _ _ _ _ (by simp; omega)]

theorem grow_two {nv : Nat} {w w6 : World} {Z5 Z6 : Nat → Prop} {s : ByteArray} {i m n T bA : Nat} {a5 a6 : Option Addr} {c5 c6 : Nat} {t5 t6 : Tm} {v0 v1 : Value} {o1 o2 o3 : Obj} (hB : Below w.heap.size w w6) (hlt : w.heap.size < w6.heap.size) (h5 : Sl w6 Z5 a5 t5.args) (h6 : Sl w6 Z6 a6 t6.args) (hZ5 : ∀ b, Z5 b → w.heap.size < b) (hZ6 : ∀ b, Z6 b → w.heap.size < b) (hbig : i ≤ n ∧ n ≤ i + top (m + 1) ∧ sizeL [t5] + sizeL [t6] + 1 ≤ top (m + 1)) (hes : okV nv [(⟨s, [t5, t6]⟩ : Tm)]) (hbA : w6.heap.size < bA)
    (hA : Blk (((((w6.setCell ⟨w.heap.size, 0, none⟩ v0).setCell ⟨w.heap.size, 1, none⟩ v1).alloc o1).alloc o2).alloc o3).drew bA #[.string t5.name, .slice a5 t5.args.length c5, .string t6.name, .slice a6 t6.args.length c6] T) :
    GrowPV nv w i (m + 1) (.returned (.tuple #[.agg #[.string s, .slice (some ⟨bA, 0, none⟩) 2 2], .int .i64 (n : Int)])) (((((w6.setCell ⟨w.heap.size, 0, none⟩ v0).setCell ⟨w.heap.size, 1, none⟩ v1).alloc o1).alloc o2).alloc o3).drew := by
  have hb0 : Below w.heap.size w (((((w6.setCell ⟨w.heap.size, 0, none⟩ v0).setCell ⟨w.heap.size, 1, none⟩ v1).alloc o1).alloc o2).alloc o3) := ((((hB.setCell (by simp) _).setCell (by simp) _).alloc (by simp [World.setCell]; omega) _).alloc (by simp [World.setCell]; omega) _).alloc (by simp [World.setCell]; omega) _
  refine ⟨some ⟨bA, 0, none⟩, 2, n, ⟨s, [t5, t6]⟩, rfl, ?_, by simp, by omega, ?_, hbig.1, hbig.2.1, hb0.drew, hes⟩
  · exact sl_two hA (by omega) (two_world h5 hZ5) (two_world h6 hZ6) (fun b hb _ => by have := hZ5 b hb.1; omega) (fun b hb _ => by have := hZ6 b hb.1; omega)
  · have := hbig.2.2
    have e : sizeL [t5, t6] = sizeL [t5] + sizeL [t6] := sizeL_append [t5] [t6]
    have e2 : sizeL [⟨s, [t5, t6]⟩] = 1 + sizeL [t5, t6] := by simp [sizeL]
    omega

theorem two_up {w5 w6 : World} {t5 t6 : Tm} {a5 a6 : Option Addr} {c5 c6 b : Nat} {w' : World} (h : TwoS w5 w6 t5 t6 a5 a6 c5 c6 w') (hF : Blk w' b #[.string ⟨#[102]⟩, .string ⟨#[103]⟩] 9) : TwoF w5 w6 t5 t6 a5 a6 c5 c6 b w' := ⟨h, hF⟩

set_option maxHeartbeats 8000000 in
theorem growV_any (nv : Nat) (hnv : 1 ≤ nv) (hnv4 : nv ≤ 4) (zs : List Int) (hr : ∀ z ∈ zs, Rng z) (hzl : zs.length ≤ 1000000) : ∀ (m i : Nat) (u : Value) (w : World) (X : Nat → Prop), PV w X u zs → m ≤ 100 → i + top m ≤ 1000 →
    Calls Try.prog 49 #[u, .int .i64 (i : Int), .int .i64 (m : Int), .int .i64 (nv : Int)] w fun e w' => GrowPV nv w i m e w' := by
  have hnvI : (0 : Int) < (nv : Int) := by omega
  intro m
  induction m using Nat.strongRecOn with
  | ind m ih =>
    intro i u w X hu hm hi
    have IH := hide ih
    clear ih
    have HU := hide hu
    clear hu
    go_enter Try.func49, Try.ntmps49
    go_wp2_with fail
    refine (raw_any zs _ _ X (by exact HU.out.alloc _) hr i (by omega) hzl).mono ?_
    rintro e w1 ⟨c, rfl, hc, hb1⟩
    have B1 := hide (((Below.refl w.heap.size w).alloc (Nat.le_refl _) (.cells #[.string ⟨#[]⟩, .slice none 0 0] 25)).trans (hb1.mono (by simp)))
    have R1 := hide ((Blk.new w #[.string ⟨#[]⟩, .slice none 0 0] 25).below hb1 (by simp))
    clear hb1
    by_cases h3 : m < 3
    · go_wp2_with fail
      refine (pick_any _ 3 (by decide) (by decide) ⟨by omega, by omega⟩ _).mono ?_
      rintro e w2 ⟨k2, rfl, hk2, rfl⟩
      by_cases h2 : 0 < k2
      · go_wp2_with fail
        refine (pick_any _ nv (by omega) (by omega) ⟨by omega, by omega⟩ _).mono ?_
        rintro e w3 ⟨k3, rfl, hk3, rfl⟩
        obtain ⟨s5, hes5, hs5⟩ := pick_var w2 9 k3 nv hk3 hnv4
        have hs6 : (w2.alloc (.cells #[.string ⟨#[88]⟩, .string ⟨#[89]⟩, .string ⟨#[90]⟩, .string ⟨#[85]⟩] 9)).cell? ⟨w2.heap.size, k3, none⟩ = some (.string s5) := hs5
        have hk4 : (k3 : Int) < 4 := by omega
        clear hs5
        go_wp2_with fail
        refine (leaf_any _ _).mono ?_
        rintro e w4 ⟨rfl, hb4⟩
        have R4 := hide ((R1.out.alloc _).below hb4 (by have := R1.out.lt; simp; omega))
        have B4 := hide ((B1.out.alloc B1.out.size _).trans (hb4.mono (by have := B1.out.size; simp; omega)))
        clear hb4 hs6
        have r0 : w4.cell? ⟨w.heap.size, 0, none⟩ = some (.string ⟨#[]⟩) := R4.out.cell 0
        have r1 : w4.cell? ⟨w.heap.size, 1, none⟩ = some (.slice none 0 0) := R4.out.cell 1
        have rf := R4.out.frozen
        go_wp2_with fail
        have q0 := ((R4.out.set 0 (.string s5)).set 1 (.slice none 0 0)).cell 0
        have q1 := ((R4.out.set 0 (.string s5)).set 1 (.slice none 0 0)).cell 1
        refine bodyPost_ret (v := .tuple #[.agg #[.string s5, .slice none 0 0], .int .i64 ((i : Int) + 1)]) (by simp [results, Try.results49, go_sem, q0, q1, World.cell?_setCell_same, World.cell?_setCell_other, r0, r1]) rfl ?_
        exact grow_leaf hes5 ((B4.out.setCell (by simp) _).setCell (by simp) _)
      · go_wp2_with fail
        refine (pick_any _ 3 (by decide) (by decide) ⟨by omega, by omega⟩ _).mono ?_
        rintro e w3 ⟨k3, rfl, hk3, rfl⟩
        obtain ⟨s5, hes5, hs5⟩ := pick_const w2 9 k3 nv hk3
        have hs6 : (w2.alloc (.cells #[.string ⟨#[97]⟩, .string ⟨#[98]⟩, .string ⟨#[99]⟩] 9)).cell? ⟨w2.heap.size, k3, none⟩ = some (.string s5) := hs5
        have hk4 : (k3 : Int) < 3 := by omega
        clear hs5
        go_wp2_with fail
        refine (leaf_any _ _).mono ?_
        rintro e w4 ⟨rfl, hb4⟩
        have R4 := hide ((R1.out.alloc _).below hb4 (by have := R1.out.lt; simp; omega))
        have B4 := hide ((B1.out.alloc B1.out.size _).trans (hb4.mono (by have := B1.out.size; simp; omega)))
        clear hb4 hs6
        have r0 : w4.cell? ⟨w.heap.size, 0, none⟩ = some (.string ⟨#[]⟩) := R4.out.cell 0
        have r1 : w4.cell? ⟨w.heap.size, 1, none⟩ = some (.slice none 0 0) := R4.out.cell 1
        have rf := R4.out.frozen
        go_wp2_with fail
        have q0 := ((R4.out.set 0 (.string s5)).set 1 (.slice none 0 0)).cell 0
        have q1 := ((R4.out.set 0 (.string s5)).set 1 (.slice none 0 0)).cell 1
        refine bodyPost_ret (v := .tuple #[.agg #[.string s5, .slice none 0 0], .int .i64 ((i : Int) + 1)]) (by simp [results, Try.results49, go_sem, q0, q1, World.cell?_setCell_same, World.cell?_setCell_other, r0, r1]) rfl ?_
        exact grow_leaf hes5 ((B4.out.setCell (by simp) _).setCell (by simp) _)
    · go_wp2_with fail
      refine (pick_any _ 5 (by decide) (by decide) ⟨by omega, by omega⟩ _).mono ?_
      rintro e w1b ⟨k1, rfl, hk1, rfl⟩
      by_cases h1 : k1 < 2
      · go_wp2_with fail
        refine (pick_any _ 3 (by decide) (by decide) ⟨by omega, by omega⟩ _).mono ?_
        rintro e w2 ⟨k2, rfl, hk2, rfl⟩
        by_cases h2 : 0 < k2
        · go_wp2_with fail
          refine (pick_any _ nv (by omega) (by omega) ⟨by omega, by omega⟩ _).mono ?_
          rintro e w3 ⟨k3, rfl, hk3, rfl⟩
          obtain ⟨s5, hes5, hs5⟩ := pick_var w2 9 k3 nv hk3 hnv4
          have hs6 : (w2.alloc (.cells #[.string ⟨#[88]⟩, .string ⟨#[89]⟩, .string ⟨#[90]⟩, .string ⟨#[85]⟩] 9)).cell? ⟨w2.heap.size, k3, none⟩ = some (.string s5) := hs5
          have hk4 : (k3 : Int) < 4 := by omega
          clear hs5
          go_wp2_with fail
          refine (leaf_any _ _).mono ?_
          rintro e w4 ⟨rfl, hb4⟩
          have R4 := hide ((R1.out.alloc _).below hb4 (by have := R1.out.lt; simp; omega))
          have B4 := hide ((B1.out.alloc B1.out.size _).trans (hb4.mono (by have := B1.out.size; simp; omega)))
          clear hb4 hs6
          have r0 : w4.cell? ⟨w.heap.size, 0, none⟩ = some (.string ⟨#[]⟩) := R4.out.cell 0
          have r1 : w4.cell? ⟨w.heap.size, 1, none⟩ = some (.slice none 0 0) := R4.out.cell 1
          have rf := R4.out.frozen
          go_wp2_with fail
          have q0 := ((R4.out.set 0 (.string s5)).set 1 (.slice none 0 0)).cell 0
          have q1 := ((R4.out.set 0 (.string s5)).set 1 (.slice none 0 0)).cell 1
          refine bodyPost_ret (v := .tuple #[.agg #[.string s5, .slice none 0 0], .int .i64 ((i : Int) + 1)]) (by simp [results, Try.results49, go_sem, q0, q1, World.cell?_setCell_same, World.cell?_setCell_other, r0, r1]) rfl ?_
          exact grow_leaf hes5 ((B4.out.setCell (by simp) _).setCell (by simp) _)
        · go_wp2_with fail
          refine (pick_any _ 3 (by decide) (by decide) ⟨by omega, by omega⟩ _).mono ?_
          rintro e w3 ⟨k3, rfl, hk3, rfl⟩
          obtain ⟨s5, hes5, hs5⟩ := pick_const w2 9 k3 nv hk3
          have hs6 : (w2.alloc (.cells #[.string ⟨#[97]⟩, .string ⟨#[98]⟩, .string ⟨#[99]⟩] 9)).cell? ⟨w2.heap.size, k3, none⟩ = some (.string s5) := hs5
          have hk4 : (k3 : Int) < 3 := by omega
          clear hs5
          go_wp2_with fail
          refine (leaf_any _ _).mono ?_
          rintro e w4 ⟨rfl, hb4⟩
          have R4 := hide ((R1.out.alloc _).below hb4 (by have := R1.out.lt; simp; omega))
          have B4 := hide ((B1.out.alloc B1.out.size _).trans (hb4.mono (by have := B1.out.size; simp; omega)))
          clear hb4 hs6
          have r0 : w4.cell? ⟨w.heap.size, 0, none⟩ = some (.string ⟨#[]⟩) := R4.out.cell 0
          have r1 : w4.cell? ⟨w.heap.size, 1, none⟩ = some (.slice none 0 0) := R4.out.cell 1
          have rf := R4.out.frozen
          go_wp2_with fail
          have q0 := ((R4.out.set 0 (.string s5)).set 1 (.slice none 0 0)).cell 0
          have q1 := ((R4.out.set 0 (.string s5)).set 1 (.slice none 0 0)).cell 1
          refine bodyPost_ret (v := .tuple #[.agg #[.string s5, .slice none 0 0], .int .i64 ((i : Int) + 1)]) (by simp [results, Try.results49, go_sem, q0, q1, World.cell?_setCell_same, World.cell?_setCell_other, r0, r1]) rfl ?_
          exact grow_leaf hes5 ((B4.out.setCell (by simp) _).setCell (by simp) _)
      · go_wp2_with fail
        refine (pick_eq ((c : Int) / 5) 4 (by decide) (by decide) ⟨by omega, by omega⟩ _).mono ?_
        rintro e w2 ⟨rfl, rfl⟩
        have hk4 := pickN_lt ((c : Int) / 5) 4 (by decide)
        generalize hke : pickN ((c : Int) / 5) 4 = k4 at *
        have HKE := hide hke
        clear hke
        obtain ⟨m, rfl⟩ : ∃ m', m = m' + 1 := ⟨m - 1, by omega⟩
        by_cases h40 : k4 = 0
        · subst h40
          go_wp2_with fail
          refine (IH.out m (by omega) (i + 1) _ _ X (by exact HU.out.later B1.out) (by omega) (by have := top_step (m := m) (by omega); omega)).mono ?_
          rintro e w5 ⟨a5, c5, n5, t5, rfl, hs5, hc5, hc5', hz5, hn5, hn5', hb5, he5⟩
          have R5 := hide (R1.out.below hb5 R1.out.lt)
          have B5 := hide (B1.out.trans (hb5.mono B1.out.size))
          have S5 := hide hs5
          have HE5 := hide he5
          clear he5
          have hlt5 : w.heap.size < w5.heap.size := R5.out.lt
          clear hb5 hs5
          have r0 : w5.cell? ⟨w.heap.size, 0, none⟩ = some (.string ⟨#[]⟩) := R5.out.cell 0
          have r1 : w5.cell? ⟨w.heap.size, 1, none⟩ = some (.slice none 0 0) := R5.out.cell 1
          have rf := R5.out.frozen
          go_wp2_with fail
          refine bodyPost_ret (v := .tuple #[.agg #[.string ⟨#[104]⟩, .slice (some ⟨w5.heap.size + 1, 0, none⟩) 1 1], .int .i64 (n5 : Int)]) (by simp [results, Try.results49, go_sem, World.cell?_setCell_same, World.cell?_setCell_other, r0, r1, hlt5, World.cell?_alloc_old]) rfl ?_
          exact grow_one B5.out hlt5 S5.out (fun b hb => Nat.lt_of_lt_of_le R1.out.lt hb) hz5 (by omega) (by omega) (by omega) (ok_node (by decide) (by decide) HE5.out)
        · by_cases h41 : k4 = 1
          · subst h41
            go_wp2_with fail
            refine (IH.out m (by omega) (i + 1) _ _ X (by exact HU.out.later B1.out) (by omega) (by have := top_step (m := m) (by omega); omega)).mono ?_
            rintro e w5 ⟨a5, c5, n5, t5, rfl, hs5, hc5, hc5', hz5, hn5, hn5', hb5, he5⟩
            have R5 := hide (R1.out.below hb5 R1.out.lt)
            have B5 := hide (B1.out.trans (hb5.mono B1.out.size))
            have S5 := hide hs5
            have HE5 := hide he5
            clear he5
            have hlt5 : w.heap.size < w5.heap.size := R5.out.lt
            clear hb5 hs5
            have r0 : w5.cell? ⟨w.heap.size, 0, none⟩ = some (.string ⟨#[]⟩) := R5.out.cell 0
            have r1 : w5.cell? ⟨w.heap.size, 1, none⟩ = some (.slice none 0 0) := R5.out.cell 1
            have rf := R5.out.frozen
            go_wp2_with fail
            refine bodyPost_ret (v := .tuple #[.agg #[.string ⟨#[107]⟩, .slice (some ⟨w5.heap.size + 1, 0, none⟩) 1 1], .int .i64 (n5 : Int)]) (by simp [results, Try.results49, go_sem, World.cell?_setCell_same, World.cell?_setCell_other, r0, r1, hlt5, World.cell?_alloc_old]) rfl ?_
            exact grow_one B5.out hlt5 S5.out (fun b hb => Nat.lt_of_lt_of_le R1.out.lt hb) hz5 (by omega) (by omega) (by omega) (ok_node (by decide) (by decide) HE5.out)
          · have h42 : 2 ≤ k4 := by omega
            obtain ⟨h, hh, hh2⟩ : ∃ h : Nat, ((m : Int) + 1) / 2 = h ∧ h = (m + 1) / 2 := ⟨(m + 1) / 2, by omega, rfl⟩
            have hth := top_half (m := m) (by omega) hh2
            have HH2 := hide hh2
            have hhb : h < m + 1 ∧ h ≤ 100 := by omega
            clear hh2
            go_wp2_with fail
            refine (IH.out h (by omega) (i + 1) _ _ X (by exact HU.out.later B1.out) (by omega) (by omega)).mono ?_
            rintro e w5 ⟨a5, c5, n5, t5, rfl, hs5, hc5, hc5', hz5, hn5, hn5', hb5, he5⟩
            have R5 := hide (R1.out.below hb5 R1.out.lt)
            have B5 := hide (B1.out.trans (hb5.mono B1.out.size))
            have S5 := hide hs5
            have HE5 := hide he5
            clear he5
            have X5 := hide (Blk.new w5 #[.string t5.name, .slice a5 t5.args.length c5] 25)
            have hlt5 : w.heap.size < w5.heap.size := R5.out.lt
            clear hb5 hs5
            go_wp2_with fail
            refine (IH.out h (by omega) n5 _ _ X (by exact HU.out.later (B5.out.alloc B5.out.size _)) (by omega) (by omega)).mono ?_
            rintro e w6 ⟨a6, c6, n6, t6, rfl, hs6, hc6, hc6', hz6, hn6, hn6', hb6, he6⟩
            have R6 := hide ((R5.out.alloc _).below hb6 (by simp; omega))
            have X6 := hide (X5.out.below hb6 (by simp))
            have B6 := hide ((B5.out.alloc B5.out.size _).trans (hb6.mono (by have := B5.out.size; simp; omega)))
            have S56 := hide ((S5.out.later ((Below.refl w5.heap.size w5).alloc (Nat.le_refl _) _)).later hb6)
            have S6 := hide hs6
            have HE6 := hide he6
            clear he6
            have hlt6 : w5.heap.size < w6.heap.size := X6.out.lt
            clear hb6 hs6
            go_wp2_with fail
            have Y6 := hide (Blk.new w6 #[.string t6.name, .slice a6 t6.args.length c6] 25)
            have x0 : ∀ o, (w6.alloc o).cell? ⟨w5.heap.size, 0, none⟩ = some (.string t5.name) := fun o => (X6.out.alloc o).cell 0
            have x1 : ∀ o, (w6.alloc o).cell? ⟨w5.heap.size, 1, none⟩ = some (.slice a5 t5.args.length c5) := fun o => (X6.out.alloc o).cell 1
            have y0 := Y6.out.cell 0
            have y1 := Y6.out.cell 1
            have r0 : w6.cell? ⟨w.heap.size, 0, none⟩ = some (.string ⟨#[]⟩) := R6.out.cell 0
            have r1 : w6.cell? ⟨w.heap.size, 1, none⟩ = some (.slice none 0 0) := R6.out.cell 1
            have rf := R6.out.frozen
            have HWR : Hid (IntKind.i64.wrap ((c : Int) / 5) = (c : Int) / 5) := wrapI _ ⟨by omega, by omega⟩
            have HPK : Hid (∀ w', Calls Try.prog 17 #[.int .i64 (IntKind.i64.wrap ((c : Int) / 5)), .int .i64 4] w' fun e w'' => e = .returned (.int .i64 (k4 : Int)) ∧ w'' = w') := fun w' => by
              have h1 := pick_eq ((c : Int) / 5) 4 (by decide) (by decide) ⟨by omega, by omega⟩ w'
              rw [HKE.out] at h1
              rw [HWR.out]
              exact h1
            have HBIG : Hid (i ≤ n6 ∧ n6 ≤ i + top (m + 1) ∧ sizeL [t5] + sizeL [t6] + 1 ≤ top (m + 1)) := ⟨by omega, by omega, by omega⟩
            have hw0 : IntKind.i64.wrap 0 = 0 := by decide
            have hw1 : IntKind.i64.wrap 1 = 1 := by decide
            have hlt56 : w.heap.size < w6.heap.size := by omega
            have hlt57 : w.heap.size < w6.heap.size + 1 := by omega
            have hlt58 : w.heap.size < w6.heap.size + 1 + 1 := by omega
            have r30 : ∀ o1 o2 o3, (((w6.alloc o1).alloc o2).alloc o3).cell? ⟨w.heap.size, 0, none⟩ = some (.string ⟨#[]⟩) := fun o1 o2 o3 => (((R6.out.alloc o1).alloc o2).alloc o3).cell 0
            have r31 : ∀ o1 o2 o3, (((w6.alloc o1).alloc o2).alloc o3).cell? ⟨w.heap.size, 1, none⟩ = some (.slice none 0 0) := fun o1 o2 o3 => (((R6.out.alloc o1).alloc o2).alloc o3).cell 1
            have r3f : ∀ o1 o2 o3 i, (((w6.alloc o1).alloc o2).alloc o3).frozen? ⟨w.heap.size, i, none⟩ = false := fun o1 o2 o3 => (((R6.out.alloc o1).alloc o2).alloc o3).frozen
            have HZ6 : Hid (∀ b, (w5.alloc (.cells #[.string t5.name, .slice a5 t5.args.length c5] 25)).heap.size ≤ b → w.heap.size < b) := fun b hb => by
              simp at hb
              omega
            obtain rfl | rfl : k4 = 2 ∨ k4 = 3 := by omega
            · clear hth hhb hh hn6 hn6' hz6 hz5 hn5 hn5' hc5 hc5' hc6 hc6' hi hm hc hr hzl h42 h41 h40 hk4 h1 hk1 h3
              have HS0 : TwoS w5 w6 t5 t6 a5 a6 c5 c6 (w6.alloc (.cells #[.string t6.name, .slice a6 t6.args.length c6] 25)).drew := ⟨X6.out.alloc _, Y6.out⟩
              refine wp_region_held_drew (S := TwoS w5 w6 t5 t6 a5 a6 c5 c6) (by kernel_rfl) HS0 (fun hHeld => ?_)
              refine wpAnyH_take (i := 1) (v := ?_) rfl (by kernel_rfl) (by kernel_rfl) (by kernel_rfl) (fun _ _ _ h => h) (Or.inl ⟨by rfl, ?_⟩) (by assumption) ?_
              rotate_left
              · intro w' hSw
                go_simp <;> with_reducible rfl
              try simp only [Act.put, List.setIfInBounds_toArray, List.set_cons_zero, List.set_cons_succ, List.getElem_toArray, List.getElem_cons_succ, List.getElem_cons_zero]
              refine wpAnyH_take (i := 2) (v := ?_) rfl (by kernel_rfl) (by kernel_rfl) (by kernel_rfl) (fun _ _ _ h => h) (Or.inl ⟨by rfl, ?_⟩) (by assumption) ?_
              rotate_left
              · intro w' hSw
                go_simp <;> with_reducible rfl
              try simp only [Act.put, List.setIfInBounds_toArray, List.set_cons_zero, List.set_cons_succ, List.getElem_toArray, List.getElem_cons_succ, List.getElem_cons_zero]
              refine wpAnyH_take (i := 7) (v := ?_) rfl (by kernel_rfl) (by kernel_rfl) (by kernel_rfl) (fun _ _ _ h => h) (Or.inl ⟨by rfl, ?_⟩) (by assumption) ?_
              rotate_left
              · intro w' hSw
                have k0 : w'.cell? ⟨w5.heap.size, 0, none⟩ = some (.string t5.name) := hSw.1.cell 0
                have k1 : w'.cell? ⟨w5.heap.size, 1, none⟩ = some (.slice a5 t5.args.length c5) := hSw.1.cell 1
                go_simp <;> with_reducible rfl
              try simp only [Act.put, List.setIfInBounds_toArray, List.set_cons_zero, List.set_cons_succ, List.getElem_toArray, List.getElem_cons_succ, List.getElem_cons_zero]
              refine wpAnyH_take (i := 8) (v := ?_) rfl (by kernel_rfl) (by kernel_rfl) (by kernel_rfl) (fun _ _ _ h => h) (Or.inl ⟨by rfl, ?_⟩) (by assumption) ?_
              rotate_left
              · intro w' hSw
                have k2 : w'.cell? ⟨w6.heap.size, 0, none⟩ = some (.string t6.name) := hSw.2.cell 0
                have k3 : w'.cell? ⟨w6.heap.size, 1, none⟩ = some (.slice a6 t6.args.length c6) := hSw.2.cell 1
                go_simp <;> with_reducible rfl
              try simp only [Act.put, List.setIfInBounds_toArray, List.set_cons_zero, List.set_cons_succ, List.getElem_toArray, List.getElem_cons_succ, List.getElem_cons_zero]
              refine wpAnyH_take (i := 11) (v := ?_) rfl (by kernel_rfl) (by kernel_rfl) (by kernel_rfl) (fun _ _ _ h => h) (Or.inl ⟨by rfl, ?_⟩) (by assumption) ?_
              rotate_left
              · intro w' hSw
                go_simp <;> with_reducible rfl
              try simp only [Act.put, List.setIfInBounds_toArray, List.set_cons_zero, List.set_cons_succ, List.getElem_toArray, List.getElem_cons_succ, List.getElem_cons_zero]
              refine wpAnyH_ready (rs := [0, 3, 9]) (by kernel_rfl) (by simp) ?_
              refine AllReadyH.cons rfl (fun K hK => ?_) (AllReadyH.cons rfl (fun K hK => ?_) (AllReadyH.cons rfl (fun K hK => ?_) AllReadyH.nil))
              · go_simp
                refine hK.out _ _ (by exact hHeld.alloc _) (fun hHeld => ?_)
                clear hK K
                try simp only [Act.put, List.setIfInBounds_toArray, List.set_cons_zero, List.set_cons_succ, List.getElem_toArray, List.getElem_cons_succ, List.getElem_cons_zero]
                refine held_mono (S' := TwoF w5 w6 t5 t6 a5 a6 c5 c6 (w6.heap.size + 1)) (fun _ h => h.1) _ _ _ _ ?_
                replace hHeld := two_up (b := w6.heap.size + 1) hHeld (by exact blk_at (w := w6.alloc (.cells #[.string t6.name, .slice a6 t6.args.length c6] 25)) (by simp) _ _)
                refine wpAnyH_ready (rs := [3, 9]) (by kernel_rfl) (by simp) ?_
                refine AllReadyH.cons rfl (fun K hK => ?_) (AllReadyH.cons rfl (fun K hK => ?_) AllReadyH.nil)
                · go_simp
                  go_at_call 17
                  refine (HPK.out _).mono ?_
                  rintro e w7 ⟨rfl, rfl⟩
                  go_simp
                  refine hK.out _ _ (by exact hHeld) (fun hHeld => ?_)
                  clear hK K
                  try simp only [Act.put, List.setIfInBounds_toArray, List.set_cons_zero, List.set_cons_succ, List.getElem_toArray, List.getElem_cons_succ, List.getElem_cons_zero]
                  refine wpAnyH_take (i := 4) (v := ?_) rfl (by kernel_rfl) (by kernel_rfl) (by kernel_rfl) (fun _ _ _ h => h) (Or.inl ⟨by rfl, ?_⟩) (by assumption) ?_
                  rotate_left
                  · intro w' hSw
                    go_simp <;> with_reducible rfl
                  try simp only [Act.put, List.setIfInBounds_toArray, List.set_cons_zero, List.set_cons_succ, List.getElem_toArray, List.getElem_cons_succ, List.getElem_cons_zero]
                  refine wpAnyH_take (i := 5) (v := ?_) rfl (by kernel_rfl) (by kernel_rfl) (by kernel_rfl) (fun _ _ _ h => h) (Or.inl ⟨by rfl, ?_⟩) (by assumption) ?_
                  rotate_left
                  · intro w' hSw
                    go_simp <;> with_reducible rfl
                  try simp only [Act.put, List.setIfInBounds_toArray, List.set_cons_zero, List.set_cons_succ, List.getElem_toArray, List.getElem_cons_succ, List.getElem_cons_zero]
                  refine wpAnyH_take (i := 6) (v := ?_) rfl (by kernel_rfl) (by kernel_rfl) (by kernel_rfl) (fun _ _ _ h => h) (Or.inl ⟨by rfl, ?_⟩) (by assumption) ?_
                  rotate_left
                  · intro w' hSw
                    have k4 : w'.cell? ⟨w6.heap.size + 1, 0, none⟩ = some (.string ⟨#[102]⟩) := hSw.2.cell 0
                    have k5 : w'.cell? ⟨w6.heap.size + 1, 1, none⟩ = some (.string ⟨#[103]⟩) := hSw.2.cell 1
                    go_simp <;> with_reducible rfl
                  try simp only [Act.put, List.setIfInBounds_toArray, List.set_cons_zero, List.set_cons_succ, List.getElem_toArray, List.getElem_cons_succ, List.getElem_cons_zero]
                  refine wpAnyH_ready (rs := [9]) (by kernel_rfl) (by simp) ?_
                  refine AllReadyH.cons rfl (fun K hK => ?_) AllReadyH.nil
                  · go_simp
                    refine hK.out _ _ (by exact hHeld.alloc _) (fun hHeld => ?_)
                    clear hK K
                    try simp only [Act.put, List.setIfInBounds_toArray, List.set_cons_zero, List.set_cons_succ, List.getElem_toArray, List.getElem_cons_succ, List.getElem_cons_zero]
                    refine wpAnyH_take (i := 10) (v := ?_) rfl (by kernel_rfl) (by kernel_rfl) (by kernel_rfl) (fun _ _ _ h => h) (Or.inl ⟨by rfl, ?_⟩) (by assumption) ?_
                    rotate_left
                    · intro w' hSw
                      go_simp <;> with_reducible rfl
                    try simp only [Act.put, List.setIfInBounds_toArray, List.set_cons_zero, List.set_cons_succ, List.getElem_toArray, List.getElem_cons_succ, List.getElem_cons_zero]
                    refine wpAnyH_ready (rs := [12]) (by kernel_rfl) (by simp) ?_
                    refine AllReadyH.cons rfl (fun K hK => ?_) AllReadyH.nil
                    · go_simp
                      refine hK.out _ _ (by exact two_endA _ _ _ X6.out (Nat.ne_of_gt hlt5)) (fun hHeld => ?_)
                      clear hK K
                      try simp only [Act.put, List.setIfInBounds_toArray, List.set_cons_zero, List.set_cons_succ, List.getElem_toArray, List.getElem_cons_succ, List.getElem_cons_zero]
                      refine wpAnyH_take (i := 13) (v := ?_) rfl (by kernel_rfl) (by kernel_rfl) (by kernel_rfl) (fun _ _ _ h => h) (Or.inl ⟨by rfl, ?_⟩) (by assumption) ?_
                      rotate_left
                      · intro w' hSw
                        go_simp <;> with_reducible rfl
                      try simp only [Act.put, List.setIfInBounds_toArray, List.set_cons_zero, List.set_cons_succ, List.getElem_toArray, List.getElem_cons_succ, List.getElem_cons_zero]
                      refine wpAnyH_done (by kernel_rfl) ?_ _
                      go_wp2_with fail
                      refine bodyPost_ret (v := .tuple #[.agg #[.string ⟨#[102]⟩, .slice (some ⟨w6.heap.size + 1 + 1, 0, none⟩) 2 2], .int .i64 (n6 : Int)]) (by simp [results, Try.results49, go_sem, World.cell?_setCell_same, World.cell?_setCell_other, r0, r1, hlt56, hlt57, hlt58, World.cell?_alloc_old]) rfl ?_
                      exact grow_two B6.out hlt56 S56.out S6.out (fun b hb => Nat.lt_of_lt_of_le R1.out.lt hb) HZ6.out HBIG.out (ok_node (by decide) (by decide) (ok_two HE5.out HE6.out)) (by omega) (by exact blk_at (by simp [World.setCell]) _ _)
                · go_simp
                  refine hK.out _ _ (by exact hHeld.alloc _) (fun hHeld => ?_)
                  clear hK K
                  try simp only [Act.put, List.setIfInBounds_toArray, List.set_cons_zero, List.set_cons_succ, List.getElem_toArray, List.getElem_cons_succ, List.getElem_cons_zero]
                  refine wpAnyH_ready (rs := [3]) (by kernel_rfl) (by simp) ?_
                  refine AllReadyH.cons rfl (fun K hK => ?_) AllReadyH.nil
                  · go_simp
                    go_at_call 17
                    refine (HPK.out _).mono ?_
                    rintro e w7 ⟨rfl, rfl⟩
                    go_simp
                    refine hK.out _ _ (by exact hHeld) (fun hHeld => ?_)
                    clear hK K
                    try simp only [Act.put, List.setIfInBounds_toArray, List.set_cons_zero, List.set_cons_succ, List.getElem_toArray, List.getElem_cons_succ, List.getElem_cons_zero]
                    refine wpAnyH_take (i := 4) (v := ?_) rfl (by kernel_rfl) (by kernel_rfl) (by kernel_rfl) (fun _ _ _ h => h) (Or.inl ⟨by rfl, ?_⟩) (by assumption) ?_
                    rotate_left
                    · intro w' hSw
                      go_simp <;> with_reducible rfl
                    try simp only [Act.put, List.setIfInBounds_toArray, List.set_cons_zero, List.set_cons_succ, List.getElem_toArray, List.getElem_cons_succ, List.getElem_cons_zero]
                    refine wpAnyH_take (i := 5) (v := ?_) rfl (by kernel_rfl) (by kernel_rfl) (by kernel_rfl) (fun _ _ _ h => h) (Or.inl ⟨by rfl, ?_⟩) (by assumption) ?_
                    rotate_left
                    · intro w' hSw
                      go_simp <;> with_reducible rfl
                    try simp only [Act.put, List.setIfInBounds_toArray, List.set_cons_zero, List.set_cons_succ, List.getElem_toArray, List.getElem_cons_succ, List.getElem_cons_zero]
                    refine wpAnyH_take (i := 6) (v := ?_) rfl (by kernel_rfl) (by kernel_rfl) (by kernel_rfl) (fun _ _ _ h => h) (Or.inl ⟨by rfl, ?_⟩) (by assumption) ?_
                    rotate_left
                    · intro w' hSw
                      have k4 : w'.cell? ⟨w6.heap.size + 1, 0, none⟩ = some (.string ⟨#[102]⟩) := hSw.2.cell 0
                      have k5 : w'.cell? ⟨w6.heap.size + 1, 1, none⟩ = some (.string ⟨#[103]⟩) := hSw.2.cell 1
                      go_simp <;> with_reducible rfl
                    try simp only [Act.put, List.setIfInBounds_toArray, List.set_cons_zero, List.set_cons_succ, List.getElem_toArray, List.getElem_cons_succ, List.getElem_cons_zero]
                    refine wpAnyH_take (i := 10) (v := ?_) rfl (by kernel_rfl) (by kernel_rfl) (by kernel_rfl) (fun _ _ _ h => h) (Or.inl ⟨by rfl, ?_⟩) (by assumption) ?_
                    rotate_left
                    · intro w' hSw
                      go_simp <;> with_reducible rfl
                    try simp only [Act.put, List.setIfInBounds_toArray, List.set_cons_zero, List.set_cons_succ, List.getElem_toArray, List.getElem_cons_succ, List.getElem_cons_zero]
                    refine wpAnyH_ready (rs := [12]) (by kernel_rfl) (by simp) ?_
                    refine AllReadyH.cons rfl (fun K hK => ?_) AllReadyH.nil
                    · go_simp
                      refine hK.out _ _ (by exact two_endA _ _ _ X6.out (Nat.ne_of_gt hlt5)) (fun hHeld => ?_)
                      clear hK K
                      try simp only [Act.put, List.setIfInBounds_toArray, List.set_cons_zero, List.set_cons_succ, List.getElem_toArray, List.getElem_cons_succ, List.getElem_cons_zero]
                      refine wpAnyH_take (i := 13) (v := ?_) rfl (by kernel_rfl) (by kernel_rfl) (by kernel_rfl) (fun _ _ _ h => h) (Or.inl ⟨by rfl, ?_⟩) (by assumption) ?_
                      rotate_left
                      · intro w' hSw
                        go_simp <;> with_reducible rfl
                      try simp only [Act.put, List.setIfInBounds_toArray, List.set_cons_zero, List.set_cons_succ, List.getElem_toArray, List.getElem_cons_succ, List.getElem_cons_zero]
                      refine wpAnyH_done (by kernel_rfl) ?_ _
                      go_wp2_with fail
                      refine bodyPost_ret (v := .tuple #[.agg #[.string ⟨#[102]⟩, .slice (some ⟨w6.heap.size + 1 + 1, 0, none⟩) 2 2], .int .i64 (n6 : Int)]) (by simp [results, Try.results49, go_sem, World.cell?_setCell_same, World.cell?_setCell_other, r0, r1, hlt56, hlt57, hlt58, World.cell?_alloc_old]) rfl ?_
                      exact grow_two B6.out hlt56 S56.out S6.out (fun b hb => Nat.lt_of_lt_of_le R1.out.lt hb) HZ6.out HBIG.out (ok_node (by decide) (by decide) (ok_two HE5.out HE6.out)) (by omega) (by exact blk_at (by simp [World.setCell]) _ _)
              · go_simp
                go_at_call 17
                refine (HPK.out _).mono ?_
                rintro e w7 ⟨rfl, rfl⟩
                go_simp
                refine hK.out _ _ (by exact hHeld) (fun hHeld => ?_)
                clear hK K
                try simp only [Act.put, List.setIfInBounds_toArray, List.set_cons_zero, List.set_cons_succ, List.getElem_toArray, List.getElem_cons_succ, List.getElem_cons_zero]
                refine wpAnyH_take (i := 4) (v := ?_) rfl (by kernel_rfl) (by kernel_rfl) (by kernel_rfl) (fun _ _ _ h => h) (Or.inl ⟨by rfl, ?_⟩) (by assumption) ?_
                rotate_left
                · intro w' hSw
                  go_simp <;> with_reducible rfl
                try simp only [Act.put, List.setIfInBounds_toArray, List.set_cons_zero, List.set_cons_succ, List.getElem_toArray, List.getElem_cons_succ, List.getElem_cons_zero]
                refine wpAnyH_ready (rs := [0, 9]) (by kernel_rfl) (by simp) ?_
                refine AllReadyH.cons rfl (fun K hK => ?_) (AllReadyH.cons rfl (fun K hK => ?_) AllReadyH.nil)
                · go_simp
                  refine hK.out _ _ (by exact hHeld.alloc _) (fun hHeld => ?_)
                  clear hK K
                  try simp only [Act.put, List.setIfInBounds_toArray, List.set_cons_zero, List.set_cons_succ, List.getElem_toArray, List.getElem_cons_succ, List.getElem_cons_zero]
                  refine held_mono (S' := TwoF w5 w6 t5 t6 a5 a6 c5 c6 (w6.heap.size + 1)) (fun _ h => h.1) _ _ _ _ ?_
                  replace hHeld := two_up (b := w6.heap.size + 1) hHeld (by exact blk_at (w := w6.alloc (.cells #[.string t6.name, .slice a6 t6.args.length c6] 25)) (by simp) _ _)
                  refine wpAnyH_take (i := 5) (v := ?_) rfl (by kernel_rfl) (by kernel_rfl) (by kernel_rfl) (fun _ _ _ h => h) (Or.inl ⟨by rfl, ?_⟩) (by assumption) ?_
                  rotate_left
                  · intro w' hSw
                    go_simp <;> with_reducible rfl
                  try simp only [Act.put, List.setIfInBounds_toArray, List.set_cons_zero, List.set_cons_succ, List.getElem_toArray, List.getElem_cons_succ, List.getElem_cons_zero]
                  refine wpAnyH_take (i := 6) (v := ?_) rfl (by kernel_rfl) (by kernel_rfl) (by kernel_rfl) (fun _ _ _ h => h) (Or.inl ⟨by rfl, ?_⟩) (by assumption) ?_
                  rotate_left
                  · intro w' hSw
                    have k4 : w'.cell? ⟨w6.heap.size + 1, 0, none⟩ = some (.string ⟨#[102]⟩) := hSw.2.cell 0
                    have k5 : w'.cell? ⟨w6.heap.size + 1, 1, none⟩ = some (.string ⟨#[103]⟩) := hSw.2.cell 1
                    go_simp <;> with_reducible rfl
                  try simp only [Act.put, List.setIfInBounds_toArray, List.set_cons_zero, List.set_cons_succ, List.getElem_toArray, List.getElem_cons_succ, List.getElem_cons_zero]
                  refine wpAnyH_ready (rs := [9]) (by kernel_rfl) (by simp) ?_
                  refine AllReadyH.cons rfl (fun K hK => ?_) AllReadyH.nil
                  · go_simp
                    refine hK.out _ _ (by exact hHeld.alloc _) (fun hHeld => ?_)
                    clear hK K
                    try simp only [Act.put, List.setIfInBounds_toArray, List.set_cons_zero, List.set_cons_succ, List.getElem_toArray, List.getElem_cons_succ, List.getElem_cons_zero]
                    refine wpAnyH_take (i := 10) (v := ?_) rfl (by kernel_rfl) (by kernel_rfl) (by kernel_rfl) (fun _ _ _ h => h) (Or.inl ⟨by rfl, ?_⟩) (by assumption) ?_
                    rotate_left
                    · intro w' hSw
                      go_simp <;> with_reducible rfl
                    try simp only [Act.put, List.setIfInBounds_toArray, List.set_cons_zero, List.set_cons_succ, List.getElem_toArray, List.getElem_cons_succ, List.getElem_cons_zero]
                    refine wpAnyH_ready (rs := [12]) (by kernel_rfl) (by simp) ?_
                    refine AllReadyH.cons rfl (fun K hK => ?_) AllReadyH.nil
                    · go_simp
                      refine hK.out _ _ (by exact two_endA _ _ _ X6.out (Nat.ne_of_gt hlt5)) (fun hHeld => ?_)
                      clear hK K
                      try simp only [Act.put, List.setIfInBounds_toArray, List.set_cons_zero, List.set_cons_succ, List.getElem_toArray, List.getElem_cons_succ, List.getElem_cons_zero]
                      refine wpAnyH_take (i := 13) (v := ?_) rfl (by kernel_rfl) (by kernel_rfl) (by kernel_rfl) (fun _ _ _ h => h) (Or.inl ⟨by rfl, ?_⟩) (by assumption) ?_
                      rotate_left
                      · intro w' hSw
                        go_simp <;> with_reducible rfl
                      try simp only [Act.put, List.setIfInBounds_toArray, List.set_cons_zero, List.set_cons_succ, List.getElem_toArray, List.getElem_cons_succ, List.getElem_cons_zero]
                      refine wpAnyH_done (by kernel_rfl) ?_ _
                      go_wp2_with fail
                      refine bodyPost_ret (v := .tuple #[.agg #[.string ⟨#[102]⟩, .slice (some ⟨w6.heap.size + 1 + 1, 0, none⟩) 2 2], .int .i64 (n6 : Int)]) (by simp [results, Try.results49, go_sem, World.cell?_setCell_same, World.cell?_setCell_other, r0, r1, hlt56, hlt57, hlt58, World.cell?_alloc_old]) rfl ?_
                      exact grow_two B6.out hlt56 S56.out S6.out (fun b hb => Nat.lt_of_lt_of_le R1.out.lt hb) HZ6.out HBIG.out (ok_node (by decide) (by decide) (ok_two HE5.out HE6.out)) (by omega) (by exact blk_at (by simp [World.setCell]) _ _)
                · go_simp
                  refine hK.out _ _ (by exact hHeld.alloc _) (fun hHeld => ?_)
                  clear hK K
                  try simp only [Act.put, List.setIfInBounds_toArray, List.set_cons_zero, List.set_cons_succ, List.getElem_toArray, List.getElem_cons_succ, List.getElem_cons_zero]
                  refine wpAnyH_ready (rs := [0]) (by kernel_rfl) (by simp) ?_
                  refine AllReadyH.cons rfl (fun K hK => ?_) AllReadyH.nil
                  · go_simp
                    refine hK.out _ _ (by exact hHeld.alloc _) (fun hHeld => ?_)
                    clear hK K
                    try simp only [Act.put, List.setIfInBounds_toArray, List.set_cons_zero, List.set_cons_succ, List.getElem_toArray, List.getElem_cons_succ, List.getElem_cons_zero]
                    refine held_mono (S' := TwoF w5 w6 t5 t6 a5 a6 c5 c6 (w6.heap.size + 1 + 1)) (fun _ h => h.1) _ _ _ _ ?_
                    replace hHeld := two_up (b := w6.heap.size + 1 + 1) hHeld (by exact blk_at (w := (w6.alloc (.cells #[.string t6.name, .slice a6 t6.args.length c6] 25)).alloc (.cells #[.string t5.name, .slice a5 t5.args.length c5, .string t6.name, .slice a6 t6.args.length c6] 25)) (by simp) _ _)
                    refine wpAnyH_take (i := 5) (v := ?_) rfl (by kernel_rfl) (by kernel_rfl) (by kernel_rfl) (fun _ _ _ h => h) (Or.inl ⟨by rfl, ?_⟩) (by assumption) ?_
                    rotate_left
                    · intro w' hSw
                      go_simp <;> with_reducible rfl
                    try simp only [Act.put, List.setIfInBounds_toArray, List.set_cons_zero, List.set_cons_succ, List.getElem_toArray, List.getElem_cons_succ, List.getElem_cons_zero]
                    refine wpAnyH_take (i := 6) (v := ?_) rfl (by kernel_rfl) (by kernel_rfl) (by kernel_rfl) (fun _ _ _ h => h) (Or.inl ⟨by rfl, ?_⟩) (by assumption) ?_
                    rotate_left
                    · intro w' hSw
                      have k4 : w'.cell? ⟨w6.heap.size + 1 + 1, 0, none⟩ = some (.string ⟨#[102]⟩) := hSw.2.cell 0
                      have k5 : w'.cell? ⟨w6.heap.size + 1 + 1, 1, none⟩ = some (.string ⟨#[103]⟩) := hSw.2.cell 1
                      go_simp <;> with_reducible rfl
                    try simp only [Act.put, List.setIfInBounds_toArray, List.set_cons_zero, List.set_cons_succ, List.getElem_toArray, List.getElem_cons_succ, List.getElem_cons_zero]
                    refine wpAnyH_take (i := 10) (v := ?_) rfl (by kernel_rfl) (by kernel_rfl) (by kernel_rfl) (fun _ _ _ h => h) (Or.inl ⟨by rfl, ?_⟩) (by assumption) ?_
                    rotate_left
                    · intro w' hSw
                      go_simp <;> with_reducible rfl
                    try simp only [Act.put, List.setIfInBounds_toArray, List.set_cons_zero, List.set_cons_succ, List.getElem_toArray, List.getElem_cons_succ, List.getElem_cons_zero]
                    refine wpAnyH_ready (rs := [12]) (by kernel_rfl) (by simp) ?_
                    refine AllReadyH.cons rfl (fun K hK => ?_) AllReadyH.nil
                    · go_simp
                      refine hK.out _ _ (by exact two_endB _ _ _ X6.out (Nat.ne_of_gt hlt5)) (fun hHeld => ?_)
                      clear hK K
                      try simp only [Act.put, List.setIfInBounds_toArray, List.set_cons_zero, List.set_cons_succ, List.getElem_toArray, List.getElem_cons_succ, List.getElem_cons_zero]
                      refine wpAnyH_take (i := 13) (v := ?_) rfl (by kernel_rfl) (by kernel_rfl) (by kernel_rfl) (fun _ _ _ h => h) (Or.inl ⟨by rfl, ?_⟩) (by assumption) ?_
                      rotate_left
                      · intro w' hSw
                        go_simp <;> with_reducible rfl
                      try simp only [Act.put, List.setIfInBounds_toArray, List.set_cons_zero, List.set_cons_succ, List.getElem_toArray, List.getElem_cons_succ, List.getElem_cons_zero]
                      refine wpAnyH_done (by kernel_rfl) ?_ _
                      go_wp2_with fail
                      refine bodyPost_ret (v := .tuple #[.agg #[.string ⟨#[102]⟩, .slice (some ⟨w6.heap.size + 1, 0, none⟩) 2 2], .int .i64 (n6 : Int)]) (by simp [results, Try.results49, go_sem, World.cell?_setCell_same, World.cell?_setCell_other, r0, r1, hlt56, hlt57, hlt58, World.cell?_alloc_old]) rfl ?_
                      exact grow_two B6.out hlt56 S56.out S6.out (fun b hb => Nat.lt_of_lt_of_le R1.out.lt hb) HZ6.out HBIG.out (ok_node (by decide) (by decide) (ok_two HE5.out HE6.out)) (by omega) (by exact (blk_at (by simp [World.setCell]) _ _).alloc _)
              · go_simp
                refine hK.out _ _ (by exact hHeld.alloc _) (fun hHeld => ?_)
                clear hK K
                try simp only [Act.put, List.setIfInBounds_toArray, List.set_cons_zero, List.set_cons_succ, List.getElem_toArray, List.getElem_cons_succ, List.getElem_cons_zero]
                refine wpAnyH_ready (rs := [0, 3]) (by kernel_rfl) (by simp) ?_
                refine AllReadyH.cons rfl (fun K hK => ?_) (AllReadyH.cons rfl (fun K hK => ?_) AllReadyH.nil)
                · go_simp
                  refine hK.out _ _ (by exact hHeld.alloc _) (fun hHeld => ?_)
                  clear hK K
                  try simp only [Act.put, List.setIfInBounds_toArray, List.set_cons_zero, List.set_cons_succ, List.getElem_toArray, List.getElem_cons_succ, List.getElem_cons_zero]
                  refine held_mono (S' := TwoF w5 w6 t5 t6 a5 a6 c5 c6 (w6.heap.size + 1 + 1)) (fun _ h => h.1) _ _ _ _ ?_
                  replace hHeld := two_up (b := w6.heap.size + 1 + 1) hHeld (by exact blk_at (w := (w6.alloc (.cells #[.string t6.name, .slice a6 t6.args.length c6] 25)).alloc (.cells #[.string t5.name, .slice a5 t5.args.length c5, .string t6.name, .slice a6 t6.args.length c6] 25)) (by simp) _ _)
                  refine wpAnyH_ready (rs := [3]) (by kernel_rfl) (by simp) ?_
                  refine AllReadyH.cons rfl (fun K hK => ?_) AllReadyH.nil
                  · go_simp
                    go_at_call 17
                    refine (HPK.out _).mono ?_
                    rintro e w7 ⟨rfl, rfl⟩
                    go_simp
                    refine hK.out _ _ (by exact hHeld) (fun hHeld => ?_)
                    clear hK K
                    try simp only [Act.put, List.setIfInBounds_toArray, List.set_cons_zero, List.set_cons_succ, List.getElem_toArray, List.getElem_cons_succ, List.getElem_cons_zero]
                    refine wpAnyH_take (i := 4) (v := ?_) rfl (by kernel_rfl) (by kernel_rfl) (by kernel_rfl) (fun _ _ _ h => h) (Or.inl ⟨by rfl, ?_⟩) (by assumption) ?_
                    rotate_left
                    · intro w' hSw
                      go_simp <;> with_reducible rfl
                    try simp only [Act.put, List.setIfInBounds_toArray, List.set_cons_zero, List.set_cons_succ, List.getElem_toArray, List.getElem_cons_succ, List.getElem_cons_zero]
                    refine wpAnyH_take (i := 5) (v := ?_) rfl (by kernel_rfl) (by kernel_rfl) (by kernel_rfl) (fun _ _ _ h => h) (Or.inl ⟨by rfl, ?_⟩) (by assumption) ?_
                    rotate_left
                    · intro w' hSw
                      go_simp <;> with_reducible rfl
                    try simp only [Act.put, List.setIfInBounds_toArray, List.set_cons_zero, List.set_cons_succ, List.getElem_toArray, List.getElem_cons_succ, List.getElem_cons_zero]
                    refine wpAnyH_take (i := 6) (v := ?_) rfl (by kernel_rfl) (by kernel_rfl) (by kernel_rfl) (fun _ _ _ h => h) (Or.inl ⟨by rfl, ?_⟩) (by assumption) ?_
                    rotate_left
                    · intro w' hSw
                      have k4 : w'.cell? ⟨w6.heap.size + 1 + 1, 0, none⟩ = some (.string ⟨#[102]⟩) := hSw.2.cell 0
                      have k5 : w'.cell? ⟨w6.heap.size + 1 + 1, 1, none⟩ = some (.string ⟨#[103]⟩) := hSw.2.cell 1
                      go_simp <;> with_reducible rfl
                    try simp only [Act.put, List.setIfInBounds_toArray, List.set_cons_zero, List.set_cons_succ, List.getElem_toArray, List.getElem_cons_succ, List.getElem_cons_zero]
                    refine wpAnyH_take (i := 10) (v := ?_) rfl (by kernel_rfl) (by kernel_rfl) (by kernel_rfl) (fun _ _ _ h => h) (Or.inl ⟨by rfl, ?_⟩) (by assumption) ?_
                    rotate_left
                    · intro w' hSw
                      go_simp <;> with_reducible rfl
                    try simp only [Act.put, List.setIfInBounds_toArray, List.set_cons_zero, List.set_cons_succ, List.getElem_toArray, List.getElem_cons_succ, List.getElem_cons_zero]
                    refine wpAnyH_ready (rs := [12]) (by kernel_rfl) (by simp) ?_
                    refine AllReadyH.cons rfl (fun K hK => ?_) AllReadyH.nil
                    · go_simp
                      refine hK.out _ _ (by exact two_endB _ _ _ X6.out (Nat.ne_of_gt hlt5)) (fun hHeld => ?_)
                      clear hK K
                      try simp only [Act.put, List.setIfInBounds_toArray, List.set_cons_zero, List.set_cons_succ, List.getElem_toArray, List.getElem_cons_succ, List.getElem_cons_zero]
                      refine wpAnyH_take (i := 13) (v := ?_) rfl (by kernel_rfl) (by kernel_rfl) (by kernel_rfl) (fun _ _ _ h => h) (Or.inl ⟨by rfl, ?_⟩) (by assumption) ?_
                      rotate_left
                      · intro w' hSw
                        go_simp <;> with_reducible rfl
                      try simp only [Act.put, List.setIfInBounds_toArray, List.set_cons_zero, List.set_cons_succ, List.getElem_toArray, List.getElem_cons_succ, List.getElem_cons_zero]
                      refine wpAnyH_done (by kernel_rfl) ?_ _
                      go_wp2_with fail
                      refine bodyPost_ret (v := .tuple #[.agg #[.string ⟨#[102]⟩, .slice (some ⟨w6.heap.size + 1, 0, none⟩) 2 2], .int .i64 (n6 : Int)]) (by simp [results, Try.results49, go_sem, World.cell?_setCell_same, World.cell?_setCell_other, r0, r1, hlt56, hlt57, hlt58, World.cell?_alloc_old]) rfl ?_
                      exact grow_two B6.out hlt56 S56.out S6.out (fun b hb => Nat.lt_of_lt_of_le R1.out.lt hb) HZ6.out HBIG.out (ok_node (by decide) (by decide) (ok_two HE5.out HE6.out)) (by omega) (by exact (blk_at (by simp [World.setCell]) _ _).alloc _)
                · go_simp
                  go_at_call 17
                  refine (HPK.out _).mono ?_
                  rintro e w7 ⟨rfl, rfl⟩
                  go_simp
                  refine hK.out _ _ (by exact hHeld) (fun hHeld => ?_)
                  clear hK K
                  try simp only [Act.put, List.setIfInBounds_toArray, List.set_cons_zero, List.set_cons_succ, List.getElem_toArray, List.getElem_cons_succ, List.getElem_cons_zero]
                  refine wpAnyH_take (i := 4) (v := ?_) rfl (by kernel_rfl) (by kernel_rfl) (by kernel_rfl) (fun _ _ _ h => h) (Or.inl ⟨by rfl, ?_⟩) (by assumption) ?_
                  rotate_left
                  · intro w' hSw
                    go_simp <;> with_reducible rfl
                  try simp only [Act.put, List.setIfInBounds_toArray, List.set_cons_zero, List.set_cons_succ, List.getElem_toArray, List.getElem_cons_succ, List.getElem_cons_zero]
                  refine wpAnyH_ready (rs := [0]) (by kernel_rfl) (by simp) ?_
                  refine AllReadyH.cons rfl (fun K hK => ?_) AllReadyH.nil
                  · go_simp
                    refine hK.out _ _ (by exact hHeld.alloc _) (fun hHeld => ?_)
                    clear hK K
                    try simp only [Act.put, List.setIfInBounds_toArray, List.set_cons_zero, List.set_cons_succ, List.getElem_toArray, List.getElem_cons_succ, List.getElem_cons_zero]
                    refine held_mono (S' := TwoF w5 w6 t5 t6 a5 a6 c5 c6 (w6.heap.size + 1 + 1)) (fun _ h => h.1) _ _ _ _ ?_
                    replace hHeld := two_up (b := w6.heap.size + 1 + 1) hHeld (by exact blk_at (w := (w6.alloc (.cells #[.string t6.name, .slice a6 t6.args.length c6] 25)).alloc (.cells #[.string t5.name, .slice a5 t5.args.length c5, .string t6.name, .slice a6 t6.args.length c6] 25)) (by simp) _ _)
                    refine wpAnyH_take (i := 5) (v := ?_) rfl (by kernel_rfl) (by kernel_rfl) (by kernel_rfl) (fun _ _ _ h => h) (Or.inl ⟨by rfl, ?_⟩) (by assumption) ?_
                    rotate_left
                    · intro w' hSw
                      go_simp <;> with_reducible rfl
                    try simp only [Act.put, List.setIfInBounds_toArray, List.set_cons_zero, List.set_cons_succ, List.getElem_toArray, List.getElem_cons_succ, List.getElem_cons_zero]
                    refine wpAnyH_take (i := 6) (v := ?_) rfl (by kernel_rfl) (by kernel_rfl) (by kernel_rfl) (fun _ _ _ h => h) (Or.inl ⟨by rfl, ?_⟩) (by assumption) ?_
                    rotate_left
                    · intro w' hSw
                      have k4 : w'.cell? ⟨w6.heap.size + 1 + 1, 0, none⟩ = some (.string ⟨#[102]⟩) := hSw.2.cell 0
                      have k5 : w'.cell? ⟨w6.heap.size + 1 + 1, 1, none⟩ = some (.string ⟨#[103]⟩) := hSw.2.cell 1
                      go_simp <;> with_reducible rfl
                    try simp only [Act.put, List.setIfInBounds_toArray, List.set_cons_zero, List.set_cons_succ, List.getElem_toArray, List.getElem_cons_succ, List.getElem_cons_zero]
                    refine wpAnyH_take (i := 10) (v := ?_) rfl (by kernel_rfl) (by kernel_rfl) (by kernel_rfl) (fun _ _ _ h => h) (Or.inl ⟨by rfl, ?_⟩) (by assumption) ?_
                    rotate_left
                    · intro w' hSw
                      go_simp <;> with_reducible rfl
                    try simp only [Act.put, List.setIfInBounds_toArray, List.set_cons_zero, List.set_cons_succ, List.getElem_toArray, List.getElem_cons_succ, List.getElem_cons_zero]
                    refine wpAnyH_ready (rs := [12]) (by kernel_rfl) (by simp) ?_
                    refine AllReadyH.cons rfl (fun K hK => ?_) AllReadyH.nil
                    · go_simp
                      refine hK.out _ _ (by exact two_endB _ _ _ X6.out (Nat.ne_of_gt hlt5)) (fun hHeld => ?_)
                      clear hK K
                      try simp only [Act.put, List.setIfInBounds_toArray, List.set_cons_zero, List.set_cons_succ, List.getElem_toArray, List.getElem_cons_succ, List.getElem_cons_zero]
                      refine wpAnyH_take (i := 13) (v := ?_) rfl (by kernel_rfl) (by kernel_rfl) (by kernel_rfl) (fun _ _ _ h => h) (Or.inl ⟨by rfl, ?_⟩) (by assumption) ?_
                      rotate_left
                      · intro w' hSw
                        go_simp <;> with_reducible rfl
                      try simp only [Act.put, List.setIfInBounds_toArray, List.set_cons_zero, List.set_cons_succ, List.getElem_toArray, List.getElem_cons_succ, List.getElem_cons_zero]
                      refine wpAnyH_done (by kernel_rfl) ?_ _
                      go_wp2_with fail
                      refine bodyPost_ret (v := .tuple #[.agg #[.string ⟨#[102]⟩, .slice (some ⟨w6.heap.size + 1, 0, none⟩) 2 2], .int .i64 (n6 : Int)]) (by simp [results, Try.results49, go_sem, World.cell?_setCell_same, World.cell?_setCell_other, r0, r1, hlt56, hlt57, hlt58, World.cell?_alloc_old]) rfl ?_
                      exact grow_two B6.out hlt56 S56.out S6.out (fun b hb => Nat.lt_of_lt_of_le R1.out.lt hb) HZ6.out HBIG.out (ok_node (by decide) (by decide) (ok_two HE5.out HE6.out)) (by omega) (by exact (blk_at (by simp [World.setCell]) _ _).alloc _)
            · clear hth hhb hh hn6 hn6' hz6 hz5 hn5 hn5' hc5 hc5' hc6 hc6' hi hm hc hr hzl h42 h41 h40 hk4 h1 hk1 h3
              have HS0 : TwoS w5 w6 t5 t6 a5 a6 c5 c6 (w6.alloc (.cells #[.string t6.name, .slice a6 t6.args.length c6] 25)).drew := ⟨X6.out.alloc _, Y6.out⟩
              refine wp_region_held_drew (S := TwoS w5 w6 t5 t6 a5 a6 c5 c6) (by kernel_rfl) HS0 (fun hHeld => ?_)
              refine wpAnyH_take (i := 1) (v := ?_) rfl (by kernel_rfl) (by kernel_rfl) (by kernel_rfl) (fun _ _ _ h => h) (Or.inl ⟨by rfl, ?_⟩) (by assumption) ?_
              rotate_left
              · intro w' hSw
                go_simp <;> with_reducible rfl
              try simp only [Act.put, List.setIfInBounds_toArray, List.set_cons_zero, List.set_cons_succ, List.getElem_toArray, List.getElem_cons_succ, List.getElem_cons_zero]
              refine wpAnyH_take (i := 2) (v := ?_) rfl (by kernel_rfl) (by kernel_rfl) (by kernel_rfl) (fun _ _ _ h => h) (Or.inl ⟨by rfl, ?_⟩) (by assumption) ?_
              rotate_left
              · intro w' hSw
                go_simp <;> with_reducible rfl
              try simp only [Act.put, List.setIfInBounds_toArray, List.set_cons_zero, List.set_cons_succ, List.getElem_toArray, List.getElem_cons_succ, List.getElem_cons_zero]
              refine wpAnyH_take (i := 7) (v := ?_) rfl (by kernel_rfl) (by kernel_rfl) (by kernel_rfl) (fun _ _ _ h => h) (Or.inl ⟨by rfl, ?_⟩) (by assumption) ?_
              rotate_left
              · intro w' hSw
                have k0 : w'.cell? ⟨w5.heap.size, 0, none⟩ = some (.string t5.name) := hSw.1.cell 0
                have k1 : w'.cell? ⟨w5.heap.size, 1, none⟩ = some (.slice a5 t5.args.length c5) := hSw.1.cell 1
                go_simp <;> with_reducible rfl
              try simp only [Act.put, List.setIfInBounds_toArray, List.set_cons_zero, List.set_cons_succ, List.getElem_toArray, List.getElem_cons_succ, List.getElem_cons_zero]
              refine wpAnyH_take (i := 8) (v := ?_) rfl (by kernel_rfl) (by kernel_rfl) (by kernel_rfl) (fun _ _ _ h => h) (Or.inl ⟨by rfl, ?_⟩) (by assumption) ?_
              rotate_left
              · intro w' hSw
                have k2 : w'.cell? ⟨w6.heap.size, 0, none⟩ = some (.string t6.name) := hSw.2.cell 0
                have k3 : w'.cell? ⟨w6.heap.size, 1, none⟩ = some (.slice a6 t6.args.length c6) := hSw.2.cell 1
                go_simp <;> with_reducible rfl
              try simp only [Act.put, List.setIfInBounds_toArray, List.set_cons_zero, List.set_cons_succ, List.getElem_toArray, List.getElem_cons_succ, List.getElem_cons_zero]
              refine wpAnyH_take (i := 11) (v := ?_) rfl (by kernel_rfl) (by kernel_rfl) (by kernel_rfl) (fun _ _ _ h => h) (Or.inl ⟨by rfl, ?_⟩) (by assumption) ?_
              rotate_left
              · intro w' hSw
                go_simp <;> with_reducible rfl
              try simp only [Act.put, List.setIfInBounds_toArray, List.set_cons_zero, List.set_cons_succ, List.getElem_toArray, List.getElem_cons_succ, List.getElem_cons_zero]
              refine wpAnyH_ready (rs := [0, 3, 9]) (by kernel_rfl) (by simp) ?_
              refine AllReadyH.cons rfl (fun K hK => ?_) (AllReadyH.cons rfl (fun K hK => ?_) (AllReadyH.cons rfl (fun K hK => ?_) AllReadyH.nil))
              · go_simp
                refine hK.out _ _ (by exact hHeld.alloc _) (fun hHeld => ?_)
                clear hK K
                try simp only [Act.put, List.setIfInBounds_toArray, List.set_cons_zero, List.set_cons_succ, List.getElem_toArray, List.getElem_cons_succ, List.getElem_cons_zero]
                refine held_mono (S' := TwoF w5 w6 t5 t6 a5 a6 c5 c6 (w6.heap.size + 1)) (fun _ h => h.1) _ _ _ _ ?_
                replace hHeld := two_up (b := w6.heap.size + 1) hHeld (by exact blk_at (w := w6.alloc (.cells #[.string t6.name, .slice a6 t6.args.length c6] 25)) (by simp) _ _)
                refine wpAnyH_ready (rs := [3, 9]) (by kernel_rfl) (by simp) ?_
                refine AllReadyH.cons rfl (fun K hK => ?_) (AllReadyH.cons rfl (fun K hK => ?_) AllReadyH.nil)
                · go_simp
                  go_at_call 17
                  refine (HPK.out _).mono ?_
                  rintro e w7 ⟨rfl, rfl⟩
                  go_simp
                  refine hK.out _ _ (by exact hHeld) (fun hHeld => ?_)
                  clear hK K
                  try simp only [Act.put, List.setIfInBounds_toArray, List.set_cons_zero, List.set_cons_succ, List.getElem_toArray, List.getElem_cons_succ, List.getElem_cons_zero]
                  refine wpAnyH_take (i := 4) (v := ?_) rfl (by kernel_rfl) (by kernel_rfl) (by kernel_rfl) (fun _ _ _ h => h) (Or.inl ⟨by rfl, ?_⟩) (by assumption) ?_
                  rotate_left
                  · intro w' hSw
                    go_simp <;> with_reducible rfl
                  try simp only [Act.put, List.setIfInBounds_toArray, List.set_cons_zero, List.set_cons_succ, List.getElem_toArray, List.getElem_cons_succ, List.getElem_cons_zero]
                  refine wpAnyH_take (i := 5) (v := ?_) rfl (by kernel_rfl) (by kernel_rfl) (by kernel_rfl) (fun _ _ _ h => h) (Or.inl ⟨by rfl, ?_⟩) (by assumption) ?_
                  rotate_left
                  · intro w' hSw
                    go_simp <;> with_reducible rfl
                  try simp only [Act.put, List.setIfInBounds_toArray, List.set_cons_zero, List.set_cons_succ, List.getElem_toArray, List.getElem_cons_succ, List.getElem_cons_zero]
                  refine wpAnyH_take (i := 6) (v := ?_) rfl (by kernel_rfl) (by kernel_rfl) (by kernel_rfl) (fun _ _ _ h => h) (Or.inl ⟨by rfl, ?_⟩) (by assumption) ?_
                  rotate_left
                  · intro w' hSw
                    have k4 : w'.cell? ⟨w6.heap.size + 1, 0, none⟩ = some (.string ⟨#[102]⟩) := hSw.2.cell 0
                    have k5 : w'.cell? ⟨w6.heap.size + 1, 1, none⟩ = some (.string ⟨#[103]⟩) := hSw.2.cell 1
                    go_simp <;> with_reducible rfl
                  try simp only [Act.put, List.setIfInBounds_toArray, List.set_cons_zero, List.set_cons_succ, List.getElem_toArray, List.getElem_cons_succ, List.getElem_cons_zero]
                  refine wpAnyH_ready (rs := [9]) (by kernel_rfl) (by simp) ?_
                  refine AllReadyH.cons rfl (fun K hK => ?_) AllReadyH.nil
                  · go_simp
                    refine hK.out _ _ (by exact hHeld.alloc _) (fun hHeld => ?_)
                    clear hK K
                    try simp only [Act.put, List.setIfInBounds_toArray, List.set_cons_zero, List.set_cons_succ, List.getElem_toArray, List.getElem_cons_succ, List.getElem_cons_zero]
                    refine wpAnyH_take (i := 10) (v := ?_) rfl (by kernel_rfl) (by kernel_rfl) (by kernel_rfl) (fun _ _ _ h => h) (Or.inl ⟨by rfl, ?_⟩) (by assumption) ?_
                    rotate_left
                    · intro w' hSw
                      go_simp <;> with_reducible rfl
                    try simp only [Act.put, List.setIfInBounds_toArray, List.set_cons_zero, List.set_cons_succ, List.getElem_toArray, List.getElem_cons_succ, List.getElem_cons_zero]
                    refine wpAnyH_ready (rs := [12]) (by kernel_rfl) (by simp) ?_
                    refine AllReadyH.cons rfl (fun K hK => ?_) AllReadyH.nil
                    · go_simp
                      refine hK.out _ _ (by exact two_endA _ _ _ X6.out (Nat.ne_of_gt hlt5)) (fun hHeld => ?_)
                      clear hK K
                      try simp only [Act.put, List.setIfInBounds_toArray, List.set_cons_zero, List.set_cons_succ, List.getElem_toArray, List.getElem_cons_succ, List.getElem_cons_zero]
                      refine wpAnyH_take (i := 13) (v := ?_) rfl (by kernel_rfl) (by kernel_rfl) (by kernel_rfl) (fun _ _ _ h => h) (Or.inl ⟨by rfl, ?_⟩) (by assumption) ?_
                      rotate_left
                      · intro w' hSw
                        go_simp <;> with_reducible rfl
                      try simp only [Act.put, List.setIfInBounds_toArray, List.set_cons_zero, List.set_cons_succ, List.getElem_toArray, List.getElem_cons_succ, List.getElem_cons_zero]
                      refine wpAnyH_done (by kernel_rfl) ?_ _
                      go_wp2_with fail
                      refine bodyPost_ret (v := .tuple #[.agg #[.string ⟨#[103]⟩, .slice (some ⟨w6.heap.size + 1 + 1, 0, none⟩) 2 2], .int .i64 (n6 : Int)]) (by simp [results, Try.results49, go_sem, World.cell?_setCell_same, World.cell?_setCell_other, r0, r1, hlt56, hlt57, hlt58, World.cell?_alloc_old]) rfl ?_
                      exact grow_two B6.out hlt56 S56.out S6.out (fun b hb => Nat.lt_of_lt_of_le R1.out.lt hb) HZ6.out HBIG.out (ok_node (by decide) (by decide) (ok_two HE5.out HE6.out)) (by omega) (by exact blk_at (by simp [World.setCell]) _ _)
                · go_simp
                  refine hK.out _ _ (by exact hHeld.alloc _) (fun hHeld => ?_)
                  clear hK K
                  try simp only [Act.put, List.setIfInBounds_toArray, List.set_cons_zero, List.set_cons_succ, List.getElem_toArray, List.getElem_cons_succ, List.getElem_cons_zero]
                  refine wpAnyH_ready (rs := [3]) (by kernel_rfl) (by simp) ?_
                  refine AllReadyH.cons rfl (fun K hK => ?_) AllReadyH.nil
                  · go_simp
                    go_at_call 17
                    refine (HPK.out _).mono ?_
                    rintro e w7 ⟨rfl, rfl⟩
                    go_simp
                    refine hK.out _ _ (by exact hHeld) (fun hHeld => ?_)
                    clear hK K
                    try simp only [Act.put, List.setIfInBounds_toArray, List.set_cons_zero, List.set_cons_succ, List.getElem_toArray, List.getElem_cons_succ, List.getElem_cons_zero]
                    refine wpAnyH_take (i := 4) (v := ?_) rfl (by kernel_rfl) (by kernel_rfl) (by kernel_rfl) (fun _ _ _ h => h) (Or.inl ⟨by rfl, ?_⟩) (by assumption) ?_
                    rotate_left
                    · intro w' hSw
                      go_simp <;> with_reducible rfl
                    try simp only [Act.put, List.setIfInBounds_toArray, List.set_cons_zero, List.set_cons_succ, List.getElem_toArray, List.getElem_cons_succ, List.getElem_cons_zero]
                    refine wpAnyH_take (i := 5) (v := ?_) rfl (by kernel_rfl) (by kernel_rfl) (by kernel_rfl) (fun _ _ _ h => h) (Or.inl ⟨by rfl, ?_⟩) (by assumption) ?_
                    rotate_left
                    · intro w' hSw
                      go_simp <;> with_reducible rfl
                    try simp only [Act.put, List.setIfInBounds_toArray, List.set_cons_zero, List.set_cons_succ, List.getElem_toArray, List.getElem_cons_succ, List.getElem_cons_zero]
                    refine wpAnyH_take (i := 6) (v := ?_) rfl (by kernel_rfl) (by kernel_rfl) (by kernel_rfl) (fun _ _ _ h => h) (Or.inl ⟨by rfl, ?_⟩) (by assumption) ?_
                    rotate_left
                    · intro w' hSw
                      have k4 : w'.cell? ⟨w6.heap.size + 1, 0, none⟩ = some (.string ⟨#[102]⟩) := hSw.2.cell 0
                      have k5 : w'.cell? ⟨w6.heap.size + 1, 1, none⟩ = some (.string ⟨#[103]⟩) := hSw.2.cell 1
                      go_simp <;> with_reducible rfl
                    try simp only [Act.put, List.setIfInBounds_toArray, List.set_cons_zero, List.set_cons_succ, List.getElem_toArray, List.getElem_cons_succ, List.getElem_cons_zero]
                    refine wpAnyH_take (i := 10) (v := ?_) rfl (by kernel_rfl) (by kernel_rfl) (by kernel_rfl) (fun _ _ _ h => h) (Or.inl ⟨by rfl, ?_⟩) (by assumption) ?_
                    rotate_left
                    · intro w' hSw
                      go_simp <;> with_reducible rfl
                    try simp only [Act.put, List.setIfInBounds_toArray, List.set_cons_zero, List.set_cons_succ, List.getElem_toArray, List.getElem_cons_succ, List.getElem_cons_zero]
                    refine wpAnyH_ready (rs := [12]) (by kernel_rfl) (by simp) ?_
                    refine AllReadyH.cons rfl (fun K hK => ?_) AllReadyH.nil
                    · go_simp
                      refine hK.out _ _ (by exact two_endA _ _ _ X6.out (Nat.ne_of_gt hlt5)) (fun hHeld => ?_)
                      clear hK K
                      try simp only [Act.put, List.setIfInBounds_toArray, List.set_cons_zero, List.set_cons_succ, List.getElem_toArray, List.getElem_cons_succ, List.getElem_cons_zero]
                      refine wpAnyH_take (i := 13) (v := ?_) rfl (by kernel_rfl) (by kernel_rfl) (by kernel_rfl) (fun _ _ _ h => h) (Or.inl ⟨by rfl, ?_⟩) (by assumption) ?_
                      rotate_left
                      · intro w' hSw
                        go_simp <;> with_reducible rfl
                      try simp only [Act.put, List.setIfInBounds_toArray, List.set_cons_zero, List.set_cons_succ, List.getElem_toArray, List.getElem_cons_succ, List.getElem_cons_zero]
                      refine wpAnyH_done (by kernel_rfl) ?_ _
                      go_wp2_with fail
                      refine bodyPost_ret (v := .tuple #[.agg #[.string ⟨#[103]⟩, .slice (some ⟨w6.heap.size + 1 + 1, 0, none⟩) 2 2], .int .i64 (n6 : Int)]) (by simp [results, Try.results49, go_sem, World.cell?_setCell_same, World.cell?_setCell_other, r0, r1, hlt56, hlt57, hlt58, World.cell?_alloc_old]) rfl ?_
                      exact grow_two B6.out hlt56 S56.out S6.out (fun b hb => Nat.lt_of_lt_of_le R1.out.lt hb) HZ6.out HBIG.out (ok_node (by decide) (by decide) (ok_two HE5.out HE6.out)) (by omega) (by exact blk_at (by simp [World.setCell]) _ _)
              · go_simp
                go_at_call 17
                refine (HPK.out _).mono ?_
                rintro e w7 ⟨rfl, rfl⟩
                go_simp
                refine hK.out _ _ (by exact hHeld) (fun hHeld => ?_)
                clear hK K
                try simp only [Act.put, List.setIfInBounds_toArray, List.set_cons_zero, List.set_cons_succ, List.getElem_toArray, List.getElem_cons_succ, List.getElem_cons_zero]
                refine wpAnyH_take (i := 4) (v := ?_) rfl (by kernel_rfl) (by kernel_rfl) (by kernel_rfl) (fun _ _ _ h => h) (Or.inl ⟨by rfl, ?_⟩) (by assumption) ?_
                rotate_left
                · intro w' hSw
                  go_simp <;> with_reducible rfl
                try simp only [Act.put, List.setIfInBounds_toArray, List.set_cons_zero, List.set_cons_succ, List.getElem_toArray, List.getElem_cons_succ, List.getElem_cons_zero]
                refine wpAnyH_ready (rs := [0, 9]) (by kernel_rfl) (by simp) ?_
                refine AllReadyH.cons rfl (fun K hK => ?_) (AllReadyH.cons rfl (fun K hK => ?_) AllReadyH.nil)
                · go_simp
                  refine hK.out _ _ (by exact hHeld.alloc _) (fun hHeld => ?_)
                  clear hK K
                  try simp only [Act.put, List.setIfInBounds_toArray, List.set_cons_zero, List.set_cons_succ, List.getElem_toArray, List.getElem_cons_succ, List.getElem_cons_zero]
                  refine held_mono (S' := TwoF w5 w6 t5 t6 a5 a6 c5 c6 (w6.heap.size + 1)) (fun _ h => h.1) _ _ _ _ ?_
                  replace hHeld := two_up (b := w6.heap.size + 1) hHeld (by exact blk_at (w := w6.alloc (.cells #[.string t6.name, .slice a6 t6.args.length c6] 25)) (by simp) _ _)
                  refine wpAnyH_take (i := 5) (v := ?_) rfl (by kernel_rfl) (by kernel_rfl) (by kernel_rfl) (fun _ _ _ h => h) (Or.inl ⟨by rfl, ?_⟩) (by assumption) ?_
                  rotate_left
                  · intro w' hSw
                    go_simp <;> with_reducible rfl
                  try simp only [Act.put, List.setIfInBounds_toArray, List.set_cons_zero, List.set_cons_succ, List.getElem_toArray, List.getElem_cons_succ, List.getElem_cons_zero]
                  refine wpAnyH_take (i := 6) (v := ?_) rfl (by kernel_rfl) (by kernel_rfl) (by kernel_rfl) (fun _ _ _ h => h) (Or.inl ⟨by rfl, ?_⟩) (by assumption) ?_
                  rotate_left
                  · intro w' hSw
                    have k4 : w'.cell? ⟨w6.heap.size + 1, 0, none⟩ = some (.string ⟨#[102]⟩) := hSw.2.cell 0
                    have k5 : w'.cell? ⟨w6.heap.size + 1, 1, none⟩ = some (.string ⟨#[103]⟩) := hSw.2.cell 1
                    go_simp <;> with_reducible rfl
                  try simp only [Act.put, List.setIfInBounds_toArray, List.set_cons_zero, List.set_cons_succ, List.getElem_toArray, List.getElem_cons_succ, List.getElem_cons_zero]
                  refine wpAnyH_ready (rs := [9]) (by kernel_rfl) (by simp) ?_
                  refine AllReadyH.cons rfl (fun K hK => ?_) AllReadyH.nil
                  · go_simp
                    refine hK.out _ _ (by exact hHeld.alloc _) (fun hHeld => ?_)
                    clear hK K
                    try simp only [Act.put, List.setIfInBounds_toArray, List.set_cons_zero, List.set_cons_succ, List.getElem_toArray, List.getElem_cons_succ, List.getElem_cons_zero]
                    refine wpAnyH_take (i := 10) (v := ?_) rfl (by kernel_rfl) (by kernel_rfl) (by kernel_rfl) (fun _ _ _ h => h) (Or.inl ⟨by rfl, ?_⟩) (by assumption) ?_
                    rotate_left
                    · intro w' hSw
                      go_simp <;> with_reducible rfl
                    try simp only [Act.put, List.setIfInBounds_toArray, List.set_cons_zero, List.set_cons_succ, List.getElem_toArray, List.getElem_cons_succ, List.getElem_cons_zero]
                    refine wpAnyH_ready (rs := [12]) (by kernel_rfl) (by simp) ?_
                    refine AllReadyH.cons rfl (fun K hK => ?_) AllReadyH.nil
                    · go_simp
                      refine hK.out _ _ (by exact two_endA _ _ _ X6.out (Nat.ne_of_gt hlt5)) (fun hHeld => ?_)
                      clear hK K
                      try simp only [Act.put, List.setIfInBounds_toArray, List.set_cons_zero, List.set_cons_succ, List.getElem_toArray, List.getElem_cons_succ, List.getElem_cons_zero]
                      refine wpAnyH_take (i := 13) (v := ?_) rfl (by kernel_rfl) (by kernel_rfl) (by kernel_rfl) (fun _ _ _ h => h) (Or.inl ⟨by rfl, ?_⟩) (by assumption) ?_
                      rotate_left
                      · intro w' hSw
                        go_simp <;> with_reducible rfl
                      try simp only [Act.put, List.setIfInBounds_toArray, List.set_cons_zero, List.set_cons_succ, List.getElem_toArray, List.getElem_cons_succ, List.getElem_cons_zero]
                      refine wpAnyH_done (by kernel_rfl) ?_ _
                      go_wp2_with fail
                      refine bodyPost_ret (v := .tuple #[.agg #[.string ⟨#[103]⟩, .slice (some ⟨w6.heap.size + 1 + 1, 0, none⟩) 2 2], .int .i64 (n6 : Int)]) (by simp [results, Try.results49, go_sem, World.cell?_setCell_same, World.cell?_setCell_other, r0, r1, hlt56, hlt57, hlt58, World.cell?_alloc_old]) rfl ?_
                      exact grow_two B6.out hlt56 S56.out S6.out (fun b hb => Nat.lt_of_lt_of_le R1.out.lt hb) HZ6.out HBIG.out (ok_node (by decide) (by decide) (ok_two HE5.out HE6.out)) (by omega) (by exact blk_at (by simp [World.setCell]) _ _)
                · go_simp
                  refine hK.out _ _ (by exact hHeld.alloc _) (fun hHeld => ?_)
                  clear hK K
                  try simp only [Act.put, List.setIfInBounds_toArray, List.set_cons_zero, List.set_cons_succ, List.getElem_toArray, List.getElem_cons_succ, List.getElem_cons_zero]
                  refine wpAnyH_ready (rs := [0]) (by kernel_rfl) (by simp) ?_
                  refine AllReadyH.cons rfl (fun K hK => ?_) AllReadyH.nil
                  · go_simp
                    refine hK.out _ _ (by exact hHeld.alloc _) (fun hHeld => ?_)
                    clear hK K
                    try simp only [Act.put, List.setIfInBounds_toArray, List.set_cons_zero, List.set_cons_succ, List.getElem_toArray, List.getElem_cons_succ, List.getElem_cons_zero]
                    refine held_mono (S' := TwoF w5 w6 t5 t6 a5 a6 c5 c6 (w6.heap.size + 1 + 1)) (fun _ h => h.1) _ _ _ _ ?_
                    replace hHeld := two_up (b := w6.heap.size + 1 + 1) hHeld (by exact blk_at (w := (w6.alloc (.cells #[.string t6.name, .slice a6 t6.args.length c6] 25)).alloc (.cells #[.string t5.name, .slice a5 t5.args.length c5, .string t6.name, .slice a6 t6.args.length c6] 25)) (by simp) _ _)
                    refine wpAnyH_take (i := 5) (v := ?_) rfl (by kernel_rfl) (by kernel_rfl) (by kernel_rfl) (fun _ _ _ h => h) (Or.inl ⟨by rfl, ?_⟩) (by assumption) ?_
                    rotate_left
                    · intro w' hSw
                      go_simp <;> with_reducible rfl
                    try simp only [Act.put, List.setIfInBounds_toArray, List.set_cons_zero, List.set_cons_succ, List.getElem_toArray, List.getElem_cons_succ, List.getElem_cons_zero]
                    refine wpAnyH_take (i := 6) (v := ?_) rfl (by kernel_rfl) (by kernel_rfl) (by kernel_rfl) (fun _ _ _ h => h) (Or.inl ⟨by rfl, ?_⟩) (by assumption) ?_
                    rotate_left
                    · intro w' hSw
                      have k4 : w'.cell? ⟨w6.heap.size + 1 + 1, 0, none⟩ = some (.string ⟨#[102]⟩) := hSw.2.cell 0
                      have k5 : w'.cell? ⟨w6.heap.size + 1 + 1, 1, none⟩ = some (.string ⟨#[103]⟩) := hSw.2.cell 1
                      go_simp <;> with_reducible rfl
                    try simp only [Act.put, List.setIfInBounds_toArray, List.set_cons_zero, List.set_cons_succ, List.getElem_toArray, List.getElem_cons_succ, List.getElem_cons_zero]
                    refine wpAnyH_take (i := 10) (v := ?_) rfl (by kernel_rfl) (by kernel_rfl) (by kernel_rfl) (fun _ _ _ h => h) (Or.inl ⟨by rfl, ?_⟩) (by assumption) ?_
                    rotate_left
                    · intro w' hSw
                      go_simp <;> with_reducible rfl
                    try simp only [Act.put, List.setIfInBounds_toArray, List.set_cons_zero, List.set_cons_succ, List.getElem_toArray, List.getElem_cons_succ, List.getElem_cons_zero]
                    refine wpAnyH_ready (rs := [12]) (by kernel_rfl) (by simp) ?_
                    refine AllReadyH.cons rfl (fun K hK => ?_) AllReadyH.nil
                    · go_simp
                      refine hK.out _ _ (by exact two_endB _ _ _ X6.out (Nat.ne_of_gt hlt5)) (fun hHeld => ?_)
                      clear hK K
                      try simp only [Act.put, List.setIfInBounds_toArray, List.set_cons_zero, List.set_cons_succ, List.getElem_toArray, List.getElem_cons_succ, List.getElem_cons_zero]
                      refine wpAnyH_take (i := 13) (v := ?_) rfl (by kernel_rfl) (by kernel_rfl) (by kernel_rfl) (fun _ _ _ h => h) (Or.inl ⟨by rfl, ?_⟩) (by assumption) ?_
                      rotate_left
                      · intro w' hSw
                        go_simp <;> with_reducible rfl
                      try simp only [Act.put, List.setIfInBounds_toArray, List.set_cons_zero, List.set_cons_succ, List.getElem_toArray, List.getElem_cons_succ, List.getElem_cons_zero]
                      refine wpAnyH_done (by kernel_rfl) ?_ _
                      go_wp2_with fail
                      refine bodyPost_ret (v := .tuple #[.agg #[.string ⟨#[103]⟩, .slice (some ⟨w6.heap.size + 1, 0, none⟩) 2 2], .int .i64 (n6 : Int)]) (by simp [results, Try.results49, go_sem, World.cell?_setCell_same, World.cell?_setCell_other, r0, r1, hlt56, hlt57, hlt58, World.cell?_alloc_old]) rfl ?_
                      exact grow_two B6.out hlt56 S56.out S6.out (fun b hb => Nat.lt_of_lt_of_le R1.out.lt hb) HZ6.out HBIG.out (ok_node (by decide) (by decide) (ok_two HE5.out HE6.out)) (by omega) (by exact (blk_at (by simp [World.setCell]) _ _).alloc _)
              · go_simp
                refine hK.out _ _ (by exact hHeld.alloc _) (fun hHeld => ?_)
                clear hK K
                try simp only [Act.put, List.setIfInBounds_toArray, List.set_cons_zero, List.set_cons_succ, List.getElem_toArray, List.getElem_cons_succ, List.getElem_cons_zero]
                refine wpAnyH_ready (rs := [0, 3]) (by kernel_rfl) (by simp) ?_
                refine AllReadyH.cons rfl (fun K hK => ?_) (AllReadyH.cons rfl (fun K hK => ?_) AllReadyH.nil)
                · go_simp
                  refine hK.out _ _ (by exact hHeld.alloc _) (fun hHeld => ?_)
                  clear hK K
                  try simp only [Act.put, List.setIfInBounds_toArray, List.set_cons_zero, List.set_cons_succ, List.getElem_toArray, List.getElem_cons_succ, List.getElem_cons_zero]
                  refine held_mono (S' := TwoF w5 w6 t5 t6 a5 a6 c5 c6 (w6.heap.size + 1 + 1)) (fun _ h => h.1) _ _ _ _ ?_
                  replace hHeld := two_up (b := w6.heap.size + 1 + 1) hHeld (by exact blk_at (w := (w6.alloc (.cells #[.string t6.name, .slice a6 t6.args.length c6] 25)).alloc (.cells #[.string t5.name, .slice a5 t5.args.length c5, .string t6.name, .slice a6 t6.args.length c6] 25)) (by simp) _ _)
                  refine wpAnyH_ready (rs := [3]) (by kernel_rfl) (by simp) ?_
                  refine AllReadyH.cons rfl (fun K hK => ?_) AllReadyH.nil
                  · go_simp
                    go_at_call 17
                    refine (HPK.out _).mono ?_
                    rintro e w7 ⟨rfl, rfl⟩
                    go_simp
                    refine hK.out _ _ (by exact hHeld) (fun hHeld => ?_)
                    clear hK K
                    try simp only [Act.put, List.setIfInBounds_toArray, List.set_cons_zero, List.set_cons_succ, List.getElem_toArray, List.getElem_cons_succ, List.getElem_cons_zero]
                    refine wpAnyH_take (i := 4) (v := ?_) rfl (by kernel_rfl) (by kernel_rfl) (by kernel_rfl) (fun _ _ _ h => h) (Or.inl ⟨by rfl, ?_⟩) (by assumption) ?_
                    rotate_left
                    · intro w' hSw
                      go_simp <;> with_reducible rfl
                    try simp only [Act.put, List.setIfInBounds_toArray, List.set_cons_zero, List.set_cons_succ, List.getElem_toArray, List.getElem_cons_succ, List.getElem_cons_zero]
                    refine wpAnyH_take (i := 5) (v := ?_) rfl (by kernel_rfl) (by kernel_rfl) (by kernel_rfl) (fun _ _ _ h => h) (Or.inl ⟨by rfl, ?_⟩) (by assumption) ?_
                    rotate_left
                    · intro w' hSw
                      go_simp <;> with_reducible rfl
                    try simp only [Act.put, List.setIfInBounds_toArray, List.set_cons_zero, List.set_cons_succ, List.getElem_toArray, List.getElem_cons_succ, List.getElem_cons_zero]
                    refine wpAnyH_take (i := 6) (v := ?_) rfl (by kernel_rfl) (by kernel_rfl) (by kernel_rfl) (fun _ _ _ h => h) (Or.inl ⟨by rfl, ?_⟩) (by assumption) ?_
                    rotate_left
                    · intro w' hSw
                      have k4 : w'.cell? ⟨w6.heap.size + 1 + 1, 0, none⟩ = some (.string ⟨#[102]⟩) := hSw.2.cell 0
                      have k5 : w'.cell? ⟨w6.heap.size + 1 + 1, 1, none⟩ = some (.string ⟨#[103]⟩) := hSw.2.cell 1
                      go_simp <;> with_reducible rfl
                    try simp only [Act.put, List.setIfInBounds_toArray, List.set_cons_zero, List.set_cons_succ, List.getElem_toArray, List.getElem_cons_succ, List.getElem_cons_zero]
                    refine wpAnyH_take (i := 10) (v := ?_) rfl (by kernel_rfl) (by kernel_rfl) (by kernel_rfl) (fun _ _ _ h => h) (Or.inl ⟨by rfl, ?_⟩) (by assumption) ?_
                    rotate_left
                    · intro w' hSw
                      go_simp <;> with_reducible rfl
                    try simp only [Act.put, List.setIfInBounds_toArray, List.set_cons_zero, List.set_cons_succ, List.getElem_toArray, List.getElem_cons_succ, List.getElem_cons_zero]
                    refine wpAnyH_ready (rs := [12]) (by kernel_rfl) (by simp) ?_
                    refine AllReadyH.cons rfl (fun K hK => ?_) AllReadyH.nil
                    · go_simp
                      refine hK.out _ _ (by exact two_endB _ _ _ X6.out (Nat.ne_of_gt hlt5)) (fun hHeld => ?_)
                      clear hK K
                      try simp only [Act.put, List.setIfInBounds_toArray, List.set_cons_zero, List.set_cons_succ, List.getElem_toArray, List.getElem_cons_succ, List.getElem_cons_zero]
                      refine wpAnyH_take (i := 13) (v := ?_) rfl (by kernel_rfl) (by kernel_rfl) (by kernel_rfl) (fun _ _ _ h => h) (Or.inl ⟨by rfl, ?_⟩) (by assumption) ?_
                      rotate_left
                      · intro w' hSw
                        go_simp <;> with_reducible rfl
                      try simp only [Act.put, List.setIfInBounds_toArray, List.set_cons_zero, List.set_cons_succ, List.getElem_toArray, List.getElem_cons_succ, List.getElem_cons_zero]
                      refine wpAnyH_done (by kernel_rfl) ?_ _
                      go_wp2_with fail
                      refine bodyPost_ret (v := .tuple #[.agg #[.string ⟨#[103]⟩, .slice (some ⟨w6.heap.size + 1, 0, none⟩) 2 2], .int .i64 (n6 : Int)]) (by simp [results, Try.results49, go_sem, World.cell?_setCell_same, World.cell?_setCell_other, r0, r1, hlt56, hlt57, hlt58, World.cell?_alloc_old]) rfl ?_
                      exact grow_two B6.out hlt56 S56.out S6.out (fun b hb => Nat.lt_of_lt_of_le R1.out.lt hb) HZ6.out HBIG.out (ok_node (by decide) (by decide) (ok_two HE5.out HE6.out)) (by omega) (by exact (blk_at (by simp [World.setCell]) _ _).alloc _)
                · go_simp
                  go_at_call 17
                  refine (HPK.out _).mono ?_
                  rintro e w7 ⟨rfl, rfl⟩
                  go_simp
                  refine hK.out _ _ (by exact hHeld) (fun hHeld => ?_)
                  clear hK K
                  try simp only [Act.put, List.setIfInBounds_toArray, List.set_cons_zero, List.set_cons_succ, List.getElem_toArray, List.getElem_cons_succ, List.getElem_cons_zero]
                  refine wpAnyH_take (i := 4) (v := ?_) rfl (by kernel_rfl) (by kernel_rfl) (by kernel_rfl) (fun _ _ _ h => h) (Or.inl ⟨by rfl, ?_⟩) (by assumption) ?_
                  rotate_left
                  · intro w' hSw
                    go_simp <;> with_reducible rfl
                  try simp only [Act.put, List.setIfInBounds_toArray, List.set_cons_zero, List.set_cons_succ, List.getElem_toArray, List.getElem_cons_succ, List.getElem_cons_zero]
                  refine wpAnyH_ready (rs := [0]) (by kernel_rfl) (by simp) ?_
                  refine AllReadyH.cons rfl (fun K hK => ?_) AllReadyH.nil
                  · go_simp
                    refine hK.out _ _ (by exact hHeld.alloc _) (fun hHeld => ?_)
                    clear hK K
                    try simp only [Act.put, List.setIfInBounds_toArray, List.set_cons_zero, List.set_cons_succ, List.getElem_toArray, List.getElem_cons_succ, List.getElem_cons_zero]
                    refine held_mono (S' := TwoF w5 w6 t5 t6 a5 a6 c5 c6 (w6.heap.size + 1 + 1)) (fun _ h => h.1) _ _ _ _ ?_
                    replace hHeld := two_up (b := w6.heap.size + 1 + 1) hHeld (by exact blk_at (w := (w6.alloc (.cells #[.string t6.name, .slice a6 t6.args.length c6] 25)).alloc (.cells #[.string t5.name, .slice a5 t5.args.length c5, .string t6.name, .slice a6 t6.args.length c6] 25)) (by simp) _ _)
                    refine wpAnyH_take (i := 5) (v := ?_) rfl (by kernel_rfl) (by kernel_rfl) (by kernel_rfl) (fun _ _ _ h => h) (Or.inl ⟨by rfl, ?_⟩) (by assumption) ?_
                    rotate_left
                    · intro w' hSw
                      go_simp <;> with_reducible rfl
                    try simp only [Act.put, List.setIfInBounds_toArray, List.set_cons_zero, List.set_cons_succ, List.getElem_toArray, List.getElem_cons_succ, List.getElem_cons_zero]
                    refine wpAnyH_take (i := 6) (v := ?_) rfl (by kernel_rfl) (by kernel_rfl) (by kernel_rfl) (fun _ _ _ h => h) (Or.inl ⟨by rfl, ?_⟩) (by assumption) ?_
                    rotate_left
                    · intro w' hSw
                      have k4 : w'.cell? ⟨w6.heap.size + 1 + 1, 0, none⟩ = some (.string ⟨#[102]⟩) := hSw.2.cell 0
                      have k5 : w'.cell? ⟨w6.heap.size + 1 + 1, 1, none⟩ = some (.string ⟨#[103]⟩) := hSw.2.cell 1
                      go_simp <;> with_reducible rfl
                    try simp only [Act.put, List.setIfInBounds_toArray, List.set_cons_zero, List.set_cons_succ, List.getElem_toArray, List.getElem_cons_succ, List.getElem_cons_zero]
                    refine wpAnyH_take (i := 10) (v := ?_) rfl (by kernel_rfl) (by kernel_rfl) (by kernel_rfl) (fun _ _ _ h => h) (Or.inl ⟨by rfl, ?_⟩) (by assumption) ?_
                    rotate_left
                    · intro w' hSw
                      go_simp <;> with_reducible rfl
                    try simp only [Act.put, List.setIfInBounds_toArray, List.set_cons_zero, List.set_cons_succ, List.getElem_toArray, List.getElem_cons_succ, List.getElem_cons_zero]
                    refine wpAnyH_ready (rs := [12]) (by kernel_rfl) (by simp) ?_
                    refine AllReadyH.cons rfl (fun K hK => ?_) AllReadyH.nil
                    · go_simp
                      refine hK.out _ _ (by exact two_endB _ _ _ X6.out (Nat.ne_of_gt hlt5)) (fun hHeld => ?_)
                      clear hK K
                      try simp only [Act.put, List.setIfInBounds_toArray, List.set_cons_zero, List.set_cons_succ, List.getElem_toArray, List.getElem_cons_succ, List.getElem_cons_zero]
                      refine wpAnyH_take (i := 13) (v := ?_) rfl (by kernel_rfl) (by kernel_rfl) (by kernel_rfl) (fun _ _ _ h => h) (Or.inl ⟨by rfl, ?_⟩) (by assumption) ?_
                      rotate_left
                      · intro w' hSw
                        go_simp <;> with_reducible rfl
                      try simp only [Act.put, List.setIfInBounds_toArray, List.set_cons_zero, List.set_cons_succ, List.getElem_toArray, List.getElem_cons_succ, List.getElem_cons_zero]
                      refine wpAnyH_done (by kernel_rfl) ?_ _
                      go_wp2_with fail
                      refine bodyPost_ret (v := .tuple #[.agg #[.string ⟨#[103]⟩, .slice (some ⟨w6.heap.size + 1, 0, none⟩) 2 2], .int .i64 (n6 : Int)]) (by simp [results, Try.results49, go_sem, World.cell?_setCell_same, World.cell?_setCell_other, r0, r1, hlt56, hlt57, hlt58, World.cell?_alloc_old]) rfl ?_
                      exact grow_two B6.out hlt56 S56.out S6.out (fun b hb => Nat.lt_of_lt_of_le R1.out.lt hb) HZ6.out HBIG.out (ok_node (by decide) (by decide) (ok_two HE5.out HE6.out)) (by omega) (by exact (blk_at (by simp [World.setCell]) _ _).alloc _)

def GrowPost (w : World) (i m : Nat) (e : Ending) (w' : World) : Prop :=
  ∃ (a : Option Addr) (c n : Nat) (t : Tm), e = .returned (.tuple #[.agg #[.string t.name, .slice a t.args.length c], .int .i64 (n : Int)]) ∧ Sl w' (fun b => w.heap.size ≤ b) a t.args ∧ t.args.length ≤ c ∧ c ≤ 9223372036854775807 ∧ sizeL [t] ≤ top m ∧ i ≤ n ∧ n ≤ i + top m ∧ Below w.heap.size w w' ∧ errL [t] = 0

theorem grow_any (nv : Nat) (hnv : 1 ≤ nv) (hnv4 : nv ≤ 4) (zs : List Int) (hr : ∀ z ∈ zs, Rng z) (hzl : zs.length ≤ 1000000) (m i : Nat) (u : Value) (w : World) (X : Nat → Prop) (hu : PV w X u zs) (hm : m ≤ 100) (hi : i + top m ≤ 1000) :
    Calls Try.prog 49 #[u, .int .i64 (i : Int), .int .i64 (m : Int), .int .i64 (nv : Int)] w fun e w' => GrowPost w i m e w' := by
  refine (growV_any nv hnv hnv4 zs hr hzl m i u w X hu hm hi).mono ?_
  rintro e w' ⟨a, c, n, t, h1, h2, h3, h4, h5, h6, h7, h8, h9⟩
  exact ⟨a, c, n, t, h1, h2, h3, h4, h5, h6, h7, h8, h9.1⟩
end Go.Proofs.Ytpbnbkeoiojpaac

/- Walks: a term out of raw numbers, and the law on all its places. -/
namespace Go.Proofs.Ytpbnbkeoiojpaac
open Go.RowKit
set_option linter.unusedSimpArgs false
set_option linter.unusedVariables false
set_option maxRecDepth 8000

theorem one_world {w w5 : World} {Z : Nat → Prop} {a : Option Addr} {l : List Tm} {v0 v1 : Value} {o1 : Obj} (hs : Sl w5 Z a l) (hZ : ∀ b, Z b → w.heap.size < b) : Sl (((w5.setCell ⟨w.heap.size, 0, none⟩ v0).setCell ⟨w.heap.size, 1, none⟩ v1).alloc o1) (fun b => Z b ∧ b < w5.heap.size) a l := by
  refine (hs.mono (Y := fun b => Z b ∧ b < w5.heap.size) fun b h1 h2 => ⟨h1, h2⟩).kept fun b hb => ?_
  have := hZ b hb.1
  rw [Below.heap_alloc _ _ _ (by simp [World.setCell]; omega), Below.heap_setCell _ _ _ _ (by simp; omega), Below.heap_setCell _ _ _ _ (by simp; omega)]

theorem termOfV_any (nv : Nat) (hnv : 1 ≤ nv) (hnv4 : nv ≤ 4) (zs : List Int) (hr : ∀ z ∈ zs, Rng z) (hzl : zs.length ≤ 1000000) (m i : Nat) (u : Value) (w : World) (X : Nat → Prop) (hu : PV w X u zs) (hm : m ≤ 100) (hi : i + top m ≤ 1000) :
    Calls Try.prog 16 #[u, .int .i64 (i : Int), .int .i64 (m : Int), .int .i64 (nv : Int)] w fun e w' => ∃ (t : Tm) (a : Option Addr) (c : Nat), e = .returned (.agg #[.string t.name, .slice a t.args.length c]) ∧ Sl w' (fun b => w.heap.size ≤ b) a t.args ∧ sizeL [t] ≤ top m ∧ Below w.heap.size w w' ∧ okV nv [t] := by
  have HU := hide hu
  clear hu
  go_enter Try.func16, Try.ntmps16
  go_wp2_with fail
  refine (growV_any nv hnv hnv4 zs hr hzl m i u _ X (by exact HU.out.alloc _) hm hi).mono ?_
  rintro e w5 ⟨a5, c5, n5, t5, rfl, hs5, hc5, hc5', hz5, hn5, hn5', hb5, he5⟩
  have HE5 := hide he5
  clear he5
  have R5 := hide ((Blk.new w #[.string ⟨#[]⟩, .slice none 0 0] 25).below hb5 (by simp))
  have B5 := hide (((Below.refl w.heap.size w).alloc (Nat.le_refl _) (.cells #[.string ⟨#[]⟩, .slice none 0 0] 25)).trans (hb5.mono (by simp)))
  have S5 := hide hs5
  have hlt5 : w.heap.size < w5.heap.size := R5.out.lt
  clear hb5 hs5
  have r0 : w5.cell? ⟨w.heap.size, 0, none⟩ = some (.string ⟨#[]⟩) := R5.out.cell 0
  have r1 : w5.cell? ⟨w.heap.size, 1, none⟩ = some (.slice none 0 0) := R5.out.cell 1
  have rf := R5.out.frozen
  go_wp2_with fail
  refine bodyPost_ret (v := .agg #[.string t5.name, .slice a5 t5.args.length c5]) (by simp [results, Try.results16, go_sem, World.cell?_setCell_same, World.cell?_setCell_other, r0, r1, hlt5, World.cell?_alloc_old]) rfl ?_
  refine ⟨t5, a5, c5, rfl, (one_world S5.out (fun b hb => ?_)).mono (fun b hb _ => ?_), hz5, ?_, HE5.out⟩
  · simp at hb; omega
  · have := hb.1; simp at this; omega
  · exact ((B5.out.setCell (by simp) _).setCell (by simp) _).alloc (by simp [World.setCell]; omega) _

theorem termOf_any (nv : Nat) (hnv : 1 ≤ nv) (hnv4 : nv ≤ 4) (zs : List Int) (hr : ∀ z ∈ zs, Rng z) (hzl : zs.length ≤ 1000000) (m i : Nat) (u : Value) (w : World) (X : Nat → Prop) (hu : PV w X u zs) (hm : m ≤ 100) (hi : i + top m ≤ 1000) :
    Calls Try.prog 16 #[u, .int .i64 (i : Int), .int .i64 (m : Int), .int .i64 (nv : Int)] w fun e w' => ∃ (t : Tm) (a : Option Addr) (c : Nat), e = .returned (.agg #[.string t.name, .slice a t.args.length c]) ∧ Sl w' (fun b => w.heap.size ≤ b) a t.args ∧ sizeL [t] ≤ top m ∧ Below w.heap.size w w' ∧ errL [t] = 0 := by
  refine (termOfV_any nv hnv hnv4 zs hr hzl m i u w X hu hm hi).mono ?_
  rintro e w' ⟨t, a, c, rfl, h1, h2, h3, h4⟩
  exact ⟨t, a, c, rfl, h1, h2, h3, h4.1⟩
end Go.Proofs.Ytpbnbkeoiojpaac


/- Walks: bindings out of a map, in order. -/
namespace Go.Proofs.Ytpbnbkeoiojpaac
open Go.RowKit
set_option linter.unusedSimpArgs false
set_option linter.unusedVariables false
set_option maxRecDepth 8000

theorem Try.infoBind : (Try.prog.info? 75).map (fun i => (i.zero, i.size, i.bytes)) = some (some (.agg #[.string ByteArray.empty, .string ByteArray.empty, .slice none 0 0]), 3, 56) := by kernel_rfl

theorem cell_three_new (w : World) (c0 c1 c2 : Value) (T : Nat) : ∀ j u, [c0, c1, c2][j]? = some u → (w.alloc (.cells #[c0, c1, c2] T)).cell? ((⟨w.heap.size, 0, none⟩ : Addr).add j) = some u :=
  World.news_of_block (cs := #[c0, c1, c2]) (heap_alloc_new w _)

/-- A binding appended to a row of them. -/
theorem binds_append {w w1 : World} {N : Nat} {Y : Nat → Prop} {v : Value} {cs : List Bc} (h : BRow w N Y v cs) (hN : N ≤ w.heap.size) (hY : ∀ b, Y b → b < N) (hb : Below w.heap.size w w1) (x : Bc) (ht : Sl w1 (fun b => Y b ∨ w.heap.size ≤ b) x.2.1 x.1.t.args) (hn : cs.length ≤ 1000000) (A : Nat) (hA : w1.heap.size = A) :
    ∃ v2 w3, (Builtin.append_ #[40, 40] 40 #[v, .slice (some ⟨A, 0, none⟩) 1 1]).run Try.prog (w1.alloc (.cells #[.string x.1.nm, .string x.1.t.name, .slice x.2.1 x.1.t.args.length x.2.2] 75)) = .ok v2 w3 ∧ BRow w3 N Y v2 (cs ++ [x]) ∧
      (w1.alloc (.cells #[.string x.1.nm, .string x.1.t.name, .slice x.2.1 x.1.t.args.length x.2.2] 75)).grownBy w3 v.ownBlock := by
  subst hA
  obtain ⟨i0, hi, hz0, hz1, hz2⟩ := info_parts Try.infoBind
  have hs := hb.size
  obtain ⟨g, cap, w3, hr, ho, hg, hat, hlt⟩ := run_append_lies (P := Try.prog) (w := w1.alloc (.cells #[.string x.1.nm, .string x.1.t.name, .slice x.2.1 x.1.t.args.length x.2.2] 75)) 40 40 N 75 i0 _ 3 56 Try.underlying40 hi hz0 hz1 hz2 rfl (by decide) v cs.length (flat3 cs) ((h.below hb).own.alloc _)
    ⟨w1.heap.size, 0, none⟩ 1 1 (enc3 x) rfl (cell_three_new _ _ _ _ _) (fun y hy => by simp [enc3] at hy; rcases hy with rfl | rfl | rfl <;> rfl) (by decide) (by unfold maxLen; omega) (by omega) (by simp; omega) _ rfl
  exact ⟨_, w3, hr, h.push hN hY hb ht _ rfl ho hg hat, hg⟩

/-- What is known midway. -/
def IoInv (w : World) (Z : List Bc) (b : Nat) (u : Value) (wr : World) : Prop :=
  ∃ Zr cs : List Bc, RangeAt wr b w.heap.size (Z.map toP) (Zr.map toP) ∧ (cs.map (·.1) ++ Zr.map (·.1)).Perm (Z.map (·.1)) ∧ (∀ x ∈ Zr, x ∈ Z) ∧ BRow wr (w.heap.size + 1) (fun _ => False) u cs ∧ Below w.heap.size w wr ∧ w.heap.size + 1 ≤ wr.heap.size

end Go.Proofs.Ytpbnbkeoiojpaac

/- What is wrong with bindings. -/
namespace Go.Proofs.Ytpbnbkeoiojpaac
open Go.RowKit
set_option linter.unusedSimpArgs false
set_option linter.unusedVariables false

/-- A text is not above another one. -/
def leB (a b : ByteArray) : Bool := Op.bytesLess a.toList b.toList || a.toList == b.toList
def prevN (ls : List Bd) (k : Nat) : Option ByteArray := if k = 0 then none else (ls[k - 1]?).map Bd.nm
/-- What is wrong with a binding behind another one. -/
def bmB (p : Option ByteArray) (d : Bd) : Int :=
  if (nameB d.nm && varB d.nm) = false then 1 else if (match p with | some q => leB d.nm q | none => false) = true then 14 else mayE d.t
def bmK (ls : List Bd) (k : Nat) : Int := match ls[k]? with
  | some d => bmB (prevN ls k) d
  | none => 0
def bmT (ls : List Bd) : Nat → Int
  | 0 => 0
  | n + 1 => if bmT ls n = 0 then bmK ls n else bmT ls n
/-- What is wrong with a list of bindings. -/
def bindsE (ls : List Bd) : Int := if 40 < ls.length then 3 else bmT ls ls.length

theorem bmT_stays {ls : List Bd} {k : Nat} (h : bmT ls k ≠ 0) : ∀ n, k ≤ n → bmT ls n = bmT ls k
  | 0, hn => by have : k = 0 := by omega
                subst this; rfl
  | n + 1, hn => by
    by_cases e : k = n + 1
    · rw [e]
    · have ih := bmT_stays h n (by omega)
      rw [bmT, if_neg (by rw [ih]; exact h), ih]
theorem bmT_err {ls : List Bd} {k : Nat} {z : Int} (hk : k < ls.length) (h40 : ¬ 40 < ls.length) (h0 : bmT ls k = 0) (hz : bmK ls k = z) (hne : z ≠ 0) : bindsE ls = z := by
  have h1 : bmT ls (k + 1) = z := by rw [bmT, if_pos h0, hz]
  unfold bindsE
  rw [if_neg h40, bmT_stays (k := k + 1) (by rw [h1]; exact hne) _ (by omega), h1]
theorem bmT_next {ls : List Bd} {k : Nat} (h0 : bmT ls k = 0) (hz : bmK ls k = 0) : bmT ls (k + 1) = 0 := by rw [bmT, if_pos h0, hz]
theorem bmK_name {ls : List Bd} {k : Nat} (hk : k < ls.length) (h : (nameB ls[k].nm && varB ls[k].nm) = false) : bmK ls k = 1 := by
  unfold bmK bmB
  rw [List.getElem?_eq_getElem hk]
  simp only [h, if_true]
theorem bmK_order {ls : List Bd} {j : Nat} (hk : j + 1 < ls.length) (h : (nameB ls[j + 1].nm && varB ls[j + 1].nm) = true) (hle : leB ls[j + 1].nm (ls[j]'(by omega)).nm = true) : bmK ls (j + 1) = 14 := by
  unfold bmK bmB prevN
  rw [List.getElem?_eq_getElem hk]
  simp only [h, Nat.add_sub_cancel, Nat.succ_ne_zero, if_false, Bool.true_eq_false]
  rw [List.getElem?_eq_getElem (by omega : j < ls.length)]
  simp only [Option.map_some, hle, if_true]
theorem bmK_may {ls : List Bd} {j : Nat} (hk : j + 1 < ls.length) (h : (nameB ls[j + 1].nm && varB ls[j + 1].nm) = true) (hle : leB ls[j + 1].nm (ls[j]'(by omega)).nm = false) : bmK ls (j + 1) = mayE ls[j + 1].t := by
  unfold bmK bmB prevN
  rw [List.getElem?_eq_getElem hk]
  simp only [h, Nat.add_sub_cancel, Nat.succ_ne_zero, if_false, Bool.true_eq_false]
  rw [List.getElem?_eq_getElem (by omega : j < ls.length)]
  simp only [Option.map_some, hle, Bool.false_eq_true, if_false]
theorem bmK_first {ls : List Bd} (hk : 0 < ls.length) (h : (nameB ls[0].nm && varB ls[0].nm) = true) : bmK ls 0 = mayE ls[0].t := by
  unfold bmK bmB prevN
  rw [List.getElem?_eq_getElem hk]
  simp only [h, if_true, Bool.true_eq_false, Bool.false_eq_true, if_false]
end Go.Proofs.Ytpbnbkeoiojpaac

/- Walks: bindings out of raw numbers. -/
namespace Go.Proofs.Ytpbnbkeoiojpaac
open Go.RowKit
set_option linter.unusedSimpArgs false
set_option linter.unusedVariables false
set_option maxRecDepth 8000

/-- The names of made bindings. -/
def four : List ByteArray := [⟨#[85]⟩, ⟨#[88]⟩, ⟨#[89]⟩, ⟨#[90]⟩]
theorem four_at (k : Nat) (h : k < 4) : ∃ s, (#[Value.string ⟨#[85]⟩, .string ⟨#[88]⟩, .string ⟨#[89]⟩, .string ⟨#[90]⟩] : Array Value)[k]? = some (.string s) ∧ four.take (k + 1) = four.take k ++ [s] := by
  match k, h with
  | 0, _ => exact ⟨_, rfl, rfl⟩
  | 1, _ => exact ⟨_, rfl, rfl⟩
  | 2, _ => exact ⟨_, rfl, rfl⟩
  | 3, _ => exact ⟨_, rfl, rfl⟩
def BfInv (w : World) (m : Nat) (u v : Value) (wr : World) : Prop :=
  ∃ (k : Nat) (cs : List Bc), k ≤ 4 ∧ v = .int .i64 (k : Int) ∧ BRow wr (w.heap.size + 1) (fun _ => False) u cs ∧ (cs.map fun x => x.1.nm).Sublist (four.take k) ∧ (∀ x ∈ cs, sizeL [x.1.t] ≤ top m ∧ errL [x.1.t] = 0) ∧ Blk wr w.heap.size #[.string ⟨#[85]⟩, .string ⟨#[88]⟩, .string ⟨#[89]⟩, .string ⟨#[90]⟩] 9 ∧ Below w.heap.size w wr

set_option maxHeartbeats 1000000 in
theorem bindsFrom_any (nv : Nat) (hnv : 1 ≤ nv) (hnv4 : nv ≤ 4) (zs : List Int) (hr : ∀ z ∈ zs, Rng z) (hzl : zs.length ≤ 1000000) (m i : Nat) (u : Value) (w : World) (X : Nat → Prop) (hu : PV w X u zs) (hm : m ≤ 100) (hi : i + 30 + top m ≤ 1000) :
    Calls Try.prog 20 #[u, .int .i64 (i : Int), .int .i64 (m : Int), .int .i64 (nv : Int)] w fun e w' => ∃ v ls, e = .returned v ∧ BV w' (fun b => w.heap.size ≤ b) v ls ∧ (ls.map (·.nm)).Sublist four ∧ (∀ d ∈ ls, sizeL [d.t] ≤ top m ∧ errL [d.t] = 0) ∧ Below w.heap.size w w' := by
  have HU := hide hu
  clear hu
  obtain ⟨i0, hi0, hz0, hz1, hz2⟩ := info_parts Try.infoBind
  go_enter Try.func20, Try.ntmps20
  go_wp2_with fail
  go_loopw [9, 11] (fun u v wr => BfInv w m u v wr) (fun u v wr => 4 - (intOf v).toNat)
  case atStart => exact ⟨0, [], by omega, rfl, BRow.start _ _ _, by simp, by simp, Blk.new w _ _, (Below.refl _ _).alloc (Nat.le_refl _) _⟩
  case round =>
    obtain ⟨k, cs, hk, rfl, hrow, hnm, hall, hnb, hb⟩ := hrel
    have HROW := hide hrow
    have HNM := hide hnm
    have HALL := hide hall
    have HNB := hide hnb
    have HB := hide hb
    clear hrow hnm hall hnb
    by_cases hlt : k < 4
    · have hlt2 : (k : Int) < 4 := by omega
      have RA := hide (raw_any zs u wr X (HU.out.later hb) hr (i + k) (by omega) hzl)
      have e1 : ((i + k : Nat) : Int) = (i : Int) + (k : Int) := by omega
      rw [e1] at RA
      clear hb e1
      go_wp2_with fail
      refine RA.out.mono ?_
      rintro e w1 ⟨c1, rfl, hc1, hb1⟩
      have HB1 := hide (HB.out.trans (hb1.mono HB.out.size))
      have HROW1 := hide (HROW.out.below hb1)
      have HNB1 := hide (HNB.out.below hb1 HNB.out.lt)
      clear hb1
      go_wp2_with fail
      refine (pick_any _ 4 (by decide) (by decide) ⟨by omega, by omega⟩ _).mono ?_
      rintro e w2 ⟨k2, rfl, hk2, rfl⟩
      by_cases hk0 : 0 < k2
      · have hk0I : (0 : Int) < (k2 : Int) := by omega
        obtain ⟨s, hs4, htk⟩ := four_at k hlt
        have hn0 : w2.cell? ⟨w.heap.size, k, none⟩ = some (.string s) := (HNB1.out.cell k).trans hs4
        have HTK := hide htk
        clear hs4 htk
        have hw1 : IntKind.i64.wrap ((i : Int) + 4) = (i : Int) + 4 := by rw [IntKind.wrap_i64]; omega
        have hw2 : IntKind.i64.wrap (7 * (k : Int)) = 7 * (k : Int) := by rw [IntKind.wrap_i64]; omega
        have hw3 : IntKind.i64.wrap ((i : Int) + 4 + 7 * (k : Int)) = (i : Int) + 4 + 7 * (k : Int) := by rw [IntKind.wrap_i64]; omega
        have hlenc : cs.length ≤ 4 := by
          have h := HNM.out.length_le
          simp [four] at h
          omega
        have TO := hide (termOf_any nv hnv hnv4 zs hr hzl m (i + 4 + 7 * k) u w2.drew X (by exact (HU.out.later HB1.out).later (below_drewN (Below.refl _ _) 1)) hm (by omega))
        have e1 : ((i + 4 + 7 * k : Nat) : Int) = (i : Int) + 4 + 7 * (k : Int) := by omega
        rw [e1] at TO
        clear e1
        go_wp2_with fail
        go_region_law (first
          | (go_simp; go_at_call 16; refine TO.out.mono ?_; rintro e w5 ⟨t5, a5, c5, rfl, hs5, hz5, hb5, he5⟩; have hn5 : w5.cell? ⟨w.heap.size, k, none⟩ = some (.string s) := ((HNB1.out.drewN 1).below hb5 (by have := HNB1.out.lt; simp; omega)).cell k ▸ (HNB1.out.cell k) ▸ hn0)
          | (refine step_append_lies _ rfl _ _ 40 rfl (w.heap.size + 1) 75 i0 _ 3 56 Try.underlying40 hi0 hz0 hz1 hz2 rfl (by decide) u9 cs.length (flat3 cs) rfl (by exact ((HROW1.out.below (below_drewN (Below.refl _ _) 1)).below hb5).own.alloc _) ⟨w5.heap.size, 0, none⟩ 1 1 (enc3 (⟨s, t5⟩, a5, c5)) rfl rfl (cell_three_new _ _ _ _ _) (fun x hx => by simp [enc3] at hx; rcases hx with rfl | rfl | rfl <;> rfl) (by decide) (by unfold maxLen; omega) (by omega) (by have := hb5.size; have := HNB1.out.lt; simp at *; omega) _ rfl ?_; intro g cap w6 hown6 hgrow6 hat6 hlt6))
        all_goals
          have hb25 : Below w2.heap.size w2 w5 := (below_drewN (Below.refl _ _) 1).trans (hb5.mono (by simp))
          have hN2 : w.heap.size + 1 ≤ w2.heap.size := HNB1.out.lt
          have hz25 := hb25.size
          have HR6 := hide (HROW1.out.push (w1 := w5) (x := (⟨s, t5⟩, a5, c5)) hN2 (fun _ h => h.elim) hb25 (hs5.mono fun b hb _ => Or.inr (by simpa using hb)) _ rfl hown6 hgrow6 hat6)
          have hltr := HROW1.out.own.lt
          have HB6 : Hid (Below w.heap.size w w6) := ((HB1.out.trans (hb25.mono HB1.out.size)).alloc (by omega) _).grown hgrow6 (by simp; omega) (fun j hj => by have := (hltr j hj).1; omega)
          have HNB6 : Hid (Blk w6 w.heap.size #[.string ⟨#[85]⟩, .string ⟨#[88]⟩, .string ⟨#[89]⟩, .string ⟨#[90]⟩] 9) := ((HNB1.out.below hb25 HNB1.out.lt).alloc _).grown hgrow6 (HROW1.out.ne (Nat.lt_succ_self _))
          have HN6 : Hid (((cs ++ [((⟨s, t5⟩, a5, c5) : Bc)]).map fun x : Bc => x.1.nm).Sublist (four.take (k + 1))) := by
            unfold Hid
            rw [HTK.out, List.map_append]
            exact HNM.out.append (List.Sublist.refl _)
          have HA6 : Hid (∀ x ∈ cs ++ [((⟨s, t5⟩, a5, c5) : Bc)], sizeL [x.1.t] ≤ top m ∧ errL [x.1.t] = 0) := fun x hx => by
            rcases List.mem_append.1 hx with hx | hx
            · exact HALL.out x hx
            · have e : x = (⟨s, t5⟩, a5, c5) := by simpa using hx
              subst e
              exact ⟨hz5, he5⟩
          clear hown6 hgrow6 hat6 hlt6 hb5 hb25 hs5 hn5
          go_wp2_with fail
          go_roundw
          case rel => exact ⟨k + 1, _, by omega, by go_num, HR6.out, HN6.out, HA6.out, HNB6.out, HB6.out⟩
          case measure => simp [intOf]; omega
      · have hk0I : ¬ (0 : Int) < (k2 : Int) := by omega
        have HN : Hid ((cs.map fun x => x.1.nm).Sublist (four.take (k + 1))) := HNM.out.trans (List.take_sublist_take_left (by omega))
        go_wp2_with fail
        go_roundw
        case rel => exact ⟨k + 1, cs, by omega, by go_num, HROW1.out, HN.out, HALL.out, HNB1.out, HB1.out⟩
        case measure => simp [intOf]; omega
    · have HN : Hid ((cs.map fun x => x.1.nm).Sublist four) := by
        have h := HNM.out
        rwa [List.take_of_length_le (by simp [four]; omega)] at h
      go_wp2_with fail
      go_ret
      exact ⟨_, _, rfl, HROW.out.bv.mono (fun b hb _ => by rcases hb with h | h; exact h.elim; omega), by rw [List.map_map]; exact HN.out, fun d hd => by obtain ⟨x, hx, rfl⟩ := List.mem_map.1 hd; exact HALL.out x hx, HB.out⟩
#print axioms bindsFrom_any
end Go.Proofs.Ytpbnbkeoiojpaac

/- Walks: what stands for a variable, as the document says. -/
namespace Go.Proofs.Ytpbnbkeoiojpaac
open Go.RowKit
set_option linter.unusedSimpArgs false
set_option linter.unusedVariables false
set_option maxRecDepth 8000

def ForPost (w : World) (X : Nat → Prop) (l : List Bd) (n : ByteArray) (e : Ending) (w' : World) : Prop :=
  Below w.heap.size w w' ∧ ((∃ t a c, forT l n = some t ∧ e = .returned (.tuple #[.agg #[.string t.name, .slice a t.args.length c], .bool true]) ∧ Sl w' X a t.args) ∨ (forT l n = none ∧ e = .returned (.tuple #[.agg #[.string ⟨#[]⟩, .slice none 0 0], .bool false])))

def FoInv (l : List Bd) (n : ByteArray) (w0 : World) (v : Value) (wr : World) : Prop := ∃ k : Nat, k ≤ l.length ∧ v = .int .i64 (k : Int) ∧ forT (l.take k) n = none ∧ wr = w0

set_option maxHeartbeats 1000000 in
theorem for_any (l : List Bd) (n : ByteArray) (v : Value) (w : World) (X0 : Nat → Prop) (hv0 : BV w X0 v l) :
    Calls Try.prog 78 #[v, .string n] w fun e w' => ForPost w (fun b => X0 b ∧ b < w.heap.size) l n e w' := by
  have HV := hide (hv0.mono (Y := fun b => X0 b ∧ b < w.heap.size) fun b h1 h2 => ⟨h1, h2⟩)
  obtain ⟨a, c, rfl, hl, hv⟩ := hv0
  clear hv
  go_enter Try.func78, Try.ntmps78
  go_wp2_with fail
  have R0 := hide (Blk.new w #[.string ⟨#[]⟩, .slice none 0 0] 25)
  have B0 := hide ((Below.refl w.heap.size w).alloc (Nat.le_refl _) (.cells #[.string ⟨#[]⟩, .slice none 0 0] 25))
  have V0 := hide (HV.out.alloc (.cells #[.string ⟨#[]⟩, .slice none 0 0] 25))
  generalize w.alloc (.cells #[.string ⟨#[]⟩, .slice none 0 0] 25) = w0 at *
  go_loopw [6] (fun v wr => FoInv l n w0 v wr) (fun v wr => l.length - (intOf v).toNat)
  case atStart => exact ⟨0, Nat.zero_le _, rfl, rfl, rfl⟩
  case round =>
    obtain ⟨k, hk, rfl, hno, rfl⟩ := hrel
    have HNO := hide hno
    clear hno
    have r0 : wr.cell? ⟨w.heap.size, 0, none⟩ = some (.string ⟨#[]⟩) := R0.out.cell 0
    have r1 : wr.cell? ⟨w.heap.size, 1, none⟩ = some (.slice none 0 0) := R0.out.cell 1
    have rf := R0.out.frozen
    by_cases hlt : k < l.length
    · obtain ⟨b, o, a', c', rfl, d0, d1, d2, hs⟩ := V0.out.get k hlt
      have hlt2 : (k : Int) < (l.length : Int) := by omega
      have HT := hide (forT_take hlt HNO.out)
      have HS := hide hs
      clear hs
      generalize l[k] = d at *
      by_cases he : d.nm = n
      · have heq := bytes_yes he
        have HF := hide (HT.out.1 he)
        clear he
        go_wp2_with fail
        refine bodyPost_ret (v := .tuple #[.agg #[.string d.t.name, .slice a' d.t.args.length c'], .bool true]) (by simp [results, Try.results78, go_sem, World.cell?_setCell_same, World.cell?_setCell_other, r0, r1]) rfl ?_
        refine ⟨(B0.out.setCell (by simp) _).setCell (by simp) _, Or.inl ⟨d.t, a', c', HF.out, rfl, HS.out.kept fun b hb => ?_⟩⟩
        rw [Below.heap_setCell _ _ _ _ (by simp; omega), Below.heap_setCell _ _ _ _ (by simp; omega)]
      · have heq := bytes_no he
        have HF := hide (HT.out.2 he)
        clear he
        go_wp2_with fail
        go_roundw
        case rel => exact ⟨k + 1, by omega, by go_num, HF.out, by trivial⟩
        case measure => simp [intOf]; omega
    · have htk : l.take k = l := List.take_of_length_le (by omega)
      have HF := hide HNO.out
      rw [htk] at HF
      clear htk
      go_wp2_with fail
      refine bodyPost_ret (v := .tuple #[.agg #[.string ⟨#[]⟩, .slice none 0 0], .bool false]) (by simp [results, Try.results78, go_sem, World.cell?_setCell_same, World.cell?_setCell_other, r0, r1]) rfl ?_
      exact ⟨(B0.out.setCell (by simp) _).setCell (by simp) _, Or.inr ⟨HF.out, rfl⟩⟩
#print axioms for_any
end Go.Proofs.Ytpbnbkeoiojpaac

/- Walks: how great a term would be with bindings in it. -/
namespace Go.Proofs.Ytpbnbkeoiojpaac
open Go.RowKit
set_option linter.unusedSimpArgs false
set_option linter.unusedVariables false
set_option maxRecDepth 8000

def GwInv (w0 : World) (M : Nat) (ls : List Bd) (l : List Tm) (most : Int) (n i : Value) (wr : World) : Prop := ∃ k : Nat, k ≤ l.length ∧ i = .int .i64 k ∧ n = .int .i64 (min (1 + sizeL (onL ls (l.take k))) (most + 1)) ∧ Below M w0 wr

set_option maxHeartbeats 1000000 in
theorem grown_any (ls : List Bd) (t : Tm) : ∀ (u v : Value) (most : Int) (w : World) (X : Nat → Prop), BV w X u ls → TV w X v t → 0 ≤ most → most ≤ 1000000 →
    Calls Try.prog 50 #[u, v, .int .i64 most] w fun e w' => e = .returned (.int .i64 (min (sizeL [onT ls t]) (most + 1))) ∧ Below w.heap.size w w' := by
  induction t using Tm.ind with
  | h s l ih =>
    intro u v most w X hu hv hm0 hm1
    obtain ⟨a, c, rfl, hs⟩ := hv
    have IH := hide ih
    have HU := hide hu
    have HS := hide hs
    have hl := hs.1
    clear ih hu hs
    go_enter Try.func50, Try.ntmps50
    go_wp2_with fail
    refine (for_any ls s u _ X (by exact HU.out.alloc _)).mono ?_
    rintro e w1 ⟨hb1, hcase⟩
    have T1 := hide ((Blk.new w #[.string s, .slice a l.length c] 25).below hb1 (by simp))
    have B1 := hide (((Below.refl w.heap.size w).alloc (Nat.le_refl _) (.cells #[.string s, .slice a l.length c] 25)).trans (hb1.mono (by simp)))
    have hlt1 : w.heap.size < w1.heap.size := T1.out.lt
    clear hb1
    have t0 : ∀ o, (w1.alloc o).cell? ⟨w.heap.size, 0, none⟩ = some (.string s) := fun o => (T1.out.alloc o).cell 0
    have t1 : ∀ o, (w1.alloc o).cell? ⟨w.heap.size, 1, none⟩ = some (.slice a l.length c) := fun o => (T1.out.alloc o).cell 1
    rcases hcase with ⟨x, ax, cx, hf, rfl, hsx⟩ | ⟨hf, rfl⟩
    · by_cases hl0 : l = []
      · subst hl0
        have HF := hide (onT_some hf)
        have SX := hide hsx
        clear hf hsx
        go_wp2_with fail
        refine (size_any x _ most _ _ ⟨ax, cx, rfl, SX.out.later ((Below.refl w1.heap.size w1).alloc (Nat.le_refl _) _)⟩ hm0 hm1).mono ?_
        rintro e w3 ⟨rfl, hb3⟩
        go_wp2_with fail
        go_ret
        exact ⟨ret_int (by rw [HF.out]), (B1.out.alloc B1.out.size _).trans (hb3.mono (by have := B1.out.size; simp; omega))⟩
      · have HD := hide (onT_deep (l := ls) (s := s) (Or.inl hl0))
        have hlp : ((l.length : Int) == 0) = false := beq_eq_false_iff_ne.2 (by have := List.length_pos_iff.2 hl0; omega)
        clear hf hsx
        go_wp2_with fail
        have T2 := hide (T1.out.alloc (.cells #[.string x.name, .slice ax x.args.length cx] 25))
        have B2 := hide (B1.out.alloc B1.out.size (.cells #[.string x.name, .slice ax x.args.length cx] 25))
        generalize w1.alloc (.cells #[.string x.name, .slice ax x.args.length cx] 25) = w2 at *
        clear t0 t1
        go_loopw [9, 10] (fun n i wr => GwInv w2 w2.heap.size ls l most n i wr) (fun n i wr => l.length - (intOf i).toNat)
        case atStart => exact ⟨0, Nat.zero_le _, rfl, by simp [onL, sizeL]; omega, Below.refl _ _⟩
        case round =>
          obtain ⟨k, hk, rfl, rfl, hb⟩ := hrel
          have c0 : wr.cell? ⟨w.heap.size, 0, none⟩ = some (.string s) := (T2.out.below hb T2.out.lt).cell 0
          have c1 : wr.cell? ⟨w.heap.size, 1, none⟩ = some (.slice a l.length c) := (T2.out.below hb T2.out.lt).cell 1
          have hn : 0 ≤ ((1 : Int) + sizeL (onL ls (l.take k))) := by omega
          have BW := hide (B2.out.trans (hb.mono B2.out.size))
          have HB := hide hb
          by_cases hlt : k < l.length
          · obtain ⟨b, o, a', c', rfl, d0, d1, hx⟩ := HS.out.get BW.out (fun _ _ h => h) k hlt
            by_cases hle : 1 + (sizeL (onL ls (l.take k)) : Int) ≤ most
            · have hmin : min (1 + (sizeL (onL ls (l.take k)) : Int)) (most + 1) = 1 + (sizeL (onL ls (l.take k)) : Int) := by omega
              rw [hmin]
              go_wp2_with fail
              refine (IH.out _ (List.getElem_mem hlt) _ _ _ _ X (HU.out.later BW.out) hx (by omega) (by omega)).mono ?_
              rintro e w3 ⟨rfl, hb3⟩
              have Hst := hide (onL_size_take ls l k hlt)
              have hm2 : 0 ≤ min ((sizeL [onT ls l[k]] : Int)) (most - (1 + (sizeL (onL ls (l.take k)) : Int)) + 1) := by omega
              have hm3 : min ((sizeL [onT ls l[k]] : Int)) (most - (1 + (sizeL (onL ls (l.take k)) : Int)) + 1) ≤ 1000001 := by omega
              go_wp2_with fail
              go_roundw
              case rel => exact ⟨k + 1, by omega, by go_num, by rw [Hst.out]; congr 1; omega, hb.trans (hb3.mono hb.size)⟩
              case measure => simp [intOf]; omega
            · have hmin : min (1 + (sizeL (onL ls (l.take k)) : Int)) (most + 1) = most + 1 := by omega
              rw [hmin]
              have hz : (sizeL [(⟨s, onL ls l⟩ : Tm)] : Int) = 1 + sizeL (onL ls l) := by simp [sizeL]
              have hle2 := onL_size_le ls l k
              have HF := hide (show (most + 1 : Int) = min (sizeL [(⟨s, onL ls l⟩ : Tm)] : Int) (most + 1) by omega)
              clear hz
              go_wp2_with fail
              go_ret
              exact ⟨ret_int (by rw [HD.out]; exact HF.out), BW.out⟩
          · have htk : l.take k = l := List.take_of_length_le (by omega)
            rw [htk]
            have hz : (sizeL [(⟨s, onL ls l⟩ : Tm)] : Int) = 1 + sizeL (onL ls l) := by simp [sizeL]
            have HZ := hide hz
            clear hz
            go_wp2_with fail
            all_goals (go_ret; exact ⟨ret_int (by rw [HD.out]; have := HZ.out; omega), BW.out⟩)
    · have HD : Hid (onT ls ⟨s, l⟩ = ⟨s, onL ls l⟩) := onT_deep (Or.inr hf)
      clear hf
      go_wp2_with fail
      have T2 := hide (T1.out.alloc (.cells #[.string ⟨#[]⟩, .slice none 0 0] 25))
      have B2 := hide (B1.out.alloc B1.out.size (.cells #[.string ⟨#[]⟩, .slice none 0 0] 25))
      generalize w1.alloc (.cells #[.string ⟨#[]⟩, .slice none 0 0] 25) = w2 at *
      clear t0 t1
      go_loopw [9, 10] (fun n i wr => GwInv w2 w2.heap.size ls l most n i wr) (fun n i wr => l.length - (intOf i).toNat)
      case atStart => exact ⟨0, Nat.zero_le _, rfl, by simp [onL, sizeL]; omega, Below.refl _ _⟩
      case round =>
        obtain ⟨k, hk, rfl, rfl, hb⟩ := hrel
        have c0 : wr.cell? ⟨w.heap.size, 0, none⟩ = some (.string s) := (T2.out.below hb T2.out.lt).cell 0
        have c1 : wr.cell? ⟨w.heap.size, 1, none⟩ = some (.slice a l.length c) := (T2.out.below hb T2.out.lt).cell 1
        have hn : 0 ≤ ((1 : Int) + sizeL (onL ls (l.take k))) := by omega
        have BW := hide (B2.out.trans (hb.mono B2.out.size))
        have HB := hide hb
        by_cases hlt : k < l.length
        · obtain ⟨b, o, a', c', rfl, d0, d1, hx⟩ := HS.out.get BW.out (fun _ _ h => h) k hlt
          by_cases hle : 1 + (sizeL (onL ls (l.take k)) : Int) ≤ most
          · have hmin : min (1 + (sizeL (onL ls (l.take k)) : Int)) (most + 1) = 1 + (sizeL (onL ls (l.take k)) : Int) := by omega
            rw [hmin]
            go_wp2_with fail
            refine (IH.out _ (List.getElem_mem hlt) _ _ _ _ X (HU.out.later BW.out) hx (by omega) (by omega)).mono ?_
            rintro e w3 ⟨rfl, hb3⟩
            have Hst := hide (onL_size_take ls l k hlt)
            have hm2 : 0 ≤ min ((sizeL [onT ls l[k]] : Int)) (most - (1 + (sizeL (onL ls (l.take k)) : Int)) + 1) := by omega
            have hm3 : min ((sizeL [onT ls l[k]] : Int)) (most - (1 + (sizeL (onL ls (l.take k)) : Int)) + 1) ≤ 1000001 := by omega
            go_wp2_with fail
            go_roundw
            case rel => exact ⟨k + 1, by omega, by go_num, by rw [Hst.out]; congr 1; omega, hb.trans (hb3.mono hb.size)⟩
            case measure => simp [intOf]; omega
          · have hmin : min (1 + (sizeL (onL ls (l.take k)) : Int)) (most + 1) = most + 1 := by omega
            rw [hmin]
            have hz : (sizeL [(⟨s, onL ls l⟩ : Tm)] : Int) = 1 + sizeL (onL ls l) := by simp [sizeL]
            have hle2 := onL_size_le ls l k
            have HF := hide (show (most + 1 : Int) = min (sizeL [(⟨s, onL ls l⟩ : Tm)] : Int) (most + 1) by omega)
            clear hz
            go_wp2_with fail
            go_ret
            exact ⟨ret_int (by rw [HD.out]; exact HF.out), BW.out⟩
        · have htk : l.take k = l := List.take_of_length_le (by omega)
          rw [htk]
          have hz : (sizeL [(⟨s, onL ls l⟩ : Tm)] : Int) = 1 + sizeL (onL ls l) := by simp [sizeL]
          have HZ := hide hz
          clear hz
          go_wp2_with fail
          all_goals (go_ret; exact ⟨ret_int (by rw [HD.out]; have := HZ.out; omega), BW.out⟩)
#print axioms grown_any
end Go.Proofs.Ytpbnbkeoiojpaac
