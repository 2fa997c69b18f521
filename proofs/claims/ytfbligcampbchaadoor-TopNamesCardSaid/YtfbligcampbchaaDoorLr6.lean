/- Walks: what a name stands for. -/
import Derived.Test.YtfbligcampbchaaDoorLr5
import Derived.Test.YtfbligcampbchaaDoorLr2
import Derived.Test.YtfbligcampbchaaDoorLt7
namespace Go.Proofs.YtfbligcampbchaaDoor
open Go.RowKit Go.Shelf
attribute [local go_sem] Oper.semAt_some
set_option linter.unusedSimpArgs false
set_option linter.unusedVariables false
set_option maxRecDepth 8000

theorem lastN_is {n : ByteArray} : ∀ {l : List ByteArray} {j : Nat} (hj : j < l.length), l[j] = n → (∀ i (h : i < l.length), j < i → l[i] ≠ n) → lastN n l = some j
  | x :: r, 0, hj, h0, h1 => by
    have hr : lastN n r = none := by
      cases hc : lastN n r with
      | none => rfl
      | some i => exact absurd (lastN_get hc) (by have := h1 (i + 1) (by have := lastN_lt hc; simp; omega) (by omega); simpa using this)
    unfold lastN
    rw [hr]
    simp at h0
    simp [h0]
  | x :: r, j + 1, hj, h0, h1 => by
    have hr := lastN_is (n := n) (l := r) (j := j) (by simp at hj; omega) (by simpa using h0) (fun i hi hji => by have := h1 (i + 1) (by simp; omega) (by omega); simpa using this)
    unfold lastN
    rw [hr]
 where
  lastN_get {n : ByteArray} : ∀ {l : List ByteArray} {i : Nat} (h : lastN n l = some i), l[i]'(lastN_lt h) = n
    | x :: r, i, h => by
      have h' := h
      unfold lastN at h'
      cases hc : lastN n r with
      | some j =>
        rw [hc] at h'
        simp at h'
        subst h'
        simpa using lastN_get hc
      | none =>
        rw [hc] at h'
        simp at h'
        obtain ⟨h1, h2⟩ := h'
        subst h2
        simpa using h1
theorem lastN_none {n : ByteArray} : ∀ {l : List ByteArray}, (∀ i (h : i < l.length), l[i] ≠ n) → lastN n l = none
  | [], _ => rfl
  | x :: r, h => by
    have hr : lastN n r = none := lastN_none fun i hi => by have := h (i + 1) (by simp; omega); simpa using this
    unfold lastN
    rw [hr]
    have := h 0 (by simp)
    simp at this
    simp [this]

/-- What a name stands for: its lambda term, or why it is thrown. -/
def NdPost (nm : List ByteArray) (n : ByteArray) (w : World) (e : Ending) (w' : World) : Prop :=
  Below w.heap.size w w' ∧ ((∃ j, lastN n nm = some j ∧ e = .returned (.agg #[.int .i64 1, .int .i64 ((nm.length : Int) - 1 - j), .slice none 0 0])) ∨
    (lastN n nm = none ∧ ∃ c, conN n = some c ∧ e = .returned (.agg #[.int .i64 4, .int .i64 c, .slice none 0 0])) ∨
    (lastN n nm = none ∧ conN n = none ∧ e = thrownL 15))

/-- Nothing has changed, and the names from k on are others. -/
def NdJ (nm : List ByteArray) (n : ByteArray) (W6 : World) (k : Nat) (W : World) : Prop := (∀ b : Nat, W.heap[b]? = W6.heap[b]?) ∧ W.heap.size = W6.heap.size ∧ W.os = W6.os ∧ W.tape = W6.tape ∧ W.output = W6.output ∧ ∀ j (h1 : k ≤ j) (h : j < nm.length), nm[j] ≠ n
/-- It is found, and told. -/
def NdX (nm : List ByteArray) (n : ByteArray) (W6 : World) (L R : Nat) (rd : Loop) (W : World) : Prop := (∀ b : Nat, b ≠ L → b ≠ R → W.heap[b]? = W6.heap[b]?) ∧ W.heap.size = W6.heap.size ∧ W.os = W6.os ∧ W.tape = W6.tape ∧ W.output = W6.output ∧ W.heap[L]? = some (.loop rd) ∧ ∃ j, lastN n nm = some j ∧ Blk W R #[.int .i64 1, .int .i64 ((nm.length : Int) - 1 - j), .slice none 0 0] 24

set_option maxHeartbeats 4000000 in
theorem named_any (nm : List ByteArray) (n s : ByteArray) (hn : nameB n = true) (B i k c Bs : Nat) (a : Option Addr) (Y : Nat → Prop) (w : World) (hX : Blk w B #[.string s, .int .i64 (i : Int), .int .i64 (k : Int), .slice a nm.length c] 60) (hnm : LV Value.string w Y (.slice a nm.length c) nm) (hl : nm.length ≤ 1000) (hT : Tb Bs w) (hS : Tse Bs w) (hBs : Bs ≤ w.heap.size) :
    Calls Tryd.prog 72 #[.pointer (some ⟨B, 0, none⟩), .string n] w fun e w' => NdPost nm n w e w' := by
  have HX := hide hX
  have HN := hide hnm
  have HT := hide hT
  have HS := hide hS
  have hBlt := hX.lt
  obtain ⟨a2, c2, e2, ⟨_, hc2⟩, h3⟩ := hnm
  simp at e2
  obtain ⟨rfl, rfl⟩ := e2
  obtain ⟨bn, on, hab, hcells⟩ : ∃ bn on, (nm = [] ∨ a = some ⟨bn, on, none⟩) ∧ ∀ i (h : i < nm.length), w.cell? ⟨bn, on + i, none⟩ = some (.string nm[i]) := by
    rcases h3 with rfl | ⟨b, o, rfl, _, h3⟩
    · exact ⟨0, 0, Or.inl rfl, fun i h => by simp at h⟩
    · exact ⟨b, o, Or.inr rfl, h3⟩
  have HC := hide hcells
  clear hT hS h3 hcells
  have W3f : Hid (∃ W3, W3 = (((w.alloc (.cells #[.pointer (some ⟨B, 0, none⟩)] 78)).alloc (.cells #[.string n] 9)).alloc (.cells #[.int .i64 0, .int .i64 0, .slice none 0 0] 24))) := ⟨_, rfl⟩
  have x3 : (((w.alloc (.cells #[.pointer (some ⟨B, 0, none⟩)] 78)).alloc (.cells #[.string n] 9)).alloc (.cells #[.int .i64 0, .int .i64 0, .slice none 0 0] 24)).cell? ⟨B, 3, none⟩ = some (.slice a nm.length c) := (((HX.out.alloc _).alloc _).alloc _).cell 3
  refine (callsIn_wide (n := 6)).1 ?_
  refine callsIn_of_wp_marks Tryd.func72 rfl trivial ?_ rfl
  simp only [Tryd.ntmps72, List.size_toArray, List.length_cons, List.length_nil, Nat.reduceAdd, Nat.reduceSub, Array.replicate_succ, Array.replicate_zero, List.push_toArray, List.append_toArray, List.nil_append, List.cons_append]
  gi_wp2
  refine ⟨trivial, ((callsIn_wide (n := 5)).2 (backN_any _ _ ⟨_, _, _, rfl⟩)).mono ?_⟩
  rintro e w' ⟨rfl, rfl⟩
  have hz4 : ((((w.alloc (.cells #[.pointer (some ⟨B, 0, none⟩)] 78)).alloc (.cells #[.string n] 9)).alloc (.cells #[.int .i64 0, .int .i64 0, .slice none 0 0] 24)).alloc (.cells #[.slice a nm.length c] 25)).heap.size = w.heap.size + 4 := by simp
  have hz3 : (((w.alloc (.cells #[.pointer (some ⟨B, 0, none⟩)] 78)).alloc (.cells #[.string n] 9)).alloc (.cells #[.int .i64 0, .int .i64 0, .slice none 0 0] 24)).heap.size = w.heap.size + 3 := by simp
  have HB4 : Hid (Below w.heap.size w ((((w.alloc (.cells #[.pointer (some ⟨B, 0, none⟩)] 78)).alloc (.cells #[.string n] 9)).alloc (.cells #[.int .i64 0, .int .i64 0, .slice none 0 0] 24)).alloc (.cells #[.slice a nm.length c] 25))) := (((((Below.refl _ _).alloc (Nat.le_refl _) _).alloc (by simp) _).alloc (by simp; omega) _).alloc (by simp; omega) _)
  have A0 : Hid (Blk ((((w.alloc (.cells #[.pointer (some ⟨B, 0, none⟩)] 78)).alloc (.cells #[.string n] 9)).alloc (.cells #[.int .i64 0, .int .i64 0, .slice none 0 0] 24)).alloc (.cells #[.slice a nm.length c] 25)) w.heap.size #[.pointer (some ⟨B, 0, none⟩)] 78) := (((Blk.new w _ _).alloc _).alloc _).alloc _
  have A1 : Hid (Blk ((((w.alloc (.cells #[.pointer (some ⟨B, 0, none⟩)] 78)).alloc (.cells #[.string n] 9)).alloc (.cells #[.int .i64 0, .int .i64 0, .slice none 0 0] 24)).alloc (.cells #[.slice a nm.length c] 25)) (w.heap.size + 1) #[.string n] 9) := by
    have h := ((Blk.new (w.alloc (.cells #[.pointer (some ⟨B, 0, none⟩)] 78)) #[.string n] 9).alloc (.cells #[.int .i64 0, .int .i64 0, .slice none 0 0] 24)).alloc (.cells #[.slice a nm.length c] 25)
    have hz : (w.alloc (.cells #[.pointer (some ⟨B, 0, none⟩)] 78)).heap.size = w.heap.size + 1 := by simp
    rw [hz] at h
    exact h
  have A2 : Hid (Blk ((((w.alloc (.cells #[.pointer (some ⟨B, 0, none⟩)] 78)).alloc (.cells #[.string n] 9)).alloc (.cells #[.int .i64 0, .int .i64 0, .slice none 0 0] 24)).alloc (.cells #[.slice a nm.length c] 25)) (w.heap.size + 2) #[.int .i64 0, .int .i64 0, .slice none 0 0] 24) := by
    have h := (Blk.new ((w.alloc (.cells #[.pointer (some ⟨B, 0, none⟩)] 78)).alloc (.cells #[.string n] 9)) #[.int .i64 0, .int .i64 0, .slice none 0 0] 24).alloc (.cells #[.slice a nm.length c] 25)
    have hz : ((w.alloc (.cells #[.pointer (some ⟨B, 0, none⟩)] 78)).alloc (.cells #[.string n] 9)).heap.size = w.heap.size + 2 := by simp
    rw [hz] at h
    exact h
  have A3 : Hid (Blk ((((w.alloc (.cells #[.pointer (some ⟨B, 0, none⟩)] 78)).alloc (.cells #[.string n] 9)).alloc (.cells #[.int .i64 0, .int .i64 0, .slice none 0 0] 24)).alloc (.cells #[.slice a nm.length c] 25)) (w.heap.size + 3) #[.slice a nm.length c] 25) := by
    have h := Blk.new (((w.alloc (.cells #[.pointer (some ⟨B, 0, none⟩)] 78)).alloc (.cells #[.string n] 9)).alloc (.cells #[.int .i64 0, .int .i64 0, .slice none 0 0] 24)) #[.slice a nm.length c] 25
    rw [hz3] at h
    exact h
  gi_wp2
  generalize ((((w.alloc (.cells #[.pointer (some ⟨B, 0, none⟩)] 78)).alloc (.cells #[.string n] 9)).alloc (.cells #[.int .i64 0, .int .i64 0, .slice none 0 0] 24)).alloc (.cells #[.slice a nm.length c] 25)) = W4 at *
  clear x3 W3f hz3
  refine wp_range2 (gf := 83) (lb := #[.pointer (some ⟨w.heap.size + 3, 0, none⟩)]) rfl (enters_of Tryd.func83 (by kernel_rfl) rfl) ?_
  intro r hr1 hr2 hr3 hr4 hr5 hr6
  rw [hz4]
  have e45 : w.heap.size + 4 + 1 = w.heap.size + 5 := rfl
  rw [e45]
  clear e45
  have hz6 : ((W4.alloc (.deferred (some []))).alloc (.loop r)).heap.size = w.heap.size + 6 := by simp [hz4]
  have HB6 : Hid (Below w.heap.size w ((W4.alloc (.deferred (some []))).alloc (.loop r))) := (HB4.out.alloc (by omega) _).alloc (by simp; omega) _
  have D0 : Hid (Blk ((W4.alloc (.deferred (some []))).alloc (.loop r)) w.heap.size #[.pointer (some ⟨B, 0, none⟩)] 78) := (A0.out.alloc _).alloc _
  have D1 : Hid (Blk ((W4.alloc (.deferred (some []))).alloc (.loop r)) (w.heap.size + 1) #[.string n] 9) := (A1.out.alloc _).alloc _
  have D2 : Hid (Blk ((W4.alloc (.deferred (some []))).alloc (.loop r)) (w.heap.size + 2) #[.int .i64 0, .int .i64 0, .slice none 0 0] 24) := (A2.out.alloc _).alloc _
  have D3 : Hid (Blk ((W4.alloc (.deferred (some []))).alloc (.loop r)) (w.heap.size + 3) #[.slice a nm.length c] 25) := (A3.out.alloc _).alloc _
  have D4 : Hid (((W4.alloc (.deferred (some []))).alloc (.loop r)).heap[w.heap.size + 4]? = some (.deferred (some []))) := by
    unfold Hid
    rw [Below.heap_alloc _ _ _ (by simp; omega), ← hz4]
    exact heap_alloc_new _ _
  have D5 : Hid (((W4.alloc (.deferred (some []))).alloc (.loop r)).heap[w.heap.size + 5]? = some (.loop r)) := by
    have h := heap_alloc_new (W4.alloc (.deferred (some []))) (.loop r)
    have hz : (W4.alloc (.deferred (some []))).heap.size = w.heap.size + 5 := by simp [hz4]
    rw [hz] at h
    exact h
  generalize ((W4.alloc (.deferred (some []))).alloc (.loop r)) = W6 at *
  clear A0 A1 A2 A3 HB4 hz4
  have DX := hide (HX.out.below HB6.out HX.out.lt)
  have DC : Hid (∀ i (h : i < nm.length), W6.cell? ⟨bn, on + i, none⟩ = some (.string nm[i])) := fun i h => cell_is (HC.out i h) HB6.out
  obtain ⟨rd, hrd⟩ : ∃ rd : Loop, rd = { r with state := .done, pending := some .ret } := ⟨_, rfl⟩
  obtain ⟨rb, hrb⟩ : ∃ rb : Loop, rb = { r with state := .busy } := ⟨_, rfl⟩
  have hJc : ∀ k W, NdJ nm n W6 k W → W.cell? ⟨w.heap.size + 3, 0, none⟩ = some (.slice a nm.length c) ∧ ∀ i (h : i < nm.length), W.cell? ⟨bn, on + i, none⟩ = some (.string nm[i]) := fun k W h => by
    refine ⟨?_, fun i hi => ?_⟩
    · rw [World.cell?_of_block (h.1 _)]; exact D3.out.cell 0
    · rw [World.cell?_of_block (h.1 _)]; exact DC.out i hi
  refine (back1N_any nm (w.heap.size + 5) (w.heap.size + 3) bn on c a hab (by omega) (NdJ nm n W6) (NdX nm n W6 (w.heap.size + 5) (w.heap.size + 2) rd) hJc ?_ W6 ⟨fun b => rfl, rfl, rfl, rfl, rfl, fun j h1 h2 => by omega⟩).mono ?_
  · intro n' j hj W hJ
    obtain ⟨q1, q2, q3, q4, q5, q6⟩ := hJ
    have hL : W.heap[w.heap.size + 5]? = some (.loop r) := (q1 _).trans D5.out
    have hzV : (W.putObj (w.heap.size + 5) (.loop rb)).heap.size = w.heap.size + 6 := by simp; omega
    have kV : ∀ b : Nat, b ≠ w.heap.size + 5 → (W.putObj (w.heap.size + 5) (.loop rb)).heap[b]? = W6.heap[b]? := fun b hne => (World.putObj_heap_other hne).trans (q1 b)
    have E0 : Hid (Blk (W.putObj (w.heap.size + 5) (.loop rb)) w.heap.size #[.pointer (some ⟨B, 0, none⟩)] 78) := (kV _ (by omega)).trans D0.out
    have E1 : Hid (Blk (W.putObj (w.heap.size + 5) (.loop rb)) (w.heap.size + 1) #[.string n] 9) := (kV _ (by omega)).trans D1.out
    have E2 : Hid (Blk (W.putObj (w.heap.size + 5) (.loop rb)) (w.heap.size + 2) #[.int .i64 0, .int .i64 0, .slice none 0 0] 24) := (kV _ (by omega)).trans D2.out
    have EX : Hid (Blk (W.putObj (w.heap.size + 5) (.loop rb)) B #[.string s, .int .i64 (i : Int), .int .i64 (k : Int), .slice a nm.length c] 60) := (kV _ (by omega)).trans DX.out
    have HLV : Hid ((W.putObj (w.heap.size + 5) (.loop rb)).heap[w.heap.size + 5]? = some (.loop rb)) := World.putObj_heap_same (by omega)
    have HKV := hide kV
    have HOS : Hid ((W.putObj (w.heap.size + 5) (.loop rb)).os = W6.os ∧ (W.putObj (w.heap.size + 5) (.loop rb)).tape = W6.tape ∧ (W.putObj (w.heap.size + 5) (.loop rb)).output = W6.output) := ⟨q3, q4, q5⟩
    have HQ6 := hide q6
    have HQ1 := hide q1
    have hL2 := hL
    have HRR := hide (And.intro hrb hrd)
    clear kV q1 q3 q4 q5 q6
    refine yield_two HRR.out.1 HRR.out.2 hr5 hr6 hr4 hr3 hL hr1 hr2 rfl ?_
    clear hL hr1 hr2 hr3 hr4 hr5 hr6
    generalize hx : nm[j] = x
    have HXJ := hide hx
    clear hx
    gi_wp2
    refine ⟨hL2, ?_⟩
    clear hL2
    generalize hV : (W.putObj (w.heap.size + 5) (.loop rb)) = V at *
    have HV := hide hV
    clear hV hrb hrd
    have e0 : V.cell? ⟨w.heap.size, 0, none⟩ = some (.pointer (some ⟨B, 0, none⟩)) := E0.out.cell 0
    have e1 : V.cell? ⟨w.heap.size + 1, 0, none⟩ = some (.string n) := E1.out.cell 0
    have e2 : V.cell? ⟨w.heap.size + 1 + 1, 0, none⟩ = some (.int .i64 0) := E2.out.cell 0
    have e3 : V.cell? ⟨w.heap.size + 1 + 1, 1, none⟩ = some (.int .i64 0) := E2.out.cell 1
    have e4 : V.cell? ⟨w.heap.size + 1 + 1, 2, none⟩ = some (.slice none 0 0) := E2.out.cell 2
    have ef : ∀ q, V.frozen? ⟨w.heap.size + 1 + 1, q, none⟩ = false := fun q => E2.out.frozen q
    have ex : V.cell? ⟨B, 3, none⟩ = some (.slice a nm.length c) := EX.out.cell 3
    have hjl : (j : Int) < (nm.length : Int) := by omega
    have hll : (nm.length : Int) ≤ 1000 := by omega
    by_cases hxn : x = n
    · subst hxn
      gi_wp2
      have k3 : ∀ b : Nat, b ≠ w.heap.size + 2 → (((V.setCell ⟨w.heap.size + 1 + 1, 0, none⟩ (.int .i64 1)).setCell ⟨w.heap.size + 1 + 1, 1, none⟩ (.int .i64 ((nm.length : Int) - 1 - j))).setCell ⟨w.heap.size + 1 + 1, 2, none⟩ (.slice none 0 0)).heap[b]? = V.heap[b]? := fun b hb => by
        rw [Below.heap_setCell _ _ _ _ (by simpa using hb)]
        rw [Below.heap_setCell _ _ _ _ (by simpa using hb)]
        rw [Below.heap_setCell _ _ _ _ (by simpa using hb)]
      have hB3 : Blk (((V.setCell ⟨w.heap.size + 1 + 1, 0, none⟩ (.int .i64 1)).setCell ⟨w.heap.size + 1 + 1, 1, none⟩ (.int .i64 ((nm.length : Int) - 1 - j))).setCell ⟨w.heap.size + 1 + 1, 2, none⟩ (.slice none 0 0)) (w.heap.size + 2) #[.int .i64 1, .int .i64 ((nm.length : Int) - 1 - j), .slice none 0 0] 24 := lt_set3 E2.out _ _ _
      have hz3 : (((V.setCell ⟨w.heap.size + 1 + 1, 0, none⟩ (.int .i64 1)).setCell ⟨w.heap.size + 1 + 1, 1, none⟩ (.int .i64 ((nm.length : Int) - 1 - j))).setCell ⟨w.heap.size + 1 + 1, 2, none⟩ (.slice none 0 0)).heap.size = V.heap.size := by simp [World.setCell]
      have ho3 : (((V.setCell ⟨w.heap.size + 1 + 1, 0, none⟩ (.int .i64 1)).setCell ⟨w.heap.size + 1 + 1, 1, none⟩ (.int .i64 ((nm.length : Int) - 1 - j))).setCell ⟨w.heap.size + 1 + 1, 2, none⟩ (.slice none 0 0)).os = V.os ∧ (((V.setCell ⟨w.heap.size + 1 + 1, 0, none⟩ (.int .i64 1)).setCell ⟨w.heap.size + 1 + 1, 1, none⟩ (.int .i64 ((nm.length : Int) - 1 - j))).setCell ⟨w.heap.size + 1 + 1, 2, none⟩ (.slice none 0 0)).tape = V.tape ∧ (((V.setCell ⟨w.heap.size + 1 + 1, 0, none⟩ (.int .i64 1)).setCell ⟨w.heap.size + 1 + 1, 1, none⟩ (.int .i64 ((nm.length : Int) - 1 - j))).setCell ⟨w.heap.size + 1 + 1, 2, none⟩ (.slice none 0 0)).output = V.output := ⟨rfl, rfl, rfl⟩
      generalize (((V.setCell ⟨w.heap.size + 1 + 1, 0, none⟩ (.int .i64 1)).setCell ⟨w.heap.size + 1 + 1, 1, none⟩ (.int .i64 ((nm.length : Int) - 1 - j))).setCell ⟨w.heap.size + 1 + 1, 2, none⟩ (.slice none 0 0)) = W3 at *
      have hLN : lastN x nm = some j := lastN_is hj HXJ.out (fun i hi hji => HQ6.out i (by omega) hi)
      refine ⟨(k3 _ (by omega)).trans HLV.out, Or.inr ⟨rfl, fun b h1 h2 => (World.putObj_heap_other h1).trans ((k3 b h2).trans (HKV.out b h1)), by simp; omega, ho3.1.trans HOS.out.1, ho3.2.1.trans HOS.out.2.1, ho3.2.2.trans HOS.out.2.2, World.putObj_heap_same (by omega), j, hLN, (World.putObj_heap_other (by omega)).trans hB3⟩⟩
    · have g1 : (x.toList == n.toList) = false := by
        cases hq : (x.toList == n.toList) with
        | false => rfl
        | true =>
          exfalso
          apply hxn
          have h1 : x.toList = n.toList := by simpa using hq
          rw [ByteArray.toList_eq, ByteArray.toList_eq] at h1
          exact ByteArray.ext (Array.toList_inj.1 h1)
      have g2 : ¬ x = n := hxn
      clear hxn
      gi_wp2
      refine ⟨HLV.out, Or.inl ⟨rfl, fun b => ?_, by simp; omega, HOS.out.1, HOS.out.2.1, HOS.out.2.2, fun j' h1 h2 => ?_⟩⟩
      · by_cases hbL : b = w.heap.size + 5
        · subst hbL; exact (World.putObj_heap_same (by omega)).trans D5.out.symm
        · exact (World.putObj_heap_other hbL).trans (HKV.out b hbL)
      · by_cases hjj : j' = j
        · subst hjj; rw [HXJ.out]; exact g2
        · exact HQ6.out j' (by omega) h2
  · rintro e Wf ⟨hret, hJf | hXf⟩
    · refine ⟨hret, Or.inl ⟨(hJf.1 _).trans D5.out, ?_⟩⟩
      have HLN : Hid (lastN n nm = none) := lastN_none fun i hi => hJf.2.2.2.2.2 i (Nat.zero_le _) hi
      have kg : ∀ b : Nat, b ≠ w.heap.size + 5 → (Wf.putObj (w.heap.size + 5) (.loop { r with state := .exhausted })).heap[b]? = W6.heap[b]? := fun b h => (World.putObj_heap_other h).trans (hJf.1 b)
      have hzg : (Wf.putObj (w.heap.size + 5) (.loop { r with state := .exhausted })).heap.size = w.heap.size + 6 := by have := hJf.2.1; simp; omega
      have HBg : Hid (Below w.heap.size w (Wf.putObj (w.heap.size + 5) (.loop { r with state := .exhausted }))) := ⟨hJf.2.2.1.trans HB6.out.os, hJf.2.2.2.1.trans HB6.out.tape, hJf.2.2.2.2.1.trans HB6.out.output, by omega, fun b hb => (kg b (by omega)).trans (HB6.out.block b hb)⟩
      have G1 : Hid (Blk (Wf.putObj (w.heap.size + 5) (.loop { r with state := .exhausted })) (w.heap.size + 1) #[.string n] 9) := (kg _ (by omega)).trans D1.out
      have G2 : Hid (Blk (Wf.putObj (w.heap.size + 5) (.loop { r with state := .exhausted })) (w.heap.size + 2) #[.int .i64 0, .int .i64 0, .slice none 0 0] 24) := (kg _ (by omega)).trans D2.out
      have G4 : Hid ((Wf.putObj (w.heap.size + 5) (.loop { r with state := .exhausted })).heap[w.heap.size + 4]? = some (.deferred (some []))) := (kg _ (by omega)).trans D4.out
      generalize (Wf.putObj (w.heap.size + 5) (.loop { r with state := .exhausted })) = Wg at *
      clear kg hJf hret hr1 hr2 hr3 hr4 hr5 hr6 hrd hrb hJc
      have g1 : Wg.cell? ⟨w.heap.size + 1, 0, none⟩ = some (.string n) := G1.out.cell 0
      gi_wp2
      refine ⟨trivial, ((callsIn_wide (n := 5)).2 (constant_any n hn Bs Wg (HT.out.on (HBg.out.mono hBs)) (HS.out.on (HBg.out.mono hBs)) (by omega))).mono ?_⟩
      rintro e W8 ⟨⟨z, rfl, hz⟩, hb8⟩
      have HB8 := hide (HBg.out.trans (hb8.mono HBg.out.size))
      have I2 := hide (G2.out.below hb8 G2.out.lt)
      have I4 : Hid (W8.heap[w.heap.size + 4]? = some (.deferred (some []))) := (hb8.block _ (by omega)).trans G4.out
      have hz8 := hb8.size
      have HZ := hide hz
      clear hb8 hz g1
      have i0 : W8.cell? ⟨w.heap.size + 1 + 1, 0, none⟩ = some (.int .i64 0) := I2.out.cell 0
      have i1 : W8.cell? ⟨w.heap.size + 1 + 1, 1, none⟩ = some (.int .i64 0) := I2.out.cell 1
      have i2 : W8.cell? ⟨w.heap.size + 1 + 1, 2, none⟩ = some (.slice none 0 0) := I2.out.cell 2
      have ifz : ∀ q, W8.frozen? ⟨w.heap.size + 1 + 1, q, none⟩ = false := fun q => I2.out.frozen q
      cases hcn : conN n with
      | some c0 =>
        have hzc := HZ.out c0 hcn
        subst hzc
        gi_wp2
        have Q2 : Blk (((W8.setCell ⟨w.heap.size + 1 + 1, 0, none⟩ (.int .i64 4)).setCell ⟨w.heap.size + 1 + 1, 1, none⟩ (.int .i64 (c0 : Int))).setCell ⟨w.heap.size + 1 + 1, 2, none⟩ (.slice none 0 0)) (w.heap.size + 2) #[.int .i64 4, .int .i64 (c0 : Int), .slice none 0 0] 24 := lt_set3 I2.out _ _ _
        have Q4 : (((W8.setCell ⟨w.heap.size + 1 + 1, 0, none⟩ (.int .i64 4)).setCell ⟨w.heap.size + 1 + 1, 1, none⟩ (.int .i64 (c0 : Int))).setCell ⟨w.heap.size + 1 + 1, 2, none⟩ (.slice none 0 0)).heap[w.heap.size + 4]? = some (.deferred (some [])) := by
          rw [Below.heap_setCell _ _ _ _ (by simp)]
          rw [Below.heap_setCell _ _ _ _ (by simp)]
          rw [Below.heap_setCell _ _ _ _ (by simp)]
          exact I4.out
        have QB : Below w.heap.size w (((W8.setCell ⟨w.heap.size + 1 + 1, 0, none⟩ (.int .i64 4)).setCell ⟨w.heap.size + 1 + 1, 1, none⟩ (.int .i64 (c0 : Int))).setCell ⟨w.heap.size + 1 + 1, 2, none⟩ (.slice none 0 0)) := ((HB8.out.setCell (by simp; omega) _).setCell (by simp; omega) _).setCell (by simp; omega) _
        generalize (((W8.setCell ⟨w.heap.size + 1 + 1, 0, none⟩ (.int .i64 4)).setCell ⟨w.heap.size + 1 + 1, 1, none⟩ (.int .i64 (c0 : Int))).setCell ⟨w.heap.size + 1 + 1, 2, none⟩ (.slice none 0 0)) = W9 at *
        have R2 : Blk (W9.putObj (w.heap.size + 4) (.deferred none)) (w.heap.size + 2) #[.int .i64 4, .int .i64 (c0 : Int), .slice none 0 0] 24 := (World.putObj_heap_other (by omega)).trans Q2
        have RB : Below w.heap.size w (W9.putObj (w.heap.size + 4) (.deferred none)) := ⟨QB.os, QB.tape, QB.output, by simp; exact QB.size, fun b hb => (World.putObj_heap_other (by omega)).trans (QB.block b hb)⟩
        refine ⟨by simp, .inl ⟨_, _, rfl, run_takeDeferred Q4, ?_⟩⟩
        refine ⟨.agg #[.int .i64 4, .int .i64 (c0 : Int), .slice none 0 0], ?_, RB, Or.inr (Or.inl ⟨HLN.out, c0, hcn, rfl⟩)⟩
        have e0 : (W9.putObj (w.heap.size + 4) (.deferred none)).cell? ⟨w.heap.size + 1 + 1, 0, none⟩ = some (.int .i64 4) := R2.cell 0
        have e1 : (W9.putObj (w.heap.size + 4) (.deferred none)).cell? ⟨w.heap.size + 1 + 1, 1, none⟩ = some (.int .i64 (c0 : Int)) := R2.cell 1
        have e2 : (W9.putObj (w.heap.size + 4) (.deferred none)).cell? ⟨w.heap.size + 1 + 1, 2, none⟩ = some (.slice none 0 0) := R2.cell 2
        simp [results, Tryd.results72, go_sem, e0, e1, e2]
      | none =>
        have hcs : (conN n).isSome = false := by rw [hcn]; rfl
        simp only [Option.isSome_none]
        gi_wp2
        refine ⟨by simp, .inl ⟨_, _, rfl, run_takeDeferred I4.out, ?_⟩⟩
        exact ⟨⟨HB8.out.os, HB8.out.tape, HB8.out.output, by simp; exact HB8.out.size, fun b hb => (World.putObj_heap_other (by omega)).trans (HB8.out.block b hb)⟩, Or.inr (Or.inr ⟨HLN.out, hcn, rfl⟩)⟩
    · obtain ⟨x1, x2, x3, x4, x5, x6, j, hj, hR⟩ := hXf
      refine ⟨hret, Or.inr ⟨by rw [← hrd]; exact x6, ?_⟩⟩
      have kg : ∀ b : Nat, b ≠ w.heap.size + 5 → (Wf.putObj (w.heap.size + 5) (.loop { r with state := .exhausted, pending := some .ret })).heap[b]? = Wf.heap[b]? := fun b h => World.putObj_heap_other h
      have hzg : (Wf.putObj (w.heap.size + 5) (.loop { r with state := .exhausted, pending := some .ret })).heap.size = w.heap.size + 6 := by simp; omega
      have HBg : Hid (Below w.heap.size w (Wf.putObj (w.heap.size + 5) (.loop { r with state := .exhausted, pending := some .ret }))) := ⟨x3.trans HB6.out.os, x4.trans HB6.out.tape, x5.trans HB6.out.output, by omega, fun b hb => (kg b (by omega)).trans ((x1 b (by omega) (by omega)).trans (HB6.out.block b hb))⟩
      have G2 : Hid (Blk (Wf.putObj (w.heap.size + 5) (.loop { r with state := .exhausted, pending := some .ret })) (w.heap.size + 2) #[.int .i64 1, .int .i64 ((nm.length : Int) - 1 - j), .slice none 0 0] 24) := (kg _ (by omega)).trans hR
      have G4 : Hid ((Wf.putObj (w.heap.size + 5) (.loop { r with state := .exhausted, pending := some .ret })).heap[w.heap.size + 4]? = some (.deferred (some []))) := (kg _ (by omega)).trans ((x1 _ (by omega) (by omega)).trans D4.out)
      generalize (Wf.putObj (w.heap.size + 5) (.loop { r with state := .exhausted, pending := some .ret })) = Wg at *
      clear kg hret hr1 hr2 hr3 hr4 hr5 hr6 hrd hrb hJc x1 x2 x3 x4 x5 x6 hR
      have R2 : Hid (Blk (Wg.putObj (w.heap.size + 4) (.deferred none)) (w.heap.size + 2) #[.int .i64 1, .int .i64 ((nm.length : Int) - 1 - j), .slice none 0 0] 24) := (World.putObj_heap_other (by omega)).trans G2.out
      have RB : Hid (Below w.heap.size w (Wg.putObj (w.heap.size + 4) (.deferred none))) := ⟨HBg.out.os, HBg.out.tape, HBg.out.output, by simp; exact HBg.out.size, fun b hb => (World.putObj_heap_other (by omega)).trans (HBg.out.block b hb)⟩
      gi_wp2
      refine ⟨by simp, .inl ⟨_, _, rfl, run_takeDeferred G4.out, ?_⟩⟩
      refine ⟨.agg #[.int .i64 1, .int .i64 ((nm.length : Int) - 1 - j), .slice none 0 0], ?_, RB.out, Or.inl ⟨j, hj, rfl⟩⟩
      have e0 : (Wg.putObj (w.heap.size + 4) (.deferred none)).cell? ⟨w.heap.size + 1 + 1, 0, none⟩ = some (.int .i64 1) := R2.out.cell 0
      have e1 : (Wg.putObj (w.heap.size + 4) (.deferred none)).cell? ⟨w.heap.size + 1 + 1, 1, none⟩ = some (.int .i64 ((nm.length : Int) - 1 - j)) := R2.out.cell 1
      have e2 : (Wg.putObj (w.heap.size + 4) (.deferred none)).cell? ⟨w.heap.size + 1 + 1, 2, none⟩ = some (.slice none 0 0) := R2.out.cell 2
      simp [results, Tryd.results72, go_sem, e0, e1, e2]
end Go.Proofs.YtfbligcampbchaaDoor
