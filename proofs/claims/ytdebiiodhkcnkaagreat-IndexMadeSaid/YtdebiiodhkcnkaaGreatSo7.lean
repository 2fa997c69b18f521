import Derived.Test.YtdebiiodhkcnkaaGreatSo6
import Derived.Test.YtdebiiodhkcnkaaGreatSo5
import Derived.RangeFuncNested
import Derived.RangeFuncBound
import Derived.RangeFuncCalls
import Derived.RangeFuncLeaves
import Derived.RangeFuncWrites
import Derived.Shelf.Abstract
import Derived.Shelf.RegionOpen
import Derived.OwnWalkIn
import Derived.TacticsInMore
import Derived.LoopNIn
import Derived.LoopIn
namespace Go.Proofs.YtdebiiodhkcnkaaGreat
open Go.RowKit Go.Shelf
attribute [local go_sem] Oper.semAt_some
set_option linter.unusedSimpArgs false
set_option linter.unusedVariables false
set_option maxRecDepth 8000
set_option maxHeartbeats 1000000 in
theorem backward_in (F : Fence) (n : Nat) (hf : F.fn 77) (hro : F.round = none) (v : Value) (w : World) (hv : ∃ a k c, v = .slice a k c) :
  CallsIn F n Tryz.prog 77 #[v] w fun e w' => e = .returned (.func (.func 107) #[] #[.pointer (some ⟨w.heap.size, 0, none⟩)]) ∧ w' = w.alloc (.cells #[v] 46) := by
 obtain ⟨a, k, c, rfl⟩ := hv
 refine callsIn_of_wp Tryz.func77 rfl hf ?_ hro
 simp only [Tryz.ntmps77, List.size_toArray, List.length_cons, List.length_nil, Nat.reduceAdd, Nat.reduceSub, Array.replicate_succ, Array.replicate_zero, List.push_toArray, List.append_toArray, List.nil_append, List.cons_append]
 gi_wp2
 go_ret
 exact ⟨rfl, rfl⟩
abbrev Yx := Int × Pc
def encY (x : Yx) : Array Value := #[.int .i64 x.1, .agg #[.string x.2.1.l.name, .slice x.2.2.1.1 x.2.1.l.args.length x.2.2.1.2, .string x.2.1.r.name, .slice x.2.2.2.1 x.2.1.r.args.length x.2.2.2.2]]
def backA {P : Yx → Prop} (xs : List Pc) (hP : ∀ k (h : k < xs.length), P ((k : Int), xs[k])) : (k : Nat) → k ≤ xs.length → List { x : Yx // P x }
 | 0, _ => []
 | k + 1, h => ⟨((k : Int), xs[k]), hP k h⟩ :: backA xs hP k (Nat.le_of_succ_le h)
theorem backA_len {P : Yx → Prop} {xs : List Pc} {hP : ∀ k (h : k < xs.length), P ((k : Int), xs[k])} : ∀ k (h : k ≤ xs.length), (backA xs hP k h).length = k
 | 0, _ => rfl
 | k + 1, h => by rw [backA, List.length_cons, backA_len k]
theorem backA_map {P : Yx → Prop} {xs : List Pc} {hP : ∀ k (h : k < xs.length), P ((k : Int), xs[k])} : ∀ k (h : k ≤ xs.length), (backA xs hP k h).map (fun x => x.1.2.1) = ((xs.take k).map (·.1)).reverse
 | 0, _ => by simp [backA]
 | k + 1, h => by
  rw [backA, List.map_cons, backA_map k, List.take_succ_eq_append_getElem (by omega), List.map_append, List.reverse_append]
  rfl
def PcAt (w : World) (b o : Nat) (xs : List Pc) : Prop := ∀ j u, (flat4 xs)[j]? = some u → w.cell? ⟨b, o + j, none⟩ = some u
set_option maxHeartbeats 1000000 in
theorem back1_in (F : Fence) (n : Nat) (h6 : F.fn 107) (hro : F.round = none) (hn : 1 ≤ n) {P : Yx → Prop} {Kp : World → World → Prop} (hKr : ∀ A, Kp A A) (hKt : ∀ {A B C : World}, Kp A B → Kp B C → Kp A C) (l Bn b o c : Nat) (hKc : ∀ {A B : World}, Kp A B → B.heap[b]? = A.heap[b]? ∧ B.heap[Bn]? = A.heap[Bn]?) (a : Option Addr) (xs : List Pc) (hP : ∀ k (h : k < xs.length), P ((k : Int), xs[k])) (ha : xs = [] ∨ a = some ⟨b, o, none⟩) (hxl : xs.length ≤ 1000000) (J Jx : List { x : Yx // P x } → World → Prop)
  (hY : ∀ pre x W, J pre W → pre.length < xs.length → YieldAt F (n - 1) Tryz.prog l (encY x.1) W fun e W' =>
   (e = .returned (.bool true) ∧ J (pre ++ [x]) W' ∧ Kp W W') ∨ (e = .returned (.bool false) ∧ Jx (pre ++ [x]) W'))
  (W : World) (hBn : W.cell? ⟨Bn, 0, none⟩ = some (.slice a xs.length c)) (hL : PcAt W b o xs) (h0 : J [] W) :
  CallsIn F n Tryz.prog 107 #[.func (.yield l) #[] #[], .pointer (some ⟨Bn, 0, none⟩)] W fun e W' => (∃ v, e = .returned v) ∧
   ((∃ ys, ys = backA xs hP xs.length (Nat.le_refl _) ∧ J ys W') ∨ (∃ pre, pre <+: backA xs hP xs.length (Nat.le_refl _) ∧ Jx pre W')) := by
 refine callsIn_of_wp Tryz.func107 rfl h6 ?_ hro
 simp only [Tryz.ntmps107, List.size_toArray, List.length_cons, List.length_nil, Nat.reduceAdd, Nat.reduceSub, Array.replicate_succ, Array.replicate_zero, List.push_toArray, List.append_toArray, List.nil_append, List.cons_append]
 gi_wp2
 gi_loopw [3] (fun i wr => ∃ (k : Nat) (hk : k ≤ xs.length), i = .int .i64 ((k : Int) - 1) ∧ Kp W wr ∧ ∃ pre, backA xs hP xs.length (Nat.le_refl _) = pre ++ backA xs hP k hk ∧ J pre wr) (fun i wr => (intOf i + 1).toNat)
 case atStart => exact ⟨xs.length, Nat.le_refl _, by go_num, hKr _, [], rfl, h0⟩
 case round =>
  obtain ⟨k, hk, rfl, hb, pre, hpre, hJ⟩ := hrel
  cases k with
  | zero =>
   gi_wp2
   go_end0
   exact ⟨⟨_, rfl⟩, .inl ⟨pre, by rw [hpre]; simp [backA], hJ⟩⟩
  | succ k =>
   have hkk : ((k + 1 : Nat) : Int) - 1 = k := by omega
   rw [hkk]
   obtain rfl : a = some ⟨b, o, none⟩ := ha.resolve_left (fun e => by rw [e] at hk; simp at hk)
   rw [backA] at hpre
   have hpl : pre.length < xs.length := by
    have h1 := congrArg List.length hpre
    rw [backA_len] at h1
    simp at h1
    omega
   have cc : ∀ j u, (enc4 xs[k])[j]? = some u → j < 4 → wr.cell? ⟨b, o + k * 4 + j, none⟩ = some u := fun j u hu hj => by
    rw [World.cell?_of_block (hKc hb).1, Nat.add_assoc]
    exact hL _ _ (by rw [flat4_get xs k (by omega) j hj]; exact hu)
   have c0 := cc 0 _ rfl (by decide)
   have c1 := cc 1 _ rfl (by decide)
   have c2 := cc 2 _ rfl (by decide)
   have c3 := cc 3 _ rfl (by decide)
   simp only [Nat.add_zero] at c0
   have hBr : wr.cell? ⟨Bn, 0, none⟩ = some (.slice (some ⟨b, o, none⟩) xs.length c) := by rw [World.cell?_of_block (hKc hb).2]; exact hBn
   have hkl : (k : Int) < (xs.length : Int) := by omega
   have hPk := hP k (by omega)
   obtain ⟨fn, tmps, assign, body, hy, hR⟩ := hY pre ⟨((k : Int), xs[k]), hPk⟩ wr hJ hpl
   have HP := hide hpre
   dsimp only [encY] at hy hR
   obtain ⟨x, hx⟩ : ∃ x, xs[k] = x := ⟨_, rfl⟩
   have HXK := hide hx
   simp only [hx] at c0 c1 c2 c3 hy
   clear cc hpre hL hBn hx
   gi_wp2
   refine hR.mono ?_
   rintro e W3 (⟨rfl, hJ3, hk3⟩ | ⟨rfl, hJx3⟩)
   ·gi_wp2
    go_roundw
    case rel => exact ⟨k, by omega, by go_num, hKt hb hk3, pre ++ [⟨((k : Int), xs[k]), hPk⟩], by rw [HP.out]; simp, hJ3⟩
    case measure => simp [intOf]
   ·gi_wp2
    refine bodyPost_ret (results_none rfl _ _ _) rfl ?_
    exact ⟨⟨_, rfl⟩, .inr ⟨pre ++ [⟨((k : Int), xs[k]), hPk⟩], ⟨backA xs hP k (by omega), by rw [HP.out]; simp⟩, hJx3⟩⟩
theorem back_stops (F : Fence) (n : Nat) (h6 : F.fn 107) (hro : F.round = none) (hn : 1 ≤ n) {P : Yx → Prop} {Kp : World → World → Prop} (hKr : ∀ A, Kp A A) (hKt : ∀ {A B C : World}, Kp A B → Kp B C → Kp A C) (Bn b o c : Nat) (hKc : ∀ {A B : World}, Kp A B → B.heap[b]? = A.heap[b]? ∧ B.heap[Bn]? = A.heap[Bn]?) (a : Option Addr) (xs : List Pc) (hP : ∀ k (h : k < xs.length), P ((k : Int), xs[k])) (ha : xs = [] ∨ a = some ⟨b, o, none⟩) (hxl : xs.length ≤ 1000000) (w : World) (hbn : b < w.heap.size) (hBn0 : Bn < w.heap.size) (hBn : w.cell? ⟨Bn, 0, none⟩ = some (.slice a xs.length c)) (hL : PcAt w b o xs) :
  SeqStopsK F n Tryz.prog 107 #[.pointer (some ⟨Bn, 0, none⟩)] (fun x : { x : Yx // P x } => encY x.1) Kp (fun ys => ys = backA xs hP xs.length (Nat.le_refl _)) (fun pre => pre <+: backA xs hP xs.length (Nat.le_refl _)) xs.length w := fun l J Jx W hW _ _ hY h0 =>
 back1_in F n h6 hro hn hKr hKt l Bn b o c hKc a xs hP ha hxl J Jx hY W ((hW.cell (p := ⟨Bn, 0, none⟩) hBn0).trans hBn) (fun j u hj => (hW.cell (p := ⟨b, o + j, none⟩) hbn).trans (hL j u hj)) h0
end Go.Proofs.YtdebiiodhkcnkaaGreat
