/- Walks: an automaton is asked; its last states. -/
import Derived.Test.YtfodgmnnjgcpgaaAu3
import Derived.Deep.DeepCutAuto
namespace Go.Proofs.Ytfodgmnnjgcpgaa
open Go.RowKit
set_option linter.unusedSimpArgs false
set_option linter.unusedVariables false
set_option maxRecDepth 8000

/-- One more number behind a row of one's own. -/
theorem rowZ_push {W : World} {N P : Nat} {v : Value} {l : List Int} {x : Int} (h : W.ownsRow N 3 1 v l.length (l.map fun z => .int .i64 z)) (hN : N ≤ W.heap.size) (hP : Blk W P #[.int .i64 x] 3) (hl : l.length ≤ 100000) :
    ∃ g cap W1, (Builtin.append_ #[23, 23] 23 #[v, .slice (some ⟨P, 0, none⟩) 1 1]).run Try.prog W = .ok (.slice (some ⟨g, 0, none⟩) (l.length + 1) cap) W1 ∧ W1.ownsRow N 3 1 (.slice (some ⟨g, 0, none⟩) (l.length + 1) cap) (l ++ [x]).length ((l ++ [x]).map fun z => .int .i64 z) ∧ W.grownBy W1 v.ownBlock ∧ N ≤ g := by
  obtain ⟨i0, hi, hz0, hz1, hz2⟩ := info_parts Try.infoInt
  obtain ⟨g, cap, W1, hr, ho, hg, hat, hgl⟩ := run_append_lies (P := Try.prog) (w := W) 23 23 N 3 i0 _ 1 8 Try.underlying23 hi hz0 hz1 hz2 rfl (by decide) v l.length _ h
    ⟨P, 0, none⟩ 1 1 [.int .i64 x] rfl (fun j u hj => by
      rw [add_at, hP.cell j]
      simpa using hj) (fun u hu => by simp at hu; subst hu; rfl) (by decide) (by unfold maxLen; omega) (by omega) hN _ rfl
  exact ⟨g, cap, W1, hr, by simpa using ho, hg, (ho.lt g rfl).1⟩

theorem rowZ_more {W : World} {N P : Nat} {v : Value} {l : List Int} {x : Int} (h : W.ownsRow N 3 1 v l.length (l.map fun z => .int .i64 z)) (hN : N ≤ W.heap.size) (hP : Blk W P #[.int .i64 x] 3) (hl : l.length ≤ 100000) :
    ∃ g n cap W1, (Builtin.append_ #[23, 23] 23 #[v, .slice (some ⟨P, 0, none⟩) 1 1]).run Try.prog W = .ok (.slice (some ⟨g, 0, none⟩) n cap) W1 ∧ W1.ownsRow N 3 1 (.slice (some ⟨g, 0, none⟩) n cap) (l ++ [x]).length ((l ++ [x]).map fun z => .int .i64 z) ∧ W.grownBy W1 v.ownBlock := by
  obtain ⟨g, cap, W1, hr, ho, hg, _⟩ := rowZ_push h hN hP hl
  exact ⟨g, _, cap, W1, hr, ho, hg⟩

/-- The last states below a number. -/
def lastK (A : Au) (k : Nat) : List Int := ((List.range k).filter fun (s : Nat) => decide ((s : Int) ∈ A.la)).map fun (s : Nat) => (s : Int)
theorem lastK_succ (A : Au) (k : Nat) : lastK A (k + 1) = if (k : Int) ∈ A.la then lastK A k ++ [(k : Int)] else lastK A k := by
  unfold lastK
  rw [List.range_succ, List.filter_append, List.map_append]
  by_cases h : (k : Int) ∈ A.la <;> simp [h]
theorem lastK_len (A : Au) (k : Nat) : (lastK A k).length ≤ k := by
  unfold lastK
  rw [List.length_map]
  exact Nat.le_trans (List.length_filter_le _ _) (by simp)
set_option maxHeartbeats 1000000 in
theorem lastOnce_any (A : Au) {S M : Nat} (hS : S ≤ 64) (hA : OkAu S M A) (v : Value) (w : World) (X : Nat → Prop) (hv : AV w X v A) :
    Calls Try.prog 57 #[v] w fun e w' => ∃ a c, e = .returned (.slice a (lastO A).length c) ∧ PV w' (fun b => w.heap.size ≤ b) (.slice a (lastO A).length c) (lastO A) ∧ Below w.heap.size w w' := by
  obtain ⟨am, cm, al, cl, rfl, hm, hp⟩ := hv
  obtain ⟨n, hn⟩ : ∃ n : Nat, A.st = (n : Int) := ⟨A.st.toNat, by have := hA.pos; omega⟩
  have hn64 : n ≤ 64 := by have := hA.st; omega
  have HLO : Hid (lastO A = lastK A n) := by unfold Hid lastO lastK; rw [hn]; rfl
  have HLA : Hid (∀ z ∈ A.la, 0 ≤ z ∧ z < 64) := fun z hz => by have := hA.la z hz; omega
  have HBT := hide (fun s : Nat => setN_bit A.la (fun z hz => (HLA.out z hz).1) s)
  have HST := hide (setN_lt A.la (fun z hz => (HLA.out z hz).2))
  rw [hn]
  have B1 : Hid (Below w.heap.size w (w.alloc (.cells #[.int .i64 (n : Int), .slice am A.mv.length cm, .slice al A.la.length cl] 25))) := (Below.refl _ _).alloc (Nat.le_refl _) _
  have T1 : Hid (Blk (w.alloc (.cells #[.int .i64 (n : Int), .slice am A.mv.length cm, .slice al A.la.length cl] 25)) w.heap.size #[.int .i64 (n : Int), .slice am A.mv.length cm, .slice al A.la.length cl] 25) := Blk.new w _ _
  have P1 := hide (hp.later B1.out)
  clear hm hp hA
  go_enter Try.func57, Try.ntmps57
  go_upto_region 2 with fail
  generalize (w.alloc (.cells #[.int .i64 (n : Int), .slice am A.mv.length cm, .slice al A.la.length cl] 25)) = w1 at *
  have c0 : w1.cell? ⟨w.heap.size, 0, none⟩ = some (.int .i64 (n : Int)) := T1.out.cell 0
  have c2 : w1.cell? ⟨w.heap.size, 2, none⟩ = some (.slice al A.la.length cl) := T1.out.cell 2
  have hlt1 := T1.out.lt
  go_wp2_with fail
  refine (setOf_any A.la HLA.out _ w1 X P1.out).mono ?_
  rintro e w2 ⟨rfl, rfl⟩
  generalize setN A.la = x at *
  go_wp2_with fail
  go_loopw [3, 11] (fun q i wr => ∃ k : Nat, k ≤ n ∧ i = .int .i64 (k : Int) ∧ wr.ownsRow w2.heap.size 3 1 q (lastK A k).length ((lastK A k).map fun z => .int .i64 z) ∧ Below w2.heap.size w2 wr) (fun q i wr => n - (intOf i).toNat)
  case atStart => exact ⟨0, Nat.zero_le _, rfl, World.ownsRow_nil _ _ _ _, Below.refl _ _⟩
  case round =>
    obtain ⟨k, hk, rfl, hown, hb⟩ := hrel
    obtain ⟨w3, rfl⟩ : ∃ w3, w3 = wr := ⟨_, rfl⟩
    obtain ⟨aq, cq, hq, _⟩ := pv_of_own hown
    subst hq
    have HOWN := hide hown
    have HB := hide hb
    have HLK := hide (lastK_len A k)
    clear hown hb
    by_cases hlt : k < n
    · have hki : (k : Int) < (n : Int) := by omega
      go_wp2_with fail
      refine (has_any x k (by omega) HST.out _).mono ?_
      rintro e w4 ⟨rfl, rfl⟩
      rw [HBT.out k]
      by_cases hin : (k : Int) ∈ A.la
      · have HNX : Hid (lastK A (k + 1) = lastK A k ++ [(k : Int)]) := by unfold Hid; rw [lastK_succ, if_pos hin]
        have hd : decide ((k : Int) ∈ A.la) = true := by simpa using hin
        rw [hd]
        obtain ⟨g, cap, W1, hr, ho, hg, hgN⟩ := rowZ_push (x := (k : Int)) (W := w4.alloc (.cells #[.int .i64 (k : Int)] 3)) (owns_keptA HOWN.out (fun b e => Below.heap_alloc _ _ _ (HOWN.out.lt b e).2)) (by have := HB.out.size; simp; omega) (Blk.new w4 _ _) (by have := HLK.out; omega)
        have HRUN := hide hr
        have HO2 := hide ho
        have HB5 : Hid (Below w2.heap.size w2 W1) := (HB.out.alloc HB.out.size _).grown hg (by have := HB.out.size; simp; omega) (fun q hq => (HOWN.out.lt q hq).1)
        clear hr ho hg hd hin
        go_wp2_with (at_builtin; refine wpList_append_eq rfl _ _ _ _ rfl rfl rfl HRUN.out ?_)
        go_roundw
        case rel => exact ⟨k + 1, by omega, by go_num, by rw [HNX.out, List.length_append]; have h9 := HO2.out; rw [List.length_append] at h9; exact h9, HB5.out⟩
        case measure => simp [intOf]; omega
      · have HNX : Hid (lastK A (k + 1) = lastK A k) := by unfold Hid; rw [lastK_succ, if_neg hin]
        have hd : decide ((k : Int) ∈ A.la) = false := by simpa using hin
        rw [hd]
        clear hd hin
        go_wp2_with fail
        go_roundw
        case rel => exact ⟨k + 1, by omega, by go_num, by rw [HNX.out]; exact HOWN.out, HB.out⟩
        case measure => simp [intOf]; omega
    · have hki : ¬ (k : Int) < (n : Int) := by omega
      have hkn : k = n := by omega
      subst hkn
      go_wp2_with fail
      go_ret
      rw [HLO.out]
      have h9 := pv_of_own HOWN.out
      exact ⟨aq, cq, rfl, h9.mono fun b h1 _ => Nat.le_trans B1.out.size h1.1, B1.out.trans (HB.out.mono B1.out.size)⟩
end Go.Proofs.Ytfodgmnnjgcpgaa
