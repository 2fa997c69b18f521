import Derived.Test.YtdebiiodhkcnkaaGreatZIndexMadeOwn
import Derived.Test.YtdebiiodhkcnkaaGreatW50
namespace Go.Proofs.YtdebiiodhkcnkaaGreat
open Go.RowKit
set_option linter.unusedSimpArgs false
set_option linter.unusedVariables false
set_option maxRecDepth 8000
def GwInv (w0 : World) (M : Nat) (ls : List Bd) (l : List Tm) (most : Int) (n i : Value) (wr : World) : Prop := ∃ k : Nat, k ≤ l.length ∧ i = .int .i64 k ∧ n = .int .i64 (min (1 + sizeL (onL ls (l.take k))) (most + 1)) ∧ Below M w0 wr
set_option maxHeartbeats 1000000 in
theorem grown_any (ls : List Bd) (t : Tm) : ∀ (u v : Value) (most : Int) (w : World) (X : Nat → Prop), BV w X u ls → TV w X v t → 0 ≤ most → most ≤ 1000000 →
  Calls Tryz.prog 62 #[u, v, .int .i64 most] w fun e w' => e = .returned (.int .i64 (min (sizeL [onT ls t]) (most + 1))) ∧ Below w.heap.size w w' := by
 induction t using Tm.ind with
 | h s l ih =>
  intro u v most w X hu hv hm0 hm1
  obtain ⟨a, c, rfl, hs⟩ := hv
  have IH := hide ih
  have HU := hide hu
  have HS := hide hs
  have hl := hs.1
  clear ih hu hs
  go_enter Tryz.func62, Tryz.ntmps62
  go_wp2_with fail
  refine (for_any ls s u _ X (by exact HU.out.alloc _)).mono ?_
  rintro e w1 ⟨hb1, hcase⟩
  have T1 := hide ((Blk.new w #[.string s, .slice a l.length c] 26).below hb1 (by simp))
  have B1 := hide (((Below.refl w.heap.size w).alloc (Nat.le_refl _) (.cells #[.string s, .slice a l.length c] 26)).trans (hb1.mono (by simp)))
  have hlt1 : w.heap.size < w1.heap.size := T1.out.lt
  clear hb1
  have t0 : ∀ o, (w1.alloc o).cell? ⟨w.heap.size, 0, none⟩ = some (.string s) := fun o => (T1.out.alloc o).cell 0
  have t1 : ∀ o, (w1.alloc o).cell? ⟨w.heap.size, 1, none⟩ = some (.slice a l.length c) := fun o => (T1.out.alloc o).cell 1
  rcases hcase with ⟨x, ax, cx, hf, rfl, hsx⟩ | ⟨hf, rfl⟩
  ·by_cases hl0 : l = []
   ·subst hl0
    have HF := hide (onT_some hf)
    have SX := hide hsx
    clear hf hsx
    go_wp2_with fail
    refine (size_any x _ most _ _ ⟨ax, cx, rfl, SX.out.later ((Below.refl w1.heap.size w1).alloc (Nat.le_refl _) _)⟩ hm0 hm1).mono ?_
    rintro e w3 ⟨rfl, hb3⟩
    go_wp2_with fail
    go_ret
    exact ⟨ret_int (by rw [HF.out]), (B1.out.alloc B1.out.size _).trans (hb3.mono (by have := B1.out.size; simp; omega))⟩
   ·have HD := hide (onT_deep (l := ls) (s := s) (Or.inl hl0))
    have hlp : ((l.length : Int) == 0) = false := beq_eq_false_iff_ne.2 (by have := List.length_pos_iff.2 hl0; omega)
    clear hf hsx
    go_wp2_with fail
    have T2 := hide (T1.out.alloc (.cells #[.string x.name, .slice ax x.args.length cx] 26))
    have B2 := hide (B1.out.alloc B1.out.size (.cells #[.string x.name, .slice ax x.args.length cx] 26))
    generalize w1.alloc (.cells #[.string x.name, .slice ax x.args.length cx] 26) = w2 at *
    clear t0 t1
    go_loopw [9, 10] (fun n i wr => GwInv w2 w2.heap.size ls l most n i wr) (fun n i wr => l.length - (intOf i).toNat)
    case atStart => exact ⟨0, Nat.zero_le _, rfl, by simp [onL, sizeL]; omega, Below.refl _ _⟩
    case round =>
     obtain ⟨k, hk, rfl, rfl, hb⟩ := hrel
     have c0 : wr.cell? ⟨w.heap.size, 0, none⟩ = some (.string s) := (T2.out.below hb T2.out.lt).cell 0
     have c1 : wr.cell? ⟨w.heap.size, 1, none⟩ = some (.slice a l.length c) := (T2.out.below hb T2.out.lt).cell 1
     have hn : 0 ≤ ((1 : Int) + sizeL (onL ls (l.take k))) := by omega
     have BW := hide (B2.out.trans (hb.mono B2.out.size))
     have HB := hide hb
     by_cases hlt : k < l.length
     ·obtain ⟨b, o, a', c', rfl, d0, d1, hx⟩ := HS.out.get BW.out (fun _ _ h => h) k hlt
      by_cases hle : 1 + (sizeL (onL ls (l.take k)) : Int) ≤ most
      ·have hmin : min (1 + (sizeL (onL ls (l.take k)) : Int)) (most + 1) = 1 + (sizeL (onL ls (l.take k)) : Int) := by omega
       rw [hmin]
       go_wp2_with fail
       refine (IH.out _ (List.getElem_mem hlt) _ _ _ _ X (HU.out.later BW.out) hx (by omega) (by omega)).mono ?_
       rintro e w3 ⟨rfl, hb3⟩
       have Hst := hide (onL_size_take ls l k hlt)
       have hm2 : 0 ≤ min ((sizeL [onT ls l[k]] : Int)) (most - (1 + (sizeL (onL ls (l.take k)) : Int)) + 1) := by omega
       have hm3 : min ((sizeL [onT ls l[k]] : Int)) (most - (1 + (sizeL (onL ls (l.take k)) : Int)) + 1) ≤ 1000001 := by omega
       go_wp2_with fail
       go_roundw
       case rel => exact ⟨k + 1, by omega, by go_num, by rw [Hst.out]; congr 1; omega, hb.trans (hb3.mono hb.size)⟩
       case measure => simp [intOf]; omega
      ·have hmin : min (1 + (sizeL (onL ls (l.take k)) : Int)) (most + 1) = most + 1 := by omega
       rw [hmin]
       have hz : (sizeL [(⟨s, onL ls l⟩ : Tm)] : Int) = 1 + sizeL (onL ls l) := by simp [sizeL]
       have hle2 := onL_size_le ls l k
       have HF := hide (show (most + 1 : Int) = min (sizeL [(⟨s, onL ls l⟩ : Tm)] : Int) (most + 1) by omega)
       clear hz
       go_wp2_with fail
       go_ret
       exact ⟨ret_int (by rw [HD.out]; exact HF.out), BW.out⟩
     ·have htk : l.take k = l := List.take_of_length_le (by omega)
      rw [htk]
      have hz : (sizeL [(⟨s, onL ls l⟩ : Tm)] : Int) = 1 + sizeL (onL ls l) := by simp [sizeL]
      have HZ := hide hz
      clear hz
      go_wp2_with fail
      all_goals (go_ret; exact ⟨ret_int (by rw [HD.out]; have := HZ.out; omega), BW.out⟩)
  ·have HD : Hid (onT ls ⟨s, l⟩ = ⟨s, onL ls l⟩) := onT_deep (Or.inr hf)
   clear hf
   go_wp2_with fail
   have T2 := hide (T1.out.alloc (.cells #[.string ⟨#[]⟩, .slice none 0 0] 26))
   have B2 := hide (B1.out.alloc B1.out.size (.cells #[.string ⟨#[]⟩, .slice none 0 0] 26))
   generalize w1.alloc (.cells #[.string ⟨#[]⟩, .slice none 0 0] 26) = w2 at *
   clear t0 t1
   go_loopw [9, 10] (fun n i wr => GwInv w2 w2.heap.size ls l most n i wr) (fun n i wr => l.length - (intOf i).toNat)
   case atStart => exact ⟨0, Nat.zero_le _, rfl, by simp [onL, sizeL]; omega, Below.refl _ _⟩
   case round =>
    obtain ⟨k, hk, rfl, rfl, hb⟩ := hrel
    have c0 : wr.cell? ⟨w.heap.size, 0, none⟩ = some (.string s) := (T2.out.below hb T2.out.lt).cell 0
    have c1 : wr.cell? ⟨w.heap.size, 1, none⟩ = some (.slice a l.length c) := (T2.out.below hb T2.out.lt).cell 1
    have hn : 0 ≤ ((1 : Int) + sizeL (onL ls (l.take k))) := by omega
    have BW := hide (B2.out.trans (hb.mono B2.out.size))
    have HB := hide hb
    by_cases hlt : k < l.length
    ·obtain ⟨b, o, a', c', rfl, d0, d1, hx⟩ := HS.out.get BW.out (fun _ _ h => h) k hlt
     by_cases hle : 1 + (sizeL (onL ls (l.take k)) : Int) ≤ most
     ·have hmin : min (1 + (sizeL (onL ls (l.take k)) : Int)) (most + 1) = 1 + (sizeL (onL ls (l.take k)) : Int) := by omega
      rw [hmin]
      go_wp2_with fail
      refine (IH.out _ (List.getElem_mem hlt) _ _ _ _ X (HU.out.later BW.out) hx (by omega) (by omega)).mono ?_
      rintro e w3 ⟨rfl, hb3⟩
      have Hst := hide (onL_size_take ls l k hlt)
      have hm2 : 0 ≤ min ((sizeL [onT ls l[k]] : Int)) (most - (1 + (sizeL (onL ls (l.take k)) : Int)) + 1) := by omega
      have hm3 : min ((sizeL [onT ls l[k]] : Int)) (most - (1 + (sizeL (onL ls (l.take k)) : Int)) + 1) ≤ 1000001 := by omega
      go_wp2_with fail
      go_roundw
      case rel => exact ⟨k + 1, by omega, by go_num, by rw [Hst.out]; congr 1; omega, hb.trans (hb3.mono hb.size)⟩
      case measure => simp [intOf]; omega
     ·have hmin : min (1 + (sizeL (onL ls (l.take k)) : Int)) (most + 1) = most + 1 := by omega
      rw [hmin]
      have hz : (sizeL [(⟨s, onL ls l⟩ : Tm)] : Int) = 1 + sizeL (onL ls l) := by simp [sizeL]
      have hle2 := onL_size_le ls l k
      have HF := hide (show (most + 1 : Int) = min (sizeL [(⟨s, onL ls l⟩ : Tm)] : Int) (most + 1) by omega)
      clear hz
      go_wp2_with fail
      go_ret
      exact ⟨ret_int (by rw [HD.out]; exact HF.out), BW.out⟩
    ·have htk : l.take k = l := List.take_of_length_le (by omega)
     rw [htk]
     have hz : (sizeL [(⟨s, onL ls l⟩ : Tm)] : Int) = 1 + sizeL (onL ls l) := by simp [sizeL]
     have HZ := hide hz
     clear hz
     go_wp2_with fail
     all_goals (go_ret; exact ⟨ret_int (by rw [HD.out]; have := HZ.out; omega), BW.out⟩)
end Go.Proofs.YtdebiiodhkcnkaaGreat
