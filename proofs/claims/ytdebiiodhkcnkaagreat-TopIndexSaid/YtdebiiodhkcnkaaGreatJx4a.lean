import Derived.Test.YtdebiiodhkcnkaaGreatZBTopIndexOwn
import Derived.Test.YtdebiiodhkcnkaaGreatJx2
import Derived.Test.YtdebiiodhkcnkaaGreatW98
import Derived.Test.YtdebiiodhkcnkaaGreatW30a
namespace Go.Proofs.YtdebiiodhkcnkaaGreat
open Go.RowKit
set_option linter.unusedSimpArgs false
set_option linter.unusedVariables false
set_option maxRecDepth 8000
theorem termOfA_any (nv : Nat) (hnv : 1 ≤ nv) (hnv4 : nv ≤ 4) (zs : List Int) (hr : ∀ z ∈ zs, Rng z) (hzl : zs.length ≤ 1000000) (m i : Nat) (u : Value) (w : World) (X : Nat → Prop) (hu : PV w X u zs) (hm : m ≤ 100) (hi : i + top m ≤ 1000) :
  Calls Tryz.prog 8 #[u, .int .i64 (i : Int), .int .i64 (m : Int), .int .i64 (nv : Int)] w fun e w' => ∃ (t : Tm) (a : Option Addr) (c : Nat), e = .returned (.agg #[.string t.name, .slice a t.args.length c]) ∧ Sl w' (fun b => w.heap.size ≤ b) a t.args ∧ sizeL [t] ≤ top m ∧ Below w.heap.size w w' ∧ okA nv [t] := by
 have HU := hide hu
 clear hu
 go_enter Tryz.func8, Tryz.ntmps8
 go_wp2_with fail
 refine (growA_any nv hnv hnv4 zs hr hzl m i u _ X (by exact HU.out.alloc _) hm hi).mono ?_
 rintro e w5 ⟨a5, c5, n5, t5, rfl, hs5, hc5, hc5', hz5, hn5, hn5', hb5, he5⟩
 have HE5 := hide he5
 clear he5
 have R5 := hide ((Blk.new w #[.string ⟨#[]⟩, .slice none 0 0] 26).below hb5 (by simp))
 have B5 := hide (((Below.refl w.heap.size w).alloc (Nat.le_refl _) (.cells #[.string ⟨#[]⟩, .slice none 0 0] 26)).trans (hb5.mono (by simp)))
 have S5 := hide hs5
 have hlt5 : w.heap.size < w5.heap.size := R5.out.lt
 clear hb5 hs5
 have r0 := R5.out.c0
 have r1 := R5.out.c1
 have rf := R5.out.frozen
 go_wp2_with fail
 refine bodyPost_ret (v := .agg #[.string t5.name, .slice a5 t5.args.length c5]) (by simp [results, Tryz.results8, go_sem, World.cell?_setCell_same, World.cell?_setCell_other, r0, r1, hlt5, World.cell?_alloc_old]) rfl ?_
 refine ⟨t5, a5, c5, rfl, (one_world S5.out (fun b hb => ?_)).mono (fun b hb _ => ?_), hz5, ?_, HE5.out⟩
 ·simp at hb; omega
 ·have := hb.1; simp at this; omega
 ·exact ((B5.out.setCell (by simp) _).setCell (by simp) _).alloc (by simp [World.setCell]; omega) _
theorem matchJ_any (p t : Tm) (h0 : mayE p = 0) (h1 : mayE t = 0) (pv tv : Value) (w : World) (X : Nat → Prop) (hp : TV w X pv p) (ht : TV w X tv t) :
  Calls Tryz.prog 14 #[pv, tv] w fun e w' => (∃ v, e = .returned (.tuple #[v, .bool (mtB p t), .int .i64 0])) ∧ Below w.heap.size w w' := by
 have h2 : twoE p t = 0 := by unfold twoE; rw [if_pos h0]; exact h1
 refine (match_any p t pv tv w X hp ht).mono ?_
 rintro e w' ⟨hb, ⟨h, _⟩ | ⟨_, h, rfl⟩ | ⟨_, h', v, l', h, rfl, _⟩⟩
 ·exact absurd h2 h
 ·exact ⟨⟨_, by rw [mtB, h]; rfl⟩, hb⟩
 ·exact ⟨⟨v, by rw [mtB, h]; rfl⟩, hb⟩
theorem hasI_any (l : List Int) (x : Int) (B : Bool) (hB : B = true ↔ x ∈ l) (v : Value) (w : World) (X : Nat → Prop) (hv : LV (fun z => .int .i64 z) w X v l) :
  Calls Tryz.prog 16 #[v, .int .i64 x] w fun e w' => e = .returned (.bool B) ∧ Below w.heap.size w w' := by
 obtain ⟨a, c, rfl, ⟨hl, _⟩, h1⟩ := hv
 go_enter Tryz.func16, Tryz.ntmps16
 go_wp2_with fail
 go_loopw [5] (fun i wr => ∃ k : Nat, k ≤ l.length ∧ i = .int .i64 k ∧ x ∉ l.take k ∧ Below w.heap.size w wr) (fun i wr => l.length - (intOf i).toNat)
 case atStart => exact ⟨0, Nat.zero_le _, rfl, by simp, Below.refl _ _⟩
 case round =>
  obtain ⟨k, hk, rfl, hno, hb⟩ := hrel
  have HB := hide hb
  clear hb
  by_cases hlt : k < l.length
  ·have hki : (k : Int) < (l.length : Int) := by omega
   obtain ⟨b, o, rfl, _, hc⟩ := h1.resolve_left (fun h => by rw [h] at hlt; simp at hlt)
   have d1 : wr.cell? ⟨b, o + k, none⟩ = some (.int .i64 l[k]) := (HB.out.cell (p := ⟨b, o + k, none⟩) (World.block_lt_of_cell? w _ (hc k hlt))).trans (hc k hlt)
   have HNO := hide hno
   have HBB := hide hB
   clear hc h1 hno hB
   by_cases he : l[k] = x
   ·have hbe : (l[k] == x) = true := beq_iff_eq.2 he
    have hT : B = true := HBB.out.2 (by rw [← he]; exact List.getElem_mem hlt)
    clear he HBB
    subst hT
    go_wp2_with fail
    go_ret
    exact ⟨rfl, HB.out⟩
   ·have hbe : (l[k] == x) = false := beq_eq_false_iff_ne.2 he
    have HN : Hid (x ∉ l.take (k + 1)) := by
     unfold Hid
     rw [List.take_succ_eq_append_getElem hlt, List.mem_append]
     rintro (h | h)
     ·exact HNO.out h
     ·exact he (List.mem_singleton.1 h).symm
    clear he
    go_wp2_with fail
    go_roundw
    case rel => exact ⟨k + 1, hlt, by go_num, HN.out, HB.out⟩
    case measure => simp [intOf]; omega
  ·have hki : ¬ (k : Int) < (l.length : Int) := by omega
   have hf : B = false := by
    cases hb9 : B with
    | false => rfl
    | true => exact absurd (hB.1 hb9) (by rw [List.take_of_length_le (by omega)] at hno; exact hno)
   clear hno hB
   subst hf
   go_wp2_with fail
   go_ret
   exact ⟨rfl, HB.out⟩
end Go.Proofs.YtdebiiodhkcnkaaGreat
