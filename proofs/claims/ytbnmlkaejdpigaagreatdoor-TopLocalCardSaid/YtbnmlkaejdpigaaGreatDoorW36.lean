import Derived.Test.YtbnmlkaejdpigaaGreatDoorW34
import Derived.Test.YtbnmlkaejdpigaaGreatDoorW35
import Derived.Test.YtbnmlkaejdpigaaGreatDoorZDTopLocalOwn
namespace Go.Proofs.YtbnmlkaejdpigaaGreatDoor
open Go.RowKit
set_option linter.unusedSimpArgs false
set_option linter.unusedVariables false
set_option maxRecDepth 8000
theorem rd_world {w w5 : World} {o0 o1 : Obj} {a : Option Addr} {l : List Tm} {v0 v1 : Value} (hs : Sl w5 (fun b => (w.alloc o0).heap.size ≤ b) a l) : Sl (((w5.setCell ⟨w.heap.size, 0, none⟩ v0).setCell ⟨w.heap.size, 1, none⟩ v1).alloc o1) (fun b => w.heap.size ≤ b) a l := by
 refine ((hs.mono (Y := fun b => w.heap.size < b ∧ b < w5.heap.size) fun b h1 h2 => ⟨by simp at h1; omega, h2⟩).kept fun b hb => ?_).mono fun b hb _ => by omega
 rw [Below.heap_alloc _ _ _ (by simp [World.setCell]; omega), Below.heap_setCell _ _ _ _ (by simp; omega), Below.heap_setCell _ _ _ _ (by simp; omega)]
set_option maxHeartbeats 1000000 in
theorem readAll_any (s : ByteArray) (w : World) :
  Calls Tryz.prog 10 #[.string s] w fun e w' => ParsePost w (rdAll s) e w' := by
 generalize hr : rdAll s = r at *
 by_cases hs : 4000 < s.size
 ·have HR0 : Hid (r = noRd 3) := by unfold Hid; rw [← hr]; unfold rdAll; rw [if_pos hs]
  clear hr
  go_enter Tryz.func10, Tryz.ntmps10
  go_wp2_with fail
  have q0 := (Blk.new w #[.string ⟨#[]⟩, .slice none 0 0] 32).cell 0
  have q1 := (Blk.new w #[.string ⟨#[]⟩, .slice none 0 0] 32).cell 1
  simp at q0 q1
  refine bodyPost_ret (v := .tuple #[.agg #[.string ⟨#[]⟩, .slice none 0 0], .int .i64 3]) (by simp [results, Tryz.results10, go_sem, q0, q1]) rfl ?_
  exact parse_no HR0.out (by decide) ((Below.refl _ _).alloc (Nat.le_refl _) _)
 ·have HR0 : Hid (r = if (rd s (2 * s.size + 1) none 0 0).err ≠ 0 then noRd (rd s (2 * s.size + 1) none 0 0).err else if (rd s (2 * s.size + 1) none 0 0).pos = s.size then rd s (2 * s.size + 1) none 0 0 else noRd 12) := by unfold Hid; rw [← hr]; unfold rdAll; rw [if_neg hs]
  have IHQ := hide (fun w' => read_any s (by omega) (2 * s.size + 1) 0 0 w' (by omega) (by omega) (by omega))
  have HPOS := hide (rd_pos s (2 * s.size + 1) none 0 0)
  generalize rd s (2 * s.size + 1) none 0 0 = q at *
  clear hr
  go_enter Tryz.func10, Tryz.ntmps10
  go_wp2_with fail
  refine (IHQ.out _).mono ?_
  intro e w5 hp
  obtain ⟨hb5, n5, a5, l5, c5, y5, z5, rfl, hyes⟩ := hp
  have R5 := hide ((Blk.new w #[.string ⟨#[]⟩, .slice none 0 0] 32).below hb5 (by simp))
  have B5 := hide (((Below.refl w.heap.size w).alloc (Nat.le_refl _) (.cells #[.string ⟨#[]⟩, .slice none 0 0] 32)).trans (hb5.mono (by simp)))
  have hlt5 : w.heap.size < w5.heap.size := R5.out.lt
  clear hb5
  have r0 := R5.out.c0
  have r1 := R5.out.c1
  have rf := R5.out.frozen
  have r0' : ∀ o, (w5.alloc o).cell? ⟨w.heap.size, 0, none⟩ = some (.string ⟨#[]⟩) := fun o => (R5.out.alloc o).cell 0
  have r1' : ∀ o, (w5.alloc o).cell? ⟨w.heap.size, 1, none⟩ = some (.slice none 0 0) := fun o => (R5.out.alloc o).cell 1
  have rf' := fun o => (R5.out.alloc o).frozen
  by_cases hq : q.err = 0
  ·obtain ⟨rfl, rfl, rfl, rfl, hsl⟩ := hyes hq
   have HQE := hide hq
   have HP9 := hide (HPOS.out hq (by omega) (fun h => by cases h))
   have S5 := hide hsl
   have hpl := HP9.out.2
   rw [hq]
   clear hq hyes hsl
   by_cases hps : q.pos = s.size
   ·have hlt9 : ¬ (q.pos : Int) < (s.size : Int) := by omega
    have HR9 : Hid (r = q) := by unfold Hid; rw [HR0.out, if_neg (by rw [HQE.out]; simp), if_pos hps]
    clear hps
    go_wp2_with fail
    refine bodyPost_ret (v := .tuple #[.agg #[.string q.t.name, .slice a5 q.t.args.length c5], .int .i64 0]) (by simp [results, Tryz.results10, go_sem, World.cell?_setCell_same, World.cell?_setCell_other, r0, r1, hlt5, World.cell?_alloc_old]) rfl ?_
    refine ⟨.agg #[.string q.t.name, .slice a5 q.t.args.length c5], by rw [HR9.out, HQE.out], fun _ => ?_, fun h => absurd (by rw [HR9.out]; exact HQE.out) h, (((B5.out.setCell (by simp) _).setCell (by simp) _).alloc (by have := B5.out.size; simpa [World.setCell] using this) _)⟩
    rw [HR9.out]
    exact ⟨a5, c5, rfl, rd_world S5.out⟩
   ·have hlt9 : (q.pos : Int) < (s.size : Int) := by omega
    have HR9 : Hid (r = noRd 12) := by unfold Hid; rw [HR0.out, if_neg (by rw [HQE.out]; simp), if_neg hps]
    clear hps
    go_wp2_with fail
    refine bodyPost_ret (v := .tuple #[.agg #[.string ⟨#[]⟩, .slice none 0 0], .int .i64 12]) (by simp [results, Tryz.results10, go_sem, World.cell?_setCell_same, World.cell?_setCell_other, r0, r1, hlt5, World.cell?_alloc_old]) rfl ?_
    exact parse_no HR9.out (by decide) (((B5.out.setCell (by simp) _).setCell (by simp) _).alloc (by have := B5.out.size; simpa [World.setCell] using this) _)
  ·have hqe : (q.err == 0) = false := by simpa using hq
   have HR9 : Hid (r = noRd q.err ∧ q.err ≠ 0) := ⟨by rw [HR0.out, if_pos hq], hq⟩
   clear hq hyes
   go_wp2_with fail
   refine bodyPost_ret (v := .tuple #[.agg #[.string ⟨#[]⟩, .slice none 0 0], .int .i64 q.err]) (by simp [results, Tryz.results10, go_sem, World.cell?_setCell_same, World.cell?_setCell_other, r0, r1, hlt5, World.cell?_alloc_old]) rfl ?_
   exact parse_no HR9.out.1 HR9.out.2 (((B5.out.setCell (by simp) _).setCell (by simp) _).alloc (by have := B5.out.size; simpa [World.setCell] using this) _)
end Go.Proofs.YtbnmlkaejdpigaaGreatDoor
