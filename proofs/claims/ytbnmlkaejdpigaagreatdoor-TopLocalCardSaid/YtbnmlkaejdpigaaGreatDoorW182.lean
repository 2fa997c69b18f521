import Derived.Test.YtbnmlkaejdpigaaGreatDoorZDTopLocalOwn
import Derived.Test.YtbnmlkaejdpigaaGreatDoorZCTopLocalOwn
import Derived.Test.YtbnmlkaejdpigaaGreatDoorZTopLocalOwn
namespace Go.Proofs.YtbnmlkaejdpigaaGreatDoor
open Go.RowKit
set_option linter.unusedSimpArgs false
set_option linter.unusedVariables false
set_option maxRecDepth 8000
def CtN (k s : Nat) : Prop := k ≤ 4001 ∧ (s ≤ 2000 → k = s) ∧ (2000 < s → 2000 < k)
def CtPost (n : Nat) (x : Tm) (w : World) (e : Ending) (w' : World) : Prop := ∃ k : Nat, e = .returned (.int .i64 (k : Int)) ∧ CtN k (n + sizeL [x]) ∧ Below w.heap.size w w'
def FcInvW (n : Nat) (ls : List Bd) (l : List Tm) (w : World) (m i : Value) (wr : World) : Prop := ∃ k j : Nat, k ≤ l.length ∧ i = .int .i64 (k : Int) ∧ m = .int .i64 (j : Int) ∧ CtN j (n + 1 + sizeL (gL ls (l.take k))) ∧ (2000 < j → k = l.length ∨ True) ∧ Below w.heap.size w wr
set_option maxHeartbeats 2000000 in
theorem fitCount_any (ls : List Bd) (L : List (ByteArray × Value)) (rn : ByteArray) (ra : Option Addr) (rl rc q : Nat) (t : Tm) : ∀ (a : Option Addr) (c n : Nat) (w : World) (X : Nat → Prop), Sl w X a t.args → EnvR w q X ls L → n ≤ 2000 →
  Calls Tryz.prog 95 #[.agg #[.string rn, .slice ra rl rc, .map (some q)], .agg #[.string t.name, .slice a t.args.length c], .int .i64 (n : Int)] w fun e w' => CtPost n (gT ls t) w e w' := by
 induction t using Tm.ind with
 | h s l ih =>
  intro a c n w X hs hE hn
  have IH := hide ih
  clear ih
  have hz : ∀ w', (zeroValue 32).run Tryz.prog w' = .ok (.agg #[.string ⟨#[]⟩, .slice none 0 0]) w' := fun w' => Tryz.zeroValue32 w'
  have hM := hE.1
  have hP := hE.2
  have hM' := fun o o' : Obj => (hM.kept (Below.heap_alloc w o _ hM.lt)).kept (Below.heap_alloc (w.alloc o) o' _ (by have := hM.lt; simp; omega))
  cases hf : forT ls s with
  | some x =>
   obtain ⟨a1, c1, hg, hs1⟩ := (hP.get s).2 x hf
   have hlook : ∀ o o', (Instr.lookup 87 (.map (some q)) (.string s) true).run Tryz.prog ((w.alloc o).alloc o') = .ok (.tuple #[.agg #[.string x.name, .slice a1 x.args.length c1], .bool true]) ((w.alloc o).alloc o') := fun o o' => by
    rw [run_look (P := Tryz.prog) Tryz.underlying87 Tryz.underlying9 (hz _) (hM' o o') s, hg]; rfl
   have HF : Hid (gT ls ⟨s, l⟩ = x) := gT_some hf
   have HS1 := hide hs1
   clear hf hg hs1 hM' hP hM hE hs
   rw [HF.out]
   go_enter Tryz.func95, Tryz.ntmps95
   go_wp2_with fail
   refine (count_any 2000 (by omega) (by omega) x _ _ X ⟨a1, c1, rfl, HS1.out.later (below3 _ _ _)⟩).mono ?_
   rintro e w1 ⟨rfl, hb1⟩
   have HB1 := hide hb1
   clear hb1
   obtain ⟨z, hz1⟩ : ∃ z : Nat, min (sizeL [x] : Int) (2000 + 1) = (z : Int) ∧ z = min (sizeL [x]) 2001 := ⟨min (sizeL [x]) 2001, by omega, rfl⟩
   rw [hz1.1]
   have HZ := hide hz1.2
   have hz2 : z ≤ 2001 := by rw [hz1.2]; omega
   clear hz1
   go_wp2_with fail
   go_ret
   exact ⟨n + z, ret_int (by omega), ⟨by omega, fun h => by have := HZ.out; omega, fun h => by have := HZ.out; omega⟩, (below3 _ _ _).trans (HB1.out.mono (by simp; omega))⟩
  | none =>
   have hg := (hP.get s).1 hf
   have hlook : ∀ o o', (Instr.lookup 87 (.map (some q)) (.string s) true).run Tryz.prog ((w.alloc o).alloc o') = .ok (.tuple #[.agg #[.string ⟨#[]⟩, .slice none 0 0], .bool false]) ((w.alloc o).alloc o') := fun o o' => by
    rw [run_look (P := Tryz.prog) Tryz.underlying87 Tryz.underlying9 (hz _) (hM' o o') s, hg]; rfl
   have HF : Hid (gT ls ⟨s, l⟩ = ⟨s, gL ls l⟩) := gT_none hf
   have HSZ : Hid (sizeL [(⟨s, gL ls l⟩ : Tm)] = 1 + sizeL (gL ls l)) := by simp [Hid, sizeL]
   have HS := hide hs
   have HE := hide hE
   have hl := hs.1
   clear hf hg hM' hP hM hE hs
   rw [HF.out]
   go_enter Tryz.func95, Tryz.ntmps95
   go_wp2_with fail
   have hB0 := hide (below3 (w := w) (.cells #[.string rn, .slice ra rl rc, .map (some q)] 144) (.cells #[.string s, .slice a l.length c] 32) (.cells #[.string ⟨#[]⟩, .slice none 0 0] 32))
   have hF0 : Hid (Blk (((w.alloc (.cells #[.string rn, .slice ra rl rc, .map (some q)] 144)).alloc (.cells #[.string s, .slice a l.length c] 32)).alloc (.cells #[.string ⟨#[]⟩, .slice none 0 0] 32)) w.heap.size #[.string rn, .slice ra rl rc, .map (some q)] 144) := ((Blk.new w _ _).alloc _).alloc _
   generalize (((w.alloc (.cells #[.string rn, .slice ra rl rc, .map (some q)] 144)).alloc (.cells #[.string s, .slice a l.length c] 32)).alloc (.cells #[.string ⟨#[]⟩, .slice none 0 0] 32)) = w0 at *
   trace_state
   go_loopw [9, 30] (fun m i wr => FcInvW n ls l w m i wr ∧ Blk wr w.heap.size #[.string rn, .slice ra rl rc, .map (some q)] 144) (fun m i wr => l.length - (intOf i).toNat)
   case atStart => exact ⟨⟨0, n + 1, Nat.zero_le _, rfl, by go_num, ⟨by omega, fun h => by simp [gL, sizeL], fun h => by simp [gL, sizeL] at h; omega⟩, fun _ => Or.inr trivial, hB0.out⟩, hF0.out⟩
   case round =>
    obtain ⟨⟨k, j, hk, rfl, rfl, hct, _, hb⟩, hfb⟩ := hrel
    have HB := hide hb
    have HCT := hide hct
    have HFB := hide hfb
    have hj : j ≤ 4001 := hct.1
    clear hct
    by_cases hlt : k < l.length
    ·obtain ⟨b, o, a', c', rfl, d0, d1, hx⟩ := HS.out.get hb (fun _ _ h => h) k hlt
     have HX := hide hx
     have HTK := hide (gL_size_take ls l k hlt)
     have HLE := hide (gL_size_le ls l k)
     have HIN := hide (List.getElem_mem hlt)
     have hlt2 : (k : Int) < (l.length : Int) := by omega
     have f0 := hfb.c0
     have f1 := hfb.c1
     have f2 := hfb.c2
     have hlf := hfb.lt
     clear hx hb hfb
     by_cases hle : j ≤ 2000
     ·have hle2 : ¬ ((2000 : Int) < (j : Int)) := by omega
      go_wp2_with fail
      refine (IH.out _ HIN.out _ _ j _ X (by obtain ⟨a2, c2, e2, h2⟩ := HX.out.alloc _; cases e2; exact h2) ((HE.out.later HB.out).later ((Below.refl _ _).alloc (Nat.le_refl _) _)) hle).mono ?_
      rintro e w1 ⟨k2, rfl, hct2, hb1⟩
      have HB1 := hide hb1
      have HC2 := hide hct2
      clear hb1 hct2 d0 d1 f0 f1 f2
      go_wp2_with fail
      go_roundw
      case rel =>
       refine ⟨⟨k + 1, k2, by omega, by go_num, rfl, ?_, fun _ => Or.inr trivial, (HB.out.alloc HB.out.size _).trans (HB1.out.mono (by simp; have := HB.out.size; omega))⟩, (HFB.out.alloc _).below HB1.out (by simp; omega)⟩
       obtain ⟨x1, x2, x3⟩ := HC2.out
       obtain ⟨y1, y2, y3⟩ := HCT.out
       rw [HTK.out]
       refine ⟨x1, fun h => ?_, fun h => ?_⟩
       ·have := y2 (by omega); subst this; rw [x2 (by omega)]; omega
       ·by_cases h4 : n + 1 + sizeL (gL ls (l.take k)) ≤ 2000
        ·have := y2 h4; subst this; exact x3 (by omega)
        ·have := y3 (by omega); omega
      case measure => simp [intOf]; omega
     ·have hle2 : (2000 : Int) < (j : Int) := by omega
      go_wp2_with fail
      go_ret
      refine ⟨j, rfl, ?_, HB.out.alloc HB.out.size _⟩
      obtain ⟨y1, y2, y3⟩ := HCT.out
      rw [HSZ.out]
      have h5 := HLE.out
      refine ⟨y1, fun h => ?_, fun h => by omega⟩
      have := y2 (by omega)
      omega
    ·have htk : l.take k = l := List.take_of_length_le (by omega)
     rw [htk] at HCT
     clear hfb
     go_wp2_with fail
     go_ret
     refine ⟨j, rfl, ?_, HB.out⟩
     rw [HSZ.out, ← Nat.add_assoc]
     exact HCT.out
end Go.Proofs.YtbnmlkaejdpigaaGreatDoor
