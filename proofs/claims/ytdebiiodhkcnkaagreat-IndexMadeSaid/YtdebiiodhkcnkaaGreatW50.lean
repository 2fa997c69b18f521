import Derived.Test.YtdebiiodhkcnkaaGreatZIndexMadeOwn
import Derived.Test.YtdebiiodhkcnkaaGreatRows
namespace Go.Proofs.YtdebiiodhkcnkaaGreat
open Go.RowKit
set_option linter.unusedSimpArgs false
set_option linter.unusedVariables false
set_option maxRecDepth 8000
def ForPost (w : World) (X : Nat → Prop) (l : List Bd) (n : ByteArray) (e : Ending) (w' : World) : Prop :=
 Below w.heap.size w w' ∧ ((∃ t a c, forT l n = some t ∧ e = .returned (.tuple #[.agg #[.string t.name, .slice a t.args.length c], .bool true]) ∧ Sl w' X a t.args) ∨ (forT l n = none ∧ e = .returned (.tuple #[.agg #[.string ⟨#[]⟩, .slice none 0 0], .bool false])))
def FoInv (l : List Bd) (n : ByteArray) (w0 : World) (v : Value) (wr : World) : Prop := ∃ k : Nat, k ≤ l.length ∧ v = .int .i64 (k : Int) ∧ forT (l.take k) n = none ∧ wr = w0
set_option maxHeartbeats 1000000 in
theorem for_any (l : List Bd) (n : ByteArray) (v : Value) (w : World) (X0 : Nat → Prop) (hv0 : BV w X0 v l) :
  Calls Tryz.prog 60 #[v, .string n] w fun e w' => ForPost w (fun b => X0 b ∧ b < w.heap.size) l n e w' := by
 have HV := hide (hv0.mono (Y := fun b => X0 b ∧ b < w.heap.size) fun b h1 h2 => ⟨h1, h2⟩)
 obtain ⟨a, c, rfl, hl, hv⟩ := hv0
 clear hv
 go_enter Tryz.func60, Tryz.ntmps60
 go_wp2_with fail
 have R0 := hide (Blk.new w #[.string ⟨#[]⟩, .slice none 0 0] 26)
 have B0 := hide ((Below.refl w.heap.size w).alloc (Nat.le_refl _) (.cells #[.string ⟨#[]⟩, .slice none 0 0] 26))
 have V0 := hide (HV.out.alloc (.cells #[.string ⟨#[]⟩, .slice none 0 0] 26))
 generalize w.alloc (.cells #[.string ⟨#[]⟩, .slice none 0 0] 26) = w0 at *
 go_loopw [6] (fun v wr => FoInv l n w0 v wr) (fun v wr => l.length - (intOf v).toNat)
 case atStart => exact ⟨0, Nat.zero_le _, rfl, rfl, rfl⟩
 case round =>
  obtain ⟨k, hk, rfl, hno, rfl⟩ := hrel
  have HNO := hide hno
  clear hno
  have r0 := R0.out.c0
  have r1 := R0.out.c1
  have rf := R0.out.frozen
  by_cases hlt : k < l.length
  ·obtain ⟨b, o, a', c', rfl, d0, d1, d2, hs⟩ := V0.out.get k hlt
   have hlt2 : (k : Int) < (l.length : Int) := by omega
   have HT := hide (forT_take hlt HNO.out)
   have HS := hide hs
   clear hs
   generalize l[k] = d at *
   by_cases he : d.nm = n
   ·have heq := bytes_yes he
    have HF := hide (HT.out.1 he)
    clear he
    go_wp2_with fail
    refine bodyPost_ret (v := .tuple #[.agg #[.string d.t.name, .slice a' d.t.args.length c'], .bool true]) (by simp [results, Tryz.results60, go_sem, World.cell?_setCell_same, World.cell?_setCell_other, r0, r1]) rfl ?_
    refine ⟨(B0.out.setCell (by simp) _).setCell (by simp) _, Or.inl ⟨d.t, a', c', HF.out, rfl, HS.out.kept fun b hb => ?_⟩⟩
    rw [Below.heap_setCell _ _ _ _ (by simp; omega), Below.heap_setCell _ _ _ _ (by simp; omega)]
   ·have heq := bytes_no he
    have HF := hide (HT.out.2 he)
    clear he
    go_wp2_with fail
    go_roundw
    case rel => exact ⟨k + 1, by omega, by go_num, HF.out, by trivial⟩
    case measure => simp [intOf]; omega
  ·have htk : l.take k = l := List.take_of_length_le (by omega)
   have HF := hide HNO.out
   rw [htk] at HF
   clear htk
   go_wp2_with fail
   refine bodyPost_ret (v := .tuple #[.agg #[.string ⟨#[]⟩, .slice none 0 0], .bool false]) (by simp [results, Tryz.results60, go_sem, World.cell?_setCell_same, World.cell?_setCell_other, r0, r1]) rfl ?_
   exact ⟨(B0.out.setCell (by simp) _).setCell (by simp) _, Or.inr ⟨HF.out, rfl⟩⟩
end Go.Proofs.YtdebiiodhkcnkaaGreat
