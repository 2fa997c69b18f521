/- Walks: Fill. -/
import Derived.Test.YtmkomemjhfafnaaW60
import Derived.Laws.EntriesVeiled
namespace Go.Proofs.Ytmkomemjhfafnaa
open Go.RowKit
set_option linter.unusedSimpArgs false
set_option linter.unusedVariables false
set_option maxRecDepth 8000

theorem ffill_any (F B r : Nat) (ls : List Bd) (L : List (ByteArray × Value)) (t : Tm) (n : Nat) (a : Option Addr) (c : Nat) (w : World) (X : Nat → Prop) (hn : n ≤ 1000000) (hXF : ∀ b, X b → b ≠ F) (hBF : B ≠ F) (hrF : r ≠ F) (hs : Sl w X a t.args) (hF : Blk w F #[.int .i64 (n : Int), .func (.func 61) #[] #[.pointer (some ⟨B, 0, none⟩)]] 92) (hE : Env w B r X ls L) :
    Calls Try.prog 75 #[.pointer (some ⟨F, 0, none⟩), .agg #[.string t.name, .slice a t.args.length c]] w fun e w' => CpPost w F (.func (.func 61) #[] #[.pointer (some ⟨B, 0, none⟩)]) (fT ls t) n e w' :=
  ffill_of F B r ls L t n a c w X hn hXF hBF hrF hs hF hE (fun w' h1 h2 h3 => knotF_any F B r ls L hBF hrF t n _ w' X ⟨a, c, rfl, h1⟩ hXF hn h2 h3)

set_option maxHeartbeats 1000000 in
theorem fill_any (B r : Nat) (ls : List Bd) (L : List (ByteArray × Value)) (t : Tm) (n : Nat) (a : Option Addr) (c : Nat) (w : World) (X : Nat → Prop) (hn : n ≤ 1000000) (hs : Sl w X a t.args) (hE : Env w B r X ls L) :
    Calls Try.prog 60 #[.agg #[.string t.name, .slice a t.args.length c], .int .i64 (n : Int), .func (.func 61) #[] #[.pointer (some ⟨B, 0, none⟩)]] w fun e w' => Below w.heap.size w w' ∧
      ((sizeL [fT ls t] ≤ n ∧ ∃ a' c', e = .returned (.tuple #[.agg #[.string (fT ls t).name, .slice a' (fT ls t).args.length c'], .bool true]) ∧ Sl w' (fun b => w.heap.size ≤ b) a' (fT ls t).args) ∨ (n < sizeL [fT ls t] ∧ e = .returned (.tuple #[.agg #[.string ⟨#[]⟩, .slice none 0 0], .bool false]))) := by
  have hmf : ∀ (fn : Fn) (first cap : Array Value) (w : World), (Instr.makeFunc fn first cap).run Try.prog w = .ok (.func fn first cap) w := fun _ _ _ _ => rfl
  have HS := hide (hs.mono (Y := fun b => X b ∧ b < w.heap.size) fun b h1 h2 => ⟨h1, h2⟩)
  have HE : Hid (Env w B r (fun b => X b ∧ b < w.heap.size) ls L) := ⟨hE.1, hE.2.1, hE.2.2.imp fun a l hs => hs.mono fun b h1 h2 => ⟨h1, h2⟩⟩
  have hBl : B < w.heap.size := hE.1.lt
  have hrl : r < w.heap.size := hE.2.1.lt
  clear hs hE
  go_enter Try.func60, Try.ntmps60
  go_wp2_with fail
  have HB3 : Hid (Below w.heap.size w (((w.alloc (.cells #[.string t.name, .slice a t.args.length c] 25)).alloc (.cells #[.string ⟨#[]⟩, .slice none 0 0] 25)).alloc (.cells #[.int .i64 (n : Int), .func (.func 61) #[] #[.pointer (some ⟨B, 0, none⟩)]] 92))) := ((((Below.refl w.heap.size w).alloc (Nat.le_refl _) _).alloc (by simp) _).alloc (by simp; omega) _)
  have F3 : Hid (Blk (((w.alloc (.cells #[.string t.name, .slice a t.args.length c] 25)).alloc (.cells #[.string ⟨#[]⟩, .slice none 0 0] 25)).alloc (.cells #[.int .i64 (n : Int), .func (.func 61) #[] #[.pointer (some ⟨B, 0, none⟩)]] 92)) (w.heap.size + 1 + 1) #[.int .i64 (n : Int), .func (.func 61) #[] #[.pointer (some ⟨B, 0, none⟩)]] 92) := by
    have h := Blk.new ((w.alloc (.cells #[.string t.name, .slice a t.args.length c] 25)).alloc (.cells #[.string ⟨#[]⟩, .slice none 0 0] 25)) #[.int .i64 (n : Int), .func (.func 61) #[] #[.pointer (some ⟨B, 0, none⟩)]] 92
    unfold Hid
    simpa using h
  have R3 : Hid (Blk (((w.alloc (.cells #[.string t.name, .slice a t.args.length c] 25)).alloc (.cells #[.string ⟨#[]⟩, .slice none 0 0] 25)).alloc (.cells #[.int .i64 (n : Int), .func (.func 61) #[] #[.pointer (some ⟨B, 0, none⟩)]] 92)) (w.heap.size + 1) #[.string ⟨#[]⟩, .slice none 0 0] 25) := by
    have h := (Blk.new (w.alloc (.cells #[.string t.name, .slice a t.args.length c] 25)) #[.string ⟨#[]⟩, .slice none 0 0] 25).alloc (.cells #[.int .i64 (n : Int), .func (.func 61) #[] #[.pointer (some ⟨B, 0, none⟩)]] 92)
    unfold Hid
    simpa using h
  have z3 : (((w.alloc (.cells #[.string t.name, .slice a t.args.length c] 25)).alloc (.cells #[.string ⟨#[]⟩, .slice none 0 0] 25)).alloc (.cells #[.int .i64 (n : Int), .func (.func 61) #[] #[.pointer (some ⟨B, 0, none⟩)]] 92)).heap.size = w.heap.size + 3 := by simp
  generalize (((w.alloc (.cells #[.string t.name, .slice a t.args.length c] 25)).alloc (.cells #[.string ⟨#[]⟩, .slice none 0 0] 25)).alloc (.cells #[.int .i64 (n : Int), .func (.func 61) #[] #[.pointer (some ⟨B, 0, none⟩)]] 92)) = w3 at *
  refine (ffill_any (w.heap.size + 1 + 1) B r ls L t n a c w3 (fun b => X b ∧ b < w.heap.size) hn (fun b hb => by have := hb.2; omega) (by omega) (by omega) (HS.out.later HB3.out) F3.out (HE.out.later HB3.out)).mono ?_
  rintro e w9 ⟨s', a', l', c', m, rfl, hF9, hx9, hy, hno⟩
  have HF9 := hide hF9
  have HX9 := hide hx9
  have R9 := hide (R3.out.ex hx9 (by omega))
  have hz9 := hx9.size
  clear hF9 hx9
  have r0 : w9.cell? ⟨w.heap.size + 1, 0, none⟩ = some (.string ⟨#[]⟩) := R9.out.cell 0
  have r1 : w9.cell? ⟨w.heap.size + 1, 1, none⟩ = some (.slice none 0 0) := R9.out.cell 1
  have rf := R9.out.frozen
  have hRl : w.heap.size + 1 < w9.heap.size := R9.out.lt
  have HBW : Hid (Below w.heap.size w w9) := ⟨HX9.out.os.trans HB3.out.os, HX9.out.tape.trans HB3.out.tape, HX9.out.output.trans HB3.out.output, by omega, fun k hk => (HX9.out.block k (by omega) (by omega)).trans (HB3.out.block k hk)⟩
  by_cases hle : sizeL [fT ls t] ≤ n
  · obtain ⟨rfl, rfl, rfl, hsl⟩ := hy hle
    have HSL := hide hsl
    clear hy hno hsl
    have f0 : ∀ o, (w9.alloc o).cell? ⟨w.heap.size + 1 + 1, 0, none⟩ = some (.int .i64 ((n : Int) - sizeL [fT ls t])) := fun o => (HF9.out.alloc o).cell 0
    have hlt : ¬ ((n : Int) - sizeL [fT ls t]) < 0 := by omega
    go_wp2_with fail
    refine bodyPost_ret (v := .tuple #[.agg #[.string (fT ls t).name, .slice a' (fT ls t).args.length c'], .bool true]) (by simp [results, Try.results60, go_sem, World.cell?_setCell_same, World.cell?_setCell_other, r0, r1, hRl, World.cell?_alloc_old]) rfl ?_
    refine ⟨((HBW.out.setCell (by simp) _).setCell (by simp) _).alloc (by simp [World.setCell]; omega) _, Or.inl ⟨hle, a', c', rfl, ((HSL.out.kept fun b hb => ?_).later ((Below.refl _ _).alloc (Nat.le_refl _) _)).mono fun b hb _ => by omega⟩⟩
    rw [Below.heap_setCell _ _ _ _ (by simp; omega), Below.heap_setCell _ _ _ _ (by simp; omega)]
  · obtain rfl := hno (by omega)
    clear hy hno
    have f0 : ∀ o, (w9.alloc o).cell? ⟨w.heap.size + 1 + 1, 0, none⟩ = some (.int .i64 (-1)) := fun o => (HF9.out.alloc o).cell 0
    go_wp2_with fail
    refine bodyPost_ret (v := .tuple #[.agg #[.string ⟨#[]⟩, .slice none 0 0], .bool false]) (by simp [results, Try.results60, go_sem, World.cell?_setCell_same, World.cell?_setCell_other, r0, r1, hRl, World.cell?_alloc_old]) rfl ?_
    exact ⟨((HBW.out.setCell (by simp) _).setCell (by simp) _).alloc (by simp [World.setCell]; omega) _, Or.inr ⟨by omega, rfl⟩⟩
#print axioms fill_any
end Go.Proofs.Ytmkomemjhfafnaa
