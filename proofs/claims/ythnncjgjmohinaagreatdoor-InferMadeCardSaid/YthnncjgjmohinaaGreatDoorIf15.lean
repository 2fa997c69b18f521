import Derived.Test.YthnncjgjmohinaaGreatDoorZBInferMadeOwn
namespace Go.Proofs.YthnncjgjmohinaaGreatDoor
open Go.RowKit
set_option linter.unusedSimpArgs false
set_option linter.unusedVariables false
set_option maxRecDepth 8000
set_option maxHeartbeats 1000000 in
theorem yText_any {B : Nat} (t : Ty) (v : Value) (w : World) (X : Nat → Prop) (hv : YV w X v t) (he : errY [t] = 0) (hlen : (txY t).length ≤ 1000000) (hB : B ≤ w.heap.size) (hT : Tb B w) :
  Calls Tryz.prog 44 #[v] w fun e w' => e = .returned (.string ⟨(txY t).toArray⟩) ∧ Below w.heap.size w w' := by
 obtain ⟨X', hX, hv'⟩ : ∃ X' : Nat → Prop, (∀ b, X' b → b < w.heap.size) ∧ YV w X' v t := ⟨fun b => X b ∧ b < w.heap.size, fun _ h => h.2, hv.mono fun b h1 h2 => ⟨h1, h2⟩⟩
 clear hv
 obtain ⟨a, c, rfl, hs⟩ := hv'
 have HV := hide (show YV w X' (.agg #[.int .i64 t.base, .slice a t.subs.length c]) t from ⟨a, c, rfl, hs⟩)
 clear hs
 generalize hR : (.string ⟨(txY t).toArray⟩ : Value) = R
 have HR := hide hR
 clear hR
 have K1 := hide (Blk.new w #[.int .i64 t.base, .slice a t.subs.length c] 30)
 have HB := hide ((Below.refl w.heap.size w).alloc (Nat.le_refl _) (.cells #[.int .i64 t.base, .slice a t.subs.length c] 30))
 have c0 : ∀ o, ((w.alloc (.cells #[.int .i64 t.base, .slice a t.subs.length c] 30)).alloc o).cell? ⟨w.heap.size, 0, none⟩ = some (.int .i64 t.base) := fun o => (K1.out.alloc o).cell 0
 have c1 : ∀ o, ((w.alloc (.cells #[.int .i64 t.base, .slice a t.subs.length c] 30)).alloc o).cell? ⟨w.heap.size, 1, none⟩ = some (.slice a t.subs.length c) := fun o => (K1.out.alloc o).cell 1
 have HBD : Hid (Bld ((w.alloc (.cells #[.int .i64 t.base, .slice a t.subs.length c] 30)).alloc (.cells #[.pointer none, .slice none 0 0] 96)) (w.heap.size + 1) (w.heap.size + 1) (bytesV []) (.slice none 0 0)) := ⟨Nat.le_refl _, ⟨_, Or.inl rfl, by have h := heap_alloc_new (w.alloc (.cells #[.int .i64 t.base, .slice a t.subs.length c] 30)) (.cells #[.pointer none, .slice none 0 0] 96); simpa using h⟩, World.ownsRow_nil _ _ _ _⟩
 go_enter Tryz.func44, Tryz.ntmps44
 go_wp2_with fail
 have hz1 : (w.alloc (.cells #[.int .i64 t.base, .slice a t.subs.length c] 30)).heap.size = w.heap.size + 1 := by simp
 generalize (w.alloc (.cells #[.int .i64 t.base, .slice a t.subs.length c] 30)) = w1 at *
 rw [← hz1] at HBD ⊢
 clear hz1
 refine (tyWrite_any t _ _ [] w1.heap.size w1.heap.size _ X' he (by exact (HV.out.later HB.out).alloc _) (fun b hb => by have := hX b hb; have := HB.out.size; omega) (by exact HBD.out) (fun w' h => hT w' ((HB.out.mono hB).trans ((((Below.refl w1.heap.size w1).alloc (Nat.le_refl _) _).trans h).mono (Nat.le_trans hB HB.out.size)))) (by simp) (by simp; omega)).mono ?_
 rintro e w3 ⟨rfl, q3, hbd3, hfr3⟩
 have HISB : Hid (Lib.IsBuilder 96 5 w1.heap.size w1.heap.size (Lib.byteCells (txY t)) w3) := by
  have h1 : Bld w3 w1.heap.size w1.heap.size (Lib.byteCells (txY t)) q3 := by simpa [bytes_cells] using hbd3
  have hne := bd_ne h1
  obtain ⟨g1, ⟨p, hp, hb⟩, hown⟩ := h1
  rcases hp with rfl | rfl
  ·exact Or.inl ⟨g1, q3, hb, hown, hne⟩
  ·exact Or.inr ⟨g1, q3, hb, hown, hne⟩
 have hsz3 : w1.heap.size ≤ w3.heap.size := by have := hfr3.2.2.2.1; simp at this; omega
 have HB3 : Hid (Below w.heap.size w w3) := by
  refine HB.out.trans ⟨hfr3.1, hfr3.2.1, hfr3.2.2.1, hsz3, fun k hk => ?_⟩
  have hk1 : k < w1.heap.size := Nat.lt_of_lt_of_le hk HB.out.size
  rw [hfr3.2.2.2.2.1 k (by simp; omega) (by omega) (by simp [Value.ownBlock]), Below.heap_alloc _ _ _ hk1]
 clear hbd3 hfr3 c0 c1
 go_wp2_with fail
 refine (Tryz.Builder_String_any w1.heap.size w1.heap.size (txY t) _ HISB.out hsz3).mono ?_
 rintro e w4 ⟨rfl, hb4⟩
 go_wp2_with fail
 go_ret
 exact ⟨by rw [← HR.out]; rfl, HB3.out.trans (hb4.mono HB.out.size)⟩
set_option maxHeartbeats 1000000 in
theorem iText_any {B : Nat} (t : Ty) (v : Value) (w : World) (X : Nat → Prop) (hv : YV w X v t) (hB : B ≤ w.heap.size) (hT : Tb B w) :
  Calls Tryz.prog 21 #[v] w fun e w' => e = .returned (.tuple #[.string (if tyE t = 0 then ⟨(txY t).toArray⟩ else ⟨#[]⟩), .int .i64 (tyE t)]) ∧ Below w.heap.size w w' := by
 obtain ⟨X', hX, hv'⟩ : ∃ X' : Nat → Prop, (∀ b, X' b → b < w.heap.size) ∧ YV w X' v t := ⟨fun b => X b ∧ b < w.heap.size, fun _ h => h.2, hv.mono fun b h1 h2 => ⟨h1, h2⟩⟩
 clear hv
 obtain ⟨a, c, rfl, hs⟩ := hv'
 have HV := hide (show YV w X' (.agg #[.int .i64 t.base, .slice a t.subs.length c]) t from ⟨a, c, rfl, hs⟩)
 clear hs
 generalize hR : (.tuple #[.string (if tyE t = 0 then ⟨(txY t).toArray⟩ else ⟨#[]⟩), .int .i64 (tyE t)] : Value) = R
 have HR := hide hR
 clear hR
 go_enter Tryz.func21, Tryz.ntmps21
 go_wp2_with fail
 refine (tyCheck_any t _ _ X' (by exact HV.out.alloc _)).mono ?_
 rintro e w1 ⟨rfl, hb1⟩
 have hbk := (Blk.new w #[.int .i64 t.base, .slice a t.subs.length c] 30).below hb1 (by simp)
 have K1 := hide hbk
 have HB := hide (((Below.refl w.heap.size w).alloc (Nat.le_refl _) (.cells #[.int .i64 t.base, .slice a t.subs.length c] 30)).trans (hb1.mono (by simp)))
 clear hb1 hbk
 by_cases h : tyE t = 0
 ·have HM := hide h
  have HE : Hid (errY [t] = 0 ∧ sizeY [t] ≤ 200) := by
   unfold tyE at h
   split at h
   ·exact absurd h (by decide)
   ·exact ⟨h, by omega⟩
  have hR1 : Hid (.tuple #[.string ⟨(txY t).toArray⟩, .int .i64 0] = R) := by unfold Hid; rw [← HR.out, if_pos h, h]
  rw [h]
  clear h
  have c0 := K1.out.c0
  have c1 := K1.out.c1
  go_wp2_with fail
  refine (yText_any t _ _ X' (by exact HV.out.later HB.out) HE.out.1 (by have h1 := txY_len t HE.out.1; have h2 := HE.out.2; omega) (Nat.le_trans hB HB.out.size) (hT.on (HB.out.mono hB))).mono ?_
  rintro e w4 ⟨rfl, hb4⟩
  go_wp2_with fail
  go_ret2
  exact ⟨by rw [← hR1.out]; rfl, HB.out.trans (hb4.mono HB.out.size)⟩
 ·have hR1 : Hid (.tuple #[.string ⟨#[]⟩, .int .i64 (tyE t)] = R) := by unfold Hid; rw [← HR.out, if_neg h]
  have h' : (tyE t == 0) = false := by simpa using h
  clear h
  go_wp2_with fail
  go_ret2
  exact ⟨by rw [← hR1.out]; rfl, HB.out⟩
end Go.Proofs.YthnncjgjmohinaaGreatDoor
