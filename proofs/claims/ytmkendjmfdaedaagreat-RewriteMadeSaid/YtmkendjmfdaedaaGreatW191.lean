import Derived.Test.YtmkendjmfdaedaaGreatW190
import Derived.Test.YtmkendjmfdaedaaGreatW187
import Derived.Test.YtmkendjmfdaedaaGreatZBRewriteMadeOwn
import Derived.Test.YtmkendjmfdaedaaGreatZRewriteMadeOwn
namespace Go.Proofs.YtmkendjmfdaedaaGreat
open Go.RowKit
set_option linter.unusedSimpArgs false
set_option linter.unusedVariables false
set_option maxRecDepth 8000
set_option maxHeartbeats 4000000 in
theorem meetOf_any (rs : List Pr) (t t2 : Tm) (m : Nat) (u : Value) (a a2 : Option Addr) (c c2 : Nat) (w : World) (X : Nat → Prop) (hu : QV w X u rs) (hs : Sl w X a t.args) (hs2 : Sl w X a2 t2.args) (h40 : rs.length ≤ 40) (hrz : ∀ p ∈ rs, sizeL [p.l] ≤ 1000000 ∧ sizeL [p.r] ≤ 1000000) (hz : sizeL [t] ≤ 2000) (hz2 : sizeL [t2] ≤ 2000) (hm : m ≤ 400) :
  Calls Tryz.prog 23 #[u, .agg #[.string t.name, .slice a t.args.length c], .agg #[.string t2.name, .slice a2 t2.args.length c2], .int .i64 (m : Int)] w fun e w' => e = .returned (.tuple #[.bool (meetP rs m t t2).1, .int .i64 (meetP rs m t t2).2]) ∧ Below w.heap.size w w' := by
 have HU := hide hu
 have HS := hide hs
 have HS2 := hide hs2
 have HRZ := hide hrz
 obtain ⟨ua, uc, rfl, _, _⟩ := hu
 clear hs hs2 hrz
 have HW : Hid (∃ W, W = (w.alloc (.cells #[.string t.name, .slice a t.args.length c] 27)).alloc (.cells #[.string t2.name, .slice a2 t2.args.length c2] 27) ∧ Below w.heap.size w W ∧ Blk W (w.heap.size + 1) #[.string t2.name, .slice a2 t2.args.length c2] 27) := by
  obtain ⟨h1, h2, h3⟩ := allocs_facts [(.cells #[.string t.name, .slice a t.args.length c] 27 : Obj), (.cells #[.string t2.name, .slice a2 t2.args.length c2] 27 : Obj)] w
  exact ⟨_, rfl, h1, h3 1 _ rfl⟩
 go_enter Tryz.func23, Tryz.ntmps23
 go_wp2_with fail
 obtain ⟨w0, hw0, hb0, ht2⟩ := HW.out
 rw [← hw0]
 have HB0 := hide hb0
 have HT2 := hide ht2
 clear hw0 HW hb0 ht2
 refine (endOf_any rs t true m _ a c w0 X (HU.out.later HB0.out) (HS.out.later HB0.out) h40 HRZ.out hz hm).mono ?_
 rintro e w1 ⟨hb1, x, ax, cx, n1, er, rfl, he1, hsx⟩
 have HE1 := hide he1
 have HSX := hide hsx
 have HB1 := hide (HB0.out.trans (hb1.mono HB0.out.size))
 have T1 := hide (HT2.out.below hb1 HT2.out.lt)
 clear he1 hsx hb1
 by_cases h0 : er = 0
 ·subst h0
  have HBA : Hid (Below w1.heap.size w1 (w1.alloc (.cells #[.string x.name, .slice ax x.args.length cx] 27))) := (Below.refl _ _).alloc (Nat.le_refl _) _
  have KX : Hid (Blk (w1.alloc (.cells #[.string x.name, .slice ax x.args.length cx] 27)) w1.heap.size #[.string x.name, .slice ax x.args.length cx] 27) := Blk.new w1 _ _
  have t0 : ∀ o, (w1.alloc o).cell? ⟨w.heap.size + 1, 0, none⟩ = some (.string t2.name) := fun o => (T1.out.alloc o).cell 0
  have t1 : ∀ o, (w1.alloc o).cell? ⟨w.heap.size + 1, 1, none⟩ = some (.slice a2 t2.args.length c2) := fun o => (T1.out.alloc o).cell 1
  go_wp2_with fail
  clear t0 t1
  have HBX := hide (HB1.out.trans (HBA.out.mono HB1.out.size))
  have HSX2 := hide (HSX.out.later HBA.out)
  generalize (w1.alloc (.cells #[.string x.name, .slice ax x.args.length cx] 27)) = w2 at *
  refine (endOf_any rs t2 true m _ a2 c2 w2 X (HU.out.later HBX.out) (HS2.out.later HBX.out) h40 HRZ.out hz2 hm).mono ?_
  rintro e w3 ⟨hb3, y, ay, cy, n2, er2, rfl, he2, hsy⟩
  have HE2 := hide he2
  have HSY := hide hsy
  have HB3 := hide (HBX.out.trans (hb3.mono HBX.out.size))
  have KX3 := hide (KX.out.below hb3 KX.out.lt)
  have HSX3 := hide (HSX2.out.later hb3)
  clear he2 hsy hb3
  by_cases h1 : er2 = 0
  ·subst h1
   have HMP : Hid (meetP rs m t t2 = (sameB x y, 0)) := by unfold Hid meetP; rw [HE1.out, HE2.out]; simp
   have HBY : Hid (Below w3.heap.size w3 (w3.alloc (.cells #[.string y.name, .slice ay y.args.length cy] 27))) := (Below.refl _ _).alloc (Nat.le_refl _) _
   have x0 : ∀ o, (w3.alloc o).cell? ⟨w1.heap.size, 0, none⟩ = some (.string x.name) := fun o => (KX3.out.alloc o).cell 0
   have x1 : ∀ o, (w3.alloc o).cell? ⟨w1.heap.size, 1, none⟩ = some (.slice ax x.args.length cx) := fun o => (KX3.out.alloc o).cell 1
   have hxl : w1.heap.size < w3.heap.size := KX3.out.lt
   go_wp2_with fail
   refine (sameR_all x y _ _ _ _ _ ⟨ax, cx, rfl, HSX3.out.later HBY.out⟩ ⟨ay, cy, rfl, HSY.out.later HBY.out⟩).mono ?_
   rintro e w5 ⟨rfl, hb5⟩
   have HB5 := hide ((HB3.out.trans (HBY.out.mono HB3.out.size)).trans (hb5.mono (by have := HB3.out.size; simp; omega)))
   clear hb5 x0 x1
   go_wp2_with fail
   refine bodyPost_ret (v := .tuple #[.bool (sameB x y), .int .i64 0]) (by simp [results, Tryz.results23, go_sem]) rfl ?_
   exact ⟨by rw [HMP.out], HB5.out⟩
  ·have HMP : Hid (meetP rs m t t2 = (false, er2)) := by unfold Hid meetP; rw [HE1.out, HE2.out]; simp [h1]
   go_wp2_with fail
   refine bodyPost_ret (v := .tuple #[.bool false, .int .i64 er2]) (by simp [results, Tryz.results23, go_sem]) rfl ?_
   exact ⟨by rw [HMP.out], HB3.out.alloc HB3.out.size _⟩
 ·have HMP : Hid (meetP rs m t t2 = (false, er)) := by unfold Hid meetP; rw [HE1.out]; simp [h0]
  go_wp2_with fail
  refine bodyPost_ret (v := .tuple #[.bool false, .int .i64 er]) (by simp [results, Tryz.results23, go_sem]) rfl ?_
  exact ⟨by rw [HMP.out], HB1.out.alloc HB1.out.size _⟩
set_option maxHeartbeats 1000000 in
theorem term2R_any (er : Int) (x : Tm) (hx : er ≠ 0 → x = ⟨⟨#[]⟩, []⟩) (a1 a2 : Option Addr) (c1 c2 : Nat) (w : World) (X Y : Nat → Prop) (hs1 : Sl w X a1 x.args) (hs2 : Sl w Y a2 x.args) :
  Calls Tryz.prog 27 #[.agg #[.string x.name, .slice a1 x.args.length c1], .int .i64 er, .agg #[.string x.name, .slice a2 x.args.length c2], .int .i64 er] w fun e w' => e = .returned (.bool true) ∧ Below w.heap.size w w' := by
 by_cases h0 : er = 0
 ·subst h0
  exact term2_ok x _ _ w X Y ⟨a1, c1, rfl, hs1⟩ ⟨a2, c2, rfl, hs2⟩
 ·have hxx := hx h0
  subst hxx
  have hf' : (er == 0) = false := by simpa using h0
  clear hx hs1 hs2
  go_enter Tryz.func27, Tryz.ntmps27
  go_wp2_with fail
  go_ret
  exact ⟨rfl, below2 _ _⟩
theorem rEnd_zero {rs : List Pr} {inner : Bool} {t x : Tm} {m er : Int} {n : Nat} (h : rEnd rs inner t m = (er, x, n)) (h0 : er ≠ 0) : x = ⟨⟨#[]⟩, []⟩ := by
 unfold rEnd at h
 split at h
 ·rcases endP_form rs inner m.toNat t with h1 | h1 | h1
  ·rw [h] at h1; exact absurd h1 h0
  ·rw [h] at h1; cases h1; rfl
  ·rw [h] at h1; cases h1; rfl
 ·cases h; rfl
end Go.Proofs.YtmkendjmfdaedaaGreat
