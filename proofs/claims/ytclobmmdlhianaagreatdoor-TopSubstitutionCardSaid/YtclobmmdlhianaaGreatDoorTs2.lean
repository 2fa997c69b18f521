/- Plain: how great what the law TopSubstitution makes is, and that it may be. -/
import Derived.Test.YtclobmmdlhianaaGreatDoorTs1
import Derived.Test.YtclobmmdlhianaaGreatDoorCr3
import Derived.Test.YtclobmmdlhianaaGreatDoorL12
namespace Go.Proofs.YtclobmmdlhianaaGreatDoor
open Go.RowKit
set_option linter.unusedSimpArgs false
set_option linter.unusedVariables false
set_option maxRecDepth 8000

/-- All that the law asks. -/
structure TsF (m x y : Lm) : Prop where
  pa : putE m x 2 = 0
  pb : putE (insT x 0 m) y 1 = 0
  pc : putE (swpT m) (higT 1 0 y) 2 = 0
  pz : putE x y 1 = 0
  pd : putE (insT (higT 1 0 y) 0 (swpT m)) (insT y 0 x) 1 = 0
  eq : insT (insT y 0 x) 0 (insT (higT 1 0 y) 0 (swpT m)) = insT y 0 (insT x 0 m)
theorem put_ok {t z : Lm} {u : Nat} (hu : u < 40) (ht : errM ((u + 1 : Nat) : Int) 0 [t] = 0) (hts : sizeM [t] ≤ 200) (hz : errM (u : Int) 0 [z] = 0) (hzs : sizeM [z] ≤ 200) (hs : sizeM [insT z 0 t] ≤ 2000) : putE t z u = 0 := by
  unfold putE lamE
  have e : ((u : Int) + 1) = ((u + 1 : Nat) : Int) := by omega
  rw [e, if_neg (by omega), if_neg, if_neg, if_neg (by omega)]
  · rw [if_neg (by omega), if_neg (by omega), hz]; simp
  · rw [if_neg (by omega), if_neg (by omega), ht]; simp
theorem ts_all {m x y : Lm} (hm : errM 3 0 [m] = 0) (hx : errM 2 0 [x] = 0) (hy : errM 1 0 [y] = 0) (zm : sizeM [m] ≤ 29) (zx : sizeM [x] ≤ 9) (zy : sizeM [y] ≤ 9) : TsF m x y := by
  have hL := ts_lemma hm hx hy
  obtain ⟨p, rfl⟩ := px_of m _ hm
  obtain ⟨q, rfl⟩ := px_of x _ hx
  obtain ⟨r, rfl⟩ := px_of y _ hy
  have op : p.ok 3 := (px_ok p 3).1 hm
  have oq : q.ok 2 := (px_ok q 2).1 hx
  have or : r.ok 1 := (px_ok r 1).1 hy
  rw [px_sz] at zm zx zy
  have h1 := px_hig 1 r 0
  rw [show ((1 : Nat) : Int) = 1 from rfl, show ((0 : Nat) : Int) = 0 from rfl] at h1
  have e : r.ren (PX.mv 1 0) = r.ren (· + 1) := by
    congr 1
  rw [e] at h1
  have lp := PX.lv_sz p
  -- the first
  have sa := PX.ins_sz zx (by omega) p
  have oa : (p.sub (PX.ins q)).ok 2 := PX.ins_ok oq op
  have la := PX.lv_sz (p.sub (PX.ins q))
  have a1 : p.lv * (9 - 1) ≤ 15 * 8 := Nat.mul_le_mul (by omega) (by omega)
  have sb := PX.ins_sz zy (by omega) (p.sub (PX.ins q))
  have b1 : (p.sub (PX.ins q)).lv * (9 - 1) ≤ 75 * 8 := Nat.mul_le_mul (by omega) (by omega)
  -- the other way round
  have osw : (p.sub (PX.swAt 0)).ok 3 := PX.sub_ok p _ 3 3 (fun i hi => by
    have : i = 0 ∨ i = 1 ∨ i = 2 := by omega
    rcases this with rfl | rfl | rfl <;> simp [PX.swAt, PX.ok]) op
  have zsw : (p.sub (PX.swAt 0)).sz = p.sz := PX.one_sz p _ fun i => by
    unfold PX.swAt
    split
    · exact ⟨_, rfl⟩
    · split
      · exact ⟨_, rfl⟩
      · exact ⟨_, rfl⟩
  have oh : (r.ren (· + 1)).ok 2 := PX.ren_ok r _ 1 2 (fun i hi => by omega) or
  have zh : (r.ren (· + 1)).sz ≤ 9 := by rw [PX.ren_sz]; exact zy
  have lsw := PX.lv_sz (p.sub (PX.swAt 0))
  have sc := PX.ins_sz zh (by omega) (p.sub (PX.swAt 0))
  have c1 : (p.sub (PX.swAt 0)).lv * (9 - 1) ≤ 15 * 8 := Nat.mul_le_mul (by omega) (by omega)
  have oc : ((p.sub (PX.swAt 0)).sub (PX.ins (r.ren (· + 1)))).ok 2 := PX.ins_ok oh osw
  have lq := PX.lv_sz q
  have sz := PX.ins_sz zy (by omega) q
  have z1 : q.lv * (9 - 1) ≤ 5 * 8 := Nat.mul_le_mul (by omega) (by omega)
  have oz : (q.sub (PX.ins r)).ok 1 := PX.ins_ok or oq
  have hd : sizeM [insT (insT r.m 0 q.m) 0 (insT (higT 1 0 r.m) 0 (swpT p.m))] ≤ 2000 := by
    rw [← hL, px_ins, px_ins, px_sz]; omega
  refine ⟨?_, ?_, ?_, ?_, ?_, hL.symm⟩
  · exact put_ok (u := 2) (by omega) hm (by rw [px_sz]; omega) hx (by rw [px_sz]; omega) (by rw [px_ins, px_sz]; omega)
  · rw [px_ins]
    exact put_ok (u := 1) (by omega) ((px_ok _ 2).2 oa) (by rw [px_sz]; omega) hy (by rw [px_sz]; omega) (by rw [px_ins, px_sz]; omega)
  · rw [h1, px_swp]
    exact put_ok (u := 2) (by omega) ((px_ok _ 3).2 osw) (by rw [px_sz]; omega) ((px_ok _ 2).2 oh) (by rw [px_sz]; omega) (by rw [px_ins, px_sz]; omega)
  · exact put_ok (u := 1) (by omega) hx (by rw [px_sz]; omega) hy (by rw [px_sz]; omega) (by rw [px_ins, px_sz]; omega)
  · refine put_ok (u := 1) (by omega) ?_ ?_ ?_ ?_ hd
    · rw [h1, px_swp, px_ins]; exact (px_ok _ 2).2 oc
    · rw [h1, px_swp, px_ins, px_sz]; omega
    · rw [px_ins]; exact (px_ok _ 1).2 oz
    · rw [px_ins, px_sz]; omega
end Go.Proofs.YtclobmmdlhianaaGreatDoor
