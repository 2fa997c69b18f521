/- Walks: the law on the path order: it answers true. -/
import Derived.Test.YtmgggmlgmpfedaaW152a
import Derived.Deep.RegionHeld
import Derived.Deep.RegionHeld3
import Derived.Deep.DeepCutAuto
namespace Go.Proofs.Ytmgggmlgmpfedaa
open Go.RowKit
set_option linter.unusedSimpArgs false
set_option linter.unusedVariables false
set_option maxRecDepth 8000

set_option maxHeartbeats 20000000 in
theorem topPath_any (zs : List Int) (hr : ∀ z ∈ zs, Rng z) (y1 y2 y3 : Int) (hy1 : Rng y1) (hy2 : Rng y2) (hy3 : Rng y3) (u : Value) (w : World) (X : Nat → Prop) (hu : PV w X u zs) :
    Calls Try.prog 3 #[u, .int .i64 y1, .int .i64 y2, .int .i64 y3] w fun e w' => e = .returned (.bool true) ∧ Below w.heap.size w w' := by
  have HU := hide hu
  obtain ⟨au, cu, rfl, hlc, hu2⟩ := hu
  clear hu2
  by_cases h256 : 256 < zs.length
  · go_enter Try.func3, Try.ntmps3
    go_wp2_with fail
    go_ret
    exact ⟨rfl, Below.refl _ _⟩
  go_enter Try.func3, Try.ntmps3
  go_wp2_with fail
  refine (rowFrom_any y1 hy1 _).mono ?_
  rintro e w1 ⟨row, vr, rfl, hrow, hlv, hb1⟩
  have HRO : Hid (rowE row = 0) := (rowsSix_ok row hrow).1
  have A1 : Hid (Evr (fun wr => LV Value.string wr (fun _ => True) vr row ∧ Below w.heap.size w wr) w1) := hlv.ev.and (evBelow hb1)
  clear hrow hlv hb1
  go_wp2_with fail
  refine (pick_any _ 9 (by decide) (by decide) hy2 _).mono ?_
  rintro e w2 ⟨k1, rfl, hk1, hw2⟩
  rw [hw2]
  clear hw2 w2
  go_wp2_with fail
  obtain ⟨n, hn⟩ : ∃ n : Nat, (1 : Int) + (k1 : Int) = (n : Int) := ⟨1 + k1, by simp⟩
  rw [hn]
  have hn9 : n ≤ 9 := by omega
  have HN := hide hn9
  have HTOP : Hid (top n ≤ 17) := by unfold Hid top; split <;> omega
  clear hn hk1 hn9
  refine (termOf_any 2 (by decide) (by decide) zs hr (by omega) n 0 _ _ X (by exact HU.out.later A1.out.now.2) (by have := HN.out; omega) (by have := HTOP.out; omega)).mono ?_
  rintro e w2 ⟨a, aa, ca, rfl, hs2, hz2, hb2, he2⟩
  have Za : Hid (sizeL [a] ≤ 17) := by have := HTOP.out; unfold Hid; omega
  have Ea := hide he2
  have A2 := hide (A1.out.box (T := 28) hb2 hs2 ca)
  clear hs2 hz2 hb2 he2 A1
  go_wp2_with fail
  generalize w2.heap.size = P at *
  generalize w2.alloc (.cells #[.string a.name, .slice aa a.args.length ca] 28) = w3 at *
  clear w2
  refine (termOf_any 2 (by decide) (by decide) zs hr (by omega) n 30 _ _ X (by exact HU.out.later A2.out.now.1.2) (by have := HN.out; omega) (by have := HTOP.out; omega)).mono ?_
  rintro e w2 ⟨b, ab, cb, rfl, hs2, hz2, hb2, he2⟩
  have Zb : Hid (sizeL [b] ≤ 17) := by have := HTOP.out; unfold Hid; omega
  have Eb := hide he2
  have A3 := hide (A2.out.box (T := 28) hb2 hs2 cb)
  clear hs2 hz2 hb2 he2 A2
  go_wp2_with fail
  generalize w2.heap.size = Q at *
  generalize w2.alloc (.cells #[.string b.name, .slice ab b.args.length cb] 28) = w4 at *
  clear w2
  refine (termOf_any 2 (by decide) (by decide) zs hr (by omega) n 60 _ _ X (by exact HU.out.later A3.out.now.1.1.2) (by have := HN.out; omega) (by have := HTOP.out; omega)).mono ?_
  rintro e w2 ⟨c, ac, cc, rfl, hs2, hz2, hb2, he2⟩
  have Zc : Hid (sizeL [c] ≤ 17) := by have := HTOP.out; unfold Hid; omega
  have Ec := hide he2
  have A4 := hide (A3.out.box (T := 28) hb2 hs2 cc)
  clear hs2 hz2 hb2 he2 A3
  go_upto_region 8 with fail
  generalize w2.heap.size = R at *
  generalize w2.alloc (.cells #[.string c.name, .slice ac c.args.length cc] 28) = w5 at *
  clear w2
  have A5 : Hid (Evr (TpPath row vr a b c aa ab ac ca cb cc P Q R w) w5) := A4.out.imp fun wr h => ⟨h.1.1.1.1, h.1.1.2.1, h.1.1.2.2, h.1.2.1, h.1.2.2, h.2.1, h.2.2, h.1.1.1.2⟩
  clear A4
  have MA : Hid (mayE a = 0) := may_of Ea.out (by have := Za.out; omega)
  have MB : Hid (mayE b = 0) := may_of Eb.out (by have := Zb.out; omega)
  have MC : Hid (mayE c = 0) := may_of Ec.out (by have := Zc.out; omega)
  obtain ⟨zab, hzab⟩ : ∃ z : Bool, z = pathB row a b := ⟨_, rfl⟩
  obtain ⟨zbc, hzbc⟩ : ∃ z : Bool, z = pathB row b c := ⟨_, rfl⟩
  obtain ⟨zac, hzac⟩ : ∃ z : Bool, z = pathB row a c := ⟨_, rfl⟩
  obtain ⟨zba, hzba⟩ : ∃ z : Bool, z = pathB row b a := ⟨_, rfl⟩
  have PAB : Hid (∀ w', TpPath row vr a b c aa ab ac ca cb cc P Q R w w' → Calls Try.prog 7 #[vr, .agg #[.string a.name, .slice aa a.args.length ca], .agg #[.string b.name, .slice ab b.args.length cb]] w' fun e w'' => e = .returned (.tuple #[.bool zab, .int .i64 0]) ∧ Below w'.heap.size w' w'') := fun w' h => path_good HRO.out MA.out MB.out _ hzab _ _ _ _ _ _ h.rw h.s1 h.s2
  have PBC : Hid (∀ w', TpPath row vr a b c aa ab ac ca cb cc P Q R w w' → Calls Try.prog 7 #[vr, .agg #[.string b.name, .slice ab b.args.length cb], .agg #[.string c.name, .slice ac c.args.length cc]] w' fun e w'' => e = .returned (.tuple #[.bool zbc, .int .i64 0]) ∧ Below w'.heap.size w' w'') := fun w' h => path_good HRO.out MB.out MC.out _ hzbc _ _ _ _ _ _ h.rw h.s2 h.s3
  have PAC : Hid (∀ w', TpPath row vr a b c aa ab ac ca cb cc P Q R w w' → Calls Try.prog 7 #[vr, .agg #[.string a.name, .slice aa a.args.length ca], .agg #[.string c.name, .slice ac c.args.length cc]] w' fun e w'' => e = .returned (.tuple #[.bool zac, .int .i64 0]) ∧ Below w'.heap.size w' w'') := fun w' h => path_good HRO.out MA.out MC.out _ hzac _ _ _ _ _ _ h.rw h.s1 h.s3
  have PBA : Hid (∀ w', TpPath row vr a b c aa ab ac ca cb cc P Q R w w' → Calls Try.prog 7 #[vr, .agg #[.string b.name, .slice ab b.args.length cb], .agg #[.string a.name, .slice aa a.args.length ca]] w' fun e w'' => e = .returned (.tuple #[.bool zba, .int .i64 0]) ∧ Below w'.heap.size w' w'') := fun w' h => path_good HRO.out MB.out MA.out _ hzba _ _ _ _ _ _ h.rw h.s2 h.s1
  have PAA : Hid (∀ w', TpPath row vr a b c aa ab ac ca cb cc P Q R w w' → Calls Try.prog 7 #[vr, .agg #[.string a.name, .slice aa a.args.length ca], .agg #[.string a.name, .slice aa a.args.length ca]] w' fun e w'' => e = .returned (.tuple #[.bool false, .int .i64 0]) ∧ Below w'.heap.size w' w'') := fun w' h => path_good HRO.out MA.out MA.out _ (path_irrefl row a).symm _ _ _ _ _ _ h.rw h.s1 h.s1
  have F1 : Hid (zab = true → zba = false) := fun h => by rw [hzba]; exact path_asymm (by rw [← hzab]; exact h)
  have F2 : Hid (zab = true → zbc = true → zac = true) := fun h h' => by rw [hzac]; exact path_trans (by rw [← hzab]; exact h) (by rw [← hzbc]; exact h')
  have F3 := hide hzab
  clear hzab hzbc hzac hzba
  obtain ⟨p0, p1, q0, q1, r0, r1⟩ := A5.out.now.cells
  go_wp2_with fail
  refine (PAB.out _ A5.out.now).mono ?_
  rintro e w6 ⟨rfl, hb⟩
  have A6 := hide (A5.out.later hb)
  clear hb A5 p0 p1 q0 q1 r0 r1
  obtain ⟨p0, p1, q0, q1, r0, r1⟩ := A6.out.now.cells
  go_wp2_with fail
  refine (PBC.out _ A6.out.now).mono ?_
  rintro e w7 ⟨rfl, hb⟩
  have A7 := hide (A6.out.later hb)
  clear hb A6 p0 p1 q0 q1 r0 r1
  obtain ⟨p0, p1, q0, q1, r0, r1⟩ := A7.out.now.cells
  go_wp2_with fail
  refine (PAC.out _ A7.out.now).mono ?_
  rintro e w8 ⟨rfl, hb⟩
  have A8 := hide (A7.out.later hb)
  clear hb A7 p0 p1 q0 q1 r0 r1
  obtain ⟨p0, p1, q0, q1, r0, r1⟩ := A8.out.now.cells
  go_wp2_with fail
  refine (PBA.out _ A8.out.now).mono ?_
  rintro e w9 ⟨rfl, hb⟩
  have A9 := hide (A8.out.later hb)
  clear hb A8 p0 p1 q0 q1 r0 r1
  obtain ⟨p0, p1, q0, q1, r0, r1⟩ := A9.out.now.cells
  go_upto_region 12 with fail
  go_cut [22, 23] (fun o e wc => o = .bool false ∧ e = .int .i64 0 ∧ Evr (TpPath row vr a b c aa ab ac ca cb cc P Q R w) wc)
  case first =>
    go_wp2_with fail
    refine (PAA.out _ A9.out.now).mono ?_
    rintro e w10 ⟨rfl, hb⟩
    have A10 := hide (A9.out.later hb)
    clear hb
    go_wp2_with fail
    go_meet
    exact ⟨rfl, rfl, A10.out⟩
  obtain ⟨rfl, rfl, hev⟩ := hcut
  have A10 := hide hev
  go_step
  exact topPathA zs hr (by omega) y3 hy3 au cu w _ X HU n HN row HRO vr a b c aa ab ac ca cb cc P Q R Za Zb Zc Ea Eb Ec zab zbc zac zba F1 F2 F3 A10
#print axioms topPath_any
end Go.Proofs.Ytmgggmlgmpfedaa
