/- Walks: the law on all places of terms out of raw numbers. -/
import Derived.Test.YthlgknglalcggaaW30a
import Derived.Test.YthlgknglalcggaaW27
namespace Go.Proofs.Ythlgknglalcggaa
open Go.RowKit
set_option linter.unusedSimpArgs false
set_option linter.unusedVariables false
set_option maxRecDepth 8000

theorem cell_kept {w w' : World} {b i : Nat} {v : Value} (hb : Below w.heap.size w w') (hlt : b < w.heap.size) (h : w.cell? ⟨b, i, none⟩ = some v) : w'.cell? ⟨b, i, none⟩ = some v := by
  have h2 := hb.block b hlt
  simpa [World.cell?, h2] using h
theorem made_kept {w w' : World} {b1 b2 b3 k : Nat} {v0 v1 v2 v3 v4 : Value} (hb : Below w.heap.size w w') (h1 : b1 < w.heap.size) (h2 : b2 < w.heap.size) (h3 : b3 < w.heap.size) (e0 : w.cell? ⟨b1, k, none⟩ = some v0) (e1 : w.cell? ⟨b2, 0, none⟩ = some v1) (e2 : w.cell? ⟨b2, 1, none⟩ = some v2) (e3 : w.cell? ⟨b3, 0, none⟩ = some v3) (e4 : w.cell? ⟨b3, 1, none⟩ = some v4) :
    w'.cell? ⟨b1, k, none⟩ = some v0 ∧ w'.cell? ⟨b2, 0, none⟩ = some v1 ∧ w'.cell? ⟨b2, 1, none⟩ = some v2 ∧ w'.cell? ⟨b3, 0, none⟩ = some v3 ∧ w'.cell? ⟨b3, 1, none⟩ = some v4 :=
  ⟨cell_kept hb h1 e0, cell_kept hb h2 e1, cell_kept hb h2 e2, cell_kept hb h3 e3, cell_kept hb h3 e4⟩

set_option maxHeartbeats 1000000 in
theorem termMade_any (zs : List Int) (hr : ∀ z ∈ zs, Rng z) (y y2 : Int) (hy : Rng y) (hy2 : Rng y2) (u : Value) (w : World) (X : Nat → Prop) (hu : PV w X u zs) :
    Calls Try.prog 5 #[u, .int .i64 y, .int .i64 y2] w fun e w' => e = .returned (.bool true) ∧ Below w.heap.size w w' := by
  have HU := hide hu
  obtain ⟨a, c, rfl, hlc, hu2⟩ := hu
  clear hu2
  by_cases h256 : 256 < zs.length
  · go_enter Try.func5, Try.ntmps5
    go_wp2_with fail
    go_ret
    exact ⟨rfl, Below.refl _ _⟩
  · go_enter Try.func5, Try.ntmps5
    go_wp2_with fail
    refine (pick_any _ 20 (by decide) (by decide) hy _).mono ?_
    rintro e w1 ⟨k1, rfl, hk1, rfl⟩
    go_wp2_with fail
    refine (termOf_any 4 (by decide) (by decide) zs hr (by omega) k1 0 _ _ X HU.out (by omega) (by unfold top; split <;> omega)).mono ?_
    rintro e w2 ⟨t2, a2, c2, rfl, hs2, hz2, hb2, _⟩
    have B2 := hide hb2
    have S2 := hide hs2
    clear hb2 hs2
    go_wp2_with fail
    refine (pick_any _ 6 (by decide) (by decide) hy2 _).mono ?_
    rintro e w3 ⟨k3, rfl, hk3, rfl⟩
    have htop : top k1 ≤ 100 := by unfold top; split <;> omega
    go_wp2_with fail
    refine (termOf_any 4 (by decide) (by decide) zs hr (by omega) k3 60 _ _ X (by exact (HU.out.later B2.out).alloc _) (by omega) (by unfold top; split <;> omega)).mono ?_
    rintro e w4 ⟨t4, a4, c4, rfl, hs4, hz4, hb4, _⟩
    have T4 := hide ((Blk.new w2 #[.string t2.name, .slice a2 t2.args.length c2] 24).below hb4 (by simp))
    have B4 := hide ((B2.out.alloc B2.out.size (.cells #[.string t2.name, .slice a2 t2.args.length c2] 24)).trans (hb4.mono (by have := B2.out.size; simp; omega)))
    have S24 := hide ((S2.out.later ((Below.refl w2.heap.size w2).alloc (Nat.le_refl _) (.cells #[.string t2.name, .slice a2 t2.args.length c2] 24))).later hb4)
    have S4 := hide hs4
    have hlt4 : w2.heap.size < w4.heap.size := T4.out.lt
    clear hb4 hs4
    have c0 : ∀ o, (w4.alloc o).cell? ⟨w2.heap.size, 0, none⟩ = some (.string t2.name) := fun o => (T4.out.alloc o).cell 0
    have c1 : ∀ o, (w4.alloc o).cell? ⟨w2.heap.size, 1, none⟩ = some (.slice a2 t2.args.length c2) := fun o => (T4.out.alloc o).cell 1
    go_wp2_with fail
    refine (placesOf_any t2 _ _ (fun _ => True) ⟨a2, c2, rfl, (S24.out.later ((Below.refl w4.heap.size w4).alloc (Nat.le_refl _) _)).mono (fun _ _ _ => trivial)⟩ (by omega)).mono ?_
    rintro e w5 ⟨v5, xs5, rfl, hown5, hrow5, hb5⟩
    obtain ⟨g5, cap5, rfl, hg5, hg5', hcel5⟩ := owned_val hown5 (by simp [plcT])
    have T5 := hide ((T4.out.alloc _).below hb5 (by simp; omega))
    have X5 := hide ((Blk.new w4 #[.string t4.name, .slice a4 t4.args.length c4] 24).below hb5 (by simp))
    have B5 := hide ((B4.out.alloc B4.out.size (.cells #[.string t4.name, .slice a4 t4.args.length c4] 24)).trans (hb5.mono (by have := B4.out.size; simp; omega)))
    have ST5 := hide ((S24.out.later ((Below.refl w4.heap.size w4).alloc (Nat.le_refl _) (.cells #[.string t4.name, .slice a4 t4.args.length c4] 24))).later hb5)
    have SX5 := hide ((S4.out.later ((Below.refl w4.heap.size w4).alloc (Nat.le_refl _) (.cells #[.string t4.name, .slice a4 t4.args.length c4] 24))).later hb5)
    have HR5 := hide hrow5
    have HC5 := hide hcel5
    clear hb5 c0 c1 hown5 hrow5 hcel5
    have hlsn : (plcT t2).length ≤ 100 := by rw [plcT_len]; omega
    generalize hlse : plcT t2 = ls at *
    clear hlse
    go_wp2_with fail
    go_loopw [10] (fun i wr => SyInv w5 ls.length i wr) (fun i wr => ls.length - (intOf i).toNat)
    case atStart => exact ⟨0, Nat.zero_le _, rfl, Below.refl _ _⟩
    case round =>
      obtain ⟨k, hk, rfl, hbr⟩ := hrel
      have HBR := hide hbr
      clear hbr
      by_cases hlt : k < ls.length
      · obtain ⟨u5, hu5, hp5⟩ := HR5.out.get k hlt
        have e0 : wr.cell? ⟨g5, k, none⟩ = some u5 := cell_kept HBR.out hg5' (HC5.out k u5 hu5)
        have e1 : wr.cell? ⟨w2.heap.size, 0, none⟩ = some (.string t2.name) := cell_kept HBR.out T5.out.lt (T5.out.cell 0)
        have e2 : wr.cell? ⟨w2.heap.size, 1, none⟩ = some (.slice a2 t2.args.length c2) := cell_kept HBR.out T5.out.lt (T5.out.cell 1)
        have e3 : wr.cell? ⟨w4.heap.size, 0, none⟩ = some (.string t4.name) := cell_kept HBR.out X5.out.lt (X5.out.cell 0)
        have e4 : wr.cell? ⟨w4.heap.size, 1, none⟩ = some (.slice a4 t4.args.length c4) := cell_kept HBR.out X5.out.lt (X5.out.cell 1)
        have hsz := HBR.out.size
        have hl1 : g5 < wr.heap.size := by omega
        have hl2 : w2.heap.size < wr.heap.size := by have := T5.out.lt; omega
        have hl3 : w4.heap.size < wr.heap.size := by have := X5.out.lt; omega
        have P1 := hide ((hp5.mono (Y := fun _ => True) fun _ _ _ => trivial).later HBR.out)
        have TV1 : Hid (TV wr (fun _ => True) (.agg #[.string t2.name, .slice a2 t2.args.length c2]) t2) := ⟨a2, c2, rfl, (ST5.out.mono (Y := fun _ => True) fun _ _ _ => trivial).later HBR.out⟩
        have TV2 : Hid (TV wr (fun _ => True) (.agg #[.string t4.name, .slice a4 t4.args.length c4]) t4) := ⟨a4, c4, rfl, (SX5.out.mono (Y := fun _ => True) fun _ _ _ => trivial).later HBR.out⟩
        have D1 := hide ((Below.refl wr.heap.size wr).drew)
        clear hu5 hp5 hsz
        go_wp2_with fail
        go_region_held3 (fun w' => w'.cell? ⟨g5, k, none⟩ = some u5 ∧ w'.cell? ⟨w2.heap.size, 0, none⟩ = some (.string t2.name) ∧ w'.cell? ⟨w2.heap.size, 1, none⟩ = some (.slice a2 t2.args.length c2) ∧ w'.cell? ⟨w4.heap.size, 0, none⟩ = some (.string t4.name) ∧ w'.cell? ⟨w4.heap.size, 1, none⟩ = some (.slice a4 t4.args.length c4)) (first | exact hS2 | exact hS | exact ⟨e0, e1, e2, e3, e4⟩ | go_keep)
          (first
            | (go_at_call 3; refine (termSays_any t2 ls[k] _ _ _ (fun _ => True) (TV1.out.later D1.out) (P1.out.later D1.out)).mono ?_; rintro e w15 ⟨rfl, hb15⟩; have hb16 := D1.out.trans hb15; have hS := made_kept hb16 hl1 hl2 hl3 e0 e1 e2 e3 e4)
            | (go_at_call 4; refine (termPuts_any t2 t4 ls[k] _ _ _ _ (fun _ => True) (TV1.out.later hb16) (P1.out.later hb16) (TV2.out.later hb16)).mono ?_; rintro e w17 ⟨rfl, hb17⟩; have hb18 := hb16.trans (hb17.mono hb16.size); have hS2 := made_kept hb18 hl1 hl2 hl3 e0 e1 e2 e3 e4))
        have HB18 := hide hb18
        clear hb15 hb16 hb17 hb18 hS hS2
        go_wp2_with fail
        go_roundw
        case rel => exact ⟨k + 1, by omega, by go_num, HBR.out.trans (HB18.out.mono HBR.out.size)⟩
        case measure => simp [intOf]; omega
      · go_wp2_with fail
        go_ret
        exact ⟨rfl, B5.out.trans (HBR.out.mono B5.out.size)⟩
#print axioms termMade_any
end Go.Proofs.Ythlgknglalcggaa
