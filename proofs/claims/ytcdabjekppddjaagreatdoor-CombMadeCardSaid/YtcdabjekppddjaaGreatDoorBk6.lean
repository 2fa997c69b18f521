/- Walks: brackets, as the program makes them. -/
import Derived.Test.YtcdabjekppddjaaGreatDoorBk5
import Derived.Test.YtcdabjekppddjaaGreatDoorCb9
import Derived.Test.YtcdabjekppddjaaGreatDoorZBCombMadeOwn
namespace Go.Proofs.YtcdabjekppddjaaGreatDoor
open Go.RowKit
set_option linter.unusedSimpArgs false
set_option linter.unusedVariables false
set_option maxRecDepth 8000

/-- A bracket's outcome, in memory. -/
def BrPost (w : World) (X : Nat → Prop) (p : Tm × Bool) (e : Ending) (w' : World) : Prop :=
  ∃ v, e = .returned (.tuple #[v, .bool p.2]) ∧ TV w' (fun b => X b ∨ w.heap.size ≤ b) v p.1 ∧ Below w.heap.size w w'

theorem symbol_any (s : ByteArray) (w : World) :
    Calls Tryz.prog 69 #[.string s] w fun e w' => e = .returned (.agg #[.string s, .slice none 0 0]) ∧ Below w.heap.size w w' := by
  go_enter Tryz.func69, Tryz.ntmps69
  go_wp2_with fail
  have hb := Blk.new w #[.string s, .slice none 0 0] 24
  have c0 := hb.cell 0
  have c1 := hb.cell 1
  refine bodyPost_ret (v := .agg #[.string s, .slice none 0 0]) (by simp [results, Tryz.results69, go_sem, c0, c1]) rfl ⟨rfl, (Below.refl _ _).alloc (Nat.le_refl _) _⟩

theorem alw_yes (t : Tm) : alw (t, true) = t := by simp [alw]
theorem alw_no (t : Tm) : alw (t, false) = apT ⟨kB, []⟩ t := by simp [alw]

set_option maxHeartbeats 2000000 in
theorem always_any (t : Tm) (q : Bool) (v : Value) (w : World) (X : Nat → Prop) (hv : TV w X v t) :
    Calls Tryz.prog 55 #[v, .bool q] w fun e w' => TPost w X (alw (t, q)) e w' := by
  obtain ⟨a, c, rfl, hs⟩ := hv
  have HS : Hid (Sl w (fun b => X b ∧ b < w.heap.size) a t.args) := hs.mono fun b h1 h2 => ⟨h1, h2⟩
  have HK : Hid (Blk ((w.alloc (.cells #[.string t.name, .slice a t.args.length c] 24)).alloc (.cells #[.string ⟨#[]⟩, .slice none 0 0] 24)) (w.heap.size + 1) #[.string ⟨#[]⟩, .slice none 0 0] 24) := by
    have h := Blk.new (w.alloc (.cells #[.string t.name, .slice a t.args.length c] 24)) #[.string ⟨#[]⟩, .slice none 0 0] 24
    unfold Hid
    simpa using h
  have HQ : Hid (Blk ((w.alloc (.cells #[.string t.name, .slice a t.args.length c] 24)).alloc (.cells #[.string ⟨#[]⟩, .slice none 0 0] 24)) w.heap.size #[.string t.name, .slice a t.args.length c] 24) := (Blk.new w _ _).alloc _
  have HB0 : Hid (Below w.heap.size w ((w.alloc (.cells #[.string t.name, .slice a t.args.length c] 24)).alloc (.cells #[.string ⟨#[]⟩, .slice none 0 0] 24))) := below2 _ _
  have hz0 : ((w.alloc (.cells #[.string t.name, .slice a t.args.length c] 24)).alloc (.cells #[.string ⟨#[]⟩, .slice none 0 0] 24)).heap.size = w.heap.size + 2 := by simp
  clear hs
  cases q with
  | true =>
    rw [alw_yes]
    go_enter Tryz.func55, Tryz.ntmps55
    go_wp2_with fail
    refine bodyPost_ret (v := .agg #[.string t.name, .slice a t.args.length c]) (by simp [results, Tryz.results55, go_sem]) rfl ?_
    refine ⟨_, rfl, ⟨a, c, rfl, (HS.out.later ?_).mono fun b h _ => Or.inl h.1⟩, ?_⟩
    · exact below2 _ _
    · exact below2 _ _
  | false =>
    rw [alw_no]
    go_enter Tryz.func55, Tryz.ntmps55
    go_wp2_with fail
    generalize ((w.alloc (.cells #[.string t.name, .slice a t.args.length c] 24)).alloc (.cells #[.string ⟨#[]⟩, .slice none 0 0] 24)) = w0 at *
    have HSC : Hid (∀ w', Below w0.heap.size w0 w' → w'.cell? ⟨w.heap.size, 0, none⟩ = some (.string t.name) ∧ w'.cell? ⟨w.heap.size, 1, none⟩ = some (.slice a t.args.length c)) := fun w' hb => ⟨(HQ.out.below hb (by omega)).cell 0, (HQ.out.below hb (by omega)).cell 1⟩
    have HSX : Hid (∀ w' u u', Below w0.heap.size w0 w' → ((w'.setCell ⟨w.heap.size + 1, 0, none⟩ u).setCell ⟨w.heap.size + 1, 1, none⟩ u').cell? ⟨w.heap.size, 0, none⟩ = some (.string t.name) ∧ ((w'.setCell ⟨w.heap.size + 1, 0, none⟩ u).setCell ⟨w.heap.size + 1, 1, none⟩ u').cell? ⟨w.heap.size, 1, none⟩ = some (.slice a t.args.length c)) := fun w' u u' hb => ⟨(((HQ.out.below hb (by omega)).setOther _ _ (by omega)).setOther _ _ (by omega)).cell 0, (((HQ.out.below hb (by omega)).setOther _ _ (by omega)).setOther _ _ (by omega)).cell 1⟩
    have HSS := hide (HSC.out _ (Below.refl _ _))
    go_region_held3 (fun w' => w'.cell? ⟨w.heap.size, 0, none⟩ = some (.string t.name) ∧ w'.cell? ⟨w.heap.size, 1, none⟩ = some (.slice a t.args.length c)) (first | exact HSS.out | exact HSX.out _ _ _ k4 | exact z4 | exact z2 | go_keep)
      (first
        | (go_at_call 69; refine (symbol_any _ _).mono ?_; rintro e w2 ⟨rfl, hb2⟩; have k2 := drew_below (w := w0) hb2; have hz2 := k2.size; have z2 := HSC.out _ k2; have HT2 := hide (HS.out.later (HB0.out.trans (k2.mono (by omega)))); clear hb2)
        | (go_at_call 68; refine (ap_any ⟨kB, []⟩ t _ _ _ (fun b => (X b ∧ b < w.heap.size) ∨ w.heap.size + 2 ≤ b) (by exact ⟨none, 0, rfl, ⟨by simp, Or.inl rfl⟩⟩) (by exact ⟨a, c, rfl, HT2.out.mono fun b h _ => Or.inl h⟩)).mono ?_; rintro e w4 ⟨v4, rfl, ⟨a4, c4, rfl, hs4⟩, hb4⟩; have k4 := k2.trans (hb4.mono (by omega)); have z4 := HSC.out _ k4; have HS4 : Hid (Sl w4 (fun b => (X b ∧ b < w.heap.size) ∨ w.heap.size + 2 ≤ b) a4 (apT ⟨kB, []⟩ t).args) := (hs4.mono fun b h _ => h.elim id fun h => Or.inr (by omega)); have HK4 := hide (HK.out.below k4 (by omega)); have r0 : w4.cell? ⟨w.heap.size + 1, 0, none⟩ = some (.string ⟨#[]⟩) := HK4.out.cell 0; have r1 : w4.cell? ⟨w.heap.size + 1, 1, none⟩ = some (.slice none 0 0) := HK4.out.cell 1; have rf : ∀ i, w4.frozen? ⟨w.heap.size + 1, i, none⟩ = false := HK4.out.frozen; clear hb4 hs4))
    have HB4 := hide (HB0.out.trans (k4.mono (by omega)))
    go_wp2_with fail
    refine bodyPost_ret (v := .agg #[.string (apT ⟨kB, []⟩ t).name, .slice a4 (apT ⟨kB, []⟩ t).args.length c4]) (by simp [results, Tryz.results55, go_sem, World.cell?_setCell_same, World.cell?_setCell_other, r0, r1]) rfl ?_
    exact cl_end3 HS4.out HB4.out _ _
end Go.Proofs.YtcdabjekppddjaaGreatDoor
