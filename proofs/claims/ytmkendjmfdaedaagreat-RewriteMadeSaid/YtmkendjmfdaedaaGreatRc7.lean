import Derived.Test.YtmkendjmfdaedaaGreatZRewriteMadeOwn
import Derived.Test.YtmkendjmfdaedaaGreatRc6
import Derived.Test.YtmkendjmfdaedaaGreatRc0
import Derived.Test.YtmkendjmfdaedaaGreatW192
import Derived.Test.YtmkendjmfdaedaaGreatTd3
import Derived.Test.YtmkendjmfdaedaaGreatW30a
import Derived.Deep.RegionHeld3
namespace Go.Proofs.YtmkendjmfdaedaaGreat
open Go.RowKit
set_option linter.unusedSimpArgs false
set_option linter.unusedVariables false
set_option maxRecDepth 8000
structure RmS (zs : List Int) (rs : List Pr) (t : Tm) (u vq : Value) (aa : Option Addr) (ca P : Nat) (w w' : World) : Prop where
 pv : PV w' (fun _ => True) u zs
 qv : QV w' (fun _ => True) vq rs
 pb : Blk w' P #[.string t.name, .slice aa t.args.length ca] 27
 sl : Sl w' (fun _ => True) aa t.args
 bl : Below w.heap.size w w'
theorem RmS.later {zs : List Int} {rs : List Pr} {t : Tm} {u vq : Value} {aa : Option Addr} {ca P : Nat} {w w1 w2 : World} (h : RmS zs rs t u vq aa ca P w w1) (hb : Below w1.heap.size w1 w2) : RmS zs rs t u vq aa ca P w w2 :=
 ⟨(h.pv.later hb).mono fun _ _ _ => trivial, (h.qv.later hb).mono fun _ _ _ => trivial, h.pb.below hb h.pb.lt, (h.sl.later hb).mono fun _ _ _ => trivial, h.bl.trans (hb.mono h.bl.size)⟩
theorem ten_facts {l : List ByteArray} (hl : l ∈ ten) : rulesE (rsOf l) = 0 ∧ (rsOf l).length ≤ 6 ∧ (∀ p ∈ rsOf l, sizeL [p.l] ≤ 1000000 ∧ sizeL [p.r] ≤ 7) ∧ ∃ P : Tm → Prop, (∀ x, P x → mayE x = 0) ∧ (∀ x y, P x → y ∈ stAll (rsOf l) x → P y) ∧ ∀ t, errL [t] = 0 → sizeL [t] ≤ 10 → P t := by
 have hin : rsOf l ∈ rulesTen := by rw [← rsOf_ten]; exact List.mem_map.2 ⟨l, hl, rfl⟩
 have hlen : ∀ rs ∈ rulesTen, rs.length ≤ 6 := by
  simp [rulesTen]
 obtain ⟨A, f1, f2, f3, f4⟩ := ten_fit _ hin
 have hr := (ten_rules l hl).1
 have hre : ∀ p ∈ rsOf l, ruleE p = 0 := fun p hp => by
  obtain ⟨a, b, c, d, _⟩ := (ten_plain l hl).2 p hp
  exact ruleE_ofD a b c d
 refine ⟨hr, hlen _ hin, fun p hp => ⟨?_, (ten_rules l hl).2 p hp⟩, fun x => errL [x] = 0 ∧ (ev A x).2 ≤ 200, fun x hx => ?_, fun x y hx hy => ?_, fun t h1 h2 => ⟨h1, f3 t h2⟩⟩
 ·have := may200 ((ten_plain l hl).2 p hp).1
  omega
 ·have h1 := f2 x
  have h2 := hx.2
  unfold mayE
  rw [if_neg (by omega)]
  exact hx.1
 ·obtain ⟨h1, h2⟩ := stp_ev f1 f4 hre hx.1 hy
  exact ⟨h1, Nat.le_trans h2 hx.2⟩
set_option maxHeartbeats 4000000 in
theorem rewriteMade_any (zs : List Int) (hr : ∀ z ∈ zs, Rng z) (y1 y2 y3 : Int) (hy1 : Rng y1) (hy2 : Rng y2) (hy3 : Rng y3) (u : Value) (w : World) (X : Nat → Prop) (hu : PV w X u zs) :
  Calls Tryz.prog 3 #[u, .int .i64 y1, .int .i64 y2, .int .i64 y3] w fun e w' => e = .returned (.bool true) ∧ Below w.heap.size w w' := by
 have HU := hide hu
 obtain ⟨au, cu, rfl, hlc, hu2⟩ := hu
 clear hu2
 by_cases h256 : 256 < zs.length
 ·go_enter Tryz.func3, Tryz.ntmps3
  go_wp2_with fail
  go_ret
  exact ⟨rfl, Below.refl _ _⟩
 go_enter Tryz.func3, Tryz.ntmps3
 go_wp2_with fail
 refine (rulesFrom_any y1 hy1 _).mono ?_
 rintro e w1 ⟨l, vq, rfl, hl, hqv, hb1⟩
 have HRF := hide (ten_facts hl)
 generalize rsOf l = rs at *
 have HQ := hide hqv
 have HB1 := hide hb1
 clear hl hqv hb1
 go_wp2_with fail
 refine (pick_any _ 14 (by decide) (by decide) hy2 _).mono ?_
 rintro e w2 ⟨k1, rfl, hk1, hw2⟩
 rw [hw2]
 clear hw2 w2
 go_wp2_with fail
 obtain ⟨n, hn⟩ : ∃ n : Nat, (2 : Int) + (k1 : Int) = (n : Int) := ⟨2 + k1, by simp⟩
 rw [hn]
 have hn15 : n ≤ 15 := by omega
 have HTOP : Hid (top n ≤ 1000) := by unfold Hid top; split <;> omega
 refine (termOf_any 2 (by decide) (by decide) zs hr (by omega) n 0 _ _ _ (HU.out.later HB1.out) (by omega) (by have := HTOP.out; omega)).mono ?_
 rintro e w3 ⟨t, aa, ca, rfl, hs3, _, hb3, he3⟩
 have HE3 := hide he3
 have HRM : Hid (RmS zs rs t (.slice au zs.length cu) vq aa ca w3.heap.size w (w3.alloc (.cells #[.string t.name, .slice aa t.args.length ca] 27))) := by
  have hb4 : Below w3.heap.size w3 (w3.alloc (.cells #[.string t.name, .slice aa t.args.length ca] 27)) := (Below.refl _ _).alloc (Nat.le_refl _) _
  have hbb := hb3.trans (hb4.mono hb3.size)
  exact ⟨((HU.out.later HB1.out).later hbb).mono fun _ _ _ => trivial, (HQ.out.later hbb).mono fun _ _ _ => trivial, Blk.new w3 _ _, (hs3.later hb4).mono fun _ _ _ => trivial, HB1.out.trans (hbb.mono HB1.out.size)⟩
 clear hs3 hb3 he3
 obtain ⟨qa, qc, rfl, hql, _⟩ := id HRM.out.qv
 go_wp2_with fail
 obtain ⟨B, hB⟩ : ∃ B, B = w3.heap.size := ⟨_, rfl⟩
 rw [← hB] at HRM ⊢
 clear hB
 generalize (w3.alloc (.cells #[.string t.name, .slice aa t.args.length ca] 27)) = w4 at *
 have HRD : Hid (RmS zs rs t (.slice au zs.length cu) (.slice qa rs.length qc) aa ca B w w4.drew) := HRM.out.later (below_drewN (Below.refl _ _) 1)
 refine wp_region_held_drew (S := RmS zs rs t (.slice au zs.length cu) (.slice qa rs.length qc) aa ca B w) (by kernel_rfl) HRD.out (fun hHeld => ?_)
 generalize w4.drew = wd at *
 clear HRM
 by_cases hsz : sizeL [t] ≤ 10
 ·obtain ⟨P, hp1, hp2, hp3⟩ := HRF.out.2.2.2
  have HPM := hide hp1
  have HPS := hide hp2
  have HPT := hide (hp3 t HE3.out hsz)
  have HSZ := hide hsz
  have HMIN : Hid (min (sizeL [t] : Int) (10 + 1) = (sizeL [t] : Int)) := by unfold Hid; omega
  have HGT : Hid (¬ (10 : Int) < (sizeL [t] : Int)) := by unfold Hid; omega
  clear hp1 hp2 hp3 hsz
  refine tkq (v := ?_) 0 rfl ?_ ?_
  rotate_left
  ·intro w' hSw
   go_simp <;> with_reducible rfl
  try simp only [Act.put, sq]
  refine tkq (v := ?_) 1 rfl ?_ ?_
  rotate_left
  ·intro w' hSw
   have c0 : w'.cell? ⟨B, 0, none⟩ = some (.string t.name) := hSw.pb.cell 0
   have c1 : w'.cell? ⟨B, 1, none⟩ = some (.slice aa t.args.length ca) := hSw.pb.cell 1
   go_simp <;> with_reducible rfl
  try simp only [Act.put, sq]
  refine rdq 2 rfl fun K hK => ?_
  go_simp
  go_at_call 7
  refine (rewriteSays_any rs t _ _ _ _ HRD.out.qv ⟨aa, ca, rfl, HRD.out.sl⟩).mono ?_
  rintro e w5 ⟨rfl, hb5⟩
  have HS5 := hide (HRD.out.later hb5)
  clear hb5
  go_simp
  refine hK.out _ _ (by exact HS5.out) (fun hHeld => ?_)
  clear hK K
  try simp only [Act.put, sq]
  refine tkq (v := ?_) 3 rfl ?_ ?_
  rotate_left
  ·intro w' hSw
   go_simp <;> with_reducible rfl
  try simp only [Act.put, sq]
  refine tkq (v := ?_) 4 rfl ?_ ?_
  rotate_left
  ·intro w' hSw
   go_simp <;> with_reducible rfl
  try simp only [Act.put, sq]
  refine tkq (v := ?_) 5 rfl ?_ ?_
  rotate_left
  ·intro w' hSw
   have c0 : w'.cell? ⟨B, 0, none⟩ = some (.string t.name) := hSw.pb.cell 0
   have c1 : w'.cell? ⟨B, 1, none⟩ = some (.slice aa t.args.length ca) := hSw.pb.cell 1
   go_simp <;> with_reducible rfl
  try simp only [Act.put, sq]
  refine tkq (v := ?_) 6 rfl ?_ ?_
  rotate_left
  ·intro w' hSw
   go_simp <;> with_reducible rfl
  try simp only [Act.put, sq]
  refine tkq (v := ?_) 8 rfl ?_ ?_
  rotate_left
  ·intro w' hSw
   go_simp <;> with_reducible rfl
  try simp only [Act.put, sq]
  refine rdq 7 rfl fun K hK => ?_
  go_simp
  go_at_call 5
  refine (termOf_any 1 (by decide) (by decide) zs hr (by omega) 9 50 _ _ _ HS5.out.pv (by decide) (by decide)).mono ?_
  rintro e w6 ⟨t2, a2, c2, rfl, hs6, _, hb6, _⟩
  have HS6 := hide (HS5.out.later hb6)
  have HT2 := hide hs6
  clear hb6 hs6
  go_simp
  refine hK.out _ _ (by exact HS6.out) (fun hHeld => ?_)
  clear hK K
  try simp only [Act.put, sq]
  refine rdq 9 rfl fun K hK => ?_
  go_simp
  go_at_call 6
  refine (pick_any _ 30 (by decide) (by decide) hy3 _).mono ?_
  rintro e w7 ⟨k2, rfl, hk2, hw7⟩
  rw [hw7]
  clear hw7 w7
  go_simp
  refine hK.out _ _ (by exact HS6.out) (fun hHeld => ?_)
  clear hK K
  try simp only [Act.put, sq]
  refine rdq 10 rfl fun K hK => ?_
  go_simp
  go_at_call 8
  refine (rewriteEnds_any rs t t2 _ _ _ _ _ _ HS6.out.qv ⟨aa, ca, rfl, HS6.out.sl⟩ ⟨a2, c2, rfl, HT2.out.mono fun _ _ _ => trivial⟩).mono ?_
  rintro e w8 ⟨rfl, hb8⟩
  have HS8 := hide (HS6.out.later hb8)
  clear hb8 HT2
  go_simp
  refine hK.out _ _ (by exact HS8.out) (fun hHeld => ?_)
  clear hK K
  try simp only [Act.put, sq]
  refine tkq (v := ?_) 11 rfl ?_ ?_
  rotate_left
  ·intro w' hSw
   go_simp <;> with_reducible rfl
  try simp only [Act.put, sq]
  refine tkq (v := ?_) 12 rfl ?_ ?_
  rotate_left
  ·intro w' hSw
   go_simp <;> with_reducible rfl
  try simp only [Act.put, sq]
  refine tkq (v := ?_) 13 rfl ?_ ?_
  rotate_left
  ·intro w' hSw
   have c0 : w'.cell? ⟨B, 0, none⟩ = some (.string t.name) := hSw.pb.cell 0
   have c1 : w'.cell? ⟨B, 1, none⟩ = some (.slice aa t.args.length ca) := hSw.pb.cell 1
   go_simp <;> with_reducible rfl
  try simp only [Act.put, sq]
  refine rdq 14 rfl fun K hK => ?_
  go_simp
  go_at_call 9
  refine (size_any t _ _ _ _ ⟨aa, ca, rfl, HS8.out.sl⟩ (by decide) (by decide)).mono ?_
  rintro e w9 ⟨rfl, hb9⟩
  rw [HMIN.out]
  have HS9 := hide (HS8.out.later hb9)
  clear hb9
  go_simp
  refine hK.out _ _ (by exact HS9.out) (fun hHeld => ?_)
  clear hK K
  try simp only [Act.put, sq]
  refine tkq (v := ?_) 15 rfl ?_ ?_
  rotate_left
  ·intro w' hSw
   have hgt := HGT.out
   go_simp <;> with_reducible rfl
  try simp only [Act.put, sq]
  refine tkq (v := ?_) 16 rfl ?_ ?_
  rotate_left
  ·intro w' hSw
   go_simp <;> with_reducible rfl
  try simp only [Act.put, sq]
  refine tkq (v := ?_) 17 rfl ?_ ?_
  rotate_left
  ·intro w' hSw
   go_simp <;> with_reducible rfl
  try simp only [Act.put, sq]
  refine tkq (v := ?_) 18 rfl ?_ ?_
  rotate_left
  ·intro w' hSw
   have c0 : w'.cell? ⟨B, 0, none⟩ = some (.string t.name) := hSw.pb.cell 0
   have c1 : w'.cell? ⟨B, 1, none⟩ = some (.slice aa t.args.length ca) := hSw.pb.cell 1
   go_simp <;> with_reducible rfl
  try simp only [Act.put, sq]
  refine rdq 19 rfl fun K hK => ?_
  go_simp
  go_at_call 10
  refine (rewriteReach_fit rs t P HPM.out HPS.out HPT.out HRF.out.1 HRF.out.2.1 HRF.out.2.2.1 HSZ.out _ _ _ _ HS9.out.qv ⟨aa, ca, rfl, HS9.out.sl⟩).mono ?_
  rintro e w10 ⟨rfl, hb10⟩
  have HS10 := hide (HS9.out.later hb10)
  clear hb10
  go_simp
  refine hK.out _ _ (by exact HS10.out) (fun hHeld => ?_)
  clear hK K
  try simp only [Act.put, sq]
  refine tkq (v := ?_) 20 rfl ?_ ?_
  rotate_left
  ·intro w' hSw
   go_simp <;> with_reducible rfl
  try simp only [Act.put, sq]
  refine tkq (v := ?_) 21 rfl ?_ ?_
  rotate_left
  ·intro w' hSw
   go_simp <;> with_reducible rfl
  try simp only [Act.put, sq]
  refine tkq (v := ?_) 22 rfl ?_ ?_
  rotate_left
  ·intro w' hSw
   go_simp <;> with_reducible rfl
  try simp only [Act.put, sq]
  refine wpAnyH_done (by kernel_rfl) ?_ _
  go_wp2_with fail
  go_ret
  exact ⟨rfl, HS10.out.bl⟩
 ·have HMIN : Hid (min (sizeL [t] : Int) (10 + 1) = 11) := by unfold Hid; omega
  have HGT : Hid ((10 : Int) < 11) := by unfold Hid; decide
  clear hsz
  refine tkq (v := ?_) 0 rfl ?_ ?_
  rotate_left
  ·intro w' hSw
   go_simp <;> with_reducible rfl
  try simp only [Act.put, sq]
  refine tkq (v := ?_) 1 rfl ?_ ?_
  rotate_left
  ·intro w' hSw
   have c0 : w'.cell? ⟨B, 0, none⟩ = some (.string t.name) := hSw.pb.cell 0
   have c1 : w'.cell? ⟨B, 1, none⟩ = some (.slice aa t.args.length ca) := hSw.pb.cell 1
   go_simp <;> with_reducible rfl
  try simp only [Act.put, sq]
  refine rdq 2 rfl fun K hK => ?_
  go_simp
  go_at_call 7
  refine (rewriteSays_any rs t _ _ _ _ HRD.out.qv ⟨aa, ca, rfl, HRD.out.sl⟩).mono ?_
  rintro e w5 ⟨rfl, hb5⟩
  have HS5 := hide (HRD.out.later hb5)
  clear hb5
  go_simp
  refine hK.out _ _ (by exact HS5.out) (fun hHeld => ?_)
  clear hK K
  try simp only [Act.put, sq]
  refine tkq (v := ?_) 3 rfl ?_ ?_
  rotate_left
  ·intro w' hSw
   go_simp <;> with_reducible rfl
  try simp only [Act.put, sq]
  refine tkq (v := ?_) 4 rfl ?_ ?_
  rotate_left
  ·intro w' hSw
   go_simp <;> with_reducible rfl
  try simp only [Act.put, sq]
  refine tkq (v := ?_) 5 rfl ?_ ?_
  rotate_left
  ·intro w' hSw
   have c0 : w'.cell? ⟨B, 0, none⟩ = some (.string t.name) := hSw.pb.cell 0
   have c1 : w'.cell? ⟨B, 1, none⟩ = some (.slice aa t.args.length ca) := hSw.pb.cell 1
   go_simp <;> with_reducible rfl
  try simp only [Act.put, sq]
  refine tkq (v := ?_) 6 rfl ?_ ?_
  rotate_left
  ·intro w' hSw
   go_simp <;> with_reducible rfl
  try simp only [Act.put, sq]
  refine tkq (v := ?_) 8 rfl ?_ ?_
  rotate_left
  ·intro w' hSw
   go_simp <;> with_reducible rfl
  try simp only [Act.put, sq]
  refine rdq 7 rfl fun K hK => ?_
  go_simp
  go_at_call 5
  refine (termOf_any 1 (by decide) (by decide) zs hr (by omega) 9 50 _ _ _ HS5.out.pv (by decide) (by decide)).mono ?_
  rintro e w6 ⟨t2, a2, c2, rfl, hs6, _, hb6, _⟩
  have HS6 := hide (HS5.out.later hb6)
  have HT2 := hide hs6
  clear hb6 hs6
  go_simp
  refine hK.out _ _ (by exact HS6.out) (fun hHeld => ?_)
  clear hK K
  try simp only [Act.put, sq]
  refine rdq 9 rfl fun K hK => ?_
  go_simp
  go_at_call 6
  refine (pick_any _ 30 (by decide) (by decide) hy3 _).mono ?_
  rintro e w7 ⟨k2, rfl, hk2, hw7⟩
  rw [hw7]
  clear hw7 w7
  go_simp
  refine hK.out _ _ (by exact HS6.out) (fun hHeld => ?_)
  clear hK K
  try simp only [Act.put, sq]
  refine rdq 10 rfl fun K hK => ?_
  go_simp
  go_at_call 8
  refine (rewriteEnds_any rs t t2 _ _ _ _ _ _ HS6.out.qv ⟨aa, ca, rfl, HS6.out.sl⟩ ⟨a2, c2, rfl, HT2.out.mono fun _ _ _ => trivial⟩).mono ?_
  rintro e w8 ⟨rfl, hb8⟩
  have HS8 := hide (HS6.out.later hb8)
  clear hb8 HT2
  go_simp
  refine hK.out _ _ (by exact HS8.out) (fun hHeld => ?_)
  clear hK K
  try simp only [Act.put, sq]
  refine tkq (v := ?_) 11 rfl ?_ ?_
  rotate_left
  ·intro w' hSw
   go_simp <;> with_reducible rfl
  try simp only [Act.put, sq]
  refine tkq (v := ?_) 12 rfl ?_ ?_
  rotate_left
  ·intro w' hSw
   go_simp <;> with_reducible rfl
  try simp only [Act.put, sq]
  refine tkq (v := ?_) 13 rfl ?_ ?_
  rotate_left
  ·intro w' hSw
   have c0 : w'.cell? ⟨B, 0, none⟩ = some (.string t.name) := hSw.pb.cell 0
   have c1 : w'.cell? ⟨B, 1, none⟩ = some (.slice aa t.args.length ca) := hSw.pb.cell 1
   go_simp <;> with_reducible rfl
  try simp only [Act.put, sq]
  refine rdq 14 rfl fun K hK => ?_
  go_simp
  go_at_call 9
  refine (size_any t _ _ _ _ ⟨aa, ca, rfl, HS8.out.sl⟩ (by decide) (by decide)).mono ?_
  rintro e w9 ⟨rfl, hb9⟩
  rw [HMIN.out]
  have HS9 := hide (HS8.out.later hb9)
  clear hb9
  go_simp
  refine hK.out _ _ (by exact HS9.out) (fun hHeld => ?_)
  clear hK K
  try simp only [Act.put, sq]
  refine tkq (v := ?_) 15 rfl ?_ ?_
  rotate_left
  ·intro w' hSw
   have hgt := HGT.out
   go_simp <;> with_reducible rfl
  try simp only [Act.put, sq]
  refine tkq (v := ?_) 16 rfl ?_ ?_
  rotate_left
  ·intro w' hSw
   go_simp <;> with_reducible rfl
  try simp only [Act.put, sq]
  refine wpAnyH_take (i := 17) (v := undef) rfl (by kernel_rfl) (by kernel_rfl) (by kernel_rfl) (fun _ _ _ h => h) (Or.inr ⟨by rfl, rfl⟩) (by assumption) ?_
  try simp only [Act.put, sq]
  refine wpAnyH_take (i := 18) (v := undef) rfl (by kernel_rfl) (by kernel_rfl) (by kernel_rfl) (fun _ _ _ h => h) (Or.inr ⟨by rfl, rfl⟩) (by assumption) ?_
  try simp only [Act.put, sq]
  refine wpAnyH_take (i := 19) (v := undef) rfl (by kernel_rfl) (by kernel_rfl) (by kernel_rfl) (fun _ _ _ h => h) (Or.inr ⟨by rfl, rfl⟩) (by assumption) ?_
  try simp only [Act.put, sq]
  refine tkq (v := ?_) 20 rfl ?_ ?_
  rotate_left
  ·intro w' hSw
   go_simp <;> with_reducible rfl
  try simp only [Act.put, sq]
  refine tkq (v := ?_) 21 rfl ?_ ?_
  rotate_left
  ·intro w' hSw
   go_simp <;> with_reducible rfl
  try simp only [Act.put, sq]
  refine tkq (v := ?_) 22 rfl ?_ ?_
  rotate_left
  ·intro w' hSw
   go_simp <;> with_reducible rfl
  try simp only [Act.put, sq]
  refine wpAnyH_done (by kernel_rfl) ?_ _
  go_wp2_with fail
  go_ret
  exact ⟨rfl, HS9.out.bl⟩
end Go.Proofs.YtmkendjmfdaedaaGreat
