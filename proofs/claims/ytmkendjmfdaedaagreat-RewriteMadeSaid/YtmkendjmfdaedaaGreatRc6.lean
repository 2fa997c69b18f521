import Derived.Test.YtmkendjmfdaedaaGreatRc5
import Derived.Test.YtmkendjmfdaedaaGreatW176
import Derived.Test.YtmkendjmfdaedaaGreatZRewriteMadeOwn
namespace Go.Proofs.YtmkendjmfdaedaaGreat
open Go.RowKit
set_option linter.unusedSimpArgs false
set_option linter.unusedVariables false
set_option maxRecDepth 8000
def RrI (n : Nat) (W1 : World) (o : Value) (wr : World) : Prop := ∃ k : Nat, k ≤ n ∧ o = .int .i64 (k : Int) ∧ Below W1.heap.size W1 wr
set_option maxHeartbeats 2000000 in
theorem rewriteReach_fit (rs : List Pr) (t : Tm) (P : Tm → Prop) (hm : ∀ x, P x → mayE x = 0) (hst : ∀ x y, P x → y ∈ stAll rs x → P y) (ht : P t) (hr0 : rulesE rs = 0) (h6 : rs.length ≤ 6) (hrs : ∀ p ∈ rs, sizeL [p.l] ≤ 1000000 ∧ sizeL [p.r] ≤ 7) (ht10 : sizeL [t] ≤ 10) (u v : Value) (w : World) (X : Nat → Prop) (hu : QV w X u rs) (hv : TV w X v t) :
  Calls Tryz.prog 10 #[u, v] w fun e w' => e = .returned (.bool true) ∧ Below w.heap.size w w' := by
 have HU := hide hu
 have HM := hide hm
 have HST := hide hst
 have HT := hide ht
 have HRS := hide hrs
 have HR0 := hide hr0
 obtain ⟨ua, uc, rfl, hul, _⟩ := hu
 obtain ⟨aa, ca, rfl, hs⟩ := hv
 have HS := hide hs
 have hB1 : Below w.heap.size w (w.alloc (.cells #[.string t.name, .slice aa t.args.length ca] 27)) := (Below.refl _ _).alloc (Nat.le_refl _) _
 have hT1 := Blk.new w #[.string t.name, .slice aa t.args.length ca] 27
 clear hs hm hst ht hrs hr0
 go_enter Tryz.func10, Tryz.ntmps10
 go_wp2_with fail
 generalize (w.alloc (.cells #[.string t.name, .slice aa t.args.length ca] 27)) = w1 at *
 refine (hugePairs_any rs _ _ X (HU.out.later hB1)).mono ?_
 rintro e w2 ⟨rfl, hb⟩
 have HB2 := hide (hB1.trans (hb.mono hB1.size))
 have hB2 := HB2.out
 have hT2 := hT1.below hb hT1.lt
 clear hb
 have t02 := hT2.c0
 have t12 := hT2.c1
 cases hq : hugeQ rs with
 | true =>
  clear hq
  go_wp2_with fail
  go_ret
  exact ⟨rfl, HB2.out⟩
 | false =>
  clear hq
  go_wp2_with fail
  refine (huge_any t _ _ X ⟨aa, ca, rfl, HS.out.later HB2.out⟩).mono ?_
  rintro e w3 ⟨rfl, hb⟩
  have HB3 := hide (hB2.trans (hb.mono hB2.size))
  have hB3 := HB3.out
  have hT3 := hT2.below hb hT2.lt
  clear hb
  clear t02 t12
  have t03 := hT3.c0
  have t13 := hT3.c1
  have g1d : decide (3000 < sizeL [t]) = false := by simp; omega
  rw [g1d]
  clear g1d
  go_wp2_with fail
  refine (rulesMay_any rs _ _ X (HU.out.later HB3.out)).mono ?_
  rintro e w4 ⟨rfl, hb⟩
  rw [HR0.out]
  have HB4 := hide (hB3.trans (hb.mono hB3.size))
  have hB4 := HB4.out
  have hT4 := hT3.below hb hT3.lt
  clear hb
  clear t03 t13
  have t04 := hT4.c0
  have t14 := hT4.c1
  go_wp2_with fail
  refine (termMay_any t _ _ X ⟨aa, ca, rfl, HS.out.later HB4.out⟩).mono ?_
  rintro e w5 ⟨rfl, hb⟩
  rw [HM.out t HT.out]
  have HB5 := hide (hB4.trans (hb.mono hB4.size))
  have hB5 := HB5.out
  have hT5 := hT4.below hb hT4.lt
  clear hb
  clear t04 t14
  have t05 := hT5.c0
  have t15 := hT5.c1
  go_wp2_with fail
  refine (size_any t _ _ _ X ⟨aa, ca, rfl, HS.out.later HB5.out⟩ (by decide) (by decide)).mono ?_
  rintro e w6 ⟨rfl, hb⟩
  rw [show min (sizeL [t] : Int) (30 + 1) = (sizeL [t] : Int) by omega]
  have hn30 : ¬ (30 : Int) < (sizeL [t] : Int) := by omega
  have hn6 : ¬ (6 : Int) < (rs.length : Int) := by omega
  have HB6 := hide (hB5.trans (hb.mono hB5.size))
  have hT6 := hT5.below hb hT5.lt
  clear hb t05 t15 hB1 hT1 hB2 hT2 hB3 hT3 hB4 hT4 hB5 hT5
  have HT6 := hide hT6
  clear hT6
  go_wp2_with fail
  go_loopw [7] (fun o wr => RrI rs.length w6 o wr) (fun o wr => rs.length - (intOf o).toNat)
  case atStart => exact ⟨0, Nat.zero_le _, rfl, Below.refl _ _⟩
  case round =>
   obtain ⟨k, hk, rfl, hb⟩ := hrel
   have HBK := hide hb
   clear hb
   by_cases hlt : k < rs.length
   ·obtain ⟨bq, oq, a1, c1, a2, c2, rfl, d0, d1, d2, d3, hq1, hq2⟩ := (HU.out.later (HB6.out.trans (HBK.out.mono HB6.out.size))).get k hlt
    have hlt2 : (k : Int) < (rs.length : Int) := by omega
    have HZ := hide (HRS.out _ (List.getElem_mem hlt)).2
    have HQ2 := hide hq2
    clear hq1 hq2 d0 d1
    generalize rs[k] = r at *
    go_wp2_with fail
    refine (size_any r.r _ _ _ X ⟨a2, c2, rfl, HQ2.out⟩ (by decide) (by decide)).mono ?_
    rintro e w7 ⟨rfl, hb7⟩
    rw [show min (sizeL [r.r] : Int) (12 + 1) = (sizeL [r.r] : Int) by have := HZ.out; omega]
    have hn12 : ¬ (12 : Int) < (sizeL [r.r] : Int) := by have := HZ.out; omega
    have HB7 := hide (HBK.out.trans (hb7.mono HBK.out.size))
    clear hb7 d2 d3
    go_wp2_with fail
    go_roundw
    case rel => exact ⟨k + 1, by omega, by go_num, HB7.out⟩
    case measure => simp [intOf]; omega
   ·have hlt3 : ¬ (k : Int) < (rs.length : Int) := by omega
    have hTk := HT6.out.below HBK.out HT6.out.lt
    have HBW := hide (HB6.out.trans (HBK.out.mono HB6.out.size))
    have t0 := hTk.c0
    have t1 := hTk.c1
    go_wp2_with fail
    refine (reachOf_any rs t P HM.out HST.out HT.out _ aa ca _ X (HU.out.later HBW.out) (HS.out.later HBW.out) (by omega) (fun p hp => ⟨(HRS.out p hp).1, by have := (HRS.out p hp).2; omega⟩)).mono ?_
    rintro e w8 ⟨hb8, ho8⟩
    have HB8 := hide (HBW.out.trans (hb8.mono HBW.out.size))
    have hT8 := hTk.below hb8 hTk.lt
    have x0 := hT8.c0
    have x1 := hT8.c1
    clear hb8 t0 t1 hTk
    rcases ho8 with ⟨hn8, rfl⟩ | ⟨all, v8, out8, hg8, hasc8, hmem8, rfl, hlv8⟩
    ·have HN8 := hide hn8
     clear hn8
     go_wp2_with fail
     refine (reachP_any rs t P HM.out HST.out HT.out _ aa ca _ X (HU.out.later HB8.out) (HS.out.later HB8.out) HR0.out).mono ?_
     rintro e w9 ⟨hb9, ho9⟩
     have HB9 := hide (HB8.out.trans (hb9.mono HB8.out.size))
     clear hb9
     rcases ho9 with ⟨_, rfl⟩ | ⟨all9, v9, out9, hg9, _⟩
     ·go_wp2_with fail
      refine (names2_err 3 (by decide) 0 none _ _).mono ?_
      rintro e w10 ⟨rfl, hb10⟩
      have HB10 := hide (HB9.out.trans (hb10.mono HB9.out.size))
      go_wp2_with fail
      go_ret
      exact ⟨rfl, HB10.out⟩
     ·rw [HN8.out] at hg9
      cases hg9
    ·have HG8 := hide hg8
     have HA8 := hide hasc8
     have HM8 := hide hmem8
     have HL8 := hide hlv8
     obtain ⟨a8, c8, rfl, _⟩ := hlv8
     clear hg8 hasc8 hmem8
     go_wp2_with fail
     refine (reachP_any rs t P HM.out HST.out HT.out _ aa ca _ X (HU.out.later HB8.out) (HS.out.later HB8.out) HR0.out).mono ?_
     rintro e w9 ⟨hb9, ho9⟩
     have HB9 := hide (HB8.out.trans (hb9.mono HB8.out.size))
     have HL89 := hide (HL8.out.later hb9)
     clear hb9
     rcases ho9 with ⟨hn9, rfl⟩ | ⟨all9, v9, out9, hg9, hasc9, hmem9, rfl, hlv9⟩
     ·have := HG8.out
      rw [hn9] at this
      cases this
     ·have e9 : all9 = all := by have := HG8.out; rw [hg9] at this; exact Option.some.inj this
      subst e9
      have eo : out9 = out8 := asc_uniq hasc9 HA8.out fun s => (hmem9 s).trans (HM8.out s).symm
      subst eo
      have HL9 := hide hlv9
      obtain ⟨a9, c9, rfl, _⟩ := hlv9
      clear hg9 hasc9 hmem9
      go_wp2_with fail
      refine (names2_ok out9 _ _ _ _ _ HL9.out HL89.out).mono ?_
      rintro e w10 ⟨rfl, hb10⟩
      have HB10 := hide (HB9.out.trans (hb10.mono HB9.out.size))
      go_wp2_with fail
      go_ret
      exact ⟨rfl, HB10.out⟩
end Go.Proofs.YtmkendjmfdaedaaGreat
