import Derived.Test.YtdebiiodhkcnkaaGreatZTopIndexOwn
import Derived.Test.YtdebiiodhkcnkaaGreatJx4a
import Derived.Deep.RegionHeld3
namespace Go.Proofs.YtdebiiodhkcnkaaGreat
open Go.RowKit
set_option linter.unusedSimpArgs false
set_option linter.unusedVariables false
set_option maxRecDepth 8000
def JtI (p : Nat) (w : World) (v at_ i : Value) (wr : World) : Prop := ∃ (k n : Nat) (l : List Tm), k ≤ p ∧ i = .int .i64 (k : Int) ∧ at_ = .int .i64 (n : Int) ∧ n ≤ k * 13 ∧ l.length = k ∧ (∀ x ∈ l, Sm2 x) ∧ TmS w.heap.size wr v l ∧ Below w.heap.size w wr
theorem top_sev2 {m : Nat} (h : m ≤ 7) : top m ≤ 13 := by unfold top; split <;> omega
theorem newE_sm {l : List Tm} (h : ∀ x ∈ l, Sm2 x) (hl : l.length ≤ 40) : newE l = 0 := by
 unfold newE
 rw [if_neg (by omega)]
 clear hl
 induction l with
 | nil => rfl
 | cons a r ih =>
  rw [rowTE, if_pos (h a (by simp)).may]
  exact ih fun x hx => h x (by simp [hx])
set_option maxHeartbeats 8000000 in
theorem topIndex_any (zs : List Int) (hr : ∀ z ∈ zs, Rng z) (y1 y2 : Int) (hy1 : Rng y1) (hy2 : Rng y2) (u : Value) (w : World) (X0 : Nat → Prop) (hu : PV w X0 u zs) :
  Calls Tryz.prog 4 #[u, .int .i64 y1, .int .i64 y2] w fun e w' => e = .returned (.bool true) ∧ Below w.heap.size w w' := by
 have HU := hide hu
 obtain ⟨ua, uc, hue, huu⟩ := hu
 subst hue
 clear huu
 by_cases h256 : 256 < zs.length
 ·have h256i : (256 : Int) < (zs.length : Int) := by omega
  go_enter Tryz.func4, Tryz.ntmps4
  go_wp2_with fail
  go_ret
  exact ⟨rfl, Below.refl _ _⟩
 have h256i : ¬ (256 : Int) < (zs.length : Int) := by omega
 have hzl : zs.length ≤ 1000000 := by omega
 obtain ⟨p, hp⟩ : ∃ p, p = pickN y1 9 := ⟨_, rfl⟩
 have hp9 : p < 9 := by rw [hp]; exact pickN_lt _ _ (by omega)
 have HPK : Hid (∀ w', Calls Tryz.prog 5 #[.int .i64 y1, .int .i64 9] w' fun e w'' => e = .returned (.int .i64 (p : Int)) ∧ w'' = w') := fun w' => by rw [hp]; exact pick_eq y1 9 (by omega) (by omega) hy1 w'
 clear hp
 go_enter Tryz.func4, Tryz.ntmps4
 go_wp2_with fail
 go_loopw [7, 8, 9] (fun v at_ i wr => JtI (1 + p) w v at_ i wr) (fun v at_ i wr => 1 + p - (intOf i).toNat)
 case atStart => exact ⟨0, 0, [], Nat.zero_le _, rfl, rfl, by omega, rfl, by simp, TmS.start _ _, Below.refl _ _⟩
 case round =>
  obtain ⟨k, n, l, hk, rfl, rfl, hn, hlen, hsm, hT, hb⟩ := hrel
  have HSM := hide hsm
  have HT := hide hT
  have HB := hide hb
  clear hsm hT hb
  by_cases hlt : k < 1 + p
  ·have hki : (k : Int) < 1 + (p : Int) := by omega
   have CP := hide (pick_any (wrap64 (y2 + (k : Int))) 7 (by omega) (by omega) (wrap_rng _) wr)
   have GA : Hid (∀ q : Nat, q < 7 → Calls Tryz.prog 6 #[.slice ua zs.length uc, .int .i64 (n : Int), .int .i64 (1 + (q : Int)), .int .i64 2] wr fun e w' => GrowPA 2 wr n (1 + q) e w') := fun q hq => by
    have h := growA_any 2 (by omega) (by omega) zs hr hzl (1 + q) n _ _ X0 (HU.out.later HB.out) (by omega) (by have := top_sev2 (m := 1 + q) (by omega); omega)
    rw [show (((1 + q : Nat)) : Int) = 1 + (q : Int) by omega, show ((2 : Nat) : Int) = 2 from rfl] at h
    exact h
   go_upto_region 8 with (go_at_call 5; refine (HPK.out _).mono ?_; rintro e w' ⟨rfl, rfl⟩)
   go_upto_region 9 with (first | (go_at_call 5; refine CP.out.mono ?_; rintro e w' ⟨q, rfl, hq, rfl⟩) | (go_at_call 6; refine (GA.out q hq).mono ?_; rintro e w1 ⟨a1, c1, n1, t1, rfl, hs1, -, -, hz1, hn1, hn1', hb1, he1⟩; have HHS := hide hs1; have HHB := hide hb1; have HE := hide he1; clear hs1 hb1 he1))
   have htp := top_sev2 (m := 1 + q) (by omega)
   have hbA : Below w1.heap.size w1 (w1.alloc (.cells #[.string t1.name, .slice a1 t1.args.length c1] 26)) := (Below.refl _ _).alloc (Nat.le_refl _) _
   have hb2 := HHB.out.trans (hbA.mono HHB.out.size)
   have A2 := hide (Blk.new w1 #[.string t1.name, .slice a1 t1.args.length c1] 26)
   have HB2 := hide (HB.out.trans (hb2.mono HB.out.size))
   have HT2 := hide (HT.out.later hb2)
   have HL := HT.out.lt
   have S2 := hide ((HHS.out.later hbA).mono (Y := fun b => some b ≠ u7.ownBlock) fun b hb _ e => by have := (HL b e.symm).2; omega)
   have HSM2 : Hid (∀ x ∈ l ++ [t1], Sm2 x) := fun x hx => by
    rcases List.mem_append.1 hx with hx | hx
    ·exact HSM.out x hx
    ·have e : x = t1 := by simpa using hx
     rw [e]; exact ⟨HE.out, by omega⟩
   clear hbA hb2 GA CP HL HT HB HHS HHB HE HSM
   generalize (w1.alloc (.cells #[.string t1.name, .slice a1 t1.args.length c1] 26)) = w2 at *
   have p0 := A2.out.c0
   have p1 := A2.out.c1
   obtain ⟨v5, w5, hrun, hT5, hb5⟩ := HT2.out.add (c := c1) HB2.out.size HB2.out (by omega) S2.out
   have HRUN := hide hrun
   have HT5 := hide hT5
   have HB5 := hide hb5
   clear hrun hT5 hb5
   go_wp2_with (at_builtin; refine wpList_append_eq rfl _ _ _ _ rfl rfl rfl HRUN.out ?_)
   go_roundw
   case rel => exact ⟨k + 1, n1, l ++ [t1], by omega, by go_num, rfl, by omega, by simp; omega, HSM2.out, HT5.out, HB5.out⟩
   case measure => simp [intOf]; omega
  ·have hki : ¬ (k : Int) < 1 + (p : Int) := by omega
   subst hlen
   obtain ⟨la, lc, rfl, hsl⟩ := HT.out.shape
   have HSL := hide hsl
   clear hsl HT
   have hl40 : l.length ≤ 40 := by omega
   have HNE := hide (newE_sm HSM.out hl40)
   have HALL : Hid (∀ x ∈ l, mayE x = 0) := fun x hx => (HSM.out x hx).may
   have TO := termOfA_any 2 (by omega) (by omega) zs hr hzl 6 n _ wr X0 (HU.out.later HB.out) (by omega) (by have := top_sev2 (m := 6) (by omega); omega)
   rw [show ((6 : Nat) : Int) = 6 from rfl, show ((2 : Nat) : Int) = 2 from rfl] at TO
   have HTO := hide TO
   clear TO
   go_upto_region 12 with (first | (go_at_call 5; refine (HPK.out _).mono ?_; rintro e w' ⟨rfl, rfl⟩) | (go_at_call 8; refine HTO.out.mono ?_; rintro e w4 ⟨t, ta, tc, rfl, hs4, hz4, hb4, he4⟩; have HS4 := hide hs4; have HB4 := hide hb4; have HE4 := hide he4; clear hs4 hb4 he4 HTO))
   have HTS : Hid (Sm2 t) := ⟨HE4.out, by have := top_sev2 (m := 6) (by omega); omega⟩
   have h0 : mayE t = 0 := HTS.out.may
   have P1 : Hid (Blk (w4.alloc (.cells #[.string t.name, .slice ta t.args.length tc] 26)) w4.heap.size #[.string t.name, .slice ta t.args.length tc] 26) := Blk.new _ _ _
   have HBX : Hid (Below w4.heap.size w4 (w4.alloc (.cells #[.string t.name, .slice ta t.args.length tc] 26))) := (Below.refl _ _).alloc (Nat.le_refl _) _
   have HS := hide ((HSL.out.later HB4.out).later HBX.out)
   have HST := hide ((HS4.out.later HBX.out).mono (Y := fun _ => True) fun _ _ _ => trivial)
   have H1 : Hid (Below w.heap.size w (w4.alloc (.cells #[.string t.name, .slice ta t.args.length tc] 26))) := HB.out.trans ((HB4.out.trans (HBX.out.mono HB4.out.size)).mono HB.out.size)
   generalize hTB : w4.heap.size = TB at *
   generalize (w4.alloc (.cells #[.string t.name, .slice ta t.args.length tc] 26)) = w1 at *
   clear HSL HS4 HBX HB4 HE4 HB HU HPK hz4 hTB
   have KT : Hid (∀ w', Below w1.heap.size w1 w' → w'.cell? ⟨TB, 0, none⟩ = some (.string t.name) ∧ w'.cell? ⟨TB, 1, none⟩ = some (.slice ta t.args.length tc) ∧ TV w' (fun _ => True) (.agg #[.string t.name, .slice ta t.args.length tc]) t ∧ Sl w' (fun _ => True) ta t.args) := fun w' hb => ⟨(P1.out.below hb P1.out.lt).c0, (P1.out.below hb P1.out.lt).c1, ⟨ta, tc, rfl, HST.out.later hb⟩, HST.out.later hb⟩
   clear P1 HST
   have CN := hide (new_any l la lc w1 _ HS.out)
   go_upto_region 15 with (go_at_call 9; refine CN.out.mono ?_; rintro e w5 ⟨hb5, hcs⟩; have HB5 := hide hb5; obtain ⟨-, X, y, tv, Z, rfl, hN⟩ := hcs.resolve_left (fun h => h.1 HNE.out); have HX : Hid (IdxW w5 w1.heap.size X l) := ⟨y, tv, Z, hN⟩; clear hb5 hcs hN CN)
   clear HNE
   obtain ⟨t0, t1, -, hsl⟩ := KT.out w5 HB5.out
   have CO := hide (overI_any HALL.out hl40 _ X w5 HX.out ta tc hsl)
   clear hsl
   go_upto_region 16 with (go_at_call 10; refine CO.out.mono ?_; rintro e w6 ⟨va, rfl, hp6, hb6⟩; rw [h0]; have HA6 := hide hp6; have HB6 := hide hb6; clear hp6 hb6)
   clear t0 t1 CO
   have HX6 := hide (HX.out.later HB6.out)
   have HB16 := hide (HB5.out.trans (HB6.out.mono HB5.out.size))
   clear HX HB5 HB6
   obtain ⟨t0, t1, -, hsl⟩ := KT.out w6 HB16.out
   have CO := hide (underI_any HALL.out hl40 _ X w6 HX6.out ta tc hsl)
   clear hsl
   go_upto_region 17 with (go_at_call 11; refine CO.out.mono ?_; rintro e w7 ⟨vb, rfl, hp7, hb7⟩; rw [h0]; have HC7 := hide hp7; have HB7 := hide hb7; clear hp7 hb7)
   clear t0 t1 CO
   have HX7 := hide (HX6.out.later HB7.out)
   have HA7 := hide (HA6.out.later HB7.out)
   have HB17 := hide (HB16.out.trans (HB7.out.mono HB16.out.size))
   clear HX6 HA6 HB16 HB7
   obtain ⟨t0, t1, -, hsl⟩ := KT.out w7 HB17.out
   have CO := hide (nearI_any HALL.out hl40 _ X w7 HX7.out ta tc hsl)
   clear hsl
   go_upto_region 18 with (go_at_call 12; refine CO.out.mono ?_; rintro e w8 ⟨vc, rfl, hp8, hb8⟩; rw [h0]; have HD8 := hide hp8; have HB8 := hide hb8; clear hp8 hb8)
   clear t0 t1 CO
   have HX8 := hide (HX7.out.later HB8.out)
   have HA8 := hide (HA7.out.later HB8.out)
   have HC8 := hide (HC7.out.later HB8.out)
   have HB18 := hide (HB17.out.trans (HB8.out.mono HB17.out.size))
   clear HX7 HA7 HC7 HB17 HB8
   go_upto_region 19 with (first | (go_at_call 13; refine (leaf_any _ _).mono ?_; rintro e w9 ⟨rfl, hb9⟩; have HB9 := hide hb9; clear hb9) | (go_at_call 11; refine (underI_any (t := leafW) HALL.out hl40 _ X w9 (HX8.out.later HB9.out) none 0 ⟨by simp [leafW], Or.inl rfl⟩).mono ?_; rintro e w10 ⟨vd, rfl, hp10, hb10⟩; rw [may_leafW]; have HD10 := hide hp10; have HB10 := hide (HB9.out.trans (hb10.mono HB9.out.size)); clear hp10 hb10))
   obtain ⟨da, dc, rfl⟩ : ∃ da dc, vd = .slice da l.length dc := by
    obtain ⟨da, dc, e, _⟩ := HD10.out
    rw [List.length_map, tld_leafW] at e
    exact ⟨da, dc, e⟩
   have HA10 := hide (HA8.out.later HB10.out)
   have HC10 := hide (HC8.out.later HB10.out)
   have HE10 := hide (HD8.out.later HB10.out)
   have HB110 := hide (HB18.out.trans (HB10.out.mono HB18.out.size))
   clear HX8 HA8 HC8 HD8 HB18 HB10 HD10 HB9 w9 w8 w7 w6 w5
   go_wp2_with fail
   go_loopw [22] (fun i wr => ∃ k : Nat, k ≤ l.length ∧ i = .int .i64 (k : Int) ∧ Below w10.heap.size w10 wr) (fun i wr => l.length - (intOf i).toNat)
   case atStart => exact ⟨0, Nat.zero_le _, rfl, Below.refl _ _⟩
   case round =>
    obtain ⟨k, hk, rfl, hb⟩ := hrel
    rename World => w11
    have HB11 := hide hb
    have HB111 := hide (HB110.out.trans (hb.mono HB110.out.size))
    clear hb
    by_cases hlt : k < l.length
    ·have hki : (k : Int) < (l.length : Int) := by omega
     obtain ⟨b, o, a', c', rfl, hga⟩ := HS.out.getA k hlt
     have HGA := hide hga
     have HSK := hide (HSM.out _ (List.getElem_mem hlt))
     have HMK := hide HSK.out.may
     have H0 := hide h0
     clear hga
     have KK : Hid (∀ w', Below w1.heap.size w1 w' → (w'.cell? ⟨b, o + k * 2, none⟩ = some (.string l[k].name) ∧ w'.cell? ⟨b, o + k * 2 + 1, none⟩ = some (.slice a' l[k].args.length c') ∧ w'.cell? ⟨TB, 0, none⟩ = some (.string t.name) ∧ w'.cell? ⟨TB, 1, none⟩ = some (.slice ta t.args.length tc))) := fun w' hb => by
      obtain ⟨y0, y1, y2, y3⟩ := HGA.out w' hb
      obtain ⟨z0, z1, z2, z3⟩ := KT.out w' hb
      exact ⟨y0, y1, z0, z1⟩
     go_upto_region 24 with fail
     refine wp_region_held_drew (S := fun w' => (w'.cell? ⟨b, o + k * 2, none⟩ = some (.string l[k].name) ∧ w'.cell? ⟨b, o + k * 2 + 1, none⟩ = some (.slice a' l[k].args.length c') ∧ w'.cell? ⟨TB, 0, none⟩ = some (.string t.name) ∧ w'.cell? ⟨TB, 1, none⟩ = some (.slice ta t.args.length tc))) (by kernel_rfl) (by exact KK.out _ HB111.out.drew) (fun hHeld => ?_)
     generalize hw111 : w11.drew = d111 at *
     have HD111 : Hid (Below w1.heap.size w1 d111) := by unfold Hid; rw [← hw111]; exact HB111.out.drew
     have HE111 : Hid (Below w11.heap.size w11 d111) := by unfold Hid; rw [← hw111]; exact (Below.refl _ _).drew
     clear hw111
     refine tkq (v := ?_) 0 rfl ?_ ?_
     rotate_left
     ·intro w' hSw
      obtain ⟨x0, x1, x2, x3⟩ := hSw
      go_simp <;> with_reducible rfl
     try simp only [Act.put, sq]
     refine tkq (v := ?_) 1 rfl ?_ ?_
     rotate_left
     ·intro w' hSw
      obtain ⟨x0, x1, x2, x3⟩ := hSw
      go_simp <;> with_reducible rfl
     try simp only [Act.put, sq]
     refine tkq (v := ?_) 2 rfl ?_ ?_
     rotate_left
     ·intro w' hSw
      obtain ⟨x0, x1, x2, x3⟩ := hSw
      go_simp <;> with_reducible rfl
     try simp only [Act.put, sq]
     refine tkq (v := ?_) 3 rfl ?_ ?_
     rotate_left
     ·intro w' hSw
      obtain ⟨x0, x1, x2, x3⟩ := hSw
      go_simp <;> with_reducible rfl
     try simp only [Act.put, sq]
     refine tkq (v := ?_) 4 rfl ?_ ?_
     rotate_left
     ·intro w' hSw
      obtain ⟨x0, x1, x2, x3⟩ := hSw
      go_simp <;> with_reducible rfl
     try simp only [Act.put, sq]
     refine rdq 5 rfl fun K hK => ?_
     go_simp
     go_at_call 14
     obtain ⟨-, -, y2, -⟩ := HGA.out d111 HD111.out
     obtain ⟨-, -, z2, -⟩ := KT.out d111 HD111.out
     refine (matchJ_any l[k] t HMK.out H0.out _ _ d111 _ y2 z2).mono ?_
     rintro e w12 ⟨⟨m1, rfl⟩, hb⟩
     have HBw12 := hide (HD111.out.trans (hb.mono HD111.out.size))
     have HGw12 := hide (HE111.out.trans (hb.mono HE111.out.size))
     clear hb y2 z2 HD111 HE111
     refine hK.out _ _ (by exact KK.out _ HBw12.out) (fun hHeld => ?_)
     clear hK K
     try simp only [Act.put, sq]
     refine tkq (v := ?_) 6 rfl ?_ ?_
     rotate_left
     ·intro w' hSw
      obtain ⟨x0, x1, x2, x3⟩ := hSw
      go_simp <;> with_reducible rfl
     try simp only [Act.put, sq]
     refine tkq (v := ?_) 7 rfl ?_ ?_
     rotate_left
     ·intro w' hSw
      obtain ⟨x0, x1, x2, x3⟩ := hSw
      go_simp <;> with_reducible rfl
     try simp only [Act.put, sq]
     refine tkq (v := ?_) 8 rfl ?_ ?_
     rotate_left
     ·intro w' hSw
      obtain ⟨x0, x1, x2, x3⟩ := hSw
      go_simp <;> with_reducible rfl
     try simp only [Act.put, sq]
     refine tkq (v := ?_) 9 rfl ?_ ?_
     rotate_left
     ·intro w' hSw
      obtain ⟨x0, x1, x2, x3⟩ := hSw
      go_simp <;> with_reducible rfl
     try simp only [Act.put, sq]
     refine tkq (v := ?_) 10 rfl ?_ ?_
     rotate_left
     ·intro w' hSw
      obtain ⟨x0, x1, x2, x3⟩ := hSw
      go_simp <;> with_reducible rfl
     try simp only [Act.put, sq]
     refine tkq (v := ?_) 11 rfl ?_ ?_
     rotate_left
     ·intro w' hSw
      obtain ⟨x0, x1, x2, x3⟩ := hSw
      go_simp <;> with_reducible rfl
     try simp only [Act.put, sq]
     refine tkq (v := ?_) 12 rfl ?_ ?_
     rotate_left
     ·intro w' hSw
      obtain ⟨x0, x1, x2, x3⟩ := hSw
      go_simp <;> with_reducible rfl
     try simp only [Act.put, sq]
     refine wpAnyH_done (by kernel_rfl) ?_ _
     have HQ12 := hide (HB11.out.trans (HGw12.out.mono HB11.out.size))
     clear HGw12 HB11 HB111
     go_upto_region 25 with fail
     refine wp_region_held_drew (S := fun w' => (w'.cell? ⟨b, o + k * 2, none⟩ = some (.string l[k].name) ∧ w'.cell? ⟨b, o + k * 2 + 1, none⟩ = some (.slice a' l[k].args.length c') ∧ w'.cell? ⟨TB, 0, none⟩ = some (.string t.name) ∧ w'.cell? ⟨TB, 1, none⟩ = some (.slice ta t.args.length tc))) (by kernel_rfl) (by exact KK.out _ HBw12.out.drew) (fun hHeld => ?_)
     generalize hww12 : w12.drew = dw12 at *
     have HDw12 : Hid (Below w1.heap.size w1 dw12) := by unfold Hid; rw [← hww12]; exact HBw12.out.drew
     have HEw12 : Hid (Below w12.heap.size w12 dw12) := by unfold Hid; rw [← hww12]; exact (Below.refl _ _).drew
     clear hww12
     refine tkq (v := ?_) 0 rfl ?_ ?_
     rotate_left
     ·intro w' hSw
      obtain ⟨x0, x1, x2, x3⟩ := hSw
      go_simp <;> with_reducible rfl
     try simp only [Act.put, sq]
     refine tkq (v := ?_) 1 rfl ?_ ?_
     rotate_left
     ·intro w' hSw
      obtain ⟨x0, x1, x2, x3⟩ := hSw
      go_simp <;> with_reducible rfl
     try simp only [Act.put, sq]
     refine tkq (v := ?_) 2 rfl ?_ ?_
     rotate_left
     ·intro w' hSw
      obtain ⟨x0, x1, x2, x3⟩ := hSw
      go_simp <;> with_reducible rfl
     try simp only [Act.put, sq]
     refine tkq (v := ?_) 3 rfl ?_ ?_
     rotate_left
     ·intro w' hSw
      obtain ⟨x0, x1, x2, x3⟩ := hSw
      go_simp <;> with_reducible rfl
     try simp only [Act.put, sq]
     refine tkq (v := ?_) 4 rfl ?_ ?_
     rotate_left
     ·intro w' hSw
      obtain ⟨x0, x1, x2, x3⟩ := hSw
      go_simp <;> with_reducible rfl
     try simp only [Act.put, sq]
     refine rdq 5 rfl fun K hK => ?_
     go_simp
     go_at_call 14
     obtain ⟨-, -, y2, -⟩ := HGA.out dw12 HDw12.out
     obtain ⟨-, -, z2, -⟩ := KT.out dw12 HDw12.out
     refine (matchJ_any t l[k] H0.out HMK.out _ _ dw12 _ z2 y2).mono ?_
     rintro e w13 ⟨⟨m2, rfl⟩, hb⟩
     have HBw13 := hide (HDw12.out.trans (hb.mono HDw12.out.size))
     have HGw13 := hide (HEw12.out.trans (hb.mono HEw12.out.size))
     clear hb y2 z2 HDw12 HEw12
     refine hK.out _ _ (by exact KK.out _ HBw13.out) (fun hHeld => ?_)
     clear hK K
     try simp only [Act.put, sq]
     refine tkq (v := ?_) 6 rfl ?_ ?_
     rotate_left
     ·intro w' hSw
      obtain ⟨x0, x1, x2, x3⟩ := hSw
      go_simp <;> with_reducible rfl
     try simp only [Act.put, sq]
     refine tkq (v := ?_) 7 rfl ?_ ?_
     rotate_left
     ·intro w' hSw
      obtain ⟨x0, x1, x2, x3⟩ := hSw
      go_simp <;> with_reducible rfl
     try simp only [Act.put, sq]
     refine tkq (v := ?_) 8 rfl ?_ ?_
     rotate_left
     ·intro w' hSw
      obtain ⟨x0, x1, x2, x3⟩ := hSw
      go_simp <;> with_reducible rfl
     try simp only [Act.put, sq]
     refine tkq (v := ?_) 9 rfl ?_ ?_
     rotate_left
     ·intro w' hSw
      obtain ⟨x0, x1, x2, x3⟩ := hSw
      go_simp <;> with_reducible rfl
     try simp only [Act.put, sq]
     refine tkq (v := ?_) 10 rfl ?_ ?_
     rotate_left
     ·intro w' hSw
      obtain ⟨x0, x1, x2, x3⟩ := hSw
      go_simp <;> with_reducible rfl
     try simp only [Act.put, sq]
     refine tkq (v := ?_) 11 rfl ?_ ?_
     rotate_left
     ·intro w' hSw
      obtain ⟨x0, x1, x2, x3⟩ := hSw
      go_simp <;> with_reducible rfl
     try simp only [Act.put, sq]
     refine tkq (v := ?_) 12 rfl ?_ ?_
     rotate_left
     ·intro w' hSw
      obtain ⟨x0, x1, x2, x3⟩ := hSw
      go_simp <;> with_reducible rfl
     try simp only [Act.put, sq]
     refine wpAnyH_done (by kernel_rfl) ?_ _
     have HQ13 := hide (HQ12.out.trans (HGw13.out.mono HQ12.out.size))
     clear HGw13 HQ12 HBw12
     go_upto_region 26 with fail
     refine wp_region_held_drew (S := fun w' => (w'.cell? ⟨b, o + k * 2, none⟩ = some (.string l[k].name) ∧ w'.cell? ⟨b, o + k * 2 + 1, none⟩ = some (.slice a' l[k].args.length c') ∧ w'.cell? ⟨TB, 0, none⟩ = some (.string t.name) ∧ w'.cell? ⟨TB, 1, none⟩ = some (.slice ta t.args.length tc))) (by kernel_rfl) (by exact KK.out _ HBw13.out.drew) (fun hHeld => ?_)
     generalize hww13 : w13.drew = dw13 at *
     have HDw13 : Hid (Below w1.heap.size w1 dw13) := by unfold Hid; rw [← hww13]; exact HBw13.out.drew
     have HEw13 : Hid (Below w13.heap.size w13 dw13) := by unfold Hid; rw [← hww13]; exact (Below.refl _ _).drew
     clear hww13
     refine tkq (v := ?_) 0 rfl ?_ ?_
     rotate_left
     ·intro w' hSw
      obtain ⟨x0, x1, x2, x3⟩ := hSw
      go_simp <;> with_reducible rfl
     try simp only [Act.put, sq]
     refine tkq (v := ?_) 1 rfl ?_ ?_
     rotate_left
     ·intro w' hSw
      obtain ⟨x0, x1, x2, x3⟩ := hSw
      go_simp <;> with_reducible rfl
     try simp only [Act.put, sq]
     refine tkq (v := ?_) 2 rfl ?_ ?_
     rotate_left
     ·intro w' hSw
      obtain ⟨x0, x1, x2, x3⟩ := hSw
      go_simp <;> with_reducible rfl
     try simp only [Act.put, sq]
     refine tkq (v := ?_) 3 rfl ?_ ?_
     rotate_left
     ·intro w' hSw
      obtain ⟨x0, x1, x2, x3⟩ := hSw
      go_simp <;> with_reducible rfl
     try simp only [Act.put, sq]
     refine tkq (v := ?_) 4 rfl ?_ ?_
     rotate_left
     ·intro w' hSw
      obtain ⟨x0, x1, x2, x3⟩ := hSw
      go_simp <;> with_reducible rfl
     try simp only [Act.put, sq]
     refine tkq (v := ?_) 5 rfl ?_ ?_
     rotate_left
     ·intro w' hSw
      obtain ⟨x0, x1, x2, x3⟩ := hSw
      go_simp <;> with_reducible rfl
     try simp only [Act.put, sq]
     refine rdq 6 rfl fun K hK => ?_
     go_simp
     have HDA : Hid (Below w1.heap.size w1 (dw13.alloc (.cells #[.string t.name, .slice ta t.args.length tc, .string l[k].name, .slice a' l[k].args.length c'] 45))) := HDw13.out.alloc HDw13.out.size _
     have HEA : Hid (Below w13.heap.size w13 (dw13.alloc (.cells #[.string t.name, .slice ta t.args.length tc, .string l[k].name, .slice a' l[k].args.length c'] 45))) := HEw13.out.alloc HEw13.out.size _
     have HQV : Hid (QV (dw13.alloc (.cells #[.string t.name, .slice ta t.args.length tc, .string l[k].name, .slice a' l[k].args.length c'] 45)) (fun _ => True) (.slice (some ⟨dw13.heap.size, 0, none⟩) 1 1) [⟨t, l[k]⟩]) := qvOneI (Blk.new _ _ _) (KT.out _ HDA.out).2.2.2 (HGA.out _ HDA.out).2.2.2
     refine hK.out _ _ (by exact KK.out _ HDA.out) (fun hHeld => ?_)
     clear hK K
     try simp only [Act.put, sq]
     generalize dw13.alloc (.cells #[.string t.name, .slice ta t.args.length tc, .string l[k].name, .slice a' l[k].args.length c'] 45) = wp at *
     refine rdq 7 rfl fun K hK => ?_
     go_simp
     go_at_call 15
     refine (unify1_any H0.out HMK.out _ _ _ HQV.out).mono ?_
     rintro e w14 ⟨uv, uc, rfl, huc, hb⟩
     have HBw14 := hide (HDA.out.trans (hb.mono HDA.out.size))
     have HGw14 := hide (HEA.out.trans (hb.mono HEA.out.size))
     have HUC := hide huc
     clear hb huc HDA HEA HQV HDw13 HEw13
     refine hK.out _ _ (by exact KK.out _ HBw14.out) (fun hHeld => ?_)
     clear hK K
     try simp only [Act.put, sq]
     refine tkq (v := ?_) 8 rfl ?_ ?_
     rotate_left
     ·intro w' hSw
      obtain ⟨x0, x1, x2, x3⟩ := hSw
      go_simp <;> with_reducible rfl
     try simp only [Act.put, sq]
     refine tkq (v := ?_) 9 rfl ?_ ?_
     rotate_left
     ·intro w' hSw
      obtain ⟨x0, x1, x2, x3⟩ := hSw
      go_simp <;> with_reducible rfl
     try simp only [Act.put, sq]
     refine tkq (v := ?_) 10 rfl ?_ ?_
     rotate_left
     ·intro w' hSw
      obtain ⟨x0, x1, x2, x3⟩ := hSw
      go_simp <;> with_reducible rfl
     try simp only [Act.put, sq]
     refine tkq (v := ?_) 11 rfl ?_ ?_
     rotate_left
     ·intro w' hSw
      obtain ⟨x0, x1, x2, x3⟩ := hSw
      go_simp <;> with_reducible rfl
     try simp only [Act.put, sq]
     refine tkq (v := ?_) 12 rfl ?_ ?_
     rotate_left
     ·intro w' hSw
      obtain ⟨x0, x1, x2, x3⟩ := hSw
      go_simp <;> with_reducible rfl
     try simp only [Act.put, sq]
     refine wpAnyH_done (by kernel_rfl) ?_ _
     have HQ14 := hide (HQ13.out.trans (HGw14.out.mono HQ13.out.size))
     clear HGw14 HQ13 HBw13 KK HGA
     have I1 : Hid (mtB l[k] t = true ↔ (k : Int) ∈ (tldI 0 l t).map fun n : Nat => (n : Int)) := ((mem_tld (k := 0) H0.out hlt).trans (by simp [MetP])).symm
     have I2 : Hid (mtB t l[k] = true ↔ (k : Int) ∈ (tldI 1 l t).map fun n : Nat => (n : Int)) := ((mem_tld (k := 1) H0.out hlt).trans (by simp [MetP])).symm
     have I3 : Hid ((uc == 0) = true ↔ (k : Int) ∈ (tldI 2 l t).map fun n : Nat => (n : Int)) := by
      unfold Hid
      rw [mem_tld (k := 2) H0.out hlt, beq_iff_eq, HUC.out, un_swap HTS.out HSK.out]
      simp [MetP]
     clear HUC
     obtain ⟨m1b, hm1b⟩ : ∃ x, x = mtB l[k] t := ⟨_, rfl⟩
     obtain ⟨m2b, hm2b⟩ : ∃ x, x = mtB t l[k] := ⟨_, rfl⟩
     obtain ⟨ucb, hucb⟩ : ∃ x, x = (uc == 0) := ⟨_, rfl⟩
     rw [← hm1b] at I1
     rw [← hm2b] at I2
     rw [← hucb] at I3
     rw [← hm1b, ← hm2b]
     have huc2 := hucb.symm
     clear hm1b hm2b hucb
     have LA := hide (HA10.out.later HQ14.out)
     have LB := hide (HC10.out.later HQ14.out)
     have LC := hide (HE10.out.later HQ14.out)
     go_wp2_with (go_at_call 16; first | (refine (hasI_any _ _ m1b I1.out _ w14 _ LA.out).mono ?_; rintro e w15 ⟨rfl, hb15⟩; have HB15 := hide hb15; have LB15 := hide (LB.out.later hb15); have LC15 := hide (LC.out.later hb15); clear hb15 LA LB LC) | (refine (hasI_any _ _ m2b I2.out _ w15 _ LB15.out).mono ?_; rintro e w16 ⟨rfl, hb16⟩; have HB16 := hide hb16; have LC16 := hide (LC15.out.later hb16); clear hb16 LB15 LC15) | (refine (hasI_any _ _ ucb I3.out _ w16 _ LC16.out).mono ?_; rintro e w17 ⟨rfl, hb17⟩; have HB17 := hide hb17; clear hb17 LC16))
     go_roundw
     case rel => exact ⟨k + 1, hlt, by go_num, HQ14.out.trans ((HB15.out.trans ((HB16.out.trans (HB17.out.mono HB16.out.size)).mono HB15.out.size)).mono HQ14.out.size)⟩
     case measure => simp [intOf]; omega
    ·have hki : ¬ (k : Int) < (l.length : Int) := by omega
     go_wp2_with fail
     go_ret
     exact ⟨rfl, H1.out.trans (HB111.out.mono H1.out.size)⟩
end Go.Proofs.YtdebiiodhkcnkaaGreat
