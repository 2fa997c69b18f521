/- Walks: the law TopNames. -/
import Derived.Test.YtfbligcampbchaaDoorNm3
import Derived.Test.YtfbligcampbchaaDoorL11
import Derived.Test.YtfbligcampbchaaDoorLf1g
namespace Go.Proofs.YtfbligcampbchaaDoor
open Go.RowKit
set_option linter.unusedSimpArgs false
set_option linter.unusedVariables false
set_option maxRecDepth 8000

theorem lText_v (fr : List ByteArray) (t : Lm) (v x : Value) (w : World) (X Y : Nat → Prop) (hv : MV w X v t) (hf : LV Value.string w Y x fr) (hT : Tb w.heap.size w) :
    Calls Tryd.prog 10 #[v, x] w fun e w' => e = .returned (.tuple #[.string ⟨(txB fr t).toArray⟩, .int .i64 (txE fr t)]) ∧ Below w.heap.size w w' := by
  obtain ⟨fa, fc, rfl, h⟩ := hf
  exact lText_any fr t v fa fc w X Y hv ⟨fa, fc, rfl, h⟩ hT
theorem parse_v (s : ByteArray) (fr : List ByteArray) (t : Lm) (x : Value) (w : World) (Y : Nat → Prop) (hf : LV Value.string w Y x fr) (hT : Tb w.heap.size w) (hS : Tse w.heap.size w) (h : (lrdAll s fr).err = 0 ∧ (lrdAll s fr).t = t) :
    Calls Tryd.prog 16 #[.string s, x] w fun e w' => ∃ a c, e = .returned (.tuple #[.agg #[.int .i64 t.kind, .int .i64 t.idx, .slice a t.subs.length c], .int .i64 0]) ∧ SlM w' (fun _ => True) a t.subs ∧ Below w.heap.size w w' := by
  obtain ⟨fa, fc, rfl, hx⟩ := hf
  refine (parseL_any s fr fa fc w Y ⟨fa, fc, rfl, hx⟩ hT hS).mono ?_
  rintro e w' ⟨v, rfl, h1, _, hb⟩
  obtain ⟨a, c, rfl, hs⟩ := h1 h.1
  rw [h.1]
  rw [h.2] at hs ⊢
  exact ⟨a, c, rfl, hs.mono fun _ _ _ => trivial, hb⟩
theorem tri_lv {W : World} {F n T : Nat} (hn : n < 4) (h : Blk W F #[.string ⟨#[121]⟩, .string ⟨#[122]⟩, .string ⟨#[119]⟩] T) : LV Value.string W (fun b => b = F) (.slice (some ⟨F, 0, none⟩) n 3) (triN.take n) := by
  have hl : (triN.take n).length = n := by rw [List.length_take]; simp [triN]; omega
  refine ⟨some ⟨F, 0, none⟩, 3, by rw [hl], ⟨by omega, by omega⟩, Or.inr ⟨F, 0, rfl, rfl, fun i hi => ?_⟩⟩
  rw [hl] at hi
  have hc := h.cell i
  rw [List.getElem_take]
  have h5 : i = 0 ∨ i = 1 ∨ i = 2 := by omega
  rw [Nat.zero_add]
  rcases h5 with rfl | rfl | rfl <;> exact hc

/-- The text so far, with other names. -/
def OthI (s : ByteArray) (k : Nat) (acc : ByteArray) : Prop := acc.data.toList = (s.data.toList.take k).map (sw 113)
theorem othI_x {s acc : ByteArray} {k : Nat} (h : OthI s k acc) (hk : k < s.size) (hx : s[k].toNat = 120) : OthI s (k + 1) (acc ++ ⟨#[113]⟩) := by
  unfold OthI at *
  have hl : k < s.data.toList.length := by rw [← size_listN]; exact hk
  have e : s.data.toList[k] = s[k] := rfl
  rw [List.take_succ_eq_append_getElem hl, List.map_append, ← h, e]
  have : s[k] = 120 := by apply UInt8.toNat_inj.1; rw [hx]; rfl
  rw [this]
  simp [sw]
theorem othI_o {s acc : ByteArray} {k : Nat} (h : OthI s k acc) (hk : k < s.size) (hx : s[k].toNat ≠ 120) : OthI s (k + 1) (acc ++ s.extract k (k + 1)) := by
  unfold OthI at *
  have hl : k < s.data.toList.length := by rw [← size_listN]; exact hk
  have e : s.data.toList[k] = s[k] := rfl
  rw [List.take_succ_eq_append_getElem hl, List.map_append, ← h, e]
  have h1 : (s.extract k (k + 1)).data.toList = [s[k]] := by
    rw [ByteArray.data_extract, Array.toList_extract]
    simp only [List.extract]
    rw [Nat.add_sub_cancel_left, List.drop_eq_getElem_cons hl, e]
    simp
  have h2 : sw 113 s[k] = s[k] := by
    unfold sw
    rw [if_neg]
    intro e
    rw [e] at hx
    exact hx rfl
  rw [show (acc ++ s.extract k (k + 1)).data.toList = acc.data.toList ++ (s.extract k (k + 1)).data.toList by simp, h1]
  simp only [List.map_cons, List.map_nil, h2]
theorem othI_size {s acc : ByteArray} {k : Nat} (h : OthI s k acc) : acc.size ≤ s.size := by
  unfold OthI at h
  rw [size_listN, h, size_listN s]
  simp
  omega

set_option maxHeartbeats 4000000 in
theorem topNames_any (zs : List Int) (hr : ∀ z ∈ zs, Rng z) (y1 y2 : Int) (h1 : Rng y1) (h2 : Rng y2) (u : Value) (w : World) (X : Nat → Prop) (hu : PV w X u zs) (hT : Tb w.heap.size w) (hS : Tse w.heap.size w) :
    Calls Tryd.prog 5 #[u, .int .i64 y1, .int .i64 y2] w fun e w' => e = .returned (.bool true) ∧ Below w.heap.size w w' := by
  have HU := hide hu
  have HRG := hide hr
  have HT := hide hT
  have HSE := hide hS
  unfold Rng at h1 h2
  obtain ⟨ua, uc, rfl⟩ : ∃ ua uc, u = .slice ua zs.length uc := by
    obtain ⟨a, c, h, _⟩ := hu
    exact ⟨a, c, h⟩
  clear hu hr hT hS
  by_cases hl : 256 < zs.length
  · have hli : (256 : Int) < (zs.length : Int) := by omega
    go_enter Tryd.func5, Tryd.ntmps5
    go_wp2_with fail
    go_ret
    exact ⟨rfl, Below.refl _ _⟩
  · have hli : ¬ (256 : Int) < (zs.length : Int) := by omega
    go_enter Tryd.func5, Tryd.ntmps5
    go_wp2_with fail
    refine (pick_any y2 4 (by omega) (by omega) h2 _).mono ?_
    rintro e w1 ⟨n, rfl, hn, rfl⟩
    go_wp2_with fail
    refine (pick_any y1 40 (by omega) (by omega) h1 _).mono ?_
    rintro e w2 ⟨m1, rfl, hm1, rfl⟩
    have CL := lamOfRawG_any 3 0 (by omega) (by omega) (by omega) zs _ HRG.out (by omega) m1 n (by omega) (by omega) w2 X HU.out
    have e4 : ((3 : Nat) : Int) = 3 := rfl
    have e5 : ((0 : Nat) : Int) = 0 := rfl
    rw [e4, e5] at CL
    have HCL := hide CL
    clear CL e4 e5
    go_wp2_with fail
    refine HCL.out.mono ?_
    rintro e w3 ⟨t, a, c, rfl, hs, hb, he, hsz⟩
    have HE := hide he
    have hq : tpQ m1 ≤ 200 := by unfold tpQ; split <;> omega
    have HZ : Hid (sizeM [t] ≤ 200) := by unfold Hid; omega
    have HS := hide hs
    have HB := hide hb
    clear hs hb he hq hsz
    have B4 : Hid (Below w3.heap.size w3 ((w3.alloc (.cells #[.int .i64 t.kind, .int .i64 t.idx, .slice a t.subs.length c] 24)).alloc (.cells #[.string ⟨#[121]⟩, .string ⟨#[122]⟩, .string ⟨#[119]⟩] 9))) := ((Below.refl _ _).alloc (Nat.le_refl _) _).alloc (by simp) _
    have K1 : Hid (Blk ((w3.alloc (.cells #[.int .i64 t.kind, .int .i64 t.idx, .slice a t.subs.length c] 24)).alloc (.cells #[.string ⟨#[121]⟩, .string ⟨#[122]⟩, .string ⟨#[119]⟩] 9)) w3.heap.size #[.int .i64 t.kind, .int .i64 t.idx, .slice a t.subs.length c] 24) := (Blk.new w3 _ _).alloc _
    have K2 : Hid (Blk ((w3.alloc (.cells #[.int .i64 t.kind, .int .i64 t.idx, .slice a t.subs.length c] 24)).alloc (.cells #[.string ⟨#[121]⟩, .string ⟨#[122]⟩, .string ⟨#[119]⟩] 9)) (w3.heap.size + 1) #[.string ⟨#[121]⟩, .string ⟨#[122]⟩, .string ⟨#[119]⟩] 9) := by
      have h := Blk.new (w3.alloc (.cells #[.int .i64 t.kind, .int .i64 t.idx, .slice a t.subs.length c] 24)) #[.string ⟨#[121]⟩, .string ⟨#[122]⟩, .string ⟨#[119]⟩] 9
      have hz : (w3.alloc (.cells #[.int .i64 t.kind, .int .i64 t.idx, .slice a t.subs.length c] 24)).heap.size = w3.heap.size + 1 := by simp
      rw [hz] at h
      exact h
    have HB4 := hide (HB.out.trans (B4.out.mono HB.out.size))
    have HS4 := hide (HS.out.later B4.out)
    have hn4 : (n : Int) < 4 := by omega
    have k0 : ∀ W, Blk W w3.heap.size #[.int .i64 t.kind, .int .i64 t.idx, .slice a t.subs.length c] 24 → W.cell? ⟨w3.heap.size, 0, none⟩ = some (.int .i64 t.kind) ∧ W.cell? ⟨w3.heap.size, 1, none⟩ = some (.int .i64 t.idx) ∧ W.cell? ⟨w3.heap.size, 2, none⟩ = some (.slice a t.subs.length c) := fun W h => ⟨h.cell 0, h.cell 1, h.cell 2⟩
    have KF := hide k0
    clear k0
    obtain ⟨c0, c1, c2⟩ := KF.out _ K1.out
    have hz4 : w3.heap.size + 2 ≤ ((w3.alloc (.cells #[.int .i64 t.kind, .int .i64 t.idx, .slice a t.subs.length c] 24)).alloc (.cells #[.string ⟨#[121]⟩, .string ⟨#[122]⟩, .string ⟨#[119]⟩] 9)).heap.size := by simp
    go_wp2_with fail
    generalize ((w3.alloc (.cells #[.int .i64 t.kind, .int .i64 t.idx, .slice a t.subs.length c] 24)).alloc (.cells #[.string ⟨#[121]⟩, .string ⟨#[122]⟩, .string ⟨#[119]⟩] 9)) = w4 at *
    refine (lText_v (triN.take n) t _ _ _ _ _ ⟨a, c, rfl, by exact HS4.out⟩ (by exact tri_lv (by omega) K2.out) (HT.out.raise HB4.out HB4.out.size)).mono ?_
    rintro e w5 ⟨rfl, hb5⟩
    obtain ⟨g1, g2⟩ := write_ok n (by omega) t HE.out HZ.out
    rw [g1, g2]
    clear g1 g2
    have HB5 := hide (HB4.out.trans (hb5.mono HB4.out.size))
    have HS5 := hide (HS4.out.later hb5)
    have K15 := hide (K1.out.below hb5 K1.out.lt)
    have K25 := hide (K2.out.below hb5 K2.out.lt)
    have hz5 := hb5.size
    have HL : Hid ((⟨(ltx (triN.take n) 0 t).toArray⟩ : ByteArray).data.toList = ltx (triN.take n) 0 t) := rfl
    have HLS : Hid ((⟨(ltx (triN.take n) 0 t).toArray⟩ : ByteArray).size ≤ 4000) := by
      have hlen : (triN.take n).length = n := by rw [List.length_take]; simp [triN]; omega
      have := ltx_short (tri_short n) t 0 (by rw [hlen]; simpa using HE.out) (by have := HZ.out; omega)
      unfold Hid
      rw [size_listN, HL.out]
      have := HZ.out
      omega
    clear hb5 c0 c1 c2
    generalize (⟨(ltx (triN.take n) 0 t).toArray⟩ : ByteArray) = s at *
    go_wp2_with fail
    refine (parse_v s (triN.take n) t _ _ _ (by exact tri_lv (by omega) K25.out) (HT.out.raise HB5.out HB5.out.size) (HSE.out.raise HB5.out HB5.out.size) (read_back n (by omega) (Or.inl rfl) s t HE.out HZ.out (by rw [HL.out, sw_id]))).mono ?_
    rintro e w6 ⟨au, cu, rfl, hs6, hb6⟩
    have HB6 := hide (HB5.out.trans (hb6.mono HB5.out.size))
    have HS6 := hide (HS5.out.later hb6)
    have K16 := hide (K15.out.below hb6 K15.out.lt)
    have K26 := hide (K25.out.below hb6 K25.out.lt)
    have HU6 := hide hs6
    have hz6 := hb6.size
    clear hb6 hs6
    have B7 : Hid (Below w6.heap.size w6 (w6.alloc (.cells #[.int .i64 t.kind, .int .i64 t.idx, .slice au t.subs.length cu] 24))) := (Below.refl _ _).alloc (Nat.le_refl _) _
    have K17 : Hid (Blk (w6.alloc (.cells #[.int .i64 t.kind, .int .i64 t.idx, .slice au t.subs.length cu] 24)) w3.heap.size #[.int .i64 t.kind, .int .i64 t.idx, .slice a t.subs.length c] 24) := K16.out.alloc _
    have K27 : Hid (Blk (w6.alloc (.cells #[.int .i64 t.kind, .int .i64 t.idx, .slice au t.subs.length cu] 24)) (w3.heap.size + 1) #[.string ⟨#[121]⟩, .string ⟨#[122]⟩, .string ⟨#[119]⟩] 9) := K26.out.alloc _
    have KU7 : Hid (Blk (w6.alloc (.cells #[.int .i64 t.kind, .int .i64 t.idx, .slice au t.subs.length cu] 24)) w6.heap.size #[.int .i64 t.kind, .int .i64 t.idx, .slice au t.subs.length cu] 24) := Blk.new w6 _ _
    have HB7 := hide (HB6.out.trans (B7.out.mono HB6.out.size))
    have HS7 := hide (HS6.out.later B7.out)
    have HU7 := hide (HU6.out.later B7.out)
    have u0 : ∀ W, Blk W w6.heap.size #[.int .i64 t.kind, .int .i64 t.idx, .slice au t.subs.length cu] 24 → W.cell? ⟨w6.heap.size, 0, none⟩ = some (.int .i64 t.kind) ∧ W.cell? ⟨w6.heap.size, 1, none⟩ = some (.int .i64 t.idx) ∧ W.cell? ⟨w6.heap.size, 2, none⟩ = some (.slice au t.subs.length cu) := fun W h => ⟨h.cell 0, h.cell 1, h.cell 2⟩
    have UF := hide u0
    clear u0
    obtain ⟨c0, c1, c2⟩ := KF.out _ K17.out
    obtain ⟨d0, d1, d2⟩ := UF.out _ KU7.out
    clear B7 HB6 HS6 HU6 K16 K26
    go_wp2_with fail
    generalize (w6.alloc (.cells #[.int .i64 t.kind, .int .i64 t.idx, .slice au t.subs.length cu] 24)) = w7 at *
    refine (sameM_any t _ _ _ _ _ ⟨a, c, rfl, by exact HS7.out⟩ ⟨au, cu, rfl, by exact HU7.out⟩).mono ?_
    rintro e w8 ⟨rfl, hb8⟩
    have HB8 := hide (HB7.out.trans (hb8.mono HB7.out.size))
    have HS8 := hide (HS7.out.later hb8)
    have K18 := hide (K17.out.below hb8 K17.out.lt)
    have K28 := hide (K27.out.below hb8 K27.out.lt)
    clear hb8 c0 c1 c2 d0 d1 d2 HB7 HS7 HU7 K17 K27 KU7 UF
    go_wp2_with fail
    go_loopw [14, 15] (fun q i wr => ∃ (k : Nat) (acc : ByteArray), k ≤ s.size ∧ i = .int .i64 k ∧ q = .string acc ∧ OthI s k acc ∧ wr = w8) (fun q i wr => s.size - (intOf i).toNat)
    case atStart => exact ⟨0, ⟨#[]⟩, Nat.zero_le _, rfl, rfl, rfl, rfl⟩
    case round =>
      obtain ⟨k, acc, hk, rfl, rfl, hacc, rfl⟩ := hrel
      have HA := hide hacc
      have hsz : acc.size ≤ 4000 := Nat.le_trans (othI_size hacc) HLS.out
      have hss : s.size ≤ 4000 := HLS.out
      clear hacc
      by_cases hlt : k < s.size
      · by_cases hx : s[k].toNat = 120
        · have HX := hide (othI_x HA.out hlt hx)
          have hx1 : (((s[k].toNat : Nat) : Int) == 120) = true := by rw [hx]; rfl
          clear hx
          go_wp2_with fail
          go_roundw
          case rel => exact ⟨k + 1, _, by omega, by go_num, rfl, HX.out, trivial⟩
          case measure => simp [intOf]; omega
        · have HX := hide (othI_o HA.out hlt hx)
          have hx1 : (((s[k].toNat : Nat) : Int) == 120) = false := by simp; omega
          clear hx
          go_wp2_with fail
          go_roundw
          case rel => exact ⟨k + 1, _, by omega, by go_num, rfl, HX.out, trivial⟩
          case measure => simp [intOf]; omega
      · have hke : k = s.size := by omega
        have HO : Hid (acc.data.toList = (ltx (triN.take n) 0 t).map (sw 113)) := by
          have := HA.out
          unfold OthI at this
          unfold Hid
          rw [this, hke, size_listN, List.take_length, HL.out]
        clear hke
        go_wp2_with fail
        refine (parse_v acc (triN.take n) t _ _ _ (by exact tri_lv (by omega) K28.out) (HT.out.raise HB8.out HB8.out.size) (HSE.out.raise HB8.out HB8.out.size) (read_back n (by omega) (Or.inr rfl) acc t HE.out HZ.out HO.out)).mono ?_
        rintro e w9 ⟨av, cv, rfl, hs9, hb9⟩
        have HB9 := hide (HB8.out.trans (hb9.mono HB8.out.size))
        have HS9 := hide (HS8.out.later hb9)
        have K19 := hide (K18.out.below hb9 K18.out.lt)
        have HV9 := hide hs9
        clear hb9 hs9
        have B10 : Hid (Below w9.heap.size w9 (w9.alloc (.cells #[.int .i64 t.kind, .int .i64 t.idx, .slice av t.subs.length cv] 24))) := (Below.refl _ _).alloc (Nat.le_refl _) _
        have K10 : Hid (Blk (w9.alloc (.cells #[.int .i64 t.kind, .int .i64 t.idx, .slice av t.subs.length cv] 24)) w3.heap.size #[.int .i64 t.kind, .int .i64 t.idx, .slice a t.subs.length c] 24) := K19.out.alloc _
        have KV10 : Hid (Blk (w9.alloc (.cells #[.int .i64 t.kind, .int .i64 t.idx, .slice av t.subs.length cv] 24)) w9.heap.size #[.int .i64 t.kind, .int .i64 t.idx, .slice av t.subs.length cv] 24) := Blk.new w9 _ _
        have HB10 := hide (HB9.out.trans (B10.out.mono HB9.out.size))
        have HS10 := hide (HS9.out.later B10.out)
        have HV10 := hide (HV9.out.later B10.out)
        obtain ⟨c0, c1, c2⟩ := KF.out _ K10.out
        have d0 := KV10.out.cell 0
        have d1 := KV10.out.cell 1
        have d2 := KV10.out.cell 2
        simp only [List.getElem?_toArray, List.getElem?_cons_succ, List.getElem?_cons_zero] at d0 d1 d2
        go_wp2_with fail
        generalize (w9.alloc (.cells #[.int .i64 t.kind, .int .i64 t.idx, .slice av t.subs.length cv] 24)) = w10 at *
        refine (sameM_any t _ _ _ _ _ ⟨a, c, rfl, by exact HS10.out⟩ ⟨av, cv, rfl, by exact HV10.out⟩).mono ?_
        rintro e w11 ⟨rfl, hb11⟩
        have HB11 := hide (HB10.out.trans (hb11.mono HB10.out.size))
        clear hb11
        go_wp2_with fail
        go_ret
        exact ⟨rfl, HB11.out⟩
end Go.Proofs.YtfbligcampbchaaDoor
