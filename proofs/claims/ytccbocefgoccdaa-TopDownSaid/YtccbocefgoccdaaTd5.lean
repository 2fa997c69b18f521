/- Walks: the law TopDown. -/
import Derived.Test.YtccbocefgoccdaaZCTopDownOwn
import Derived.Test.YtccbocefgoccdaaTd3
import Derived.Test.YtccbocefgoccdaaTd4
import Derived.Test.YtccbocefgoccdaaW150
import Derived.Test.YtccbocefgoccdaaW30a
import Derived.Test.YtccbocefgoccdaaW187
import Derived.Test.YtccbocefgoccdaaW176
import Derived.Test.YtccbocefgoccdaaTd0
import Derived.Deep.RegionHeld3
namespace Go.Proofs.Ytccbocefgoccdaa
open Go.RowKit
set_option linter.unusedSimpArgs false
set_option linter.unusedVariables false
set_option maxRecDepth 8000

/-- What stays. -/
structure TdS (rs : List Pr) (t : Tm) (vq : Value) (aa : Option Addr) (ca P : Nat) (w w' : World) : Prop where
  qv : QV w' (fun _ => True) vq rs
  pb : Blk w' P #[.string t.name, .slice aa t.args.length ca] 27
  sl : Sl w' (fun _ => True) aa t.args
  bl : Below w.heap.size w w'
theorem TdS.later {rs : List Pr} {t : Tm} {vq : Value} {aa : Option Addr} {ca P : Nat} {w w1 w2 : World} (h : TdS rs t vq aa ca P w w1) (hb : Below w1.heap.size w1 w2) : TdS rs t vq aa ca P w w2 :=
  ⟨(h.qv.later hb).mono fun _ _ _ => trivial, h.pb.below hb h.pb.lt, (h.sl.later hb).mono fun _ _ _ => trivial, h.bl.trans (hb.mono h.bl.size)⟩
theorem slT {w : World} {X : Nat → Prop} {a : Option Addr} {l : List Tm} (h : Sl w X a l) : Sl w (fun _ => True) a l := h.mono fun _ _ _ => trivial
theorem may_ofD {t : Tm} (he : errL [t] = 0) (hz : sizeL [t] ≤ 200) : mayE t = 0 := by unfold mayE; rw [if_neg (by omega)]; exact he
theorem stp_zero {rs : List Pr} {t : Tm} (hr : rulesE rs = 0) (ht : mayE t = 0) (h : ∀ y ∈ stAll rs t, sizeL [y] ≤ 2000) : StpE rs t = 0 := by
  unfold StpE
  rw [if_pos hr, if_pos ht, if_neg]
  rintro ⟨y, hy, hz⟩
  have := h y hy
  omega
/-- Steps that are told, in memory. -/
theorem stp_ok {rs : List Pr} {t : Tm} {w w' : World} {e : Ending} (h : StpPost rs t w e w') (h0 : StpE rs t = 0) : Below w.heap.size w w' ∧ ∃ a c, e = .returned (.tuple #[.slice a (stAll rs t).length c, .int .i64 0]) ∧ Sl w' (fun _ => True) a (stAll rs t) := by
  obtain ⟨hb, ⟨_, v, xs, rfl, h1, h2⟩ | ⟨h1, _⟩⟩ := h
  · obtain ⟨a, c, rfl, hs⟩ := sl_of_row h1 h2
    exact ⟨hb, a, c, rfl, hs⟩
  · exact absurd h0 h1

theorem ordE_ofD {row : List ByteArray} {a b : Tm} (hr : rowE row = 0) (ha : mayE a = 0) (hb : mayE b = 0) : ordE row a b = 0 := by
  unfold ordE twoE
  rw [if_pos hr, if_pos ha]
  exact hb
theorem known_err : errL [apTD ⟨⟨#[97]⟩, []⟩ ⟨⟨#[97]⟩, []⟩] = 0 := by
  have h1 : nameB ⟨#[97]⟩ = true ∧ varB ⟨#[97]⟩ = false := by decide
  have h2 : nameB ⟨#[97, 112]⟩ = true ∧ varB ⟨#[97, 112]⟩ = false := by decide
  simp [apTD, errL, h1, h2]
def TlInv (n : Nat) (w : World) (v : Value) (wr : World) : Prop := ∃ k : Nat, v = .int .i64 (k : Int) ∧ k ≤ n ∧ Below w.heap.size w wr
set_option maxHeartbeats 20000000 in
theorem topDown_any (zs : List Int) (hr : ∀ z ∈ zs, Rng z) (y1 y2 y3 : Int) (hy1 : Rng y1) (hy2 : Rng y2) (hy3 : Rng y3) (u : Value) (w : World) (X : Nat → Prop) (hu : PV w X u zs) :
    Calls Try.prog 3 #[u, .int .i64 y1, .int .i64 y2, .int .i64 y3] w fun e w' => e = .returned (.bool true) ∧ Below w.heap.size w w' := by
  have HU := hide hu
  obtain ⟨au, cu, rfl, hlc, hu2⟩ := hu
  clear hu2
  by_cases h256 : 256 < zs.length
  · go_enter Try.func3, Try.ntmps3
    go_wp2_with fail
    go_ret
    exact ⟨rfl, Below.refl _ _⟩
  go_enter Try.func3, Try.ntmps3
  go_wp2_with fail
  refine (rulesFrom_any y1 hy1 _).mono ?_
  rintro e w1 ⟨l, vq, rfl, hl, hqv, hb1⟩
  have HRU := hide (ten_rules l hl).1
  have HRS := hide (ten_rules l hl).2
  generalize rsOf l = rs at *
  have HQ := hide hqv
  have HB1 := hide hb1
  clear hl hqv hb1
  go_wp2_with fail
  refine (pick_any _ 9 (by decide) (by decide) hy3 _).mono ?_
  rintro e w2 ⟨k1, rfl, hk1, hw2⟩
  rw [hw2]
  clear hw2 w2
  go_wp2_with fail
  obtain ⟨n, hn⟩ : ∃ n : Nat, (2 : Int) + (k1 : Int) = (n : Int) := ⟨2 + k1, by simp⟩
  rw [hn]
  have hn9 : n ≤ 10 := by omega
  have HN := hide hn9
  have HTOP : Hid (top n ≤ 19) := by unfold Hid top; split <;> omega
  clear hn hk1 hn9
  refine (termOf_any 2 (by decide) (by decide) zs hr (by omega) n 0 _ _ X (by exact HU.out.later HB1.out) (by have := HN.out; omega) (by have := HTOP.out; omega)).mono ?_
  rintro e w2 ⟨t, aa, ca, rfl, hs2, hz2, hb2, he2⟩
  have HEt := hide he2
  have HZt : Hid (sizeL [t] ≤ 19) := Nat.le_trans hz2 HTOP.out
  have hbA : Below w2.heap.size w2 (w2.alloc (.cells #[.string t.name, .slice aa t.args.length ca] 27)) := (Below.refl _ _).alloc (Nat.le_refl _) _
  have T0 : Hid (TdS rs t vq aa ca w2.heap.size w (w2.alloc (.cells #[.string t.name, .slice aa t.args.length ca] 27))) := ⟨((HQ.out.later hb2).later hbA).mono fun _ _ _ => trivial, Blk.new _ _ _, slT (hs2.later hbA), (HB1.out.trans (hb2.mono HB1.out.size)).trans (hbA.mono (Nat.le_trans HB1.out.size hb2.size))⟩
  clear he2 hz2 hs2 hb2 hbA HTOP HN HQ HB1
  have t0 := T0.out.pb.cell 0
  have t1 := T0.out.pb.cell 1
  simp only [List.getElem?_toArray, List.getElem?_cons_zero, List.getElem?_cons_succ] at t0 t1
  go_wp2_with fail
  clear t0 t1
  generalize (w2.alloc (.cells #[.string t.name, .slice aa t.args.length ca] 27)) = w3 at *
  generalize w2.heap.size = P at *
  have HMt : Hid (mayE t = 0) := may_ofD HEt.out (by have := HZt.out; omega)
  have HST := hide (fun y (hy : y ∈ stAll rs t) => step_facts (rulesE_all HRU.out) HEt.out hy)
  have HSZ : Hid (∀ y ∈ stAll rs t, sizeL [y] ≤ 152) := fun y hy => by
    have h1 := (HST.out y hy).2.2 7 HRS.out
    have h2 := HZt.out
    omega
  have HSE : Hid (StpE rs t = 0) := stp_zero HRU.out HMt.out fun y hy => by have := HSZ.out y hy; omega
  refine (steps_any rs t vq aa ca w3 _ T0.out.qv T0.out.sl).mono ?_
  intro e w4 hp
  obtain ⟨hb4, al, cl, rfl, hsl⟩ := stp_ok hp HSE.out
  have T4 := hide (T0.out.later hb4)
  have L4 := hide hsl
  have hLl := hsl.1
  clear hp hb4 hsl T0
  go_wp2_with fail
  refine (leaf_any _ w4).mono ?_
  rintro e w5 ⟨rfl, hb5⟩
  have T5 := hide (T4.out.later hb5)
  have L5 := hide (slT (L4.out.later hb5))
  clear hb5 T4 L4
  go_wp2_with fail
  refine (leaf_any _ w5).mono ?_
  rintro e w6 ⟨rfl, hb6⟩
  have T6 := hide (T5.out.later hb6)
  have L6 := hide (slT (L5.out.later hb6))
  clear hb6 T5 L5
  go_wp2_with fail
  have lfN : ∀ (s : ByteArray) (w : World), TV w (fun _ => True) (.agg #[.string s, .slice none 0 0]) ⟨s, []⟩ := fun s w => ⟨none, 0, rfl, by simp, Or.inl rfl⟩
  have LF := hide lfN
  clear lfN
  refine (put2D_any ⟨⟨#[97]⟩, []⟩ ⟨⟨#[97]⟩, []⟩ _ _ w6 _ (LF.out _ _) (LF.out _ _)).mono ?_
  rintro e w7 ⟨v7, rfl, ⟨a7, c7, rfl, hs7⟩, hb7⟩
  have T7 := hide (T6.out.later hb7)
  have L7 := hide (slT (L6.out.later hb7))
  have S7 := hide (slT hs7)
  clear hb7 hs7 T6 L6
  go_wp2_with fail
  refine (leaf_any _ w7).mono ?_
  rintro e w8 ⟨rfl, hb8⟩
  have T8 := hide (T7.out.later hb8)
  have L8 := hide (slT (L7.out.later hb8))
  have S8 := hide (slT (S7.out.later hb8))
  clear hb8 T7 L7 S7
  go_wp2_with fail
  have HPE : Hid (ordE [] (apTD ⟨⟨#[97]⟩, []⟩ ⟨⟨#[97]⟩, []⟩) ⟨⟨#[97]⟩, []⟩ = 0) := ordE_ofD (rowE_of (by simp) (by simp) (by simp)) (may_ofD known_err (by simp [apTD, sizeL])) (may_ofD (err_leaf (by decide)) (by simp [sizeL]))
  have HPP : Hid (pathB [] (apTD ⟨⟨#[97]⟩, []⟩ ⟨⟨#[97]⟩, []⟩) ⟨⟨#[97]⟩, []⟩ = true) := path_sub (show varB ⟨#[97, 112]⟩ = false by decide) (by simp [apTD])
  refine (oPath_any [] (apTD ⟨⟨#[97]⟩, []⟩ ⟨⟨#[97]⟩, []⟩) ⟨⟨#[97]⟩, []⟩ _ _ _ w8 (fun _ => True) ⟨none, 0, rfl, by simp, Or.inl rfl⟩ ⟨a7, c7, rfl, S8.out⟩ (LF.out _ _)).mono ?_
  rintro e w9 ⟨rfl, hb9⟩
  rw [HPE.out, HPP.out]
  have T9 := hide (T8.out.later hb9)
  have L9 := hide (slT (L8.out.later hb9))
  clear hb9 T8 L8 S8 HPE HPP
  go_wp2_with fail
  refine (rowFromN_any y2 hy2 _).mono ?_
  rintro e w10 ⟨row, vr, rfl, hrow, hlv, hb10, hrn⟩
  have HRO : Hid (rowE row = 0) := (rowsSix_ok row hrow).1
  have T10 := hide (T9.out.later hb10)
  have L10 := hide (slT (L9.out.later hb10))
  have HLV := hide hlv
  have HRN := hide hrn
  clear hrow hlv hb10 hrn T9 L9
  go_wp2_with fail
  refine (falls_any row rs vr vq w10 (fun _ => True) (HLV.out.mono fun _ _ _ => trivial) T10.out.qv).mono ?_
  rintro e w11 ⟨rfl, hb11⟩
  have T11 := hide (T10.out.later hb11)
  have L11 := hide (slT (L10.out.later hb11))
  clear hb11 T10 L10 HLV
  cases hf : fallB row rs with
  | false =>
    go_wp2_with fail
    go_ret
    exact ⟨rfl, T11.out.bl⟩
  | true =>
  have HPA : Hid (∀ p ∈ rs, pathB row p.l p.r = true) := fun p hp => by
    have h := List.all_eq_true.1 hf p hp
    rw [Bool.and_eq_true] at h
    exact h.2
  have HPT : Hid (∀ y ∈ stAll rs t, pathB row t y = true ∧ mayE y = 0) := fun y hy => ⟨(HST.out y hy).2.1 row HPA.out, may_ofD (HST.out y hy).1 (by have := HSZ.out y hy; omega)⟩
  clear hf HPA
  go_wp2_with fail
  go_loopw [15] (fun v wr => TlInv (stAll rs t).length w11 v wr) (fun v wr => (stAll rs t).length - (intOf v).toNat)
  case atStart => exact ⟨0, rfl, Nat.zero_le _, Below.refl _ _⟩
  case round =>
    obtain ⟨k, rfl, hk, hb⟩ := hrel
    have HB := hide hb
    have TR := hide (T11.out.later hb)
    have LR := hide (slT (L11.out.later hb))
    clear hb
    by_cases hlt : k < (stAll rs t).length
    · obtain ⟨b, o, ay, cy, rfl, d0, d1, hsy⟩ := LR.out.get (Below.refl _ _) (fun _ _ h => h) k hlt
      have hlt2 : (k : Int) < ((stAll rs t).length : Int) := by omega
      obtain ⟨HYP, HYM⟩ := HPT.out _ (List.getElem_mem hlt)
      have HYP := hide HYP
      have HYM := hide HYM
      have HSY := hide hsy
      clear hsy
      generalize (stAll rs t)[k] = y at *
      have p0 : wr.cell? ⟨P, 0, none⟩ = some (.string t.name) := TR.out.pb.cell 0
      have p1 : wr.cell? ⟨P, 1, none⟩ = some (.slice aa t.args.length ca) := TR.out.pb.cell 1
      have hplt := TR.out.pb.lt
      have HCC : Hid (∀ w', Below wr.heap.size wr w' → w'.cell? ⟨P, 0, none⟩ = some (.string t.name) ∧ w'.cell? ⟨P, 1, none⟩ = some (.slice aa t.args.length ca) ∧ w'.cell? ⟨b, o + k * 2, none⟩ = some (.string y.name) ∧ w'.cell? ⟨b, o + k * 2 + 1, none⟩ = some (.slice ay y.args.length cy)) := fun w' hb => ⟨cell_later hb p0, cell_later hb p1, cell_later hb d0, cell_later hb d1⟩
      have HS0 := hide (HCC.out wr (Below.refl _ _))
      have T1 : Hid (∀ w', Below wr.heap.size wr w' → Calls Try.prog 12 #[.int .i64 y2] w' fun e w'' => ∃ v, e = .returned v ∧ LV Value.string w'' (fun _ => True) v row ∧ Below wr.heap.size wr w'') := fun w' hb => by
        refine (rowFromN_any y2 hy2 w').mono ?_
        rintro e w'' ⟨row2, v2, rfl, _, hlv, hb2, hrn⟩
        rw [← HRN.out] at hrn
        subst hrn
        exact ⟨v2, rfl, hlv.mono fun _ _ _ => trivial, hb.trans (hb2.mono hb.size)⟩
      have T2 : Hid (∀ w' v, Below wr.heap.size wr w' → LV Value.string w' (fun _ => True) v row → Calls Try.prog 8 #[v, .agg #[.string t.name, .slice aa t.args.length ca], .agg #[.string y.name, .slice ay y.args.length cy]] w' fun e w'' => e = .returned (.tuple #[.bool true, .int .i64 0]) ∧ Below wr.heap.size wr w'') := fun w' v hb hlv => by
        refine (oPath_any row t y _ _ _ w' _ hlv ⟨_, _, rfl, slT (TR.out.sl.later hb)⟩ ((HSY.out.later hb).mono fun _ _ _ => trivial)).mono ?_
        rintro e w'' ⟨rfl, hb2⟩
        rw [ordE_ofD HRO.out HMt.out HYM.out, HYP.out]
        exact ⟨rfl, hb.trans (hb2.mono hb.size)⟩
      go_wp2_with fail
      go_region_held3 (fun w' => w'.cell? ⟨P, 0, none⟩ = some (.string t.name) ∧ w'.cell? ⟨P, 1, none⟩ = some (.slice aa t.args.length ca) ∧ w'.cell? ⟨b, o + k * 2, none⟩ = some (.string y.name) ∧ w'.cell? ⟨b, o + k * 2 + 1, none⟩ = some (.slice ay y.args.length cy)) (first | exact HS0.out | exact HCC.out _ hb6 | exact HCC.out _ hb5 | go_keep)
        (first
          | (go_at_call 12; refine (T1.out _ (by first | exact Below.refl _ _ | exact (Below.refl _ _).drew | exact below_drewN (Below.refl _ _) _)).mono ?_; rintro e w5 ⟨v5, rfl, hlv5, hb5⟩)
          | (go_at_call 8; refine (T2.out _ _ (by first | exact hb5 | exact hb5.drew) (by exact hlv5)).mono ?_; rintro e w6 ⟨rfl, hb6⟩))
      clear HS0 d0 d1 p0 p1 hlv5 hb5
      have HB6 := hide hb6
      clear hb6
      go_wp2_with fail
      go_roundw
      case rel => exact ⟨k + 1, by go_num, by omega, HB.out.trans (HB6.out.mono HB.out.size)⟩
      case measure => simp [intOf]; omega
    · have hlt2 : ¬ (k : Int) < ((stAll rs t).length : Int) := by omega
      have p0 : wr.cell? ⟨P, 0, none⟩ = some (.string t.name) := TR.out.pb.cell 0
      have p1 : wr.cell? ⟨P, 1, none⟩ = some (.slice aa t.args.length ca) := TR.out.pb.cell 1
      go_wp2_with fail
      refine (rInner_any rs t 400 vq aa ca wr (fun _ => True) TR.out.qv TR.out.sl).mono ?_
      rintro e w12 ⟨hb12, x, ax, cx, m, er, rfl, he12, hsx⟩
      have HWE : workE rs [t] 400 = 0 := by unfold workE allE; rw [if_pos (by rw [if_pos HRU.out, firstE_one]; exact HMt.out), if_neg (by omega)]
      have hE : endP rs true 400 t = (er, x, m) := by rw [← he12]; unfold rEnd; rw [if_pos HWE]; rfl
      have HEND := hide hE
      have hbx : Below w12.heap.size w12 (w12.alloc (.cells #[.string x.name, .slice ax x.args.length cx] 27)) := (Below.refl _ _).alloc (Nat.le_refl _) _
      have T12 : Hid (TdS rs t vq aa ca P w (w12.alloc (.cells #[.string x.name, .slice ax x.args.length cx] 27))) := (TR.out.later hb12).later hbx
      have SX : Hid (Sl (w12.alloc (.cells #[.string x.name, .slice ax x.args.length cx] 27)) (fun _ => True) ax x.args) := slT (hsx.later hbx)
      have KX : Hid (Blk (w12.alloc (.cells #[.string x.name, .slice ax x.args.length cx] 27)) w12.heap.size #[.string x.name, .slice ax x.args.length cx] 27) := Blk.new _ _ _
      clear hb12 he12 hsx HWE hE hbx p0 p1 TR LR HB
      have x0 := KX.out.cell 0
      have x1 := KX.out.cell 1
      simp only [List.getElem?_toArray, List.getElem?_cons_zero, List.getElem?_cons_succ] at x0 x1
      by_cases h0 : er = 0
      · subst h0
        have HXF := hide (end_facts (rulesE_all HRU.out) 400 t x m HEt.out HEND.out)
        go_wp2_with fail
        clear x0 x1
        generalize (w12.alloc (.cells #[.string x.name, .slice ax x.args.length cx] 27)) = w13 at *
        generalize w12.heap.size = Q at *
        refine (size_any x _ 200 w13 _ ⟨ax, cx, rfl, SX.out⟩ (by decide) (by decide)).mono ?_
        rintro e w14 ⟨rfl, hb14⟩
        have T14 := hide (T12.out.later hb14)
        have SX14 := hide (slT (SX.out.later hb14))
        have KX14 := hide (KX.out.below hb14 KX.out.lt)
        clear hb14 T12 SX KX
        by_cases z1 : 200 < min (sizeL [x] : Int) (200 + 1)
        · generalize min (sizeL [x] : Int) (200 + 1) = j1 at *
          go_wp2_with fail
          go_ret
          exact ⟨rfl, T14.out.bl⟩
        · have HMx : Hid (mayE x = 0) := may_ofD HXF.out.1 (by omega)
          have HNX : Hid (stAll rs x = []) := stAll_nil.2 HXF.out.2.1
          have HSX : Hid (StpE rs x = 0) := stp_zero HRU.out HMx.out (by rw [HNX.out]; simp)
          generalize min (sizeL [x] : Int) (200 + 1) = j1 at *
          have x0 : w14.cell? ⟨Q, 0, none⟩ = some (.string x.name) := KX14.out.cell 0
          have x1 : w14.cell? ⟨Q, 1, none⟩ = some (.slice ax x.args.length cx) := KX14.out.cell 1
          go_wp2_with fail
          refine (steps_any rs x vq ax cx w14 _ T14.out.qv SX14.out).mono ?_
          intro e w15 hp
          obtain ⟨hb15, am, cm, rfl, hsm⟩ := stp_ok hp HSX.out
          rw [HNX.out]
          have T15 := hide (T14.out.later hb15)
          clear hp hb15 hsm x0 x1 T14
          have HIF : m = 0 ↔ (stAll rs t).length = 0 := by rw [HXF.out.2.2, ← stAll_nil, List.length_eq_zero_iff]
          have HIF := hide HIF
          clear hlt hlt2 hk hLl
          go_wp2_with fail
          go_ret
          exact ⟨by have h := HIF.out; simp; omega, T15.out.bl⟩
      · have HF9 : er = 9 ∨ er = 8 := by
          rcases endP_form rs true 400 t with h | h | h
          · rw [HEND.out] at h; exact absurd h h0
          · rw [HEND.out] at h; cases h; exact Or.inl rfl
          · rw [HEND.out] at h; cases h; exact Or.inr rfl
        rcases HF9 with rfl | rfl
        · go_wp2_with fail
          go_ret
          exact ⟨rfl, T12.out.bl⟩
        · go_wp2_with fail
          go_ret
          exact ⟨rfl, T12.out.bl⟩
#print axioms topDown_any
end Go.Proofs.Ytccbocefgoccdaa
