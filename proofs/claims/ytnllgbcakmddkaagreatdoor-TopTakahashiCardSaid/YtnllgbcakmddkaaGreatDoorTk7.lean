/- Walks: the law TopTakahashi. -/
import Derived.Test.YtnllgbcakmddkaaGreatDoorTk6
import Derived.Test.YtnllgbcakmddkaaGreatDoorTe5
import Derived.Test.YtnllgbcakmddkaaGreatDoorZGTopTakahashiOwn
import Derived.Test.YtnllgbcakmddkaaGreatDoorZMTopTakahashiOwn
import Derived.Test.YtnllgbcakmddkaaGreatDoorZNTopTakahashiOwn
import Derived.Test.YtnllgbcakmddkaaGreatDoorLn13
import Derived.Deep.RegionHeld3
import Derived.BigQuiet
namespace Go.Proofs.YtnllgbcakmddkaaGreatDoor
open Go.RowKit
set_option linter.unusedSimpArgs false
set_option linter.unusedVariables false
set_option maxRecDepth 8000

theorem parallel_any : ∀ (n : Nat) (p : PX) (u : Nat), p.sz ≤ n → p.sz ≤ 36 → p.ok u → u + p.sz ≤ 200 → PrAt n p.m
  | 0, p, u, h1, _, _, _ => by have := PX.sz_pos p; omega
  | n + 1, p, u, h1, h2, h3, h4 => by
    refine parallel_step n p h2 u h3 h4 fun q hq => ?_
    rw [px_subs] at hq
    obtain ⟨r, hr, rfl⟩ := List.mem_map.1 hq
    cases p with
    | v i => simp [PX.subs] at hr
    | c k => simp [PX.subs] at hr
    | l b =>
      simp only [PX.subs, List.mem_singleton] at hr
      subst hr
      simp only [PX.sz] at h1 h2 h4
      exact parallel_any n r (u + 1) (by omega) (by omega) h3 (by omega)
    | a f x =>
      simp only [PX.subs, List.mem_cons, List.not_mem_nil, or_false] at hr
      simp only [PX.sz] at h1 h2 h4
      rcases hr with rfl | rfl
      · exact parallel_any n r u (by omega) (by omega) h3.1 (by omega)
      · exact parallel_any n r u (by omega) (by omega) h3.2 (by omega)

/-- What parallel steps of a step give. -/
theorem tk_step {n : Nat} {t d s : Lm} (hn : n ≤ 40) (he : errM n 0 [t] = 0) (hz : sizeM [t] ≤ 17) (hd : devT 2001 t = some d) (hs : s ∈ stsT 2001 t) : ∃ k : Nat, PrAt k s ∧ (d ∈ parR 300 k s ∨ 300 < (parR 300 k s).length) := by
  unfold stsT at hs
  obtain ⟨e, hh, rfl⟩ := List.mem_map.1 hs
  obtain ⟨p, rfl⟩ := px_of t _ he
  obtain ⟨q, h1, h2⟩ := px_hnd 2001 p e hh
  rw [px_sz] at hz
  have h3 := par_sz h2 (by omega)
  have h4 := gD_17 p.sz (by omega)
  have h5 := par_ok h2 n ((px_ok p n).1 he)
  refine ⟨q.sz, ?_, tk_all 300 he hd hh q.sz (by rw [h1, px_sz]; exact Nat.le_refl _)⟩
  rw [h1]
  exact parallel_any q.sz q n (Nat.le_refl _) (by omega) h5 (by omega)
theorem tk_none {n : Nat} {t d : Lm} (he : errM n 0 [t] = 0) (hz : sizeM [t] ≤ 17) (hd : devT 2001 t = some d) (hs : stsT 2001 t = []) : d = t := by
  have h := sts_nil (by omega) hs
  obtain ⟨p, rfl⟩ := px_of t _ he
  rw [px_st] at h
  rw [px_dev 2001 p d hd, (PX.taka (.refl p)).nf h]
theorem tk_err {n : Nat} {t : Lm} (hn : n ≤ 40) (he : errM n 0 [t] = 0) (hz : sizeM [t] ≤ 17) : ∃ d, devT 2001 t = some d ∧ dvE t n = 0 ∧ dvY t = d := by
  obtain ⟨p, rfl, hd⟩ := tk_dev he (by omega)
  refine ⟨_, hd, ?_, by unfold dvY; rw [hd]; rfl⟩
  unfold dvE
  rw [if_pos (lamE_of hn he (by omega)), hd]
  rfl

/-- A lambda term in a box. -/
def Bx (w : World) (A : Nat) (t : Lm) (a : Option Addr) (c : Nat) : Prop := Blk w A #[.int .i64 t.kind, .int .i64 t.idx, .slice a t.subs.length c] 26 ∧ SlM w (fun _ => True) a t.subs
theorem Bx.later {w w' : World} {A : Nat} {t : Lm} {a : Option Addr} {c : Nat} (h : Bx w A t a c) (hb : Below w.heap.size w w') : Bx w' A t a c := ⟨h.1.below hb h.1.lt, h.2.later hb⟩
theorem Bx.alloc {w : World} {A : Nat} {t : Lm} {a : Option Addr} {c : Nat} (h : Bx w A t a c) (o : Obj) : Bx (w.alloc o) A t a c := h.later ((Below.refl _ _).alloc (Nat.le_refl _) o)
theorem Bx.new {w : World} {t : Lm} {a : Option Addr} {c : Nat} {X : Nat → Prop} (h : SlM w X a t.subs) : Bx (w.alloc (.cells #[.int .i64 t.kind, .int .i64 t.idx, .slice a t.subs.length c] 26)) w.heap.size t a c :=
  ⟨Blk.new w _ _, (h.mono fun _ _ _ => trivial).later ((Below.refl _ _).alloc (Nat.le_refl _) _)⟩
theorem Bx.cs {w : World} {A : Nat} {t : Lm} {a : Option Addr} {c : Nat} (h : Bx w A t a c) : w.cell? ⟨A, 0, none⟩ = some (.int .i64 t.kind) ∧ w.cell? ⟨A, 1, none⟩ = some (.int .i64 t.idx) ∧ w.cell? ⟨A, 2, none⟩ = some (.slice a t.subs.length c) := ⟨h.1.cell 0, h.1.cell 1, h.1.cell 2⟩
theorem Bx.mv {w : World} {A : Nat} {t : Lm} {a : Option Addr} {c : Nat} (h : Bx w A t a c) : MV w (fun _ => True) (.agg #[.int .i64 t.kind, .int .i64 t.idx, .slice a t.subs.length c]) t := ⟨a, c, rfl, h.2⟩

/-- Is it there so far? -/
noncomputable def isIn (d : Lm) (l : List Lm) : Bool := l.any fun s => @decide (s = d) (Classical.propDecidable _)
theorem isIn_mem {d : Lm} {l : List Lm} : isIn d l = true ↔ d ∈ l := by
  unfold isIn
  rw [List.any_eq_true]
  constructor
  · rintro ⟨s, h1, h2⟩
    simp only [decide_eq_true_eq] at h2
    exact h2 ▸ h1
  · intro h
    exact ⟨d, h, by simp⟩
theorem isIn_snoc (d s : Lm) (l : List Lm) (q : Bool) (hq : q = true ↔ s = d) : isIn d (l ++ [s]) = (isIn d l || q) := by
  have h : @decide (s = d) (Classical.propDecidable _) = q := by
    cases q
    · simp only [decide_eq_false_iff_not]; intro e; exact absurd (hq.2 e) (by simp)
    · simp only [decide_eq_true_eq]; exact hq.1 rfl
  unfold isIn
  rw [List.any_append]
  simp [h]
def T1I (L : List Lm) (w0 : World) (i : Value) (wr : World) : Prop := ∃ k : Nat, k ≤ L.length ∧ i = .int .i64 (k : Int) ∧ Below w0.heap.size w0 wr
def T2I (d : Lm) (P : List Lm) (w0 : World) (q i : Value) (wr : World) : Prop := ∃ k : Nat, k ≤ P.length ∧ q = .bool (isIn d (P.take k)) ∧ i = .int .i64 (k : Int) ∧ Below w0.heap.size w0 wr

set_option maxHeartbeats 8000000 in
theorem topTak_any (zs : List Int) (hr : ∀ z ∈ zs, Rng z) (y1 y2 : Int) (h1 : Rng y1) (h2 : Rng y2) (u : Value) (w : World) (X : Nat → Prop) (hu : PV w X u zs) (hT : Tb w.heap.size w) (hS : Tse w.heap.size w) :
    Calls Tryz.prog 3 #[u, .int .i64 y1, .int .i64 y2] w fun e w' => e = .returned (.bool true) ∧ Below w.heap.size w w' := by
  have HU := hide hu
  have HRG := hide hr
  have HT := hide hT
  have HSE := hide hS
  unfold Rng at h1 h2
  obtain ⟨ua, uc, rfl⟩ : ∃ ua uc, u = .slice ua zs.length uc := by
    obtain ⟨a, c, h, _⟩ := hu
    exact ⟨a, c, h⟩
  clear hu hr hT hS
  by_cases hl : 256 < zs.length
  · have hli : (256 : Int) < (zs.length : Int) := by omega
    go_enter Tryz.func3, Tryz.ntmps3
    go_wp2_with fail
    go_ret
    exact ⟨rfl, Below.refl _ _⟩
  · have hli : ¬ (256 : Int) < (zs.length : Int) := by omega
    go_enter Tryz.func3, Tryz.ntmps3
    go_wp2_with fail
    refine (pick_any y2 3 (by omega) (by omega) h2 _).mono ?_
    rintro e w1 ⟨n, rfl, hn, rfl⟩
    go_wp2_with fail
    refine (pick_any y1 12 (by omega) (by omega) h1 _).mono ?_
    rintro e w2 ⟨m1, rfl, hm1, rfl⟩
    have CL := lamOfRawT_any zs _ HRG.out (by omega) (3 + m1) n (by omega) (by omega) w2 X HU.out
    have e3 : ((3 + m1 : Nat) : Int) = 3 + (m1 : Int) := by omega
    rw [e3] at CL
    have HCL := hide CL
    clear CL e3
    have hw3 : IntKind.i64.wrap (3 + (m1 : Int)) = 3 + (m1 : Int) := by rw [IntKind.wrap_i64]; omega
    go_wp2_with fail
    refine HCL.out.mono ?_
    rintro e w3 ⟨t, at9, ct, rfl, hs, hb, he, hsz⟩
    have hq : ∀ m, m < 15 → tpT m ≤ 17 := by decide
    have HE := hide he
    have HZ : Hid (sizeM [t] ≤ 17) := Nat.le_trans hsz (hq _ (by omega))
    have T4 := hide (Bx.new (c := ct) hs)
    have HB4 : Hid (Below w2.heap.size w2 (w3.alloc (.cells #[.int .i64 t.kind, .int .i64 t.idx, .slice at9 t.subs.length ct] 26))) := hb.alloc hb.size _
    have HSO := hide (stE_of (n := n) (by omega) he (Nat.le_trans HZ.out (by omega)))
    obtain ⟨d, hd, hd0, hdy⟩ := tk_err (n := n) (by omega) he HZ.out
    have HD := hide hd
    have HD0 := hide hd0
    have HDY := hide hdy
    have HST : Hid (∀ s ∈ stsT 2001 t, ∃ k : Nat, PrAt k s ∧ (d ∈ parR 300 k s ∨ 300 < (parR 300 k s).length)) := fun s hs => tk_step (n := n) (by omega) HE.out HZ.out HD.out hs
    have HNO : Hid (stsT 2001 t = [] → d = t) := fun hs => tk_none HE.out HZ.out HD.out hs
    have HLN : Hid ((stsT 2001 t).length ≤ 17) := by
      unfold Hid stsT
      rw [List.length_map]
      exact Nat.le_trans (hnd_len 2001 t) HZ.out
    clear hs hb he hq hsz HCL hw3 hd hd0 hdy
    obtain ⟨c0, c1, c2⟩ := T4.out.cs
    go_wp2_with fail
    generalize (w3.alloc (.cells #[.int .i64 t.kind, .int .i64 t.idx, .slice at9 t.subs.length ct] 26)) = w4 at *
    refine (rSteps_any t n _ w4 _ T4.out.mv).mono ?_
    rintro e w5 ⟨hb, h⟩
    rcases h with ⟨_, al, cl, rfl, hsl⟩ | ⟨h0, _⟩
    rotate_left
    · exact absurd HSO.out h0
    obtain ⟨L, hL⟩ : ∃ L, L = stsT 2001 t := ⟨_, rfl⟩
    rw [← hL] at HST HNO HLN hsl ⊢
    have T5 := hide (T4.out.later hb)
    have L5 := hide (hsl.mono (Y := fun _ => True) fun _ _ _ => trivial)
    have HB5 := hide (HB4.out.trans (hb.mono HB4.out.size))
    clear hb hsl hL c0 c1 c2 T4 HB4
    obtain ⟨c0, c1, c2⟩ := T5.out.cs
    go_wp2_with fail
    refine (rDevelop_any t n _ w5 _ T5.out.mv).mono ?_
    rintro e w6 ⟨hb, h⟩
    rcases h with ⟨_, ad, cd, rfl, hsd⟩ | ⟨h0, _⟩
    rotate_left
    · exact absurd HD0.out h0
    rw [HDY.out] at hsd ⊢
    have T7 := hide ((T5.out.later hb).alloc (.cells #[.int .i64 d.kind, .int .i64 d.idx, .slice ad d.subs.length cd] 26))
    have L7 := hide ((L5.out.later hb).later ((Below.refl _ _).alloc (Nat.le_refl _) (.cells #[.int .i64 d.kind, .int .i64 d.idx, .slice ad d.subs.length cd] 26)))
    have D7 := hide (Bx.new (c := cd) hsd)
    have HB7 : Hid (Below w2.heap.size w2 (w6.alloc (.cells #[.int .i64 d.kind, .int .i64 d.idx, .slice ad d.subs.length cd] 26))) := (HB5.out.trans (hb.mono HB5.out.size)).alloc (HB5.out.trans (hb.mono HB5.out.size)).size _
    clear hb hsd c0 c1 c2 T5 L5 HB5 HDY HD0 HSO
    go_upto_region 7 with fail
    generalize (w6.alloc (.cells #[.int .i64 d.kind, .int .i64 d.idx, .slice ad d.subs.length cd] 26)) = w7 at *
    obtain ⟨D, hD⟩ : ∃ D, D = w6.heap.size := ⟨_, rfl⟩
    rw [← hD] at D7 ⊢
    clear hD
    go_wp2_with fail
    refine (applies_any _ (HT.out.raise HB7.out HB7.out.size) (HSE.out.raise HB7.out HB7.out.size)).mono ?_
    rintro e w8 ⟨rfl, hb⟩
    have T8 := hide (T7.out.later hb)
    have L8 := hide (L7.out.later hb)
    have D8 := hide (D7.out.later hb)
    have HB8 := hide (HB7.out.trans (hb.mono HB7.out.size))
    clear hb T7 L7 D7 HB7
    have hln := HLN.out
    go_wp2_with fail
    go_loopw [13] (fun i wr => T1I L w8 i wr) (fun i wr => L.length - (intOf i).toNat)
    case atStart => exact ⟨0, Nat.zero_le _, rfl, Below.refl _ _⟩
    case round =>
      obtain ⟨k, hk, rfl, hb9⟩ := hrel
      obtain ⟨w9, rfl⟩ : ∃ w9, w9 = wr := ⟨_, rfl⟩
      have HB9 := hide hb9
      by_cases hk1 : k < L.length
      · have hki : (k : Int) < (L.length : Int) := by omega
        obtain ⟨s, hs⟩ : ∃ s, s = L[k] := ⟨_, rfl⟩
        obtain ⟨j, hpr, hin⟩ := HST.out s (by rw [hs]; exact List.getElem_mem hk1)
        have HPR := hide hpr
        have HIN := hide hin
        obtain ⟨bl, ol, a8, c8, rfl, f0, f0', f1, hx⟩ := L8.out.get hb9 (fun b _ h => h) k hk1
        rw [← hs] at f0 f0' f1 hx
        have HX := hide hx
        clear hx hs hb9 hpr hin
        go_wp2_with fail
        refine (HPR.out _ w9 _ HX.out).mono ?_
        rintro e w10 ⟨ap, cp, rfl, hsp, hb10⟩
        obtain ⟨P, hP⟩ : ∃ P, P = parR 300 j s := ⟨_, rfl⟩
        have HPL : Hid (P.length ≤ 302) := by unfold Hid; rw [hP]; exact parR_len 300 j s
        rw [← hP] at hsp HIN ⊢
        have HSP := hide hsp
        have HB10 := hide (HB9.out.trans (hb10.mono HB9.out.size))
        have D10 := hide (D8.out.later HB10.out)
        clear hsp hb10 hP HX f0 f0' f1 HPR HB9
        by_cases hlp : 300 < P.length
        · have hlpi : (300 : Int) < (P.length : Int) := by omega
          go_wp2_with fail
          go_roundw
          case rel => exact ⟨k + 1, by omega, by go_num, HB10.out⟩
          case measure => simp [intOf]; omega
        · have hlpi : ¬ (300 : Int) < (P.length : Int) := by omega
          have HMEM : Hid (isIn d P = true) := by
            unfold Hid
            rw [isIn_mem]
            rcases HIN.out with h | h
            · exact h
            · exact absurd h hlp
          clear HIN
          have hpl := HPL.out
          go_wp2_with fail
          go_loopw [15, 16] (fun q i wr => T2I d P w10 q i wr) (fun q i wr => P.length - (intOf i).toNat)
          case atStart => exact ⟨0, Nat.zero_le _, rfl, rfl, Below.refl _ _⟩
          case round =>
            obtain ⟨m, hm, rfl, rfl, hb11⟩ := hrel
            obtain ⟨w11, rfl⟩ : ∃ w11, w11 = wr := ⟨_, rfl⟩
            have HB11 := hide hb11
            by_cases hm1 : m < P.length
            · have hmi : (m : Int) < (P.length : Int) := by omega
              obtain ⟨y, hy⟩ : ∃ y, y = P[m] := ⟨_, rfl⟩
              have HTK : Hid (P.take (m + 1) = P.take m ++ [y]) := by unfold Hid; rw [hy]; exact List.take_succ_eq_append_getElem hm1
              obtain ⟨bp, op, a9, c9, rfl, f0, f0', f1, hx⟩ := HSP.out.get hb11 (fun b _ h => h) m hm1
              rw [← hy] at f0 f0' f1 hx
              have HX := hide hx
              clear hx hy hb11
              have D11 := hide (D10.out.later HB11.out)
              obtain ⟨d0, d1, d2⟩ := D11.out.cs
              cases hth : isIn d (P.take m) with
              | true =>
                have HNX : Hid (isIn d (P.take (m + 1)) = true) := by unfold Hid; rw [HTK.out, isIn_snoc d y _ (@decide (y = d) (Classical.propDecidable _)) (by simp), hth]; rfl
                go_wp2_with fail
                go_quiet (fail)
                go_wp2_with fail
                go_roundw
                case rel => exact ⟨m + 1, by omega, by rw [HNX.out], by go_num, below_drewN HB11.out _⟩
                case measure => simp [intOf]; omega
              | false =>
                have KP : Hid (∀ w', Below w11.heap.size w11 w' → w'.cell? ⟨bp, op + m * 3, none⟩ = some (.int .i64 y.kind) ∧ w'.cell? ⟨bp, op + m * 3 + 1, none⟩ = some (.int .i64 y.idx) ∧ w'.cell? ⟨bp, op + m * 3 + 2, none⟩ = some (.slice a9 y.subs.length c9) ∧ w'.cell? ⟨D, 0, none⟩ = some (.int .i64 d.kind) ∧ w'.cell? ⟨D, 1, none⟩ = some (.int .i64 d.idx) ∧ w'.cell? ⟨D, 2, none⟩ = some (.slice ad d.subs.length cd)) := fun w' hb => ⟨cell_sameM (hb.block _ (cell_ltM f0)) f0, cell_sameM (hb.block _ (cell_ltM f0')) f0', cell_sameM (hb.block _ (cell_ltM f1)) f1, cell_sameM (hb.block _ (cell_ltM d0)) d0, cell_sameM (hb.block _ (cell_ltM d1)) d1, cell_sameM (hb.block _ (cell_ltM d2)) d2⟩
                have HS0 := hide (And.intro f0 (And.intro f0' (And.intro f1 (And.intro d0 (And.intro d1 d2)))))
                go_wp2_with fail
                go_region_held3 (fun w' => w'.cell? ⟨bp, op + m * 3, none⟩ = some (.int .i64 y.kind) ∧ w'.cell? ⟨bp, op + m * 3 + 1, none⟩ = some (.int .i64 y.idx) ∧ w'.cell? ⟨bp, op + m * 3 + 2, none⟩ = some (.slice a9 y.subs.length c9) ∧ w'.cell? ⟨D, 0, none⟩ = some (.int .i64 d.kind) ∧ w'.cell? ⟨D, 1, none⟩ = some (.int .i64 d.idx) ∧ w'.cell? ⟨D, 2, none⟩ = some (.slice ad d.subs.length cd)) (first | exact HS0.out | exact hS1)
                  ((go_at_call 10; refine (sameG_any _ _ _ _ _ _ _ (by exact HX.out.later (below_drewN (Below.refl _ _) 1)) (by exact D11.out.mv.later (below_drewN (Below.refl _ _) 1))).mono ?_; rintro e w12 ⟨q, rfl, hq, hb12⟩; have hS1 := KP.out _ ((below_drewN (Below.refl w11.heap.size w11) 1).trans (hb12.mono (by simp)))))
                have HNX : Hid (isIn d (P.take (m + 1)) = q) := by unfold Hid; rw [HTK.out, isIn_snoc d y _ _ hq, hth]; rfl
                go_wp2_with fail
                go_roundw
                case rel => exact ⟨m + 1, by omega, by rw [HNX.out], by go_num, (HB11.out.trans (below_drewN (Below.refl _ _) 1)).trans (hb12.mono (by simp; exact HB11.out.size))⟩
                case measure => simp [intOf]; omega
            · have hmi : ¬ (m : Int) < (P.length : Int) := by omega
              have hme : m = P.length := by omega
              subst hme
              rw [List.take_length, HMEM.out]
              go_wp2_with fail
              go_roundw
              case rel => exact ⟨k + 1, by omega, by go_num, HB10.out.trans (HB11.out.mono HB10.out.size)⟩
              case measure => simp [intOf]; omega
      · have hki : ¬ (k : Int) < (L.length : Int) := by omega
        have D9 := hide (D8.out.later hb9)
        have T9 := hide (T8.out.later hb9)
        clear hb9
        by_cases hL0 : 0 < L.length
        · have hL0i : (0 : Int) < (L.length : Int) := by omega
          go_wp2_with fail
          go_ret
          exact ⟨rfl, HB8.out.trans (HB9.out.mono HB8.out.size)⟩
        · have hL0i : ¬ (0 : Int) < (L.length : Int) := by omega
          have HDT := hide (HNO.out (List.length_eq_zero_iff.1 (by omega)))
          obtain ⟨c0, c1, c2⟩ := T9.out.cs
          obtain ⟨d0, d1, d2⟩ := D9.out.cs
          go_wp2_with fail
          refine (sameG_any _ _ _ _ _ _ _ (by exact D9.out.mv) (by exact T9.out.mv)).mono ?_
          rintro e w12 ⟨q, rfl, hq, hb12⟩
          have hqt : q = true := hq.2 HDT.out
          subst hqt
          go_wp2_with fail
          go_ret
          exact ⟨rfl, HB8.out.trans ((HB9.out.trans (hb12.mono HB9.out.size)).mono HB8.out.size)⟩
end Go.Proofs.YtnllgbcakmddkaaGreatDoor
