/- Walks: where terms of one symbol may end, by sets of states (auto.mayGo, auto.end). -/
import Derived.Test.YtfodgmnnjgcpgaaZFAutoKindsOwn
import Derived.Test.YtfodgmnnjgcpgaaAu3
import Derived.Test.YtfodgmnnjgcpgaaZAutoKindsOwn
namespace Go.Proofs.Ytfodgmnnjgcpgaa
open Go.RowKit
set_option linter.unusedSimpArgs false
set_option linter.unusedVariables false
set_option maxRecDepth 8000

/-- A set of states as a number. -/
def SetIs (x : Nat) (l : List Bool) : Prop := x < 18446744073709551616 ∧ ∀ s : Nat, x.testBit s = bitAt l (s : Int)
def stV (x : Nat) : Value := .int .u64 (x : Int)
theorem goB_all {bs : List (List Bool)} {f : List Int} : goB bs f = true ↔ ∀ (i : Nat) (h1 : i < bs.length) (h2 : i < f.length), bitAt bs[i] f[i] = true := by
  induction bs generalizing f with
  | nil => cases f <;> simp [goB]
  | cons b r ih =>
    cases f with
    | nil => simp [goB]
    | cons x g =>
      rw [goB, Bool.and_eq_true, ih]
      constructor
      · rintro ⟨h1, h2⟩ i hi hj
        cases i with
        | zero => exact h1
        | succ i => exact h2 i (by simpa using hi) (by simpa using hj)
      · intro h
        exact ⟨h 0 (by simp) (by simp), fun i hi hj => h (i + 1) (by simpa using hi) (by simpa using hj)⟩
theorem goB_no {bs : List (List Bool)} {f : List Int} {i : Nat} (h1 : i < bs.length) (h2 : i < f.length) (h : bitAt bs[i] f[i] = false) : goB bs f = false := by
  cases e : goB bs f with
  | false => rfl
  | true => rw [goB_all.1 e i h1 h2] at h; cases h
theorem goB_full {bs : List (List Bool)} {f : List Int} (he : bs.length = f.length) {k : Nat} (hk : f.length ≤ k) (h : goB (bs.take k) (f.take k) = true) : goB bs f = true := by
  rwa [List.take_of_length_le (by omega), List.take_of_length_le hk] at h
/-- What these moves lead to. -/
def endN (ms : List Mv) (bs : List (List Bool)) : Nat := setN ((ms.filter fun m => goB bs m.frm).map (·.to))
theorem endN_yes {ms : List Mv} {bs : List (List Bool)} {k : Nat} (hk : k < ms.length) (h : goB bs ms[k].frm = true) : endN (ms.take (k + 1)) bs = endN (ms.take k) bs ||| 2 ^ (ms[k].to).toNat := by
  unfold endN
  rw [List.take_succ_eq_append_getElem hk, List.filter_append, List.map_append]
  simp only [List.filter_cons, h, List.filter_nil, if_true, List.map_cons, List.map_nil]
  exact setN_snoc _ _
theorem endN_no {ms : List Mv} {bs : List (List Bool)} {k : Nat} (hk : k < ms.length) (h : goB bs ms[k].frm = false) : endN (ms.take (k + 1)) bs = endN (ms.take k) bs := by
  unfold endN
  rw [List.take_succ_eq_append_getElem hk, List.filter_append, List.map_append]
  simp [h]
theorem endN_lt {ms : List Mv} {bs : List (List Bool)} (h : ∀ m ∈ ms, m.to < 64) : endN ms bs < 18446744073709551616 := by
  refine setN_lt _ fun z hz => ?_
  obtain ⟨m, hm, rfl⟩ := List.mem_map.1 hz
  exact h m (List.mem_filter.1 hm).1
/-- Those of one symbol. -/
def grp (ms : List Mv) (s : ByteArray × Nat) : List Mv := ms.filter fun m => decide (m.name = s.1) && decide (m.frm.length = s.2)
theorem end_is {ms : List Mv} {n : Nat} {name : ByteArray} {bs : List (List Bool)} (hn : n ≤ 64) (h : ∀ m ∈ ms, 0 ≤ m.to ∧ m.to < (n : Int)) : SetIs (endN (grp ms (name, bs.length)) bs) (edgT ms n name bs) := by
  refine ⟨endN_lt fun m hm => by have := (h m (List.mem_filter.1 hm).1).2; omega, fun s => ?_⟩
  unfold endN
  rw [setN_bit _ (fun z hz => by
    obtain ⟨m, hm, rfl⟩ := List.mem_map.1 hz
    exact (h m (List.mem_filter.1 (List.mem_filter.1 hm).1).1).1)]
  by_cases hs : s < n
  · rw [bit_edg hs]
    rw [Bool.eq_iff_iff, decide_eq_true_eq, endB_iff]
    constructor
    · intro hm
      obtain ⟨m, hm, e⟩ := List.mem_map.1 hm
      obtain ⟨h1, h2⟩ := List.mem_filter.1 hm
      obtain ⟨h3, h4⟩ := List.mem_filter.1 h1
      exact ⟨m, h3, by unfold mvB; simp only [Bool.and_eq_true] at h4 ⊢; exact ⟨h4, h2⟩, e⟩
    · rintro ⟨m, hm, h1, h2⟩
      unfold mvB at h1
      simp only [Bool.and_eq_true] at h1
      exact List.mem_map.2 ⟨m, List.mem_filter.2 ⟨List.mem_filter.2 ⟨hm, by simp only [Bool.and_eq_true]; exact h1.1⟩, h1.2⟩, h2⟩
  · have e1 : bitAt (edgT ms n name bs) (s : Int) = false := by
      unfold bitAt
      rw [Int.toNat_natCast, List.getElem?_eq_none (by rw [edgT_len]; omega)]
      rfl
    rw [e1, decide_eq_false_iff_not]
    intro hm
    obtain ⟨m, hm, e⟩ := List.mem_map.1 hm
    have := (h m (List.mem_filter.1 (List.mem_filter.1 hm).1).1).2
    omega
set_option maxHeartbeats 1000000 in
theorem mayGo_any (m : Mv) (af : Option Addr) (cf : Nat) (xs : List Nat) (bs : List (List Bool)) (hlen : m.frm.length = bs.length) (hxl : xs.length = bs.length) (hx : ∀ (i : Nat) (h1 : i < xs.length) (h2 : i < bs.length), SetIs xs[i] bs[i]) (hz : ∀ z ∈ m.frm, 0 ≤ z ∧ z < 64) (vb : Value) (w : World) (X : Nat → Prop) (hp : PV w X (.slice af m.frm.length cf) m.frm) (hv : LV stV w X vb xs) :
    Calls Try.prog 79 #[.agg #[.string m.name, .slice af m.frm.length cf, .int .i64 m.to], vb] w fun e w' => e = .returned (.bool (goB bs m.frm)) ∧ Below w.heap.size w w' := by
  obtain ⟨ab, cb, rfl, hbl, _⟩ := id hv
  have hpl := hp.len.1
  have B1 : Hid (Below w.heap.size w (w.alloc (.cells #[.string m.name, .slice af m.frm.length cf, .int .i64 m.to] 49))) := (Below.refl _ _).alloc (Nat.le_refl _) _
  have T1 : Hid (Blk (w.alloc (.cells #[.string m.name, .slice af m.frm.length cf, .int .i64 m.to] 49)) w.heap.size #[.string m.name, .slice af m.frm.length cf, .int .i64 m.to] 49) := Blk.new _ _ _
  have HP := hide (hp.later B1.out)
  have HV := hide (hv.later B1.out)
  have HX := hide hx
  have HZ := hide hz
  have HXL := hide hxl
  have HLEN := hide hlen
  clear hp hv hx hz hxl hlen
  have c1 := T1.out.cell 1
  go_enter Try.func79, Try.ntmps79
  go_wp2_with fail
  generalize (w.alloc (.cells #[.string m.name, .slice af m.frm.length cf, .int .i64 m.to] 49)) = w1 at *
  clear c1 T1
  go_loopw [10] (fun i wr => ∃ k : Nat, k ≤ m.frm.length ∧ i = .int .i64 (k : Int) ∧ goB (bs.take k) (m.frm.take k) = true ∧ wr = w1) (fun i wr => m.frm.length - (intOf i).toNat)
  case atStart => exact ⟨0, Nat.zero_le _, rfl, by simp [goB], rfl⟩
  case round =>
    obtain ⟨k, hk, rfl, hgo, rfl⟩ := hrel
    have HGO := hide hgo
    clear hgo
    by_cases hlt : k < m.frm.length
    · have hki : (k : Int) < (m.frm.length : Int) := by omega
      have hlb : k < bs.length := by have := HLEN.out; omega
      have hlx : k < xs.length := by have := HXL.out; omega
      have hkx : (k : Int) < (xs.length : Int) := by omega
      obtain ⟨b, o, rfl, hb, hc⟩ := HP.out.at (Below.refl wr.heap.size wr) k hlt
      obtain ⟨b2, o2, rfl, hb2, hc2⟩ := HV.out.at (Below.refl wr.heap.size wr) k hlx
      have h9 := HZ.out m.frm[k] (List.getElem_mem hlt)
      obtain ⟨s, hs⟩ : ∃ s : Nat, m.frm[k] = (s : Int) := ⟨m.frm[k].toNat, by omega⟩
      obtain ⟨hxs, hxb⟩ := HX.out k hlx hlb
      have HBT : Hid (xs[k].testBit s = bitAt bs[k] m.frm[k]) := by unfold Hid; rw [hxb s, hs]
      have HTK := hide (goB_take (f := m.frm) hlb hlt)
      have HNO := hide (goB_no (f := m.frm) hlb hlt)
      rw [hs] at hc
      unfold stV at hc2
      have HS : Hid (s < 64) := by unfold Hid; omega
      have HXS := hide hxs
      clear h9 hs hxb hxs
      go_wp2_with fail
      refine (has_any xs[k] s HS.out HXS.out _).mono ?_
      rintro e w' ⟨rfl, rfl⟩
      rw [HBT.out]
      cases hbt : bitAt bs[k] m.frm[k] with
      | true =>
        have HREL : Hid (goB (bs.take (k + 1)) (m.frm.take (k + 1)) = true) := by unfold Hid; rw [HTK.out, HGO.out, hbt]; rfl
        clear hbt
        go_wp2_with fail
        go_roundw
        case rel => exact ⟨k + 1, by omega, by go_num, HREL.out, by trivial⟩
        case measure => simp [intOf]; omega
      | false =>
        have HREL : Hid (goB bs m.frm = false) := HNO.out hbt
        clear hbt
        go_wp2_with fail
        go_ret
        exact ⟨by rw [HREL.out]; rfl, B1.out⟩
    · have hki : ¬ (k : Int) < (m.frm.length : Int) := by omega
      have HREL : Hid (goB bs m.frm = true) := goB_full HLEN.out.symm (by omega) HGO.out
      go_wp2_with fail
      go_ret
      exact ⟨by rw [HREL.out]; rfl, B1.out⟩

set_option maxHeartbeats 1000000 in
theorem aEnd_any (ms : List Mv) (am : Option Addr) (cm : Nat) (xs : List Nat) (bs : List (List Bool)) (hlen : ∀ m ∈ ms, m.frm.length = bs.length) (hto : ∀ m ∈ ms, 0 ≤ m.to ∧ m.to < 64) (hxl : xs.length = bs.length) (hx : ∀ (i : Nat) (h1 : i < xs.length) (h2 : i < bs.length), SetIs xs[i] bs[i]) (hz : ∀ m ∈ ms, ∀ z ∈ m.frm, 0 ≤ z ∧ z < 64) (vb : Value) (w : World) (X : Nat → Prop) (hp : SlV w X am ms) (hv : LV stV w X vb xs) :
    Calls Try.prog 59 #[.slice am ms.length cm, vb] w fun e w' => e = .returned (stV (endN ms bs)) ∧ Below w.heap.size w w' := by
  obtain ⟨ab, cb, rfl, hbl, _⟩ := id hv
  have hpl := hp.1
  have HP := hide hp
  have HV := hide hv
  have HX := hide hx
  have HZ := hide hz
  have HXL := hide hxl
  have HLEN := hide hlen
  have HTO := hide hto
  clear hp hv hx hz hxl hlen hto
  go_enter Try.func59, Try.ntmps59
  go_wp2_with fail
  go_loopw [5, 10] (fun q i wr => ∃ k : Nat, k ≤ ms.length ∧ i = .int .i64 (k : Int) ∧ q = .int .u64 (endN (ms.take k) bs : Int) ∧ Below w.heap.size w wr) (fun q i wr => ms.length - (intOf i).toNat)
  case atStart => exact ⟨0, Nat.zero_le _, rfl, rfl, Below.refl _ _⟩
  case round =>
    obtain ⟨k, hk, rfl, rfl, hbr⟩ := hrel
    have HBR := hide hbr
    clear hbr
    by_cases hlt : k < ms.length
    · have hki : (k : Int) < (ms.length : Int) := by omega
      obtain ⟨b, o, af, cf, rfl, hb, x0, x1, x2, hpv⟩ := HP.out.get HBR.out k hlt
      obtain ⟨hto0, hto1⟩ := HTO.out ms[k] (List.getElem_mem hlt)
      obtain ⟨s, hs⟩ : ∃ s : Nat, ms[k].to = (s : Int) := ⟨ms[k].to.toNat, by omega⟩
      have hs64 : s < 64 := by omega
      have HLK : Hid (endN (ms.take k) bs < 18446744073709551616) := endN_lt fun m hm => (HTO.out m (List.mem_of_mem_take hm)).2
      have B3 := hide (HBR.out.trans ((one1 wr (.cells #[.string ms[k].name, .slice af ms[k].frm.length cf, .int .i64 ms[k].to] 49)).mono HBR.out.size))
      have K3 : Hid (Blk (wr.alloc (.cells #[.string ms[k].name, .slice af ms[k].frm.length cf, .int .i64 ms[k].to] 49)) wr.heap.size #[.string ms[k].name, .slice af ms[k].frm.length cf, .int .i64 ms[k].to] 49) := Blk.new _ _ _
      have P3 := hide (hpv.later (one1 wr (.cells #[.string ms[k].name, .slice af ms[k].frm.length cf, .int .i64 ms[k].to] 49)))
      have HSS := hide hs
      clear hpv hto0 hto1 hs
      go_upto_region 5 with fail
      generalize (wr.alloc (.cells #[.string ms[k].name, .slice af ms[k].frm.length cf, .int .i64 ms[k].to] 49)) = w3 at *
      generalize wr.heap.size = A at *
      clear x0 x1 x2
      have c0 := K3.out.cell 0
      have c1 := K3.out.cell 1
      have c2 := K3.out.cell 2
      go_wp2_with fail
      refine (mayGo_any ms[k] af cf xs bs (HLEN.out _ (List.getElem_mem hlt)) HXL.out HX.out (HZ.out _ (List.getElem_mem hlt)) _ _ X P3.out (HV.out.later B3.out)).mono ?_
      rintro e w4 ⟨rfl, hb4⟩
      have B4 := hide (B3.out.trans (hb4.mono B3.out.size))
      have K4 := hide (K3.out.below hb4 K3.out.lt)
      clear hb4 c0 c1 c2
      cases hgo : goB bs ms[k].frm with
      | true =>
        have HREL := hide (endN_yes hlt hgo)
        have c2 : w4.cell? ⟨A, 2, none⟩ = some (.int .i64 (s : Int)) := by rw [← HSS.out]; exact K4.out.cell 2
        have HST := hide (setN_step _ s HLK.out hs64)
        clear hgo
        go_wp2_with fail
        rw [HST.out]
        go_roundw
        case rel => exact ⟨k + 1, by omega, by go_num, by rw [HREL.out, HSS.out]; rfl, B4.out⟩
        case measure => simp [intOf]; omega
      | false =>
        have HREL := hide (endN_no hlt hgo)
        clear hgo
        go_wp2_with fail
        go_roundw
        case rel => exact ⟨k + 1, by omega, by go_num, by rw [HREL.out], B4.out⟩
        case measure => simp [intOf]; omega
    · have hki : ¬ (k : Int) < (ms.length : Int) := by omega
      have htk : ms.take k = ms := List.take_of_length_le (by omega)
      rw [htk]
      go_wp2_with fail
      go_ret
      exact ⟨rfl, HBR.out⟩
end Go.Proofs.Ytfodgmnnjgcpgaa
