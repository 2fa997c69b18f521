/- Several texts in one. -/
import Derived.Test.YtofebfjkodceeaaZUAutoMadeOwn
import Derived.Test.YtofebfjkodceeaaZMAutoMadeOwn
import Derived.Test.YtofebfjkodceeaaZAutoMadeOwn
import Derived.DeepKeys3
import Derived.WideKeyPair
namespace Go.Proofs.Ytofebfjkodceeaa
open Go.RowKit
set_option linter.unusedSimpArgs false
set_option linter.unusedVariables false
set_option maxRecDepth 8000
def SetIs (x : Nat) (l : List Bool) : Prop := x < 18446744073709551616 ∧ ∀ s : Nat, x.testBit s = bitAt l (s : Int)
def stV (x : Nat) : Value := .int .u64 (x : Int)
theorem goB_all {bs : List (List Bool)} {f : List Int} : goB bs f = true ↔ ∀ (i : Nat) (h1 : i < bs.length) (h2 : i < f.length), bitAt bs[i] f[i] = true := by
 induction bs generalizing f with
 | nil => cases f <;> simp [goB]
 | cons b r ih =>
  cases f with
  | nil => simp [goB]
  | cons x g =>
   rw [goB, Bool.and_eq_true, ih]
   constructor
   ·rintro ⟨h1, h2⟩ i hi hj
    cases i with
    | zero => exact h1
    | succ i => exact h2 i (by simpa using hi) (by simpa using hj)
   ·intro h
    exact ⟨h 0 (by simp) (by simp), fun i hi hj => h (i + 1) (by simpa using hi) (by simpa using hj)⟩
theorem goB_no {bs : List (List Bool)} {f : List Int} {i : Nat} (h1 : i < bs.length) (h2 : i < f.length) (h : bitAt bs[i] f[i] = false) : goB bs f = false := by
 cases e : goB bs f with
 | false => rfl
 | true => rw [goB_all.1 e i h1 h2] at h; cases h
theorem goB_full {bs : List (List Bool)} {f : List Int} (he : bs.length = f.length) {k : Nat} (hk : f.length ≤ k) (h : goB (bs.take k) (f.take k) = true) : goB bs f = true := by
 rwa [List.take_of_length_le (by omega), List.take_of_length_le hk] at h
def endN (ms : List Mv) (bs : List (List Bool)) : Nat := setN ((ms.filter fun m => goB bs m.frm).map (·.to))
theorem endN_yes {ms : List Mv} {bs : List (List Bool)} {k : Nat} (hk : k < ms.length) (h : goB bs ms[k].frm = true) : endN (ms.take (k + 1)) bs = endN (ms.take k) bs ||| 2 ^ (ms[k].to).toNat := by
 unfold endN
 rw [List.take_succ_eq_append_getElem hk, List.filter_append, List.map_append]
 simp only [List.filter_cons, h, List.filter_nil, if_true, List.map_cons, List.map_nil]
 exact setN_snoc _ _
theorem endN_no {ms : List Mv} {bs : List (List Bool)} {k : Nat} (hk : k < ms.length) (h : goB bs ms[k].frm = false) : endN (ms.take (k + 1)) bs = endN (ms.take k) bs := by
 unfold endN
 rw [List.take_succ_eq_append_getElem hk, List.filter_append, List.map_append]
 simp [h]
theorem endN_lt {ms : List Mv} {bs : List (List Bool)} (h : ∀ m ∈ ms, m.to < 64) : endN ms bs < 18446744073709551616 := by
 refine setN_lt _ fun z hz => ?_
 obtain ⟨m, hm, rfl⟩ := List.mem_map.1 hz
 exact h m (List.mem_filter.1 hm).1
def grp (ms : List Mv) (s : ByteArray × Nat) : List Mv := ms.filter fun m => decide (m.name = s.1) && decide (m.frm.length = s.2)
theorem end_is {ms : List Mv} {n : Nat} {name : ByteArray} {bs : List (List Bool)} (hn : n ≤ 64) (h : ∀ m ∈ ms, 0 ≤ m.to ∧ m.to < (n : Int)) : SetIs (endN (grp ms (name, bs.length)) bs) (edgT ms n name bs) := by
 refine ⟨endN_lt fun m hm => by have := (h m (List.mem_filter.1 hm).1).2; omega, fun s => ?_⟩
 unfold endN
 rw [setN_bit _ (fun z hz => by
  obtain ⟨m, hm, rfl⟩ := List.mem_map.1 hz
  exact (h m (List.mem_filter.1 (List.mem_filter.1 hm).1).1).1)]
 by_cases hs : s < n
 ·rw [bit_edg hs]
  rw [Bool.eq_iff_iff, decide_eq_true_eq, endB_iff]
  constructor
  ·intro hm
   obtain ⟨m, hm, e⟩ := List.mem_map.1 hm
   obtain ⟨h1, h2⟩ := List.mem_filter.1 hm
   obtain ⟨h3, h4⟩ := List.mem_filter.1 h1
   exact ⟨m, h3, by unfold mvB; simp only [Bool.and_eq_true] at h4 ⊢; exact ⟨h4, h2⟩, e⟩
  ·rintro ⟨m, hm, h1, h2⟩
   unfold mvB at h1
   simp only [Bool.and_eq_true] at h1
   exact List.mem_map.2 ⟨m, List.mem_filter.2 ⟨List.mem_filter.2 ⟨hm, by simp only [Bool.and_eq_true]; exact h1.1⟩, h1.2⟩, h2⟩
 ·have e1 : bitAt (edgT ms n name bs) (s : Int) = false := by
   unfold bitAt
   rw [Int.toNat_natCast, List.getElem?_eq_none (by rw [edgT_len]; omega)]
   rfl
  rw [e1, decide_eq_false_iff_not]
  intro hm
  obtain ⟨m, hm, e⟩ := List.mem_map.1 hm
  have := (h m (List.mem_filter.1 (List.mem_filter.1 hm).1).1).2
  omega
set_option maxHeartbeats 1000000 in
theorem mayGo_any (m : Mv) (af : Option Addr) (cf : Nat) (xs : List Nat) (bs : List (List Bool)) (hlen : m.frm.length = bs.length) (hxl : xs.length = bs.length) (hx : ∀ (i : Nat) (h1 : i < xs.length) (h2 : i < bs.length), SetIs xs[i] bs[i]) (hz : ∀ z ∈ m.frm, 0 ≤ z ∧ z < 64) (vb : Value) (w : World) (X : Nat → Prop) (hp : PV w X (.slice af m.frm.length cf) m.frm) (hv : LV stV w X vb xs) :
  Calls Try.prog 82 #[.agg #[.string m.name, .slice af m.frm.length cf, .int .i64 m.to], vb] w fun e w' => e = .returned (.bool (goB bs m.frm)) ∧ Below w.heap.size w w' := by
 obtain ⟨ab, cb, rfl, hbl, _⟩ := id hv
 have hpl := hp.len.1
 have B1 : Hid (Below w.heap.size w (w.alloc (.cells #[.string m.name, .slice af m.frm.length cf, .int .i64 m.to] 40))) := (Below.refl _ _).alloc (Nat.le_refl _) _
 have T1 : Hid (Blk (w.alloc (.cells #[.string m.name, .slice af m.frm.length cf, .int .i64 m.to] 40)) w.heap.size #[.string m.name, .slice af m.frm.length cf, .int .i64 m.to] 40) := Blk.new _ _ _
 have HP := hide (hp.later B1.out)
 have HV := hide (hv.later B1.out)
 have HX := hide hx
 have HZ := hide hz
 have HXL := hide hxl
 have HLEN := hide hlen
 clear hp hv hx hz hxl hlen
 have c1 := T1.out.cell 1
 go_enter Try.func82, Try.ntmps82
 go_wp2_with fail
 generalize (w.alloc (.cells #[.string m.name, .slice af m.frm.length cf, .int .i64 m.to] 40)) = w1 at *
 clear c1 T1
 go_loopw [10] (fun i wr => ∃ k : Nat, k ≤ m.frm.length ∧ i = .int .i64 (k : Int) ∧ goB (bs.take k) (m.frm.take k) = true ∧ wr = w1) (fun i wr => m.frm.length - (intOf i).toNat)
 case atStart => exact ⟨0, Nat.zero_le _, rfl, by simp [goB], rfl⟩
 case round =>
  obtain ⟨k, hk, rfl, hgo, rfl⟩ := hrel
  have HGO := hide hgo
  clear hgo
  by_cases hlt : k < m.frm.length
  ·have hki : (k : Int) < (m.frm.length : Int) := by omega
   have hlb : k < bs.length := by have := HLEN.out; omega
   have hlx : k < xs.length := by have := HXL.out; omega
   have hkx : (k : Int) < (xs.length : Int) := by omega
   obtain ⟨b, o, rfl, hb, hc⟩ := HP.out.at (Below.refl wr.heap.size wr) k hlt
   obtain ⟨b2, o2, rfl, hb2, hc2⟩ := HV.out.at (Below.refl wr.heap.size wr) k hlx
   have h9 := HZ.out m.frm[k] (List.getElem_mem hlt)
   obtain ⟨s, hs⟩ : ∃ s : Nat, m.frm[k] = (s : Int) := ⟨m.frm[k].toNat, by omega⟩
   obtain ⟨hxs, hxb⟩ := HX.out k hlx hlb
   have HBT : Hid (xs[k].testBit s = bitAt bs[k] m.frm[k]) := by unfold Hid; rw [hxb s, hs]
   have HTK := hide (goB_take (f := m.frm) hlb hlt)
   have HNO := hide (goB_no (f := m.frm) hlb hlt)
   rw [hs] at hc
   unfold stV at hc2
   have HS : Hid (s < 64) := by unfold Hid; omega
   have HXS := hide hxs
   clear h9 hs hxb hxs
   go_wp2_with fail
   refine (has_any xs[k] s HS.out HXS.out _).mono ?_
   rintro e w' ⟨rfl, rfl⟩
   rw [HBT.out]
   cases hbt : bitAt bs[k] m.frm[k] with
   | true =>
    have HREL : Hid (goB (bs.take (k + 1)) (m.frm.take (k + 1)) = true) := by unfold Hid; rw [HTK.out, HGO.out, hbt]; rfl
    clear hbt
    go_wp2_with fail
    go_roundw
    case rel => exact ⟨k + 1, by omega, by go_num, HREL.out, by trivial⟩
    case measure => simp [intOf]; omega
   | false =>
    have HREL : Hid (goB bs m.frm = false) := HNO.out hbt
    clear hbt
    go_wp2_with fail
    go_ret
    exact ⟨by rw [HREL.out]; rfl, B1.out⟩
  ·have hki : ¬ (k : Int) < (m.frm.length : Int) := by omega
   have HREL : Hid (goB bs m.frm = true) := goB_full HLEN.out.symm (by omega) HGO.out
   go_wp2_with fail
   go_ret
   exact ⟨by rw [HREL.out]; rfl, B1.out⟩
set_option maxHeartbeats 1000000 in
theorem aEnd_any (ms : List Mv) (am : Option Addr) (cm : Nat) (xs : List Nat) (bs : List (List Bool)) (hlen : ∀ m ∈ ms, m.frm.length = bs.length) (hto : ∀ m ∈ ms, 0 ≤ m.to ∧ m.to < 64) (hxl : xs.length = bs.length) (hx : ∀ (i : Nat) (h1 : i < xs.length) (h2 : i < bs.length), SetIs xs[i] bs[i]) (hz : ∀ m ∈ ms, ∀ z ∈ m.frm, 0 ≤ z ∧ z < 64) (vb : Value) (w : World) (X : Nat → Prop) (hp : SlV w X am ms) (hv : LV stV w X vb xs) :
  Calls Try.prog 67 #[.slice am ms.length cm, vb] w fun e w' => e = .returned (stV (endN ms bs)) ∧ Below w.heap.size w w' := by
 obtain ⟨ab, cb, rfl, hbl, _⟩ := id hv
 have hpl := hp.1
 have HP := hide hp
 have HV := hide hv
 have HX := hide hx
 have HZ := hide hz
 have HXL := hide hxl
 have HLEN := hide hlen
 have HTO := hide hto
 clear hp hv hx hz hxl hlen hto
 go_enter Try.func67, Try.ntmps67
 go_wp2_with fail
 go_loopw [5, 10] (fun q i wr => ∃ k : Nat, k ≤ ms.length ∧ i = .int .i64 (k : Int) ∧ q = .int .u64 (endN (ms.take k) bs : Int) ∧ Below w.heap.size w wr) (fun q i wr => ms.length - (intOf i).toNat)
 case atStart => exact ⟨0, Nat.zero_le _, rfl, rfl, Below.refl _ _⟩
 case round =>
  obtain ⟨k, hk, rfl, rfl, hbr⟩ := hrel
  have HBR := hide hbr
  clear hbr
  by_cases hlt : k < ms.length
  ·have hki : (k : Int) < (ms.length : Int) := by omega
   obtain ⟨b, o, af, cf, rfl, hb, x0, x1, x2, hpv⟩ := HP.out.get HBR.out k hlt
   obtain ⟨hto0, hto1⟩ := HTO.out ms[k] (List.getElem_mem hlt)
   obtain ⟨s, hs⟩ : ∃ s : Nat, ms[k].to = (s : Int) := ⟨ms[k].to.toNat, by omega⟩
   have hs64 : s < 64 := by omega
   have HLK : Hid (endN (ms.take k) bs < 18446744073709551616) := endN_lt fun m hm => (HTO.out m (List.mem_of_mem_take hm)).2
   have B3 := hide (HBR.out.trans ((one1 wr (.cells #[.string ms[k].name, .slice af ms[k].frm.length cf, .int .i64 ms[k].to] 40)).mono HBR.out.size))
   have K3 : Hid (Blk (wr.alloc (.cells #[.string ms[k].name, .slice af ms[k].frm.length cf, .int .i64 ms[k].to] 40)) wr.heap.size #[.string ms[k].name, .slice af ms[k].frm.length cf, .int .i64 ms[k].to] 40) := Blk.new _ _ _
   have P3 := hide (hpv.later (one1 wr (.cells #[.string ms[k].name, .slice af ms[k].frm.length cf, .int .i64 ms[k].to] 40)))
   have HSS := hide hs
   clear hpv hto0 hto1 hs
   go_upto_region 5 with fail
   generalize (wr.alloc (.cells #[.string ms[k].name, .slice af ms[k].frm.length cf, .int .i64 ms[k].to] 40)) = w3 at *
   generalize wr.heap.size = A at *
   clear x0 x1 x2
   have c0 := K3.out.cell 0
   have c1 := K3.out.cell 1
   have c2 := K3.out.cell 2
   go_wp2_with fail
   refine (mayGo_any ms[k] af cf xs bs (HLEN.out _ (List.getElem_mem hlt)) HXL.out HX.out (HZ.out _ (List.getElem_mem hlt)) _ _ X P3.out (HV.out.later B3.out)).mono ?_
   rintro e w4 ⟨rfl, hb4⟩
   have B4 := hide (B3.out.trans (hb4.mono B3.out.size))
   have K4 := hide (K3.out.below hb4 K3.out.lt)
   clear hb4 c0 c1 c2
   cases hgo : goB bs ms[k].frm with
   | true =>
    have HREL := hide (endN_yes hlt hgo)
    have c2 : w4.cell? ⟨A, 2, none⟩ = some (.int .i64 (s : Int)) := by rw [← HSS.out]; exact K4.out.cell 2
    have HST := hide (setN_step _ s HLK.out hs64)
    clear hgo
    go_wp2_with fail
    rw [HST.out]
    go_roundw
    case rel => exact ⟨k + 1, by omega, by go_num, by rw [HREL.out, HSS.out]; rfl, B4.out⟩
    case measure => simp [intOf]; omega
   | false =>
    have HREL := hide (endN_no hlt hgo)
    clear hgo
    go_wp2_with fail
    go_roundw
    case rel => exact ⟨k + 1, by omega, by go_num, by rw [HREL.out], B4.out⟩
    case measure => simp [intOf]; omega
  ·have hki : ¬ (k : Int) < (ms.length : Int) := by omega
   have htk : ms.take k = ms := List.take_of_length_le (by omega)
   rw [htk]
   go_wp2_with fail
   go_ret
   exact ⟨rfl, HBR.out⟩
open Go.WideMaps
abbrev Sy := ByteArray × Nat
def symV (s : Sy) : Value := .agg #[.string s.1, .int .i64 (s.2 : Int)]
def SyOk (s : Sy) : Prop := s.1.size ≤ 1000000 ∧ s.2 ≤ 1000000
theorem symV_inj {p q : Sy} (h : symV p = symV q) : p = q := by
 obtain ⟨a, b⟩ := p
 obtain ⟨c, d⟩ := q
 simp [symV] at h
 obtain ⟨h1, h2⟩ := h
 have e2 : b = d := by omega
 rw [h1, e2]
theorem symLaw : KeyLaw Try.prog 105 := deep_law (m := 3) (by omega) (by kernel_rfl) (by kernel_rfl) (by kernel_rfl)
theorem sym_keyType : Try.prog.keyType 105 = true := by kernel_rfl
theorem sym_typesPos : ∃ m, Try.prog.types.size = m + 2 := ⟨Try.prog.types.size - 2, by kernel_rfl⟩
theorem sym_cells : Try.prog.cellsOf 105 = 2 := by kernel_rfl
theorem sym_cells1 : Try.prog.cellsOf 9 = 1 := by kernel_rfl
theorem sym_cells2 : Try.prog.cellsOf 3 = 1 := by kernel_rfl
theorem sym_key {s : Sy} (h : SyOk s) : ∃ l, keyOf Try.prog 105 (symV s) = some l := by
 obtain ⟨h1, h2⟩ := h
 obtain ⟨m, hm⟩ := sym_typesPos
 have hw : (Lit.int .i64 (s.2 : Int)).wf = true := by simp [Lit.wf, IntKind.min, IntKind.max, IntKind.signed, IntKind.bits]; omega
 unfold keyOf
 simp only [Try.underlying105]
 rw [if_pos (by simp [sym_keyType, symV, Value.formed, Try.underlying105, sym_cells]), hm]
 unfold Program.keyLits
 simp only [Try.underlying105, Value.cells, symV]
 rw [if_pos (by rw [sym_cells]; exact ⟨rfl, by kernel_rfl⟩)]
 have hsz : s.1.size ≤ maxLen := by unfold maxLen; omega
 simp [sym_cells1, sym_cells2, Program.keyLits, Try.underlying9, Try.underlying3, hw, hsz]
def MapY (w : World) (r : Nat) (L : List Sy) : Prop :=
 ∃ es clk, w.heap[r]? = some (.map es clk) ∧ es.toList.map (fun e => (e.key, e.val)) = (L.zipIdx).map (fun p => (symV p.1, Value.int .i64 (p.2 : Int))) ∧ ∀ s ∈ L, SyOk s
theorem MapY.new (w : World) : MapY (w.alloc (.map #[] 0)) w.heap.size [] := ⟨#[], 0, heap_alloc_new w _, by simp, by simp⟩
theorem MapY.lt {w : World} {r : Nat} {L : List Sy} (h : MapY w r L) : r < w.heap.size := by
 obtain ⟨es, clk, h, _⟩ := h
 exact (Array.getElem?_eq_some_iff.1 h).1
theorem MapY.kept {w w' : World} {r : Nat} {L : List Sy} (h : MapY w r L) (hk : w'.heap[r]? = w.heap[r]?) : MapY w' r L := by
 obtain ⟨es, clk, h1, h2⟩ := h
 exact ⟨es, clk, hk.trans h1, h2⟩
theorem MapY.entry {L : List Sy} {es : Array MapEntry} (h : es.toList.map (fun e => (e.key, e.val)) = (L.zipIdx).map (fun p => (symV p.1, Value.int .i64 (p.2 : Int)))) {j : Nat} {x : MapEntry} (hj : es.toList[j]? = some x) : ∃ (hl : j < L.length), x.key = symV L[j] ∧ x.val = .int .i64 (j : Int) := by
 have h1 := congrArg (fun l => l[j]?) h
 simp only [List.getElem?_map, hj, Option.map_some, List.getElem?_zipIdx] at h1
 cases hl : L[j]? with
 | none => rw [hl] at h1; simp at h1
 | some s =>
  rw [hl] at h1
  simp at h1
  obtain ⟨hj2, e⟩ := List.getElem?_eq_some_iff.1 hl
  refine ⟨hj2, ?_, ?_⟩
  ·rw [h1.1, e]
  ·rw [h1.2]
theorem run_lookY {w : World} {r : Nat} {L : List Sy} (h : MapY w r L) (s : Sy) (hs : SyOk s) :
  (∃ (i : Nat) (hi : i < L.length), L[i] = s ∧ (Instr.lookup 72 (.map (some r)) (symV s) true).run Try.prog w = .ok (.tuple #[.int .i64 (i : Int), .bool true]) w) ∨ (s ∉ L ∧ (Instr.lookup 72 (.map (some r)) (symV s) true).run Try.prog w = .ok (.tuple #[.int .i64 0, .bool false]) w) := by
 obtain ⟨es, clk, hb, hes, hok⟩ := h
 obtain ⟨l, hl⟩ := sym_key hs
 have hc := fun b => symLaw.check w b hl
 have hz : (zeroValue 3).run Try.prog w = .ok (.int .i64 0) w := by kernel_rfl
 have hall : ∀ x ∈ es.toList, ∃ l, keyOf Try.prog 105 x.key = some l := fun x hx => by
  obtain ⟨j, hj⟩ := List.getElem?_of_mem hx
  obtain ⟨hl, hk, _⟩ := MapY.entry hes hj
  rw [hk]; exact sym_key (hok _ (List.getElem_mem hl))
 rcases symLaw.find w hl es.toList hall with ⟨hf, hno⟩ | ⟨j, x, hf, hj, hx⟩
 ·refine Or.inr ⟨fun hm => ?_, ?_⟩
  ·obtain ⟨i, hi, e⟩ := List.getElem_of_mem hm
   have h1 := congrArg List.length hes
   simp at h1
   have hi2 : i < es.toList.length := by simpa [h1] using hi
   obtain ⟨hl2, hk, _⟩ := MapY.entry hes (List.getElem?_eq_getElem hi2)
   exact hno _ (List.getElem_mem hi2) (by rw [hk, e])
  ·simp [Instr.lookup, run_underlying Try.underlying72, MapKept.run_getObj_map hb, hc, hf, Result.andThen, hz]
 ·obtain ⟨hl2, hk, hv⟩ := MapY.entry hes hj
  refine Or.inl ⟨j, hl2, symV_inj (hk.symm.trans hx), ?_⟩
  simp [Instr.lookup, run_underlying Try.underlying72, MapKept.run_getObj_map hb, hc, hf, Result.andThen, hv]
theorem run_putY {w : World} {r : Nat} {L : List Sy} (h : MapY w r L) (s : Sy) (hs : SyOk s) (hn : s ∉ L) :
  ∃ w', (Instr.mapUpdate 72 (.map (some r)) (symV s) (.int .i64 (L.length : Int))).run Try.prog w = .ok () w' ∧ MapY w' r (L ++ [s]) ∧ w'.heap.size = w.heap.size ∧ w'.os = w.os ∧ w'.tape = w.tape ∧ w'.output = w.output ∧ (∀ b, b ≠ r → w'.heap[b]? = w.heap[b]?) := by
 obtain ⟨es, clk, hb, hes, hok⟩ := h
 obtain ⟨l, hl⟩ := sym_key hs
 have hc := fun b => symLaw.check w b hl
 have hall : ∀ x ∈ es.toList, ∃ l, keyOf Try.prog 105 x.key = some l := fun x hx => by
  obtain ⟨j, hj⟩ := List.getElem?_of_mem hx
  obtain ⟨hl, hk, _⟩ := MapY.entry hes hj
  rw [hk]; exact sym_key (hok _ (List.getElem_mem hl))
 rcases symLaw.find w hl es.toList hall with ⟨hf, _⟩ | ⟨j, x, hf, hj, hx⟩
 ·refine ⟨{ w with heap := w.heap.setIfInBounds r (.map (es.push { key := symV s, val := .int .i64 (L.length : Int), born := clk }) (clk + 1)) }, ?_, ⟨_, _, (MapKept.heap_set hb).1, ?_, fun y hy => ?_⟩, by simp, rfl, rfl, rfl, fun b hne => (MapKept.heap_set hb).2 b hne⟩
  ·simp [Instr.mapUpdate, run_underlying Try.underlying72, MapKept.run_getObj_map hb, hc, hf, MapKept.run_setObj_map _ hb, Result.andThen]
  ·rw [Array.toList_push, List.map_append, hes, List.zipIdx_append, List.map_append]
   simp
  ·rcases List.mem_append.1 hy with hy | hy
   ·exact hok y hy
   ·have e : y = s := by simpa using hy
    rw [e]; exact hs
 ·obtain ⟨hl2, hk, hv⟩ := MapY.entry hes hj
  exact absurd (symV_inj (hk.symm.trans hx) ▸ List.getElem_mem hl2) hn
def symM (m : Mv) : Sy := (m.name, m.frm.length)
theorem grp_yes (ms : List Mv) (m : Mv) : grp (ms ++ [m]) (symM m) = grp ms (symM m) ++ [m] := by unfold grp symM; simp
theorem grp_no {ms : List Mv} {m : Mv} {s : Sy} (h : s ≠ symM m) : grp (ms ++ [m]) s = grp ms s := by
 unfold grp
 rw [List.filter_append]
 have : ¬ (m.name = s.1 ∧ m.frm.length = s.2) := fun e => h (by obtain ⟨a, b⟩ := s; simp only at e; rw [symM, e.1, e.2])
 simp only [List.filter_cons, List.filter_nil]
 rw [if_neg (by simpa using this)]
 simp
theorem grp_none {ms : List Mv} {L : List Sy} {s : Sy} (h : ∀ m ∈ ms, symM m ∈ L) (hs : s ∉ L) : grp ms s = [] := by
 unfold grp
 rw [List.filter_eq_nil_iff]
 intro m hm e
 simp only [Bool.and_eq_true, decide_eq_true_eq] at e
 refine hs ?_
 have := h m hm
 unfold symM at this
 rw [e.1, e.2] at this
 exact this
structure TabB (w : World) (N : Nat) (Y : Nat → Prop) (r O : Nat) (ms : List Mv) (L : List Sy) (ov : Value) (gs : List (Value × List Value)) : Prop where
 map : MapY w r L
 blk : Blk w O #[.map (some r), ov] 75
 rn : r < N
 on : O < N
 ro : r ≠ O
 len : gs.length = L.length
 nd : L.Nodup
 all : ∀ m ∈ ms, symM m ∈ L
 own : w.ownsRow N 23 1 ov gs.length (gs.map (·.1))
 inn : ∀ (i : Nat) (h : i < gs.length) (h2 : i < L.length), w.ownsRow N 40 3 gs[i].1 (grp ms L[i]).length gs[i].2 ∧ RowTV w Y (grp ms L[i]) gs[i].2
 apart : ∀ (i j : Nat) (hi : i < gs.length) (hj : j < gs.length) (b : Nat), gs[i].1.ownBlock = some b → gs[j].1.ownBlock = some b → i = j
 outer : ∀ (i : Nat) (hi : i < gs.length) (b : Nat), gs[i].1.ownBlock = some b → some b ≠ ov.ownBlock
 hY : ∀ b, Y b → b < N ∧ b ≠ r ∧ b ≠ O
theorem pv_keptB {w w' : World} {Y : Nat → Prop} {v : Value} {l : List Int} (h : PV w Y v l) (hk : ∀ b, Y b → b < w.heap.size → w'.heap[b]? = w.heap[b]?) : PV w' Y v l :=
 ((h.mono (Y := fun b => Y b ∧ b < w.heap.size) fun b h1 h2 => ⟨h1, h2⟩).kept fun b hb => hk b hb.1 hb.2).mono fun b hb _ => hb.1
theorem TabB.below {w w' : World} {N : Nat} {Y : Nat → Prop} {r O : Nat} {ms : List Mv} {L : List Sy} {ov : Value} {gs : List (Value × List Value)} (h : TabB w N Y r O ms L ov gs) (hb : Below w.heap.size w w') : TabB w' N Y r O ms L ov gs :=
 ⟨h.map.kept (hb.block r h.map.lt), h.blk.below hb h.blk.lt, h.rn, h.on, h.ro, h.len, h.nd, h.all, ownsRow_at h.own fun g hg => hb.block g (h.own.lt g hg).2,
  fun i h1 h2 => ⟨ownsRow_at (h.inn i h1 h2).1 fun g hg => hb.block g ((h.inn i h1 h2).1.lt g hg).2, (h.inn i h1 h2).2.imp fun v l hp => hp.later hb⟩, h.apart, h.outer, h.hY⟩
theorem TabB.start {w : World} {Y : Nat → Prop} {r O : Nat} (hm : MapY w r []) (hO : Blk w O #[.map (some r), .slice none 0 0] 75) (hro : r ≠ O) (hY : ∀ b, Y b → b < w.heap.size ∧ b ≠ r ∧ b ≠ O) : TabB w w.heap.size Y r O [] [] (.slice none 0 0) [] :=
 ⟨hm, hO, hm.lt, hO.lt, hro, rfl, List.nodup_nil, by simp, World.ownsRow_nil _ _ _ _, fun i h => by simp at h, fun i j h => by simp at h, fun i h => by simp at h, hY⟩
theorem Try.infoMoves : (Try.prog.info? 23).map (fun i => (i.zero, i.size, i.bytes)) = some (some (.slice none 0 0), 1, 24) := by kernel_rfl
theorem cell_one_newB (w : World) (c0 : Value) (T : Nat) : ∀ j u, [c0][j]? = some u → (w.alloc (.cells #[c0] T)).cell? ((⟨w.heap.size, 0, none⟩ : Addr).add j) = some u :=
 World.news_of_block (cs := #[c0]) (heap_alloc_new w _)
theorem tab_new {w : World} {N : Nat} {Y : Nat → Prop} {r O : Nat} {ms : List Mv} {L : List Sy} {ov : Value} {gs : List (Value × List Value)} (h : TabB w N Y r O ms L ov gs) (hN : N ≤ w.heap.size) {s : Sy} (hs : SyOk s) (hn : s ∉ L) (hl : gs.length ≤ 100000) :
  ∃ w1, (Instr.mapUpdate 72 (.map (some r)) (symV s) (.int .i64 (L.length : Int))).run Try.prog w = .ok () w1 ∧ Blk w1 O #[.map (some r), ov] 75 ∧
   ∃ g cap w2, (Builtin.append_ #[73, 73] 73 #[ov, .slice (some ⟨w1.heap.size, 0, none⟩) 1 1]).run Try.prog (w1.alloc (.cells #[.slice none 0 0] 23)) = .ok (.slice (some ⟨g, 0, none⟩) (gs.length + 1) cap) w2 ∧ Blk w2 O #[.map (some r), ov] 75 ∧
   TabB (w2.setCell ⟨O, 1, none⟩ (.slice (some ⟨g, 0, none⟩) (gs.length + 1) cap)) N Y r O ms (L ++ [s]) (.slice (some ⟨g, 0, none⟩) (gs.length + 1) cap) (gs ++ [(.slice none 0 0, [])]) ∧
   (∀ b, b < w.heap.size → b ≠ r → b ≠ O → some b ≠ ov.ownBlock → w1.heap[b]? = w.heap[b]? ∧ w2.heap[b]? = w.heap[b]? ∧ (w2.setCell ⟨O, 1, none⟩ (.slice (some ⟨g, 0, none⟩) (gs.length + 1) cap)).heap[b]? = w.heap[b]?) ∧
   (∀ n0, n0 ≤ r → n0 ≤ O → n0 ≤ N → Below n0 w (w2.setCell ⟨O, 1, none⟩ (.slice (some ⟨g, 0, none⟩) (gs.length + 1) cap))) ∧ (ov.ownBlock = some g ∨ w.heap.size < g) := by
 obtain ⟨w1, hr1, hm1, hz1, ho1, ht1, hu1, hk1⟩ := run_putY h.map s hs hn
 obtain ⟨i0, hi, hi0, hi1, hi2⟩ := info_parts Try.infoMoves
 have hlt := h.own.lt
 have hO1 : Blk w1 O #[.map (some r), ov] 75 := (hk1 O (fun e => h.ro e.symm)).trans h.blk
 have hown1 : w1.ownsRow N 23 1 ov gs.length (gs.map (·.1)) := ownsRow_at h.own fun g hg => hk1 g (fun e => by have := (hlt g hg).1; have := h.rn; omega)
 obtain ⟨g, cap, w2, hr2, ho, hg, hat, hgl⟩ := run_append_lies (P := Try.prog) (w := w1.alloc (.cells #[.slice none 0 0] 23)) 73 73 N 23 i0 _ 1 24 Try.underlying73 hi hi0 hi1 hi2 rfl (by decide) ov gs.length (gs.map (·.1)) (hown1.alloc _) ⟨w1.heap.size, 0, none⟩ 1 1 [.slice none 0 0] rfl (cell_one_newB _ _ _) (fun u hu => by simp at hu; subst hu; rfl) (by decide) (by unfold maxLen; omega) (by omega) (by simp; omega) _ rfl
 have hgs := hg.size
 simp at hgs
 have hgN : N ≤ g := (ho.lt g rfl).1
 have k2 : ∀ b, b < w.heap.size → b ≠ r → some b ≠ ov.ownBlock → w2.heap[b]? = w.heap[b]? := fun b h1 h2 h3 => by
  rw [hg.block b (by simp; omega) h3, Below.heap_alloc _ _ _ (by omega), hk1 b h2]
 have k3 : ∀ b, b < w.heap.size → b ≠ r → b ≠ O → some b ≠ ov.ownBlock → (w2.setCell ⟨O, 1, none⟩ (.slice (some ⟨g, 0, none⟩) (gs.length + 1) cap)).heap[b]? = w.heap[b]? := fun b h1 h2 h3 h4 => by
  rw [Below.heap_setCell _ _ _ _ (by simpa using h3), k2 b h1 h2 h4]
 have hO2 : Blk w2 O #[.map (some r), ov] 75 := (k2 O h.blk.lt (fun e => h.ro e.symm) (fun e => by have := (hlt O e.symm).1; have := h.on; omega)).trans h.blk
 have hrr : (w2.setCell ⟨O, 1, none⟩ (.slice (some ⟨g, 0, none⟩) (gs.length + 1) cap)).heap[r]? = w1.heap[r]? := by
  rw [Below.heap_setCell _ _ _ _ (by simpa using h.ro), hg.block r (by have := h.map.lt; simp; omega) (fun e => by have := (hlt r e.symm).1; have := h.rn; omega), Below.heap_alloc _ _ _ (by have := h.map.lt; omega)]
 have hrn := h.rn
 have hon := h.on
 refine ⟨w1, hr1, hO1, g, cap, w2, hr2, hO2, ⟨hm1.kept hrr, hO2.set 1 _, h.rn, h.on, h.ro, by simp [h.len], ?_, fun m hm => List.mem_append_left _ (h.all m hm), ?_, fun i h1 h2 => ?_, fun i j hi hj b e1 e2 => ?_, fun i hi b e1 => ?_, h.hY⟩, fun b h1 h2 h3 h4 => ⟨hk1 b h2, k2 b h1 h2 h4, k3 b h1 h2 h3 h4⟩, fun n0 n1 n2 n3 => ⟨?_, ?_, ?_, ?_, fun b hb => ?_⟩, hat.imp id (fun e => by simp at e; omega)⟩
 ·rw [List.nodup_append]
  exact ⟨h.nd, by simp, fun a ha b hb e => by simp at hb; subst hb; subst e; exact hn ha⟩
 ·have h1 := ownsRow_at ho (w' := w2.setCell ⟨O, 1, none⟩ (.slice (some ⟨g, 0, none⟩) (gs.length + 1) cap)) (fun b e => Below.heap_setCell _ _ _ _ (by simp [Value.ownBlock] at e; simp; omega))
  simpa using h1
 ·have hl2 := h.len
  by_cases hi2 : i < gs.length
  ·have hiL : i < L.length := by omega
   rw [List.getElem_append_left hi2, List.getElem_append_left hiL]
   obtain ⟨q1, q2⟩ := h.inn i hi2 hiL
   exact ⟨ownsRow_at q1 fun b e => k3 b (q1.lt b e).2 (fun e2 => by have := (q1.lt b e).1; omega) (fun e2 => by have := (q1.lt b e).1; omega) (h.outer i hi2 b e), q2.imp fun v l hp => pv_keptB hp fun b hy hlt => k3 b hlt (h.hY b hy).2.1 (h.hY b hy).2.2 (fun e => by have := (h.own.lt b e.symm).1; have := (h.hY b hy).1; omega)⟩
  ·have hie : i = gs.length := by simp at h1; omega
   subst hie
   have eL : (L ++ [s])[gs.length]'h2 = s := by rw [List.getElem_append_right (by omega)]; simp
   have eG : (gs ++ [((Value.slice none 0 0, []) : Value × List Value)])[gs.length]'h1 = (.slice none 0 0, []) := by rw [List.getElem_append_right (Nat.le_refl _)]; simp
   rw [eL, eG, grp_none h.all hn]
   exact ⟨World.ownsRow_nil _ _ _ _, rfl⟩
 ·rw [List.getElem_append] at e1 e2
  split at e1 <;> split at e2
  ·exact h.apart i j (by assumption) (by assumption) b e1 e2
  ·simp [Value.ownBlock] at e2
  ·simp [Value.ownBlock] at e1
  ·simp [Value.ownBlock] at e1
 ·rw [List.getElem_append] at e1
  split at e1
  ·rename_i hi2
   intro e
   have hbg : b = g := by simpa [Value.ownBlock] using e
   subst hbg
   rcases hat with e' | e'
   ·exact h.outer i hi2 b e1 e'.symm
   ·have := ((h.inn i hi2 (by have := h.len; omega)).1.lt b e1).2
    simp at e'; omega
  ·simp [Value.ownBlock] at e1
 ·exact hg.os.trans ho1
 ·exact hg.tape.trans ht1
 ·exact hg.output.trans hu1
 ·simp [World.setCell]; omega
 ·by_cases hb2 : b < w.heap.size
  ·exact k3 b hb2 (by omega) (by omega) (fun e => by have := (hlt b e.symm).1; omega)
  ·have := h.map.lt; omega
theorem tab_add {w : World} {N : Nat} {Y : Nat → Prop} {r O : Nat} {ms : List Mv} {L : List Sy} {og cap0 : Nat} {gs : List (Value × List Value)} (h : TabB w N Y r O ms L (.slice (some ⟨og, 0, none⟩) gs.length cap0) gs) (hN : N ≤ w.heap.size) {m : Mv} {i : Nat} (hi : i < gs.length) (hiL : i < L.length) (hm : L[i] = symM m) {af : Option Addr} {cf : Nat} (hp : PV w Y (.slice af m.frm.length cf) m.frm) (hl : ms.length ≤ 100000) :
  ∃ g cap w2, (Builtin.append_ #[23, 23] 23 #[gs[i].1, .slice (some ⟨w.heap.size, 0, none⟩) 1 1]).run Try.prog (w.alloc (.cells #[.string m.name, .slice af m.frm.length cf, .int .i64 m.to] 40)) = .ok (.slice (some ⟨g, 0, none⟩) ((grp ms L[i]).length + 1) cap) w2 ∧
   (w2.cell? ⟨og, i, none⟩ = some gs[i].1 ∧ w2.frozen? ⟨og, i, none⟩ = false ∧ og < w2.heap.size) ∧
   TabB (w2.setCell ⟨og, i, none⟩ (.slice (some ⟨g, 0, none⟩) ((grp ms L[i]).length + 1) cap)) N Y r O (ms ++ [m]) L (.slice (some ⟨og, 0, none⟩) gs.length cap0) (gs.set i (.slice (some ⟨g, 0, none⟩) ((grp ms L[i]).length + 1) cap, gs[i].2 ++ [.string m.name, .slice af m.frm.length cf, .int .i64 m.to])) ∧
   (∀ b, b < w.heap.size → b ≠ og → some b ≠ gs[i].1.ownBlock → (w.alloc (.cells #[.string m.name, .slice af m.frm.length cf, .int .i64 m.to] 40)).heap[b]? = w.heap[b]? ∧ w2.heap[b]? = w.heap[b]? ∧ (w2.setCell ⟨og, i, none⟩ (.slice (some ⟨g, 0, none⟩) ((grp ms L[i]).length + 1) cap)).heap[b]? = w.heap[b]?) ∧
   ∀ n0, n0 ≤ N → Below n0 w (w2.setCell ⟨og, i, none⟩ (.slice (some ⟨g, 0, none⟩) ((grp ms L[i]).length + 1) cap)) := by
 obtain ⟨i0, hi0, hz0, hz1, hz2⟩ := info_parts Try.infoMove
 obtain ⟨q1, q2⟩ := h.inn i hi hiL
 have hogN := (h.own.lt og rfl).1
 have hogl := (h.own.lt og rfl).2
 have hrn := h.rn
 have hon := h.on
 have hgl : (grp ms L[i]).length ≤ 100000 := Nat.le_trans (List.length_filter_le _ _) hl
 obtain ⟨g, cap, w2, hr, ho, hg, hat, _⟩ := run_append_lies (P := Try.prog) (w := w.alloc (.cells #[.string m.name, .slice af m.frm.length cf, .int .i64 m.to] 40)) 23 23 N 40 i0 _ 3 48 Try.underlying23 hi0 hz0 hz1 hz2 rfl (by decide) gs[i].1 (grp ms L[i]).length gs[i].2 (q1.alloc _)
  ⟨w.heap.size, 0, none⟩ 1 1 [.string m.name, .slice af m.frm.length cf, .int .i64 m.to] rfl (fun j u hj => by
   rw [add_at, (Blk.new w #[.string m.name, .slice af m.frm.length cf, .int .i64 m.to] 40).cell j]
   simpa using hj) (fun u hu => by simp at hu; rcases hu with rfl | rfl | rfl <;> rfl) (by decide) (by unfold maxLen; omega) (by omega) (by simp; omega) _ rfl
 have hgs := hg.size
 simp at hgs
 have hgN : N ≤ g := (ho.lt g rfl).1
 have hne : some og ≠ gs[i].1.ownBlock := fun e => h.outer i hi og e.symm rfl
 have hgo : g ≠ og := fun e => by
  rcases hat with e' | e'
  ·exact hne (by rw [e', e])
  ·simp at e'; omega
 have k2 : ∀ b, b < w.heap.size → some b ≠ gs[i].1.ownBlock → w2.heap[b]? = w.heap[b]? := fun b h1 h3 => by
  rw [hg.block b (by simp; omega) h3, Below.heap_alloc _ _ _ (by omega)]
 have k3 : ∀ b, b < w.heap.size → b ≠ og → some b ≠ gs[i].1.ownBlock → (w2.setCell ⟨og, i, none⟩ (.slice (some ⟨g, 0, none⟩) ((grp ms L[i]).length + 1) cap)).heap[b]? = w.heap[b]? := fun b h1 h2 h3 => by
  rw [Below.heap_setCell _ _ _ _ (by simpa using h2), k2 b h1 h3]
 have small : ∀ b, b < N → some b ≠ gs[i].1.ownBlock := fun b hb e => by have := (q1.lt b e.symm).1; omega
 have hown2 : w2.ownsRow N 23 1 (.slice (some ⟨og, 0, none⟩) gs.length cap0) gs.length (gs.map (·.1)) := ownsRow_at h.own fun b e => by
  have : b = og := by simpa [Value.ownBlock, eq_comm] using e
  subst this
  exact k2 b hogl hne
 have hc0 : w2.cell? ⟨og, i, none⟩ = some gs[i].1 := by
  rw [hown2.cellAt i (by simpa using hi)]
  simp [hi]
 have e_outer : ∀ b, (Value.slice (some ⟨og, 0, none⟩) gs.length cap0).ownBlock = some b → b = og := fun b e => by simpa [Value.ownBlock, eq_comm] using e
 refine ⟨g, cap, w2, hr, ⟨hc0, hown2.frozenAt i, by omega⟩, ⟨h.map.kept (k3 r h.map.lt (by omega) (small r hrn)), (k3 O h.blk.lt (by omega) (small O hon)).trans h.blk, h.rn, h.on, h.ro, by simp [h.len], h.nd, fun x hx => ?_, ?_, fun j h1 h2 => ?_, fun a b' ha hb' b e1 e2 => ?_, fun a ha b e1 => ?_, h.hY⟩, fun b h1 h2 h3 => ⟨Below.heap_alloc _ _ _ h1, k2 b h1 h3, k3 b h1 h2 h3⟩, fun n0 n3 => ⟨?_, ?_, ?_, ?_, fun b hb => k3 b (by omega) (by omega) (small b (by omega))⟩⟩
 ·rcases List.mem_append.1 hx with hx | hx
  ·exact h.all x hx
  ·have e : x = m := by simpa using hx
   rw [e, ← hm]; exact List.getElem_mem hiL
 ·have h1 := hown2.stored i (.slice (some ⟨g, 0, none⟩) ((grp ms L[i]).length + 1) cap)
  rw [List.map_set, List.length_set]
  exact h1.1
 ·have h1' : j < gs.length := by simpa using h1
  rw [List.getElem_set]
  by_cases e : i = j
  ·subst e
   rw [if_pos rfl, hm, grp_yes, ← hm]
   refine ⟨?_, RowTV.append (q2.imp fun v l hp => pv_keptB hp fun b hy hlt => k3 b hlt (by have := (h.hY b hy).1; omega) (small b (h.hY b hy).1)) ⟨af, cf, [], rfl, pv_keptB hp fun b hy hlt => k3 b hlt (by have := (h.hY b hy).1; omega) (small b (h.hY b hy).1), rfl⟩⟩
   have h3 := ownsRow_at ho (w' := w2.setCell ⟨og, i, none⟩ (.slice (some ⟨g, 0, none⟩) ((grp ms L[i]).length + 1) cap)) (fun b e => Below.heap_setCell _ _ _ _ (by simp [Value.ownBlock] at e; simp; omega))
   simpa using h3
  ·rw [if_neg e, grp_no (fun e2 => e (List.getElem_inj h.nd |>.1 (hm.trans e2.symm)))]
   obtain ⟨p1, p2⟩ := h.inn j h1' h2
   refine ⟨ownsRow_at p1 fun b e1 => k3 b (p1.lt b e1).2 (fun e2 => h.outer j h1' b e1 (by rw [e2]; rfl)) (fun e2 => e (h.apart i j hi h1' b e2.symm e1)), p2.imp fun v l hp => pv_keptB hp fun b hy hlt => k3 b hlt (by have := (h.hY b hy).1; omega) (small b (h.hY b hy).1)⟩
 ·have ha' : a < gs.length := by simpa using ha
  have hb2 : b' < gs.length := by simpa using hb'
  rw [List.getElem_set] at e1 e2
  have key : ∀ j, j < gs.length → (hj : j < gs.length) → gs[j].1.ownBlock = some g → j = i := fun j _ hj ej => by
   rcases hat with e' | e'
   ·exact h.apart j i hj hi g ej e'
   ·have := ((h.inn j hj (by have := h.len; omega)).1.lt g ej).2
    simp at e'; omega
  split at e1 <;> split at e2
  ·omega
  ·have hbg : g = b := by simpa [Value.ownBlock] using e1
   subst hbg
   have := key b' hb2 hb2 e2; omega
  ·have hbg : g = b := by simpa [Value.ownBlock] using e2
   subst hbg
   have := key a ha' ha' e1; omega
  ·exact h.apart a b' ha' hb2 b e1 e2
 ·have ha' : a < gs.length := by simpa using ha
  rw [List.getElem_set] at e1
  split at e1
  ·have hbg : g = b := by simpa [Value.ownBlock] using e1
   intro e
   have := e_outer b e.symm
   omega
  ·exact h.outer a ha' b e1
 ·exact hg.os
 ·exact hg.tape
 ·exact hg.output
 ·simp [World.setCell]; omega
def NeG (ms : List Mv) (L : List Sy) : Prop := ∀ x ∈ L, ∃ m ∈ ms, symM m = x
def NeS (ms : List Mv) (s : Sy) (L : List Sy) : Prop := ∀ x ∈ L, x = s ∨ ∃ m ∈ ms, symM m = x
theorem NeG.toS {ms : List Mv} {L : List Sy} (h : NeG ms L) (s : Sy) : NeS ms s L := fun x hx => Or.inr (h x hx)
theorem NeG.new {ms : List Mv} {L : List Sy} (h : NeG ms L) (s : Sy) : NeS ms s (L ++ [s]) := fun x hx => by
 rcases List.mem_append.1 hx with hx | hx
 ·exact Or.inr (h x hx)
 ·exact Or.inl (by simpa using hx)
theorem NeS.snoc {ms : List Mv} {m : Mv} {L : List Sy} (h : NeS ms (symM m) L) : NeG (ms ++ [m]) L := fun x hx => by
 rcases h x hx with e | ⟨k, hk, e⟩
 ·exact ⟨m, by simp, e.symm⟩
 ·exact ⟨k, by simp [hk], e⟩
structure TabV (w : World) (v : Value) (ms : List Mv) : Prop where
 ex : ∃ (r : Nat) (L : List Sy) (a : Option Addr) (c : Nat), v = .agg #[.map (some r), .slice a L.length c] ∧ MapY w r L ∧ L.length ≤ 100000 ∧ ((∀ m ∈ ms, symM m ∈ L) ∧ NeG ms L) ∧ ∀ (i : Nat) (h : i < L.length), ∃ b o ai ci, a = some ⟨b, o, none⟩ ∧ w.cell? ⟨b, o + i, none⟩ = some (.slice ai (grp ms L[i]).length ci) ∧ SlV w (fun _ => True) ai (grp ms L[i])
theorem slV_row {w : World} {N : Nat} {Y : Nat → Prop} {v : Value} {l : List Mv} {xs : List Value} (hown : w.ownsRow N 40 3 v l.length xs) (hrow : RowTV w Y l xs) : ∃ a c, v = .slice a l.length c ∧ SlV w (fun _ => True) a l := by
 have hml : l.length ≤ 9223372036854775807 := by
  rcases hown.2 with ⟨_, h0⟩ | ⟨g, cap, cur, _, _, _, h1, h2, _⟩
  ·omega
  ·unfold maxLen at h2; omega
 by_cases h0 : 0 < l.length
 ·obtain ⟨g, cap, rfl, hg, hlt, hc⟩ := owned_val hown h0
  refine ⟨_, _, rfl, hml, Or.inr ⟨g, 0, rfl, trivial, fun i hi => ?_⟩⟩
  obtain ⟨a, c, h1, h2, h3, h4⟩ := hrow.get i hi
  refine ⟨by simpa using hc _ _ h1, ⟨a, c, by simpa using hc _ _ h2, h4.mono fun _ _ _ => trivial⟩, by simpa using hc _ _ h3⟩
 ·have e : l = [] := List.length_eq_zero_iff.1 (by omega)
  subst e
  rcases hown.2 with ⟨hv, _⟩ | ⟨g, cap, cur, hv, _⟩
  ·exact ⟨none, 0, hv, hml, Or.inl rfl⟩
  ·exact ⟨_, _, hv, hml, Or.inl rfl⟩
theorem TabB.v {w : World} {N : Nat} {Y : Nat → Prop} {r O : Nat} {ms : List Mv} {L : List Sy} {ov : Value} {gs : List (Value × List Value)} (h : TabB w N Y r O ms L ov gs) (hl : L.length ≤ 100000) (hne : NeG ms L) : TabV w (.agg #[.map (some r), ov]) ms := by
 have hlen := h.len
 by_cases h0 : 0 < gs.length
 ·obtain ⟨g, cap, rfl, hg, hlt, hc⟩ := owned_val h.own h0
  refine ⟨r, L, _, cap, by rw [hlen], h.map, hl, ⟨h.all, hne⟩, fun i hi => ?_⟩
  obtain ⟨q1, q2⟩ := h.inn i (by omega) hi
  obtain ⟨ai, ci, e, hs⟩ := slV_row q1 q2
  refine ⟨g, 0, ai, ci, rfl, ?_, hs⟩
  have := hc i gs[i].1 (by simp [show i < gs.length by omega])
  rw [Nat.zero_add, this, e]
 ·have e : L = [] := List.length_eq_zero_iff.1 (by omega)
  subst e
  have e2 : gs = [] := List.length_eq_zero_iff.1 (by omega)
  subst e2
  rcases h.own.2 with ⟨hv, _⟩ | ⟨g, cap, cur, hv, _⟩
  ·exact ⟨r, [], none, 0, by rw [hv]; rfl, h.map, by simp, ⟨h.all, hne⟩, fun i hi => by simp at hi⟩
  ·exact ⟨r, [], _, _, by rw [hv]; rfl, h.map, by simp, ⟨h.all, hne⟩, fun i hi => by simp at hi⟩
theorem TabV.later {w w' : World} {v : Value} {ms : List Mv} (h : TabV w v ms) (hb : Below w.heap.size w w') : TabV w' v ms := by
 obtain ⟨r, L, a, c, e, hm, hl, ha, h1⟩ := h.ex
 refine ⟨r, L, a, c, e, hm.kept (hb.block r hm.lt), hl, ha, fun i hi => ?_⟩
 obtain ⟨b, o, ai, ci, e1, e2, e3⟩ := h1 i hi
 exact ⟨b, o, ai, ci, e1, (hb.cell (p := ⟨b, o + i, none⟩) (cell_ltA e2)).trans e2, e3.later hb⟩
end Go.Proofs.Ytofebfjkodceeaa
