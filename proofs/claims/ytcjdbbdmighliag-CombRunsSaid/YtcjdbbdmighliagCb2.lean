/- Walks: one term applied to another; whether all is put together by ap. -/
import Derived.Test.YtcjdbbdmighliagCb1
import Derived.Test.YtcjdbbdmighliagW6
import Derived.Test.YtcjdbbdmighliagW9
import Derived.Deep.RegionHeld3
namespace Go.Proofs.Ytcjdbbdmighliag
open Go.RowKit
set_option linter.unusedSimpArgs false
set_option linter.unusedVariables false
set_option maxRecDepth 8000

/-- A term is told, of old memory and of new. -/
def TPost (w : World) (X : Nat → Prop) (t : Tm) (e : Ending) (w' : World) : Prop :=
  ∃ v, e = .returned v ∧ TV w' (fun b => X b ∨ w.heap.size ≤ b) v t ∧ Below w.heap.size w w'
theorem TV.or {w : World} {X : Nat → Prop} {v : Value} {t : Tm} (h : TV w X v t) (n : Nat) : TV w (fun b => X b ∨ n ≤ b) v t := h.mono fun _ h _ => Or.inl h
theorem lies_two {w : World} {Y : Nat → Prop} {g T c c2 : Nat} {a a2 : Option Addr} {f x : Tm} (hB : Blk w g #[.string f.name, .slice a f.args.length c, .string x.name, .slice a2 x.args.length c2] T) (hY : Y g) (h1 : Sl w Y a f.args) (h2 : Sl w Y a2 x.args) : Sl w Y (some ⟨g, 0, none⟩) [f, x] := by
  obtain ⟨s, l⟩ := f
  obtain ⟨s2, l2⟩ := x
  refine ⟨by simp, Or.inr ⟨g, 0, rfl, ?_⟩⟩
  simp only [Lies]
  exact ⟨hY, hB.cell 0, ⟨a, c, hB.cell 1, h1⟩, hY, hB.cell 2, ⟨a2, c2, hB.cell 3, h2⟩, trivial⟩
theorem cbCell_lt {w : World} {b o : Nat} {v : Value} (h : w.cell? ⟨b, o, none⟩ = some v) : b < w.heap.size := by
  apply Classical.byContradiction
  intro hn
  have e : w.heap[b]? = none := Array.getElem?_eq_none (by omega)
  simp [World.cell?, e] at h
theorem sl_two {w : World} {X : Nat → Prop} {a : Option Addr} {f x : Tm} (h : Sl w X a [f, x]) : ∃ b o a1 c1 a2 c2, a = some ⟨b, o, none⟩ ∧ b < w.heap.size ∧ w.cell? ⟨b, o, none⟩ = some (.string f.name) ∧ w.cell? ⟨b, o + 1, none⟩ = some (.slice a1 f.args.length c1) ∧ w.cell? ⟨b, o + 2, none⟩ = some (.string x.name) ∧ w.cell? ⟨b, o + 3, none⟩ = some (.slice a2 x.args.length c2) ∧ Sl w X a1 f.args ∧ Sl w X a2 x.args := by
  obtain ⟨s, l⟩ := f
  obtain ⟨s2, l2⟩ := x
  obtain ⟨_, h | ⟨b, o, rfl, h⟩⟩ := h
  · cases h
  · simp only [Lies] at h
    obtain ⟨_, h1, ⟨a1, c1, h2, h3⟩, _, h4, ⟨a2, c2, h5, h6⟩, _⟩ := h
    exact ⟨b, o, a1, c1, a2, c2, rfl, cbCell_lt h1, h1, h2, h4, h5, h3, h6⟩
theorem put2_blk (w : World) (f x : Tm) (a a2 : Option Addr) (c c2 : Nat) :
    Blk ((((w.alloc (.cells #[.string f.name, .slice a f.args.length c] 32)).alloc (.cells #[.string x.name, .slice a2 x.args.length c2] 32)).alloc (.cells #[.string ⟨#[97, 112]⟩, .slice (some ⟨w.heap.size + 1 + 1 + 1, 0, none⟩) 2 2] 32)).alloc (.cells #[.string f.name, .slice a f.args.length c, .string x.name, .slice a2 x.args.length c2] 32)) (w.heap.size + 1 + 1) #[.string ⟨#[97, 112]⟩, .slice (some ⟨w.heap.size + 1 + 1 + 1, 0, none⟩) 2 2] 32 ∧
    Blk ((((w.alloc (.cells #[.string f.name, .slice a f.args.length c] 32)).alloc (.cells #[.string x.name, .slice a2 x.args.length c2] 32)).alloc (.cells #[.string ⟨#[97, 112]⟩, .slice (some ⟨w.heap.size + 1 + 1 + 1, 0, none⟩) 2 2] 32)).alloc (.cells #[.string f.name, .slice a f.args.length c, .string x.name, .slice a2 x.args.length c2] 32)) (w.heap.size + 1 + 1 + 1) #[.string f.name, .slice a f.args.length c, .string x.name, .slice a2 x.args.length c2] 32 := by
  constructor
  · have h := (Blk.new ((w.alloc (.cells #[.string f.name, .slice a f.args.length c] 32)).alloc (.cells #[.string x.name, .slice a2 x.args.length c2] 32)) #[.string ⟨#[97, 112]⟩, .slice (some ⟨w.heap.size + 1 + 1 + 1, 0, none⟩) 2 2] 32).alloc (.cells #[.string f.name, .slice a f.args.length c, .string x.name, .slice a2 x.args.length c2] 32)
    simpa using h
  · have h := Blk.new (((w.alloc (.cells #[.string f.name, .slice a f.args.length c] 32)).alloc (.cells #[.string x.name, .slice a2 x.args.length c2] 32)).alloc (.cells #[.string ⟨#[97, 112]⟩, .slice (some ⟨w.heap.size + 1 + 1 + 1, 0, none⟩) 2 2] 32)) #[.string f.name, .slice a f.args.length c, .string x.name, .slice a2 x.args.length c2] 32
    simpa using h

set_option maxHeartbeats 1000000 in
theorem put2_any (f x : Tm) (fv xv : Value) (w : World) (X : Nat → Prop) (hf : TV w X fv f) (hx : TV w X xv x) :
    Calls Try.prog 60 #[fv, xv] w fun e w' => TPost w X (apT f x) e w' := by
  obtain ⟨a, c, rfl, hs⟩ := hf
  obtain ⟨a2, c2, rfl, hs2⟩ := hx
  have HS := hide hs
  have HS2 := hide hs2
  clear hs hs2
  have HB : Hid (Below w.heap.size w ((((w.alloc (.cells #[.string f.name, .slice a f.args.length c] 32)).alloc (.cells #[.string x.name, .slice a2 x.args.length c2] 32)).alloc (.cells #[.string ⟨#[97, 112]⟩, .slice (some ⟨w.heap.size + 1 + 1 + 1, 0, none⟩) 2 2] 32)).alloc (.cells #[.string f.name, .slice a f.args.length c, .string x.name, .slice a2 x.args.length c2] 32))) := below4 _ _ _ _
  have q := put2_blk w f x a a2 c c2
  have q0 := q.1.cell 0
  have q1 := q.1.cell 1
  have HQ := hide q.2
  clear q
  simp at q0 q1
  go_enter Try.func60, Try.ntmps60
  go_wp2_with fail
  refine bodyPost_ret (v := .agg #[.string ⟨#[97, 112]⟩, .slice (some ⟨w.heap.size + 1 + 1 + 1, 0, none⟩) 2 2]) (by simp [results, Try.results60, go_sem, q0, q1]) rfl ?_
  refine ⟨_, rfl, ⟨_, _, rfl, lies_two HQ.out (Or.inr (by omega)) ?_ ?_⟩, HB.out⟩
  · exact (HS.out.later HB.out).mono fun b h _ => Or.inl h
  · exact (HS2.out.later HB.out).mono fun b h _ => Or.inl h

set_option maxHeartbeats 1000000 in
theorem ap_any (f x : Tm) (fv xv : Value) (w : World) (X : Nat → Prop) (hf : TV w X fv f) (hx : TV w X xv x) :
    Calls Try.prog 86 #[fv, xv] w fun e w' => TPost w X (apT f x) e w' := by
  obtain ⟨a, c, rfl, hs⟩ := hf
  obtain ⟨a2, c2, rfl, hs2⟩ := hx
  have HS := hide hs
  have HS2 := hide hs2
  clear hs hs2
  have HB : Hid (Below w.heap.size w ((((w.alloc (.cells #[.string f.name, .slice a f.args.length c] 32)).alloc (.cells #[.string x.name, .slice a2 x.args.length c2] 32)).alloc (.cells #[.string ⟨#[97, 112]⟩, .slice (some ⟨w.heap.size + 1 + 1 + 1, 0, none⟩) 2 2] 32)).alloc (.cells #[.string f.name, .slice a f.args.length c, .string x.name, .slice a2 x.args.length c2] 32))) := below4 _ _ _ _
  have q := put2_blk w f x a a2 c c2
  have q0 := q.1.cell 0
  have q1 := q.1.cell 1
  have HQ := hide q.2
  clear q
  simp at q0 q1
  go_enter Try.func86, Try.ntmps86
  go_wp2_with fail
  refine bodyPost_ret (v := .agg #[.string ⟨#[97, 112]⟩, .slice (some ⟨w.heap.size + 1 + 1 + 1, 0, none⟩) 2 2]) (by simp [results, Try.results86, go_sem, q0, q1]) rfl ?_
  refine ⟨_, rfl, ⟨_, _, rfl, lies_two HQ.out (Or.inr (by omega)) ?_ ?_⟩, HB.out⟩
  · exact (HS.out.later HB.out).mono fun b h _ => Or.inl h
  · exact (HS2.out.later HB.out).mono fun b h _ => Or.inl h

def allK (l : List Tm) : Bool := l.all okK
theorem allK_take {l : List Tm} {k : Nat} (h : k < l.length) : allK (l.take (k + 1)) = (allK (l.take k) && okK l[k]) := by
  unfold allK; rw [List.take_succ_eq_append_getElem h, List.all_append]; simp
theorem allK_not {l : List Tm} {k : Nat} (h : k < l.length) (hk : okK l[k] = false) : allK l = false := by
  unfold allK
  rw [List.all_eq_false]
  exact ⟨l[k], List.getElem_mem h, by simp [hk]⟩
/-- What is wrong with a term of aps. -/
def combE (t : Tm) : Int := if mayE t = 0 then (if isC t then 0 else 2) else mayE t

set_option maxHeartbeats 1000000 in
theorem combMay_any (t : Tm) (v : Value) (w : World) (X : Nat → Prop) (hv : TV w X v t) :
    Calls Try.prog 9 #[v] w fun e w' => e = .returned (.int .i64 (combE t)) ∧ Below w.heap.size w w' := by
  obtain ⟨a, c, rfl, hs⟩ := hv
  have HV : Hid (TV w X (.agg #[.string t.name, .slice a t.args.length c]) t) := ⟨a, c, rfl, hs⟩
  go_enter Try.func9, Try.ntmps9
  go_wp2_with fail
  refine (termMay_any t _ _ X (HV.out.alloc _)).mono ?_
  rintro e w1 ⟨rfl, hb1⟩
  have c0 : w1.cell? ⟨w.heap.size, 0, none⟩ = some (.string t.name) := by rw [hb1.cell (p := ⟨_, _, none⟩) (by simp)]; simp
  have c1 : w1.cell? ⟨w.heap.size, 1, none⟩ = some (.slice a t.args.length c) := by rw [hb1.cell (p := ⟨_, _, none⟩) (by simp)]; simp
  have hb2 : Below w.heap.size w w1 := ((Below.refl _ _).alloc (Nat.le_refl _) _).trans (hb1.mono (by simp))
  have HB2 := hide hb2
  clear hb1 hs
  by_cases h : mayE t = 0
  · have hsz : sizeL [t] ≤ 200 := by
      unfold mayE at h
      by_cases h2 : 200 < sizeL [t]
      · simp [h2] at h
      · omega
    have HE : Hid (combE t = if allK (preL [t]) then 0 else 2) := by unfold Hid combE allK isC; rw [if_pos h, isCL_pre]
    rw [h]
    clear h
    go_wp2_with fail
    refine (knots_any t _ _ X (HV.out.later HB2.out) (by omega)).mono ?_
    rintro e w2 ⟨v2, xs, rfl, hown, hrow, hb3⟩
    have hpos : 0 < sizeL [t] := size_pos t
    obtain ⟨g, cap, rfl, hg, hg', hcel⟩ := owned_val hown hpos
    have HB4 := hide (hb2.trans (hb3.mono hb2.size))
    have HROW := hide hrow
    have HCEL := hide hcel
    have hpl := preL_length [t]
    generalize preL [t] = ks at *
    have hks : ks.length ≤ 1000 := by omega
    rw [← hpl]
    clear hown hrow hcel hb3 c0 c1 hpl hpos hb2
    go_wp2_with fail
    go_loop [5] (fun i => ∃ k : Nat, k ≤ ks.length ∧ i = .int .i64 k ∧ allK (ks.take k) = true) (fun i => ks.length - (intOf i).toNat)
    case atStart => exact ⟨0, Nat.zero_le _, rfl, by simp [allK]⟩
    case round =>
      obtain ⟨k, hk, rfl, he⟩ := hrel
      have HE1 := hide he
      clear he
      by_cases hlt : k < ks.length
      · obtain ⟨x0, a', c', x1, hsl⟩ := HROW.out.get k hlt
        have d0 := HCEL.out _ _ x0
        have d1 := HCEL.out _ _ x1
        have hl1 := hsl.1
        clear x0 x1 hsl
        have HK : Hid (okK ks[k] = (decide (ks[k].args.length = 0) || (decide (ks[k].name = apB) && decide (ks[k].args.length = 2)))) := rfl
        have HT := hide (allK_take hlt)
        have HNT := hide (fun h => allK_not (l := ks) hlt h)
        generalize ks[k].args.length = n at *
        generalize ks[k].name = nm at *
        by_cases h0 : n = 0
        · subst h0
          go_wp2_with fail
          go_round
          case rel => exact ⟨k + 1, by omega, by go_num, by rw [HT.out, HE1.out, HK.out]; simp⟩
          case measure => simp [intOf]; omega
        · have hg0 : decide ((n : Int) > 0) = true := by simp; omega
          by_cases hnm : nm = apB
          · have e1 : (nm.toList == [97, 112]) = true := nm_yes hnm
            have HN := hide hnm
            clear hnm
            by_cases h2 : n = 2
            · subst h2
              go_wp2_with fail
              go_round
              case rel => exact ⟨k + 1, by omega, by go_num, by rw [HT.out, HE1.out, HK.out, HN.out]; simp⟩
              case measure => simp [intOf]; omega
            · have e2 : ((n : Int) != 2) = true := bne_iff_ne.2 (by omega)
              go_wp2_with fail
              go_ret
              refine ⟨ret_int ?_, HB4.out⟩
              rw [HE.out, HNT.out (by rw [HK.out]; simp [h0, h2])]; rfl
          · have HK2 := hide HK.out
            have e1 : (nm.toList == [97, 112]) = false := nm_no hnm
            clear HK
            go_wp2_with fail
            go_ret
            refine ⟨ret_int ?_, HB4.out⟩
            rw [HE.out, HNT.out (by rw [HK2.out]; simp [h0, hnm])]; rfl
      · have htk : ks.take k = ks := List.take_of_length_le (by omega)
        rw [htk] at HE1
        go_wp2_with fail
        go_ret
        refine ⟨ret_int ?_, HB4.out⟩
        rw [HE.out, HE1.out]; rfl
  · have HE : Hid (combE t = mayE t) := by unfold Hid combE; rw [if_neg h]
    have hne : (mayE t == 0) = false := beq_eq_false_iff_ne.2 h
    clear h
    go_wp2_with fail
    go_ret
    exact ⟨ret_int HE.out.symm, HB2.out⟩
#print axioms combMay_any
end Go.Proofs.Ytcjdbbdmighliag
