/- Walks: what kind bindings are, as the document says. -/
import Derived.Test.YtmkomemjhfafnaaStM
import Derived.Test.YtmkomemjhfafnaaW50
namespace Go.Proofs.Ytmkomemjhfafnaa
open Go.RowKit
set_option linter.unusedSimpArgs false
set_option linter.unusedVariables false
set_option maxRecDepth 8000

/-- The bindings of a list stay, as the document says it. -/
def dsB (ls k : List Bd) : Bool := k.all fun d => dsT ls d.t
theorem dsB_take (ls l : List Bd) (k : Nat) (h : k < l.length) : dsB ls (l.take (k + 1)) = (dsB ls (l.take k) && dsT ls l[k].t) := by
  unfold dsB; rw [List.take_succ_eq_append_getElem h, List.all_append]; simp
theorem dsB_eq {ls : List Bd} (h : bindsE ls = 0) : dsB ls ls = stB ls ls := by
  unfold dsB stB
  rw [Bool.eq_iff_iff, List.all_eq_true, List.all_eq_true]
  constructor
  · intro h1 d hd
    obtain ⟨k, hk, rfl⟩ := List.getElem_of_mem hd
    rw [← dsT_eq h _ (bindsE_at h k hk).2]
    exact h1 _ hd
  · intro h1 d hd
    obtain ⟨k, hk, rfl⟩ := List.getElem_of_mem hd
    rw [dsT_eq h _ (bindsE_at h k hk).2]
    exact h1 _ hd

def KoInv (ls : List Bd) (w : World) (st nm v : Value) (wr : World) : Prop := ∃ k : Nat, v = .int .i64 (k : Int) ∧ k ≤ ls.length ∧ st = .bool (dsB ls (ls.take k)) ∧ nm = .bool (nmT ls k) ∧ Below w.heap.size w wr

def KiInv (ls : List Bd) (w w2 : World) (V : List ByteArray) (s0 : Bool) (st v : Value) (wr : World) : Prop := ∃ j : Nat, v = .int .i64 (j : Int) ∧ j ≤ V.length ∧ st = .bool (s0 && (V.take j).all fun v => stN ls v true) ∧ Below w.heap.size w wr ∧ Below w2.heap.size w2 wr
def KjInv (ls : List Bd) (w : World) (k : Nat) (n : ByteArray) (n1 : Bool) (nm v : Value) (wr : World) : Prop := ∃ j : Nat, v = .int .i64 (j : Int) ∧ j ≤ k ∧ nm = .bool (n1 && !inB n ((ls.take j).map fun d => d.t.name)) ∧ Below w.heap.size w wr
theorem all_take (p : ByteArray → Bool) (V : List ByteArray) (j : Nat) (h : j < V.length) : (V.take (j + 1)).all p = ((V.take j).all p && p V[j]) := by
  rw [List.take_succ_eq_append_getElem h, List.all_append]; simp
theorem in_step (n : ByteArray) (l : List Bd) (j : Nat) (h : j < l.length) : inB n ((l.take (j + 1)).map fun d => d.t.name) = (inB n ((l.take j).map fun d => d.t.name) || (l[j].t.name.toList == n.toList)) := by
  rw [List.take_succ_eq_append_getElem h, List.map_append]
  unfold inB
  rw [List.any_append]
  simp

set_option maxHeartbeats 1000000 in
theorem kindOf_any (ls : List Bd) (u : Value) (w : World) (X : Nat → Prop) (hu : BV w X u ls) (hsm : ∀ d ∈ ls, sizeL [d.t] ≤ 1000000) :
    Calls Try.prog 11 #[u] w fun e w' => e = .returned (.tuple #[.bool (dsB ls ls), .bool (namesB ls)]) ∧ Below w.heap.size w w' := by
  have HU := hide (hu.mono (Y := fun b => X b ∧ b < w.heap.size) fun b h1 h2 => ⟨h1, h2⟩)
  obtain ⟨a, c, rfl, hl, hu2⟩ := hu
  clear hu2
  have HSM := hide hsm
  clear hsm
  go_enter Try.func11, Try.ntmps11
  go_wp2_with fail
  go_loopw [4, 5, 6] (fun st nm v wr => KoInv ls w st nm v wr) (fun st nm v wr => ls.length - (intOf v).toNat)
  case atStart => exact ⟨0, rfl, Nat.zero_le _, rfl, rfl, Below.refl _ _⟩
  case round =>
    obtain ⟨k, rfl, hk, rfl, rfl, hb⟩ := hrel
    have HB := hide hb
    by_cases hlt : k < ls.length
    · obtain ⟨b, o, a', c', rfl, d0, d1, d2, hs⟩ := (HU.out.later hb).get k hlt
      have hlt2 : (k : Int) < (ls.length : Int) := by omega
      have HX := hide hs
      have HSK := hide (HSM.out _ (List.getElem_mem hlt))
      have HDK := hide (dsB_take ls ls k hlt)
      clear hs hb
      generalize hs0 : dsB ls (ls.take k) = s0 at *
      generalize hn0 : nmT ls k = n0 at *
      have HS0 := hide hs0
      have HN0 := hide hn0
      clear hs0 hn0
      generalize hd : ls[k] = d at *
      have HD := hide hd
      clear hd
      generalize wr = W at *
      go_wp2_with fail
      refine (varsOf_any d.t _ _ (fun b => X b ∧ b < w.heap.size) ⟨a', c', rfl, HX.out⟩ HSK.out).mono ?_
      rintro e w2 ⟨v2, rfl, hLV, hb2⟩
      have HLV := hide hLV
      have HB2 := hide (HB.out.trans (hb2.mono HB.out.size))
      obtain ⟨a2, c2, rfl, hl2, _⟩ := hLV
      clear hb2
      have HDS : Hid (dsT ls d.t = (varsP [] (preL [d.t])).all fun v => stN ls v true) := rfl
      generalize hV : varsP [] (preL [d.t]) = V at *
      have HVE := hide hV
      clear hV
      go_wp2_with fail
      go_loopw [4, 8] (fun st v wr => KiInv ls w w2 V s0 st v wr) (fun st v wr => V.length - (intOf v).toNat)
      case atStart => exact ⟨0, rfl, Nat.zero_le _, by simp, HB2.out, Below.refl _ _⟩
      case round =>
        obtain ⟨j, rfl, hj, rfl, hb3, hb4⟩ := hrel
        have HB3 := hide hb3
        have HB4 := hide hb4
        clear hb3 hb4
        by_cases hjl : j < V.length
        · have hjl2 : (j : Int) < (V.length : Int) := by omega
          obtain ⟨av, cv, ev, _, hcell⟩ := HLV.out.later HB4.out
          simp at ev
          obtain ⟨rfl, rfl⟩ := ev
          obtain ⟨bv, ov, rfl, _, hcell⟩ := hcell.resolve_left (fun h => by rw [h] at hjl; simp at hjl)
          have g0 := hcell j hjl
          have HG := hide hcell
          have HAT := hide (all_take (fun v => stN ls v true) V j hjl)
          have hbv : bv < wr.heap.size := cell_lt g0
          clear hcell
          generalize hst : (V.take j).all (fun v => stN ls v true) = st at *
          have HST := hide hst
          clear hst
          generalize hvj : V[j] = vj at *
          have HVJ := hide hvj
          clear hvj
          go_wp2_with fail
          refine (for_any ls vj _ wr _ (HU.out.later HB3.out)).mono ?_
          rintro e w3 ⟨hb5, hcase⟩
          have g1 : ∀ o, (w3.alloc o).cell? ⟨bv, ov + j, none⟩ = some (.string vj) := fun o => cell_later (hb5.alloc hb5.size o) g0
          have HB5 := hide (HB3.out.trans (hb5.mono HB3.out.size))
          have HB6 := hide (HB4.out.trans (hb5.mono HB4.out.size))
          clear hb5
          rcases hcase with ⟨x, ax, cx, hf, rfl, hsx⟩ | ⟨hf, rfl⟩
          · cases hq : (x.name.toList == vj.toList) with
            | true =>
              have HN : Hid ((s0 && st) = (s0 && (V.take (j + 1)).all fun v => stN ls v true)) := by unfold Hid; rw [HAT.out]; simp [stN, hf, hq]
              clear hf hsx
              go_wp2_with fail
              go_quiet (fail)
              go_wp2_with fail
              go_roundw
              case rel => exact ⟨j + 1, by go_num, by omega, by rw [HN.out], below_drewN (HB5.out.alloc HB5.out.size _) _, below_drewN (HB6.out.alloc HB6.out.size _) _⟩
              case measure => simp [intOf]; omega
            | false =>
              have HN : Hid (false = (s0 && (V.take (j + 1)).all fun v => stN ls v true)) := by unfold Hid; rw [HAT.out]; simp [stN, hf, hq]
              clear hf hsx
              go_wp2_with fail
              go_quiet (fail)
              go_wp2_with fail
              go_roundw
              case rel => exact ⟨j + 1, by go_num, by omega, by rw [← HN.out], below_drewN (HB5.out.alloc HB5.out.size _) _, below_drewN (HB6.out.alloc HB6.out.size _) _⟩
              case measure => simp [intOf]; omega
          · have HN : Hid ((s0 && st) = (s0 && (V.take (j + 1)).all fun v => stN ls v true)) := by unfold Hid; rw [HAT.out]; simp [stN, hf]
            clear hf
            go_wp2_with fail
            go_quiet (fail)
            go_wp2_with fail
            go_roundw
            case rel => exact ⟨j + 1, by go_num, by omega, by rw [HN.out], below_drewN (HB5.out.alloc HB5.out.size _) _, below_drewN (HB6.out.alloc HB6.out.size _) _⟩
            case measure => simp [intOf]; omega
        · have HS1 : Hid ((s0 && (V.take j).all fun v => stN ls v true) = dsB ls (ls.take (k + 1))) := by unfold Hid; rw [HDK.out, HDS.out, List.take_of_length_le (by omega)]
          generalize (s0 && (V.take j).all fun v => stN ls v true) = s1 at *
          obtain ⟨b2, o2, a3, c3, e3, f0, f1, f2, hs3⟩ := (HU.out.later HB3.out).get k hlt
          simp at e3
          obtain ⟨rfl, rfl⟩ := e3
          rw [HD.out] at f0 f1 f2
          clear hs3
          have HNK := hide (nmK_at hlt)
          rw [HD.out] at HNK
          cases hv : varB d.t.name with
          | false =>
            have HV := hide hv
            have HN1 : Hid ((false && !inB d.t.name ((ls.take k).map fun d => d.t.name)) = nmT ls (k + 1)) := by unfold Hid; rw [nmT, HNK.out, hv]; simp
            clear hv
            go_wp2_with (go_at_call 32; refine (isVarR_any _ _).mono ?_; rintro e w' ⟨rfl, rfl⟩; rw [HV.out])
            generalize wr = W3 at *
            go_loopw [5, 11] (fun nm v wr => KjInv ls w k d.t.name false nm v wr) (fun nm v wr => k - (intOf v).toNat)
            case atStart => exact ⟨0, rfl, Nat.zero_le _, by simp [inB], HB3.out⟩
            case round =>
              obtain ⟨i, rfl, hi, rfl, hb7⟩ := hrel
              have HB7 := hide hb7
              clear hb7
              by_cases hik : i < k
              · have hik2 : (i : Int) < (k : Int) := by omega
                have hil : i < ls.length := by omega
                have hil2 : (i : Int) < (ls.length : Int) := by omega
                obtain ⟨b2, o2, a3, c3, e3, p0, p1, p2, hs3⟩ := (HU.out.later HB7.out).get k hlt
                simp at e3
                obtain ⟨rfl, rfl⟩ := e3
                rw [HD.out] at p0 p1 p2
                clear hs3
                obtain ⟨b2, o2, a4, c4, e3, q0, q1, q2, hs3⟩ := (HU.out.later HB7.out).get i hil
                simp at e3
                obtain ⟨rfl, rfl⟩ := e3
                clear hs3
                have HIS := hide (in_step d.t.name ls i hil)
                generalize ls[i] = di at *
                cases hq : (di.t.name.toList == d.t.name.toList) with
                | true =>
                  have HN : Hid (false = (false && !inB d.t.name ((ls.take (i + 1)).map fun d => d.t.name))) := by unfold Hid; rw [HIS.out, hq]; simp
                  go_wp2_with fail
                  go_quiet (fail)
                  go_wp2_with fail
                  go_roundw
                  case rel => exact ⟨i + 1, by go_num, by omega, by rw [← HN.out], below_drewN HB7.out _⟩
                  case measure => simp [intOf]; omega
                | false =>
                  have HN : Hid ((false && !inB d.t.name ((ls.take i).map fun d => d.t.name)) = (false && !inB d.t.name ((ls.take (i + 1)).map fun d => d.t.name))) := by unfold Hid; rw [HIS.out, hq]; simp
                  generalize hz : (false && !inB d.t.name ((ls.take i).map fun d => d.t.name)) = zz at *
                  clear hz
                  go_wp2_with fail
                  go_quiet (fail)
                  go_wp2_with fail
                  go_roundw
                  case rel => exact ⟨i + 1, by go_num, by omega, by rw [HN.out], below_drewN HB7.out _⟩
                  case measure => simp [intOf]; omega
              · have hie : i = k := by omega
                subst hie
                have HF := hide (HN1.out)
                generalize (false && !inB d.t.name ((ls.take i).map fun d => d.t.name)) = zz at *
                go_wp2_with fail
                go_roundw
                case rel => exact ⟨i + 1, by go_num, by omega, by rw [HS1.out], by rw [HF.out], HB7.out⟩
                case measure => simp [intOf]; omega
          | true =>
            have HV := hide hv
            have HN1 : Hid ((n0 && !inB d.t.name ((ls.take k).map fun d => d.t.name)) = nmT ls (k + 1)) := by unfold Hid; rw [nmT, HNK.out, hv, HN0.out]; simp
            clear hv
            go_wp2_with (go_at_call 32; refine (isVarR_any _ _).mono ?_; rintro e w' ⟨rfl, rfl⟩; rw [HV.out])
            generalize wr = W3 at *
            go_loopw [5, 11] (fun nm v wr => KjInv ls w k d.t.name n0 nm v wr) (fun nm v wr => k - (intOf v).toNat)
            case atStart => exact ⟨0, rfl, Nat.zero_le _, by simp [inB], HB3.out⟩
            case round =>
              obtain ⟨i, rfl, hi, rfl, hb7⟩ := hrel
              have HB7 := hide hb7
              clear hb7
              by_cases hik : i < k
              · have hik2 : (i : Int) < (k : Int) := by omega
                have hil : i < ls.length := by omega
                have hil2 : (i : Int) < (ls.length : Int) := by omega
                obtain ⟨b2, o2, a3, c3, e3, p0, p1, p2, hs3⟩ := (HU.out.later HB7.out).get k hlt
                simp at e3
                obtain ⟨rfl, rfl⟩ := e3
                rw [HD.out] at p0 p1 p2
                clear hs3
                obtain ⟨b2, o2, a4, c4, e3, q0, q1, q2, hs3⟩ := (HU.out.later HB7.out).get i hil
                simp at e3
                obtain ⟨rfl, rfl⟩ := e3
                clear hs3
                have HIS := hide (in_step d.t.name ls i hil)
                generalize ls[i] = di at *
                cases hq : (di.t.name.toList == d.t.name.toList) with
                | true =>
                  have HN : Hid (false = (n0 && !inB d.t.name ((ls.take (i + 1)).map fun d => d.t.name))) := by unfold Hid; rw [HIS.out, hq]; simp
                  go_wp2_with fail
                  go_quiet (fail)
                  go_wp2_with fail
                  go_roundw
                  case rel => exact ⟨i + 1, by go_num, by omega, by rw [← HN.out], below_drewN HB7.out _⟩
                  case measure => simp [intOf]; omega
                | false =>
                  have HN : Hid ((n0 && !inB d.t.name ((ls.take i).map fun d => d.t.name)) = (n0 && !inB d.t.name ((ls.take (i + 1)).map fun d => d.t.name))) := by unfold Hid; rw [HIS.out, hq]; simp
                  generalize hz : (n0 && !inB d.t.name ((ls.take i).map fun d => d.t.name)) = zz at *
                  clear hz
                  go_wp2_with fail
                  go_quiet (fail)
                  go_wp2_with fail
                  go_roundw
                  case rel => exact ⟨i + 1, by go_num, by omega, by rw [HN.out], below_drewN HB7.out _⟩
                  case measure => simp [intOf]; omega
              · have hie : i = k := by omega
                subst hie
                have HF := hide (HN1.out)
                generalize (n0 && !inB d.t.name ((ls.take i).map fun d => d.t.name)) = zz at *
                go_wp2_with fail
                go_roundw
                case rel => exact ⟨i + 1, by go_num, by omega, by rw [HS1.out], by rw [HF.out], HB7.out⟩
                case measure => simp [intOf]; omega
    · have hke : k = ls.length := by omega
      subst hke
      have HF : Hid (dsB ls (ls.take ls.length) = dsB ls ls) := by unfold Hid; rw [List.take_length]
      have HN : Hid (nmT ls ls.length = namesB ls) := rfl
      rw [HF.out, HN.out]
      clear HF HN
      go_wp2_with fail
      go_ret2
      exact ⟨rfl, HB.out⟩
#print axioms kindOf_any
end Go.Proofs.Ytmkomemjhfafnaa
