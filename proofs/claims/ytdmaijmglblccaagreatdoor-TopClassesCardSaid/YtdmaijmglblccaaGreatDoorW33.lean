/- Walks: the reader's terms. -/
import Derived.Test.YtdmaijmglblccaaGreatDoorW32
import Derived.Test.YtdmaijmglblccaaGreatDoorZBTopClassesOwn
import Derived.Deep.RegionLaw
namespace Go.Proofs.YtdmaijmglblccaaGreatDoor
open Go.RowKit
set_option linter.unusedSimpArgs false
set_option linter.unusedVariables false
set_option maxRecDepth 8000

def RdPost (w : World) (B : Nat) (s : ByteArray) (r : Rd) (e : Ending) (w' : World) : Prop :=
  if r.err = 0 then ∃ a c, e = .returned (.agg #[.string r.t.name, .slice a r.t.args.length c]) ∧ Sl w' (fun b => w.heap.size ≤ b) a r.t.args ∧ Bx w' B s r.pos r.k ∧ Ex B w w'
  else e = .panicked [{ v := .iface 28 (.int .i64 r.err), recovered := false }] ∧ Ex B w w'

theorem rdPost_no {w w' : World} {B : Nat} {s : ByteArray} {r : Rd} {z : Int} (h : r = noRd z) (hz : z ≠ 0) (he : Ex B w w') : RdPost w B s r (.panicked [{ v := .iface 28 (.int .i64 z), recovered := false }]) w' := by
  subst h
  unfold RdPost
  rw [if_neg (by exact hz)]
  exact ⟨rfl, he⟩

theorem rdPost_yes {w w' : World} {B p k c : Nat} {s nm : ByteArray} {r : Rd} {a : Option Addr} {args : List Tm} (h : r = ⟨0, ⟨nm, args⟩, p, k⟩) (hs : Sl w' (fun b => w.heap.size ≤ b) a args) (hx : Bx w' B s p k) (he : Ex B w w') : RdPost w B s r (.returned (.agg #[.string nm, .slice a args.length c])) w' := by
  subst h
  unfold RdPost
  rw [if_pos rfl]
  exact ⟨a, c, rfl, hs, hx, he⟩

/-- No more knots than may be. -/
theorem rd_k (s : ByteArray) : ∀ f m i k, (rd s f m i k).err = 0 → k ≤ 200 → (rd s f m i k).k ≤ 200 := by
  intro f
  induction f with
  | zero => intro m i k h; simp [rd, noRd] at h
  | succ f ih =>
    intro m i k h hk
    match m with
    | none =>
      unfold rd at h ⊢
      split at h
      · exfalso; revert h; simp only [noRd]; split <;> omega
      · rename_i h1
        rw [if_neg h1]
        split at h
        · exfalso; revert h; simp [noRd]
        · rename_i h2
          rw [if_neg h2]
          split at h
          · exfalso; revert h; simp [noRd]
          · rename_i h3
            rw [if_neg h3]
            split at h
            · rename_i h4
              rw [if_pos h4]
              split at h
              · exfalso; revert h; simp [noRd]
              · rename_i h5
                rw [if_neg h5]
                exact ih _ _ _ h (by omega)
            · rename_i h4
              rw [if_neg h4]
              show k + 1 ≤ 200
              omega
    | some (nm, acc) =>
      unfold rd at h ⊢
      split at h
      · rename_i h1
        exact absurd h h1
      · rename_i h1
        rw [if_neg h1]
        simp only [ne_eq, Decidable.not_not] at h1
        have h3 := ih none (i + 1) k h1 hk
        split at h
        · exfalso; revert h; simp [noRd]
        · rename_i h2
          rw [if_neg h2]
          split at h
          · rename_i h4
            rw [if_pos h4]
            exact h3
          · rename_i h4
            rw [if_neg h4]
            split at h
            · rename_i h5
              rw [if_pos h5]
              exact ih _ _ _ h h3
            · exfalso; revert h; simp [noRd]

theorem Bx.alloc {w : World} {B i k : Nat} {s : ByteArray} (h : Bx w B s i k) (o : Obj) : Bx (w.alloc o) B s i k := Blk.alloc h o

theorem read_step {w wr w1 w3 : World} {B T Ty : Nat} {u : Value} {acc : List Tm} {xs : List Value} {o2 : Obj} {s s' nm : ByteArray} {a1 : Option Addr} {n1 c1 g cap p k' : Nat} {cR : Array Value} {t : Tm} (hBw : B < w.heap.size) (hwT : w.heap.size < T) (hTr : T < wr.heap.size)
    (hrow : Row wr (T + 1) Ty (fun _ => False) u acc xs) (hx : Ex B w wr) (hR : Blk wr w.heap.size cR Ty) (hT : Blk wr T #[.string nm, u] Ty)
    (he1 : Ex B wr w1) (hbx : Bx w1 B s p k') (ht : TV w1 (fun b => wr.heap.size ≤ b) (.agg #[.string s', .slice a1 n1 c1]) t)
    (hown : w3.ownsRow (T + 1) Ty 2 (.slice (some ⟨g, 0, none⟩) (acc.length + 1) cap) (acc.length + 1) (xs ++ [.string s', .slice a1 n1 c1])) (hg : (w1.alloc o2).grownBy w3 u.ownBlock) (hat : u.ownBlock = some g ∨ g = (w1.alloc o2).heap.size) :
    let w4 := w3.setCell ⟨T, 1, none⟩ (.slice (some ⟨g, 0, none⟩) (acc.length + 1) cap)
    Row w4 (T + 1) Ty (fun _ => False) (.slice (some ⟨g, 0, none⟩) (acc.length + 1) cap) (acc ++ [t]) (xs ++ [.string s', .slice a1 n1 c1]) ∧ Ex B w w4 ∧ Blk w4 w.heap.size cR Ty ∧ Blk w4 T #[.string nm, .slice (some ⟨g, 0, none⟩) (acc.length + 1) cap] Ty ∧ Bx w4 B s p k' ∧ T < w4.heap.size := by
  intro w4
  have hlt' := hrow.own.lt
  obtain ⟨wm, hbm, hsm, hem⟩ := he1.mid
  have hrm := hrow.ex hem (by omega) (fun h => h)
  have hp := hrm.push (w1 := w1) (w2 := w1.alloc o2) (w3 := w3) (by omega) (fun _ h => h.elim) hbm (ht.mono fun b h _ => Or.inr (by omega)) o2 rfl hown hg hat
  have hne : ∀ b, b < T + 1 → some b ≠ u.ownBlock := fun b hb e => by have := (hlt' b e.symm).1; omega
  have hx3 : Ex B w w3 := ((hx.trans he1).alloc o2).grown hg (fun k hk => by have := (hlt' k hk).1; omega)
  have hs3 := hg.size
  have hs1 := he1.size
  simp at hs3
  refine ⟨hp.setCell (by omega) (fun h => h) _, hx3.setNew (by omega) _ _, ?_, ?_, ?_, by simp [w4, World.setCell]; omega⟩
  · exact (((hR.ex he1 (by omega)).alloc o2).grown hg (hne _ (by omega))).setOther _ _ (by omega)
  · exact (((hT.ex he1 (by omega)).alloc o2).grown hg (hne _ (by omega))).set 1 _
  · exact ((Blk.alloc hbx o2).grown hg (hne _ (by omega))).setOther _ _ (by omega)

/-- Behind a term below a name. -/
def RtGot (w : World) (B T : Nat) (s nm : ByteArray) (args : List Tm) (u : Value) (p k : Nat) (w' : World) : Prop :=
  ∃ xs, Row w' (T + 1) 25 (fun _ => False) u args xs ∧ Ex B w w' ∧ Blk w' w.heap.size #[.string ⟨#[]⟩, .slice none 0 0] 25 ∧ Blk w' T #[.string nm, u] 25 ∧ Bx w' B s p k ∧ T < w'.heap.size
theorem RtGot.bx {w : World} {B T : Nat} {s nm : ByteArray} {args : List Tm} {u : Value} {p k : Nat} {w' : World} (h : RtGot w B T s nm args u p k w') : Bx w' B s p k := by obtain ⟨xs, _, _, _, _, h, _⟩ := h; exact h
theorem RtGot.ex0 {w : World} {B T : Nat} {s nm : ByteArray} {args : List Tm} {u : Value} {p k : Nat} {w' : World} (h : RtGot w B T s nm args u p k w') : Ex B w w' := by obtain ⟨xs, _, h, _⟩ := h; exact h
theorem RtGot.rb {w : World} {B T : Nat} {s nm : ByteArray} {args : List Tm} {u : Value} {p k : Nat} {w' : World} (h : RtGot w B T s nm args u p k w') : Blk w' w.heap.size #[.string ⟨#[]⟩, .slice none 0 0] 25 := by obtain ⟨xs, _, _, h, _⟩ := h; exact h
theorem RtGot.tb {w : World} {B T : Nat} {s nm : ByteArray} {args : List Tm} {u : Value} {p k : Nat} {w' : World} (h : RtGot w B T s nm args u p k w') : Blk w' T #[.string nm, u] 25 := by obtain ⟨xs, _, _, _, h, _⟩ := h; exact h
theorem RtGot.sl {w : World} {B T : Nat} {s nm : ByteArray} {args : List Tm} {u : Value} {p k : Nat} {w' : World} (h : RtGot w B T s nm args u p k w') : ∃ a c, u = .slice a args.length c ∧ Sl w' (fun b => T + 1 ≤ b) a args := by
  obtain ⟨xs, h, _⟩ := h
  obtain ⟨a, c, e, hs⟩ := h.sl
  exact ⟨a, c, e, hs.mono fun b hb _ => hb.elim False.elim id⟩
theorem RtGot.ex {w : World} {B T : Nat} {s nm : ByteArray} {args : List Tm} {u : Value} {p k p' k' : Nat} {w' w'' : World} (h : RtGot w B T s nm args u p k w') (he : Ex B w' w'') (hx : Bx w'' B s p' k') (hB : B < w.heap.size) (hT : w.heap.size < T) : RtGot w B T s nm args u p' k' w'' := by
  obtain ⟨xs, h1, h2, h3, h4, h5, h6⟩ := h
  have := he.size
  exact ⟨xs, h1.ex he (by omega) (fun h => h), h2.trans he, h3.ex he (by omega), h4.ex he (by omega), hx, by omega⟩
theorem sl_set2 {w w7 : World} {T : Nat} {a : Option Addr} {l : List Tm} {v0 v1 : Value} (hs : Sl w7 (fun b => T + 1 ≤ b) a l) (hT : w.heap.size < T) : Sl ((w7.setCell ⟨w.heap.size, 0, none⟩ v0).setCell ⟨w.heap.size, 1, none⟩ v1) (fun b => w.heap.size ≤ b) a l :=
  (hs.kept fun b hb => by rw [Below.heap_setCell _ _ _ _ (by simp; omega), Below.heap_setCell _ _ _ _ (by simp; omega)]).mono fun b hb _ => by omega

/-- Where the reader stands between two terms below a name. -/
def RtInv (w : World) (B T F : Nat) (s nm : ByteArray) (r : Rd) (wr : World) : Prop :=
  ∃ (f' : Nat) (acc : List Tm) (j k' : Nat) (u : Value) (xs : List Value), f' + 1 < F ∧ 2 * (s.size - j) + 1 ≤ f' ∧ j < s.size ∧ acc.length ≤ j ∧ k' ≤ 200 ∧ r = rd s (f' + 1) (some (nm, acc)) j k' ∧ Bx wr B s (j + 1) k' ∧ Ex B w wr ∧ Blk wr w.heap.size #[.string ⟨#[]⟩, .slice none 0 0] 25 ∧ Blk wr T #[.string nm, u] 25 ∧ Row wr (T + 1) 25 (fun _ => False) u acc xs ∧ T < wr.heap.size

set_option maxHeartbeats 1000000 in
theorem rterm_any (B : Nat) (s : ByteArray) (hs : s.size ≤ 4000) : ∀ (F i k : Nat) (w : World), i ≤ s.size → k ≤ 200 → 2 * (s.size - i) + 1 ≤ F → Bx w B s i k →
    Calls Tryz.prog 39 #[.pointer (some ⟨B, 0, none⟩)] w fun e w' => RdPost w B s (rd s F none i k) e w' := by
  intro F
  induction F using Nat.strongRecOn with
  | ind F ih =>
    intro i k w hi hk hF hbx
    have IH := hide ih
    clear ih
    obtain ⟨f, rfl⟩ : ∃ f, F = f + 1 := ⟨F - 1, by omega⟩
    obtain ⟨i0, hi0, hz0, hz1, hz2⟩ := info_parts Tryz.infoTerm
    have HRD : Hid (rd s (f + 1) none i k = if stopAt s i = i then noRd (if i = s.size then 13 else 12)
      else if nameB (s.extract i (stopAt s i)) = false then noRd 1
      else if 200 < k + 1 then noRd 3
      else if stopAt s i < s.size ∧ byteAt s (stopAt s i) = 40 then
        if varB (s.extract i (stopAt s i)) = true then noRd 2 else rd s f (some (s.extract i (stopAt s i), [])) (stopAt s i) (k + 1)
      else ⟨0, ⟨s.extract i (stopAt s i), []⟩, stopAt s i, k + 1⟩) := by unfold Hid; rw [rd]
    generalize rd s (f + 1) none i k = r at *
    have HX := hide hbx
    have hBlt := hbx.lt
    clear hbx
    go_enter Tryz.func39, Tryz.ntmps39
    go_wp2_with fail
    refine (name_any B i k s hi hs _ (by exact HX.out.alloc _)).mono ?_
    intro e w1 hp
    have E0 := hide ((Ex.refl B w).alloc (.cells #[.string ⟨#[]⟩, .slice none 0 0] 25))
    unfold NamePost at hp
    by_cases h1 : stopAt s i = i
    · rw [if_pos h1] at hp
      obtain ⟨rfl, he⟩ := hp
      exact ⟨rfl, rdPost_no (by rw [HRD.out, if_pos h1]) (by split <;> omega) (E0.out.trans he)⟩
    · rw [if_neg h1] at hp
      by_cases h2 : nameB (s.extract i (stopAt s i)) = false
      · rw [if_pos h2] at hp
        obtain ⟨rfl, he⟩ := hp
        exact ⟨rfl, rdPost_no (by rw [HRD.out, if_neg h1, if_pos h2]) (by omega) (E0.out.trans he)⟩
      · rw [if_neg h2] at hp
        obtain ⟨rfl, hx1, he1, hz1⟩ := hp
        have hjs := stopAt_le s hi
        have hji := stopAt_ge s i
        generalize hj : stopAt s i = j at *
        generalize hnm : s.extract i j = nm at *
        have E1 := hide (E0.out.trans he1)
        have X1 := hide hx1
        have R1 := hide ((Blk.new w #[.string ⟨#[]⟩, .slice none 0 0] 25).ex he1 (by omega))
        have hRlt : w.heap.size < w1.heap.size := R1.out.lt
        have HH : Hid (¬ j = i ∧ ¬ nameB nm = false) := ⟨h1, h2⟩
        clear he1 hx1 hz1 hj hnm h1 h2
        have hB1 : B < w1.heap.size := X1.out.lt
        have X1a := hide (X1.out.alloc (.cells #[.string nm, .slice none 0 0] 25))
        have E1a := hide (E1.out.alloc (.cells #[.string nm, .slice none 0 0] 25))
        have R1a := hide (R1.out.alloc (.cells #[.string nm, .slice none 0 0] 25))
        have T1a := hide (Blk.new w1 #[.string nm, .slice none 0 0] 25)
        clear X1 R1 E1 E0 HX
        go_wp2_with fail
        refine (rdKnot_any B j k s (by omega) _ X1a.out).mono ?_
        intro e w2 hp
        unfold RdKnotPost at hp
        by_cases h3 : 200 < k + 1
        · rw [if_pos h3] at hp
          obtain ⟨he, he2⟩ := hp
          unfold thrown at he
          subst he
          exact ⟨rfl, rdPost_no (by rw [HRD.out, if_neg HH.out.1, if_neg HH.out.2, if_pos h3]) (by omega) (E1a.out.trans he2)⟩
        · rw [if_neg h3] at hp
          obtain ⟨⟨v2, rfl⟩, hx2, he2, hzz⟩ := hp
          have X2 := hide hx2
          have E2 := hide (E1a.out.trans he2)
          have R2 := hide (R1a.out.ex he2 (by omega))
          have T2 := hide (T1a.out.ex he2 (by omega))
          have HB2 := hide hB1
          clear hx2 he2 hzz X1a R1a E1a T1a
          go_wp2_with fail
          generalize w1.heap.size = T at *
          clear w1
          refine (take_any B j (k + 1) s 40 hjs hs _ X2.out).mono ?_
          intro e w3 hp
          unfold TookPost at hp
          by_cases h4 : j < s.size ∧ byteAt s j = 40
          · rw [if_pos h4] at hp
            obtain ⟨rfl, hx3, he3, hz3⟩ := hp
            have X3 := hide hx3
            have E3 := hide (E2.out.trans he3)
            have R3 := hide (R2.out.ex he3 (by omega))
            have T3 := hide (T2.out.ex he3 (by omega))
            have HT := hide (show T < w3.heap.size from T3.out.lt)
            clear hx3 he3 hz3
            have t0 : w3.cell? ⟨T, 0, none⟩ = some (.string nm) := T3.out.cell 0
            go_wp2_with fail
            refine (isVariable_all _ _).mono ?_
            rintro e w4 ⟨rfl, rfl⟩
            cases hv : varB nm with
            | true =>
              have HV := hide hv
              clear hv
              go_wp2_with fail
              exact ⟨rfl, rdPost_no (by rw [HRD.out, if_neg HH.out.1, if_neg HH.out.2, if_neg h3, if_pos h4, if_pos HV.out]) (by omega) E3.out⟩
            | false =>
              have HV := hide hv
              have HR0 : Hid (r = rd s f (some (nm, [])) j (k + 1)) := by unfold Hid; rw [HRD.out, if_neg HH.out.1, if_neg HH.out.2, if_neg h3, if_pos h4, if_neg (by rw [HV.out]; simp)]
              clear hv
              have hji3 : i < j := by have := HH.out.1; omega
              obtain ⟨f0, rfl⟩ : ∃ f0, f = f0 + 1 := ⟨f - 1, by omega⟩
              go_wp2_with fail
              go_loopw [] (fun wr => RtInv w B T (f0 + 1 + 1) s nm r wr) (fun wr => s.size - rdAt wr B)
              case atStart => exact ⟨f0, [], j, k + 1, .slice none 0 0, [], by omega, by omega, h4.1, by simp, by omega, HR0.out, X3.out, E3.out, R3.out, T3.out, Row.start _ _ _ _, HT.out⟩
              case round =>
                obtain ⟨f', acc, j2, k2, u, xs, hf1, hf2, hj2, hal, hk2, hr, hbx, hex, hR, hT, hrow, hTl⟩ := hrel
                have IHQ := hide (IH.out f' (by omega) (j2 + 1) k2)
                have HQ : Hid (r = if (rd s f' none (j2 + 1) k2).err ≠ 0 then noRd (rd s f' none (j2 + 1) k2).err
    else if (rd s f' none (j2 + 1) k2).pos = s.size then noRd 13
    else if byteAt s (rd s f' none (j2 + 1) k2).pos = 41 then ⟨0, ⟨nm, acc ++ [(rd s f' none (j2 + 1) k2).t]⟩, (rd s f' none (j2 + 1) k2).pos + 1, (rd s f' none (j2 + 1) k2).k⟩
    else if byteAt s (rd s f' none (j2 + 1) k2).pos = 44 then rd s f' (some (nm, acc ++ [(rd s f' none (j2 + 1) k2).t])) (rd s f' none (j2 + 1) k2).pos (rd s f' none (j2 + 1) k2).k
    else noRd 12) := by unfold Hid; rw [hr, rd]
                have HPOS := hide (rd_pos s f' none (j2 + 1) k2)
                have HKK := hide (rd_k s f' none (j2 + 1) k2)
                generalize rd s f' none (j2 + 1) k2 = q at *
                have XB := hide hbx
                have XE := hide hex
                have XR := hide hR
                have XT := hide hT
                have XW := hide hrow
                have hc1 : wr.cell? ⟨T, 1, none⟩ = some u := hT.cell 1
                clear hbx hex hR hT hrow hr
                by_cases hq : q.err = 0
                · have HQE := hide hq
                  have HP9 := hide (HPOS.out hq (by omega) (fun h => by cases h))
                  have HK9 := hide (HKK.out hq hk2)
                  have IHR : Hid (Calls Tryz.prog 39 #[.pointer (some ⟨B, 0, none⟩)] wr.drew fun e w'' => ∃ a c, e = .returned (.agg #[.string q.t.name, .slice a q.t.args.length c]) ∧ Sl w'' (fun b => wr.heap.size ≤ b) a q.t.args ∧ Bx w'' B s q.pos q.k ∧ Ex B wr w'') := (IHQ.out wr.drew (by omega) hk2 (by omega) (by exact XB.out)).mono fun e w'' hp => by
                    unfold RdPost at hp
                    rw [if_pos hq] at hp
                    obtain ⟨a, c, h1, h2, h3, h4⟩ := hp
                    exact ⟨a, c, h1, h2, h3, ((Ex.refl B wr).drew).trans h4⟩
                  have HTB : Hid (T ≠ B) := by unfold Hid; omega
                  have hTl2 : T + 1 ≤ wr.heap.size := hTl
                  clear hq IHQ
                  go_wp2_with fail
                  go_region_law (first
                    | (go_simp; go_at_call 39; refine IHR.out.mono ?_; rintro e w1 ⟨a1, c1, rfl, hs1, hb1, he1⟩; have hc3 : ∀ o, (w1.alloc o).cell? ⟨T, 1, none⟩ = some u := fun o => ((Blk.ex XT.out he1 HTB.out).alloc o).cell 1; have hc4 : w1.cell? ⟨T, 1, none⟩ = some u := (Blk.ex XT.out he1 HTB.out).cell 1)
                    | (refine step_append_lies _ rfl _ _ 23 rfl (T + 1) 25 i0 _ 2 40 Tryz.underlying23 hi0 hz0 hz1 hz2 rfl (by decide) u acc.length xs rfl (by exact (Row.ex (B := B) XW.out he1 (by omega) (fun h => h)).own.alloc _) ⟨w1.heap.size, 0, none⟩ 1 1 [.string q.t.name, .slice a1 q.t.args.length c1] rfl rfl (cell_two_new _ _ _ _) (fun x hx => by simp at hx; rcases hx with rfl | rfl <;> rfl) (by decide) (by unfold maxLen; first | omega | (simp; omega)) (by first | omega | (simp; omega)) (by have := he1.size; first | omega | (simp; omega)) _ rfl ?_; intro g cap w3 hown3 hgrow3 hat3 hlt3; have hB3 := hide (((Blk.ex XT.out he1 HTB.out).alloc _).grown hgrow3 (XW.out.ne (Nat.lt_succ_self _))); have hc5 : w3.cell? ⟨T, 1, none⟩ = some u := hB3.out.cell 1; have hf5 := hB3.out.frozen 1))
                  all_goals
                    have HFIN := hide (read_step hBlt hRlt hTl XW.out XE.out XR.out XT.out he1 hb1 ⟨a1, c1, rfl, hs1⟩ hown3 hgrow3 hat3)
                    clear hown3 hgrow3 hat3 hc3 hc4 hs1 hb1 he1 hlt3 hB3
                    go_wp2_with fail
                    generalize hw6 : w3.setCell ⟨T, 1, none⟩ (.slice (some ⟨g, 0, none⟩) (acc.length + 1) cap) = w6 at *
                    have G : Hid (RtGot w B T s nm (acc ++ [q.t]) (.slice (some ⟨g, 0, none⟩) (acc.length + 1) cap) q.pos q.k w6) := by
                      exact ⟨_, HFIN.out⟩
                    clear hw6 HFIN hc5 hf5 hc1
                    refine (take_any B q.pos q.k s 41 HP9.out.2 hs _ (by exact G.out.bx)).mono ?_
                    intro e w7 hp
                    unfold TookPost at hp
                    by_cases h6 : q.pos < s.size ∧ byteAt s q.pos = 41
                    · rw [if_pos h6] at hp
                      obtain ⟨rfl, hx7, he7, hz7⟩ := hp
                      have G7 := hide (G.out.ex he7 hx7 (by omega) (by omega))
                      have HR7 : Hid (r = ⟨0, ⟨nm, acc ++ [q.t]⟩, q.pos + 1, q.k⟩) := by unfold Hid; rw [HQ.out, if_neg (by rw [HQE.out]; simp), if_neg (by omega), if_pos h6.2]
                      obtain ⟨a7, c7, hu7, hs7⟩ := G7.out.sl
                      clear hx7 he7 hz7 h6
                      rw [hu7] at G7
                      generalize acc ++ [q.t] = args at *
                      have S7 := hide hs7
                      clear hs7 hu7 G
                      have t0 : w7.cell? ⟨T, 0, none⟩ = some (.string nm) := G7.out.tb.cell 0
                      have t1 : w7.cell? ⟨T, 1, none⟩ = some (.slice a7 args.length c7) := G7.out.tb.cell 1
                      have r0 : w7.cell? ⟨w.heap.size, 0, none⟩ = some (.string ⟨#[]⟩) := G7.out.rb.cell 0
                      have r1 : w7.cell? ⟨w.heap.size, 1, none⟩ = some (.slice none 0 0) := G7.out.rb.cell 1
                      have rf := G7.out.rb.frozen
                      go_wp2_with fail
                      refine bodyPost_ret (v := .agg #[.string nm, .slice a7 args.length c7]) (by simp [results, Tryz.results39, go_sem, World.cell?_setCell_same, World.cell?_setCell_other, r0, r1]) rfl ?_
                      exact rdPost_yes HR7.out (sl_set2 S7.out hRlt) (by exact (Blk.setOther (Blk.setOther G7.out.bx _ _ (by omega)) _ _ (by omega))) ((G7.out.ex0.setNew (Nat.le_refl _) _ _).setNew (Nat.le_refl _) _ _)
                    · rw [if_neg h6] at hp
                      obtain ⟨rfl, n7, rfl⟩ := hp
                      go_wp2_with fail
                      refine (rdAsk_any B q.pos q.k s 44 HP9.out.2 hs _ (by exact G.out.bx)).mono ?_
                      intro e w9 hp
                      unfold RdAskPost at hp
                      by_cases h8 : q.pos < s.size ∧ byteAt s q.pos = 44
                      · rw [if_pos h8] at hp
                        obtain ⟨⟨v9, rfl⟩, hx9, he9, hz9⟩ := hp
                        have G9 := hide (G.out.ex ((Ex.refl B w6).drewN n7 |>.trans he9) hx9 (by omega) (by omega))
                        obtain ⟨f2, rfl⟩ : ∃ f2, f' = f2 + 1 := ⟨f' - 1, by omega⟩
                        have HR9 : Hid (r = rd s (f2 + 1) (some (nm, acc ++ [q.t])) q.pos q.k) := by unfold Hid; rw [HQ.out, if_neg (by rw [HQE.out]; simp), if_neg (by omega), if_neg (fun h => h6 ⟨h8.1, h⟩), if_pos h8.2]
                        clear hx9 he9 hz9
                        go_wp2_with fail
                        go_roundw
                        case rel =>
                          obtain ⟨xs9, g1, g2, g3, g4, g5, g6⟩ := G9.out
                          have hp9 := HP9.out
                          exact ⟨f2, acc ++ [q.t], q.pos, q.k, _, xs9, by omega, by omega, h8.1, by simp; omega, HK9.out, HR9.out, g5, g2, g3, g4, g1, g6⟩
                        case measure =>
                          have e1 := XB.out.at
                          have e2 := G9.out.bx.at
                          have hp9 := HP9.out
                          rw [e1, e2]; omega
                      · rw [if_neg h8] at hp
                        obtain ⟨he, n9, rfl⟩ := hp
                        unfold thrown at he
                        subst he
                        generalize hz : (if q.pos = s.size then (13 : Int) else 12) = z
                        have HR9 : Hid (r = noRd z ∧ z ≠ 0) := by
                          unfold Hid
                          rw [HQ.out, if_neg (by rw [HQE.out]; simp), ← hz]
                          have hp9 := HP9.out.2
                          by_cases he : q.pos = s.size
                          · rw [if_pos he, if_pos he]; exact ⟨rfl, by decide⟩
                          · rw [if_neg he, if_neg he, if_neg (fun h => h6 ⟨by omega, h⟩), if_neg (fun h => h8 ⟨by omega, h⟩)]; exact ⟨rfl, by decide⟩
                        clear hz
                        exact ⟨rfl, rdPost_no HR9.out.1 HR9.out.2 ((G.out.ex0.drewN _).drewN _)⟩
                · have HQE := hide hq
                  clear hq
                  go_wp2_with fail
                  refine wp_region_held_drew (S := fun w' => Blk w' T #[.string nm, u] 25) (by kernel_rfl) (by exact XT.out) (fun hHeld => ?_)
                  refine wpAnyH_take (i := 0) (v := ?_) rfl (by kernel_rfl) (by kernel_rfl) (by kernel_rfl) (fun _ _ _ h => h) (Or.inl ⟨by rfl, ?_⟩) (by assumption) ?_
                  rotate_left
                  · intro w' hSw
                    go_simp <;> with_reducible rfl
                  try simp only [Act.put, List.setIfInBounds_toArray, List.set_cons_zero, List.set_cons_succ, List.getElem_toArray, List.getElem_cons_succ, List.getElem_cons_zero]
                  refine wpAnyH_take (i := 2) (v := ?_) rfl (by kernel_rfl) (by kernel_rfl) (by kernel_rfl) (fun _ _ _ h => h) (Or.inl ⟨by rfl, ?_⟩) (by assumption) ?_
                  rotate_left
                  · intro w' hSw
                    go_simp <;> with_reducible rfl
                  try simp only [Act.put, List.setIfInBounds_toArray, List.set_cons_zero, List.set_cons_succ, List.getElem_toArray, List.getElem_cons_succ, List.getElem_cons_zero]
                  refine wpAnyH_take (i := 1) (v := ?_) rfl (by kernel_rfl) (by kernel_rfl) (by kernel_rfl) (fun _ _ _ h => h) (Or.inl ⟨by rfl, ?_⟩) (by assumption) ?_
                  rotate_left
                  · intro w' hSw
                    have k1 : w'.cell? ⟨T, 1, none⟩ = some u := hSw.cell 1
                    go_simp <;> with_reducible rfl
                  try simp only [Act.put, List.setIfInBounds_toArray, List.set_cons_zero, List.set_cons_succ, List.getElem_toArray, List.getElem_cons_succ, List.getElem_cons_zero]
                  refine wpAnyH_ready (rs := [3]) (by kernel_rfl) (by simp) ?_
                  refine AllReadyH.cons rfl (fun K hK => ?_) AllReadyH.nil
                  go_simp
                  go_at_call 39
                  refine (IHQ.out wr.drew (by omega) hk2 (by omega) (by exact XB.out)).mono ?_
                  intro e w5 hp
                  unfold RdPost at hp
                  rw [if_neg HQE.out] at hp
                  obtain ⟨rfl, he5⟩ := hp
                  exact ⟨rfl, rdPost_no (by rw [HQ.out, if_pos HQE.out]) HQE.out (XE.out.trans (((Ex.refl B wr).drew).trans he5))⟩
          · rw [if_neg h4] at hp
            obtain ⟨rfl, n3, rfl⟩ := hp
            have HR0 : Hid (r = ⟨0, ⟨nm, []⟩, j, k + 1⟩) := by unfold Hid; rw [HRD.out, if_neg HH.out.1, if_neg HH.out.2, if_neg h3, if_neg h4]
            have t0 : w2.cell? ⟨T, 0, none⟩ = some (.string nm) := T2.out.cell 0
            have t1 : w2.cell? ⟨T, 1, none⟩ = some (.slice none 0 0) := T2.out.cell 1
            have r0 : w2.cell? ⟨w.heap.size, 0, none⟩ = some (.string ⟨#[]⟩) := R2.out.cell 0
            have r1 : w2.cell? ⟨w.heap.size, 1, none⟩ = some (.slice none 0 0) := R2.out.cell 1
            have rf := R2.out.frozen
            go_wp2_with fail
            refine bodyPost_ret (v := .agg #[.string nm, .slice none 0 0]) (by simp [results, Tryz.results39, go_sem, World.cell?_setCell_same, World.cell?_setCell_other, r0, r1]) rfl ?_
            exact rdPost_yes (args := []) HR0.out ⟨by simp, Or.inl rfl⟩ (by exact (Blk.setOther (Blk.setOther (X2.out.drewN n3) _ _ (by omega)) _ _ (by omega))) (((E2.out.drewN n3).setNew (Nat.le_refl _) _ _).setNew (Nat.le_refl _) _ _)
end Go.Proofs.YtdmaijmglblccaaGreatDoor
