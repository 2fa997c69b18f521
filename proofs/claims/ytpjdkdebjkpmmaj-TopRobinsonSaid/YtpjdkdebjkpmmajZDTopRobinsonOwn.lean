/- Several texts in one. -/
import Derived.Test.YtpjdkdebjkpmmajZCTopRobinsonOwn
import Derived.Test.YtpjdkdebjkpmmajW9
import Derived.Deep.RegionLaw
import Derived.Defers
import Derived.Recover
import Derived.Laws.Pointers
import Derived.Test.YtpjdkdebjkpmmajRows
import Derived.Test.YtpjdkdebjkpmmajW7
import Derived.ProofKit
import Derived.Test.YtpjdkdebjkpmmajW28
/- Walks: the reader's terms. -/
namespace Go.Proofs.Ytpjdkdebjkpmmaj
open Go.RowKit
set_option linter.unusedSimpArgs false
set_option linter.unusedVariables false
set_option maxRecDepth 8000

def RdPost (w : World) (B : Nat) (s : ByteArray) (r : Rd) (e : Ending) (w' : World) : Prop :=
  if r.err = 0 then ∃ a c, e = .returned (.agg #[.string r.t.name, .slice a r.t.args.length c]) ∧ Sl w' (fun b => w.heap.size ≤ b) a r.t.args ∧ Bx w' B s r.pos r.k ∧ Ex B w w'
  else e = .panicked [{ v := .iface 33 (.int .i64 r.err), recovered := false }] ∧ Ex B w w'

theorem rdPost_no {w w' : World} {B : Nat} {s : ByteArray} {r : Rd} {z : Int} (h : r = noRd z) (hz : z ≠ 0) (he : Ex B w w') : RdPost w B s r (.panicked [{ v := .iface 33 (.int .i64 z), recovered := false }]) w' := by
  subst h
  unfold RdPost
  rw [if_neg (by exact hz)]
  exact ⟨rfl, he⟩

theorem rdPost_yes {w w' : World} {B p k c : Nat} {s nm : ByteArray} {r : Rd} {a : Option Addr} {args : List Tm} (h : r = ⟨0, ⟨nm, args⟩, p, k⟩) (hs : Sl w' (fun b => w.heap.size ≤ b) a args) (hx : Bx w' B s p k) (he : Ex B w w') : RdPost w B s r (.returned (.agg #[.string nm, .slice a args.length c])) w' := by
  subst h
  unfold RdPost
  rw [if_pos rfl]
  exact ⟨a, c, rfl, hs, hx, he⟩

/-- No more knots than may be. -/
theorem rd_k (s : ByteArray) : ∀ f m i k, (rd s f m i k).err = 0 → k ≤ 200 → (rd s f m i k).k ≤ 200 := by
  intro f
  induction f with
  | zero => intro m i k h; simp [rd, noRd] at h
  | succ f ih =>
    intro m i k h hk
    match m with
    | none =>
      unfold rd at h ⊢
      split at h
      · exfalso; revert h; simp only [noRd]; split <;> omega
      · rename_i h1
        rw [if_neg h1]
        split at h
        · exfalso; revert h; simp [noRd]
        · rename_i h2
          rw [if_neg h2]
          split at h
          · exfalso; revert h; simp [noRd]
          · rename_i h3
            rw [if_neg h3]
            split at h
            · rename_i h4
              rw [if_pos h4]
              split at h
              · exfalso; revert h; simp [noRd]
              · rename_i h5
                rw [if_neg h5]
                exact ih _ _ _ h (by omega)
            · rename_i h4
              rw [if_neg h4]
              show k + 1 ≤ 200
              omega
    | some (nm, acc) =>
      unfold rd at h ⊢
      split at h
      · rename_i h1
        exact absurd h h1
      · rename_i h1
        rw [if_neg h1]
        simp only [ne_eq, Decidable.not_not] at h1
        have h3 := ih none (i + 1) k h1 hk
        split at h
        · exfalso; revert h; simp [noRd]
        · rename_i h2
          rw [if_neg h2]
          split at h
          · rename_i h4
            rw [if_pos h4]
            exact h3
          · rename_i h4
            rw [if_neg h4]
            split at h
            · rename_i h5
              rw [if_pos h5]
              exact ih _ _ _ h h3
            · exfalso; revert h; simp [noRd]

theorem Bx.alloc {w : World} {B i k : Nat} {s : ByteArray} (h : Bx w B s i k) (o : Obj) : Bx (w.alloc o) B s i k := Blk.alloc h o

theorem read_step {w wr w1 w3 : World} {B T Ty : Nat} {u : Value} {acc : List Tm} {xs : List Value} {o2 : Obj} {s s' nm : ByteArray} {a1 : Option Addr} {n1 c1 g cap p k' : Nat} {cR : Array Value} {t : Tm} (hBw : B < w.heap.size) (hwT : w.heap.size < T) (hTr : T < wr.heap.size)
    (hrow : Row wr (T + 1) Ty (fun _ => False) u acc xs) (hx : Ex B w wr) (hR : Blk wr w.heap.size cR Ty) (hT : Blk wr T #[.string nm, u] Ty)
    (he1 : Ex B wr w1) (hbx : Bx w1 B s p k') (ht : TV w1 (fun b => wr.heap.size ≤ b) (.agg #[.string s', .slice a1 n1 c1]) t)
    (hown : w3.ownsRow (T + 1) Ty 2 (.slice (some ⟨g, 0, none⟩) (acc.length + 1) cap) (acc.length + 1) (xs ++ [.string s', .slice a1 n1 c1])) (hg : (w1.alloc o2).grownBy w3 u.ownBlock) (hat : u.ownBlock = some g ∨ g = (w1.alloc o2).heap.size) :
    let w4 := w3.setCell ⟨T, 1, none⟩ (.slice (some ⟨g, 0, none⟩) (acc.length + 1) cap)
    Row w4 (T + 1) Ty (fun _ => False) (.slice (some ⟨g, 0, none⟩) (acc.length + 1) cap) (acc ++ [t]) (xs ++ [.string s', .slice a1 n1 c1]) ∧ Ex B w w4 ∧ Blk w4 w.heap.size cR Ty ∧ Blk w4 T #[.string nm, .slice (some ⟨g, 0, none⟩) (acc.length + 1) cap] Ty ∧ Bx w4 B s p k' ∧ T < w4.heap.size := by
  intro w4
  have hlt' := hrow.own.lt
  obtain ⟨wm, hbm, hsm, hem⟩ := he1.mid
  have hrm := hrow.ex hem (by omega) (fun h => h)
  have hp := hrm.push (w1 := w1) (w2 := w1.alloc o2) (w3 := w3) (by omega) (fun _ h => h.elim) hbm (ht.mono fun b h _ => Or.inr (by omega)) o2 rfl hown hg hat
  have hne : ∀ b, b < T + 1 → some b ≠ u.ownBlock := fun b hb e => by have := (hlt' b e.symm).1; omega
  have hx3 : Ex B w w3 := ((hx.trans he1).alloc o2).grown hg (fun k hk => by have := (hlt' k hk).1; omega)
  have hs3 := hg.size
  have hs1 := he1.size
  simp at hs3
  refine ⟨hp.setCell (by omega) (fun h => h) _, hx3.setNew (by omega) _ _, ?_, ?_, ?_, by simp [w4, World.setCell]; omega⟩
  · exact (((hR.ex he1 (by omega)).alloc o2).grown hg (hne _ (by omega))).setOther _ _ (by omega)
  · exact (((hT.ex he1 (by omega)).alloc o2).grown hg (hne _ (by omega))).set 1 _
  · exact ((Blk.alloc hbx o2).grown hg (hne _ (by omega))).setOther _ _ (by omega)

/-- Behind a term below a name. -/
def RtGot (w : World) (B T : Nat) (s nm : ByteArray) (args : List Tm) (u : Value) (p k : Nat) (w' : World) : Prop :=
  ∃ xs, Row w' (T + 1) 25 (fun _ => False) u args xs ∧ Ex B w w' ∧ Blk w' w.heap.size #[.string ⟨#[]⟩, .slice none 0 0] 25 ∧ Blk w' T #[.string nm, u] 25 ∧ Bx w' B s p k ∧ T < w'.heap.size
theorem RtGot.bx {w : World} {B T : Nat} {s nm : ByteArray} {args : List Tm} {u : Value} {p k : Nat} {w' : World} (h : RtGot w B T s nm args u p k w') : Bx w' B s p k := by obtain ⟨xs, _, _, _, _, h, _⟩ := h; exact h
theorem RtGot.ex0 {w : World} {B T : Nat} {s nm : ByteArray} {args : List Tm} {u : Value} {p k : Nat} {w' : World} (h : RtGot w B T s nm args u p k w') : Ex B w w' := by obtain ⟨xs, _, h, _⟩ := h; exact h
theorem RtGot.rb {w : World} {B T : Nat} {s nm : ByteArray} {args : List Tm} {u : Value} {p k : Nat} {w' : World} (h : RtGot w B T s nm args u p k w') : Blk w' w.heap.size #[.string ⟨#[]⟩, .slice none 0 0] 25 := by obtain ⟨xs, _, _, h, _⟩ := h; exact h
theorem RtGot.tb {w : World} {B T : Nat} {s nm : ByteArray} {args : List Tm} {u : Value} {p k : Nat} {w' : World} (h : RtGot w B T s nm args u p k w') : Blk w' T #[.string nm, u] 25 := by obtain ⟨xs, _, _, _, h, _⟩ := h; exact h
theorem RtGot.sl {w : World} {B T : Nat} {s nm : ByteArray} {args : List Tm} {u : Value} {p k : Nat} {w' : World} (h : RtGot w B T s nm args u p k w') : ∃ a c, u = .slice a args.length c ∧ Sl w' (fun b => T + 1 ≤ b) a args := by
  obtain ⟨xs, h, _⟩ := h
  obtain ⟨a, c, e, hs⟩ := h.sl
  exact ⟨a, c, e, hs.mono fun b hb _ => hb.elim False.elim id⟩
theorem RtGot.ex {w : World} {B T : Nat} {s nm : ByteArray} {args : List Tm} {u : Value} {p k p' k' : Nat} {w' w'' : World} (h : RtGot w B T s nm args u p k w') (he : Ex B w' w'') (hx : Bx w'' B s p' k') (hB : B < w.heap.size) (hT : w.heap.size < T) : RtGot w B T s nm args u p' k' w'' := by
  obtain ⟨xs, h1, h2, h3, h4, h5, h6⟩ := h
  have := he.size
  exact ⟨xs, h1.ex he (by omega) (fun h => h), h2.trans he, h3.ex he (by omega), h4.ex he (by omega), hx, by omega⟩
theorem sl_set2 {w w7 : World} {T : Nat} {a : Option Addr} {l : List Tm} {v0 v1 : Value} (hs : Sl w7 (fun b => T + 1 ≤ b) a l) (hT : w.heap.size < T) : Sl ((w7.setCell ⟨w.heap.size, 0, none⟩ v0).setCell ⟨w.heap.size, 1, none⟩ v1) (fun b => w.heap.size ≤ b) a l :=
  (hs.kept fun b hb => by rw [Below.heap_setCell _ _ _ _ (by simp; omega), Below.heap_setCell _ _ _ _ (by simp; omega)]).mono fun b hb _ => by omega

/-- Where the reader stands between two terms below a name. -/
def RtInv (w : World) (B T F : Nat) (s nm : ByteArray) (r : Rd) (wr : World) : Prop :=
  ∃ (f' : Nat) (acc : List Tm) (j k' : Nat) (u : Value) (xs : List Value), f' + 1 < F ∧ 2 * (s.size - j) + 1 ≤ f' ∧ j < s.size ∧ acc.length ≤ j ∧ k' ≤ 200 ∧ r = rd s (f' + 1) (some (nm, acc)) j k' ∧ Bx wr B s (j + 1) k' ∧ Ex B w wr ∧ Blk wr w.heap.size #[.string ⟨#[]⟩, .slice none 0 0] 25 ∧ Blk wr T #[.string nm, u] 25 ∧ Row wr (T + 1) 25 (fun _ => False) u acc xs ∧ T < wr.heap.size

set_option maxHeartbeats 1000000 in
theorem rterm_any (B : Nat) (s : ByteArray) (hs : s.size ≤ 4000) : ∀ (F i k : Nat) (w : World), i ≤ s.size → k ≤ 200 → 2 * (s.size - i) + 1 ≤ F → Bx w B s i k →
    Calls Try.prog 76 #[.pointer (some ⟨B, 0, none⟩)] w fun e w' => RdPost w B s (rd s F none i k) e w' := by
  intro F
  induction F using Nat.strongRecOn with
  | ind F ih =>
    intro i k w hi hk hF hbx
    have IH := hide ih
    clear ih
    obtain ⟨f, rfl⟩ : ∃ f, F = f + 1 := ⟨F - 1, by omega⟩
    obtain ⟨i0, hi0, hz0, hz1, hz2⟩ := info_parts Try.infoTerm
    have HRD : Hid (rd s (f + 1) none i k = if stopAt s i = i then noRd (if i = s.size then 13 else 12)
      else if nameB (s.extract i (stopAt s i)) = false then noRd 1
      else if 200 < k + 1 then noRd 3
      else if stopAt s i < s.size ∧ byteAt s (stopAt s i) = 40 then
        if varB (s.extract i (stopAt s i)) = true then noRd 2 else rd s f (some (s.extract i (stopAt s i), [])) (stopAt s i) (k + 1)
      else ⟨0, ⟨s.extract i (stopAt s i), []⟩, stopAt s i, k + 1⟩) := by unfold Hid; rw [rd]
    generalize rd s (f + 1) none i k = r at *
    have HX := hide hbx
    have hBlt := hbx.lt
    clear hbx
    go_enter Try.func76, Try.ntmps76
    go_wp2_with fail
    refine (name_any B i k s hi hs _ (by exact HX.out.alloc _)).mono ?_
    intro e w1 hp
    have E0 := hide ((Ex.refl B w).alloc (.cells #[.string ⟨#[]⟩, .slice none 0 0] 25))
    unfold NamePost at hp
    by_cases h1 : stopAt s i = i
    · rw [if_pos h1] at hp
      obtain ⟨rfl, he⟩ := hp
      exact ⟨rfl, rdPost_no (by rw [HRD.out, if_pos h1]) (by split <;> omega) (E0.out.trans he)⟩
    · rw [if_neg h1] at hp
      by_cases h2 : nameB (s.extract i (stopAt s i)) = false
      · rw [if_pos h2] at hp
        obtain ⟨rfl, he⟩ := hp
        exact ⟨rfl, rdPost_no (by rw [HRD.out, if_neg h1, if_pos h2]) (by omega) (E0.out.trans he)⟩
      · rw [if_neg h2] at hp
        obtain ⟨rfl, hx1, he1, hz1⟩ := hp
        have hjs := stopAt_le s hi
        have hji := stopAt_ge s i
        generalize hj : stopAt s i = j at *
        generalize hnm : s.extract i j = nm at *
        have E1 := hide (E0.out.trans he1)
        have X1 := hide hx1
        have R1 := hide ((Blk.new w #[.string ⟨#[]⟩, .slice none 0 0] 25).ex he1 (by omega))
        have hRlt : w.heap.size < w1.heap.size := R1.out.lt
        have HH : Hid (¬ j = i ∧ ¬ nameB nm = false) := ⟨h1, h2⟩
        clear he1 hx1 hz1 hj hnm h1 h2
        have b0 : ∀ o, (w1.alloc o).cell? ⟨B, 2, none⟩ = some (.int .i64 (k : Int)) := fun o => (X1.out.alloc o).c2
        have bf : ∀ o, (w1.alloc o).frozen? ⟨B, 2, none⟩ = false := fun o => Blk.frozen (X1.out.alloc o) 2
        have b1 := X1.out.c2
        have bf1 := Blk.frozen X1.out 2
        have hB1 : B < w1.heap.size := X1.out.lt
        have X2 : Hid (Bx ((w1.setCell ⟨B, 2, none⟩ (.int .i64 ((k : Int) + 1))).alloc (.cells #[.string nm, .slice none 0 0] 25)) B s j (k + 1)) := X1.out.more.alloc _
        have E2 : Hid (Ex B w ((w1.setCell ⟨B, 2, none⟩ (.int .i64 ((k : Int) + 1))).alloc (.cells #[.string nm, .slice none 0 0] 25))) := (E1.out.set _ _).alloc _
        have R2 : Hid (Blk ((w1.setCell ⟨B, 2, none⟩ (.int .i64 ((k : Int) + 1))).alloc (.cells #[.string nm, .slice none 0 0] 25)) w.heap.size #[.string ⟨#[]⟩, .slice none 0 0] 25) := (R1.out.setOther _ _ (by omega)).alloc _
        have T2 : Hid (Blk ((w1.setCell ⟨B, 2, none⟩ (.int .i64 ((k : Int) + 1))).alloc (.cells #[.string nm, .slice none 0 0] 25)) w1.heap.size #[.string nm, .slice none 0 0] 25) := by
          have h := Blk.new (w1.setCell ⟨B, 2, none⟩ (.int .i64 ((k : Int) + 1))) #[.string nm, .slice none 0 0] 25
          have e : (w1.setCell ⟨B, 2, none⟩ (.int .i64 ((k : Int) + 1))).heap.size = w1.heap.size := by simp [World.setCell]
          rw [e] at h
          exact h
        have HB2 := hide hB1
        by_cases h3 : 200 < k + 1
        · go_wp2_with fail
          exact ⟨rfl, rdPost_no (by rw [HRD.out, if_neg HH.out.1, if_neg HH.out.2, if_pos h3]) (by omega) E2.out⟩
        · go_wp2_with fail
          generalize ((w1.setCell ⟨B, 2, none⟩ (.int .i64 ((k : Int) + 1))).alloc (.cells #[.string nm, .slice none 0 0] 25)) = w2 at *
          generalize w1.heap.size = T at *
          clear b0 bf b1 bf1 X1 R1 E1 E0 HX w1
          refine (take_any B j (k + 1) s 40 hjs hs _ X2.out).mono ?_
          intro e w3 hp
          unfold TookPost at hp
          by_cases h4 : j < s.size ∧ byteAt s j = 40
          · rw [if_pos h4] at hp
            obtain ⟨rfl, hx3, he3, hz3⟩ := hp
            have X3 := hide hx3
            have E3 := hide (E2.out.trans he3)
            have R3 := hide (R2.out.ex he3 (by omega))
            have T3 := hide (T2.out.ex he3 (by omega))
            have HT := hide (show T < w3.heap.size from T3.out.lt)
            clear hx3 he3 hz3
            have t0 : w3.cell? ⟨T, 0, none⟩ = some (.string nm) := T3.out.cell 0
            go_wp2_with fail
            refine (isVariable_all _ _).mono ?_
            rintro e w4 ⟨rfl, rfl⟩
            cases hv : varB nm with
            | true =>
              have HV := hide hv
              clear hv
              go_wp2_with fail
              exact ⟨rfl, rdPost_no (by rw [HRD.out, if_neg HH.out.1, if_neg HH.out.2, if_neg h3, if_pos h4, if_pos HV.out]) (by omega) E3.out⟩
            | false =>
              have HV := hide hv
              have HR0 : Hid (r = rd s f (some (nm, [])) j (k + 1)) := by unfold Hid; rw [HRD.out, if_neg HH.out.1, if_neg HH.out.2, if_neg h3, if_pos h4, if_neg (by rw [HV.out]; simp)]
              clear hv
              have hji3 : i < j := by have := HH.out.1; omega
              obtain ⟨f0, rfl⟩ : ∃ f0, f = f0 + 1 := ⟨f - 1, by omega⟩
              go_wp2_with fail
              go_loopw [] (fun wr => RtInv w B T (f0 + 1 + 1) s nm r wr) (fun wr => s.size - rdAt wr B)
              case atStart => exact ⟨f0, [], j, k + 1, .slice none 0 0, [], by omega, by omega, h4.1, by simp, by omega, HR0.out, X3.out, E3.out, R3.out, T3.out, Row.start _ _ _ _, HT.out⟩
              case round =>
                obtain ⟨f', acc, j2, k2, u, xs, hf1, hf2, hj2, hal, hk2, hr, hbx, hex, hR, hT, hrow, hTl⟩ := hrel
                have IHQ := hide (IH.out f' (by omega) (j2 + 1) k2)
                have HQ : Hid (r = if (rd s f' none (j2 + 1) k2).err ≠ 0 then noRd (rd s f' none (j2 + 1) k2).err
    else if (rd s f' none (j2 + 1) k2).pos = s.size then noRd 13
    else if byteAt s (rd s f' none (j2 + 1) k2).pos = 41 then ⟨0, ⟨nm, acc ++ [(rd s f' none (j2 + 1) k2).t]⟩, (rd s f' none (j2 + 1) k2).pos + 1, (rd s f' none (j2 + 1) k2).k⟩
    else if byteAt s (rd s f' none (j2 + 1) k2).pos = 44 then rd s f' (some (nm, acc ++ [(rd s f' none (j2 + 1) k2).t])) (rd s f' none (j2 + 1) k2).pos (rd s f' none (j2 + 1) k2).k
    else noRd 12) := by unfold Hid; rw [hr, rd]
                have HPOS := hide (rd_pos s f' none (j2 + 1) k2)
                have HKK := hide (rd_k s f' none (j2 + 1) k2)
                generalize rd s f' none (j2 + 1) k2 = q at *
                have XB := hide hbx
                have XE := hide hex
                have XR := hide hR
                have XT := hide hT
                have XW := hide hrow
                have hc1 : wr.cell? ⟨T, 1, none⟩ = some u := hT.cell 1
                clear hbx hex hR hT hrow hr
                by_cases hq : q.err = 0
                · have HQE := hide hq
                  have HP9 := hide (HPOS.out hq (by omega) (fun h => by cases h))
                  have HK9 := hide (HKK.out hq hk2)
                  have IHR : Hid (Calls Try.prog 76 #[.pointer (some ⟨B, 0, none⟩)] wr.drew fun e w'' => ∃ a c, e = .returned (.agg #[.string q.t.name, .slice a q.t.args.length c]) ∧ Sl w'' (fun b => wr.heap.size ≤ b) a q.t.args ∧ Bx w'' B s q.pos q.k ∧ Ex B wr w'') := (IHQ.out wr.drew (by omega) hk2 (by omega) (by exact XB.out)).mono fun e w'' hp => by
                    unfold RdPost at hp
                    rw [if_pos hq] at hp
                    obtain ⟨a, c, h1, h2, h3, h4⟩ := hp
                    exact ⟨a, c, h1, h2, h3, ((Ex.refl B wr).drew).trans h4⟩
                  have HTB : Hid (T ≠ B) := by unfold Hid; omega
                  have hTl2 : T + 1 ≤ wr.heap.size := hTl
                  clear hq IHQ
                  go_wp2_with fail
                  go_region_law (first
                    | (go_simp; go_at_call 76; refine IHR.out.mono ?_; rintro e w1 ⟨a1, c1, rfl, hs1, hb1, he1⟩; have hc3 : ∀ o, (w1.alloc o).cell? ⟨T, 1, none⟩ = some u := fun o => ((Blk.ex XT.out he1 HTB.out).alloc o).cell 1; have hc4 : w1.cell? ⟨T, 1, none⟩ = some u := (Blk.ex XT.out he1 HTB.out).cell 1)
                    | (refine step_append_lies _ rfl _ _ 23 rfl (T + 1) 25 i0 _ 2 40 Try.underlying23 hi0 hz0 hz1 hz2 rfl (by decide) u acc.length xs rfl (by exact (Row.ex (B := B) XW.out he1 (by omega) (fun h => h)).own.alloc _) ⟨w1.heap.size, 0, none⟩ 1 1 [.string q.t.name, .slice a1 q.t.args.length c1] rfl rfl (cell_two_new _ _ _ _) (fun x hx => by simp at hx; rcases hx with rfl | rfl <;> rfl) (by decide) (by unfold maxLen; first | omega | (simp; omega)) (by first | omega | (simp; omega)) (by have := he1.size; first | omega | (simp; omega)) _ rfl ?_; intro g cap w3 hown3 hgrow3 hat3 hlt3; have hB3 := hide (((Blk.ex XT.out he1 HTB.out).alloc _).grown hgrow3 (XW.out.ne (Nat.lt_succ_self _))); have hc5 : w3.cell? ⟨T, 1, none⟩ = some u := hB3.out.cell 1; have hf5 := hB3.out.frozen 1))
                  all_goals
                    have HFIN := hide (read_step hBlt hRlt hTl XW.out XE.out XR.out XT.out he1 hb1 ⟨a1, c1, rfl, hs1⟩ hown3 hgrow3 hat3)
                    clear hown3 hgrow3 hat3 hc3 hc4 hs1 hb1 he1 hlt3 hB3
                    go_wp2_with fail
                    generalize hw6 : w3.setCell ⟨T, 1, none⟩ (.slice (some ⟨g, 0, none⟩) (acc.length + 1) cap) = w6 at *
                    have G : Hid (RtGot w B T s nm (acc ++ [q.t]) (.slice (some ⟨g, 0, none⟩) (acc.length + 1) cap) q.pos q.k w6) := by
                      exact ⟨_, HFIN.out⟩
                    clear hw6 HFIN hc5 hf5 hc1
                    refine (take_any B q.pos q.k s 41 HP9.out.2 hs _ (by exact G.out.bx)).mono ?_
                    intro e w7 hp
                    unfold TookPost at hp
                    by_cases h6 : q.pos < s.size ∧ byteAt s q.pos = 41
                    · rw [if_pos h6] at hp
                      obtain ⟨rfl, hx7, he7, hz7⟩ := hp
                      have G7 := hide (G.out.ex he7 hx7 (by omega) (by omega))
                      have HR7 : Hid (r = ⟨0, ⟨nm, acc ++ [q.t]⟩, q.pos + 1, q.k⟩) := by unfold Hid; rw [HQ.out, if_neg (by rw [HQE.out]; simp), if_neg (by omega), if_pos h6.2]
                      obtain ⟨a7, c7, hu7, hs7⟩ := G7.out.sl
                      clear hx7 he7 hz7 h6
                      rw [hu7] at G7
                      generalize acc ++ [q.t] = args at *
                      have S7 := hide hs7
                      clear hs7 hu7 G
                      have t0 : w7.cell? ⟨T, 0, none⟩ = some (.string nm) := G7.out.tb.cell 0
                      have t1 : w7.cell? ⟨T, 1, none⟩ = some (.slice a7 args.length c7) := G7.out.tb.cell 1
                      have r0 : w7.cell? ⟨w.heap.size, 0, none⟩ = some (.string ⟨#[]⟩) := G7.out.rb.cell 0
                      have r1 : w7.cell? ⟨w.heap.size, 1, none⟩ = some (.slice none 0 0) := G7.out.rb.cell 1
                      have rf := G7.out.rb.frozen
                      go_wp2_with fail
                      refine bodyPost_ret (v := .agg #[.string nm, .slice a7 args.length c7]) (by simp [results, Try.results76, go_sem, World.cell?_setCell_same, World.cell?_setCell_other, r0, r1]) rfl ?_
                      exact rdPost_yes HR7.out (sl_set2 S7.out hRlt) (by exact (Blk.setOther (Blk.setOther G7.out.bx _ _ (by omega)) _ _ (by omega))) ((G7.out.ex0.setNew (Nat.le_refl _) _ _).setNew (Nat.le_refl _) _ _)
                    · rw [if_neg h6] at hp
                      obtain ⟨rfl, n7, rfl⟩ := hp
                      go_wp2_with fail
                      refine (take_any B q.pos q.k s 44 HP9.out.2 hs _ (by exact G.out.bx)).mono ?_
                      intro e w9 hp
                      unfold TookPost at hp
                      by_cases h8 : q.pos < s.size ∧ byteAt s q.pos = 44
                      · rw [if_pos h8] at hp
                        obtain ⟨rfl, hx9, he9, hz9⟩ := hp
                        have G9 := hide (G.out.ex ((Ex.refl B w6).drewN n7 |>.trans he9) hx9 (by omega) (by omega))
                        obtain ⟨f2, rfl⟩ : ∃ f2, f' = f2 + 1 := ⟨f' - 1, by omega⟩
                        have HR9 : Hid (r = rd s (f2 + 1) (some (nm, acc ++ [q.t])) q.pos q.k) := by unfold Hid; rw [HQ.out, if_neg (by rw [HQE.out]; simp), if_neg (by omega), if_neg (fun h => h6 ⟨h8.1, h⟩), if_pos h8.2]
                        clear hx9 he9 hz9
                        go_wp2_with fail
                        go_roundw
                        case rel =>
                          obtain ⟨xs9, g1, g2, g3, g4, g5, g6⟩ := G9.out
                          have hp9 := HP9.out
                          exact ⟨f2, acc ++ [q.t], q.pos, q.k, _, xs9, by omega, by omega, h8.1, by simp; omega, HK9.out, HR9.out, g5, g2, g3, g4, g1, g6⟩
                        case measure =>
                          have e1 := XB.out.at
                          have e2 := G9.out.bx.at
                          have hp9 := HP9.out
                          rw [e1, e2]; omega
                      · rw [if_neg h8] at hp
                        obtain ⟨rfl, n9, rfl⟩ := hp
                        go_wp2_with fail
                        refine (refusal_any B q.pos q.k s _ (by exact G.out.bx)).mono ?_
                        rintro e w' ⟨rfl, rfl⟩
                        generalize hz : (if q.pos = s.size then (13 : Int) else 12) = z
                        have HR9 : Hid (r = noRd z ∧ z ≠ 0) := by
                          unfold Hid
                          rw [HQ.out, if_neg (by rw [HQE.out]; simp), ← hz]
                          have hp9 := HP9.out.2
                          by_cases he : q.pos = s.size
                          · rw [if_pos he, if_pos he]; exact ⟨rfl, by decide⟩
                          · rw [if_neg he, if_neg he, if_neg (fun h => h6 ⟨by omega, h⟩), if_neg (fun h => h8 ⟨by omega, h⟩)]; exact ⟨rfl, by decide⟩
                        clear hz
                        go_wp2_with fail
                        exact ⟨rfl, rdPost_no HR9.out.1 HR9.out.2 ((G.out.ex0.drewN _))⟩
                · have HQE := hide hq
                  clear hq
                  go_wp2_with fail
                  refine wp_region_held_drew (S := fun w' => Blk w' T #[.string nm, u] 25) (by kernel_rfl) (by exact XT.out) (fun hHeld => ?_)
                  refine wpAnyH_take (i := 0) (v := ?_) rfl (by kernel_rfl) (by kernel_rfl) (by kernel_rfl) (fun _ _ _ h => h) (Or.inl ⟨by rfl, ?_⟩) (by assumption) ?_
                  rotate_left
                  · intro w' hSw
                    go_simp <;> with_reducible rfl
                  try simp only [Act.put, List.setIfInBounds_toArray, List.set_cons_zero, List.set_cons_succ, List.getElem_toArray, List.getElem_cons_succ, List.getElem_cons_zero]
                  refine wpAnyH_take (i := 2) (v := ?_) rfl (by kernel_rfl) (by kernel_rfl) (by kernel_rfl) (fun _ _ _ h => h) (Or.inl ⟨by rfl, ?_⟩) (by assumption) ?_
                  rotate_left
                  · intro w' hSw
                    go_simp <;> with_reducible rfl
                  try simp only [Act.put, List.setIfInBounds_toArray, List.set_cons_zero, List.set_cons_succ, List.getElem_toArray, List.getElem_cons_succ, List.getElem_cons_zero]
                  refine wpAnyH_take (i := 1) (v := ?_) rfl (by kernel_rfl) (by kernel_rfl) (by kernel_rfl) (fun _ _ _ h => h) (Or.inl ⟨by rfl, ?_⟩) (by assumption) ?_
                  rotate_left
                  · intro w' hSw
                    have k1 : w'.cell? ⟨T, 1, none⟩ = some u := hSw.cell 1
                    go_simp <;> with_reducible rfl
                  try simp only [Act.put, List.setIfInBounds_toArray, List.set_cons_zero, List.set_cons_succ, List.getElem_toArray, List.getElem_cons_succ, List.getElem_cons_zero]
                  refine wpAnyH_ready (rs := [3]) (by kernel_rfl) (by simp) ?_
                  refine AllReadyH.cons rfl (fun K hK => ?_) AllReadyH.nil
                  go_simp
                  go_at_call 76
                  refine (IHQ.out wr.drew (by omega) hk2 (by omega) (by exact XB.out)).mono ?_
                  intro e w5 hp
                  unfold RdPost at hp
                  rw [if_neg HQE.out] at hp
                  obtain ⟨rfl, he5⟩ := hp
                  exact ⟨rfl, rdPost_no (by rw [HQ.out, if_pos HQE.out]) HQE.out (XE.out.trans (((Ex.refl B wr).drew).trans he5))⟩
          · rw [if_neg h4] at hp
            obtain ⟨rfl, n3, rfl⟩ := hp
            have HR0 : Hid (r = ⟨0, ⟨nm, []⟩, j, k + 1⟩) := by unfold Hid; rw [HRD.out, if_neg HH.out.1, if_neg HH.out.2, if_neg h3, if_neg h4]
            have t0 : w2.cell? ⟨T, 0, none⟩ = some (.string nm) := T2.out.cell 0
            have t1 : w2.cell? ⟨T, 1, none⟩ = some (.slice none 0 0) := T2.out.cell 1
            have r0 : w2.cell? ⟨w.heap.size, 0, none⟩ = some (.string ⟨#[]⟩) := R2.out.cell 0
            have r1 : w2.cell? ⟨w.heap.size, 1, none⟩ = some (.slice none 0 0) := R2.out.cell 1
            have rf := R2.out.frozen
            go_wp2_with fail
            refine bodyPost_ret (v := .agg #[.string nm, .slice none 0 0]) (by simp [results, Try.results76, go_sem, World.cell?_setCell_same, World.cell?_setCell_other, r0, r1]) rfl ?_
            exact rdPost_yes (args := []) HR0.out ⟨by simp, Or.inl rfl⟩ (by exact (Blk.setOther (Blk.setOther (X2.out.drewN n3) _ _ (by omega)) _ _ (by omega))) (((E2.out.drewN n3).setNew (Nat.le_refl _) _ _).setNew (Nat.le_refl _) _ _)
#print axioms rterm_any
end Go.Proofs.Ytpjdkdebjkpmmaj

/- Walks: reading a text, and what is thrown is caught. -/
namespace Go.Proofs.Ytpjdkdebjkpmmaj
open Go.RowKit
set_option linter.unusedSimpArgs false
set_option linter.unusedVariables false
set_option maxRecDepth 8000

theorem assertErrno (v : Value) (xT : TypeId) (w : World) : (Instr.typeAssert (.iface 33 v) xT 33 false).run Try.prog w = .ok v w := by
  simp [Instr.typeAssert, run_underlying Try.underlying33, go_sem, Result.andThen]

theorem catch_panicking (Pt Pe : Nat) (z z0 : Int) (s0 : ByteArray) (u0 : Value) (w : World) (ht : Blk w Pt #[.string s0, u0] 25) (he : Blk w Pe #[.int .i64 z0] 33) :
    CallsD Try.prog 75 #[.pointer (some ⟨Pt, 0, none⟩), .pointer (some ⟨Pe, 0, none⟩)] (.panicking [{ v := .iface 33 (.int .i64 z), recovered := false }]) w fun e u' w' =>
      e = .returned (.tuple #[]) ∧ u' = .panicking [{ v := .iface 33 (.int .i64 z), recovered := true }] ∧ w' = (((w.setCell ⟨Pt, 0, none⟩ (.string ⟨#[]⟩)).setCell ⟨Pt, 1, none⟩ (.slice none 0 0)).setCell ⟨Pe, 0, none⟩ (.int .i64 z)).drew := by
  refine callsD_of_wpS Try.func75 rfl fun c₀ cs hu => ?_
  apply wpS_seq
  apply wpS_region
  simp [wpOpsS, go_sem, recoverD, hu, Try.ntmps75, Exit.thenS]
  apply wpS_seq
  apply wpS_region
  simp [wpOpsS, go_sem, Exit.thenS, Array.replicate]
  refine wpS_cond (t := true) (by simp [Act.eval, Array.replicate]) ?_
  simp only [if_true]
  refine wpS_of_wp ?_
  have t0 : w.cell? ⟨Pt, 0, none⟩ = some (.string s0) := ht.cell 0
  have t1 : w.cell? ⟨Pt, 1, none⟩ = some u0 := ht.cell 1
  have tf := ht.frozen
  have e0 : w.cell? ⟨Pe, 0, none⟩ = some (.int .i64 z0) := he.cell 0
  have ef := he.frozen
  have hne : ¬ Pt = Pe := fun h => by
    subst h
    have h1 := t0
    rw [e0] at h1
    cases h1
  have hne2 : ¬ Pe = Pt := fun h => hne h.symm
  have hta := assertErrno (.int .i64 z)
  go_region
  exact ⟨rfl, _, rfl, .tuple #[], by simp [results, Try.results75, go_sem], rfl, rfl, rfl⟩

theorem catch_idle (Pt Pe : Nat) (w : World) :
    CallsD Try.prog 75 #[.pointer (some ⟨Pt, 0, none⟩), .pointer (some ⟨Pe, 0, none⟩)] .returning w fun e u' w' => e = .returned (.tuple #[]) ∧ u' = .returning ∧ w' = w := by
  refine callsD_of_wpS Try.func75 rfl fun c₀ cs hu => ?_
  apply wpS_seq
  apply wpS_region
  simp [wpOpsS, go_sem, recoverD, hu, Try.ntmps75, Exit.thenS]
  apply wpS_seq
  apply wpS_region
  simp [wpOpsS, go_sem, Exit.thenS, Array.replicate]
  refine wpS_cond (t := false) (by simp [Act.eval, Array.replicate]) ?_
  simp only [Bool.false_eq_true, if_false]
  refine wpS_of_wp (wp_skip ?_)
  cases c₀
  simp_all [bodyPostS, results, Try.results75]

/-- What reading the whole text gives. -/
def rdAll (s : ByteArray) : Rd :=
  if 4000 < s.size then noRd 3
  else if (rd s (2 * s.size + 1) none 0 0).err ≠ 0 then noRd (rd s (2 * s.size + 1) none 0 0).err
  else if (rd s (2 * s.size + 1) none 0 0).pos = s.size then rd s (2 * s.size + 1) none 0 0
  else noRd 12

def ParsePost (w : World) (r : Rd) (e : Ending) (w' : World) : Prop :=
  ∃ v, e = .returned (.tuple #[v, .int .i64 r.err]) ∧ (r.err = 0 → TV w' (fun b => w.heap.size ≤ b) v r.t) ∧ (r.err ≠ 0 → v = .agg #[.string ⟨#[]⟩, .slice none 0 0]) ∧ Below w.heap.size w w'

theorem parse_no {w w' : World} {r : Rd} {z : Int} (h : r = noRd z) (hz : z ≠ 0) (hb : Below w.heap.size w w') : ParsePost w r (.returned (.tuple #[.agg #[.string ⟨#[]⟩, .slice none 0 0], .int .i64 z])) w' := by
  subst h
  exact ⟨_, rfl, fun h => absurd h hz, fun _ => rfl, hb⟩

theorem Ex.below {w w0 w' : World} {B : Nat} (h : Ex B w0 w') (h0 : Below w.heap.size w w0) (hB : w.heap.size ≤ B) : Below w.heap.size w w' :=
  ⟨h.os.trans h0.os, h.tape.trans h0.tape, h.output.trans h0.output, Nat.le_trans h0.size h.size, fun k hk => (h.block k (Nat.lt_of_lt_of_le hk h0.size) (by omega)).trans (h0.block k hk)⟩

set_option maxHeartbeats 1000000 in
theorem parse_any (s : ByteArray) (w : World) :
    Calls Try.prog 48 #[.string s] w fun e w' => ParsePost w (rdAll s) e w' := by
  have hmf : ∀ (fn : Fn) (first cap : Array Value) (w : World), (Instr.makeFunc fn first cap).run Try.prog w = .ok (.func fn first cap) w := fun _ _ _ _ => rfl
  have HR : Hid (rdAll s = rdAll s) := rfl
  unfold rdAll at HR
  generalize hr : rdAll s = r at *
  by_cases hs : 4000 < s.size
  · have HR0 : Hid (r = noRd 3) := by unfold Hid; rw [← hr]; unfold rdAll; rw [if_pos hs]
    clear hr HR
    go_enter_defers Try.func48, Try.ntmps48
    go_wp2_with fail
    have PT : Blk ((w.alloc (.cells #[.string ⟨#[]⟩, .slice none 0 0] 25)).alloc (.cells #[.int .i64 0] 33)) w.heap.size #[.string ⟨#[]⟩, .slice none 0 0] 25 := (Blk.new w _ _).alloc _
    have PE : Blk ((w.alloc (.cells #[.string ⟨#[]⟩, .slice none 0 0] 25)).alloc (.cells #[.int .i64 0] 33)) (w.heap.size + 1) #[.int .i64 0] 33 := by
      have h := Blk.new (w.alloc (.cells #[.string ⟨#[]⟩, .slice none 0 0] 25)) #[.int .i64 0] 33
      simpa using h
    have PB : Below w.heap.size w ((w.alloc (.cells #[.string ⟨#[]⟩, .slice none 0 0] 25)).alloc (.cells #[.int .i64 0] 33)) := ((Below.refl _ _).alloc (Nat.le_refl _) _).alloc (by simp) _
    generalize ((w.alloc (.cells #[.string ⟨#[]⟩, .slice none 0 0] 25)).alloc (.cells #[.int .i64 0] 33)) = w2 at *
    refine leaves_cons (f := 75) (args := #[.pointer (some ⟨w.heap.size, 0, none⟩), .pointer (some ⟨w.heap.size + 1, 0, none⟩)]) (by simp) (by simp [go_sem]) ?_
    refine (catch_panicking w.heap.size (w.heap.size + 1) 3 0 _ _ w2 PT PE).mono ?_
    rintro e u' w'' ⟨rfl, rfl, rfl⟩
    have q0 := (((PT.set 0 (.string ⟨#[]⟩)).set 1 (.slice none 0 0)).setOther (b' := w.heap.size + 1) 0 (.int .i64 3) (by omega)).cell 0
    have q1 := (((PT.set 0 (.string ⟨#[]⟩)).set 1 (.slice none 0 0)).setOther (b' := w.heap.size + 1) 0 (.int .i64 3) (by omega)).cell 1
    have q2 := (((PE.setOther (b' := w.heap.size) 0 (.string ⟨#[]⟩) (by omega)).setOther (b' := w.heap.size) 1 (.slice none 0 0) (by omega)).set 0 (.int .i64 3)).cell 0
    simp at q0 q1 q2
    simp [Leaves, settle, results, Try.results48, go_sem, q0, q1, q2]
    exact parse_no HR0.out (by decide) ((((PB.setCell (by simp) _).setCell (by simp) _).setCell (by simp) _).drew)
  · have HR0 : Hid (r = if (rd s (2 * s.size + 1) none 0 0).err ≠ 0 then noRd (rd s (2 * s.size + 1) none 0 0).err else if (rd s (2 * s.size + 1) none 0 0).pos = s.size then rd s (2 * s.size + 1) none 0 0 else noRd 12) := by unfold Hid; rw [← hr]; unfold rdAll; rw [if_neg hs]
    have IHQ := hide (fun w' hw => rterm_any (w.heap.size + 1 + 1) s (by omega) (2 * s.size + 1) 0 0 w' (by omega) (by omega) (by omega) hw)
    have HPOS := hide (rd_pos s (2 * s.size + 1) none 0 0)
    generalize rd s (2 * s.size + 1) none 0 0 = q at *
    clear hr HR
    go_enter_defers Try.func48, Try.ntmps48
    go_wp2_with fail
    have PT := hide (show Blk (((w.alloc (.cells #[.string ⟨#[]⟩, .slice none 0 0] 25)).alloc (.cells #[.int .i64 0] 33)).alloc (.cells #[.string s, .int .i64 0, .int .i64 0] 115)) w.heap.size #[.string ⟨#[]⟩, .slice none 0 0] 25 from ((Blk.new w _ _).alloc _).alloc _)
    have PE : Hid (Blk (((w.alloc (.cells #[.string ⟨#[]⟩, .slice none 0 0] 25)).alloc (.cells #[.int .i64 0] 33)).alloc (.cells #[.string s, .int .i64 0, .int .i64 0] 115)) (w.heap.size + 1) #[.int .i64 0] 33) := by
      have h := (Blk.new (w.alloc (.cells #[.string ⟨#[]⟩, .slice none 0 0] 25)) #[.int .i64 0] 33).alloc (.cells #[.string s, .int .i64 0, .int .i64 0] 115)
      unfold Hid
      simpa using h
    have PX : Hid (Bx (((w.alloc (.cells #[.string ⟨#[]⟩, .slice none 0 0] 25)).alloc (.cells #[.int .i64 0] 33)).alloc (.cells #[.string s, .int .i64 0, .int .i64 0] 115)) (w.heap.size + 1 + 1) s 0 0) := by
      have h := Blk.new ((w.alloc (.cells #[.string ⟨#[]⟩, .slice none 0 0] 25)).alloc (.cells #[.int .i64 0] 33)) #[.string s, .int .i64 0, .int .i64 0] 115
      unfold Hid Bx
      simpa using h
    have PB := hide (show Below w.heap.size w (((w.alloc (.cells #[.string ⟨#[]⟩, .slice none 0 0] 25)).alloc (.cells #[.int .i64 0] 33)).alloc (.cells #[.string s, .int .i64 0, .int .i64 0] 115)) from (((Below.refl _ _).alloc (Nat.le_refl _) _).alloc (by simp) _).alloc (by simp; omega) _)
    generalize (((w.alloc (.cells #[.string ⟨#[]⟩, .slice none 0 0] 25)).alloc (.cells #[.int .i64 0] 33)).alloc (.cells #[.string s, .int .i64 0, .int .i64 0] 115)) = w3 at *
    refine (IHQ.out w3 PX.out).mono ?_
    intro e w5 hp
    unfold RdPost at hp
    by_cases hq : q.err = 0
    · rw [if_pos hq] at hp
      obtain ⟨a, c, rfl, hs5, hx5, he5⟩ := hp
      have HQE := hide hq
      have HP9 := hide (HPOS.out hq (by omega) (fun h => by cases h))
      have T5 := hide (PT.out.ex he5 (by omega))
      have E5 := hide (PE.out.ex he5 (by omega))
      have B5 := hide (he5.below PB.out (by omega))
      have X5 := hide hx5
      have S5 := hide (hs5.mono (Y := fun b => w.heap.size + 3 ≤ b) fun b hb _ => by have := PX.out.lt; omega)
      clear hq hs5 hx5 he5
      have t0 : w5.cell? ⟨w.heap.size, 0, none⟩ = some (.string ⟨#[]⟩) := T5.out.cell 0
      have t1 : w5.cell? ⟨w.heap.size, 1, none⟩ = some (.slice none 0 0) := T5.out.cell 1
      have tf := T5.out.frozen
      go_wp2_with fail
      have T6 := hide ((T5.out.set 0 (.string q.t.name)).set 1 (.slice a q.t.args.length c))
      have E6 := hide ((E5.out.setOther (b' := w.heap.size) 0 (.string q.t.name) (by omega)).setOther (b' := w.heap.size) 1 (.slice a q.t.args.length c) (by omega))
      have X6 : Hid (Bx ((w5.setCell ⟨w.heap.size, 0, none⟩ (.string q.t.name)).setCell ⟨w.heap.size, 1, none⟩ (.slice a q.t.args.length c)) (w.heap.size + 1 + 1) s q.pos q.k) := Blk.setOther (Blk.setOther X5.out _ _ (by omega)) _ _ (by omega)
      have B6 := hide ((B5.out.setCell (p := ⟨w.heap.size, 0, none⟩) (by simp) (.string q.t.name)).setCell (p := ⟨w.heap.size, 1, none⟩) (by simp) (.slice a q.t.args.length c))
      have S6 : Hid (Sl ((w5.setCell ⟨w.heap.size, 0, none⟩ (.string q.t.name)).setCell ⟨w.heap.size, 1, none⟩ (.slice a q.t.args.length c)) (fun b => w.heap.size + 3 ≤ b) a q.t.args) := S5.out.kept fun b hb => by rw [Below.heap_setCell _ _ _ _ (by simp; omega), Below.heap_setCell _ _ _ _ (by simp; omega)]
      clear t0 t1 tf
      generalize ((w5.setCell ⟨w.heap.size, 0, none⟩ (.string q.t.name)).setCell ⟨w.heap.size, 1, none⟩ (.slice a q.t.args.length c)) = w6 at *
      clear T5 E5 X5 B5 S5
      by_cases hps : q.pos = s.size
      · refine (atEnd_yes (w.heap.size + 1 + 1) q.pos q.k s hps _ X6.out).mono ?_
        rintro e w7 ⟨rfl, n7, rfl⟩
        have T7 : Hid (Blk (w6.drewN n7) w.heap.size #[.string q.t.name, .slice a q.t.args.length c] 25) := T6.out
        have E7 : Hid (Blk (w6.drewN n7) (w.heap.size + 1) #[.int .i64 0] 33) := E6.out
        have B7 : Hid (Below w.heap.size w (w6.drewN n7)) := below_drewN B6.out n7
        have S7 : Hid (Sl (w6.drewN n7) (fun b => w.heap.size + 3 ≤ b) a q.t.args) := S6.out.kept fun b hb => rfl
        generalize w6.drewN n7 = w7 at *
        have t0 : w7.cell? ⟨w.heap.size, 0, none⟩ = some (.string q.t.name) := T7.out.cell 0
        have t1 : w7.cell? ⟨w.heap.size, 1, none⟩ = some (.slice a q.t.args.length c) := T7.out.cell 1
        have tf := T7.out.frozen
        have e0 : w7.cell? ⟨w.heap.size + 1, 0, none⟩ = some (.int .i64 0) := E7.out.cell 0
        have ef := E7.out.frozen
        have HR9 : Hid (r = q) := by unfold Hid; rw [HR0.out, if_neg (by rw [HQE.out]; simp), if_pos hps]
        go_wp2_with fail
        refine leaves_cons (f := 75) (args := #[.pointer (some ⟨w.heap.size, 0, none⟩), .pointer (some ⟨w.heap.size + 1, 0, none⟩)]) (by simp) (by simp [go_sem]) ?_
        refine (catch_idle w.heap.size (w.heap.size + 1) _).mono ?_
        rintro e u' w'' ⟨rfl, rfl, rfl⟩
        have PT5 := T7.out
        have PE5 := E7.out
        have q0 := (((PT5.set 0 (.string q.t.name)).set 1 (.slice a q.t.args.length c)).setOther (b' := w.heap.size + 1) 0 (.int .i64 0) (by omega)).cell 0
        have q1 := (((PT5.set 0 (.string q.t.name)).set 1 (.slice a q.t.args.length c)).setOther (b' := w.heap.size + 1) 0 (.int .i64 0) (by omega)).cell 1
        have q2 := (((PE5.setOther (b' := w.heap.size) 0 (.string q.t.name) (by omega)).setOther (b' := w.heap.size) 1 (.slice a q.t.args.length c) (by omega)).set 0 (.int .i64 0)).cell 0
        simp at q0 q1 q2
        simp [Leaves, settle, results, Try.results48, go_sem, q0, q1, q2]
        refine ⟨.agg #[.string q.t.name, .slice a q.t.args.length c], by rw [HR9.out, HQE.out], fun _ => ?_, fun h => absurd (by rw [HR9.out]; exact HQE.out) h, ((B7.out.setCell (by simp) _).setCell (by simp) _).setCell (by simp) _⟩
        rw [HR9.out]
        exact ⟨a, c, rfl, (S7.out.kept fun b hb => by rw [Below.heap_setCell _ _ _ _ (by simp; omega), Below.heap_setCell _ _ _ _ (by simp; omega), Below.heap_setCell _ _ _ _ (by simp; omega)]).mono fun b hb _ => by omega⟩
      · refine (atEnd_no (w.heap.size + 1 + 1) q.pos q.k s hps _ X6.out).mono ?_
        rintro e w7 ⟨rfl, n7, rfl⟩
        have PT5 : Blk (w6.drewN n7) w.heap.size #[.string q.t.name, .slice a q.t.args.length c] 25 := T6.out
        have PE5 : Blk (w6.drewN n7) (w.heap.size + 1) #[.int .i64 0] 33 := E6.out
        have PB5 : Below w.heap.size w (w6.drewN n7) := below_drewN B6.out n7
        generalize w6.drewN n7 = w7 at *
        go_wp2_with fail
        refine leaves_cons (f := 75) (args := #[.pointer (some ⟨w.heap.size, 0, none⟩), .pointer (some ⟨w.heap.size + 1, 0, none⟩)]) (by simp) (by simp [go_sem]) ?_
        refine (catch_panicking w.heap.size (w.heap.size + 1) 12 0 q.t.name (.slice a q.t.args.length c) w7 PT5 PE5).mono ?_
        rintro e u' w'' ⟨rfl, rfl, rfl⟩
        have q0 := (((PT5.set 0 (.string ⟨#[]⟩)).set 1 (.slice none 0 0)).setOther (b' := w.heap.size + 1) 0 (.int .i64 12) (by omega)).cell 0
        have q1 := (((PT5.set 0 (.string ⟨#[]⟩)).set 1 (.slice none 0 0)).setOther (b' := w.heap.size + 1) 0 (.int .i64 12) (by omega)).cell 1
        have q2 := (((PE5.setOther (b' := w.heap.size) 0 (.string ⟨#[]⟩) (by omega)).setOther (b' := w.heap.size) 1 (.slice none 0 0) (by omega)).set 0 (.int .i64 12)).cell 0
        simp at q0 q1 q2
        simp [Leaves, settle, results, Try.results48, go_sem, q0, q1, q2]
        exact parse_no (by rw [HR0.out, if_neg (by rw [HQE.out]; simp), if_neg hps]) (by decide) ((((PB5.setCell (by simp) _).setCell (by simp) _).setCell (by simp) _).drew)
    · rw [if_neg hq] at hp
      obtain ⟨rfl, he5⟩ := hp
      have PT5 := PT.out.ex he5 (by omega)
      have PE5 := PE.out.ex he5 (by omega)
      have PB5 := he5.below PB.out (by omega)
      refine leaves_cons (f := 75) (args := #[.pointer (some ⟨w.heap.size, 0, none⟩), .pointer (some ⟨w.heap.size + 1, 0, none⟩)]) (by simp) (by simp [go_sem]) ?_
      refine (catch_panicking w.heap.size (w.heap.size + 1) q.err 0 _ _ w5 PT5 PE5).mono ?_
      rintro e u' w'' ⟨rfl, rfl, rfl⟩
      have q0 := (((PT5.set 0 (.string ⟨#[]⟩)).set 1 (.slice none 0 0)).setOther (b' := w.heap.size + 1) 0 (.int .i64 q.err) (by omega)).cell 0
      have q1 := (((PT5.set 0 (.string ⟨#[]⟩)).set 1 (.slice none 0 0)).setOther (b' := w.heap.size + 1) 0 (.int .i64 q.err) (by omega)).cell 1
      have q2 := (((PE5.setOther (b' := w.heap.size) 0 (.string ⟨#[]⟩) (by omega)).setOther (b' := w.heap.size) 1 (.slice none 0 0) (by omega)).set 0 (.int .i64 q.err)).cell 0
      simp at q0 q1 q2
      simp [Leaves, settle, results, Try.results48, go_sem, q0, q1, q2]
      exact parse_no (by rw [HR0.out, if_pos hq]) hq ((((PB5.setCell (by simp) _).setCell (by simp) _).setCell (by simp) _).drew)
#print axioms parse_any
end Go.Proofs.Ytpjdkdebjkpmmaj

/- Walks: the fact that the laws at the top ask besides. -/
namespace Go.Proofs.Ytpjdkdebjkpmmaj
open Go.RowKit
set_option linter.unusedSimpArgs false
set_option linter.unusedVariables false
set_option maxRecDepth 8000

def fT1 : Tm := ⟨⟨#[102]⟩, [⟨⟨#[97]⟩, []⟩, ⟨⟨#[88]⟩, []⟩]⟩
def fT2 : Tm := ⟨⟨#[102]⟩, [⟨⟨#[89]⟩, []⟩, ⟨⟨#[98]⟩, []⟩]⟩
theorem fact_run : uRun false 4 [] [⟨fT1, fT2⟩] = some (0, [⟨⟨#[88]⟩, ⟨⟨#[98]⟩, []⟩⟩, ⟨⟨#[89]⟩, ⟨⟨#[97]⟩, []⟩⟩]) := by
  have v1 : varB ⟨#[102]⟩ = false := by decide
  have v2 : varB ⟨#[97]⟩ = false := by decide
  have v3 : varB ⟨#[98]⟩ = false := by decide
  have v4 : varB ⟨#[88]⟩ = true := by decide
  have v5 : varB ⟨#[89]⟩ = true := by decide
  have l1 : ltB ⟨#[89]⟩ ⟨#[88]⟩ = false := by unfold ltB; rw [ByteArray.toList_eq, ByteArray.toList_eq]; simp [Op.bytesLess]
  have l2 : ltB ⟨#[88]⟩ ⟨#[89]⟩ = true := by unfold ltB; rw [ByteArray.toList_eq, ByteArray.toList_eq]; simp [Op.bytesLess]
  have w1 : varsP [] [⟨⟨#[97]⟩, []⟩] = [] := by decide
  have w2 : varsP [] [⟨⟨#[98]⟩, []⟩] = [] := by decide
  simp [uRun, uNext, uPair, uBind, onT, onL, onN, fT1, fT2, zipP, sizeL, forT, inB, preL, srtB, insB, putB, v1, v2, v3, v4, v5, l1, l2, w1, w2]
theorem fact_may : pairsE [⟨fT1, fT2⟩] = 0 := by
  have v1 : varB ⟨#[102]⟩ = false := by decide
  have n1 : nameB ⟨#[102]⟩ = true := by decide
  have n2 : nameB ⟨#[97]⟩ = true := by decide
  have n3 : nameB ⟨#[98]⟩ = true := by decide
  have n4 : nameB ⟨#[88]⟩ = true := by decide
  have n5 : nameB ⟨#[89]⟩ = true := by decide
  simp [pairsE, pmT, twoE, mayE, fT1, fT2, sizeL, errL, v1, n1, n2, n3, n4, n5]
theorem fact_rd1 : (rdAll ⟨#[102, 40, 97, 44, 88, 41]⟩).err = 0 ∧ (rdAll ⟨#[102, 40, 97, 44, 88, 41]⟩).t = fT1 := by
  constructor <;> kernel_rfl
theorem fact_rd2 : (rdAll ⟨#[102, 40, 89, 44, 98, 41]⟩).err = 0 ∧ (rdAll ⟨#[102, 40, 89, 44, 98, 41]⟩).t = fT2 := by
  constructor <;> kernel_rfl
theorem qv_one {w : World} {B T : Nat} {l r : Tm} {a1 a2 : Option Addr} {c1 c2 : Nat} (h : Blk w B #[.string l.name, .slice a1 l.args.length c1, .string r.name, .slice a2 r.args.length c2] T) (h1 : Sl w (fun _ => True) a1 l.args) (h2 : Sl w (fun _ => True) a2 r.args) : QV w (fun _ => True) (.slice (some ⟨B, 0, none⟩) 1 1) [⟨l, r⟩] := by
  refine ⟨some ⟨B, 0, none⟩, 1, rfl, by simp, Or.inr ⟨B, 0, rfl, trivial, fun i hi => ?_⟩⟩
  have e : i = 0 := by simp at hi; omega
  subst e
  exact ⟨a1, c1, a2, c2, h.cell 0, h.cell 1, h.cell 2, h.cell 3, h1, h2⟩

set_option maxHeartbeats 3000000 in
theorem fact_any (w : World) : Calls Try.prog 21 #[] w fun e w' => e = .returned (.bool true) ∧ Below w.heap.size w w' := by
  have PA : ∀ w0, Calls Try.prog 48 #[.string ⟨#[102, 40, 97, 44, 88, 41]⟩] w0 fun e w' => ∃ a c, e = .returned (.tuple #[.agg #[.string ⟨#[102]⟩, .slice a 2 c], .int .i64 0]) ∧ Sl w' (fun _ => True) a fT1.args ∧ Below w0.heap.size w0 w' := fun w0 => by
    refine (parse_any _ w0).mono ?_
    rintro e w1 ⟨v, rfl, h1, _, hb⟩
    obtain ⟨a, c, rfl, hs⟩ := h1 fact_rd1.1
    rw [fact_rd1.1]
    rw [fact_rd1.2] at hs ⊢
    exact ⟨a, c, rfl, hs.mono fun _ _ _ => trivial, hb⟩
  have PB : ∀ w0, Calls Try.prog 48 #[.string ⟨#[102, 40, 89, 44, 98, 41]⟩] w0 fun e w' => ∃ a c, e = .returned (.tuple #[.agg #[.string ⟨#[102]⟩, .slice a 2 c], .int .i64 0]) ∧ Sl w' (fun _ => True) a fT2.args ∧ Below w0.heap.size w0 w' := fun w0 => by
    refine (parse_any _ w0).mono ?_
    rintro e w1 ⟨v, rfl, h1, _, hb⟩
    obtain ⟨a, c, rfl, hs⟩ := h1 fact_rd2.1
    rw [fact_rd2.1]
    rw [fact_rd2.2] at hs ⊢
    exact ⟨a, c, rfl, hs.mono fun _ _ _ => trivial, hb⟩
  have HPA := hide PA
  have HPB := hide PB
  clear PA PB
  go_enter Try.func21, Try.ntmps21
  go_wp2_with fail
  refine (HPA.out w).mono ?_
  rintro e w1 ⟨a1, c1, rfl, hs1, hb1⟩
  have HS1 := hide hs1
  have HB1 := hide hb1
  clear hs1 hb1
  have hbA : Below w1.heap.size w1 (w1.alloc (.cells #[.string ⟨#[102]⟩, .slice a1 2 c1] 25)) := (Below.refl _ _).alloc (Nat.le_refl _) _
  have A2 := hide (Blk.new w1 #[.string ⟨#[102]⟩, .slice a1 2 c1] 25)
  have S2 := hide (HS1.out.later hbA)
  have HB2 := hide (HB1.out.trans (hbA.mono HB1.out.size))
  clear hbA
  go_wp2_with fail
  generalize w1.alloc (.cells #[.string ⟨#[102]⟩, .slice a1 2 c1] 25) = w2 at *
  generalize w1.heap.size = A at *
  refine (HPB.out w2).mono ?_
  rintro e w3 ⟨a3, c3, rfl, hs3, hb3⟩
  have hbA : Below w3.heap.size w3 (w3.alloc (.cells #[.string ⟨#[102]⟩, .slice a3 2 c3] 25)) := (Below.refl _ _).alloc (Nat.le_refl _) _
  have hb4 := hb3.trans (hbA.mono hb3.size)
  have B4 := hide (Blk.new w3 #[.string ⟨#[102]⟩, .slice a3 2 c3] 25)
  have A4 := hide (A2.out.below hb4 A2.out.lt)
  have S4 := hide (S2.out.later hb4)
  have T4 := hide (hs3.later hbA)
  have HB4 := hide (HB2.out.trans (hb4.mono HB2.out.size))
  clear hbA hb3 hs3 hb4
  have p0 := A4.out.cell 0
  have p1 := A4.out.cell 1
  have q0 := B4.out.cell 0
  have q1 := B4.out.cell 1
  have hbQ : Below (w3.alloc (.cells #[.string ⟨#[102]⟩, .slice a3 2 c3] 25)).heap.size (w3.alloc (.cells #[.string ⟨#[102]⟩, .slice a3 2 c3] 25)) ((w3.alloc (.cells #[.string ⟨#[102]⟩, .slice a3 2 c3] 25)).alloc (.cells #[.string ⟨#[102]⟩, .slice a1 2 c1, .string ⟨#[102]⟩, .slice a3 2 c3] 49)) := (Below.refl _ _).alloc (Nat.le_refl _) _
  have hq : QV ((w3.alloc (.cells #[.string ⟨#[102]⟩, .slice a3 2 c3] 25)).alloc (.cells #[.string ⟨#[102]⟩, .slice a1 2 c1, .string ⟨#[102]⟩, .slice a3 2 c3] 49)) (fun _ => True) (.slice (some ⟨w3.heap.size + 1, 0, none⟩) 1 1) [⟨fT1, fT2⟩] := by
    have h1 := Blk.new (w3.alloc (.cells #[.string ⟨#[102]⟩, .slice a3 2 c3] 25)) #[.string ⟨#[102]⟩, .slice a1 2 c1, .string ⟨#[102]⟩, .slice a3 2 c3] 49
    rw [World.size_alloc] at h1
    exact qv_one (l := fT1) (r := fT2) h1 (S4.out.later hbQ) (T4.out.later hbQ)
  have HUN := hide (unify_some [⟨fT1, fT2⟩] fact_may _ 4 fact_run (by simp [grtB, sizeL]) rfl _ _ (fun _ => True) hq)
  have HBQ := hide (HB4.out.trans (hbQ.mono HB4.out.size))
  clear hq hbQ
  go_wp2_with fail
  refine HUN.out.mono ?_
  rintro e w5 ⟨v5, rfl, hv5, hb5⟩
  have HB5 := hide (HBQ.out.trans (hb5.mono HBQ.out.size))
  clear hb5
  obtain ⟨a5, c5, rfl, hl5, h5⟩ := hv5
  rcases h5 with h5 | ⟨b5, o5, rfl, _, hc5⟩
  · cases h5
  · obtain ⟨g0, g1, _, _, g2, _⟩ := hc5 0 (by simp)
    obtain ⟨f0, f1, _, _, f2, _⟩ := hc5 1 (by simp)
    simp only [Nat.zero_mul, Nat.add_zero, Nat.one_mul, List.getElem_cons_zero, List.getElem_cons_succ] at g0 g1 f0 f1
    clear hc5
    go_wp2_with fail
    refine bodyPost_ret (v := .bool true) (by simp [results, Try.results21, go_sem]) rfl ?_
    exact ⟨rfl, HB5.out⟩
#print axioms fact_any
end Go.Proofs.Ytpjdkdebjkpmmaj

/- Terms and lists of numbers as they are read before the call. -/
namespace Go.Proofs.Ytpjdkdebjkpmmaj
open Go.ChangeShapes Go.WideShapes Go.ChangeAt Go.RowKit
set_option linter.unusedSimpArgs false
set_option linter.unusedVariables false
set_option maxRecDepth 8000

theorem Try.cellsTerm : Try.prog.cellsOf 25 = 2 := by kernel_rfl
theorem Try.cellsStr : Try.prog.cellsOf 9 = 1 := by kernel_rfl
theorem Try.cellsSl : Try.prog.cellsOf 23 = 1 := by kernel_rfl
theorem Try.cellsInt : Try.prog.cellsOf 3 = 1 := by kernel_rfl

theorem cells2 {w : World} {a : Addr} {cs : List Value} (h : w.cells? 0 a 2 = some cs) : ∃ c0 c1, cs = [c0, c1] ∧ w.cell? a = some c0 ∧ w.cell? (a.add 1) = some c1 := by
  have e : (List.range 2) = [0, 1] := rfl
  simp only [World.cells?, Nat.zero_le, if_true, e] at h
  simp only [List.mapM_cons, List.mapM_nil, Option.bind_eq_bind, Option.bind_eq_some_iff, Option.pure_def] at h
  obtain ⟨c0, h0, r, ⟨c1, h1, r2, h2, h3⟩, h4⟩ := h
  simp only [Option.some.injEq] at h2 h3 h4
  subst h2; subst h3; subst h4
  exact ⟨c0, c1, rfl, by simpa [Addr.add] using h0, h1⟩

theorem cells1 {w : World} {a : Addr} {cs : List Value} (h : w.cells? 0 a 1 = some cs) : ∃ c0, cs = [c0] ∧ w.cell? a = some c0 := by
  have e : (List.range 1) = [0] := rfl
  simp only [World.cells?, Nat.zero_le, if_true, e] at h
  simp only [List.mapM_cons, List.mapM_nil, Option.bind_eq_bind, Option.bind_eq_some_iff, Option.pure_def] at h
  obtain ⟨c0, h0, r, h1, h2⟩ := h
  simp only [Option.some.injEq] at h1 h2
  subst h1; subst h2
  exact ⟨c0, rfl, by simpa [Addr.add] using h0⟩

theorem open_term {H : Type} {enc : TypeId × Value → H} {w : World} {sp : Nat → Bool} {held : Bool} : ∀ (fuel : Nat) (cs : List Value) (x : DataW H × List MemPlace), DataW.trod enc Try.prog w 0 sp held fuel 25 cs = some x →
    ∃ (t : Tm) (a : Option Addr) (c : Nat), cs = [.string t.name, .slice a t.args.length c] ∧ Sl w (fun _ => True) a t.args := by
  intro fuel
  induction fuel using Nat.strongRecOn with
  | ind fuel ih =>
    intro cs x h
    obtain ⟨xs, n, hfu, hx, hl, hxl, hf⟩ := DataW.trod_struct Try.underlying25 h
    have f0 := hf 0 _ rfl
    have f1 := hf 1 _ rfl
    rw [Try.cellsTerm] at hl
    match cs, hl with
    | [c0, c1], _ =>
      match xs, hxl with
      | [y0, y1], _ =>
        simp [Try.cellsStr, Try.cellsSl] at f0 f1
        obtain ⟨s, e0, _, hs⟩ := DataW.trod_string Try.underlying9 f0
        simp at e0
        subst e0
        rcases DataW.trod_slice Try.underlying23 f1 with ⟨e1, _⟩ | ⟨a, len, cap, elems, rest, n2, hn2, e1, _, hb, hlc, hcm, hel, helem, _⟩
        · simp at e1
          subst e1
          exact ⟨⟨s, []⟩, none, 0, rfl, by simp, Or.inl rfl⟩
        · simp at e1
          subst e1
          unfold maxLen at hcm
          rw [Try.cellsTerm] at helem
          have key : ∀ i, ∃ t : Tm, i < len → ∃ a' c', w.cell? (a.add (i * 2)) = some (.string t.name) ∧ w.cell? ((a.add (i * 2)).add 1) = some (.slice a' t.args.length c') ∧ Sl w (fun _ => True) a' t.args := by
            intro i
            by_cases hi : i < len
            · have h1 := helem i hi
              have hie : i < elems.length := by omega
              rw [List.getElem?_eq_getElem hie, Option.bind_eq_some_iff] at h1
              obtain ⟨cs', h2, h3⟩ := h1
              obtain ⟨d0, d1, rfl, g0, g1⟩ := cells2 h2
              obtain ⟨t, a', c', e3, hsl⟩ := ih n2 (by omega) _ _ h3
              simp at e3
              obtain ⟨rfl, rfl⟩ := e3
              exact ⟨t, fun _ => ⟨a', c', g0, g1, hsl⟩⟩
            · exact ⟨⟨s, []⟩, fun h => absurd h hi⟩
          obtain ⟨T, hT⟩ := Classical.skolem.1 key
          refine ⟨⟨s, (List.range len).map T⟩, some a, cap, by simp, by simp; omega, ?_⟩
          by_cases h0 : len = 0
          · subst h0; exact Or.inl rfl
          · right
            obtain ⟨b, o, sp⟩ := a
            obtain ⟨a0, c0, g0, _, _⟩ := hT 0 (by omega)
            have hsp : sp = none := by simpa [Addr.add] using World.cell?_spot g0
            subst hsp
            refine ⟨b, o, rfl, lies_mk _ _ _ fun i hi => ?_⟩
            simp at hi
            obtain ⟨a', c', g0, g1, hsl⟩ := hT i hi
            refine ⟨trivial, ?_, a', c', ?_, ?_⟩
            · simp only [List.getElem_map, List.getElem_range]
              by_cases h00 : i = 0
              · subst h00; simpa [Addr.add] using g0
              · have : i * 2 ≠ 0 := by omega
                simpa [Addr.add, this] using g0
            · simp only [List.getElem_map, List.getElem_range]
              by_cases h00 : i = 0
              · subst h00; simpa [Addr.add] using g1
              · have : i * 2 ≠ 0 := by omega
                simpa [Addr.add, this] using g1
            · simpa using hsl

theorem open_tv {H : Type} {enc : TypeId × Value → H} {w : World} {sp : Nat → Bool} {held : Bool} {r : Reach} {b0 : Nat} {v : Value} {d : DataW H} {p : List MemPlace} (hv : Value.okWide Try.prog w r b0 25 v) (h : DataW.Trod enc Try.prog w 0 sp held 25 v d p) : ∃ t, TV w (fun _ => True) v t := by
  obtain ⟨cs, rfl, hsz⟩ := okWide_struct Try.underlying25 hv
  obtain ⟨fuel, hf⟩ := h
  obtain ⟨t, a, c, e, hs⟩ := open_term fuel _ _ hf
  refine ⟨t, a, c, ?_, hs⟩
  simp [Value.cells] at e
  congr 1
  apply Array.ext'
  simpa using e

theorem open_pv {H : Type} {enc : TypeId × Value → H} {w : World} {sp : Nat → Bool} {held : Bool} {r : Reach} {b0 : Nat} {v : Value} {d : DataW H} {p : List MemPlace} (hv : Value.okWide Try.prog w r b0 22 v) (h : DataW.Trod enc Try.prog w 0 sp held 22 v d p) : ∃ zs, PV w (fun _ => True) v zs := by
  obtain ⟨a0, len0, cap0, rfl⟩ := okWide_slice Try.underlying22 hv
  obtain ⟨fuel, hf⟩ := h
  rcases DataW.trod_slice Try.underlying22 hf with ⟨e1, _⟩ | ⟨a, len, cap, elems, rest, n2, hn2, e1, _, hb, hlc, hcm, hel, helem, _⟩
  · simp [Value.cells] at e1
    obtain ⟨rfl, rfl, rfl⟩ := e1
    exact ⟨[], none, 0, rfl, by simp, Or.inl rfl⟩
  · simp [Value.cells] at e1
    obtain ⟨rfl, rfl, rfl⟩ := e1
    unfold maxLen at hcm
    rw [Try.cellsInt] at helem
    have key : ∀ i, ∃ z : Int, i < len0 → w.cell? (a.add i) = some (.int .i64 z) := by
      intro i
      by_cases hi : i < len0
      · have h1 := helem i hi
        have hie : i < elems.length := by omega
        rw [List.getElem?_eq_getElem hie, Option.bind_eq_some_iff, Nat.mul_one] at h1
        obtain ⟨cs', h2, h3⟩ := h1
        obtain ⟨d0, rfl, g0⟩ := cells1 h2
        obtain ⟨z, e3, _⟩ := DataW.trod_int Try.underlying3 h3
        simp at e3
        subst e3
        exact ⟨z, fun _ => g0⟩
      · exact ⟨0, fun h => absurd h hi⟩
    obtain ⟨Z, hZ⟩ := Classical.skolem.1 key
    refine ⟨(List.range len0).map Z, some a, cap0, by simp, by simp; omega, ?_⟩
    by_cases h0 : len0 = 0
    · subst h0; exact Or.inl rfl
    · right
      obtain ⟨b, o, sp⟩ := a
      have g0 := hZ 0 (by omega)
      have hsp : sp = none := by simpa [Addr.add] using World.cell?_spot g0
      subst hsp
      refine ⟨b, o, rfl, trivial, fun i hi => ?_⟩
      simp at hi
      have g1 := hZ i hi
      simp only [List.getElem_map, List.getElem_range]
      by_cases h00 : i = 0
      · subst h00; simpa [Addr.add] using g1
      · simpa [Addr.add, h00] using g1
#print axioms open_tv
#print axioms open_pv
end Go.Proofs.Ytpjdkdebjkpmmaj

/- Lists of numbers as they are read before the call, with their bounds. -/
namespace Go.Proofs.Ytpjdkdebjkpmmaj
open Go.ChangeShapes Go.WideShapes Go.ChangeAt Go.RowKit
set_option linter.unusedSimpArgs false
set_option linter.unusedVariables false
set_option maxRecDepth 8000

theorem rng_wf {n : Int} (h : (Lit.int .i64 n).wf = true) : Rng n := by
  have h1 : IntKind.i64.min = -9223372036854775808 := by decide
  have h2 : IntKind.i64.max = 9223372036854775807 := by decide
  simp only [Lit.wf, h1, h2, Bool.and_eq_true, decide_eq_true_eq] at h
  exact h

theorem open_int {H : Type} {enc : TypeId × Value → H} {w : World} {sp : Nat → Bool} {held : Bool} {r : Reach} {b0 : Nat} {v : Value} {d : DataW H} {p : List MemPlace} (hv : Value.okWide Try.prog w r b0 3 v) (h : DataW.Trod enc Try.prog w 0 sp held 3 v d p) : ∃ z, v = .int .i64 z ∧ Rng z := by
  obtain ⟨z, rfl⟩ := okWide_int Try.underlying3 hv
  obtain ⟨fuel, hf⟩ := h
  obtain ⟨z', e3, _, hwf⟩ := DataW.trod_int Try.underlying3 hf
  simp [Value.cells] at e3
  subst e3
  exact ⟨_, rfl, rng_wf hwf⟩

theorem open_pvr {H : Type} {enc : TypeId × Value → H} {w : World} {sp : Nat → Bool} {held : Bool} {r : Reach} {b0 : Nat} {v : Value} {d : DataW H} {p : List MemPlace} (hv : Value.okWide Try.prog w r b0 22 v) (h : DataW.Trod enc Try.prog w 0 sp held 22 v d p) : ∃ zs, PV w (fun _ => True) v zs ∧ ∀ z ∈ zs, Rng z := by
  obtain ⟨a0, len0, cap0, rfl⟩ := okWide_slice Try.underlying22 hv
  obtain ⟨fuel, hf⟩ := h
  rcases DataW.trod_slice Try.underlying22 hf with ⟨e1, _⟩ | ⟨a, len, cap, elems, rest, n2, hn2, e1, _, hb, hlc, hcm, hel, helem, _⟩
  · simp [Value.cells] at e1
    obtain ⟨rfl, rfl, rfl⟩ := e1
    exact ⟨[], ⟨none, 0, rfl, by simp, Or.inl rfl⟩, by simp⟩
  · simp [Value.cells] at e1
    obtain ⟨rfl, rfl, rfl⟩ := e1
    unfold maxLen at hcm
    rw [Try.cellsInt] at helem
    have key : ∀ i, ∃ z : Int, Rng z ∧ (i < len0 → w.cell? (a.add i) = some (.int .i64 z)) := by
      intro i
      by_cases hi : i < len0
      · have h1 := helem i hi
        have hie : i < elems.length := by omega
        rw [List.getElem?_eq_getElem hie, Option.bind_eq_some_iff, Nat.mul_one] at h1
        obtain ⟨cs', h2, h3⟩ := h1
        obtain ⟨d0, rfl, g0⟩ := cells1 h2
        obtain ⟨z, e3, _, hwf⟩ := DataW.trod_int Try.underlying3 h3
        simp at e3
        subst e3
        exact ⟨z, rng_wf hwf, fun _ => g0⟩
      · exact ⟨0, by unfold Rng; omega, fun h => absurd h hi⟩
    obtain ⟨Z, hZ⟩ := Classical.skolem.1 key
    refine ⟨(List.range len0).map Z, ⟨some a, cap0, by simp, by simp; omega, ?_⟩, fun z hz => by obtain ⟨i, _, rfl⟩ := List.mem_map.1 hz; exact (hZ i).1⟩
    by_cases h0 : len0 = 0
    · subst h0; exact Or.inl rfl
    · right
      obtain ⟨b, o, sp⟩ := a
      have g0 := (hZ 0).2 (by omega)
      have hsp : sp = none := by simpa [Addr.add] using World.cell?_spot g0
      subst hsp
      refine ⟨b, o, rfl, trivial, fun i hi => ?_⟩
      simp at hi
      have g1 := (hZ i).2 hi
      simp only [List.getElem_map, List.getElem_range]
      by_cases h00 : i = 0
      · subst h00; simpa [Addr.add] using g1
      · simpa [Addr.add, h00] using g1
#print axioms open_pvr
#print axioms open_int
end Go.Proofs.Ytpjdkdebjkpmmaj
