/- Walks: what stands for variables, in a map; what is looked for there. -/
import Derived.Test.YtmkomemjhfafnaaMapS
import Derived.Test.YtmkomemjhfafnaaW9
namespace Go.Proofs.Ytmkomemjhfafnaa
open Go.RowKit
set_option linter.unusedSimpArgs false
set_option linter.unusedVariables false
set_option maxRecDepth 8000

/-- No variable twice. -/
def Once (ls : List Bd) : Prop := ∀ k (h : k < ls.length), forT (ls.take k) ls[k].nm = none

/-- The map's values are the bindings' terms. -/
def PairsL (w : World) (X : Nat → Prop) : List Bd → List (ByteArray × Value) → Prop
  | [], L => L = []
  | d :: r, L => ∃ a c L', L = (d.nm, .agg #[.string d.t.name, .slice a d.t.args.length c]) :: L' ∧ Sl w X a d.t.args ∧ PairsL w X r L'
theorem PairsL.imp {w w' : World} {X Y : Nat → Prop} (hs : ∀ a l, Sl w X a l → Sl w' Y a l) : ∀ {l : List Bd} {L : List (ByteArray × Value)}, PairsL w X l L → PairsL w' Y l L
  | [], L, h => h
  | d :: r, L, h => by obtain ⟨a, c, L', e, h1, h2⟩ := h; exact ⟨a, c, L', e, hs _ _ h1, PairsL.imp hs h2⟩
theorem PairsL.push {w : World} {X : Nat → Prop} {d : Bd} {a : Option Addr} {c : Nat} (hs : Sl w X a d.t.args) : ∀ {l : List Bd} {L : List (ByteArray × Value)}, PairsL w X l L → PairsL w X (l ++ [d]) (L ++ [(d.nm, .agg #[.string d.t.name, .slice a d.t.args.length c])])
  | [], L, h => by
    have e : L = [] := h
    subst e
    exact ⟨a, c, [], rfl, hs, rfl⟩
  | d' :: r, L, h => by obtain ⟨a', c', L', e, h1, h2⟩ := h; subst e; exact ⟨a', c', _, rfl, h1, PairsL.push hs h2⟩
theorem PairsL.get {w : World} {X : Nat → Prop} (n : ByteArray) : ∀ {l : List Bd} {L : List (ByteArray × Value)}, PairsL w X l L → (forT l n = none → mapGet L n = none) ∧ (∀ t, forT l n = some t → ∃ a c, mapGet L n = some (.agg #[.string t.name, .slice a t.args.length c]) ∧ Sl w X a t.args)
  | [], L, h => by
    have e : L = [] := h
    subst e
    exact ⟨fun _ => rfl, fun t h => by simp [forT] at h⟩
  | d :: r, L, h => by
    obtain ⟨a, c, L', rfl, h1, h2⟩ := h
    obtain ⟨g1, g2⟩ := PairsL.get n h2
    by_cases hd : d.nm = n
    · refine ⟨fun h => by simp [forT, hd] at h, fun t h => ?_⟩
      rw [forT, if_pos hd] at h
      cases h
      exact ⟨a, c, by simp [mapGet, hd], h1⟩
    · refine ⟨fun h => ?_, fun t h => ?_⟩
      · rw [forT, if_neg hd] at h
        simp only [mapGet, hd, if_false]
        exact g1 h
      · rw [forT, if_neg hd] at h
        simp only [mapGet, hd, if_false]
        exact g2 t h

def ByInv (w : World) (X : Nat → Prop) (ls : List Bd) (v : Value) (wr : World) : Prop := ∃ (k : Nat) (L : List (ByteArray × Value)), v = .int .i64 (k : Int) ∧ k ≤ ls.length ∧ MapAt wr w.heap.size L ∧ PairsL wr (fun b => X b ∧ b < w.heap.size) (ls.take k) L ∧ Below w.heap.size w wr

set_option maxHeartbeats 1000000 in
theorem byName_any (ls : List Bd) (ho : Once ls) (u : Value) (w : World) (X : Nat → Prop) (hu : BV w X u ls) :
    Calls Try.prog 41 #[u] w fun e w' => ∃ L, e = .returned (.map (some w.heap.size)) ∧ MapAt w' w.heap.size L ∧ PairsL w' (fun b => X b ∧ b < w.heap.size) ls L ∧ Below w.heap.size w w' := by
  have HU := hide hu
  obtain ⟨a, c, rfl, hl, hu2⟩ := hu
  clear hu2
  have hmm := @run_makeMap Try.prog
  go_enter Try.func41, Try.ntmps41
  go_wp2_with fail
  go_loopw [9] (fun v wr => ByInv w X ls v wr) (fun v wr => ls.length - (intOf v).toNat)
  case atStart => exact ⟨0, [], rfl, Nat.zero_le _, MapAt.new w, rfl, (Below.refl _ _).alloc (Nat.le_refl _) _⟩
  case round =>
    obtain ⟨k, L, rfl, hk, hM, hP, hb⟩ := hrel
    have HM := hide hM
    have HP := hide hP
    have HB := hide hb
    by_cases hlt : k < ls.length
    · obtain ⟨b, o, a', c', rfl, d0, d1, d2, hs⟩ := ((HU.out.mono (Y := fun b => X b ∧ b < w.heap.size) fun b h1 h2 => ⟨h1, h2⟩).later hb).get k hlt
      have hlt2 : (k : Int) < (ls.length : Int) := by omega
      have HX := hide hs
      have hno := (hP.get ls[k].nm).1 (ho k hlt)
      have htk : ls.take (k + 1) = ls.take k ++ [ls[k]] := List.take_succ_eq_append_getElem hlt
      have HTK := hide htk
      have hMr := hM.lt
      clear hb hs hM hP htk
      generalize ls[k] = d at *
      obtain ⟨w2, hrun, hM2, hz2, ho2, ht2, hu2, hk2⟩ := run_put (P := Try.prog) (w := wr.alloc (.cells #[.string d.nm, .string d.t.name, .slice a' d.t.args.length c'] 56)) Try.underlying68 Try.underlying9 (HM.out.kept (Below.heap_alloc _ _ _ hMr)) d.nm (.agg #[.string d.t.name, .slice a' d.t.args.length c']) hno
      have HM2 := hide hM2
      have HB2 : Hid (Below w.heap.size w w2) := by
        have h0 := HB.out.alloc HB.out.size (.cells #[.string d.nm, .string d.t.name, .slice a' d.t.args.length c'] 56)
        exact ⟨ho2.trans h0.os, ht2.trans h0.tape, hu2.trans h0.output, by rw [hz2]; exact h0.size, fun j hj => (hk2 j (by omega)).trans (h0.block j hj)⟩
      have HP2 : Hid (PairsL w2 (fun b => X b ∧ b < w.heap.size) (ls.take (k + 1)) (L ++ [(d.nm, .agg #[.string d.t.name, .slice a' d.t.args.length c'])])) := by
        have hkp : ∀ q l, Sl wr (fun b => X b ∧ b < w.heap.size) q l → Sl w2 (fun b => X b ∧ b < w.heap.size) q l := fun q l h => h.kept fun j hj => (hk2 j (by have := hj.2; omega)).trans (Below.heap_alloc _ _ _ (by have := hj.2; omega))
        unfold Hid
        rw [HTK.out]
        exact PairsL.push (hkp _ _ HX.out) (HP.out.imp hkp)
      clear hM2 hz2 ho2 ht2 hu2 hk2 hno
      go_wp2_with fail
      go_roundw
      case rel => exact ⟨k + 1, _, by go_num, by omega, HM2.out, HP2.out, HB2.out⟩
      case measure => simp [intOf]; omega
    · have htk : ls.take k = ls := List.take_of_length_le (by omega)
      rw [htk] at HP
      clear hP htk
      go_wp2_with fail
      go_ret
      exact ⟨L, rfl, HM.out, HP.out, HB.out⟩
#print axioms byName_any
end Go.Proofs.Ytmkomemjhfafnaa
