/- Memory: which sets are not alike (auto.kinds); the library's Clone at rows of sets. -/
import Derived.Test.YtfodgmnnjgcpgaaAx3
import Derived.Test.YtfodgmnnjgcpgaaZHAutoKindsOwn
import Derived.Ground.SlgnProg
import Derived.Shelf.SlicesE.Clone
import Derived.Deep.RegionHeld3
namespace Go.Proofs.Ytfodgmnnjgcpgaa
open Go.RowKit Go.Shelf
set_option linter.unusedSimpArgs false
set_option linter.unusedVariables false
set_option maxRecDepth 8000

def cls_ren : Go.Shelf.Ren := ⟨fun | 41 => 89 | n => n, fun | 22 => 63 | 23 => 61 | 4 => 4 | n => n, fun | n => n⟩
theorem cls_lays : Go.Proofs.SlLaysE0.n41 Try.prog cls_ren := {
  mixed := by kernel_rfl
  f41 := ⟨Try.f89.name, by decide, Try.func89.trans (congrArg some (by kernel_rfl))⟩
  t4 := Try.underlying4
  a4 := Try.isAgg4
  z4 := Try.sizeOf4
  v4 := Try.zeroValue4
  t22 := Try.underlying63
  a22 := Try.isAgg63
  z22 := Try.sizeOf63
  v22 := Try.zeroValue63 }
/-- A row of sets cloned: its cells lie in memory of the call's own. -/
theorem cloneS_any (b off c : Nat) (xs : List Nat) (w : World) (hn : xs.length ≤ 1000000) (hc : ∀ i (h : i < xs.length), w.cell? ⟨b, off + i, none⟩ = some (stV xs[i])) :
    Calls Try.prog 89 #[.slice (some ⟨b, off, none⟩) xs.length c] w fun e w' => ∃ v', e = .returned v' ∧ w'.ownsRow w.heap.size 61 1 v' xs.length (xs.map stV) ∧ v' ≠ .slice none 0 0 ∧ Below w.heap.size w w' := by
  obtain ⟨i0, hi, hz0, hz1, hz2⟩ := info_parts infoSetX
  refine AnyE.slices_Clone cls_lays i0 _ 1 8 hi hz0 hz1 hz2 rfl (by decide) Try.sizeOf61 b off xs.length c (xs.map stV) w (by simp) (by unfold maxLen; omega) (by omega) (fun j u hj => ?_) (fun u hu => ?_)
  · have hjl : j < xs.length := by
      apply Classical.byContradiction
      intro h
      rw [List.getElem?_eq_none (by simp; omega)] at hj
      cases hj
    rw [List.getElem?_map, List.getElem?_eq_getElem hjl] at hj
    simp at hj
    subst hj
    exact hc j hjl
  · obtain ⟨x, _, rfl⟩ := List.mem_map.1 hu
    rfl
/-- The cells of a kinds: the table, the sets, which are apart. -/
def kdC (a b c : Value) (T : Nat → Nat → Bool) : Array Value := (a :: b :: c :: (List.range 64).map fun (i : Nat) => Value.bool (T (i / 8) (i % 8))).toArray
theorem kd_cell {a b c : Value} {T : Nat → Nat → Bool} {s r : Nat} (hs : s < 8) (hr : r < 8) : (kdC a b c T)[3 + s * 8 + r]? = some (.bool (T s r)) := by
  unfold kdC
  have e : 3 + s * 8 + r = s * 8 + r + 1 + 1 + 1 := by omega
  rw [e]
  simp only [List.getElem?_toArray, List.getElem?_cons_succ]
  rw [List.getElem?_map, List.getElem?_range (by omega)]
  have h1 : (s * 8 + r) / 8 = s := by omega
  have h2 : (s * 8 + r) % 8 = r := by omega
  simp only [Option.map_some, h1, h2]
/-- One of them is set. -/
def setTx (T : Nat → Nat → Bool) (s r : Nat) (z : Bool) : Nat → Nat → Bool := fun x y => if x = s ∧ y = r then z else T x y
theorem kd_put {a b c : Value} {T : Nat → Nat → Bool} {s r : Nat} (hs : s < 8) (hr : r < 8) (z : Bool) : (kdC a b c T).setIfInBounds (3 + s * 8 + r) (.bool z) = kdC a b c (setTx T s r z) := by
  unfold kdC
  have e : 3 + s * 8 + r = s * 8 + r + 1 + 1 + 1 := by omega
  rw [e, List.setIfInBounds_toArray]
  simp only [List.set_cons_succ]
  congr 4
  apply List.ext_getElem
  · simp
  · intro i h1 h2
    simp only [List.length_set, List.length_map, List.length_range] at h1
    rw [List.getElem_set]
    simp only [List.getElem_map, List.getElem_range, setTx]
    by_cases h : s * 8 + r = i
    · have h3 : i / 8 = s ∧ i % 8 = r := by omega
      rw [if_pos h, if_pos h3]
    · have h3 : ¬ (i / 8 = s ∧ i % 8 = r) := by omega
      rw [if_neg h, if_neg h3]
theorem Blk.kdPut {w : World} {K : Nat} {a b c : Value} {T : Nat → Nat → Bool} {Y : Nat} (h : Blk w K (kdC a b c T) Y) {s r : Nat} (hs : s < 8) (hr : r < 8) (z : Bool) : Blk (w.setCell ⟨K, 3 + s * 8 + r, none⟩ (.bool z)) K (kdC a b c (setTx T s r z)) Y := by
  have := h.set (3 + s * 8 + r) (.bool z)
  rw [kd_put hs hr] at this
  exact this

set_option maxHeartbeats 1000000 in
theorem count1_any (T : Nat → Nat → Bool) (a b c : Value) (K P Q s r : Nat) (hs : s < 8) (hr : r < 8) (w : World) (hK : Blk w K (kdC a b c T) 106) (hP : Blk w P #[.pointer (some ⟨K, 0, none⟩)] 71) (hQ : Blk w Q #[stV s] 61) :
    Calls Try.prog 61 #[stV r, .pointer (some ⟨P, 0, none⟩), .pointer (some ⟨Q, 0, none⟩)] w fun e w' => e = .returned (.bool (!T s r)) ∧ w' = w.drew := by
  unfold stV at *
  have c0 : w.cell? ⟨P, 0, none⟩ = some (.pointer (some ⟨K, 0, none⟩)) := hP.cell 0
  have c1 : w.cell? ⟨Q, 0, none⟩ = some (.int .u64 (s : Int)) := hQ.cell 0
  have c2 : w.cell? ⟨K, 3 + s * 8 + r, none⟩ = some (.bool (T s r)) := (hK.cell (3 + s * 8 + r)).trans (kd_cell hs hr)
  have hsi : (s : Int) < 8 := by omega
  have hri : (r : Int) < 8 := by omega
  have hKl := hK.lt
  clear hK hP hQ
  go_enter Try.func61, Try.ntmps61
  go_wp2_with fail
  go_region_held3 (fun w' => w'.cell? ⟨P, 0, none⟩ = some (.pointer (some ⟨K, 0, none⟩)) ∧ w'.cell? ⟨Q, 0, none⟩ = some (.int .u64 (s : Int)) ∧ w'.cell? ⟨K, 3 + s * 8 + r, none⟩ = some (.bool (T s r))) (go_keep) (fail)
  go_wp2_with fail
  go_ret
  exact ⟨rfl, rfl⟩
end Go.Proofs.Ytfodgmnnjgcpgaa
