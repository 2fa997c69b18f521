import Derived.Test.YtdebiiodhkcnkaaGreatW95
import Derived.Test.YtdebiiodhkcnkaaGreatW94a
import Derived.Test.YtdebiiodhkcnkaaGreatW93
import Derived.Laws.EntriesVeiled
namespace Go.Proofs.YtdebiiodhkcnkaaGreat
open Go.RowKit
set_option linter.unusedSimpArgs false
set_option linter.unusedVariables false
set_option maxRecDepth 8000
def FitPost (w : World) (Y : Nat → Prop) (p t : Tm) (e : Ending) (w' : World) : Prop :=
 Below w.heap.size w w' ∧ ((mtT p t [] = none ∧ e = .returned (.tuple #[.map none, .bool false])) ∨
  ∃ (h' : List Bd) (q : Nat) (Z' : List Bc), mtT p t [] = some h' ∧ e = .returned (.tuple #[.map (some q), .bool true]) ∧ Z'.map (·.1) = h' ∧ FtM w' q Y Z')
def FitPostN (w : World) (Y : Nat → Prop) (p t : Tm) (e : Ending) (w' : World) : Prop :=
 Below w.heap.size w w' ∧ ((mtT p t [] = none ∧ e = .returned (.tuple #[.map none, .bool false])) ∨
  ∃ (h' : List Bd) (q : Nat) (Z' : List Bc), mtT p t [] = some h' ∧ e = .returned (.tuple #[.map (some q), .bool true]) ∧ Z'.map (·.1) = h' ∧ FtM w' q Y Z' ∧ w.heap.size ≤ q)
theorem fit_start (w : World) (m v : Value) (T1 T2 : Nat) : Below w.heap.size w (((w.alloc (.map #[] 0)).alloc (.cells #[m] T1)).alloc (.cells #[v] T2)) ∧
  MapAt (((w.alloc (.map #[] 0)).alloc (.cells #[m] T1)).alloc (.cells #[v] T2)) w.heap.size [] ∧ Blk (((w.alloc (.map #[] 0)).alloc (.cells #[m] T1)).alloc (.cells #[v] T2)) (w.heap.size + 1) #[m] T1 ∧ Blk (((w.alloc (.map #[] 0)).alloc (.cells #[m] T1)).alloc (.cells #[v] T2)) (w.heap.size + 1 + 1) #[v] T2 := by
 refine ⟨((((Below.refl _ _).alloc (Nat.le_refl _) _).alloc (by simp) _).alloc (by simp; omega) _), ?_, ?_, ?_⟩
 ·have h := MapAt.new w
  have h1 := (h.below ((Below.refl _ _).alloc (Nat.le_refl _) (.cells #[m] T1)) h.lt)
  have h2 := (h1.below ((Below.refl _ _).alloc (Nat.le_refl _) (.cells #[v] T2)) h1.lt)
  simpa using h2
 ·have h := (Blk.new (w.alloc (.map #[] 0)) #[m] T1).alloc (.cells #[v] T2)
  simpa using h
 ·have h := Blk.new ((w.alloc (.map #[] 0)).alloc (.cells #[m] T1)) #[v] T2
  simpa using h
theorem PtT.of_blk {w : World} {X : Nat → Prop} {b : Nat} {t : Tm} {a : Option Addr} {c T : Nat} (h : Blk w b #[.string t.name, .slice a t.args.length c] T) (hs : Sl w X a t.args) : PtT w X b 0 t := ⟨a, c, h.cell 0, h.cell 1, hs, h.lt⟩
set_option maxHeartbeats 400000 in
theorem fitN_any (p t : Tm) (pv tv : Value) (w : World) (X : Nat → Prop) (hp : TV w X pv p) (ht : TV w X tv t) :
  Calls Tryz.prog 29 #[pv, tv] w fun e w' => FitPostN w (fun b => X b ∧ b < w.heap.size) p t e w' := by
 obtain ⟨a, c, rfl, hs⟩ := hp
 obtain ⟨a2, c2, rfl, hs2⟩ := ht
 have HS := hide (hs.mono (Y := fun b => X b ∧ b < w.heap.size) fun b h1 h2 => ⟨h1, h2⟩)
 have HS2 := hide (hs2.mono (Y := fun b => X b ∧ b < w.heap.size) fun b h1 h2 => ⟨h1, h2⟩)
 clear hs hs2
 have hmm := @run_makeMap Tryz.prog
 have hmf : ∀ (fn : Fn) (first cap : Array Value) (w : World), (Instr.makeFunc fn first cap).run Tryz.prog w = .ok (.func fn first cap) w := fun _ _ _ _ => rfl
 have hB2 : Below w.heap.size w ((w.alloc (.cells #[.string p.name, .slice a p.args.length c] 26)).alloc (.cells #[.string t.name, .slice a2 t.args.length c2] 26)) := below2 _ _
 have hP2 : Blk ((w.alloc (.cells #[.string p.name, .slice a p.args.length c] 26)).alloc (.cells #[.string t.name, .slice a2 t.args.length c2] 26)) w.heap.size #[.string p.name, .slice a p.args.length c] 26 := (Blk.new w _ _).alloc _
 have hT2 : Blk ((w.alloc (.cells #[.string p.name, .slice a p.args.length c] 26)).alloc (.cells #[.string t.name, .slice a2 t.args.length c2] 26)) (w.heap.size + 1) #[.string t.name, .slice a2 t.args.length c2] 26 := by
  have h := Blk.new (w.alloc (.cells #[.string p.name, .slice a p.args.length c] 26)) #[.string t.name, .slice a2 t.args.length c2] 26
  simpa using h
 go_enter Tryz.func29, Tryz.ntmps29
 go_wp2_with fail
 generalize (w.alloc (.cells #[.string p.name, .slice a p.args.length c] 26)).alloc (.cells #[.string t.name, .slice a2 t.args.length c2] 26) = w2 at *
 refine (isShaped_any (fun b => X b ∧ b < w.heap.size) p t _ _ _ _ w2 (PtT.of_blk hP2 (HS.out.later hB2)) (PtT.of_blk hT2 (HS2.out.later hB2))).mono ?_
 rintro e w3 ⟨rfl, hb3⟩
 have HB3 := hide (hB2.trans (hb3.mono hB2.size))
 have HP3 := hide (hP2.below hb3 hP2.lt)
 have HT3 := hide (hT2.below hb3 hT2.lt)
 have hlP := HP3.out.lt
 have hlT := HT3.out.lt
 clear hb3 hP2 hT2 hB2
 cases hsh : shT p t with
 | false =>
  have H0 := hide (mtT_unshaped (p := p) (t := t) [] hsh)
  clear hsh
  go_wp2_with fail
  refine bodyPost_ret (v := .tuple #[.map none, .bool false]) (by simp [results, Tryz.results29, go_sem]) rfl ?_
  exact ⟨HB3.out, Or.inl ⟨H0.out, rfl⟩⟩
 | true =>
  have HSH := hide hsh
  clear hsh
  have FS := hide (fit_start w3 (.map (some w3.heap.size)) (.func (.func 51) #[] #[.pointer (some ⟨w3.heap.size + 1, 0, none⟩), .pointer (some ⟨w3.heap.size + 1 + 1, 0, none⟩)]) 67 93)
  have p0 : (((w3.alloc (.map #[] 0)).alloc (.cells #[.map (some w3.heap.size)] 67)).alloc (.cells #[.func (.func 51) #[] #[.pointer (some ⟨w3.heap.size + 1, 0, none⟩), .pointer (some ⟨w3.heap.size + 1 + 1, 0, none⟩)]] 93)).cell? ⟨w.heap.size, 0, none⟩ = some (.string p.name) := (HP3.out.below FS.out.1 hlP).cell 0
  have p1 : (((w3.alloc (.map #[] 0)).alloc (.cells #[.map (some w3.heap.size)] 67)).alloc (.cells #[.func (.func 51) #[] #[.pointer (some ⟨w3.heap.size + 1, 0, none⟩), .pointer (some ⟨w3.heap.size + 1 + 1, 0, none⟩)]] 93)).cell? ⟨w.heap.size, 1, none⟩ = some (.slice a p.args.length c) := (HP3.out.below FS.out.1 hlP).cell 1
  have t0 : (((w3.alloc (.map #[] 0)).alloc (.cells #[.map (some w3.heap.size)] 67)).alloc (.cells #[.func (.func 51) #[] #[.pointer (some ⟨w3.heap.size + 1, 0, none⟩), .pointer (some ⟨w3.heap.size + 1 + 1, 0, none⟩)]] 93)).cell? ⟨w.heap.size + 1, 0, none⟩ = some (.string t.name) := (HT3.out.below FS.out.1 hlT).cell 0
  have t1 : (((w3.alloc (.map #[] 0)).alloc (.cells #[.map (some w3.heap.size)] 67)).alloc (.cells #[.func (.func 51) #[] #[.pointer (some ⟨w3.heap.size + 1, 0, none⟩), .pointer (some ⟨w3.heap.size + 1 + 1, 0, none⟩)]] 93)).cell? ⟨w.heap.size + 1, 1, none⟩ = some (.slice a2 t.args.length c2) := (HT3.out.below FS.out.1 hlT).cell 1
  go_wp2_with fail
  generalize (((w3.alloc (.map #[] 0)).alloc (.cells #[.map (some w3.heap.size)] 67)).alloc (.cells #[.func (.func 51) #[] #[.pointer (some ⟨w3.heap.size + 1, 0, none⟩), .pointer (some ⟨w3.heap.size + 1 + 1, 0, none⟩)]] 93)) = w5 at *
  have HB5 := hide (HB3.out.trans (FS.out.1.mono HB3.out.size))
  have SB5 := hide FS.out.2.2.1
  have hz5 := HB5.out.size
  have hz3 := HB3.out.size
  refine (fits_any (w3.heap.size + 1) (w3.heap.size + 1 + 1) w3.heap.size (fun b => X b ∧ b < w.heap.size) p t [] _ _ w5 ⟨a, c, rfl, HS.out.later HB5.out⟩ ⟨a2, c2, rfl, HS2.out.later HB5.out⟩ FS.out.2.2.1 FS.out.2.2.2 ⟨FS.out.2.1, by simp⟩ (fun b hb => ⟨by omega, by omega⟩) HSH.out).mono ?_
  rintro e w6 ⟨hg6, hc6⟩
  have HB6 : Hid (Below w.heap.size w w6) := HB5.out.grown hg6 HB5.out.size (fun j hj => by cases hj; omega)
  have SB6 : Hid (Blk w6 (w3.heap.size + 1) #[.map (some w3.heap.size)] 67) := (hg6.block _ SB5.out.lt (by simp)).trans SB5.out
  have s0 := SB6.out.c0
  clear hg6
  rcases hc6 with ⟨h0, rfl⟩ | ⟨h', Z', h0, rfl, hz', hm'⟩
  ·have H0 := hide h0
   clear h0
   go_wp2_with fail
   refine bodyPost_ret (v := .tuple #[.map none, .bool false]) (by simp [results, Tryz.results29, go_sem]) rfl ?_
   exact ⟨HB6.out, Or.inl ⟨H0.out, rfl⟩⟩
  ·have H0 := hide h0
   have HZ := hide hz'
   have HM := hide hm'
   clear h0 hz' hm'
   go_wp2_with fail
   refine bodyPost_ret (v := .tuple #[.map (some w3.heap.size), .bool true]) (by simp [results, Tryz.results29, go_sem]) rfl ?_
   exact ⟨HB6.out, Or.inr ⟨h', _, Z', H0.out, rfl, HZ.out, HM.out, hz3⟩⟩
theorem fit_any (p t : Tm) (pv tv : Value) (w : World) (X : Nat → Prop) (hp : TV w X pv p) (ht : TV w X tv t) :
  Calls Tryz.prog 29 #[pv, tv] w fun e w' => FitPost w (fun b => X b ∧ b < w.heap.size) p t e w' := by
 refine (fitN_any p t pv tv w X hp ht).mono ?_
 rintro e w1 ⟨hb, h | ⟨h', q, Z', h0, h1, h2, h3, _⟩⟩
 ·exact ⟨hb, Or.inl h⟩
 ·exact ⟨hb, Or.inr ⟨h', q, Z', h0, h1, h2, h3⟩⟩
theorem fit_b (p t : Tm) (pv tv : Value) (w : World) (X : Nat → Prop) (hp : TV w X pv p) (ht : TV w X tv t) :
  Calls Tryz.prog 29 #[pv, tv] w fun e w' => ∃ v, e = .returned (.tuple #[v, .bool (mtB p t)]) ∧ Below w.heap.size w w' := by
 refine (fit_any p t pv tv w X hp ht).mono ?_
 rintro e w1 ⟨hb, ⟨h0, rfl⟩ | ⟨h', q, Z', h0, rfl, _⟩⟩
 ·exact ⟨_, by unfold mtB; rw [h0]; rfl, hb⟩
 ·exact ⟨_, by unfold mtB; rw [h0]; rfl, hb⟩
end Go.Proofs.YtdebiiodhkcnkaaGreat
