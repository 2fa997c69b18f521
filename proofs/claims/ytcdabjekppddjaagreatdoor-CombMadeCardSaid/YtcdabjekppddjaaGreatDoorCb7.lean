/- Walks: the row that a term is, as the program says: a closure tells its places. -/
import Derived.Test.YtcdabjekppddjaaGreatDoorCb4
import Derived.Laws.EntriesVeiled
import Derived.Laws.OwnMore
namespace Go.Proofs.YtcdabjekppddjaaGreatDoor
open Go.RowKit
set_option linter.unusedSimpArgs false
set_option linter.unusedVariables false
set_option maxRecDepth 8000

set_option maxHeartbeats 1000000 in
theorem rowOf1_any (R : List Tm) (al : Option Addr) (cl B p : Nat) (w : World) (Y : Nat → Prop) (hB : Blk w B #[.slice al R.length cl] 22) (hs : Sl w Y al R.reverse) (hp : p < R.length) :
    Calls Tryz.prog 94 #[.int .i64 (p : Int), .pointer (some ⟨B, 0, none⟩)] w fun e w' => TPost w Y R[p] e w' := by
  obtain ⟨q, hq⟩ : ∃ q, R.length = q + p + 1 := ⟨R.length - p - 1, by omega⟩
  have hql : q < R.reverse.length := by simp; omega
  obtain ⟨b, o, a', c', rfl, d0, d1, hx⟩ := hs.get (Below.refl _ _) (fun _ _ h => h) q hql
  have e1 : R.reverse[q] = R[p] := by rw [List.getElem_reverse]; congr 1; omega
  rw [e1] at d0 d1 hx
  have hl := hs.1
  simp only [List.length_reverse] at hl
  have HX := hide hx
  have c0 : ∀ o', (w.alloc o').cell? ⟨B, 0, none⟩ = some (.slice (some ⟨b, o, none⟩) R.length cl) := fun o' => (hB.alloc o').cell 0
  rw [hq] at c0 hl
  have d0 : ∀ o', (w.alloc o').cell? ⟨b, o + q * 2, none⟩ = some (.string R[p].name) := fun o' => (((Below.refl _ _).alloc (Nat.le_refl _) o').cell (p := ⟨b, o + q * 2, none⟩) (cbCell_lt d0)).trans d0
  have d1 : ∀ o', (w.alloc o').cell? ⟨b, o + q * 2 + 1, none⟩ = some (.slice a' R[p].args.length c') := fun o' => (((Below.refl _ _).alloc (Nat.le_refl _) o').cell (p := ⟨b, o + q * 2 + 1, none⟩) (cbCell_lt d1)).trans d1
  have e2 : ((q + p + 1 : Nat) : Int) - 1 - (p : Int) = (q : Int) := by omega
  generalize R[p] = x at *
  clear hs hB hx e1 hql hq hp
  have HB : Hid (Below w.heap.size w (w.alloc (.cells #[.string x.name, .slice a' x.args.length c'] 24))) := (Below.refl _ _).alloc (Nat.le_refl _) _
  go_enter Tryz.func94, Tryz.ntmps94
  go_wp2_with fail
  refine bodyPost_ret (v := .agg #[.string x.name, .slice a' x.args.length c']) (by simp [results, Tryz.results94, go_sem]) rfl ?_
  exact ⟨_, rfl, (HX.out.later HB.out).or _, HB.out⟩

/-- How long the slice in a box is. -/
def lenAt (w : World) (B : Nat) : Nat := match w.cell? ⟨B, 0, none⟩ with | some (.slice _ n _) => n | _ => 0
theorem lenAt_of {w : World} {B n c T : Nat} {a : Option Addr} (h : Blk w B #[.slice a n c] T) : lenAt w B = n := by
  have := h.cell 0
  simp only [List.getElem?_toArray, List.getElem?_cons_zero] at this
  unfold lenAt
  rw [this]
theorem ro_push {wr w1 w3 wF : World} {N T g cap c LB : Nat} {Y : Nat → Prop} {u : Value} {ls : List Tm} {xs : List Value} {o2 : Obj} {x : Tm} {a : Option Addr} (hrow : Row wr N T Y u ls xs) (hb : Below wr.heap.size wr w1) (hg : (w1.alloc o2).grownBy w3 u.ownBlock) (hat : u.ownBlock = some g ∨ g = (w1.alloc o2).heap.size)
    (hx : Sl wr Y a x.args) (hY : ∀ b, Y b → b < N) (hN : N ≤ wr.heap.size) (hL : LB < N) (hLY : ¬Y LB) (hF : ∀ j, j ≠ g → j ≠ LB → wF.heap[j]? = w3.heap[j]?)
    (hown : wF.ownsRow N T 2 (.slice (some ⟨g, 0, none⟩) (ls.length + 1) cap) (ls.length + 1) (xs ++ [.string x.name, .slice a x.args.length c])) : Row wF N T Y (.slice (some ⟨g, 0, none⟩) (ls.length + 1) cap) (ls ++ [x]) (xs ++ [.string x.name, .slice a x.args.length c]) := by
  have hlt := hrow.own.lt
  have hs1 := hb.size
  have hgN : N ≤ g := by
    rcases hat with h | h
    · exact (hlt g h).1
    · rw [h]; simp; omega
  have key : ∀ b, (Y b ∨ (N ≤ b ∧ some b ≠ u.ownBlock)) → b < wr.heap.size → b ≠ g → wF.heap[b]? = wr.heap[b]? := fun b h1 h2 h3 => by
    have hne : b ≠ LB := by rcases h1 with h1 | h1; exact fun e => hLY (e ▸ h1); omega
    have hno : some b ≠ u.ownBlock := by
      rcases h1 with h1 | h1
      · intro e; have := (hlt b e.symm).1; have := hY b h1; omega
      · exact h1.2
    rw [hF b h3 hne, hg.block b (by simp; omega) hno, Below.heap_alloc _ _ _ (by omega), hb.block b h2]
  have hgne : ∀ b, (Y b ∨ (N ≤ b ∧ some b ≠ u.ownBlock)) → b < wr.heap.size → b ≠ g := fun b h1 h2 e => by
    subst e
    rcases hat with h | h
    · rcases h1 with h1 | h1
      · have := hY _ h1; omega
      · exact h1.2 h.symm
    · simp at h; omega
  have lift : ∀ a l, Sl wr (fun b => Y b ∨ (N ≤ b ∧ some b ≠ u.ownBlock)) a l → Sl wF (fun b => Y b ∨ (N ≤ b ∧ some b ≠ some g)) a l := fun a l h => by
    have h1 : Sl wr (fun b => (Y b ∨ (N ≤ b ∧ some b ≠ u.ownBlock)) ∧ b < wr.heap.size) a l := h.mono fun b h1 h2 => ⟨h1, h2⟩
    refine (h1.kept (w' := wF) fun b h => key b h.1 h.2 (hgne b h.1 h.2)).mono fun b h _ => ?_
    have := hgne b h.1 h.2
    exact h.1.imp id fun h => ⟨h.1, fun e => this (by cases e; rfl)⟩
  refine ⟨by simpa using hown, ?_⟩
  exact (hrow.row.imp lift).append ⟨a, c, [], rfl, lift _ _ (hx.mono fun b h _ => Or.inl h), rfl⟩

theorem app_cells {w3 : World} {N T g cap n : Nat} {xs : List Value} {u0 u1 : Value} (h : w3.ownsRow N T 2 (.slice (some ⟨g, 0, none⟩) (n + 1) cap) (n + 1) (xs ++ [u0, u1])) (hl : xs.length = n * 2) : w3.cell? ⟨g, n * 2, none⟩ = some u0 ∧ w3.cell? ⟨g, n * 2 + 1, none⟩ = some u1 ∧ ∀ i, w3.frozen? ⟨g, i, none⟩ = false := by
  refine ⟨?_, ?_, fun i => h.frozenAt i⟩
  · rw [h.cellAt (n * 2) (by omega), List.getElem?_append_right (by omega), hl, Nat.sub_self]; rfl
  · rw [h.cellAt (n * 2 + 1) (by omega), List.getElem?_append_right (by omega), hl, show n * 2 + 1 - n * 2 = 1 by omega]; rfl
/-- The element's cells are stored. -/
theorem app_own {w3 : World} {N T g cap n : Nat} {xs : List Value} {u0 u1 v0 v1 : Value} (h : w3.ownsRow N T 2 (.slice (some ⟨g, 0, none⟩) (n + 1) cap) (n + 1) (xs ++ [u0, u1])) (hl : xs.length = n * 2) : ((w3.setCell ⟨g, n * 2, none⟩ v0).setCell ⟨g, n * 2 + 1, none⟩ v1).ownsRow N T 2 (.slice (some ⟨g, 0, none⟩) (n + 1) cap) (n + 1) (xs ++ [v0, v1]) := by
  have h2 := ((h.stored (n * 2) v0).1.stored (n * 2 + 1) v1).1
  have e : ((xs ++ [u0, u1]).set (n * 2) v0).set (n * 2 + 1) v1 = xs ++ [v0, v1] := by
    rw [List.set_append_right _ _ (by omega), List.set_append_right _ _ (by omega), hl, Nat.sub_self, show n * 2 + 1 - n * 2 = 1 by omega]; rfl
  rwa [e] at h2

def RoInv (w : World) (X : Nat → Prop) (t : Tm) (wr : World) : Prop :=
  ∃ (tc : Tm) (ls : List Tm) (xs : List Value) (al a : Option Addr) (cl c : Nat), isC tc = true ∧ rowH t = rowH tc ∧ rowL t = rowL tc ++ ls.reverse ∧ ls.length + sizeL [tc] ≤ sizeL [t] ∧ Below w.heap.size w wr ∧ Blk wr w.heap.size #[.string tc.name, .slice a tc.args.length c] 24 ∧ Sl wr (fun b => X b ∧ b < w.heap.size) a tc.args ∧ Blk wr (w.heap.size + 1) #[.int .i64 0, .nilFunc] 88 ∧ Blk wr (w.heap.size + 2) #[.slice al ls.length cl] 22 ∧ Row wr (w.heap.size + 3) 24 (fun b => X b ∧ b < w.heap.size) (.slice al ls.length cl) ls xs ∧ w.heap.size + 3 ≤ wr.heap.size

/-- The row of a term, and how its closure comes to its places. -/
def RoPost (w : World) (X : Nat → Prop) (t : Tm) (e : Ending) (w' : World) : Prop :=
  ∃ B al cl, e = .returned (.agg #[.int .i64 ((rowL t).length + 1 : Nat), .func (.func 94) #[] #[.pointer (some ⟨B, 0, none⟩)]]) ∧ w.heap.size ≤ B ∧ Blk w' B #[.slice al (rowH t :: rowL t).length cl] 22 ∧ Sl w' (fun b => (X b ∧ b < w.heap.size) ∨ w.heap.size ≤ b ∧ b ≠ B) al (rowH t :: rowL t).reverse ∧ Below w.heap.size w w'
/-- What is laid behind an append. -/
def RoW (w : World) (X : Nat → Prop) (tc : Tm) (a : Option Addr) (c : Nat) (L : List Tm) (g cap : Nat) (wr wF : World) : Prop :=
  (∃ xs, Row wF (w.heap.size + 3) 24 (fun b => X b ∧ b < w.heap.size) (.slice (some ⟨g, 0, none⟩) L.length cap) L xs) ∧ Below w.heap.size w wF ∧ Blk wF w.heap.size #[.string tc.name, .slice a tc.args.length c] 24 ∧ Blk wF (w.heap.size + 1) #[.int .i64 0, .nilFunc] 88 ∧ Blk wF (w.heap.size + 2) #[.slice (some ⟨g, 0, none⟩) L.length cap] 22 ∧ w.heap.size + 3 ≤ wF.heap.size ∧ (∀ b, b < w.heap.size → wF.heap[b]? = wr.heap[b]?)
set_option maxHeartbeats 1000000 in
theorem ro_fin {w wr w3 : World} {X : Nat → Prop} {tc x : Tm} {ls : List Tm} {xs : List Value} {al a ax : Option Addr} {cl c cx g cap : Nat} {o : Obj} {u0 u1 : Value} (h10 : Row wr (w.heap.size + 3) 24 (fun b => X b ∧ b < w.heap.size) (.slice al ls.length cl) ls xs) (h9 : Blk wr (w.heap.size + 2) #[.slice al ls.length cl] 22) (h6 : Blk wr w.heap.size #[.string tc.name, .slice a tc.args.length c] 24) (h8 : Blk wr (w.heap.size + 1) #[.int .i64 0, .nilFunc] 88) (h5 : Below w.heap.size w wr) (h11 : w.heap.size + 3 ≤ wr.heap.size) (hx : Sl wr (fun b => X b ∧ b < w.heap.size) ax x.args)
    (hg : (wr.alloc o).drew.grownBy w3 (Value.slice al ls.length cl).ownBlock) (hat : (Value.slice al ls.length cl).ownBlock = some g ∨ g = (wr.alloc o).drew.heap.size) (hown : w3.ownsRow (w.heap.size + 3) 24 2 (.slice (some ⟨g, 0, none⟩) (ls.length + 1) cap) (ls.length + 1) (xs ++ [u0, u1])) :
    RoW w X tc a c (ls ++ [x]) g cap wr (((w3.setCell ⟨g, ls.length * 2, none⟩ (.string x.name)).setCell ⟨g, ls.length * 2 + 1, none⟩ (.slice ax x.args.length cx)).setCell ⟨w.heap.size + 1 + 1, 0, none⟩ (.slice (some ⟨g, 0, none⟩) (ls.length + 1) cap)) ∧
    RoW w X tc a c (ls ++ [x]) g cap wr (((w3.setCell ⟨w.heap.size + 1 + 1, 0, none⟩ (.slice (some ⟨g, 0, none⟩) (ls.length + 1) cap)).setCell ⟨g, ls.length * 2, none⟩ (.string x.name)).setCell ⟨g, ls.length * 2 + 1, none⟩ (.slice ax x.args.length cx)) := by
  have hlr : xs.length = ls.length * 2 := h10.own.1
  have hlt := h10.own.lt
  have hgN : w.heap.size + 3 ≤ g := by
    rcases hat with h | h
    · exact (hlt g h).1
    · rw [h]; simp; omega
  have hsz : w.heap.size + 3 ≤ w3.heap.size := by have := hg.size; simp at this; omega
  have hlen : (ls ++ [x]).length = ls.length + 1 := by simp
  have hd : Below wr.heap.size wr wr.drew := below_drewN (Below.refl _ _) 1
  have hY : ∀ b, (X b ∧ b < w.heap.size) → b < w.heap.size + 3 := fun b h => by omega
  have hLY : ¬ (X (w.heap.size + 1 + 1) ∧ w.heap.size + 1 + 1 < w.heap.size) := fun h => by omega
  have hB3 : Below w.heap.size w w3 := ((h5.trans (hd.mono (by omega))).alloc (by show _ ≤ wr.heap.size; omega) o).grown hg (by simp; omega) (fun k hk => by have := (hlt k hk).1; omega)
  have k6 : Blk w3 w.heap.size #[.string tc.name, .slice a tc.args.length c] 24 := ((h6.alloc o).drewN 1).grown hg (h10.ne (by omega))
  have k8 : Blk w3 (w.heap.size + 1) #[.int .i64 0, .nilFunc] 88 := ((h8.alloc o).drewN 1).grown hg (h10.ne (by omega))
  have k9 : Blk w3 (w.heap.size + 2) #[.slice al ls.length cl] 22 := ((h9.alloc o).drewN 1).grown hg (h10.ne (by omega))
  have hw3 : ∀ b, b < w.heap.size → w3.heap[b]? = wr.heap[b]? := fun b hb => by
    rw [hg.block b (by simp; omega) (h10.ne (by omega))]
    exact (Below.heap_alloc wr o b (by omega))
  have hFA : ∀ j, j ≠ g → j ≠ w.heap.size + 1 + 1 → (((w3.setCell ⟨g, ls.length * 2, none⟩ (.string x.name)).setCell ⟨g, ls.length * 2 + 1, none⟩ (.slice ax x.args.length cx)).setCell ⟨w.heap.size + 1 + 1, 0, none⟩ (.slice (some ⟨g, 0, none⟩) (ls.length + 1) cap)).heap[j]? = w3.heap[j]? := fun j h1 h2 => by
    rw [Below.heap_setCell _ _ _ _ (by simpa using h2), Below.heap_setCell _ _ _ _ (by simpa using h1), Below.heap_setCell _ _ _ _ (by simpa using h1)]
  have hFB : ∀ j, j ≠ g → j ≠ w.heap.size + 1 + 1 → (((w3.setCell ⟨w.heap.size + 1 + 1, 0, none⟩ (.slice (some ⟨g, 0, none⟩) (ls.length + 1) cap)).setCell ⟨g, ls.length * 2, none⟩ (.string x.name)).setCell ⟨g, ls.length * 2 + 1, none⟩ (.slice ax x.args.length cx)).heap[j]? = w3.heap[j]? := fun j h1 h2 => by
    rw [Below.heap_setCell _ _ _ _ (by simpa using h1), Below.heap_setCell _ _ _ _ (by simpa using h1), Below.heap_setCell _ _ _ _ (by simpa using h2)]
  have hoA := ownsRow_setCell_below (a := ⟨w.heap.size + 1 + 1, 0, none⟩) (app_own (v0 := .string x.name) (v1 := .slice ax x.args.length cx) hown hlr) (by simp) (.slice (some ⟨g, 0, none⟩) (ls.length + 1) cap)
  have hoB := app_own (v0 := .string x.name) (v1 := .slice ax x.args.length cx) (ownsRow_setCell_below (a := ⟨w.heap.size + 1 + 1, 0, none⟩) hown (by simp) (.slice (some ⟨g, 0, none⟩) (ls.length + 1) cap)) hlr
  constructor
  · refine ⟨⟨_, by rw [hlen]; exact ro_push (w1 := wr.drew) (LB := w.heap.size + 1 + 1) h10 hd hg hat hx hY (by omega) (by omega) hLY hFA hoA⟩, ?_, ?_, ?_, ?_, by simp [World.setCell]; omega, fun b hb => ?_⟩
    · exact ((hB3.setCell (p := ⟨g, _, none⟩) (by simp; omega) _).setCell (p := ⟨g, _, none⟩) (by simp; omega) _).setCell (p := ⟨w.heap.size + 1 + 1, 0, none⟩) (by simp; omega) _
    · exact ((k6.setOther _ _ (by omega)).setOther _ _ (by omega)).setOther _ _ (by omega)
    · exact ((k8.setOther _ _ (by omega)).setOther _ _ (by omega)).setOther _ _ (by omega)
    · rw [hlen]; exact ((k9.setOther _ _ (by omega)).setOther _ _ (by omega)).set 0 _
    · rw [hFA b (by omega) (by omega), hw3 b hb]
  · refine ⟨⟨_, by rw [hlen]; exact ro_push (w1 := wr.drew) (LB := w.heap.size + 1 + 1) h10 hd hg hat hx hY (by omega) (by omega) hLY hFB hoB⟩, ?_, ?_, ?_, ?_, by simp [World.setCell]; omega, fun b hb => ?_⟩
    · exact ((hB3.setCell (p := ⟨w.heap.size + 1 + 1, 0, none⟩) (by simp; omega) _).setCell (p := ⟨g, _, none⟩) (by simp; omega) _).setCell (p := ⟨g, _, none⟩) (by simp; omega) _
    · exact ((k6.setOther _ _ (by omega)).setOther _ _ (by omega)).setOther _ _ (by omega)
    · exact ((k8.setOther _ _ (by omega)).setOther _ _ (by omega)).setOther _ _ (by omega)
    · rw [hlen]; exact ((k9.set 0 _).setOther _ _ (by omega)).setOther _ _ (by omega)
    · rw [hFB b (by omega) (by omega), hw3 b hb]

theorem sl_X {w : World} {X : Nat → Prop} {b o : Nat} {f : Tm} {l : List Tm} (h : Sl w X (some ⟨b, o, none⟩) (f :: l)) : X b := by
  obtain ⟨_, h | ⟨b', o', e, h⟩⟩ := h
  · cases h
  · cases e
    exact (lies_get _ _ _ h 0 (by simp)).1
theorem ro_next {w wr W : World} {X : Nat → Prop} {t f x : Tm} {ls : List Tm} {a a1 : Option Addr} {c c1 g cap : Nat} (hF : RoW w X (apT f x) a c (ls ++ [x]) g cap wr W) (hs1 : Sl wr (fun b => X b ∧ b < w.heap.size) a1 f.args) (hf : isC f = true) (h2 : rowH t = rowH (apT f x)) (h3 : rowL t = rowL (apT f x) ++ ls.reverse) (h4 : ls.length + sizeL [apT f x] ≤ sizeL [t]) :
    RoInv w X t ((W.setCell ⟨w.heap.size, 0, none⟩ (.string f.name)).setCell ⟨w.heap.size, 1, none⟩ (.slice a1 f.args.length c1)) ∧ lenAt ((W.setCell ⟨w.heap.size, 0, none⟩ (.string f.name)).setCell ⟨w.heap.size, 1, none⟩ (.slice a1 f.args.length c1)) (w.heap.size + 2) = ls.length + 1 := by
  obtain ⟨⟨xs, f1⟩, f2, f3, f4, f5, f6, f7⟩ := hF
  have hz := size_ap f x
  have hzx := size_posC x
  have k5 := (f5.setOther 0 (.string f.name) (b' := w.heap.size) (by omega)).setOther 1 (.slice a1 f.args.length c1) (b' := w.heap.size) (by omega)
  refine ⟨⟨f, ls ++ [x], xs, _, a1, cap, c1, hf, by rw [h2, (row_ap f x).1], by rw [h3, (row_ap f x).2]; simp, by simp; omega, (f2.setCell (p := ⟨w.heap.size, 0, none⟩) (by simp) _).setCell (p := ⟨w.heap.size, 1, none⟩) (by simp) _, (f3.set 0 _).set 1 _, ?_, (f4.setOther _ _ (by omega)).setOther _ _ (by omega), k5, ?_, by simp [World.setCell]; omega⟩, by rw [lenAt_of k5]; simp⟩
  · refine hs1.kept fun b hb => ?_
    rw [Below.heap_setCell _ _ _ _ (by simp; omega), Below.heap_setCell _ _ _ _ (by simp; omega), f7 b hb.2]
  · exact (f1.setCell (by omega) (fun h => by omega) _).setCell (by omega) (fun h => by omega) _
theorem ro_end {w wr W : World} {X : Nat → Prop} {tc x : Tm} {ls : List Tm} {a : Option Addr} {c g cap : Nat} (hF : RoW w X tc a c (ls ++ [x]) g cap wr W) (u u' : Value) :
    Blk ((W.setCell ⟨w.heap.size + 1, 0, none⟩ u).setCell ⟨w.heap.size + 1, 1, none⟩ u') (w.heap.size + 2) #[.slice (some ⟨g, 0, none⟩) (x :: ls.reverse).length cap] 22 ∧ Sl ((W.setCell ⟨w.heap.size + 1, 0, none⟩ u).setCell ⟨w.heap.size + 1, 1, none⟩ u') (fun b => (X b ∧ b < w.heap.size) ∨ w.heap.size ≤ b ∧ b ≠ w.heap.size + 2) (some ⟨g, 0, none⟩) (x :: ls.reverse).reverse ∧ Below w.heap.size w ((W.setCell ⟨w.heap.size + 1, 0, none⟩ u).setCell ⟨w.heap.size + 1, 1, none⟩ u') := by
  obtain ⟨⟨xs, f1⟩, f2, f3, f4, f5, f6, f7⟩ := hF
  refine ⟨?_, ?_, (f2.setCell (p := ⟨w.heap.size + 1, 0, none⟩) (by simp) _).setCell (p := ⟨w.heap.size + 1, 1, none⟩) (by simp) _⟩
  · have h := (f5.setOther 0 u (b' := w.heap.size + 1) (by omega)).setOther 1 u' (b' := w.heap.size + 1) (by omega)
    simpa using h
  · obtain ⟨a9, c9, e9, hs⟩ := f1.sl
    cases e9
    rw [show (x :: ls.reverse).reverse = ls ++ [x] by simp]
    refine (hs.kept fun b hb => ?_).mono fun b hb _ => hb.imp id fun h => ⟨by omega, by omega⟩
    have hne : b ≠ w.heap.size + 1 := by rcases hb with hb | hb <;> omega
    rw [Below.heap_setCell _ _ _ _ (by simpa using hne), Below.heap_setCell _ _ _ _ (by simpa using hne)]

set_option maxHeartbeats 4000000 in
theorem rowOf_any (t : Tm) (v : Value) (w : World) (X : Nat → Prop) (hc : isC t = true) (hz : sizeL [t] ≤ 100000) (hv : TV w X v t) :
    Calls Tryz.prog 80 #[v] w fun e w' => RoPost w X t e w' := by
  obtain ⟨a, c, rfl, hs⟩ := hv
  have I0 : Hid (RoInv w X t (((w.alloc (.cells #[.string t.name, .slice a t.args.length c] 24)).alloc (.cells #[.int .i64 0, .nilFunc] 88)).alloc (.cells #[.slice none 0 0] 22))) := by
    refine ⟨t, [], [], none, a, 0, c, hc, rfl, by simp, by simp, below3 _ _ _, ((Blk.new w _ _).alloc _).alloc _, ((hs.mono fun b h1 h2 => ⟨h1, h2⟩).later (below3 _ _ _)), ?_, ?_, Row.start _ _ _ _, by simp⟩
    · have h := (Blk.new (w.alloc (.cells #[.string t.name, .slice a t.args.length c] 24)) #[.int .i64 0, .nilFunc] 88).alloc (.cells #[.slice none 0 0] 22)
      simpa using h
    · have h := Blk.new ((w.alloc (.cells #[.string t.name, .slice a t.args.length c] 24)).alloc (.cells #[.int .i64 0, .nilFunc] 88)) #[.slice none 0 0] 22
      simpa using h
  clear hs
  have hmf : ∀ (fn : Fn) (first cap : Array Value) (w : World), (Instr.makeFunc fn first cap).run Tryz.prog w = .ok (.func fn first cap) w := fun _ _ _ _ => rfl
  obtain ⟨i0, hi0, hz0, hz1, hz2⟩ := info_parts Tryz.infoTerm
  go_enter Tryz.func80, Tryz.ntmps80
  go_wp2_with fail
  go_loopw [] (fun wr => RoInv w X t wr) (fun wr => sizeL [t] - lenAt wr (w.heap.size + 2))
  case atStart => exact I0.out
  case round =>
    obtain ⟨tc, ls, xs, al, ac, cl, cc, h1, h2, h3, h4, h5, h6, h7, h8, h9, h10, h11⟩ := hrel
    have HLA := hide (lenAt_of h9)
    have t1 := h6.cell 1
    have l0 := h9.cell 0
    have H6 := hide h6
    have H7 := hide h7
    have H8 := hide h8
    have H9 := hide h9
    have H10 := hide h10
    have HB5 := hide h5
    have H3 := hide h3
    have H2 := hide h2
    have hlr := h10.own.1
    simp only [List.getElem?_toArray, List.getElem?_cons_succ, List.getElem?_cons_zero] at t1 l0
    rcases isC_cases h1 with ⟨s, rfl⟩ | ⟨f, x, rfl, hf, hx⟩
    · dsimp only [List.length_nil] at t1
      have t0 := H6.out.cell 0
      simp only [List.getElem?_toArray, List.getElem?_cons_zero] at t0
      have l1 : ∀ o', (wr.alloc o').cell? ⟨w.heap.size + 2, 0, none⟩ = some (.slice al ls.length cl) := fun o' => (H9.out.alloc o').cell 0
      have t0a : ∀ o', (wr.alloc o').cell? ⟨w.heap.size, 0, none⟩ = some (.string s) := fun o' => (H6.out.alloc o').cell 0
      have t1a : ∀ o', (wr.alloc o').cell? ⟨w.heap.size, 1, none⟩ = some (.slice ac 0 cc) := fun o' => (H6.out.alloc o').cell 1
      have hzz : sizeL [(⟨s, []⟩ : Tm)] = 1 := by simp [sizeL]
      have hll : ls.length ≤ 100000 := by omega
      have j1 : (ls.length : Int) < (ls.length : Int) + 1 := by omega
      have j2 : (0 : Int) ≤ (ls.length : Int) := by omega
      have hR : rowL t = ls.reverse := by rw [h3, (row_leaf s).2]; rfl
      have hH : rowH t = ⟨s, []⟩ := by rw [h2, (row_leaf s).1]
      have HRR := hide hR
      have HHH := hide hH
      clear h5 h6 h7 h8 h9 h10 h3 h2 hR hH
      go_wp2_with fail
      have HSW : Hid (∀ W' : World, (∀ j, j < w.heap.size + 1 → W'.heap[j]? = wr.heap[j]?) → (fun w' => w'.cell? ⟨w.heap.size, 0, none⟩ = some (.string s) ∧ w'.cell? ⟨w.heap.size, 1, none⟩ = some (.slice ac 0 cc)) W') := fun W' h => ⟨by rw [World.cell?_of_block (h _ (by simp))]; exact t0, by rw [World.cell?_of_block (h _ (by simp))]; exact t1⟩
      have KD : Hid ((fun w' => w'.cell? ⟨w.heap.size, 0, none⟩ = some (.string s) ∧ w'.cell? ⟨w.heap.size, 1, none⟩ = some (.slice ac 0 cc)) wr.drew) := HSW.out _ (fun j _ => rfl)
      have KA : Hid ((fun w' => w'.cell? ⟨w.heap.size, 0, none⟩ = some (.string s) ∧ w'.cell? ⟨w.heap.size, 1, none⟩ = some (.slice ac 0 cc)) (wr.drew.alloc (.cells #[.string ⟨#[]⟩, .slice none 0 0] 24))) := HSW.out _ (fun j hj => Below.heap_alloc wr _ j (by omega))
      have l0d : wr.drew.cell? ⟨w.heap.size + 1 + 1, 0, none⟩ = some (.slice al ls.length cl) := H9.out.cell 0
      have l0e : (wr.drew.alloc (.cells #[.string ⟨#[]⟩, .slice none 0 0] 24)).cell? ⟨w.heap.size + 1 + 1, 0, none⟩ = some (.slice al ls.length cl) := (H9.out.alloc _).cell 0
      refine wp_region_held_drew (S := (fun w' => w'.cell? ⟨w.heap.size, 0, none⟩ = some (.string s) ∧ w'.cell? ⟨w.heap.size, 1, none⟩ = some (.slice ac 0 cc))) (by kernel_rfl) KD.out (fun hHeld => ?_)
      refine wpAnyH_take (i := 1) (v := ?_) rfl (by kernel_rfl) (by kernel_rfl) (by kernel_rfl) (fun _ _ _ h => h) (Or.inl ⟨by rfl, ?_⟩) (by assumption) ?_
      rotate_left
      · intro w' hSw
        have f0 := hSw.1
        have f1 := hSw.2
        go_simp <;> with_reducible rfl
      try simp only [Act.put, List.setIfInBounds_toArray, List.set_cons_zero, List.set_cons_succ, List.getElem_toArray, List.getElem_cons_succ, List.getElem_cons_zero]
      refine wpAnyH_ready (rs := [0, 3]) (by kernel_rfl) (by simp) ?_
      refine AllReadyH.cons rfl (fun K hK => ?_) (AllReadyH.cons rfl (fun K hK => ?_) AllReadyH.nil)
      · go_simp
        refine hK.out _ _ (by exact KD.out) (fun hHeld => ?_)
        clear hK K
        try simp only [Act.put, List.setIfInBounds_toArray, List.set_cons_zero, List.set_cons_succ, List.getElem_toArray, List.getElem_cons_succ, List.getElem_cons_zero]
        refine wpAnyH_take (i := 2) (v := ?_) rfl (by kernel_rfl) (by kernel_rfl) (by kernel_rfl) (fun _ _ _ h => h) (Or.inl ⟨by rfl, ?_⟩) (by assumption) ?_
        rotate_left
        · intro w' hSw
          go_simp <;> with_reducible rfl
        try simp only [Act.put, List.setIfInBounds_toArray, List.set_cons_zero, List.set_cons_succ, List.getElem_toArray, List.getElem_cons_succ, List.getElem_cons_zero]
        refine wpAnyH_ready (rs := [3]) (by kernel_rfl) (by simp) ?_
        refine AllReadyH.cons rfl (fun K hK => ?_) AllReadyH.nil
        go_simp
        refine hK.out _ _ (by exact KA.out) (fun hHeld => ?_)
        clear hK K
        try simp only [Act.put, List.setIfInBounds_toArray, List.set_cons_zero, List.set_cons_succ, List.getElem_toArray, List.getElem_cons_succ, List.getElem_cons_zero]
        refine wpAnyH_ready (rs := [4]) (by kernel_rfl) (by simp) ?_
        refine AllReadyH.cons rfl (fun K hK => ?_) AllReadyH.nil
        refine step_append_lies _ rfl _ _ 22 rfl (w.heap.size + 3) 24 i0 _ 2 40 Tryz.underlying22 hi0 hz0 hz1 hz2 rfl (by decide) (.slice al ls.length cl) ls.length xs rfl (by exact ((H10.out.below ((Below.refl _ _).alloc (Nat.le_refl _) _)).below (below_drewN (Below.refl _ _) 1)).own) ⟨wr.heap.size, 0, none⟩ 1 1 [.string ⟨#[]⟩, .slice none 0 0] rfl rfl (cell_two_new _ _ _ _) (fun x hx => by simp at hx; rcases hx with rfl | rfl <;> rfl) (by decide) (by unfold maxLen; omega) (by omega) (by simp; omega) _ rfl ?_
        intro g cap w3 hown3 hgrow3 hat3 hlt3
        obtain ⟨g0, g1, gf⟩ := app_cells hown3 hlr
        have HL3 := hide (((H9.out.alloc (.cells #[.string ⟨#[]⟩, .slice none 0 0] 24)).drewN 1).grown hgrow3 (H10.out.ne (Nat.lt_succ_self _)))
        have hgg : w.heap.size + 3 ≤ g := by rcases hat3 with h | h; exact (H10.out.own.lt g h).1; rw [h]; simp; omega
        have hgl : w.heap.size + 1 + 1 ≠ g := by omega
        have hgr : g ≠ w.heap.size + 1 + 1 := by omega
        have y0 : w3.cell? ⟨w.heap.size + 1 + 1, 0, none⟩ = some (.slice al ls.length cl) := HL3.out.cell 0
        have yf : ∀ i, w3.frozen? ⟨w.heap.size + 1 + 1, i, none⟩ = false := HL3.out.frozen
        have HW3 : Hid (∀ j, j < w.heap.size + 1 → w3.heap[j]? = wr.heap[j]?) := fun j hj => by rw [hgrow3.block j (by simp; omega) (H10.out.ne (by omega))]; exact Below.heap_alloc wr _ j (by omega)
        have K3 : Hid ((fun w' => w'.cell? ⟨w.heap.size, 0, none⟩ = some (.string s) ∧ w'.cell? ⟨w.heap.size, 1, none⟩ = some (.slice ac 0 cc)) w3) := HSW.out _ HW3.out
        have K4 : Hid ((fun w' => w'.cell? ⟨w.heap.size, 0, none⟩ = some (.string s) ∧ w'.cell? ⟨w.heap.size, 1, none⟩ = some (.slice ac 0 cc)) ((w3.setCell ⟨g, ls.length * 2, none⟩ (.string s)).setCell ⟨g, ls.length * 2 + 1, none⟩ (.slice ac 0 cc))) := HSW.out _ (fun j hj => by rw [Below.heap_setCell _ _ _ _ (by simp; omega), Below.heap_setCell _ _ _ _ (by simp; omega)]; exact HW3.out j hj)
        have K5 : Hid ((fun w' => w'.cell? ⟨w.heap.size, 0, none⟩ = some (.string s) ∧ w'.cell? ⟨w.heap.size, 1, none⟩ = some (.slice ac 0 cc)) (w3.setCell ⟨w.heap.size + 1 + 1, 0, none⟩ (.slice (some ⟨g, 0, none⟩) (ls.length + 1) cap))) := HSW.out _ (fun j hj => by rw [Below.heap_setCell _ _ _ _ (by simp; omega)]; exact HW3.out j hj)
        have K6 : Hid ((fun w' => w'.cell? ⟨w.heap.size, 0, none⟩ = some (.string s) ∧ w'.cell? ⟨w.heap.size, 1, none⟩ = some (.slice ac 0 cc)) (((w3.setCell ⟨g, ls.length * 2, none⟩ (.string s)).setCell ⟨g, ls.length * 2 + 1, none⟩ (.slice ac 0 cc)).setCell ⟨w.heap.size + 1 + 1, 0, none⟩ (.slice (some ⟨g, 0, none⟩) (ls.length + 1) cap))) := HSW.out _ (fun j hj => by rw [Below.heap_setCell _ _ _ _ (by simp; omega), Below.heap_setCell _ _ _ _ (by simp; omega), Below.heap_setCell _ _ _ _ (by simp; omega)]; exact HW3.out j hj)
        have K7 : Hid ((fun w' => w'.cell? ⟨w.heap.size, 0, none⟩ = some (.string s) ∧ w'.cell? ⟨w.heap.size, 1, none⟩ = some (.slice ac 0 cc)) (((w3.setCell ⟨w.heap.size + 1 + 1, 0, none⟩ (.slice (some ⟨g, 0, none⟩) (ls.length + 1) cap)).setCell ⟨g, ls.length * 2, none⟩ (.string s)).setCell ⟨g, ls.length * 2 + 1, none⟩ (.slice ac 0 cc))) := HSW.out _ (fun j hj => by rw [Below.heap_setCell _ _ _ _ (by simp; omega), Below.heap_setCell _ _ _ _ (by simp; omega), Below.heap_setCell _ _ _ _ (by simp; omega)]; exact HW3.out j hj)
        refine hK.out _ _ (by exact K3.out) (fun hHeld => ?_)
        clear hK K
        try simp only [Act.put, List.setIfInBounds_toArray, List.set_cons_zero, List.set_cons_succ, List.getElem_toArray, List.getElem_cons_succ, List.getElem_cons_zero]
        refine wpAnyH_take (i := 5) (v := ?_) rfl (by kernel_rfl) (by kernel_rfl) (by kernel_rfl) (fun _ _ _ h => h) (Or.inl ⟨by rfl, ?_⟩) (by assumption) ?_
        rotate_left
        · intro w' hSw
          go_simp <;> with_reducible rfl
        try simp only [Act.put, List.setIfInBounds_toArray, List.set_cons_zero, List.set_cons_succ, List.getElem_toArray, List.getElem_cons_succ, List.getElem_cons_zero]
        refine wpAnyH_ready (rs := [6, 7]) (by kernel_rfl) (by simp) ?_
        refine AllReadyH.cons rfl (fun K hK => ?_) (AllReadyH.cons rfl (fun K hK => ?_) AllReadyH.nil)
        · go_simp
          refine hK.out _ _ (by exact K4.out) (fun hHeld => ?_)
          clear hK K
          try simp only [Act.put, List.setIfInBounds_toArray, List.set_cons_zero, List.set_cons_succ, List.getElem_toArray, List.getElem_cons_succ, List.getElem_cons_zero]
          refine wpAnyH_ready (rs := [7]) (by kernel_rfl) (by simp) ?_
          refine AllReadyH.cons rfl (fun K hK => ?_) AllReadyH.nil
          go_simp
          refine hK.out _ _ (by exact K6.out) (fun hHeld => ?_)
          clear hK K
          try simp only [Act.put, List.setIfInBounds_toArray, List.set_cons_zero, List.set_cons_succ, List.getElem_toArray, List.getElem_cons_succ, List.getElem_cons_zero]
          refine wpAnyH_done (by kernel_rfl) ?_ _
          have HFI := hide (ro_fin (x := ⟨s, []⟩) (ax := ac) (cx := cc) (tc := ⟨s, []⟩) H10.out H9.out H6.out H8.out HB5.out h11 ⟨by simp, Or.inl rfl⟩ hgrow3 hat3 hown3)
          have HR3 : Hid (Blk w3 (w.heap.size + 1) #[.int .i64 0, .nilFunc] 88) := ((H8.out.alloc _).drewN 1).grown hgrow3 (H10.out.ne (by omega))
          have r0 : w3.cell? ⟨w.heap.size + 1, 0, none⟩ = some (.int .i64 0) := HR3.out.cell 0
          have r1 : w3.cell? ⟨w.heap.size + 1, 1, none⟩ = some .nilFunc := HR3.out.cell 1
          have rf : ∀ i, w3.frozen? ⟨w.heap.size + 1, i, none⟩ = false := HR3.out.frozen
          have hgr1 : w.heap.size + 1 ≠ g := by omega
          clear hown3 hgrow3 hat3 g0 g1 gf KA KD K3 K4 K5 K6 K7 l0d l0e HW3 HL3 l1 t0a t1a
          go_wp2_with fail
          refine bodyPost_ret (v := .agg #[.int .i64 ((ls.length + 1 : Nat) : Int), .func (.func 94) #[] #[.pointer (some ⟨w.heap.size + 2, 0, none⟩)]]) (by simp [results, Tryz.results80, go_sem, World.cell?_setCell_same, World.cell?_setCell_other, r0, r1, hgr1]) rfl ?_
          refine ⟨w.heap.size + 2, some ⟨g, 0, none⟩, cap, by rw [HRR.out]; simp, by omega, ?_⟩
          rw [HRR.out, HHH.out]
          exact ro_end HFI.out.1 _ _
        · go_simp
          refine hK.out _ _ (by exact K5.out) (fun hHeld => ?_)
          clear hK K
          try simp only [Act.put, List.setIfInBounds_toArray, List.set_cons_zero, List.set_cons_succ, List.getElem_toArray, List.getElem_cons_succ, List.getElem_cons_zero]
          refine wpAnyH_ready (rs := [6]) (by kernel_rfl) (by simp) ?_
          refine AllReadyH.cons rfl (fun K hK => ?_) AllReadyH.nil
          go_simp
          refine hK.out _ _ (by exact K7.out) (fun hHeld => ?_)
          clear hK K
          try simp only [Act.put, List.setIfInBounds_toArray, List.set_cons_zero, List.set_cons_succ, List.getElem_toArray, List.getElem_cons_succ, List.getElem_cons_zero]
          refine wpAnyH_done (by kernel_rfl) ?_ _
          have HFI := hide (ro_fin (x := ⟨s, []⟩) (ax := ac) (cx := cc) (tc := ⟨s, []⟩) H10.out H9.out H6.out H8.out HB5.out h11 ⟨by simp, Or.inl rfl⟩ hgrow3 hat3 hown3)
          have HR3 : Hid (Blk w3 (w.heap.size + 1) #[.int .i64 0, .nilFunc] 88) := ((H8.out.alloc _).drewN 1).grown hgrow3 (H10.out.ne (by omega))
          have r0 : w3.cell? ⟨w.heap.size + 1, 0, none⟩ = some (.int .i64 0) := HR3.out.cell 0
          have r1 : w3.cell? ⟨w.heap.size + 1, 1, none⟩ = some .nilFunc := HR3.out.cell 1
          have rf : ∀ i, w3.frozen? ⟨w.heap.size + 1, i, none⟩ = false := HR3.out.frozen
          have hgr1 : w.heap.size + 1 ≠ g := by omega
          clear hown3 hgrow3 hat3 g0 g1 gf KA KD K3 K4 K5 K6 K7 l0d l0e HW3 HL3 l1 t0a t1a
          go_wp2_with fail
          refine bodyPost_ret (v := .agg #[.int .i64 ((ls.length + 1 : Nat) : Int), .func (.func 94) #[] #[.pointer (some ⟨w.heap.size + 2, 0, none⟩)]]) (by simp [results, Tryz.results80, go_sem, World.cell?_setCell_same, World.cell?_setCell_other, r0, r1, hgr1]) rfl ?_
          refine ⟨w.heap.size + 2, some ⟨g, 0, none⟩, cap, by rw [HRR.out]; simp, by omega, ?_⟩
          rw [HRR.out, HHH.out]
          exact ro_end HFI.out.2 _ _
      · go_simp
        refine hK.out _ _ (by exact KA.out) (fun hHeld => ?_)
        clear hK K
        try simp only [Act.put, List.setIfInBounds_toArray, List.set_cons_zero, List.set_cons_succ, List.getElem_toArray, List.getElem_cons_succ, List.getElem_cons_zero]
        refine wpAnyH_ready (rs := [0]) (by kernel_rfl) (by simp) ?_
        refine AllReadyH.cons rfl (fun K hK => ?_) AllReadyH.nil
        go_simp
        refine hK.out _ _ (by exact KA.out) (fun hHeld => ?_)
        clear hK K
        try simp only [Act.put, List.setIfInBounds_toArray, List.set_cons_zero, List.set_cons_succ, List.getElem_toArray, List.getElem_cons_succ, List.getElem_cons_zero]
        refine wpAnyH_take (i := 2) (v := ?_) rfl (by kernel_rfl) (by kernel_rfl) (by kernel_rfl) (fun _ _ _ h => h) (Or.inl ⟨by rfl, ?_⟩) (by assumption) ?_
        rotate_left
        · intro w' hSw
          go_simp <;> with_reducible rfl
        try simp only [Act.put, List.setIfInBounds_toArray, List.set_cons_zero, List.set_cons_succ, List.getElem_toArray, List.getElem_cons_succ, List.getElem_cons_zero]
        refine wpAnyH_ready (rs := [4]) (by kernel_rfl) (by simp) ?_
        refine AllReadyH.cons rfl (fun K hK => ?_) AllReadyH.nil
        refine step_append_lies _ rfl _ _ 22 rfl (w.heap.size + 3) 24 i0 _ 2 40 Tryz.underlying22 hi0 hz0 hz1 hz2 rfl (by decide) (.slice al ls.length cl) ls.length xs rfl (by exact ((H10.out.below ((Below.refl _ _).alloc (Nat.le_refl _) _)).below (below_drewN (Below.refl _ _) 1)).own) ⟨wr.heap.size, 0, none⟩ 1 1 [.string ⟨#[]⟩, .slice none 0 0] rfl rfl (cell_two_new _ _ _ _) (fun x hx => by simp at hx; rcases hx with rfl | rfl <;> rfl) (by decide) (by unfold maxLen; omega) (by omega) (by simp; omega) _ rfl ?_
        intro g cap w3 hown3 hgrow3 hat3 hlt3
        obtain ⟨g0, g1, gf⟩ := app_cells hown3 hlr
        have HL3 := hide (((H9.out.alloc (.cells #[.string ⟨#[]⟩, .slice none 0 0] 24)).drewN 1).grown hgrow3 (H10.out.ne (Nat.lt_succ_self _)))
        have hgg : w.heap.size + 3 ≤ g := by rcases hat3 with h | h; exact (H10.out.own.lt g h).1; rw [h]; simp; omega
        have hgl : w.heap.size + 1 + 1 ≠ g := by omega
        have hgr : g ≠ w.heap.size + 1 + 1 := by omega
        have y0 : w3.cell? ⟨w.heap.size + 1 + 1, 0, none⟩ = some (.slice al ls.length cl) := HL3.out.cell 0
        have yf : ∀ i, w3.frozen? ⟨w.heap.size + 1 + 1, i, none⟩ = false := HL3.out.frozen
        have HW3 : Hid (∀ j, j < w.heap.size + 1 → w3.heap[j]? = wr.heap[j]?) := fun j hj => by rw [hgrow3.block j (by simp; omega) (H10.out.ne (by omega))]; exact Below.heap_alloc wr _ j (by omega)
        have K3 : Hid ((fun w' => w'.cell? ⟨w.heap.size, 0, none⟩ = some (.string s) ∧ w'.cell? ⟨w.heap.size, 1, none⟩ = some (.slice ac 0 cc)) w3) := HSW.out _ HW3.out
        have K4 : Hid ((fun w' => w'.cell? ⟨w.heap.size, 0, none⟩ = some (.string s) ∧ w'.cell? ⟨w.heap.size, 1, none⟩ = some (.slice ac 0 cc)) ((w3.setCell ⟨g, ls.length * 2, none⟩ (.string s)).setCell ⟨g, ls.length * 2 + 1, none⟩ (.slice ac 0 cc))) := HSW.out _ (fun j hj => by rw [Below.heap_setCell _ _ _ _ (by simp; omega), Below.heap_setCell _ _ _ _ (by simp; omega)]; exact HW3.out j hj)
        have K5 : Hid ((fun w' => w'.cell? ⟨w.heap.size, 0, none⟩ = some (.string s) ∧ w'.cell? ⟨w.heap.size, 1, none⟩ = some (.slice ac 0 cc)) (w3.setCell ⟨w.heap.size + 1 + 1, 0, none⟩ (.slice (some ⟨g, 0, none⟩) (ls.length + 1) cap))) := HSW.out _ (fun j hj => by rw [Below.heap_setCell _ _ _ _ (by simp; omega)]; exact HW3.out j hj)
        have K6 : Hid ((fun w' => w'.cell? ⟨w.heap.size, 0, none⟩ = some (.string s) ∧ w'.cell? ⟨w.heap.size, 1, none⟩ = some (.slice ac 0 cc)) (((w3.setCell ⟨g, ls.length * 2, none⟩ (.string s)).setCell ⟨g, ls.length * 2 + 1, none⟩ (.slice ac 0 cc)).setCell ⟨w.heap.size + 1 + 1, 0, none⟩ (.slice (some ⟨g, 0, none⟩) (ls.length + 1) cap))) := HSW.out _ (fun j hj => by rw [Below.heap_setCell _ _ _ _ (by simp; omega), Below.heap_setCell _ _ _ _ (by simp; omega), Below.heap_setCell _ _ _ _ (by simp; omega)]; exact HW3.out j hj)
        have K7 : Hid ((fun w' => w'.cell? ⟨w.heap.size, 0, none⟩ = some (.string s) ∧ w'.cell? ⟨w.heap.size, 1, none⟩ = some (.slice ac 0 cc)) (((w3.setCell ⟨w.heap.size + 1 + 1, 0, none⟩ (.slice (some ⟨g, 0, none⟩) (ls.length + 1) cap)).setCell ⟨g, ls.length * 2, none⟩ (.string s)).setCell ⟨g, ls.length * 2 + 1, none⟩ (.slice ac 0 cc))) := HSW.out _ (fun j hj => by rw [Below.heap_setCell _ _ _ _ (by simp; omega), Below.heap_setCell _ _ _ _ (by simp; omega), Below.heap_setCell _ _ _ _ (by simp; omega)]; exact HW3.out j hj)
        refine hK.out _ _ (by exact K3.out) (fun hHeld => ?_)
        clear hK K
        try simp only [Act.put, List.setIfInBounds_toArray, List.set_cons_zero, List.set_cons_succ, List.getElem_toArray, List.getElem_cons_succ, List.getElem_cons_zero]
        refine wpAnyH_take (i := 5) (v := ?_) rfl (by kernel_rfl) (by kernel_rfl) (by kernel_rfl) (fun _ _ _ h => h) (Or.inl ⟨by rfl, ?_⟩) (by assumption) ?_
        rotate_left
        · intro w' hSw
          go_simp <;> with_reducible rfl
        try simp only [Act.put, List.setIfInBounds_toArray, List.set_cons_zero, List.set_cons_succ, List.getElem_toArray, List.getElem_cons_succ, List.getElem_cons_zero]
        refine wpAnyH_ready (rs := [6, 7]) (by kernel_rfl) (by simp) ?_
        refine AllReadyH.cons rfl (fun K hK => ?_) (AllReadyH.cons rfl (fun K hK => ?_) AllReadyH.nil)
        · go_simp
          refine hK.out _ _ (by exact K4.out) (fun hHeld => ?_)
          clear hK K
          try simp only [Act.put, List.setIfInBounds_toArray, List.set_cons_zero, List.set_cons_succ, List.getElem_toArray, List.getElem_cons_succ, List.getElem_cons_zero]
          refine wpAnyH_ready (rs := [7]) (by kernel_rfl) (by simp) ?_
          refine AllReadyH.cons rfl (fun K hK => ?_) AllReadyH.nil
          go_simp
          refine hK.out _ _ (by exact K6.out) (fun hHeld => ?_)
          clear hK K
          try simp only [Act.put, List.setIfInBounds_toArray, List.set_cons_zero, List.set_cons_succ, List.getElem_toArray, List.getElem_cons_succ, List.getElem_cons_zero]
          refine wpAnyH_done (by kernel_rfl) ?_ _
          have HFI := hide (ro_fin (x := ⟨s, []⟩) (ax := ac) (cx := cc) (tc := ⟨s, []⟩) H10.out H9.out H6.out H8.out HB5.out h11 ⟨by simp, Or.inl rfl⟩ hgrow3 hat3 hown3)
          have HR3 : Hid (Blk w3 (w.heap.size + 1) #[.int .i64 0, .nilFunc] 88) := ((H8.out.alloc _).drewN 1).grown hgrow3 (H10.out.ne (by omega))
          have r0 : w3.cell? ⟨w.heap.size + 1, 0, none⟩ = some (.int .i64 0) := HR3.out.cell 0
          have r1 : w3.cell? ⟨w.heap.size + 1, 1, none⟩ = some .nilFunc := HR3.out.cell 1
          have rf : ∀ i, w3.frozen? ⟨w.heap.size + 1, i, none⟩ = false := HR3.out.frozen
          have hgr1 : w.heap.size + 1 ≠ g := by omega
          clear hown3 hgrow3 hat3 g0 g1 gf KA KD K3 K4 K5 K6 K7 l0d l0e HW3 HL3 l1 t0a t1a
          go_wp2_with fail
          refine bodyPost_ret (v := .agg #[.int .i64 ((ls.length + 1 : Nat) : Int), .func (.func 94) #[] #[.pointer (some ⟨w.heap.size + 2, 0, none⟩)]]) (by simp [results, Tryz.results80, go_sem, World.cell?_setCell_same, World.cell?_setCell_other, r0, r1, hgr1]) rfl ?_
          refine ⟨w.heap.size + 2, some ⟨g, 0, none⟩, cap, by rw [HRR.out]; simp, by omega, ?_⟩
          rw [HRR.out, HHH.out]
          exact ro_end HFI.out.1 _ _
        · go_simp
          refine hK.out _ _ (by exact K5.out) (fun hHeld => ?_)
          clear hK K
          try simp only [Act.put, List.setIfInBounds_toArray, List.set_cons_zero, List.set_cons_succ, List.getElem_toArray, List.getElem_cons_succ, List.getElem_cons_zero]
          refine wpAnyH_ready (rs := [6]) (by kernel_rfl) (by simp) ?_
          refine AllReadyH.cons rfl (fun K hK => ?_) AllReadyH.nil
          go_simp
          refine hK.out _ _ (by exact K7.out) (fun hHeld => ?_)
          clear hK K
          try simp only [Act.put, List.setIfInBounds_toArray, List.set_cons_zero, List.set_cons_succ, List.getElem_toArray, List.getElem_cons_succ, List.getElem_cons_zero]
          refine wpAnyH_done (by kernel_rfl) ?_ _
          have HFI := hide (ro_fin (x := ⟨s, []⟩) (ax := ac) (cx := cc) (tc := ⟨s, []⟩) H10.out H9.out H6.out H8.out HB5.out h11 ⟨by simp, Or.inl rfl⟩ hgrow3 hat3 hown3)
          have HR3 : Hid (Blk w3 (w.heap.size + 1) #[.int .i64 0, .nilFunc] 88) := ((H8.out.alloc _).drewN 1).grown hgrow3 (H10.out.ne (by omega))
          have r0 : w3.cell? ⟨w.heap.size + 1, 0, none⟩ = some (.int .i64 0) := HR3.out.cell 0
          have r1 : w3.cell? ⟨w.heap.size + 1, 1, none⟩ = some .nilFunc := HR3.out.cell 1
          have rf : ∀ i, w3.frozen? ⟨w.heap.size + 1, i, none⟩ = false := HR3.out.frozen
          have hgr1 : w.heap.size + 1 ≠ g := by omega
          clear hown3 hgrow3 hat3 g0 g1 gf KA KD K3 K4 K5 K6 K7 l0d l0e HW3 HL3 l1 t0a t1a
          go_wp2_with fail
          refine bodyPost_ret (v := .agg #[.int .i64 ((ls.length + 1 : Nat) : Int), .func (.func 94) #[] #[.pointer (some ⟨w.heap.size + 2, 0, none⟩)]]) (by simp [results, Tryz.results80, go_sem, World.cell?_setCell_same, World.cell?_setCell_other, r0, r1, hgr1]) rfl ?_
          refine ⟨w.heap.size + 2, some ⟨g, 0, none⟩, cap, by rw [HRR.out]; simp, by omega, ?_⟩
          rw [HRR.out, HHH.out]
          exact ro_end HFI.out.2 _ _
    · obtain ⟨b, o, a1, c1, a2, c2, rfl, hb, d0, d1, d2, d3, hs1, hs2⟩ := sl_twoC h7
      dsimp only [apT, List.length_cons, List.length_nil] at t1
      have hbw : b < w.heap.size := (sl_X h7).2
      have hzz := size_ap f x
      have hzx := size_posC x
      have hll : ls.length ≤ 100000 := by omega
      have j1 : (ls.length : Int) < (ls.length : Int) + 1 := by omega
      have j2 : (0 : Int) ≤ (ls.length : Int) := by omega
      have l1 : ∀ o', (wr.alloc o').cell? ⟨w.heap.size + 2, 0, none⟩ = some (.slice al ls.length cl) := fun o' => (H9.out.alloc o').cell 0
      have t1a : ∀ o', (wr.alloc o').cell? ⟨w.heap.size, 1, none⟩ = some (.slice (some ⟨b, o, none⟩) 2 cc) := fun o' => (H6.out.alloc o').cell 1
      have d2a : ∀ o', (wr.alloc o').cell? ⟨b, o + 2, none⟩ = some (.string x.name) := fun o' => (((Below.refl _ _).alloc (Nat.le_refl _) o').cell (p := ⟨b, o + 2, none⟩) (cbCell_lt d2)).trans d2
      have d3a : ∀ o', (wr.alloc o').cell? ⟨b, o + 3, none⟩ = some (.slice a2 x.args.length c2) := fun o' => (((Below.refl _ _).alloc (Nat.le_refl _) o').cell (p := ⟨b, o + 3, none⟩) (cbCell_lt d3)).trans d3
      clear h5 h6 h7 h8 h9 h10 h3 h2
      go_wp2_with fail
      have HSW : Hid (∀ W' : World, (∀ j, j < w.heap.size + 1 → W'.heap[j]? = wr.heap[j]?) → (fun w' => w'.cell? ⟨w.heap.size, 1, none⟩ = some (.slice (some ⟨b, o, none⟩) 2 cc) ∧ w'.cell? ⟨b, o + 2, none⟩ = some (.string x.name) ∧ w'.cell? ⟨b, o + 3, none⟩ = some (.slice a2 x.args.length c2)) W') := fun W' h => ⟨by rw [World.cell?_of_block (h _ (by simp))]; exact t1, by rw [World.cell?_of_block (h _ (by simp; omega))]; exact d2, by rw [World.cell?_of_block (h _ (by simp; omega))]; exact d3⟩
      have KD : Hid ((fun w' => w'.cell? ⟨w.heap.size, 1, none⟩ = some (.slice (some ⟨b, o, none⟩) 2 cc) ∧ w'.cell? ⟨b, o + 2, none⟩ = some (.string x.name) ∧ w'.cell? ⟨b, o + 3, none⟩ = some (.slice a2 x.args.length c2)) wr.drew) := HSW.out _ (fun j _ => rfl)
      have KA : Hid ((fun w' => w'.cell? ⟨w.heap.size, 1, none⟩ = some (.slice (some ⟨b, o, none⟩) 2 cc) ∧ w'.cell? ⟨b, o + 2, none⟩ = some (.string x.name) ∧ w'.cell? ⟨b, o + 3, none⟩ = some (.slice a2 x.args.length c2)) (wr.drew.alloc (.cells #[.string ⟨#[]⟩, .slice none 0 0] 24))) := HSW.out _ (fun j hj => Below.heap_alloc wr _ j (by omega))
      have l0d : wr.drew.cell? ⟨w.heap.size + 1 + 1, 0, none⟩ = some (.slice al ls.length cl) := H9.out.cell 0
      have l0e : (wr.drew.alloc (.cells #[.string ⟨#[]⟩, .slice none 0 0] 24)).cell? ⟨w.heap.size + 1 + 1, 0, none⟩ = some (.slice al ls.length cl) := (H9.out.alloc _).cell 0
      refine wp_region_held_drew (S := (fun w' => w'.cell? ⟨w.heap.size, 1, none⟩ = some (.slice (some ⟨b, o, none⟩) 2 cc) ∧ w'.cell? ⟨b, o + 2, none⟩ = some (.string x.name) ∧ w'.cell? ⟨b, o + 3, none⟩ = some (.slice a2 x.args.length c2))) (by kernel_rfl) KD.out (fun hHeld => ?_)
      refine wpAnyH_take (i := 1) (v := ?_) rfl (by kernel_rfl) (by kernel_rfl) (by kernel_rfl) (fun _ _ _ h => h) (Or.inl ⟨by rfl, ?_⟩) (by assumption) ?_
      rotate_left
      · intro w' hSw
        go_simp <;> with_reducible rfl
      try simp only [Act.put, List.setIfInBounds_toArray, List.set_cons_zero, List.set_cons_succ, List.getElem_toArray, List.getElem_cons_succ, List.getElem_cons_zero]
      refine wpAnyH_take (i := 2) (v := ?_) rfl (by kernel_rfl) (by kernel_rfl) (by kernel_rfl) (fun _ _ _ h => h) (Or.inl ⟨by rfl, ?_⟩) (by assumption) ?_
      rotate_left
      · intro w' hSw
        have f0 := hSw.1
        go_simp <;> with_reducible rfl
      try simp only [Act.put, List.setIfInBounds_toArray, List.set_cons_zero, List.set_cons_succ, List.getElem_toArray, List.getElem_cons_succ, List.getElem_cons_zero]
      refine wpAnyH_take (i := 3) (v := ?_) rfl (by kernel_rfl) (by kernel_rfl) (by kernel_rfl) (fun _ _ _ h => h) (Or.inl ⟨by rfl, ?_⟩) (by assumption) ?_
      rotate_left
      · intro w' hSw
        go_simp <;> with_reducible rfl
      try simp only [Act.put, List.setIfInBounds_toArray, List.set_cons_zero, List.set_cons_succ, List.getElem_toArray, List.getElem_cons_succ, List.getElem_cons_zero]
      refine wpAnyH_take (i := 4) (v := ?_) rfl (by kernel_rfl) (by kernel_rfl) (by kernel_rfl) (fun _ _ _ h => h) (Or.inl ⟨by rfl, ?_⟩) (by assumption) ?_
      rotate_left
      · intro w' hSw
        have f1 := hSw.2.1
        have f2 := hSw.2.2
        go_simp <;> with_reducible rfl
      try simp only [Act.put, List.setIfInBounds_toArray, List.set_cons_zero, List.set_cons_succ, List.getElem_toArray, List.getElem_cons_succ, List.getElem_cons_zero]
      refine wpAnyH_ready (rs := [0, 6]) (by kernel_rfl) (by simp) ?_
      refine AllReadyH.cons rfl (fun K hK => ?_) (AllReadyH.cons rfl (fun K hK => ?_) AllReadyH.nil)
      · go_simp
        refine hK.out _ _ (by exact KD.out) (fun hHeld => ?_)
        clear hK K
        try simp only [Act.put, List.setIfInBounds_toArray, List.set_cons_zero, List.set_cons_succ, List.getElem_toArray, List.getElem_cons_succ, List.getElem_cons_zero]
        refine wpAnyH_take (i := 5) (v := ?_) rfl (by kernel_rfl) (by kernel_rfl) (by kernel_rfl) (fun _ _ _ h => h) (Or.inl ⟨by rfl, ?_⟩) (by assumption) ?_
        rotate_left
        · intro w' hSw
          go_simp <;> with_reducible rfl
        try simp only [Act.put, List.setIfInBounds_toArray, List.set_cons_zero, List.set_cons_succ, List.getElem_toArray, List.getElem_cons_succ, List.getElem_cons_zero]
        refine wpAnyH_ready (rs := [6]) (by kernel_rfl) (by simp) ?_
        refine AllReadyH.cons rfl (fun K hK => ?_) AllReadyH.nil
        go_simp
        refine hK.out _ _ (by exact KA.out) (fun hHeld => ?_)
        clear hK K
        try simp only [Act.put, List.setIfInBounds_toArray, List.set_cons_zero, List.set_cons_succ, List.getElem_toArray, List.getElem_cons_succ, List.getElem_cons_zero]
        refine wpAnyH_ready (rs := [7]) (by kernel_rfl) (by simp) ?_
        refine AllReadyH.cons rfl (fun K hK => ?_) AllReadyH.nil
        refine step_append_lies _ rfl _ _ 22 rfl (w.heap.size + 3) 24 i0 _ 2 40 Tryz.underlying22 hi0 hz0 hz1 hz2 rfl (by decide) (.slice al ls.length cl) ls.length xs rfl (by exact ((H10.out.below ((Below.refl _ _).alloc (Nat.le_refl _) _)).below (below_drewN (Below.refl _ _) 1)).own) ⟨wr.heap.size, 0, none⟩ 1 1 [.string ⟨#[]⟩, .slice none 0 0] rfl rfl (cell_two_new _ _ _ _) (fun x hx => by simp at hx; rcases hx with rfl | rfl <;> rfl) (by decide) (by unfold maxLen; omega) (by omega) (by simp; omega) _ rfl ?_
        intro g cap w3 hown3 hgrow3 hat3 hlt3
        obtain ⟨g0, g1, gf⟩ := app_cells hown3 hlr
        have HL3 := hide (((H9.out.alloc (.cells #[.string ⟨#[]⟩, .slice none 0 0] 24)).drewN 1).grown hgrow3 (H10.out.ne (Nat.lt_succ_self _)))
        have hgg : w.heap.size + 3 ≤ g := by rcases hat3 with h | h; exact (H10.out.own.lt g h).1; rw [h]; simp; omega
        have hgl : w.heap.size + 1 + 1 ≠ g := by omega
        have hgr : g ≠ w.heap.size + 1 + 1 := by omega
        have y0 : w3.cell? ⟨w.heap.size + 1 + 1, 0, none⟩ = some (.slice al ls.length cl) := HL3.out.cell 0
        have yf : ∀ i, w3.frozen? ⟨w.heap.size + 1 + 1, i, none⟩ = false := HL3.out.frozen
        have HW3 : Hid (∀ j, j < w.heap.size + 1 → w3.heap[j]? = wr.heap[j]?) := fun j hj => by rw [hgrow3.block j (by simp; omega) (H10.out.ne (by omega))]; exact Below.heap_alloc wr _ j (by omega)
        have K3 : Hid ((fun w' => w'.cell? ⟨w.heap.size, 1, none⟩ = some (.slice (some ⟨b, o, none⟩) 2 cc) ∧ w'.cell? ⟨b, o + 2, none⟩ = some (.string x.name) ∧ w'.cell? ⟨b, o + 3, none⟩ = some (.slice a2 x.args.length c2)) w3) := HSW.out _ HW3.out
        have K4 : Hid ((fun w' => w'.cell? ⟨w.heap.size, 1, none⟩ = some (.slice (some ⟨b, o, none⟩) 2 cc) ∧ w'.cell? ⟨b, o + 2, none⟩ = some (.string x.name) ∧ w'.cell? ⟨b, o + 3, none⟩ = some (.slice a2 x.args.length c2)) ((w3.setCell ⟨g, ls.length * 2, none⟩ (.string x.name)).setCell ⟨g, ls.length * 2 + 1, none⟩ (.slice a2 x.args.length c2))) := HSW.out _ (fun j hj => by rw [Below.heap_setCell _ _ _ _ (by simp; omega), Below.heap_setCell _ _ _ _ (by simp; omega)]; exact HW3.out j hj)
        have K5 : Hid ((fun w' => w'.cell? ⟨w.heap.size, 1, none⟩ = some (.slice (some ⟨b, o, none⟩) 2 cc) ∧ w'.cell? ⟨b, o + 2, none⟩ = some (.string x.name) ∧ w'.cell? ⟨b, o + 3, none⟩ = some (.slice a2 x.args.length c2)) (w3.setCell ⟨w.heap.size + 1 + 1, 0, none⟩ (.slice (some ⟨g, 0, none⟩) (ls.length + 1) cap))) := HSW.out _ (fun j hj => by rw [Below.heap_setCell _ _ _ _ (by simp; omega)]; exact HW3.out j hj)
        have K6 : Hid ((fun w' => w'.cell? ⟨w.heap.size, 1, none⟩ = some (.slice (some ⟨b, o, none⟩) 2 cc) ∧ w'.cell? ⟨b, o + 2, none⟩ = some (.string x.name) ∧ w'.cell? ⟨b, o + 3, none⟩ = some (.slice a2 x.args.length c2)) (((w3.setCell ⟨g, ls.length * 2, none⟩ (.string x.name)).setCell ⟨g, ls.length * 2 + 1, none⟩ (.slice a2 x.args.length c2)).setCell ⟨w.heap.size + 1 + 1, 0, none⟩ (.slice (some ⟨g, 0, none⟩) (ls.length + 1) cap))) := HSW.out _ (fun j hj => by rw [Below.heap_setCell _ _ _ _ (by simp; omega), Below.heap_setCell _ _ _ _ (by simp; omega), Below.heap_setCell _ _ _ _ (by simp; omega)]; exact HW3.out j hj)
        have K7 : Hid ((fun w' => w'.cell? ⟨w.heap.size, 1, none⟩ = some (.slice (some ⟨b, o, none⟩) 2 cc) ∧ w'.cell? ⟨b, o + 2, none⟩ = some (.string x.name) ∧ w'.cell? ⟨b, o + 3, none⟩ = some (.slice a2 x.args.length c2)) (((w3.setCell ⟨w.heap.size + 1 + 1, 0, none⟩ (.slice (some ⟨g, 0, none⟩) (ls.length + 1) cap)).setCell ⟨g, ls.length * 2, none⟩ (.string x.name)).setCell ⟨g, ls.length * 2 + 1, none⟩ (.slice a2 x.args.length c2))) := HSW.out _ (fun j hj => by rw [Below.heap_setCell _ _ _ _ (by simp; omega), Below.heap_setCell _ _ _ _ (by simp; omega), Below.heap_setCell _ _ _ _ (by simp; omega)]; exact HW3.out j hj)
        refine hK.out _ _ (by exact K3.out) (fun hHeld => ?_)
        clear hK K
        try simp only [Act.put, List.setIfInBounds_toArray, List.set_cons_zero, List.set_cons_succ, List.getElem_toArray, List.getElem_cons_succ, List.getElem_cons_zero]
        refine wpAnyH_take (i := 8) (v := ?_) rfl (by kernel_rfl) (by kernel_rfl) (by kernel_rfl) (fun _ _ _ h => h) (Or.inl ⟨by rfl, ?_⟩) (by assumption) ?_
        rotate_left
        · intro w' hSw
          go_simp <;> with_reducible rfl
        try simp only [Act.put, List.setIfInBounds_toArray, List.set_cons_zero, List.set_cons_succ, List.getElem_toArray, List.getElem_cons_succ, List.getElem_cons_zero]
        refine wpAnyH_ready (rs := [9, 10]) (by kernel_rfl) (by simp) ?_
        refine AllReadyH.cons rfl (fun K hK => ?_) (AllReadyH.cons rfl (fun K hK => ?_) AllReadyH.nil)
        · go_simp
          refine hK.out _ _ (by exact K4.out) (fun hHeld => ?_)
          clear hK K
          try simp only [Act.put, List.setIfInBounds_toArray, List.set_cons_zero, List.set_cons_succ, List.getElem_toArray, List.getElem_cons_succ, List.getElem_cons_zero]
          refine wpAnyH_ready (rs := [10]) (by kernel_rfl) (by simp) ?_
          refine AllReadyH.cons rfl (fun K hK => ?_) AllReadyH.nil
          go_simp
          refine hK.out _ _ (by exact K6.out) (fun hHeld => ?_)
          clear hK K
          try simp only [Act.put, List.setIfInBounds_toArray, List.set_cons_zero, List.set_cons_succ, List.getElem_toArray, List.getElem_cons_succ, List.getElem_cons_zero]
          refine wpAnyH_done (by kernel_rfl) ?_ _
          have HFI := hide (ro_fin (tc := apT f x) (cx := c2) H10.out H9.out H6.out H8.out HB5.out h11 hs2 hgrow3 hat3 hown3)
          have HT3 : Hid (Blk w3 w.heap.size #[.string apB, .slice (some ⟨b, o, none⟩) 2 cc] 24) := ((H6.out.alloc _).drewN 1).grown hgrow3 (H10.out.ne (by omega))
          have q0 : w3.cell? ⟨w.heap.size, 0, none⟩ = some (.string apB) := HT3.out.cell 0
          have q1 : w3.cell? ⟨w.heap.size, 1, none⟩ = some (.slice (some ⟨b, o, none⟩) 2 cc) := HT3.out.cell 1
          have qf : ∀ i, w3.frozen? ⟨w.heap.size, i, none⟩ = false := HT3.out.frozen
          have e0 : w3.cell? ⟨b, o, none⟩ = some (.string f.name) := by rw [World.cell?_of_block (HW3.out b (by omega))]; exact d0
          have e1 : w3.cell? ⟨b, o + 1, none⟩ = some (.slice a1 f.args.length c1) := by rw [World.cell?_of_block (HW3.out b (by omega))]; exact d1
          have hbg : b ≠ g := by omega
          have hwg : w.heap.size ≠ g := by omega
          have hbl : b ≠ w.heap.size + 1 + 1 := by omega
          clear hown3 hgrow3 hat3 g0 g1 gf KA KD K3 K4 K5 K6 K7 l0d l0e HW3 HL3 l1 t1a d2a d3a d0 d1 d2 d3
          go_wp2_with fail
          go_roundw
          case rel => exact (ro_next HFI.out.1 hs1 hf H2.out H3.out h4).1
          case measure =>
            rw [HLA.out]
            have hz8 : ls.length < sizeL [t] := by omega
            rw [(ro_next (c1 := c1) HFI.out.1 hs1 hf H2.out H3.out h4).2]; omega
        · go_simp
          refine hK.out _ _ (by exact K5.out) (fun hHeld => ?_)
          clear hK K
          try simp only [Act.put, List.setIfInBounds_toArray, List.set_cons_zero, List.set_cons_succ, List.getElem_toArray, List.getElem_cons_succ, List.getElem_cons_zero]
          refine wpAnyH_ready (rs := [9]) (by kernel_rfl) (by simp) ?_
          refine AllReadyH.cons rfl (fun K hK => ?_) AllReadyH.nil
          go_simp
          refine hK.out _ _ (by exact K7.out) (fun hHeld => ?_)
          clear hK K
          try simp only [Act.put, List.setIfInBounds_toArray, List.set_cons_zero, List.set_cons_succ, List.getElem_toArray, List.getElem_cons_succ, List.getElem_cons_zero]
          refine wpAnyH_done (by kernel_rfl) ?_ _
          have HFI := hide (ro_fin (tc := apT f x) (cx := c2) H10.out H9.out H6.out H8.out HB5.out h11 hs2 hgrow3 hat3 hown3)
          have HT3 : Hid (Blk w3 w.heap.size #[.string apB, .slice (some ⟨b, o, none⟩) 2 cc] 24) := ((H6.out.alloc _).drewN 1).grown hgrow3 (H10.out.ne (by omega))
          have q0 : w3.cell? ⟨w.heap.size, 0, none⟩ = some (.string apB) := HT3.out.cell 0
          have q1 : w3.cell? ⟨w.heap.size, 1, none⟩ = some (.slice (some ⟨b, o, none⟩) 2 cc) := HT3.out.cell 1
          have qf : ∀ i, w3.frozen? ⟨w.heap.size, i, none⟩ = false := HT3.out.frozen
          have e0 : w3.cell? ⟨b, o, none⟩ = some (.string f.name) := by rw [World.cell?_of_block (HW3.out b (by omega))]; exact d0
          have e1 : w3.cell? ⟨b, o + 1, none⟩ = some (.slice a1 f.args.length c1) := by rw [World.cell?_of_block (HW3.out b (by omega))]; exact d1
          have hbg : b ≠ g := by omega
          have hwg : w.heap.size ≠ g := by omega
          have hbl : b ≠ w.heap.size + 1 + 1 := by omega
          clear hown3 hgrow3 hat3 g0 g1 gf KA KD K3 K4 K5 K6 K7 l0d l0e HW3 HL3 l1 t1a d2a d3a d0 d1 d2 d3
          go_wp2_with fail
          go_roundw
          case rel => exact (ro_next HFI.out.2 hs1 hf H2.out H3.out h4).1
          case measure =>
            rw [HLA.out]
            have hz8 : ls.length < sizeL [t] := by omega
            rw [(ro_next (c1 := c1) HFI.out.2 hs1 hf H2.out H3.out h4).2]; omega
      · go_simp
        refine hK.out _ _ (by exact KA.out) (fun hHeld => ?_)
        clear hK K
        try simp only [Act.put, List.setIfInBounds_toArray, List.set_cons_zero, List.set_cons_succ, List.getElem_toArray, List.getElem_cons_succ, List.getElem_cons_zero]
        refine wpAnyH_ready (rs := [0]) (by kernel_rfl) (by simp) ?_
        refine AllReadyH.cons rfl (fun K hK => ?_) AllReadyH.nil
        go_simp
        refine hK.out _ _ (by exact KA.out) (fun hHeld => ?_)
        clear hK K
        try simp only [Act.put, List.setIfInBounds_toArray, List.set_cons_zero, List.set_cons_succ, List.getElem_toArray, List.getElem_cons_succ, List.getElem_cons_zero]
        refine wpAnyH_take (i := 5) (v := ?_) rfl (by kernel_rfl) (by kernel_rfl) (by kernel_rfl) (fun _ _ _ h => h) (Or.inl ⟨by rfl, ?_⟩) (by assumption) ?_
        rotate_left
        · intro w' hSw
          go_simp <;> with_reducible rfl
        try simp only [Act.put, List.setIfInBounds_toArray, List.set_cons_zero, List.set_cons_succ, List.getElem_toArray, List.getElem_cons_succ, List.getElem_cons_zero]
        refine wpAnyH_ready (rs := [7]) (by kernel_rfl) (by simp) ?_
        refine AllReadyH.cons rfl (fun K hK => ?_) AllReadyH.nil
        refine step_append_lies _ rfl _ _ 22 rfl (w.heap.size + 3) 24 i0 _ 2 40 Tryz.underlying22 hi0 hz0 hz1 hz2 rfl (by decide) (.slice al ls.length cl) ls.length xs rfl (by exact ((H10.out.below ((Below.refl _ _).alloc (Nat.le_refl _) _)).below (below_drewN (Below.refl _ _) 1)).own) ⟨wr.heap.size, 0, none⟩ 1 1 [.string ⟨#[]⟩, .slice none 0 0] rfl rfl (cell_two_new _ _ _ _) (fun x hx => by simp at hx; rcases hx with rfl | rfl <;> rfl) (by decide) (by unfold maxLen; omega) (by omega) (by simp; omega) _ rfl ?_
        intro g cap w3 hown3 hgrow3 hat3 hlt3
        obtain ⟨g0, g1, gf⟩ := app_cells hown3 hlr
        have HL3 := hide (((H9.out.alloc (.cells #[.string ⟨#[]⟩, .slice none 0 0] 24)).drewN 1).grown hgrow3 (H10.out.ne (Nat.lt_succ_self _)))
        have hgg : w.heap.size + 3 ≤ g := by rcases hat3 with h | h; exact (H10.out.own.lt g h).1; rw [h]; simp; omega
        have hgl : w.heap.size + 1 + 1 ≠ g := by omega
        have hgr : g ≠ w.heap.size + 1 + 1 := by omega
        have y0 : w3.cell? ⟨w.heap.size + 1 + 1, 0, none⟩ = some (.slice al ls.length cl) := HL3.out.cell 0
        have yf : ∀ i, w3.frozen? ⟨w.heap.size + 1 + 1, i, none⟩ = false := HL3.out.frozen
        have HW3 : Hid (∀ j, j < w.heap.size + 1 → w3.heap[j]? = wr.heap[j]?) := fun j hj => by rw [hgrow3.block j (by simp; omega) (H10.out.ne (by omega))]; exact Below.heap_alloc wr _ j (by omega)
        have K3 : Hid ((fun w' => w'.cell? ⟨w.heap.size, 1, none⟩ = some (.slice (some ⟨b, o, none⟩) 2 cc) ∧ w'.cell? ⟨b, o + 2, none⟩ = some (.string x.name) ∧ w'.cell? ⟨b, o + 3, none⟩ = some (.slice a2 x.args.length c2)) w3) := HSW.out _ HW3.out
        have K4 : Hid ((fun w' => w'.cell? ⟨w.heap.size, 1, none⟩ = some (.slice (some ⟨b, o, none⟩) 2 cc) ∧ w'.cell? ⟨b, o + 2, none⟩ = some (.string x.name) ∧ w'.cell? ⟨b, o + 3, none⟩ = some (.slice a2 x.args.length c2)) ((w3.setCell ⟨g, ls.length * 2, none⟩ (.string x.name)).setCell ⟨g, ls.length * 2 + 1, none⟩ (.slice a2 x.args.length c2))) := HSW.out _ (fun j hj => by rw [Below.heap_setCell _ _ _ _ (by simp; omega), Below.heap_setCell _ _ _ _ (by simp; omega)]; exact HW3.out j hj)
        have K5 : Hid ((fun w' => w'.cell? ⟨w.heap.size, 1, none⟩ = some (.slice (some ⟨b, o, none⟩) 2 cc) ∧ w'.cell? ⟨b, o + 2, none⟩ = some (.string x.name) ∧ w'.cell? ⟨b, o + 3, none⟩ = some (.slice a2 x.args.length c2)) (w3.setCell ⟨w.heap.size + 1 + 1, 0, none⟩ (.slice (some ⟨g, 0, none⟩) (ls.length + 1) cap))) := HSW.out _ (fun j hj => by rw [Below.heap_setCell _ _ _ _ (by simp; omega)]; exact HW3.out j hj)
        have K6 : Hid ((fun w' => w'.cell? ⟨w.heap.size, 1, none⟩ = some (.slice (some ⟨b, o, none⟩) 2 cc) ∧ w'.cell? ⟨b, o + 2, none⟩ = some (.string x.name) ∧ w'.cell? ⟨b, o + 3, none⟩ = some (.slice a2 x.args.length c2)) (((w3.setCell ⟨g, ls.length * 2, none⟩ (.string x.name)).setCell ⟨g, ls.length * 2 + 1, none⟩ (.slice a2 x.args.length c2)).setCell ⟨w.heap.size + 1 + 1, 0, none⟩ (.slice (some ⟨g, 0, none⟩) (ls.length + 1) cap))) := HSW.out _ (fun j hj => by rw [Below.heap_setCell _ _ _ _ (by simp; omega), Below.heap_setCell _ _ _ _ (by simp; omega), Below.heap_setCell _ _ _ _ (by simp; omega)]; exact HW3.out j hj)
        have K7 : Hid ((fun w' => w'.cell? ⟨w.heap.size, 1, none⟩ = some (.slice (some ⟨b, o, none⟩) 2 cc) ∧ w'.cell? ⟨b, o + 2, none⟩ = some (.string x.name) ∧ w'.cell? ⟨b, o + 3, none⟩ = some (.slice a2 x.args.length c2)) (((w3.setCell ⟨w.heap.size + 1 + 1, 0, none⟩ (.slice (some ⟨g, 0, none⟩) (ls.length + 1) cap)).setCell ⟨g, ls.length * 2, none⟩ (.string x.name)).setCell ⟨g, ls.length * 2 + 1, none⟩ (.slice a2 x.args.length c2))) := HSW.out _ (fun j hj => by rw [Below.heap_setCell _ _ _ _ (by simp; omega), Below.heap_setCell _ _ _ _ (by simp; omega), Below.heap_setCell _ _ _ _ (by simp; omega)]; exact HW3.out j hj)
        refine hK.out _ _ (by exact K3.out) (fun hHeld => ?_)
        clear hK K
        try simp only [Act.put, List.setIfInBounds_toArray, List.set_cons_zero, List.set_cons_succ, List.getElem_toArray, List.getElem_cons_succ, List.getElem_cons_zero]
        refine wpAnyH_take (i := 8) (v := ?_) rfl (by kernel_rfl) (by kernel_rfl) (by kernel_rfl) (fun _ _ _ h => h) (Or.inl ⟨by rfl, ?_⟩) (by assumption) ?_
        rotate_left
        · intro w' hSw
          go_simp <;> with_reducible rfl
        try simp only [Act.put, List.setIfInBounds_toArray, List.set_cons_zero, List.set_cons_succ, List.getElem_toArray, List.getElem_cons_succ, List.getElem_cons_zero]
        refine wpAnyH_ready (rs := [9, 10]) (by kernel_rfl) (by simp) ?_
        refine AllReadyH.cons rfl (fun K hK => ?_) (AllReadyH.cons rfl (fun K hK => ?_) AllReadyH.nil)
        · go_simp
          refine hK.out _ _ (by exact K4.out) (fun hHeld => ?_)
          clear hK K
          try simp only [Act.put, List.setIfInBounds_toArray, List.set_cons_zero, List.set_cons_succ, List.getElem_toArray, List.getElem_cons_succ, List.getElem_cons_zero]
          refine wpAnyH_ready (rs := [10]) (by kernel_rfl) (by simp) ?_
          refine AllReadyH.cons rfl (fun K hK => ?_) AllReadyH.nil
          go_simp
          refine hK.out _ _ (by exact K6.out) (fun hHeld => ?_)
          clear hK K
          try simp only [Act.put, List.setIfInBounds_toArray, List.set_cons_zero, List.set_cons_succ, List.getElem_toArray, List.getElem_cons_succ, List.getElem_cons_zero]
          refine wpAnyH_done (by kernel_rfl) ?_ _
          have HFI := hide (ro_fin (tc := apT f x) (cx := c2) H10.out H9.out H6.out H8.out HB5.out h11 hs2 hgrow3 hat3 hown3)
          have HT3 : Hid (Blk w3 w.heap.size #[.string apB, .slice (some ⟨b, o, none⟩) 2 cc] 24) := ((H6.out.alloc _).drewN 1).grown hgrow3 (H10.out.ne (by omega))
          have q0 : w3.cell? ⟨w.heap.size, 0, none⟩ = some (.string apB) := HT3.out.cell 0
          have q1 : w3.cell? ⟨w.heap.size, 1, none⟩ = some (.slice (some ⟨b, o, none⟩) 2 cc) := HT3.out.cell 1
          have qf : ∀ i, w3.frozen? ⟨w.heap.size, i, none⟩ = false := HT3.out.frozen
          have e0 : w3.cell? ⟨b, o, none⟩ = some (.string f.name) := by rw [World.cell?_of_block (HW3.out b (by omega))]; exact d0
          have e1 : w3.cell? ⟨b, o + 1, none⟩ = some (.slice a1 f.args.length c1) := by rw [World.cell?_of_block (HW3.out b (by omega))]; exact d1
          have hbg : b ≠ g := by omega
          have hwg : w.heap.size ≠ g := by omega
          have hbl : b ≠ w.heap.size + 1 + 1 := by omega
          clear hown3 hgrow3 hat3 g0 g1 gf KA KD K3 K4 K5 K6 K7 l0d l0e HW3 HL3 l1 t1a d2a d3a d0 d1 d2 d3
          go_wp2_with fail
          go_roundw
          case rel => exact (ro_next HFI.out.1 hs1 hf H2.out H3.out h4).1
          case measure =>
            rw [HLA.out]
            have hz8 : ls.length < sizeL [t] := by omega
            rw [(ro_next (c1 := c1) HFI.out.1 hs1 hf H2.out H3.out h4).2]; omega
        · go_simp
          refine hK.out _ _ (by exact K5.out) (fun hHeld => ?_)
          clear hK K
          try simp only [Act.put, List.setIfInBounds_toArray, List.set_cons_zero, List.set_cons_succ, List.getElem_toArray, List.getElem_cons_succ, List.getElem_cons_zero]
          refine wpAnyH_ready (rs := [9]) (by kernel_rfl) (by simp) ?_
          refine AllReadyH.cons rfl (fun K hK => ?_) AllReadyH.nil
          go_simp
          refine hK.out _ _ (by exact K7.out) (fun hHeld => ?_)
          clear hK K
          try simp only [Act.put, List.setIfInBounds_toArray, List.set_cons_zero, List.set_cons_succ, List.getElem_toArray, List.getElem_cons_succ, List.getElem_cons_zero]
          refine wpAnyH_done (by kernel_rfl) ?_ _
          have HFI := hide (ro_fin (tc := apT f x) (cx := c2) H10.out H9.out H6.out H8.out HB5.out h11 hs2 hgrow3 hat3 hown3)
          have HT3 : Hid (Blk w3 w.heap.size #[.string apB, .slice (some ⟨b, o, none⟩) 2 cc] 24) := ((H6.out.alloc _).drewN 1).grown hgrow3 (H10.out.ne (by omega))
          have q0 : w3.cell? ⟨w.heap.size, 0, none⟩ = some (.string apB) := HT3.out.cell 0
          have q1 : w3.cell? ⟨w.heap.size, 1, none⟩ = some (.slice (some ⟨b, o, none⟩) 2 cc) := HT3.out.cell 1
          have qf : ∀ i, w3.frozen? ⟨w.heap.size, i, none⟩ = false := HT3.out.frozen
          have e0 : w3.cell? ⟨b, o, none⟩ = some (.string f.name) := by rw [World.cell?_of_block (HW3.out b (by omega))]; exact d0
          have e1 : w3.cell? ⟨b, o + 1, none⟩ = some (.slice a1 f.args.length c1) := by rw [World.cell?_of_block (HW3.out b (by omega))]; exact d1
          have hbg : b ≠ g := by omega
          have hwg : w.heap.size ≠ g := by omega
          have hbl : b ≠ w.heap.size + 1 + 1 := by omega
          clear hown3 hgrow3 hat3 g0 g1 gf KA KD K3 K4 K5 K6 K7 l0d l0e HW3 HL3 l1 t1a d2a d3a d0 d1 d2 d3
          go_wp2_with fail
          go_roundw
          case rel => exact (ro_next HFI.out.2 hs1 hf H2.out H3.out h4).1
          case measure =>
            rw [HLA.out]
            have hz8 : ls.length < sizeL [t] := by omega
            rw [(ro_next (c1 := c1) HFI.out.2 hs1 hf H2.out H3.out h4).2]; omega
end Go.Proofs.YtcdabjekppddjaaGreatDoor
