
/- Walks: the reader's terms. -/
import Derived.Test.YthlgknglalcggajW32
import Derived.Test.YthlgknglalcggajZTopNoneOwn
import Derived.Deep.RegionLaw
namespace Go.Proofs.Ythlgknglalcggaj
open Go.RowKit
set_option linter.unusedSimpArgs false
set_option linter.unusedVariables false
set_option maxRecDepth 8000

def RdPost (w : World) (B : Nat) (s : ByteArray) (r : Rd) (e : Ending) (w' : World) : Prop :=
  if r.err = 0 then ∃ a c, e = .returned (.agg #[.string r.t.name, .slice a r.t.args.length c]) ∧ Sl w' (fun b => w.heap.size ≤ b) a r.t.args ∧ Bx w' B s r.pos r.k ∧ Ex B w w'
  else e = .panicked [{ v := .iface 33 (.int .i64 r.err), recovered := false }] ∧ Ex B w w'

theorem rdPost_no {w w' : World} {B : Nat} {s : ByteArray} {r : Rd} {z : Int} (h : r = noRd z) (hz : z ≠ 0) (he : Ex B w w') : RdPost w B s r (.panicked [{ v := .iface 33 (.int .i64 z), recovered := false }]) w' := by
  subst h
  unfold RdPost
  rw [if_neg (by exact hz)]
  exact ⟨rfl, he⟩

theorem rdPost_yes {w w' : World} {B p k c : Nat} {s nm : ByteArray} {r : Rd} {a : Option Addr} {args : List Tm} (h : r = ⟨0, ⟨nm, args⟩, p, k⟩) (hs : Sl w' (fun b => w.heap.size ≤ b) a args) (hx : Bx w' B s p k) (he : Ex B w w') : RdPost w B s r (.returned (.agg #[.string nm, .slice a args.length c])) w' := by
  subst h
  unfold RdPost
  rw [if_pos rfl]
  exact ⟨a, c, rfl, hs, hx, he⟩

/-- No more knots than may be. -/
theorem rd_k (s : ByteArray) : ∀ f m i k, (rd s f m i k).err = 0 → k ≤ 200 → (rd s f m i k).k ≤ 200 := by
  intro f
  induction f with
  | zero => intro m i k h; simp [rd, noRd] at h
  | succ f ih =>
    intro m i k h hk
    match m with
    | none =>
      unfold rd at h ⊢
      split at h
      · exfalso; revert h; simp only [noRd]; split <;> omega
      · rename_i h1
        rw [if_neg h1]
        split at h
        · exfalso; revert h; simp [noRd]
        · rename_i h2
          rw [if_neg h2]
          split at h
          · exfalso; revert h; simp [noRd]
          · rename_i h3
            rw [if_neg h3]
            split at h
            · rename_i h4
              rw [if_pos h4]
              split at h
              · exfalso; revert h; simp [noRd]
              · rename_i h5
                rw [if_neg h5]
                exact ih _ _ _ h (by omega)
            · rename_i h4
              rw [if_neg h4]
              show k + 1 ≤ 200
              omega
    | some (nm, acc) =>
      unfold rd at h ⊢
      split at h
      · rename_i h1
        exact absurd h h1
      · rename_i h1
        rw [if_neg h1]
        simp only [ne_eq, Decidable.not_not] at h1
        have h3 := ih none (i + 1) k h1 hk
        split at h
        · exfalso; revert h; simp [noRd]
        · rename_i h2
          rw [if_neg h2]
          split at h
          · rename_i h4
            rw [if_pos h4]
            exact h3
          · rename_i h4
            rw [if_neg h4]
            split at h
            · rename_i h5
              rw [if_pos h5]
              exact ih _ _ _ h h3
            · exfalso; revert h; simp [noRd]

theorem Bx.alloc {w : World} {B i k : Nat} {s : ByteArray} (h : Bx w B s i k) (o : Obj) : Bx (w.alloc o) B s i k := Blk.alloc h o

theorem read_step {w wr w1 w3 : World} {B T Ty : Nat} {u : Value} {acc : List Tm} {xs : List Value} {o2 : Obj} {s s' nm : ByteArray} {a1 : Option Addr} {n1 c1 g cap p k' : Nat} {cR : Array Value} {t : Tm} (hBw : B < w.heap.size) (hwT : w.heap.size < T) (hTr : T < wr.heap.size)
    (hrow : Row wr (T + 1) Ty (fun _ => False) u acc xs) (hx : Ex B w wr) (hR : Blk wr w.heap.size cR Ty) (hT : Blk wr T #[.string nm, u] Ty)
    (he1 : Ex B wr w1) (hbx : Bx w1 B s p k') (ht : TV w1 (fun b => wr.heap.size ≤ b) (.agg #[.string s', .slice a1 n1 c1]) t)
    (hown : w3.ownsRow (T + 1) Ty 2 (.slice (some ⟨g, 0, none⟩) (acc.length + 1) cap) (acc.length + 1) (xs ++ [.string s', .slice a1 n1 c1])) (hg : (w1.alloc o2).grownBy w3 u.ownBlock) (hat : u.ownBlock = some g ∨ g = (w1.alloc o2).heap.size) :
    let w4 := w3.setCell ⟨T, 1, none⟩ (.slice (some ⟨g, 0, none⟩) (acc.length + 1) cap)
    Row w4 (T + 1) Ty (fun _ => False) (.slice (some ⟨g, 0, none⟩) (acc.length + 1) cap) (acc ++ [t]) (xs ++ [.string s', .slice a1 n1 c1]) ∧ Ex B w w4 ∧ Blk w4 w.heap.size cR Ty ∧ Blk w4 T #[.string nm, .slice (some ⟨g, 0, none⟩) (acc.length + 1) cap] Ty ∧ Bx w4 B s p k' ∧ T < w4.heap.size := by
  intro w4
  have hlt' := hrow.own.lt
  obtain ⟨wm, hbm, hsm, hem⟩ := he1.mid
  have hrm := hrow.ex hem (by omega) (fun h => h)
  have hp := hrm.push (w1 := w1) (w2 := w1.alloc o2) (w3 := w3) (by omega) (fun _ h => h.elim) hbm (ht.mono fun b h _ => Or.inr (by omega)) o2 rfl hown hg hat
  have hne : ∀ b, b < T + 1 → some b ≠ u.ownBlock := fun b hb e => by have := (hlt' b e.symm).1; omega
  have hx3 : Ex B w w3 := ((hx.trans he1).alloc o2).grown hg (fun k hk => by have := (hlt' k hk).1; omega)
  have hs3 := hg.size
  have hs1 := he1.size
  simp at hs3
  refine ⟨hp.setCell (by omega) (fun h => h) _, hx3.setNew (by omega) _ _, ?_, ?_, ?_, by simp [w4, World.setCell]; omega⟩
  · exact (((hR.ex he1 (by omega)).alloc o2).grown hg (hne _ (by omega))).setOther _ _ (by omega)
  · exact (((hT.ex he1 (by omega)).alloc o2).grown hg (hne _ (by omega))).set 1 _
  · exact ((Blk.alloc hbx o2).grown hg (hne _ (by omega))).setOther _ _ (by omega)

/-- Behind a term below a name. -/
def RtGot (w : World) (B T : Nat) (s nm : ByteArray) (args : List Tm) (u : Value) (p k : Nat) (w' : World) : Prop :=
  ∃ xs, Row w' (T + 1) 25 (fun _ => False) u args xs ∧ Ex B w w' ∧ Blk w' w.heap.size #[.string ⟨#[]⟩, .slice none 0 0] 25 ∧ Blk w' T #[.string nm, u] 25 ∧ Bx w' B s p k ∧ T < w'.heap.size
theorem RtGot.bx {w : World} {B T : Nat} {s nm : ByteArray} {args : List Tm} {u : Value} {p k : Nat} {w' : World} (h : RtGot w B T s nm args u p k w') : Bx w' B s p k := by obtain ⟨xs, _, _, _, _, h, _⟩ := h; exact h
theorem RtGot.ex0 {w : World} {B T : Nat} {s nm : ByteArray} {args : List Tm} {u : Value} {p k : Nat} {w' : World} (h : RtGot w B T s nm args u p k w') : Ex B w w' := by obtain ⟨xs, _, h, _⟩ := h; exact h
theorem RtGot.rb {w : World} {B T : Nat} {s nm : ByteArray} {args : List Tm} {u : Value} {p k : Nat} {w' : World} (h : RtGot w B T s nm args u p k w') : Blk w' w.heap.size #[.string ⟨#[]⟩, .slice none 0 0] 25 := by obtain ⟨xs, _, _, h, _⟩ := h; exact h
theorem RtGot.tb {w : World} {B T : Nat} {s nm : ByteArray} {args : List Tm} {u : Value} {p k : Nat} {w' : World} (h : RtGot w B T s nm args u p k w') : Blk w' T #[.string nm, u] 25 := by obtain ⟨xs, _, _, _, h, _⟩ := h; exact h
theorem RtGot.sl {w : World} {B T : Nat} {s nm : ByteArray} {args : List Tm} {u : Value} {p k : Nat} {w' : World} (h : RtGot w B T s nm args u p k w') : ∃ a c, u = .slice a args.length c ∧ Sl w' (fun b => T + 1 ≤ b) a args := by
  obtain ⟨xs, h, _⟩ := h
  obtain ⟨a, c, e, hs⟩ := h.sl
  exact ⟨a, c, e, hs.mono fun b hb _ => hb.elim False.elim id⟩
theorem RtGot.ex {w : World} {B T : Nat} {s nm : ByteArray} {args : List Tm} {u : Value} {p k p' k' : Nat} {w' w'' : World} (h : RtGot w B T s nm args u p k w') (he : Ex B w' w'') (hx : Bx w'' B s p' k') (hB : B < w.heap.size) (hT : w.heap.size < T) : RtGot w B T s nm args u p' k' w'' := by
  obtain ⟨xs, h1, h2, h3, h4, h5, h6⟩ := h
  have := he.size
  exact ⟨xs, h1.ex he (by omega) (fun h => h), h2.trans he, h3.ex he (by omega), h4.ex he (by omega), hx, by omega⟩
theorem sl_set2 {w w7 : World} {T : Nat} {a : Option Addr} {l : List Tm} {v0 v1 : Value} (hs : Sl w7 (fun b => T + 1 ≤ b) a l) (hT : w.heap.size < T) : Sl ((w7.setCell ⟨w.heap.size, 0, none⟩ v0).setCell ⟨w.heap.size, 1, none⟩ v1) (fun b => w.heap.size ≤ b) a l :=
  (hs.kept fun b hb => by rw [Below.heap_setCell _ _ _ _ (by simp; omega), Below.heap_setCell _ _ _ _ (by simp; omega)]).mono fun b hb _ => by omega

/-- Where the reader stands between two terms below a name. -/
def RtInv (w : World) (B T F : Nat) (s nm : ByteArray) (r : Rd) (wr : World) : Prop :=
  ∃ (f' : Nat) (acc : List Tm) (j k' : Nat) (u : Value) (xs : List Value), f' + 1 < F ∧ 2 * (s.size - j) + 1 ≤ f' ∧ j < s.size ∧ acc.length ≤ j ∧ k' ≤ 200 ∧ r = rd s (f' + 1) (some (nm, acc)) j k' ∧ Bx wr B s (j + 1) k' ∧ Ex B w wr ∧ Blk wr w.heap.size #[.string ⟨#[]⟩, .slice none 0 0] 25 ∧ Blk wr T #[.string nm, u] 25 ∧ Row wr (T + 1) 25 (fun _ => False) u acc xs ∧ T < wr.heap.size

end Go.Proofs.Ythlgknglalcggaj
