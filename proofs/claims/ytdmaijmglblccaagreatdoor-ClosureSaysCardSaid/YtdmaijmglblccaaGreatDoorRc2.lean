/- Memory: terms, their texts, and a map by these, side by side. -/
import Derived.Test.YtdmaijmglblccaaGreatDoorRc1
import Derived.Test.YtdmaijmglblccaaGreatDoorZClosureSaysOwn
namespace Go.Proofs.YtdmaijmglblccaaGreatDoor
open Go.RowKit
set_option linter.unusedSimpArgs false
set_option linter.unusedVariables false
set_option maxRecDepth 8000

theorem addH (b i : Nat) : (⟨b, 0, none⟩ : Addr).add i = ⟨b, i, none⟩ := by by_cases h0 : i = 0 <;> simp [Addr.add, h0]
/-- A row of terms of one's own, whose parts lie where Z says. -/
structure RowH (w : World) (N : Nat) (Z : Nat → Prop) (v : Value) (l : List Tm) (xs : List Value) : Prop where
  own : w.ownsRow N 25 2 v l.length xs
  row : RowT w Z l xs
theorem RowH.mono {w : World} {N : Nat} {Z Z' : Nat → Prop} {v : Value} {l : List Tm} {xs : List Value} (h : RowH w N Z v l xs) (hZ : ∀ b, Z b → b < w.heap.size → Z' b) : RowH w N Z' v l xs :=
  ⟨h.own, h.row.imp fun a l hs => hs.mono hZ⟩
theorem RowH.exq {w w' : World} {N : Nat} {Q Z : Nat → Prop} {v : Value} {l : List Tm} {xs : List Value} (h : RowH w N Z v l xs) (he : ExQ Q w w') (hv : ∀ b, v.ownBlock = some b → ¬ Q b) (hZ : ∀ b, Z b → ¬ Q b) : RowH w' N Z v l xs :=
  ⟨ownsRow_at h.own fun g hg => he.block g (h.own.lt g hg).2 (hv g hg), h.row.imp fun a l hs => hs.exq he hZ⟩
theorem RowH.below {w w' : World} {N : Nat} {Z : Nat → Prop} {v : Value} {l : List Tm} {xs : List Value} (h : RowH w N Z v l xs) (hb : Below w.heap.size w w') : RowH w' N Z v l xs :=
  ⟨ownsRow_at h.own fun g hg => hb.block g (h.own.lt g hg).2, h.row.imp fun a l hs => hs.later hb⟩
theorem own_shapeH {w : World} {N T z n : Nat} {v : Value} {xs : List Value} (h : w.ownsRow N T z v n xs) : ∃ a c, v = .slice a n c := by
  rcases h.2 with ⟨h1, h0⟩ | ⟨g, cap, cur, h1, _⟩
  · exact ⟨none, 0, by rw [h1, h0]⟩
  · exact ⟨_, _, h1⟩
/-- One of a row. -/
theorem rowH_at {w : World} {N : Nat} {Z : Nat → Prop} {v : Value} {l : List Tm} {xs : List Value} (h : RowH w N Z v l xs) {i : Nat} (hi : i < l.length) : ∃ g cap ax cx, v = .slice (some ⟨g, 0, none⟩) l.length cap ∧ w.cell? ⟨g, i * 2, none⟩ = some (.string l[i].name) ∧ w.cell? ⟨g, i * 2 + 1, none⟩ = some (.slice ax l[i].args.length cx) ∧ Sl w Z ax l[i].args ∧ g < w.heap.size := by
  rcases h.own.2 with ⟨h1, h0⟩ | ⟨g, cap, cur, h1, _⟩
  · omega
  · have hc := h.own.cells (g := g) (by rw [h1]; rfl)
    have hl := (h.own.lt g (by rw [h1]; rfl)).2
    obtain ⟨x0, ax, cx, x1, hs⟩ := h.row.get i hi
    exact ⟨g, cap, ax, cx, h1, by have := hc _ _ x0; rw [addH] at this; exact this, by have := hc _ _ x1; rw [addH] at this; exact this, hs, hl⟩
theorem cell_termH (w : World) (s : ByteArray) (u : Value) (T : Nat) : ∀ j v, [Value.string s, u][j]? = some v → (w.alloc (.cells #[.string s, u] T)).cell? ((⟨w.heap.size, 0, none⟩ : Addr).add j) = some v :=
  World.news_of_block (cs := #[.string s, u]) (heap_alloc_new w _)
theorem app_termH {w : World} {N : Nat} {Z : Nat → Prop} {u : Value} {L : List Tm} {xs : List Value} {z : Tm} {a1 : Option Addr} {c : Nat} (h : RowH w N Z u L xs) (hN : N ≤ w.heap.size) (hZ : ∀ b, Z b → some b ≠ u.ownBlock) (hl : L.length ≤ 1000000) (hz : Sl w Z a1 z.args) :
    ∃ g cap w3, (Builtin.append_ #[23, 23] 23 #[u, .slice (some ⟨w.heap.size, 0, none⟩) 1 1]).run Tryz.prog (w.alloc (.cells #[.string z.name, .slice a1 z.args.length c] 25)) = .ok (.slice (some ⟨g, 0, none⟩) (L.length + 1) cap) w3 ∧
      RowH w3 N (fun b => Z b ∧ b ≠ g) (.slice (some ⟨g, 0, none⟩) (L.length + 1) cap) (L ++ [z]) (xs ++ [.string z.name, .slice a1 z.args.length c]) ∧ ExQ (fun b => some b = u.ownBlock) w w3 ∧ (u.ownBlock = some g ∨ g = w.heap.size + 1) := by
  obtain ⟨i0, hi, hz0, hz1, hz2⟩ := info_parts Tryz.infoTerm
  obtain ⟨g, cap, w3, hr, ho, hg, hat, _⟩ := run_append_lies (P := Tryz.prog) (w := w.alloc (.cells #[.string z.name, .slice a1 z.args.length c] 25)) 23 23 N 25 i0 _ 2 40 Tryz.underlying23 hi hz0 hz1 hz2 rfl (by decide) u L.length xs (h.own.alloc _) ⟨w.heap.size, 0, none⟩ 1 1 [.string z.name, .slice a1 z.args.length c] rfl (cell_termH _ _ _ _) (fun x hx => by simp at hx; rcases hx with rfl | rfl <;> rfl) (by decide) (by unfold maxLen; omega) (by omega) (by simp; omega) _ rfl
  have he : ExQ (fun b => some b = u.ownBlock) w w3 := ((ExQ.refl _ w).alloc _).grown hg (fun k hk => Or.inr hk.symm)
  have hold : ∀ (a : Option Addr) (l : List Tm), Sl w Z a l → Sl w3 (fun b => Z b ∧ b ≠ g) a l := fun a l hs =>
    ((hs.mono (Y := fun b => Z b ∧ b < w.heap.size) fun b h1 h2 => ⟨h1, h2⟩).exq he (fun b hb e => hZ b hb.1 e)).mono fun b hb _ => ⟨hb.1, fun e => by
      subst e
      rcases hat with e' | e'
      · exact hZ b hb.1 e'.symm
      · simp at e'; omega⟩
  refine ⟨g, cap, w3, hr, ⟨by simpa using ho, RowT.append (h.row.imp hold) ⟨a1, c, [], rfl, hold _ _ hz, rfl⟩⟩, he, by simpa using hat⟩
theorem app_strH {w : World} {N : Nat} {v : Value} {l : List ByteArray} {s : ByteArray} (h : w.ownsRow N 9 1 v l.length (l.map Value.string)) (hN : N ≤ w.heap.size) (hl : l.length ≤ 100000) :
    ∃ g cap w3, (Builtin.append_ #[31, 31] 31 #[v, .slice (some ⟨w.heap.size, 0, none⟩) 1 1]).run Tryz.prog (w.alloc (.cells #[.string s] 9)) = .ok (.slice (some ⟨g, 0, none⟩) (l.length + 1) cap) w3 ∧ w3.ownsRow N 9 1 (.slice (some ⟨g, 0, none⟩) (l.length + 1) cap) (l ++ [s]).length ((l ++ [s]).map Value.string) ∧ ExQ (fun b => some b = v.ownBlock) w w3 ∧ (v.ownBlock = some g ∨ g = w.heap.size + 1) := by
  obtain ⟨i0, hi, hz0, hz1, hz2⟩ := info_parts Tryz.infoStr
  obtain ⟨g, cap, w3, hr, ho, hg, hat, _⟩ := run_append_lies (P := Tryz.prog) (w := w.alloc (.cells #[.string s] 9)) 31 31 N 9 i0 _ 1 16 Tryz.underlying31 hi hz0 hz1 hz2 rfl (by decide) v l.length (l.map Value.string) (h.alloc _) ⟨w.heap.size, 0, none⟩ 1 1 [.string s] rfl (World.news_of_block (cs := #[.string s]) (heap_alloc_new w _)) (fun x hx => by simp at hx; subst hx; rfl) (by decide) (by unfold maxLen; omega) (by omega) (by simp; omega) _ rfl
  exact ⟨g, cap, w3, hr, by simpa using ho, ((ExQ.refl _ w).alloc _).grown hg (fun k hk => Or.inr hk.symm), by simpa using hat⟩
/-- Blocks of neither row, nor the map's. -/
def Zr (ov ev : Value) (M b : Nat) : Prop := some b ≠ ov.ownBlock ∧ some b ≠ ev.ownBlock ∧ b ≠ M
/-- The terms so far, the texts so far, the map's keys so far. -/
structure RcW (D : Value → Prop) (wN : World) (M : Nat) (all : List Tm) (tx ks : List ByteArray) (ov ev : Value) (wr : World) : Prop where
  ex : ∃ xs, RowH wr wN.heap.size (Zr ov ev M) ov all xs
  es : wr.ownsRow wN.heap.size 9 1 ev tx.length (tx.map Value.string)
  mp : ∃ L, MapAt wr M L ∧ L.map (·.1) = ks ∧ ∀ p ∈ L, D p.2
  ne : ∀ b, ov.ownBlock = some b → ev.ownBlock ≠ some b
  nm : ov.ownBlock ≠ some M ∧ ev.ownBlock ≠ some M
  hM : wN.heap.size ≤ M
  bl : Below wN.heap.size wN wr
theorem RcW.later {D : Value → Prop} {wN : World} {M : Nat} {all : List Tm} {tx ks : List ByteArray} {ov ev : Value} {wr w' : World} (h : RcW D wN M all tx ks ov ev wr) (hb : Below wr.heap.size wr w') : RcW D wN M all tx ks ov ev w' := by
  obtain ⟨xs, h1⟩ := h.ex
  obtain ⟨L, h2, h3, h4⟩ := h.mp
  exact ⟨⟨xs, h1.below hb⟩, ownsRow_at h.es fun g hg => hb.block g (h.es.lt g hg).2, ⟨L, h2.below hb h2.lt, h3, h4⟩, h.ne, h.nm, h.hM, h.bl.trans (hb.mono h.bl.size)⟩
/-- A text more. -/
theorem RcW.pushS {D : Value → Prop} {wN : World} {M : Nat} {all : List Tm} {tx ks : List ByteArray} {ov ev : Value} {w : World} {s : ByteArray} (h : RcW D wN M all tx ks ov ev w) (hl : tx.length ≤ 100000) :
    ∃ g cap w3, (Builtin.append_ #[31, 31] 31 #[ev, .slice (some ⟨w.heap.size, 0, none⟩) 1 1]).run Tryz.prog (w.alloc (.cells #[.string s] 9)) = .ok (.slice (some ⟨g, 0, none⟩) (tx.length + 1) cap) w3 ∧
      RcW D wN M all (tx ++ [s]) ks ov (.slice (some ⟨g, 0, none⟩) (tx.length + 1) cap) w3 ∧ ExQ (fun b => some b = ev.ownBlock) w w3 ∧ (ev.ownBlock = some g ∨ w.heap.size ≤ g) := by
  obtain ⟨xs, hR⟩ := h.ex
  have hN := h.bl.size
  have holt := hR.own.lt
  have helt := h.es.lt
  obtain ⟨L, hm1, hm2, hm3⟩ := h.mp
  have hMl := hm1.lt
  obtain ⟨g, cap, w3, hr, hS3, he, hat⟩ := app_strH (s := s) h.es hN hl
  have hge : ov.ownBlock ≠ some g := fun e => by
    rcases hat with e2 | e2
    · exact h.ne g e e2
    · have := (holt g e).2; omega
  have hgM : g ≠ M := fun e => by
    rcases hat with e2 | e2
    · exact h.nm.2 (by rw [e2, e])
    · omega
  have hR2 := (hR.mono (Z' := fun b => Zr ov ev M b ∧ b < w.heap.size) fun b h1 h2 => ⟨h1, h2⟩).exq he (fun b e1 e2 => h.ne b e1 e2.symm) fun b hb e => hb.1.2.1 e
  refine ⟨g, cap, w3, hr, ⟨⟨_, hR2.mono fun b hb _ => ⟨hb.1.1, fun e => ?_, hb.1.2.2⟩⟩, hS3, ⟨L, hm1.kept (he.block M hMl fun e => h.nm.2 e.symm), hm2, hm3⟩, fun b hb e => ?_, ⟨h.nm.1, fun e => hgM (by simpa [Value.ownBlock] using e)⟩, h.hM, h.bl.trans (he.below hN fun b e => (helt b e.symm).1)⟩, he, hat.imp id fun e => by omega⟩
  · have : b = g := by simpa [Value.ownBlock] using e
    subst this
    rcases hat with e2 | e2
    · exact hb.1.2.1 e2.symm
    · have := hb.2; omega
  · have : g = b := by simpa [Value.ownBlock] using e
    subst this
    exact hge hb
/-- What stood fast stands fast. -/
def Fsh (S : Nat) (o0 o : Value) : Prop := o.ownBlock = o0.ownBlock ∨ ∃ g, o.ownBlock = some g ∧ S ≤ g
theorem Fsh.next {S : Nat} {o0 o : Value} {w : World} {g n cap : Nat} (h : Fsh S o0 o) (hS : S ≤ w.heap.size) (hg : o.ownBlock = some g ∨ w.heap.size ≤ g) : Fsh S o0 (.slice (some ⟨g, 0, none⟩) n cap) := by
  rcases hg with e | e
  · rcases h with h | ⟨k, h1, h2⟩
    · exact Or.inl (by rw [← h, e]; rfl)
    · exact Or.inr ⟨g, rfl, by rw [e] at h1; cases h1; exact h2⟩
  · exact Or.inr ⟨g, rfl, by omega⟩
end Go.Proofs.YtdmaijmglblccaaGreatDoor
