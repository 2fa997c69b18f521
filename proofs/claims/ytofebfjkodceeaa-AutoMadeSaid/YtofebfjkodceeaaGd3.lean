import Derived.Test.YtofebfjkodceeaaSq
import Derived.Test.YtofebfjkodceeaaZKAutoMadeOwn
import Derived.Test.YtofebfjkodceeaaZBAutoMadeOwn
import Derived.Test.YtofebfjkodceeaaZOAutoMadeOwn
import Derived.Test.YtofebfjkodceeaaAv14
namespace Go.Proofs.Ytofebfjkodceeaa
open Go.RowKit
set_option linter.unusedSimpArgs false
set_option linter.unusedVariables false
set_option maxRecDepth 8000
theorem app_strG {w : World} {N : Nat} {v : Value} {l : List ByteArray} {s : ByteArray} (h : w.ownsRow N 9 1 v l.length (l.map Value.string)) (hN : N ≤ w.heap.size) (hl : l.length ≤ 100000) :
  ∃ g cap w3, (Builtin.append_ #[38, 38] 38 #[v, .slice (some ⟨w.heap.size, 0, none⟩) 1 1]).run Try.prog (w.alloc (.cells #[.string s] 9)) = .ok (.slice (some ⟨g, 0, none⟩) (l.length + 1) cap) w3 ∧ w3.ownsRow N 9 1 (.slice (some ⟨g, 0, none⟩) (l.length + 1) cap) (l ++ [s]).length ((l ++ [s]).map Value.string) ∧ ExQ (fun b => some b = v.ownBlock) w w3 ∧ (v.ownBlock = some g ∨ g = w.heap.size + 1) := by
 obtain ⟨i0, hi, hz0, hz1, hz2⟩ := info_parts Try.infoStr
 obtain ⟨g, cap, w3, hr, ho, hg, hat, _⟩ := run_append_lies (P := Try.prog) (w := w.alloc (.cells #[.string s] 9)) 38 38 N 9 i0 _ 1 16 Try.underlying38 hi hz0 hz1 hz2 rfl (by decide) v l.length (l.map Value.string) (h.alloc _) ⟨w.heap.size, 0, none⟩ 1 1 [.string s] rfl (World.news_of_block (cs := #[.string s]) (heap_alloc_new w _)) (fun x hx => by simp at hx; subst hx; rfl) (by decide) (by unfold maxLen; omega) (by omega) (by simp; omega) _ rfl
 exact ⟨g, cap, w3, hr, by simpa using ho, ((ExQ.refl _ w).alloc _).grown hg (fun k hk => Or.inr hk.symm), by simpa using hat⟩
structure GdM (A B : Au) (wN : World) (out : List Tm) (ov ev : Value) (wr : World) : Prop where
 ex : ∃ Z xs, RowG wr wN.heap.size Z ov out xs ∧ ∀ b, Z b → wN.heap.size ≤ b ∧ some b ≠ ov.ownBlock ∧ some b ≠ ev.ownBlock
 es : wr.ownsRow wN.heap.size 9 1 ev (out.map (keyT A B)).length ((out.map (keyT A B)).map Value.string)
 ne : ∀ b, ov.ownBlock = some b → ev.ownBlock ≠ some b
 bl : Below wN.heap.size wN wr
theorem GdM.later {A B : Au} {wN : World} {out : List Tm} {ov ev : Value} {wr w' : World} (h : GdM A B wN out ov ev wr) (hb : Below wr.heap.size wr w') : GdM A B wN out ov ev w' := by
 obtain ⟨Z, xs, h1, h2⟩ := h.ex
 exact ⟨⟨Z, xs, h1.below hb, h2⟩, ownsRow_at h.es fun g hg => hb.block g (h.es.lt g hg).2, h.ne, h.bl.trans (hb.mono h.bl.size)⟩
theorem GdM.shape {A B : Au} {wN : World} {out : List Tm} {ov ev : Value} {wr : World} (h : GdM A B wN out ov ev wr) : (∃ a c, ov = .slice a out.length c) ∧ ∃ a c, ev = .slice a (out.map (keyT A B)).length c := by
 obtain ⟨Z, xs, h1, _⟩ := h.ex
 refine ⟨h1.shape, ?_⟩
 rcases h.es.2 with ⟨h1, h0⟩ | ⟨g, cap, cur, h1, _⟩
 ·exact ⟨none, 0, by rw [h1, h0]⟩
 ·exact ⟨_, _, h1⟩
theorem GdM.sl {A B : Au} {wN : World} {out : List Tm} {a : Option Addr} {c : Nat} {ev : Value} {wr : World} (h : GdM A B wN out (.slice a out.length c) ev wr) : Sl wr (fun _ => True) a out := by
 obtain ⟨Z, xs, h1, _⟩ := h.ex
 exact h1.sl.mono fun _ _ _ => trivial
theorem GdM.push {A B : Au} {wN w4 w7 : World} {out : List Tm} {ov ev : Value} {t : Tm} {a1 : Option Addr} {c1 : Nat} {Z : Nat → Prop} {xs : List Value} (h : GdM A B wN out ov ev w4) (hR : RowG w4 wN.heap.size Z ov out xs) (hZ : ∀ b, Z b → (wN.heap.size ≤ b ∧ some b ≠ ov.ownBlock ∧ some b ≠ ev.ownBlock) ∧ b < w4.heap.size) (hb : Below w4.heap.size w4 w7) (ht : Sl w7 (fun b => Z b ∨ w4.heap.size ≤ b) a1 t.args) (hl : out.length ≤ 1000) :
  ∃ g cap w8 g2 cap2 w9, (Builtin.append_ #[38, 38] 38 #[ev, .slice (some ⟨w7.heap.size, 0, none⟩) 1 1]).run Try.prog (w7.alloc (.cells #[.string (keyT A B t)] 9)) = .ok (.slice (some ⟨g, 0, none⟩) (out.length + 1) cap) w8 ∧
   (Builtin.append_ #[28, 28] 28 #[ov, .slice (some ⟨w8.heap.size, 0, none⟩) 1 1]).run Try.prog (w8.alloc (.cells #[.string t.name, .slice a1 t.args.length c1] 30)) = .ok (.slice (some ⟨g2, 0, none⟩) (out.length + 1) cap2) w9 ∧
   (∀ b, w4.heap.size ≤ b → b < w7.heap.size → w8.heap[b]? = w7.heap[b]?) ∧ GdM A B wN (out ++ [t]) (.slice (some ⟨g2, 0, none⟩) (out.length + 1) cap2) (.slice (some ⟨g, 0, none⟩) (out.length + 1) cap) w9 := by
 have hN := h.bl.size
 have hbs := hb.size
 have hes7 : w7.ownsRow wN.heap.size 9 1 ev (out.map (keyT A B)).length ((out.map (keyT A B)).map Value.string) := ownsRow_at h.es fun g hg => hb.block g (h.es.lt g hg).2
 have helt := h.es.lt
 have holt := hR.own.lt
 obtain ⟨g, cap, w8, hr8, ho8, hx8, hat8⟩ := app_strG (s := keyT A B t) hes7 (by omega) (by simp; omega)
 have hgl := ho8.lt g rfl
 have hg8 : g < w8.heap.size := hgl.2
 have hz8 := hx8.size
 have hR7 : RowG w7 wN.heap.size (fun b => Z b ∨ (w4.heap.size ≤ b ∧ b < w7.heap.size)) ov out xs := (hR.below hb).mono fun b hb1 _ => Or.inl hb1
 have ht7 : Sl w7 (fun b => Z b ∨ (w4.heap.size ≤ b ∧ b < w7.heap.size)) a1 t.args := ht.mono fun b hb1 hb2 => hb1.imp id fun h => ⟨h, hb2⟩
 have hnQ : ∀ b, (Z b ∨ (w4.heap.size ≤ b ∧ b < w7.heap.size)) → ¬ (some b = ev.ownBlock) := fun b hb1 e => by
  rcases hb1 with h1 | h1
  ·exact (hZ b h1).1.2.2 e
  ·have := (helt b e.symm).2; omega
 have hR8 := hR7.exq hx8 (fun b e1 e2 => h.ne b e1 e2.symm) hnQ
 have ht8 := ht7.exq hx8 hnQ
 have hnO : ∀ b, (Z b ∨ (w4.heap.size ≤ b ∧ b < w7.heap.size)) → some b ≠ ov.ownBlock := fun b hb1 e => by
  rcases hb1 with h1 | h1
  ·exact (hZ b h1).1.2.1 e
  ·have := (holt b e.symm).2; omega
 obtain ⟨g2, cap2, w9, hr9, hR9, hx9, hat9⟩ := app_termG (c := c1) hR8 (by omega) hnO (by omega) ht8
 have hgo : some g ≠ ov.ownBlock := fun e => by
  have h1 := holt g e.symm
  rcases hat8 with h2 | h2
  ·exact h.ne g e.symm h2
  ·omega
 refine ⟨g, cap, w8, g2, cap2, w9, by simpa using hr8, hr9, fun b h1 h2 => hx8.block b h2 fun e => by have := (helt b e.symm).2; omega, ⟨⟨_, _, hR9, fun b hb1 => ?_⟩, ?_, fun b hb1 hb2 => ?_, ?_⟩⟩
 ·refine ⟨?_, fun e => ?_, fun e => ?_⟩
  ·rcases hb1.1 with h1 | h1
   ·exact (hZ b h1).1.1
   ·omega
  ·have : b = g2 := by simpa [Value.ownBlock] using e
   exact hb1.2 this
  ·have e1 : b = g := by simpa [Value.ownBlock] using e
   rcases hat8 with h2 | h2
   ·exact hnQ b hb1.1 (by rw [h2, e1])
   ·rcases hb1.1 with h1 | h1
    ·have := (hZ b h1).2; omega
    ·omega
 ·rw [List.map_append]
  have h1 : w9.ownsRow wN.heap.size 9 1 (.slice (some ⟨g, 0, none⟩) ((out.map (keyT A B)).length + 1) cap) (out.map (keyT A B) ++ [keyT A B t]).length ((out.map (keyT A B) ++ [keyT A B t]).map Value.string) := ownsRow_at ho8 fun b e => hx9.block b (ho8.lt b e).2 fun e2 => by
   have e3 : g = b := by simpa [Value.ownBlock] using e
   subst e3
   exact hgo e2
  simpa using h1
 ·have e1 : g2 = b := by simpa [Value.ownBlock] using hb1
  have e2 : g = b := by simpa [Value.ownBlock] using hb2
  rcases hat9 with h3 | h3
  ·exact hgo (by rw [h3, e1, e2])
  ·omega
 ·have h7 := h.bl.trans (hb.mono hN)
  have h8 : Below wN.heap.size w7 w8 := hx8.below (by omega) fun b e => (helt b e.symm).1
  have h9 : Below wN.heap.size w8 w9 := hx9.below (by omega) fun b e => (holt b e.symm).1
  exact (h7.trans h8).trans h9
theorem rowG_at {w : World} {N : Nat} {Z : Nat → Prop} {a : Option Addr} {c : Nat} {l : List Tm} {xs : List Value} (h : RowG w N Z (.slice a l.length c) l xs) {i : Nat} (hi : i < l.length) : ∃ g ax cx, a = some ⟨g, 0, none⟩ ∧ w.cell? ⟨g, i * 2, none⟩ = some (.string l[i].name) ∧ w.cell? ⟨g, i * 2 + 1, none⟩ = some (.slice ax l[i].args.length cx) ∧ Sl w Z ax l[i].args ∧ g < w.heap.size := by
 rcases h.own.2 with ⟨h1, h0⟩ | ⟨g, cap, cur, h1, _⟩
 ·omega
 ·have hc := h.own.cells (g := g) (by rw [h1]; rfl)
  have hl := (h.own.lt g (by rw [h1]; rfl)).2
  cases h1
  obtain ⟨x0, ax, cx, x1, hs⟩ := h.row.get i hi
  exact ⟨g, ax, cx, rfl, by have := hc _ _ x0; rw [addX] at this; exact this, by have := hc _ _ x1; rw [addX] at this; exact this, hs, hl⟩
theorem slV_monoG {w : World} {X : Nat → Prop} {a : Option Addr} {l : List Mv} (h : SlV w X a l) : SlV w (fun _ => True) a l := by
 refine ⟨h.1, h.2.imp id ?_⟩
 rintro ⟨b, o, e, hb, h1⟩
 refine ⟨b, o, e, trivial, fun i hi => ?_⟩
 obtain ⟨g0, ⟨a', c', g2, g3⟩, g4⟩ := h1 i hi
 exact ⟨g0, ⟨a', c', g2, g3.mono fun _ _ _ => trivial⟩, g4⟩
theorem slV_monoL {w : World} {X : Nat → Prop} {a : Option Addr} {l : List Mv} (h : SlV w X a l) : SlV w (fun b => b < w.heap.size) a l := by
 refine ⟨h.1, ?_⟩
 rcases h.2 with h1 | ⟨b, o, e, hb, h1⟩
 ·exact Or.inl h1
 ·by_cases h0 : 0 < l.length
  ·refine Or.inr ⟨b, o, e, cell_ltA (h1 0 h0).1, fun i hi => ?_⟩
   obtain ⟨g0, ⟨a', c', g2, g3⟩, g4⟩ := h1 i hi
   exact ⟨g0, ⟨a', c', g2, g3.mono fun _ _ h => h⟩, g4⟩
  ·exact Or.inl (List.length_eq_zero_iff.1 (by omega))
theorem slV_laterL {w w' : World} {a : Option Addr} {l : List Mv} (h : SlV w (fun b => b < w.heap.size) a l) (hb : Below w.heap.size w w') : SlV w' (fun b => b < w.heap.size) a l := h.later hb
structure TjI (out : List Tm) (n c : Nat) (nm : ByteArray) (Z : Nat → Prop) (Tb : Nat) (w4 : World) (q : Value) (wr : World) : Prop where
 ex : ∃ (j : Nat) (fv : Value) (xs : List Value), q = .int .i64 (j : Int) ∧ Blk wr Tb #[.string nm, fv] 30 ∧ RowG wr (Tb + 1) Z fv (argsC out n c j) xs
 bl : Below w4.heap.size w4 wr
 sz : Tb < wr.heap.size
theorem TjI.next {out : List Tm} {n c jj : Nat} {nm : ByteArray} {Z : Nat → Prop} {Tb : Nat} {w4 w8 : World} {fv : Value} {xs : List Value} {z : Tm} {ax : Option Addr} {cx : Nat} (hT : Blk w8 Tb #[.string nm, fv] 30) (hRG : RowG w8 (Tb + 1) Z fv (argsC out n c jj) xs) (hbl : Below w4.heap.size w4 w8) (hTb : Tb = w4.heap.size) (hZ : ∀ b, Z b → b < w4.heap.size) (hz : Sl w8 Z ax z.args) (ha : argJ out n c jj = z) (hj : jj ≤ 1000) :
  ∃ g cap w9, (Builtin.append_ #[28, 28] 28 #[fv, .slice (some ⟨w8.heap.size, 0, none⟩) 1 1]).run Try.prog (w8.alloc (.cells #[.string z.name, .slice ax z.args.length cx] 30)) = .ok (.slice (some ⟨g, 0, none⟩) (jj + 1) cap) w9 ∧ Blk w9 Tb #[.string nm, fv] 30 ∧ Below w4.heap.size w4 w9 ∧ TjI out n c nm Z Tb w4 (.int .i64 ((jj + 1 : Nat) : Int)) (w9.setCell ⟨Tb, 1, none⟩ (.slice (some ⟨g, 0, none⟩) (jj + 1) cap)) := by
 have hTl := hT.lt
 have hlt := hRG.own.lt
 have hbs := hbl.size
 obtain ⟨g, cap, w9, hr, hR9, hx9, hat⟩ := app_termG (c := cx) (z := z) hRG (by omega) (fun b hb e => by have := (hlt b e.symm).1; have := hZ b hb; omega) (by rw [argsC_len]; omega) hz
 rw [argsC_len] at hr hR9
 have hgl := hR9.own.lt g rfl
 have hT9 : Blk w9 Tb #[.string nm, fv] 30 := hT.exq hx9 fun e => by have := (hlt Tb e.symm).1; omega
 have hb9 : Below w4.heap.size w4 w9 := hbl.trans (hx9.below (by omega) fun b e => by have := (hlt b e.symm).1; omega)
 refine ⟨g, cap, w9, hr, hT9, hb9, ⟨⟨jj + 1, _, xs ++ [.string z.name, .slice ax z.args.length cx], rfl, hT9.set 1 _, ?_⟩, hb9.setCell (p := ⟨Tb, 1, none⟩) (by simp; omega) _, by simp; exact hT9.lt⟩⟩
 rw [argsC_succ, ha]
 refine ((hR9.exq (w' := w9.setCell ⟨Tb, 1, none⟩ (.slice (some ⟨g, 0, none⟩) (jj + 1) cap)) (Q := fun b => b = Tb) ((ExQ.refl (fun b => b = Tb) w9).set (B := Tb) rfl _ _) (fun b e1 e2 => ?_) (fun b e1 e2 => ?_))).mono fun b hb _ => hb.1
 ·have : g = b := by simpa [Value.ownBlock] using e1
  omega
 ·have := hZ b e1.1
  omega
def lnV : Value → Nat
 | .slice _ n _ => n
 | _ => 0
def boV : Value → Nat
 | .bool true => 1
 | _ => 0
structure G1I (A B : Au) (ms : List Mv) (wN : World) (ov ev ag : Value) (wr : World) : Prop where
 ex : ∃ (out : List Tm) (b : Bool), ag = .bool b ∧ GdM A B wN out ov ev wr ∧ GsP A B out ∧ (b = false → ClP A B ms ms.length out out)
structure G2I (A B : Au) (ms : List Mv) (wN : World) (out0 : List Tm) (ov ev ag i : Value) (wr : World) : Prop where
 ex : ∃ (out : List Tm) (b : Bool) (k : Nat), ag = .bool b ∧ i = .int .i64 (k : Int) ∧ k ≤ ms.length ∧ GdM A B wN out ov ev wr ∧ GsP A B out ∧ out0 <+: out ∧ (b = false → out = out0) ∧ (b = true → out0.length < out.length) ∧ ClP A B ms k out0 out
structure G4I (A B : Au) (wN : World) (out0 out1 : List Tm) (nm : ByteArray) (k : Nat) (ov ev ag cv : Value) (wr : World) : Prop where
 ex : ∃ (out : List Tm) (b : Bool) (c : Nat), ag = .bool b ∧ cv = .int .i64 (c : Int) ∧ c ≤ out1.length ^ k ∧ GdM A B wN out ov ev wr ∧ GsP A B out ∧ out1 <+: out ∧ (b = false → out = out0) ∧ (b = true → out0.length < out.length) ∧ DoC A B nm k out1 c out
def GdP (A B : Au) (w : World) (e : Ending) (w' : World) : Prop := ∃ (out : List Tm) (a : Option Addr) (c : Nat), e = .returned (.slice a out.length c) ∧ Sl w' (fun _ => True) a out ∧ (GrdOk A B out ∧ GsP A B out) ∧ Below w.heap.size w w'
set_option maxHeartbeats 20000000 in
theorem grounds_any (A B : Au) (hA : OkAu 8 40 A) (sA : smB A = true) (hB : OkAu 8 40 B) (sB : smB B = true) (va vb : Value) (w : World) (X : Nat → Prop) (hva : AV w X va A) (hvb : AV w X vb B) :
  Calls Try.prog 53 #[va, vb] w fun e w' => GdP A B w e w' := by
 obtain ⟨am, an, al, ao, rfl, ham, hal⟩ := hva
 obtain ⟨bm, bn, bl, bo, rfl, hbm, hbl⟩ := hvb
 unfold smB at sA sB
 rw [Bool.and_eq_true, decide_eq_true_eq] at sA sB
 have hAF := allocsX_facts [(.cells #[.int .i64 A.st, .slice am A.mv.length an, .slice al A.la.length ao] 25 : Obj), (.cells #[.int .i64 B.st, .slice bm B.mv.length bn, .slice bl B.la.length bo] 25 : Obj)] w
 have eW : allocsX w [(.cells #[.int .i64 A.st, .slice am A.mv.length an, .slice al A.la.length ao] 25 : Obj), (.cells #[.int .i64 B.st, .slice bm B.mv.length bn, .slice bl B.la.length bo] 25 : Obj)] = (w.alloc (.cells #[.int .i64 A.st, .slice am A.mv.length an, .slice al A.la.length ao] 25)).alloc (.cells #[.int .i64 B.st, .slice bm B.mv.length bn, .slice bl B.la.length bo] 25) := rfl
 rw [eW] at hAF
 obtain ⟨hF1, hF2, hF3⟩ := hAF
 have KA : Hid (Blk ((w.alloc (.cells #[.int .i64 A.st, .slice am A.mv.length an, .slice al A.la.length ao] 25)).alloc (.cells #[.int .i64 B.st, .slice bm B.mv.length bn, .slice bl B.la.length bo] 25)) w.heap.size #[.int .i64 A.st, .slice am A.mv.length an, .slice al A.la.length ao] 25) := hF3 0 _ rfl
 have KB : Hid (Blk ((w.alloc (.cells #[.int .i64 A.st, .slice am A.mv.length an, .slice al A.la.length ao] 25)).alloc (.cells #[.int .i64 B.st, .slice bm B.mv.length bn, .slice bl B.la.length bo] 25)) (w.heap.size + 1) #[.int .i64 B.st, .slice bm B.mv.length bn, .slice bl B.la.length bo] 25) := hF3 1 _ rfl
 have B2 := hide hF1
 have AVW : Hid (∀ w', Below w.heap.size w w' → AV w' (fun _ => True) (.agg #[.int .i64 A.st, .slice am A.mv.length an, .slice al A.la.length ao]) A) := fun w' hb => ⟨am, an, al, ao, rfl, slV_monoG (ham.later hb), (hal.later hb).mono fun _ _ _ => trivial⟩
 have BVW : Hid (∀ w', Below w.heap.size w w' → AV w' (fun _ => True) (.agg #[.int .i64 B.st, .slice bm B.mv.length bn, .slice bl B.la.length bo]) B) := fun w' hb => ⟨bm, bn, bl, bo, rfl, slV_monoG (hbm.later hb), (hbl.later hb).mono fun _ _ _ => trivial⟩
 have HAM : Hid (SlV w (fun b => b < w.heap.size) am A.mv) := slV_monoL ham
 have HBM : Hid (SlV w (fun b => b < w.heap.size) bm B.mv) := slV_monoL hbm
 have OA := hide hA
 have OB := hide hB
 have HFW : Hid (∀ m ∈ A.mv ++ B.mv, m.frm.length ≤ 2) := fun m hm => by
  rcases List.mem_append.1 hm with h | h
  ·have := List.all_eq_true.1 sA.2 m h; simpa using this
  ·have := List.all_eq_true.1 sB.2 m h; simpa using this
 have HS3 : Hid (A.st ≤ 3 ∧ B.st ≤ 3) := ⟨sA.1, sB.1⟩
 have hl1 := hA.len
 have hl2 := hB.len
 have hm1 := ham.1
 have hm2 := hbm.1
 clear eW hF1 hF2 hF3 ham hal hbm hbl sA sB hA hB
 go_enter Try.func53, Try.ntmps53
 go_upto_region 3 with fail
 generalize (w.alloc (.cells #[.int .i64 A.st, .slice am A.mv.length an, .slice al A.la.length ao] 25)).alloc (.cells #[.int .i64 B.st, .slice bm B.mv.length bn, .slice bl B.la.length bo] 25) = w2 at *
 have kd : Below w2.heap.size w2 w2.drew := (Below.refl _ _).drew
 have KP : Hid (∀ w', Below w2.heap.size w2 w' → w'.cell? ⟨w.heap.size, 1, none⟩ = some (.slice am A.mv.length an) ∧ w'.cell? ⟨w.heap.size + 1, 1, none⟩ = some (.slice bm B.mv.length bn)) := fun w' hb => ⟨(KA.out.below hb KA.out.lt).cell 1, (KB.out.below hb KB.out.lt).cell 1⟩
 refine wp_region_held_drew (S := Below w2.heap.size w2) (by kernel_rfl) kd (fun hHeld => ?_)
 generalize w2.drew = w3 at *
 have ka : Below w2.heap.size w2 (w3.alloc (.cells #[] 40)) := kd.alloc kd.size _
 have hB3 : Below w.heap.size w (w3.alloc (.cells #[] 40)) := B2.out.trans (ka.mono B2.out.size)
 have hown0 : (w3.alloc (.cells #[] 40)).ownsRow w2.heap.size 40 3 (.slice (some ⟨w3.heap.size, 0, none⟩) 0 0) ([] : List Mv).length [] := ⟨by simp, Or.inr ⟨w3.heap.size, 0, #[], rfl, kd.size, heap_alloc_new w3 _, by simp, by unfold maxLen; omega, by simp, by simp⟩⟩
 obtain ⟨v1, W1, ys1, hr1, ho1, hw1, hg1⟩ := appV (c := an) (Z := fun b => b < w.heap.size) hown0 rfl (by have := ka.size; omega) (fun b hb e => by have e2 : b = w3.heap.size := (by simpa [Value.ownBlock] using e); have := B2.out.size; have := kd.size; omega) (slV_laterL HAM.out hB3) (by simp; omega)
 have hb1 : Below w2.heap.size w2 W1 := ka.grown hg1 ka.size (fun k hk => (hown0.lt k hk).1)
 have hB1 : Below w.heap.size w W1 := B2.out.trans (hb1.mono B2.out.size)
 obtain ⟨v2, W2, ys2, hr2, ho2, hw2, hg2⟩ := appV (c := bn) (Z := fun b => b < w.heap.size) ho1 hw1 (by have := hb1.size; omega) (fun b hb e => by have := (ho1.lt b e.symm).1; have := B2.out.size; omega) (slV_laterL HBM.out hB1) (by simp; omega)
 have hb2 : Below w2.heap.size w2 W2 := hb1.grown hg2 hb1.size (fun k hk => (ho1.lt k hk).1)
 simp only [List.nil_append] at ho2 hw2 hr2 ho1
 obtain ⟨ms, hMM⟩ : ∃ ms, ms = A.mv ++ B.mv := ⟨_, rfl⟩
 rw [← hMM] at HFW ho2 hw2
 have hML : ms.length ≤ 100 := by rw [hMM]; simp; omega
 have HMM := hide hMM
 clear hMM
 obtain ⟨va1, vn1, vc1, hv1⟩ : ∃ a n c, v1 = .slice a n c := by
  rcases ho1.2 with ⟨h1, _⟩ | ⟨g', cap, cur, h1, _⟩
  ·exact ⟨_, _, _, h1⟩
  ·exact ⟨_, _, _, h1⟩
 subst hv1
 have HR1 : Hid ((Builtin.append_ #[23, 23] 23 #[.slice (some ⟨w3.heap.size, 0, none⟩) 0 0, .slice am A.mv.length an]).run Try.prog (w3.alloc (.cells #[] 40)) = .ok (.slice va1 vn1 vc1) W1) := hr1
 have HR2 := hide hr2
 obtain ⟨ma, mc, rfl, hsm⟩ := slV_row ho2 hw2
 clear hr1 hr2 hown0 hw1 hg1 hg2 ho1 hB1 hB3
 refine tkq (v := ?_) 1 rfl ?_ ?_
 rotate_left
 ·intro w' hSw
  go_simp <;> with_reducible rfl
 try simp only [Act.put, sqA, sqB, sqC, sqD, sqE, sqF]
 refine tkq (v := ?_) 2 rfl ?_ ?_
 rotate_left
 ·intro w' hSw
  obtain ⟨x0, x1⟩ := KP.out w' hSw
  go_simp <;> with_reducible rfl
 try simp only [Act.put, sqA, sqB, sqC, sqD, sqE, sqF]
 refine tkq (v := ?_) 4 rfl ?_ ?_
 rotate_left
 ·intro w' hSw
  go_simp <;> with_reducible rfl
 try simp only [Act.put, sqA, sqB, sqC, sqD, sqE, sqF]
 refine tkq (v := ?_) 5 rfl ?_ ?_
 rotate_left
 ·intro w' hSw
  obtain ⟨x0, x1⟩ := KP.out w' hSw
  go_simp <;> with_reducible rfl
 try simp only [Act.put, sqA, sqB, sqC, sqD, sqE, sqF]
 refine rdq 0 rfl fun K hK => ?_
 go_simp
 refine hK.out _ _ (by exact ka) (fun hHeld => ?_)
 clear hK K
 try simp only [Act.put, sqA, sqB, sqC, sqD, sqE, sqF]
 refine rdq 3 rfl fun K hK => ?_
 refine step_append_eqM rfl _ _ _ _ rfl rfl rfl HR1.out ?_
 refine hK.out _ _ (by exact hb1) (fun hHeld => ?_)
 clear hK K
 try simp only [Act.put, sqA, sqB, sqC, sqD, sqE, sqF]
 refine rdq 6 rfl fun K hK => ?_
 refine step_append_eqM rfl _ _ _ _ rfl rfl rfl HR2.out ?_
 refine hK.out _ _ (by exact hb2) (fun hHeld => ?_)
 clear hK K
 try simp only [Act.put, sqA, sqB, sqC, sqD, sqE, sqF]
 refine tkq (v := ?_) 7 rfl ?_ ?_
 rotate_left
 ·intro w' hSw
  go_simp <;> with_reducible rfl
 try simp only [Act.put, sqA, sqB, sqC, sqD, sqE, sqF]
 refine wpAnyH_done (by kernel_rfl) ?_ _
 have hms := hsm.1
 have HSM := hide hsm
 have BN : Hid (Below w.heap.size w W2) := B2.out.trans (hb2.mono B2.out.size)
 have KAN := hide (KA.out.below hb2 KA.out.lt)
 have KBN := hide (KB.out.below hb2 KB.out.lt)
 clear hsm hb2 hb1 ka kd KP KA KB B2 ho2 hw2 hHeld
 obtain ⟨wN, hwN⟩ : ∃ wN, wN = W2 := ⟨_, rfl⟩
 rw [← hwN] at HSM BN KAN KBN ⊢
 clear hwN
 go_wp2_with fail
 go_loopw [5, 6, 8] (fun ov ev ag wr => G1I A B ms wN ov ev ag wr) (fun ov ev ag wr => if boV ag = 1 then 65 - lnV ov else 0)
 case atStart => exact ⟨[], true, rfl, ⟨⟨fun _ => False, [], RowG.start _ _ _, fun b hb => hb.elim⟩, World.ownsRow_nil _ _ _ _, (fun b hb => by simp [Value.ownBlock] at hb), Below.refl _ _⟩, GsP.nil _ _, fun h => by cases h⟩
 case round =>
  obtain ⟨out0, ag, rfl, hG, hP, hC⟩ := hrel.ex
  have HG := hide hG
  have HP := hide hP
  have HC := hide hC
  have h64 := hP.len HS3.out.1 HS3.out.2
  obtain ⟨⟨oa, oc, rfl⟩, ea, ec, hee⟩ := hG.shape
  obtain ⟨en, hen⟩ : ∃ en, en = (out0.map (keyT A B)).length := ⟨_, rfl⟩
  rw [← hen] at hee
  subst hee
  clear hG hP hC hrel hen
  obtain ⟨w5, hw5⟩ : ∃ w5, w5 = wr := ⟨_, rfl⟩
  rw [← hw5] at HG ⊢
  clear hw5
  cases ag with
  | false =>
   go_wp2_with fail
   go_ret
   exact ⟨out0, oa, oc, rfl, HG.out.sl, ⟨ClP.grd (by have h9 := HC.out (by trivial); rw [HMM.out] at h9; exact h9) HP.out, HP.out⟩, BN.out.trans (HG.out.bl.mono BN.out.size)⟩
  | true =>
   clear HC
   go_wp2_with fail
   go_loopw [5, 6, 8, 9] (fun ov ev ag i wr => G2I A B ms wN out0 ov ev ag i wr) (fun ov ev ag i wr => ms.length - (intOf i).toNat)
   case atStart => exact ⟨out0, false, 0, rfl, rfl, Nat.zero_le _, HG.out, HP.out, List.prefix_refl _, fun _ => rfl, (fun h => by cases h), fun i hi h => absurd h (by omega)⟩
   case round =>
    obtain ⟨out1, ag1, k, rfl, rfl, hk, hG1, hP1, hpre, hno, hyes, hcl⟩ := hrel.ex
    have HG1 := hide hG1
    have HP1 := hide hP1
    have HPRE := hide hpre
    have HNO := hide hno
    have HYES := hide hyes
    have HCL := hide hcl
    have h641 := hP1.len HS3.out.1 HS3.out.2
    obtain ⟨⟨oa1, oc1, rfl⟩, ea1, ec1, hee⟩ := hG1.shape
    obtain ⟨en1, hen⟩ : ∃ en, en = (out1.map (keyT A B)).length := ⟨_, rfl⟩
    rw [← hen] at hee
    subst hee
    clear hG1 hP1 hpre hno hyes hcl hrel hen
    obtain ⟨w6, hw6⟩ : ∃ w6, w6 = wr := ⟨_, rfl⟩
    rw [← hw6] at HG1 ⊢
    clear hw6
    by_cases hlt : k < ms.length
    ·have hki : (k : Int) < (ms.length : Int) := by omega
     obtain ⟨b, o, af, cf, hae, hbl, d0, d1, d2, hpf⟩ := HSM.out.get HG1.out.bl k hlt
     subst hae
     obtain ⟨m, hm⟩ : ∃ m, m = ms[k] := ⟨_, rfl⟩
     have HMI : Hid (m ∈ ms) := by unfold Hid; rw [hm]; exact List.getElem_mem hlt
     have hk2 := HFW.out m HMI.out
     have HCS : Hid (∀ out, ClP A B ms k out0 out → ClL A B m.name m.frm.length out0 out → ClP A B ms (k + 1) out0 out) := fun out h1 h2 i hi hij => by
      by_cases e : i = k
      ·subst e; rw [← hm]; exact h2
      ·exact h1 i hi (by omega)
     rw [← hm] at d0 d1 d2
     have hpl := hpf.len.1
     obtain ⟨kk, hkk⟩ : ∃ kk, kk = m.frm.length := ⟨_, rfl⟩
     have HKK := hide hkk
     have HKP : Hid (∀ w', Below wN.heap.size wN w' → w'.cell? ⟨b, o + k * 3, none⟩ = some (.string m.name)) := fun w' hb => by
      obtain ⟨b9, o9, a9, c9, e9, _, q0, _⟩ := HSM.out.get hb k hlt
      cases e9
      rw [hm]
      exact q0
     have hplk : kk ≤ 9223372036854775807 := by omega
     rw [← hkk] at d1 hk2
     clear hm hpf hpl hkk d2
     go_upto_region 12 with fail
     clear d1 d0
     by_cases hz : 0 < kk ∧ out1.length = 0
     ·have hk0 : (0 : Int) < (kk : Int) := by omega
      have hk2i : ¬ (2 : Int) < (kk : Int) := by omega
      have hn0 : (out1.length : Int) = 0 := by omega
      have hn0b : ((out1.length : Int) == 0) = true := by simpa using hn0
      have HVN : Hid (ClL A B m.name m.frm.length out0 out1) := fun l hl hx => by
       have h1 : out0 = [] := by
        have := HPRE.out.length_le
        exact List.length_eq_zero_iff.1 (by omega)
       cases l with
       | nil => simp at hl; have := HKK.out; omega
       | cons x l => have := hx x (by simp); rw [h1] at this; cases this
      go_wp2_with fail
      go_roundw
      case rel => exact ⟨out1, ag1, k + 1, rfl, by go_num, by omega, HG1.out, HP1.out, HPRE.out, HNO.out, HYES.out, HCS.out _ HCL.out HVN.out⟩
      case measure => simp [intOf]; omega
     ·go_cut [49] (fun v w' => v = .bool false ∧ w' = w6)
      case first =>
       have hk2i : ¬ (2 : Int) < (kk : Int) := by omega
       by_cases hk0 : (0 : Int) < (kk : Int)
       ·have hn0 : ¬ (out1.length : Int) = 0 := by omega
        have hn0b : ((out1.length : Int) == 0) = false := by simpa using hn0
        go_wp2_with fail
        go_meet
        exact ⟨rfl, rfl⟩
       ·go_wp2_with fail
        go_meet
        exact ⟨rfl, rfl⟩
      case rest =>
       obtain ⟨rfl, hwc⟩ := hcut
       subst hwc
       obtain ⟨w6, hww⟩ : ∃ x, x = wc := ⟨_, rfl⟩
       subst hww
       obtain ⟨n, hn⟩ : ∃ n, n = out1.length := ⟨_, rfl⟩
       have HNN := hide hn
       have hn64 : n ≤ 64 := by omega
       have hnk : 0 < kk → 0 < n := fun h => by omega
       rw [← hn]
       clear hn hz
       go_upto_region 13 with fail
       go_wp2_with fail
       go_loopw [12, 13] (fun q i wr => ∃ j : Nat, j ≤ kk ∧ i = .int .i64 (j : Int) ∧ q = .int .i64 ((n ^ j : Nat) : Int) ∧ wr = w6) (fun q i wr => kk - (intOf i).toNat)
       case atStart => exact ⟨0, Nat.zero_le _, rfl, by simp, rfl⟩
       case round =>
        obtain ⟨j, hj, rfl, rfl, hwr⟩ := hrel
        subst hwr
        by_cases hlj : j < kk
        ·have hji : (j : Int) < (kk : Int) := by omega
         obtain ⟨P, hP⟩ : ∃ P : Nat, P = n ^ j := ⟨_, rfl⟩
         have hPb : P ≤ 4096 := by
          rw [hP]
          match j, (show j ≤ 2 by omega) with
          | 0, _ => simp
          | 1, _ => simp; omega
          | 2, _ => rw [Nat.pow_two]; have := Nat.mul_le_mul hn64 hn64; omega
         have HPS : Hid (P * n = n ^ (j + 1)) := by unfold Hid; rw [hP, Nat.pow_succ]
         have hPn : P * n ≤ 4096 * 64 := Nat.mul_le_mul hPb hn64
         have hwp : IntKind.i64.wrap ((P : Int) * (n : Int)) = ((P * n : Nat) : Int) := by
          rw [IntKind.wrap_i64, ← Int.natCast_mul]
          generalize P * n = Q at *
          omega
         rw [← hP]
         clear hP
         go_wp2_with fail
         try rw [hwp]
         go_roundw
         case rel => exact ⟨j + 1, by omega, by go_num, by rw [← HPS.out, Int.natCast_mul], by trivial⟩
         case measure => simp [intOf]; omega
        ·have hji : ¬ (j : Int) < (kk : Int) := by omega
         have ej : j = kk := by omega
         subst ej
         obtain ⟨P, hP⟩ : ∃ P : Nat, P = n ^ j := ⟨_, rfl⟩
         have HPP := hide hP
         have hPb : P ≤ 4096 := by
          rw [hP]
          match j, hk2 with
          | 0, _ => simp
          | 1, _ => simp; omega
          | 2, _ => rw [Nat.pow_two]; have := Nat.mul_le_mul hn64 hn64; omega
         rw [← hP]
         clear hP
         obtain ⟨w6, hww⟩ : ∃ x, x = wr := ⟨_, rfl⟩
         subst hww
         go_wp2_with fail
         go_loopw [5, 6, 8, 14] (fun ov ev ag cv wr => G4I A B wN out0 out1 m.name j ov ev ag cv wr) (fun ov ev ag cv wr => P - (intOf cv).toNat)
         case atStart => exact ⟨out1, ag1, 0, rfl, rfl, Nat.zero_le _, by rw [HNN.out]; exact HG1.out, HP1.out, List.prefix_refl _, HNO.out, HYES.out, fun c hc => absurd hc (by omega)⟩
         case round =>
          obtain ⟨out, ag2, c, rfl, rfl, hc, hG2, hP2, hpre2, hno2, hyes2, hdo⟩ := hrel.ex
          have HG2 := hide hG2
          have HP2 := hide hP2
          have HPRE2 := hide hpre2
          have HNO2 := hide hno2
          have HYES2 := hide hyes2
          have HDO := hide hdo
          have HC2 := hide hc
          have h642 := hP2.len HS3.out.1 HS3.out.2
          obtain ⟨⟨oa2, oc2, rfl⟩, ea2, ec2, hee⟩ := hG2.shape
          obtain ⟨en2, hen⟩ : ∃ en, en = (out.map (keyT A B)).length := ⟨_, rfl⟩
          have HEN2 : Hid (en2 = out.length) := by rw [hen]; simp [Hid]
          rw [← hen] at hee
          subst hee
          clear hG2 hP2 hpre2 hno2 hyes2 hdo hrel hen hc
          obtain ⟨w4, hw4⟩ : ∃ w4, w4 = wr := ⟨_, rfl⟩
          rw [← hw4] at HG2 ⊢
          clear hw4
          by_cases hlc : c < P
          ·have hci : (c : Int) < (P : Int) := by omega
           have d0 := HKP.out w4 HG2.out.bl
           have HCN : Hid (c < out1.length ^ j) := by rw [← HNN.out, ← HPP.out]; exact hlc
           obtain ⟨Z0, xs0, hR0, hZ0⟩ := HG2.out.ex
           obtain ⟨Z, hZE⟩ : ∃ Z : Nat → Prop, Z = fun b => Z0 b ∧ b < w4.heap.size := ⟨_, rfl⟩
           have HR : Hid (RowG w4 wN.heap.size Z (.slice oa2 out.length oc2) out xs0) := by rw [hZE]; exact hR0.mono fun b h1 h2 => ⟨h1, h2⟩
           have HZ : Hid (∀ b, Z b → (wN.heap.size ≤ b ∧ some b ≠ (Value.slice oa2 out.length oc2).ownBlock ∧ some b ≠ (Value.slice ea2 en2 ec2).ownBlock) ∧ b < w4.heap.size) := fun b hb => by rw [hZE] at hb; exact ⟨hZ0 b hb.1, hb.2⟩
           clear hR0 hZ0 hZE
           have BT := hide (one1 w4 (.cells #[.string m.name, .slice none 0 0] 30))
           have KT : Hid (Blk (w4.alloc (.cells #[.string m.name, .slice none 0 0] 30)) w4.heap.size #[.string m.name, .slice none 0 0] 30) := Blk.new _ _ _
           go_upto_region 22 with fail
           generalize (w4.alloc (.cells #[.string m.name, .slice none 0 0] 30)) = w5t at *
           obtain ⟨Tb, hTb⟩ : ∃ Tb, Tb = w4.heap.size := ⟨_, rfl⟩
           rw [← hTb] at KT ⊢
           have HTB := hide hTb
           clear hTb d0
           go_wp2_with fail
           go_loopw [16] (fun q wr => TjI out n c m.name Z Tb w4 q wr ∧ (intOf q).toNat ≤ j) (fun q wr => j - (intOf q).toNat)
           case atStart => exact ⟨⟨⟨0, .slice none 0 0, [], rfl, KT.out, RowG.start _ _ _⟩, BT.out, KT.out.lt⟩, by simp [intOf]⟩
           case round =>
            obtain ⟨⟨⟨jj, fv, xs, rfl, hT, hRG⟩, hbl8, hsz8⟩, hjj⟩ := hrel
            obtain ⟨w8, hw8⟩ : ∃ w8, w8 = wr := ⟨_, rfl⟩
            rw [← hw8] at hT hRG hbl8 hsz8 ⊢
            clear hw8
            have hjj2 : jj ≤ j := by simpa [intOf] using hjj
            have HT := hide hT
            have HRG := hide hRG
            have HB8 := hide hbl8
            clear hT hRG hbl8 hsz8 hjj
            by_cases hlj2 : jj < j
            ·have hjji : (jj : Int) < (j : Int) := by omega
             obtain ⟨i, hil, hie, ha1, -, -⟩ := argJ_at HPRE2.out hk2 hlj2 HCN.out
             rw [← HNN.out] at hie ha1
             have hnp : 0 < n := hnk (by omega)
             obtain ⟨og, ax, cx, hoe, e0, e1, hsx, hogl⟩ := rowG_at HR.out hil
             obtain ⟨z, hz⟩ : ∃ z, z = out[i] := ⟨_, rfl⟩
             rw [← hz] at e0 e1 hsx ha1
             clear hz
             subst hoe
             have hii : (i : Int) < (out.length : Int) := by omega
             have hwi : IntKind.i64.wrap (i : Int) = (i : Int) := by rw [IntKind.wrap_i64]; omega
             have HAJ := hide ha1
             have HSX := hide hsx
             clear ha1 hsx
             obtain ⟨fa, fn, fc, hfv⟩ : ∃ fa fn fc, fv = .slice fa fn fc := by obtain ⟨fa, fc, h9⟩ := HRG.out.shape; exact ⟨_, _, _, h9⟩
             subst hfv
             have hd8 : Below w4.heap.size w4 w8.drew := HB8.out.drew
             obtain ⟨g, cap, w9, hr9, hT9, hb9, hN9⟩ := TjI.next (cx := cx) (w8 := w8.drew) (z := z) HT.out ((HRG.out).below ((Below.refl w8.heap.size w8).drew)) hd8 HTB.out (fun b hb => (HZ.out b hb).2) (HSX.out.later hd8) HAJ.out (by omega)
             have HRUN := hide hr9
             have HT9 := hide hT9
             have HB9 := hide hb9
             have HN9 := hide hN9
             have KPO : Hid (∀ w', Below w4.heap.size w4 w' → w'.cell? ⟨og, i * 2, none⟩ = some (.string z.name) ∧ w'.cell? ⟨og, i * 2 + 1, none⟩ = some (.slice ax z.args.length cx)) := fun w' hb => ⟨(hb.cell (p := ⟨og, i * 2, none⟩) hogl).trans e0, (hb.cell (p := ⟨og, i * 2 + 1, none⟩) hogl).trans e1⟩
             have t1 : w8.drew.cell? ⟨Tb, 1, none⟩ = some (.slice fa fn fc) := HT.out.cell 1
             have t1a : (w8.drew.alloc (.cells #[.string z.name, .slice ax z.args.length cx] 30)).cell? ⟨Tb, 1, none⟩ = some (.slice fa fn fc) := (show Blk w8.drew Tb #[.string m.name, .slice fa fn fc] 30 from HT.out).alloc _ |>.cell 1
             have hb8a : Below w4.heap.size w4 (w8.drew.alloc (.cells #[.string z.name, .slice ax z.args.length cx] 30)) := hd8.alloc hd8.size _
             have tf : w9.frozen? ⟨Tb, 1, none⟩ = false := HT9.out.frozen 1
             have tc : w9.cell? ⟨Tb, 1, none⟩ = some (.slice fa fn fc) := HT9.out.cell 1
             have tl : Tb < w9.heap.size := HT9.out.lt
             have HBS := hide HN9.out.bl
             clear hr9 hT9 hb9 hN9 e0 e1 hil
             by_cases hj0 : jj = 0
             ·subst hj0
              rw [if_pos rfl] at hie
              have hrm : (c : Int).tmod (n : Int) = (i : Int) := by rw [hie]; exact (Int.ofNat_tmod c n).symm
              have hnz : ¬ n = 0 := by omega
              have HNX : Hid (TjI out n c m.name Z Tb w4 (.int .i64 1) (w9.setCell ⟨Tb, 1, none⟩ (.slice (some ⟨g, 0, none⟩) (0 + 1) cap))) := HN9.out
              clear hie
              go_upto_region 26 with fail
              refine wp_region_held_drew (S := Below w4.heap.size w4) (by kernel_rfl) hd8 (fun hHeld => ?_)
              generalize w8.drew = w8d at *
              refine tkq (v := ?_) 0 rfl ?_ ?_
              rotate_left
              ·intro w' hSw
               go_simp <;> with_reducible rfl
              try simp only [Act.put, sqA, sqB, sqC, sqD, sqE, sqF]
              refine tkq (v := ?_) 2 rfl ?_ ?_
              rotate_left
              ·intro w' hSw
               go_simp <;> with_reducible rfl
              try simp only [Act.put, sqA, sqB, sqC, sqD, sqE, sqF]
              refine tkq (v := ?_) 3 rfl ?_ ?_
              rotate_left
              ·intro w' hSw
               go_simp <;> with_reducible rfl
              try simp only [Act.put, sqA, sqB, sqC, sqD, sqE, sqF]
              refine tkq (v := ?_) 4 rfl ?_ ?_
              rotate_left
              ·intro w' hSw
               go_simp <;> with_reducible rfl
              try simp only [Act.put, sqA, sqB, sqC, sqD, sqE, sqF]
              refine tkq (v := ?_) 5 rfl ?_ ?_
              rotate_left
              ·intro w' hSw
               go_simp <;> with_reducible rfl
              try simp only [Act.put, sqA, sqB, sqC, sqD, sqE, sqF]
              refine tkq (v := ?_) 6 rfl ?_ ?_
              rotate_left
              ·intro w' hSw
               go_simp <;> with_reducible rfl
              try simp only [Act.put, sqA, sqB, sqC, sqD, sqE, sqF]
              refine tkq (v := ?_) 7 rfl ?_ ?_
              rotate_left
              ·intro w' hSw
               obtain ⟨x0, x1⟩ := KPO.out w' hSw
               go_simp <;> with_reducible rfl
              try simp only [Act.put, sqA, sqB, sqC, sqD, sqE, sqF]
              refine wpAnyH_ready (rs := [1, 8]) (by kernel_rfl) (by simp) ?_
              refine AllReadyH.cons rfl (fun K hK => ?_) (AllReadyH.cons rfl (fun K hK => ?_) AllReadyH.nil)
              ·go_simp
               refine hK.out _ _ (by exact hd8) (fun hHeld => ?_)
               clear hK K
               try simp only [Act.put, sqA, sqB, sqC, sqD, sqE, sqF]
               refine rdq 8 rfl fun K hK => ?_
               go_simp
               refine hK.out _ _ (by exact hb8a) (fun hHeld => ?_)
               clear hK K
               try simp only [Act.put, sqA, sqB, sqC, sqD, sqE, sqF]
               refine rdq 9 rfl fun K hK => ?_
               refine step_append_eqM rfl _ _ _ _ rfl rfl rfl HRUN.out ?_
               refine hK.out _ _ (by exact HB9.out) (fun hHeld => ?_)
               clear hK K
               try simp only [Act.put, sqA, sqB, sqC, sqD, sqE, sqF]
               refine tkq (v := ?_) 10 rfl ?_ ?_
               rotate_left
               ·intro w' hSw
                go_simp <;> with_reducible rfl
               try simp only [Act.put, sqA, sqB, sqC, sqD, sqE, sqF]
               refine rdq 11 rfl fun K hK => ?_
               go_simp
               refine hK.out _ _ (by exact HBS.out) (fun hHeld => ?_)
               clear hK K
               try simp only [Act.put, sqA, sqB, sqC, sqD, sqE, sqF]
               refine wpAnyH_done (by kernel_rfl) ?_ _
               clear hHeld t1 t1a tf tc tl
               go_wp2_with fail
               go_roundw
               case rel => exact ⟨by simpa using HNX.out, by simp [intOf]; omega⟩
               case measure => simp [intOf]; omega
              ·go_simp
               refine hK.out _ _ (by exact hb8a) (fun hHeld => ?_)
               clear hK K
               try simp only [Act.put, sqA, sqB, sqC, sqD, sqE, sqF]
               refine rdq 1 rfl fun K hK => ?_
               go_simp
               refine hK.out _ _ (by exact hb8a) (fun hHeld => ?_)
               clear hK K
               try simp only [Act.put, sqA, sqB, sqC, sqD, sqE, sqF]
               refine rdq 9 rfl fun K hK => ?_
               refine step_append_eqM rfl _ _ _ _ rfl rfl rfl HRUN.out ?_
               refine hK.out _ _ (by exact HB9.out) (fun hHeld => ?_)
               clear hK K
               try simp only [Act.put, sqA, sqB, sqC, sqD, sqE, sqF]
               refine tkq (v := ?_) 10 rfl ?_ ?_
               rotate_left
               ·intro w' hSw
                go_simp <;> with_reducible rfl
               try simp only [Act.put, sqA, sqB, sqC, sqD, sqE, sqF]
               refine rdq 11 rfl fun K hK => ?_
               go_simp
               refine hK.out _ _ (by exact HBS.out) (fun hHeld => ?_)
               clear hK K
               try simp only [Act.put, sqA, sqB, sqC, sqD, sqE, sqF]
               refine wpAnyH_done (by kernel_rfl) ?_ _
               clear hHeld t1 t1a tf tc tl
               go_wp2_with fail
               go_roundw
               case rel => exact ⟨by simpa using HNX.out, by simp [intOf]; omega⟩
               case measure => simp [intOf]; omega
             ·rw [if_neg hj0] at hie
              have hqt : (c : Int).tdiv (n : Int) = (i : Int) := by rw [hie]; exact (Int.ofNat_tdiv c n).symm
              have hnz : ¬ n = 0 := by omega
              have hj0i : ¬ (jj : Int) = 0 := by omega
              have hj0b : ((jj : Int) == 0) = false := by simpa using hj0
              have HNX : Hid (TjI out n c m.name Z Tb w4 (.int .i64 ((jj : Int) + 1)) (w9.setCell ⟨Tb, 1, none⟩ (.slice (some ⟨g, 0, none⟩) (jj + 1) cap))) := HN9.out
              clear hie hj0
              go_upto_region 27 with fail
              refine wp_region_held_drew (S := Below w4.heap.size w4) (by kernel_rfl) hd8 (fun hHeld => ?_)
              generalize w8.drew = w8d at *
              refine tkq (v := ?_) 0 rfl ?_ ?_
              rotate_left
              ·intro w' hSw
               go_simp <;> with_reducible rfl
              try simp only [Act.put, sqA, sqB, sqC, sqD, sqE, sqF]
              refine tkq (v := ?_) 2 rfl ?_ ?_
              rotate_left
              ·intro w' hSw
               go_simp <;> with_reducible rfl
              try simp only [Act.put, sqA, sqB, sqC, sqD, sqE, sqF]
              refine tkq (v := ?_) 3 rfl ?_ ?_
              rotate_left
              ·intro w' hSw
               go_simp <;> with_reducible rfl
              try simp only [Act.put, sqA, sqB, sqC, sqD, sqE, sqF]
              refine tkq (v := ?_) 4 rfl ?_ ?_
              rotate_left
              ·intro w' hSw
               go_simp <;> with_reducible rfl
              try simp only [Act.put, sqA, sqB, sqC, sqD, sqE, sqF]
              refine tkq (v := ?_) 5 rfl ?_ ?_
              rotate_left
              ·intro w' hSw
               go_simp <;> with_reducible rfl
              try simp only [Act.put, sqA, sqB, sqC, sqD, sqE, sqF]
              refine tkq (v := ?_) 6 rfl ?_ ?_
              rotate_left
              ·intro w' hSw
               go_simp <;> with_reducible rfl
              try simp only [Act.put, sqA, sqB, sqC, sqD, sqE, sqF]
              refine tkq (v := ?_) 7 rfl ?_ ?_
              rotate_left
              ·intro w' hSw
               obtain ⟨x0, x1⟩ := KPO.out w' hSw
               go_simp <;> with_reducible rfl
              try simp only [Act.put, sqA, sqB, sqC, sqD, sqE, sqF]
              refine wpAnyH_ready (rs := [1, 8]) (by kernel_rfl) (by simp) ?_
              refine AllReadyH.cons rfl (fun K hK => ?_) (AllReadyH.cons rfl (fun K hK => ?_) AllReadyH.nil)
              ·go_simp
               refine hK.out _ _ (by exact hd8) (fun hHeld => ?_)
               clear hK K
               try simp only [Act.put, sqA, sqB, sqC, sqD, sqE, sqF]
               refine rdq 8 rfl fun K hK => ?_
               go_simp
               refine hK.out _ _ (by exact hb8a) (fun hHeld => ?_)
               clear hK K
               try simp only [Act.put, sqA, sqB, sqC, sqD, sqE, sqF]
               refine rdq 9 rfl fun K hK => ?_
               refine step_append_eqM rfl _ _ _ _ rfl rfl rfl HRUN.out ?_
               refine hK.out _ _ (by exact HB9.out) (fun hHeld => ?_)
               clear hK K
               try simp only [Act.put, sqA, sqB, sqC, sqD, sqE, sqF]
               refine tkq (v := ?_) 10 rfl ?_ ?_
               rotate_left
               ·intro w' hSw
                go_simp <;> with_reducible rfl
               try simp only [Act.put, sqA, sqB, sqC, sqD, sqE, sqF]
               refine rdq 11 rfl fun K hK => ?_
               go_simp
               refine hK.out _ _ (by exact HBS.out) (fun hHeld => ?_)
               clear hK K
               try simp only [Act.put, sqA, sqB, sqC, sqD, sqE, sqF]
               refine wpAnyH_done (by kernel_rfl) ?_ _
               clear hHeld t1 t1a tf tc tl
               go_wp2_with fail
               go_roundw
               case rel => exact ⟨by simpa using HNX.out, by simp [intOf]; omega⟩
               case measure => simp [intOf]; omega
              ·go_simp
               refine hK.out _ _ (by exact hb8a) (fun hHeld => ?_)
               clear hK K
               try simp only [Act.put, sqA, sqB, sqC, sqD, sqE, sqF]
               refine rdq 1 rfl fun K hK => ?_
               go_simp
               refine hK.out _ _ (by exact hb8a) (fun hHeld => ?_)
               clear hK K
               try simp only [Act.put, sqA, sqB, sqC, sqD, sqE, sqF]
               refine rdq 9 rfl fun K hK => ?_
               refine step_append_eqM rfl _ _ _ _ rfl rfl rfl HRUN.out ?_
               refine hK.out _ _ (by exact HB9.out) (fun hHeld => ?_)
               clear hK K
               try simp only [Act.put, sqA, sqB, sqC, sqD, sqE, sqF]
               refine tkq (v := ?_) 10 rfl ?_ ?_
               rotate_left
               ·intro w' hSw
                go_simp <;> with_reducible rfl
               try simp only [Act.put, sqA, sqB, sqC, sqD, sqE, sqF]
               refine rdq 11 rfl fun K hK => ?_
               go_simp
               refine hK.out _ _ (by exact HBS.out) (fun hHeld => ?_)
               clear hK K
               try simp only [Act.put, sqA, sqB, sqC, sqD, sqE, sqF]
               refine wpAnyH_done (by kernel_rfl) ?_ _
               clear hHeld t1 t1a tf tc tl
               go_wp2_with fail
               go_roundw
               case rel => exact ⟨by simpa using HNX.out, by simp [intOf]; omega⟩
               case measure => simp [intOf]; omega
            ·have hjji : ¬ (jj : Int) < (j : Int) := by omega
             have ejj : jj = j := by omega
             subst ejj
             obtain ⟨fa, fc, hfv⟩ := HRG.out.shape
             rw [argsC_len] at hfv
             subst hfv
             obtain ⟨l, hl⟩ : ∃ l, l = argsC out n c jj := ⟨_, rfl⟩
             have hll : l.length = jj := by rw [hl, argsC_len]
             have HLE : Hid (l = argsC out1 out1.length c jj) := by unfold Hid; rw [hl, HNN.out]; exact argsC_pre HPRE2.out hk2 HCN.out
             have HLI : Hid (∀ x ∈ l, x ∈ out1) := fun x hx => by have e := HLE.out; rw [e] at hx; exact argsC_in hk2 HCN.out x hx
             have HSL : Hid (Sl w8 (fun b => Z b ∨ w4.heap.size ≤ b) fa l) := by
              have h0 := HRG.out
              rw [← hl] at h0
              have h1 : RowG w8 (Tb + 1) Z (.slice fa l.length fc) l xs := by rw [hll]; exact h0
              have hlt := h1.own.lt
              have := HTB.out
              exact h1.sl.mono fun b hb _ => hb.imp id fun e => by have := (hlt b e).1; omega
             clear hl
             obtain ⟨t, ht⟩ : ∃ t : Tm, t = ⟨m.name, l⟩ := ⟨_, rfl⟩
             have HW : Hid (Wid t) := by unfold Hid; rw [ht]; exact Wid.mk (by omega) fun x hx => HP1.out.wid x (HLI.out x hx)
             have HSY : Hid (SymT (A.mv ++ B.mv) t) := by unfold Hid; rw [ht]; exact SymT.mk m (by rw [← HMM.out]; exact HMI.out) rfl (by rw [hll]; exact HKK.out.symm) fun x hx => HP1.out.sym x (HLI.out x hx)
             have HTE : Hid (t = ⟨m.name, argsC out1 out1.length c jj⟩) := by unfold Hid; rw [ht, ← HLE.out]
             have HTV : Hid (∀ w', Below w8.heap.size w8 w' → TV w' (fun _ => True) (.agg #[.string m.name, .slice fa jj fc]) t) := fun w' hb => by
              rw [ht]
              exact ⟨fa, fc, by rw [← hll], (HSL.out.later hb).mono fun _ _ _ => trivial⟩
             have hUP : Below wN.heap.size wN w8 := HG2.out.bl.trans (HB8.out.mono HG2.out.bl.size)
             have UP : Hid (∀ w', Below w8.heap.size w8 w' → Below w.heap.size w w') := fun w' hb => BN.out.trans ((hUP.trans (hb.mono hUP.size)).mono BN.out.size)
             have KPS : Hid (∀ w', Below w8.heap.size w8 w' → Blk w' w.heap.size #[.int .i64 A.st, .slice am A.mv.length an, .slice al A.la.length ao] 25 ∧ Blk w' (w.heap.size + 1) #[.int .i64 B.st, .slice bm B.mv.length bn, .slice bl B.la.length bo] 25 ∧ Blk w' Tb #[.string m.name, .slice fa jj fc] 30) := fun w' hb => by
              have h1 := hUP.trans (hb.mono hUP.size)
              exact ⟨KAN.out.below h1 KAN.out.lt, KBN.out.below h1 KBN.out.lt, HT.out.below hb HT.out.lt⟩
             have HTS := hide ht
             have HUP := hide hUP
             clear ht hUP HLI HLE
             obtain ⟨nA, hnA⟩ : ∃ nA : Nat, A.st = (nA : Int) := ⟨A.st.toNat, by have := OA.out.pos; omega⟩
             obtain ⟨nB, hnB⟩ : ∃ nB : Nat, B.st = (nB : Int) := ⟨B.st.toNat, by have := OB.out.pos; omega⟩
             have HNA := hide hnA
             have HNB := hide hnB
             have hAl : (endT A t).length ≤ 3 := by rw [endT_len]; have := HS3.out.1; omega
             have hBl : (endT B t).length ≤ 3 := by rw [endT_len]; have := HS3.out.2; omega
             have kA : (tldB (endT A t)).size ≤ 3 := by rw [tldB_size]; exact hAl
             have kB : (tldB (endT B t)).size ≤ 3 := by rw [tldB_size]; exact hBl
             have kAB : (tldB (endT A t) ++ (⟨#[124]⟩ : ByteArray)).size ≤ 4 := by rw [ByteArray.size_append]; show (tldB (endT A t)).size + 1 ≤ 4; omega
             have HKE : Hid (keyT A B t = tldB (endT A t) ++ ⟨#[124]⟩ ++ tldB (endT B t)) := rfl
             have HTA : Hid (∀ v w X, LV Value.bool w X v (endT A t) → Calls Try.prog 54 #[v] w fun e w' => e = .returned (.string (tldB (endT A t))) ∧ w' = w) := fun v w X h => told_any _ (by omega) v w X h
             have HTBB : Hid (∀ v w X, LV Value.bool w X v (endT B t) → Calls Try.prog 54 #[v] w fun e w' => e = .returned (.string (tldB (endT B t))) ∧ w' = w) := fun v w X h => told_any _ (by omega) v w X h
             generalize tldB (endT A t) = sA at kA kAB HKE HTA
             generalize tldB (endT B t) = sB at kB HKE HTBB
             clear hAl hBl hnA hnB
             have hkd : Below w8.heap.size w8 w8.drew := (Below.refl _ _).drew
             go_upto_region 28 with fail
             refine wp_region_held_drew (S := Below w8.heap.size w8) (by kernel_rfl) hkd (fun hHeld => ?_)
             generalize w8.drew = w8d at *
             refine tkq (v := ?_) 0 rfl ?_ ?_
             rotate_left
             ·intro w' hSw
              obtain ⟨ba, bb, bt⟩ := KPS.out w' hSw
              have x0 := ba.cell 0
              have x1 := ba.cell 1
              have x2 := ba.cell 2
              clear ba bb bt
              go_simp <;> with_reducible rfl
             try simp only [Act.put, sqA, sqB, sqC, sqD, sqE, sqF]
             refine tkq (v := ?_) 1 rfl ?_ ?_
             rotate_left
             ·intro w' hSw
              obtain ⟨ba, bb, bt⟩ := KPS.out w' hSw
              have x0 := bt.cell 0
              have x1 := bt.cell 1
              clear ba bb bt
              go_simp <;> with_reducible rfl
             try simp only [Act.put, sqA, sqB, sqC, sqD, sqE, sqF]
             refine tkq (v := ?_) 5 rfl ?_ ?_
             rotate_left
             ·intro w' hSw
              obtain ⟨ba, bb, bt⟩ := KPS.out w' hSw
              have x0 := bb.cell 0
              have x1 := bb.cell 1
              have x2 := bb.cell 2
              clear ba bb bt
              go_simp <;> with_reducible rfl
             try simp only [Act.put, sqA, sqB, sqC, sqD, sqE, sqF]
             refine tkq (v := ?_) 6 rfl ?_ ?_
             rotate_left
             ·intro w' hSw
              obtain ⟨ba, bb, bt⟩ := KPS.out w' hSw
              have x0 := bt.cell 0
              have x1 := bt.cell 1
              clear ba bb bt
              go_simp <;> with_reducible rfl
             try simp only [Act.put, sqA, sqB, sqC, sqD, sqE, sqF]
             refine rdq 2 rfl fun K hK => ?_
             go_simp
             go_at_call 36
             refine (endsInW_any A (S := 8) (M := 40) (by omega) (by omega) OA.out nA HNA.out t _ _ _ _ HW.out (AVW.out _ (UP.out _ hkd)) (HTV.out _ hkd)).mono ?_
             rintro e wC ⟨ca, cc, rfl, hlC, hbC⟩
             have hBC := hkd.trans (hbC.mono hkd.size)
             go_simp
             refine hK.out _ _ (by exact hBC) (fun hHeld => ?_)
             clear hK K
             try simp only [Act.put, sqA, sqB, sqC, sqD, sqE, sqF]
             refine rdq 3 rfl fun K hK => ?_
             go_simp
             go_at_call 54
             refine (HTA.out _ _ _ hlC).mono ?_
             rintro e wc2 ⟨rfl, hw2⟩
             obtain rfl := hw2.symm
             go_simp
             refine hK.out _ _ (by exact hBC) (fun hHeld => ?_)
             clear hK K
             try simp only [Act.put, sqA, sqB, sqC, sqD, sqE, sqF]
             refine tkq (v := ?_) 4 rfl ?_ ?_
             rotate_left
             ·intro w' hSw
              go_simp
              rw [if_neg (show ¬ 9223372036854775807 < sA.size + 1 by omega)]
             try simp only [Act.put, sqA, sqB, sqC, sqD, sqE, sqF]
             refine rdq 7 rfl fun K hK => ?_
             go_simp
             go_at_call 36
             refine (endsInW_any B (S := 8) (M := 40) (by omega) (by omega) OB.out nB HNB.out t _ _ _ _ HW.out (BVW.out _ (UP.out _ hBC)) (HTV.out _ hBC)).mono ?_
             rintro e wD ⟨da, dc, rfl, hlD, hbD⟩
             have hBD := hBC.trans (hbD.mono hBC.size)
             go_simp
             refine hK.out _ _ (by exact hBD) (fun hHeld => ?_)
             clear hK K
             try simp only [Act.put, sqA, sqB, sqC, sqD, sqE, sqF]
             refine rdq 8 rfl fun K hK => ?_
             go_simp
             go_at_call 54
             refine (HTBB.out _ _ _ hlD).mono ?_
             rintro e wd2 ⟨rfl, hw2⟩
             obtain rfl := hw2.symm
             go_simp
             refine hK.out _ _ (by exact hBD) (fun hHeld => ?_)
             clear hK K
             try simp only [Act.put, sqA, sqB, sqC, sqD, sqE, sqF]
             refine tkq (v := ?_) 9 rfl ?_ ?_
             rotate_left
             ·intro w' hSw
              go_simp
              rw [if_neg (show ¬ 9223372036854775807 < sA.size + 1 + sB.size by omega)]
             try simp only [Act.put, sqA, sqB, sqC, sqD, sqE, sqF]
             refine tkq (v := ?_) 10 rfl ?_ ?_
             rotate_left
             ·intro w' hSw
              go_simp <;> with_reducible rfl
             try simp only [Act.put, sqA, sqB, sqC, sqD, sqE, sqF]
             refine wpAnyH_done (by kernel_rfl) ?_ _
             have HLV : Hid (LV Value.string wD (fun b => wN.heap.size ≤ b) (.slice ea2 en2 ec2) (out.map (keyT A B))) := by
              refine LV.of_own (ownsRow_at HG2.out.es fun g hg => ?_)
              have h1 := (HG2.out.es.lt g hg).2
              have h2 := HB8.out.trans (hBD.mono HB8.out.size)
              exact h2.block g h1
             have HBD : Hid (Below w8.heap.size w8 wD) := hBD
             clear hBD hHeld
             rw [← HKE.out]
             obtain ⟨e, he⟩ : ∃ e, e = keyT A B t := ⟨_, rfl⟩
             rw [← he]
             have HE := hide he
             clear he
             cases hin : inB e (out.map (keyT A B)) with
             | true =>
              have HIN := hide hin
              clear hin
              have HCALL : Hid (Calls Try.prog 34 #[.string e, .slice ea2 en2 ec2] wD fun e w' => e = .returned (.bool true) ∧ w' = wD) := by have h := in_any e _ _ _ _ HLV.out; rw [HIN.out] at h; exact h
              have HDN : Hid (DoC A B m.name jj out1 (c + 1) out) := fun c' hc' => by
               by_cases h : c' < c
               ·exact HDO.out c' h
               ·have e9 : c' = c := by omega
                subst e9
                obtain ⟨t', ht', h9⟩ := List.mem_map.1 (inB_memG.1 HIN.out)
                refine ⟨t', ht', ?_⟩
                rw [← HTE.out]
                exact key_iff.1 (h9.trans HE.out)
              have HGN : Hid (GdM A B wN out (.slice oa2 out.length oc2) (.slice ea2 en2 ec2) wD) := HG2.out.later (HB8.out.trans (HBD.out.mono HB8.out.size))
              go_wp2_with (go_at_call 34; refine HCALL.out.mono ?_; rintro e9 w9 ⟨rfl, hw9⟩; rw [hw9])
              go_roundw
              case rel => exact ⟨out, ag2, c + 1, rfl, by go_num, by have := HCN.out; omega, HGN.out, HP2.out, HPRE2.out, HNO2.out, HYES2.out, HDN.out⟩
              case measure => simp [intOf]; omega
             | false =>
              have HIN := hide hin
              clear hin
              have HCALL : Hid (Calls Try.prog 34 #[.string e, .slice ea2 en2 ec2] wD fun e w' => e = .returned (.bool false) ∧ w' = wD) := by have h := in_any e _ _ _ _ HLV.out; rw [HIN.out] at h; exact h
              have hb7 : Below w4.heap.size w4 wD := HB8.out.trans (HBD.out.mono HB8.out.size)
              have ea : t.args = l := by rw [HTS.out]
              obtain ⟨g, cap, wE, g2, cap2, wF, hr8, hr9, hx8, hGn⟩ := GdM.push (t := t) (a1 := fa) (c1 := fc) HG2.out HR.out HZ.out hb7 (by rw [ea]; exact HSL.out.later HBD.out) (by omega)
              have e1 : t.name = m.name := by rw [HTS.out]
              have e2 : t.args.length = jj := by rw [ea]; exact hll
              rw [e1, e2] at hr9
              rw [← HE.out] at hr8
              have HR8 := hide hr8
              have HR9 := hide hr9
              have HGN := hide hGn
              have hTD := (KPS.out wD HBD.out).2.2
              have hTl := hTD.lt
              have hTE : Blk wE Tb #[.string m.name, .slice fa jj fc] 30 := by
               have h9 := hx8 Tb (by have := HTB.out; omega) hTl
               unfold Blk at hTD ⊢
               rw [h9]
               exact hTD
              have x0 := hTE.cell 0
              have x1 := hTE.cell 1
              have HDN : Hid (DoC A B m.name jj out1 (c + 1) (out ++ [t])) := fun c' hc' => by
               by_cases h : c' < c
               ·obtain ⟨t', h1, h2⟩ := HDO.out c' h
                exact ⟨t', List.mem_append_left _ h1, h2⟩
               ·have e9 : c' = c := by omega
                subst e9
                refine ⟨t, by simp, ?_⟩
                rw [← HTE.out]
                exact ⟨rfl, rfl⟩
              have HPN : Hid (GsP A B (out ++ [t])) := HP2.out.add HSY.out HW.out fun h => by
               rw [← HE.out] at h
               have h1 := inB_memG.2 h
               rw [HIN.out] at h1
               cases h1
              have HLN : Hid (out0.length < (out ++ [t]).length) := by have h1 := HPRE.out.length_le; have h2 := HPRE2.out.length_le; simp [Hid]; omega
              have HXN : Hid (out1 <+: out ++ [t]) := HPRE2.out.trans (List.prefix_append _ _)
              have HGN2 : Hid (GdM A B wN (out ++ [t]) (.slice (some ⟨g2, 0, none⟩) (out.length + 1) cap2) (.slice (some ⟨g, 0, none⟩) (out.length + 1) cap) wF) := HGN.out
              clear hr8 hr9 hx8 hGn hTD hTE hb7 HGN
              go_wp2_with (first | (at_builtin; refine wpList_append_eq rfl _ _ _ _ rfl rfl rfl HR8.out ?_) | (at_builtin; refine wpList_append_eq rfl _ _ _ _ rfl rfl rfl HR9.out ?_) | (go_at_call 34; refine HCALL.out.mono ?_; rintro e9 w9 ⟨rfl, hw9⟩; rw [hw9]))
              go_roundw
              case rel => exact ⟨out ++ [t], true, c + 1, rfl, by go_num, by have := HCN.out; omega, HGN2.out, HPN.out, HXN.out, (fun h => by cases h), fun _ => HLN.out, HDN.out⟩
              case measure => simp [intOf]; omega
          ·have hci : ¬ (c : Int) < (P : Int) := by omega
           have HCL4 : Hid (ClP A B ms (k + 1) out0 out) := by
            refine HCS.out out (HCL.out.mono HPRE2.out) ?_
            have ec : c = out1.length ^ j := by have h1 := HC2.out; have h2 := HPP.out; have h3 := HNN.out; rw [h3] at h2; omega
            have h4 := HDO.out
            rw [ec] at h4
            have h5 := DoC.all hk2 h4
            rw [← HKK.out]
            intro l hl hx
            exact h5 l hl fun x hx2 => HPRE.out.subset (hx x hx2)
           go_wp2_with fail
           go_roundw
           case rel => exact ⟨out, ag2, k + 1, rfl, by go_num, by omega, HG2.out, HP2.out, List.IsPrefix.trans HPRE.out HPRE2.out, HNO2.out, HYES2.out, HCL4.out⟩
           case measure => simp [intOf]; omega
    ·have hki : ¬ (k : Int) < (ms.length : Int) := by omega
     have ek : k = ms.length := by omega
     have HCF : Hid (ag1 = false → ClP A B ms ms.length out1 out1) := fun h => by
      have e := HNO.out h
      have h2 := HCL.out
      rw [ek, ← e] at h2
      exact h2
     have HME : Hid (boV (.bool ag1) = 1 → out0.length < out1.length) := fun h => HYES.out (by cases ag1 with | true => rfl | false => simp [boV] at h)
     clear ek
     go_wp2_with fail
     go_roundw
     case rel => exact ⟨out1, ag1, rfl, HG1.out, HP1.out, HCF.out⟩
     case measure =>
      have h9 := HME.out
      cases ag1 with
      | true =>
       have h10 := h9 rfl
       simp [boV, lnV]
       omega
      | false => simp [boV, lnV]; omega
end Go.Proofs.Ytofebfjkodceeaa
