import Derived.Test.YtofebfjkodceeaaSq
import Derived.Test.YtofebfjkodceeaaZOAutoMadeOwn
import Derived.Test.YtofebfjkodceeaaAv4
namespace Go.Proofs.Ytofebfjkodceeaa
open Go.RowKit Go.Shelf
attribute [local go_sem] Oper.semAt_some
set_option linter.unusedSimpArgs false
set_option linter.unusedVariables false
set_option maxRecDepth 8000
def Rw1 (N B : Nat) (W : World) (v : Value) (l : List Nat) : Prop := (l = [] ∧ v = .slice none 0 0) ∨ ∃ g c, v = .slice (some ⟨g, 0, none⟩) l.length c ∧ (l.length ≤ c ∧ l.length ≤ 1000) ∧ g ≠ B ∧ N ≤ g ∧ ∀ i (h : i < l.length), W.cell? ⟨g, i, none⟩ = some (stV l[i])
theorem Rw1.lv {N B : Nat} {W : World} {v : Value} {l : List Nat} (h : Rw1 N B W v l) : LV stV W (fun b => b ≠ B) v l := by
 rcases h with ⟨rfl, rfl⟩ | ⟨g, c, rfl, hc, hg, _, h⟩
 ·exact ⟨none, 0, rfl, by simp, Or.inl rfl⟩
 ·exact ⟨_, c, rfl, ⟨by omega, hc.1⟩, Or.inr ⟨g, 0, rfl, hg, fun i hi => by rw [Nat.zero_add]; exact h i hi⟩⟩
theorem Rw1.kept {N B : Nat} {W W' : World} {v : Value} {l : List Nat} (h : Rw1 N B W v l) (hk : ∀ b, N ≤ b → v.ownBlock = some b → b ≠ B → ∀ i (hi : i < l.length), W.cell? ⟨b, i, none⟩ = some (stV l[i]) → W'.cell? ⟨b, i, none⟩ = some (stV l[i])) : Rw1 N B W' v l := by
 rcases h with h | ⟨g, c, rfl, hc, hg, hn, h⟩
 ·exact Or.inl h
 ·exact Or.inr ⟨g, c, rfl, hc, hg, hn, fun i hi => hk g hn rfl hg i hi (h i hi)⟩
theorem EnS.rw1 {N A S B : Nat} {W : World} {al : List Nat} {v : Value} (h : EnS N A S W al v) (hl : al.length ≤ 64) (hB : W.heap.size ≤ B) : Rw1 N B W v al := by
 have hlt := h.own.lt
 rcases id h.own.2 with ⟨hv, h0⟩ | ⟨g, cap, cur, hv, hg, _, hnc, _⟩
 ·exact Or.inl ⟨List.length_eq_zero_iff.1 h0, hv⟩
 ·subst hv
  have hc := h.own.cells (g := g) rfl
  exact Or.inr ⟨g, cap, rfl, ⟨hnc, by omega⟩, by have := (hlt g rfl).2; omega, hg, fun i hi => by have := hc i (stV al[i]) (by simp [hi]); rw [addX] at this; exact this⟩
structure RjA (N A S B : Nat) (ms g : List Mv) (n : Nat) (W0 : World) (al1 : List Nat) (v1 : Value) (al : List Nat) (v : Value) (pre : List (List Nat)) (W : World) : Prop where
 st : EnS N A S W al v
 pl : AlP ms n al
 ext : al1 <+: al
 did : ∀ xs ∈ pre, endN g (xs.map bitsN) ∈ al
 own : ∀ b, v.ownBlock = some b → v1.ownBlock = some b ∨ B < b
 fr : ExQ (fun b => b = A ∨ b = S ∨ b = B ∨ v1.ownBlock = some b) W0 W
 rw1 : Rw1 N B W v1 al1
 lo : A < B ∧ S < B ∧ (∀ b, v1.ownBlock = some b → b < B) ∧ W0.heap.size ≤ B
def Rj (N A S B : Nat) (ms g : List Mv) (n : Nat) (W0 : World) (al1 : List Nat) (v1 : Value) (pre : List (List Nat)) (W : World) : Prop := ∃ al v, RjA N A S B ms g n W0 al1 v1 al v pre W
theorem Rj.start {N A S B : Nat} {ms g : List Mv} {n : Nat} {W0 : World} {al : List Nat} {v : Value} (h : EnS N A S W0 al v) (hp : AlP ms n al) (hB : B = W0.heap.size) : Rj N A S B ms g n W0 al v [] W0 :=
 ⟨al, v, h, hp, List.prefix_refl _, (fun xs hx => by cases hx), fun b hb => Or.inl hb, ExQ.refl _ _, h.rw1 hp.len (by omega), by have := h.lo; omega, by have := h.lo; omega, (fun b hb => by have := (h.own.lt b hb).2; omega), by omega⟩
theorem Rj.kp {N A S B : Nat} {ms g : List Mv} {n : Nat} {W0 : World} {al1 : List Nat} {v1 : Value} : KpL (Rj N A S B ms g n W0 al1 v1) B v1 al1 := by
 constructor
 ·rintro pre W W' ⟨al, v, h⟩ hx
  have hk : ∀ b, b < W.heap.size → b ≠ B → W'.heap[b]? = W.heap[b]? := fun b h1 h2 => hx.block b h1 h2
  have hlt := h.st.own.lt
  have hlo := h.st.lo
  have hl := h.lo
  refine ⟨al, v, h.st.kept hx.size fun b hb => hk b ?_ ?_, h.pl, h.ext, h.did, h.own, h.fr.trans (hx.mono fun b hb _ => Or.inr (Or.inr (Or.inl hb))), h.rw1.kept fun b h1 h2 h3 i hi hc => (World.cell?_of_block (a := ⟨b, i, none⟩) (hk b (cell_ltA hc) h3)).trans hc, h.lo⟩
  ·rcases hb with e | e | e
   ·omega
   ·omega
   ·exact (hlt b e).2
  ·rcases hb with e | e | e
   ·omega
   ·omega
   ·rcases h.own b e with h1 | h1
    ·have := hl.2.2.1 b h1; omega
    ·omega
 ·rintro pre W ⟨al, v, h⟩
  exact h.rw1.lv
theorem RjA.next {N A S B : Nat} {ms g : List Mv} {n : Nat} {W0 W W' : World} {al1 : List Nat} {v1 : Value} {al al' : List Nat} {v v' : Value} {pre : List (List Nat)} {x : List Nat} (h : RjA N A S B ms g n W0 al1 v1 al v pre W) (hBW : B < W.heap.size) (h' : EnS N A S W' al' v') (hp' : AlP ms n al') (he : al <+: al') (hd : endN g (x.map bitsN) ∈ al') (hx : ExQ (fun b => b = A ∨ b = S ∨ v.ownBlock = some b) W W')
  (hv : ∀ b, v'.ownBlock = some b → v.ownBlock = some b ∨ W.heap.size ≤ b) (hg : ∀ b, v.ownBlock = some b → v'.ownBlock = some b ∨ W'.heap[b]? = W.heap[b]?) : RjA N A S B ms g n W0 al1 v1 al' v' (pre ++ [x]) W' := by
 have hz0 := h.fr.size
 refine ⟨h', hp', List.IsPrefix.trans h.ext he, fun xs hxs => ?_, fun b hb => ?_, ?_, ?_, h.lo⟩
 ·rcases List.mem_append.1 hxs with hm | hm
  ·exact he.subset (h.did xs hm)
  ·simp at hm; subst hm; exact hd
 ·rcases hv b hb with h1 | h1
  ·exact h.own b h1
  ·right; omega
 ·refine ⟨hx.os.trans h.fr.os, hx.tape.trans h.fr.tape, hx.output.trans h.fr.output, Nat.le_trans hz0 hx.size, fun b hb hn => ?_⟩
  have h1 : ¬ (b = A ∨ b = S ∨ v.ownBlock = some b) := by
   rintro (e | e | e)
   ·exact hn (Or.inl e)
   ·exact hn (Or.inr (Or.inl e))
   ·rcases h.own b e with h2 | h2
    ·exact hn (Or.inr (Or.inr (Or.inr h2)))
    ·have := h.lo.2.2.2; omega
  exact (hx.block b (by omega) h1).trans (h.fr.block b hb hn)
 ·refine h.rw1.kept fun b h1 h2 h3 i hi hc => ?_
  have hlo := h.st.lo
  by_cases e : v.ownBlock = some b
  ·rcases hg b e with h4 | h4
   ·have hcs := h'.own.cells (g := b) h4
    obtain ⟨q, hq⟩ := List.IsPrefix.trans h.ext he
    have hia : i < al'.length := by rw [← hq]; simp; omega
    have h5 := hcs i (stV al'[i]) (by simp [hia])
    have h6 : al'[i] = al1[i] := by simp only [← hq]; rw [List.getElem_append_left hi]
    rw [h6, addX] at h5
    exact h5
   ·exact (World.cell?_of_block (a := ⟨b, i, none⟩) h4).trans hc
  ·refine (World.cell?_of_block (a := ⟨b, i, none⟩) (hx.block b (cell_ltA hc) ?_)).trans hc
   rintro (e2 | e2 | e2)
   ·omega
   ·omega
   ·exact e e2
theorem RjA.fin {N A S B lp : Nat} {ms g : List Mv} {n : Nat} {W0 W w9 : World} {al1 : List Nat} {v1 : Value} {al al2 : List Nat} {v v2 : Value} {pre : List (List Nat)} {x : List Nat} {r rb : Loop} (h : RjA N A S B ms g n W0 al1 v1 al v pre W) (hBW : B < W.heap.size) (hlW : W.heap[lp]? = some (.loop r)) (hlp : lp ≠ A ∧ lp ≠ S ∧ lp ≠ B ∧ v.ownBlock ≠ some lp)
  (h9 : EnS N A S w9 al2 v2) (hp9 : AlP ms n al2) (he : al <+: al2) (hd : endN g (x.map bitsN) ∈ al2) (hx : ExQ (fun b => b = A ∨ b = S ∨ v.ownBlock = some b) (W.putObj lp (.loop rb)) w9) (hv : ∀ b, v2.ownBlock = some b → v.ownBlock = some b ∨ W.heap.size ≤ b) (hg : ∀ b, v.ownBlock = some b → v2.ownBlock = some b ∨ w9.heap[b]? = W.heap[b]?) :
  w9.heap[lp]? = some (.loop rb) ∧ Rj N A S B ms g n W0 al1 v1 (pre ++ [x]) (w9.putObj lp (.loop r)) ∧ (w9.putObj lp (.loop r)).heap[B]? = W.heap[B]? ∧ W.heap.size ≤ (w9.putObj lp (.loop r)).heap.size := by
 have hll : lp < W.heap.size := (Array.getElem?_eq_some_iff.1 hlW).1
 have hz : (W.putObj lp (.loop rb)).heap.size = W.heap.size := by simp
 have hz9 := hx.size
 rw [hz] at hz9
 have hn : ¬ (lp = A ∨ lp = S ∨ v.ownBlock = some lp) := by
  rintro (e | e | e)
  ·exact hlp.1 e
  ·exact hlp.2.1 e
  ·exact hlp.2.2.2 e
 have k9 : ∀ b, b ≠ lp → (w9.putObj lp (.loop r)).heap[b]? = w9.heap[b]? := fun b hb => World.putObj_heap_other hb
 have hxx : ExQ (fun b => b = A ∨ b = S ∨ v.ownBlock = some b) W (w9.putObj lp (.loop r)) := by
  refine ⟨hx.os, hx.tape, hx.output, by simpa using hz9, fun b hb hne => ?_⟩
  by_cases e : b = lp
  ·subst e
   rw [World.putObj_heap_same (by omega), hlW]
  ·rw [k9 b e, hx.block b (by rw [hz]; exact hb) hne, World.putObj_heap_other e]
 have hlo := h.st.lo
 refine ⟨(hx.block lp (by rw [hz]; exact hll) hn).trans (World.putObj_heap_same hll), ⟨al2, v2, h.next hBW (h9.kept (by simp) fun b hb => k9 b ?_) hp9 he hd hxx hv fun b hb => ?_⟩, hxx.block B hBW ?_, by simpa using hz9⟩
 ·rcases hb with e | e | e
  ·exact fun e2 => hlp.1 (e2.symm.trans e)
  ·exact fun e2 => hlp.2.1 (e2.symm.trans e)
  ·rcases hv b e with h1 | h1
   ·exact fun e2 => hlp.2.2.2 (e2 ▸ h1)
   ·omega
 ·rcases hg b hb with h1 | h1
  ·exact Or.inl h1
  ·by_cases e : b = lp
   ·exact absurd (e ▸ hb) hlp.2.2.2
   ·exact Or.inr ((k9 b e).trans h1)
 ·have hl := h.lo
  rintro (e | e | e)
  ·omega
  ·omega
  ·rcases h.own B e with h1 | h1
   ·have := hl.2.2.1 B h1; omega
   ·omega
def mkD (D : Nat) : Deferred := { target := .collected D, args := #[] }
theorem leaves_marks {P : Program} {n : Nat} {fn : Func} {tmps : Array Value} {R : Ending → World → Prop} : ∀ (Ds : List Nat) (W : World), Ds.Nodup → (∀ D ∈ Ds, W.heap[D]? = some (.deferred (some []))) → (∀ W' : World, ExQ (fun b => b ∈ Ds) W W' → LeavesIn Fence.wide n P fn tmps R [] .returning W') → LeavesInM Fence.wide n P fn tmps R (Ds.map mkD) .returning W
 | [], W, _, _, h => h W (ExQ.refl _ _)
 | D :: Ds, W, hn, hd, h => by
  refine ⟨by simp, Or.inl ⟨D, W.putObj D (.deferred none), rfl, run_takeDeferred (hd D (by simp)), ?_⟩⟩
  have hn' := List.nodup_cons.1 hn
  refine leaves_marks Ds _ hn'.2 (fun E hE => ?_) fun W' hx => h W' ?_
  ·have : E ≠ D := fun e => hn'.1 (e ▸ hE)
   rw [World.putObj_heap_other this]
   exact hd E (by simp [hE])
  ·refine ⟨hx.os, hx.tape, hx.output, by have := hx.size; simpa using this, fun b hb hne => ?_⟩
   have h1 : b ∉ Ds := fun e => hne (by simp [e])
   have h2 : b ≠ D := fun e => hne (by simp [e])
   rw [hx.block b (by simpa using hb) h1, World.putObj_heap_other h2]
def OnlyN (Q : Exit → Act → World → Prop) : Exit → Act → World → Prop
 | .normal, a, w => Q .normal a w
 | _, _, _ => False
theorem wp_onlyN {P : Program} {c : Code} {Q : Exit → Act → World → Prop} {a : Act} {w : World} (h : c.wp P (OnlyN Q) a w) : c.wp P Q a w :=
 Code.wp_mono (fun e a w q => by cases e <;> first | exact q | exact q.elim) h
structure EnC (w : World) (N T A S : Nat) (tc : Array Value) (ms : List Mv) (n : Nat) (al : List Nat) (v : Value) (Ds : List Nat) (W : World) : Prop where
 st : EnS N A S W al v
 pl : AlP ms n al
 bl : Below w.heap.size w W
 bT : Blk W T tc 75
 nd : Ds.Nodup
 mks : ∀ D ∈ Ds, N ≤ D ∧ W.heap[D]? = some (.deferred (some []))
theorem EnC.later {w : World} {N T A S : Nat} {tc : Array Value} {ms : List Mv} {n : Nat} {al : List Nat} {v : Value} {Ds : List Nat} {W W' : World} (h : EnC w N T A S tc ms n al v Ds W) (hb : Below W.heap.size W W') : EnC w N T A S tc ms n al v Ds W' :=
 ⟨h.st.later hb, h.pl, h.bl.trans (hb.mono h.bl.size), h.bT.below hb h.bT.lt, h.nd, fun D hD => ⟨(h.mks D hD).1, (hb.block D (by
  apply Classical.byContradiction
  intro hn
  have := (h.mks D hD).2
  rw [Array.getElem?_eq_none (by omega)] at this
  cases this)).trans (h.mks D hD).2⟩⟩
def ClG (ms : List Mv) (L : List Sy) (j : Nat) (al0 al : List Nat) : Prop := ∀ (i : Nat) (h : i < L.length), i < j → ∀ xs ∈ lsN al0 L[i].2, endN (grp ms L[i]) (xs.map bitsN) ∈ al
theorem ClG.mono {ms : List Mv} {L : List Sy} {j : Nat} {al0 al al' : List Nat} (h : ClG ms L j al0 al) (he : al <+: al') : ClG ms L j al0 al' := fun i hi hj xs hx => he.subset (h i hi hj xs hx)
theorem ClG.ends {ms : List Mv} {n : Nat} {L : List Sy} {al : List Nat} (h : ClG ms L L.length al al) (hp : AlP ms n al) (hall : ∀ m ∈ ms, symM m ∈ L) : EndsOk ms n al := by
 refine ⟨hp.tm, fun m hm xs hl hx => ?_⟩
 obtain ⟨i, hi, e⟩ := List.mem_iff_getElem.1 (hall m hm)
 have h1 := h i hi hi xs (lsN_mem.2 ⟨by rw [e]; exact hl, hx⟩)
 rw [e] at h1
 exact h1
abbrev Sl6 := Nat → Value
def OuI (w : World) (N T A S r : Nat) (a : Option Addr) (c : Nat) (ms : List Mv) (n : Nat) (L : List Sy) (a' : Act) (W : World) : Prop :=
 ∃ (al : List Nat) (v : Value) (bf : Int) (Ds : List Nat) (f : Sl6), a' = { tmps := #[.agg #[.map (some r), .slice a L.length c], .pointer (some ⟨T, 0, none⟩), .slice none 0 0, .pointer (some ⟨A, 0, none⟩), .pointer (some ⟨S, 0, none⟩), .int .i64 bf, f 6, f 7, f 8, f 9, f 10, f 11, f 12, f 13, f 14, f 15, f 16, f 17, f 18, f 19, f 20, f 21, f 22, f 23, f 24, f 25, f 26, f 27, f 28, f 29, f 30, f 31, f 32, f 33, f 34, f 35, f 36, f 37, f 38, f 39, f 40, f 41, f 42, f 43, f 44, f 45], defers := Ds.map mkD } ∧
  EnC w N T A S #[.map (some r), .slice a L.length c] ms n al v Ds W ∧ -1 ≤ bf ∧ bf ≤ (al.length : Int) ∧ (bf = (al.length : Int) → ClG ms L L.length al al)
def InI (w : World) (N T A S r : Nat) (a : Option Addr) (c : Nat) (ms : List Mv) (n : Nat) (L : List Sy) (al0 : List Nat) (a' : Act) (W : World) : Prop :=
 ∃ (al : List Nat) (v : Value) (j : Nat) (Ds : List Nat) (f : Sl6), a' = { tmps := #[.agg #[.map (some r), .slice a L.length c], .pointer (some ⟨T, 0, none⟩), .slice none 0 0, .pointer (some ⟨A, 0, none⟩), .pointer (some ⟨S, 0, none⟩), .int .i64 (al0.length : Int), f 6, f 7, f 8, f 9, f 10, f 11, f 12, f 13, f 14, f 15, f 16, .slice a L.length c, .int .i64 (L.length : Int), .int .i64 (j : Int), f 20, f 21, f 22, f 23, f 24, f 25, f 26, f 27, f 28, f 29, f 30, f 31, f 32, f 33, f 34, f 35, f 36, f 37, f 38, f 39, f 40, f 41, f 42, f 43, f 44, f 45], defers := Ds.map mkD } ∧
  EnC w N T A S #[.map (some r), .slice a L.length c] ms n al v Ds W ∧ j ≤ L.length ∧ al0 <+: al ∧ ClG ms L j al0 al
def MvsLs (n : Nat) (ms : List Mv) : Prop := ∀ m ∈ ms, (0 ≤ m.to ∧ m.to < (n : Int)) ∧ (∀ z ∈ m.frm, 0 ≤ z ∧ z < (n : Int)) ∧ m.frm.length ≤ 4
set_option maxHeartbeats 4000000 in
theorem ends_any (ms : List Mv) (n : Nat) (hn : n ≤ 6) (hms : MvsLs n ms) (v : Value) (w : World) (hv : TabV w v ms) :
  Calls Try.prog 57 #[v] w fun e w' => ∃ al u, e = .returned u ∧ LV stV w' (fun b => w.heap.size ≤ b) u al ∧ (AlP ms n al ∧ EndsOk ms n al) ∧ Below w.heap.size w w' := by
 obtain ⟨r, L, a, c, rfl, hm, hl, hall, hrow⟩ := id hv.ex
 have HMS := hide hms
 have HALL := hide hall
 have HROW := hide hrow
 have HN := hide hn
 clear hv hm hms hall hrow hn
 obtain ⟨Z, hZ⟩ : ∃ Z, Z = seenA [] := ⟨_, rfl⟩
 have hZ2 : Z = #[.bool false, .bool false, .bool false, .bool false, .bool false, .bool false, .bool false, .bool false, .bool false, .bool false, .bool false, .bool false, .bool false, .bool false, .bool false, .bool false, .bool false, .bool false, .bool false, .bool false, .bool false, .bool false, .bool false, .bool false, .bool false, .bool false, .bool false, .bool false, .bool false, .bool false, .bool false, .bool false, .bool false, .bool false, .bool false, .bool false, .bool false, .bool false, .bool false, .bool false, .bool false, .bool false, .bool false, .bool false, .bool false, .bool false, .bool false, .bool false, .bool false, .bool false, .bool false, .bool false, .bool false, .bool false, .bool false, .bool false, .bool false, .bool false, .bool false, .bool false, .bool false, .bool false, .bool false, .bool false] := by rw [hZ]; rfl
 have w3s : Hid (EnC w (w.heap.size + 3) w.heap.size (w.heap.size + 1) (w.heap.size + 2) #[.map (some r), .slice a L.length c] ms n [] (.slice none 0 0) [] (((w.alloc (.cells #[.map (some r), .slice a L.length c] 75)).alloc (.cells #[.slice none 0 0] 95)).alloc (.cells Z 112))) := by
  have hA := allocsX_facts [(.cells #[.map (some r), .slice a L.length c] 75 : Obj), (.cells #[.slice none 0 0] 95 : Obj), (.cells Z 112 : Obj)] w
  refine ⟨⟨hA.2.2 1 _ rfl, World.ownsRow_nil _ _ _ _, by have := hA.2.2 2 _ rfl; rw [← hZ]; exact this, by omega, by omega, by omega, by have := hA.2.1; exact Nat.le_of_eq this.symm⟩, AlP.nil _ _, hA.1, hA.2.2 0 _ rfl, List.nodup_nil, (fun D hD => by cases hD)⟩
 rw [hZ2] at w3s
 clear hZ hZ2 Z
 refine (callsIn_wide (n := 9)).1 ?_
 refine callsIn_of_wp_marks Try.func57 rfl trivial ?_ rfl
 simp only [Try.ntmps57, List.size_toArray, List.length_cons, List.length_nil, Nat.reduceAdd, Nat.reduceSub, Array.replicate_succ, Array.replicate_zero, List.push_toArray, List.append_toArray, List.nil_append, List.cons_append]
 gi_wp2
 rw [show w.heap.size + 1 + 1 = w.heap.size + 2 from rfl]
 generalize (((w.alloc (.cells #[.map (some r), .slice a L.length c] 75)).alloc (.cells #[.slice none 0 0] 95)).alloc (.cells #[.bool false, .bool false, .bool false, .bool false, .bool false, .bool false, .bool false, .bool false, .bool false, .bool false, .bool false, .bool false, .bool false, .bool false, .bool false, .bool false, .bool false, .bool false, .bool false, .bool false, .bool false, .bool false, .bool false, .bool false, .bool false, .bool false, .bool false, .bool false, .bool false, .bool false, .bool false, .bool false, .bool false, .bool false, .bool false, .bool false, .bool false, .bool false, .bool false, .bool false, .bool false, .bool false, .bool false, .bool false, .bool false, .bool false, .bool false, .bool false, .bool false, .bool false, .bool false, .bool false, .bool false, .bool false, .bool false, .bool false, .bool false, .bool false, .bool false, .bool false, .bool false, .bool false, .bool false, .bool false] 112)) = w3 at *
 obtain ⟨T, hT⟩ : ∃ T, T = w.heap.size := ⟨_, rfl⟩
 obtain ⟨A, hA⟩ : ∃ A, A = w.heap.size + 1 := ⟨_, rfl⟩
 obtain ⟨S, hS⟩ : ∃ S, S = w.heap.size + 2 := ⟨_, rfl⟩
 obtain ⟨N, hNN⟩ : ∃ N, N = w.heap.size + 3 := ⟨_, rfl⟩
 have w3t : Hid (EnC w N T A S #[.map (some r), .slice a L.length c] ms n [] (.slice none 0 0) [] w3) := by
  have h := w3s.out
  rw [← hA, ← hS, ← hNN] at h
  rw [hT]
  exact h
 rw [← hA, ← hS]
 have HE : Hid (T = w.heap.size ∧ A = w.heap.size + 1 ∧ S = w.heap.size + 2 ∧ N = w.heap.size + 3) := ⟨hT, hA, hS, hNN⟩
 conv =>
  pattern (Value.pointer (some ⟨w.heap.size, 0, none⟩))
  rw [← hT]
 clear hT hA hS hNN w3s
 refine wpIn_loop (OuI w N T A S r a c ms n L) (fun a' _ => (64 - intOf (a'.tmps.getD 5 undef)).toNat) ?_ ?_
 ·exact ⟨[], .slice none 0 0, -1, [], fun _ => undef, rfl, w3t.out, by omega, by simp, by simp⟩
 rintro _ wr ⟨al, v, bf, Ds, f, rfl, hC, hb1, hb2, hcl⟩
 have HC := hide hC
 have HCL := hide hcl
 have bA : wr.cell? ⟨A, 0, none⟩ = some v := hC.st.bA.cell 0
 have hal := hC.pl.len
 obtain ⟨av, cv, rfl, _, _⟩ := id hC.st.lv
 clear hC hcl
 by_cases hlt : bf < (al.length : Int)
 case neg =>
  have HEO : Hid (EndsOk ms n al) := (HCL.out (by omega)).ends HC.out.pl HALL.out.1
  clear HCL
  gi_wp2
  refine leaves_marks Ds wr HC.out.nd (fun D hD => (HC.out.mks D hD).2) fun W' hx => ?_
  refine ⟨_, results_tmp rfl _ _ _, al, _, rfl, ?_, ⟨HC.out.pl, HEO.out⟩, HC.out.bl.trans ?_⟩
  ·refine ((HC.out.st.lv).kept (w' := W') fun b hb => hx.block b (HC.out.st.own.lt b hb).2 fun hm => ?_).mono fun b hb _ => by have := (HC.out.st.own.lt b hb).1; have := HE.out; omega
   have h1 := (HC.out.mks b hm).2
   rcases HC.out.st.own.2 with ⟨e, _⟩ | ⟨g, cap, cur, e, _, hh, _⟩
   ·rw [e] at hb; simp [Value.ownBlock] at hb
   ·rw [e] at hb
    have e2 : g = b := by simpa [Value.ownBlock] using hb
    subst e2
    rw [h1] at hh
    cases hh
  ·exact ExQ.below hx HC.out.bl.size (fun b hb => by have := (HC.out.mks b hb).1; have := HE.out; omega)
 case pos =>
 have HCL2 := HCL
 clear HCL
 have bT1 : wr.cell? ⟨T, 1, none⟩ = some (.slice a L.length c) := HC.out.bT.cell 1
 have hTl := HC.out.bT.lt
 gi_wp2
 have HBF : Hid (bf < (al.length : Int) ∧ al.length ≤ 64) := ⟨hlt, hal⟩
 clear HCL2 bA bT1 hTl hb1 hb2 hal hlt
 refine wpIn_loop (InI w N T A S r a c ms n L al) (fun a' _ => L.length - (intOf (a'.tmps.getD 19 undef)).toNat) ?_ ?_
 ·exact ⟨al, _, 0, Ds, fun i => ([f 0, f 1, f 2, f 3, f 4, f 5, f 6, f 7, f 8, f 9, .int .i64 bf, .slice av al.length cv, .int .i64 (al.length : Int), .bool true, .slice av al.length cv, .int .i64 (al.length : Int), .pointer (some ⟨T, 1, none⟩), f 17, f 18, f 19, f 20, f 21, f 22, f 23, f 24, f 25, f 26, f 27, f 28, f 29, f 30, f 31, f 32, f 33, f 34, f 35, f 36, f 37, f 38, f 39, f 40, f 41, f 42, f 43, f 44, f 45]).getD i undef, rfl, HC.out, Nat.zero_le _, List.prefix_refl _, fun i hi h => absurd h (by omega)⟩
 obtain ⟨al0, hal0⟩ : ∃ al0, al0 = al := ⟨_, rfl⟩
 rw [← hal0] at HBF ⊢
 clear hal0 HC
 rintro _ wk ⟨al1, v1, j, Ds, f, rfl, hC, hj, hpre, hcl⟩
 have HC := hide hC
 have HCL := hide hcl
 have HPR := hide hpre
 clear hcl hpre
 by_cases hjl : j < L.length
 case neg =>
  have hji : ¬ (j : Int) < (L.length : Int) := by omega
  have HCF : Hid ((al0.length : Int) = (al1.length : Int) → ClG ms L L.length al1 al1) := fun e => by
   have e1 : al0 = al1 := HPR.out.eq_of_length (by omega)
   have h := HCL.out
   rw [e1, show j = L.length by omega] at h
   exact h
  have HLE : Hid ((al0.length : Int) ≤ (al1.length : Int)) := by have := HPR.out.length_le; unfold Hid; omega
  clear hC hjl
  gi_wp2
  refine ⟨⟨al1, v1, _, Ds, fun i => ([f 0, f 1, f 2, f 3, f 4, f 5, f 6, f 7, f 8, f 9, f 10, f 11, f 12, f 13, f 14, f 15, f 16, .slice a L.length c, .int .i64 (L.length : Int), .int .i64 (j : Int), .bool false, f 21, f 22, f 23, f 24, f 25, f 26, f 27, f 28, f 29, f 30, f 31, f 32, f 33, f 34, f 35, f 36, f 37, f 38, f 39, f 40, f 41, f 42, f 43, f 44, f 45]).getD i undef, rfl, HC.out, by omega, HLE.out, HCF.out⟩, ?_⟩
  have := HBF.out
  simp [intOf]
  omega
 case pos =>
 have hji : (j : Int) < (L.length : Int) := by omega
 obtain ⟨b, o, ai, ci, rfl, hcell, hslv⟩ := HROW.out j hjl
 obtain ⟨g, hg⟩ : ∃ g, g = grp ms L[j] := ⟨_, rfl⟩
 obtain ⟨n0, hn0⟩ : ∃ n0, n0 = L[j].2 := ⟨_, rfl⟩
 rw [← hg] at hcell hslv
 have HGM : Hid (∀ m ∈ g, m ∈ ms ∧ m.frm.length = n0 ∧ m.name = L[j].1) := fun m hm => by
  rw [hg] at hm
  unfold grp at hm
  obtain ⟨h1, h2⟩ := List.mem_filter.1 hm
  rw [Bool.and_eq_true, decide_eq_true_eq, decide_eq_true_eq] at h2
  exact ⟨h1, by rw [hn0]; exact h2.2, h2.1⟩
 obtain ⟨m0, hm0, hs0⟩ := HALL.out.2 L[j] (List.getElem_mem hjl)
 have HM0 : Hid (m0 ∈ ms ∧ m0.frm.length = n0 ∧ g = grp ms (m0.name, m0.frm.length)) := ⟨hm0, by rw [hn0, ← hs0]; rfl, by rw [hg, ← hs0]; rfl⟩
 have hg0 : 0 < g.length := by
  have : m0 ∈ g := by rw [hg, ← hs0]; unfold grp symM; exact List.mem_filter.2 ⟨hm0, by simp⟩
  exact List.length_pos_of_mem this
 have HN0 : Hid (n0 ≤ 4) := by have := (HMS.out m0 hm0).2.2; rw [HM0.out.2.1] at this; exact this
 have HCJ : Hid (∀ al', al1 <+: al' → (∀ xs ∈ lsN al1 n0, endN g (xs.map bitsN) ∈ al') → ClG ms L (j + 1) al0 al') := fun al' he hd i hi hij xs hx => by
  by_cases e : i = j
  ·subst e
   rw [← hg]
   obtain ⟨h1, h2⟩ := lsN_mem.1 hx
   exact hd xs (lsN_mem.2 ⟨by rw [hn0]; exact h1, fun x hx => HPR.out.subset (h2 x hx)⟩)
  ·exact he.subset (HCL.out i hi (by omega) xs hx)
 clear hg hn0 hm0 hs0
 have hcell2 : wk.cell? ⟨b, o + j, none⟩ = some (.slice ai g.length ci) := (hC.bl.cell (p := ⟨b, o + j, none⟩) (cell_ltA hcell)).trans hcell
 have HSL := hide hslv
 obtain ⟨av, cv, rfl, _, _⟩ := id hC.st.lv
 clear hcell hslv hC
 have BM := hide (one1 wk (.cells #[.slice ai g.length ci] 23))
 have KM : Hid (Blk (wk.alloc (.cells #[.slice ai g.length ci] 23)) wk.heap.size #[.slice ai g.length ci] 23) := Blk.new _ _ _
 refine wpIn_wide.2 ?_
 go_upto_region 9 with fail
 generalize (wk.alloc (.cells #[.slice ai g.length ci] 23)) = wM at *
 obtain ⟨M, hM⟩ : ∃ M, M = wk.heap.size := ⟨_, rfl⟩
 rw [← hM] at KM ⊢
 have HMN : Hid (N ≤ M ∧ A < N ∧ S < N) := ⟨by have := HC.out.st.lo; omega, HC.out.st.lo.1, HC.out.st.lo.2.1⟩
 clear hcell2
 have CM : Hid (EnC w N T A S #[.map (some r), .slice (some ⟨b, o, none⟩) L.length c] ms n al1 (.slice av al1.length cv) Ds wM) := HC.out.later BM.out
 clear hM BM HC
 have SM := hide (HSL.out.later CM.out.bl)
 obtain ⟨b1, o1, af, cf, rfl, hb1, x0, x1, x2, hpv⟩ := SM.out.get (Below.refl wM.heap.size wM) 0 hg0
 simp only [Nat.zero_mul, Nat.add_zero] at x0 x1 x2
 have hgl : (0 : Int) < (g.length : Int) := by omega
 have hpl := hpv.len.1
 have hfl : g[0].frm.length = n0 := (HGM.out _ (List.getElem_mem hg0)).2.1
 rw [hfl] at x1 hpv hpl
 have kd : Below wM.heap.size wM wM.drew := (Below.refl _ _).drew
 have KP : Hid (∀ w', Below wM.heap.size wM w' → w'.cell? ⟨A, 0, none⟩ = some (.slice av al1.length cv) ∧ w'.cell? ⟨M, 0, none⟩ = some (.slice (some ⟨b1, o1, none⟩) g.length ci) ∧ w'.cell? ⟨b1, o1 + 1, none⟩ = some (.slice af n0 cf)) := fun w' hb =>
  ⟨(CM.out.st.bA.below hb CM.out.st.bA.lt).cell 0, (KM.out.below hb KM.out.lt).cell 0, (hb.cell (p := ⟨b1, o1 + 1, none⟩) (cell_ltA x1)).trans x1⟩
 clear x0 x1 x2 hfl hpv
 refine wp_onlyN ?_
 refine wp_region_held_drew (S := Below wM.heap.size wM) (by kernel_rfl) kd (fun hHeld => ?_)
 have hzd : wM.drew.heap.size = wM.heap.size := rfl
 generalize wM.drew = wd at *
 refine tkq (v := ?_) 0 rfl ?_ ?_
 rotate_left
 ·intro w' hSw
  obtain ⟨x0, x1, x2⟩ := KP.out w' hSw
  go_simp <;> with_reducible rfl
 try simp only [Act.put, sqA, sqB, sqC, sqD, sqE, sqF]
 refine tkq (v := ?_) 1 rfl ?_ ?_
 rotate_left
 ·intro w' hSw
  obtain ⟨x0, x1, x2⟩ := KP.out w' hSw
  go_simp <;> with_reducible rfl
 try simp only [Act.put, sqA, sqB, sqC, sqD, sqE, sqF]
 refine tkq (v := ?_) 2 rfl ?_ ?_
 rotate_left
 ·intro w' hSw
  obtain ⟨x0, x1, x2⟩ := KP.out w' hSw
  go_simp <;> with_reducible rfl
 try simp only [Act.put, sqA, sqB, sqC, sqD, sqE, sqF]
 refine tkq (v := ?_) 3 rfl ?_ ?_
 rotate_left
 ·intro w' hSw
  go_simp <;> with_reducible rfl
 try simp only [Act.put, sqA, sqB, sqC, sqD, sqE, sqF]
 refine tkq (v := ?_) 4 rfl ?_ ?_
 rotate_left
 ·intro w' hSw
  obtain ⟨x0, x1, x2⟩ := KP.out w' hSw
  go_simp <;> with_reducible rfl
 try simp only [Act.put, sqA, sqB, sqC, sqD, sqE, sqF]
 refine tkq (v := ?_) 5 rfl ?_ ?_
 rotate_left
 ·intro w' hSw
  go_simp <;> with_reducible rfl
 try simp only [Act.put, sqA, sqB, sqC, sqD, sqE, sqF]
 refine rdq 6 rfl fun K hK => ?_
 go_simp
 go_at_call 74
 refine (lists_any _ _ _ ⟨_, _, _, rfl⟩ n0 rfl).mono ?_
 rintro e wl ⟨rfl, hwl⟩
 have HWL := hide hwl
 clear hwl
 have kl : Below wM.heap.size wM wl := by rw [HWL.out]; exact kd.trans (((one1 wd _).trans ((one1 _ _).mono (by simp))).mono (by omega))
 go_simp
 refine hK.out _ _ (by exact kl) (fun hHeld => ?_)
 clear hK K
 try simp only [Act.put, sqA, sqB, sqC, sqD, sqE, sqF]
 refine wpAnyH_done (by kernel_rfl) ?_ _
 simp only [OnlyN]
 obtain ⟨B1, hB1⟩ : ∃ B1, B1 = wd.heap.size := ⟨_, rfl⟩
 have X1 : Hid (Blk wl B1 #[.slice av al1.length cv] 95) := by rw [HWL.out, hB1]; exact (Blk.new wd _ _).alloc _
 have X2 : Hid (Blk wl (B1 + 1) #[.int .i64 (n0 : Int)] 3) := by
  rw [HWL.out, hB1]
  have := Blk.new (wd.alloc (.cells #[.slice av al1.length cv] 95)) #[.int .i64 (n0 : Int)] 3
  rw [World.size_alloc] at this
  exact this
 rw [hzd] at hB1
 rw [← hB1]
 have CL : Hid (EnC w N T A S #[.map (some r), .slice (some ⟨b, o, none⟩) L.length c] ms n al1 (.slice av al1.length cv) Ds wl) := CM.out.later kl
 have KML := hide (KM.out.below kl KM.out.lt)
 have HBN : Hid (N ≤ B1) := by have := CM.out.st.lo; unfold Hid; omega
 clear HWL kd kl KM CM hB1 KP SM hzd
 go_step
 go_step
 refine (wpIn_wide (n := 9)).1 ?_
 gi_wp2
 refine wp_range (gf := 86) (lb := #[.pointer (some ⟨B1, 0, none⟩), .pointer (some ⟨B1 + 1, 0, none⟩)]) rfl (enters_of Try.func86 (by kernel_rfl) rfl) ?_
 intro r' hr1 hr2 hr3 hr4 hr5 hr6
 have hAF := allocsX_facts [(.deferred (some []) : Obj), (.loop r' : Obj)] wl
 have eW : allocsX wl [(.deferred (some []) : Obj), (.loop r' : Obj)] = (wl.alloc (.deferred (some []))).alloc (.loop r') := rfl
 rw [eW] at hAF
 obtain ⟨W0, hW0⟩ : ∃ W0, W0 = (wl.alloc (.deferred (some []))).alloc (.loop r') := ⟨_, rfl⟩
 rw [← hW0] at hAF ⊢
 clear eW hW0
 obtain ⟨hF1, hF2, hF3⟩ := hAF
 have hz0 : W0.heap.size = wl.heap.size + 2 := hF2
 have hD0 : W0.heap[wl.heap.size]? = some (.deferred (some [])) := hF3 0 _ rfl
 have hL0 : W0.heap[wl.heap.size + 1]? = some (.loop r') := hF3 1 _ rfl
 obtain ⟨D, hD⟩ : ∃ D, D = wl.heap.size := ⟨_, rfl⟩
 obtain ⟨lp, hlp⟩ : ∃ lp, lp = wl.heap.size + 1 := ⟨_, rfl⟩
 rw [← hlp] at hL0 ⊢
 rw [← hD] at hD0 ⊢
 have C0 : Hid (EnC w N T A S #[.map (some r), .slice (some ⟨b, o, none⟩) L.length c] ms n al1 (.slice av al1.length cv) Ds W0) := CL.out.later hF1
 have hlo := CL.out.st.lo
 have hnl : (Value.slice av al1.length cv).ownBlock ≠ some lp := fun e => by have := (CL.out.st.own.lt lp e).2; omega
 have hnD : (Value.slice av al1.length cv).ownBlock ≠ some D := fun e => by have := (CL.out.st.own.lt D e).2; omega
 have LW : Hid (∀ pre W, Rj N A S W0.heap.size ms g n W0 al1 (.slice av al1.length cv) pre W → W.heap[lp]? = some (.loop r')) := fun pre W ⟨al', v', h⟩ => (h.fr.block lp (by omega) (by
  rintro (e | e | e | e)
  ·omega
  ·omega
  ·omega
  ·exact hnl e)).trans hL0
 have XK : Hid (∀ pre W, Rj N A S W0.heap.size ms g n W0 al1 (.slice av al1.length cv) pre W → ∀ b cs T, b < wl.heap.size → A ≠ b → S ≠ b → N ≤ b ∧ (Value.slice av al1.length cv).ownBlock ≠ some b ∨ b < N → Blk wl b cs T → Blk W b cs T) := fun pre W ⟨al', v', h⟩ b cs T hb hbA hbS hbN hB => (h.fr.block b (by omega) (by
  rintro (e | e | e | e)
  ·exact hbA e.symm
  ·exact hbS e.symm
  ·omega
  ·rcases hbN with h1 | h1
   ·exact h1.2 e
   ·have := (CL.out.st.own.lt b e).1; omega)).trans ((hF1.block b hb).trans hB)
 have NM : Hid (∀ b, Blk wl b #[.slice av al1.length cv] 95 ∨ Blk wl b #[.int .i64 (n0 : Int)] 3 ∨ Blk wl b #[.slice (some ⟨b1, o1, none⟩) g.length ci] 23 → N ≤ b → (Value.slice av al1.length cv).ownBlock ≠ some b) := fun b hb hN e => by
  rcases CL.out.st.own.2 with ⟨e1, _⟩ | ⟨q, cap, cur, e1, _, hh, _⟩
  ·rw [e1] at e; simp [Value.ownBlock] at e
  ·rw [e1] at e
   have e2 : q = b := by simpa [Value.ownBlock] using e
   subst e2
   rcases hb with h | h | h <;> (rw [h] at hh; simp at hh)
 have hMB : M < wl.heap.size := KML.out.lt
 have hMN : N ≤ M ∧ M ≠ A ∧ M ≠ S := ⟨by have := HMN.out; omega, by have := HMN.out; omega, by have := HMN.out; omega⟩
 have hB1l := X1.out.lt
 have hB2l := X2.out.lt
 have hBN : N ≤ B1 := HBN.out
 have RH : RndL lp W0.heap.size n0 (Rj N A S W0.heap.size ms g n W0 al1 (.slice av al1.length cv)) (lsN al1 n0) := by
  have HR1 := hide hr1
  have HR2 := hide hr2
  have HR3 := hide hr3
  have HR4 := hide hr4
  have HR5 := hide hr5
  have HR6 := hide hr6
  clear hr1 hr2 hr3 hr4 hr5 hr6
  obtain ⟨rb, hrb⟩ : ∃ rb : Loop, rb = { r' with state := .busy } := ⟨_, rfl⟩
  intro m pre x W hpx hxl hJW hBx
  have hlW := LW.out _ _ hJW
  have hMW := XK.out _ _ hJW M _ _ hMB (by omega) (by omega) (Or.inl ⟨hMN.1, NM.out M (Or.inr (Or.inr KML.out)) hMN.1⟩) KML.out
  obtain ⟨al', v', hR⟩ := hJW
  have hxm : x ∈ lsN al1 n0 := hpx.subset (by simp)
  have hxe := (lsN_mem.1 hxm).2
  have hxa : ∀ y ∈ x, y ∈ al' := fun y hy => hR.ext.subset (hxe y hy)
  have hBW := hBx.lt
  have hll : lp < W.heap.size := (Array.getElem?_eq_some_iff.1 hlW).1
  have hlpA : lp ≠ A ∧ lp ≠ S ∧ lp ≠ W0.heap.size ∧ v'.ownBlock ≠ some lp := ⟨by omega, by omega, by omega, fun e => by
   rcases hR.own lp e with h | h
   ·exact hnl h
   ·omega⟩
  have hbw : Below w.heap.size w (W.putObj lp (.loop rb)) := by
   have h1 : Below w.heap.size W0 W := hR.fr.below C0.out.bl.size (by
    rintro b (e | e | e | e)
    ·have := HE.out; omega
    ·have := HE.out; omega
    ·have := C0.out.bl.size; omega
    ·have := (CL.out.st.own.lt b e).1; have := HE.out; omega)
   have h2 := C0.out.bl.trans h1
   exact ⟨h2.os, h2.tape, h2.output, by have := h2.size; simpa using this, fun k hk => (World.putObj_heap_other (by have := HE.out; omega)).trans (h2.block k hk)⟩
  have HEV : Hid (EnS N A S (W.putObj lp (.loop rb)) al' v') := hR.st.kept (by simp) fun b hb => World.putObj_heap_other (by
   rcases hb with e | e | e
   ·exact fun e2 => hlpA.1 (e2.symm.trans e)
   ·exact fun e2 => hlpA.2.1 (e2.symm.trans e)
   ·exact fun e2 => hlpA.2.2.2 (e2 ▸ e))
  have HMV : Hid (Blk (W.putObj lp (.loop rb)) M #[.slice (some ⟨b1, o1, none⟩) g.length ci] 23) := (World.putObj_heap_other (by omega)).trans hMW
  have HBV : Hid (Blk (W.putObj lp (.loop rb)) W0.heap.size (x.map stV).toArray 71) := (World.putObj_heap_other (by omega)).trans hBx
  have HSV := hide (HSL.out.later hbw)
  have HRJ := hide hR
  have HLW := hide hlW
  have HPA := hide hlpA
  have HXL := hide hxl
  have HXA := hide hxa
  have HBW := hide hBW
  have hzV : Hid ((W.putObj lp (.loop rb)).heap.size = W.heap.size) := by unfold Hid; simp
  have HCALL : Hid (∀ w', Below (W.putObj lp (.loop rb)).heap.size (W.putObj lp (.loop rb)) w' → Calls Try.prog 67 #[.slice (some ⟨b1, o1, none⟩) g.length ci, .slice (some ⟨W0.heap.size, 0, none⟩) n0 n0] w' fun e w2 => e = .returned (stV (endN g (x.map bitsN))) ∧ Below w'.heap.size w' w2) := fun w' hb' => by
   have hlv : LV stV w' (fun _ => True) (.slice (some ⟨W0.heap.size, 0, none⟩) n0 n0) x := by
    have h := blk_lvN (HBV.out.below hb' HBV.out.lt) (by have := HN0.out; have := HXL.out; omega)
    rw [HXL.out] at h
    exact h.mono fun _ _ _ => trivial
   refine aEnd_any g _ ci x (x.map bitsN) (fun m hm => ?_) (fun m hm => ?_) (by simp) (fun i h1 h2 => ?_) (fun m hm z hz => ?_) _ w' (fun _ => True) (HSV.out.later hb') hlv
   ·rw [List.length_map, HXL.out]; exact (HGM.out m hm).2.1
   ·have := (HMS.out m (HGM.out m hm).1).1; have := HN.out; omega
   ·rw [List.getElem_map]
    exact bitsN_is (by have := HRJ.out.pl.lt _ (HXA.out _ (List.getElem_mem h1)); omega)
   ·have := (HMS.out m (HGM.out m hm).1).2.1 z hz; have := HN.out; omega
  obtain ⟨E, hE⟩ : ∃ E, E = endN g (x.map bitsN) := ⟨_, rfl⟩
  rw [← hE] at HCALL
  have HE64 : Hid (E < 64) := by
   unfold Hid
   rw [hE]
   exact endN_lt64 HN.out fun m hm => (HMS.out m (HGM.out m hm).1).1
  have HET : Hid (∃ t : Tm, SymT ms t ∧ SetIs E (endX ms n t)) := by
   unfold Hid
   rw [hE, HM0.out.2.2]
   refine ends_new (by have := HN.out; omega) (fun m hm => ⟨(HMS.out m hm).1, fun z hz => ((HMS.out m hm).2.1 z hz).1⟩) HM0.out.1 (by rw [HXL.out, HM0.out.2.1]) fun y hy => HRJ.out.pl.tm y (HXA.out y hy)
  have HEE := hide hE
  clear hE
  refine yield_on hrb HR5.out HR6.out HR4.out HR3.out HLW.out HR1.out HR2.out rfl ?_
  clear hrb hxa hxe hxm hR hMW hBx hbw hpx hxl hlpA hBW hll hlp hD hz0 hF1 hF2 hF3 hD0 hL0 hlo hnl hnD LW XK NM hMB hMN hB1l hB2l hBN
  have m0 : (W.putObj lp (.loop rb)).cell? ⟨M, 0, none⟩ = some (.slice (some ⟨b1, o1, none⟩) g.length ci) := HMV.out.cell 0
  have hf3 : (Fence.wide.inRound lp).fn 67 := trivial
  have HFIN := hide (fun al2 v2 w9 => HRJ.out.fin (x := x) (rb := rb) HBW.out HLW.out HPA.out (w9 := w9) (al2 := al2) (v2 := v2))
  have HPL := hide HRJ.out.pl
  have HBL : Hid (∀ b, v'.ownBlock = some b → b < (W.putObj lp (.loop rb)).heap.size ∧ (W.putObj lp (.loop rb)).heap[b]? = W.heap[b]?) := fun b hb => ⟨(HEV.out.own.lt b hb).2, World.putObj_heap_other (fun e => HPA.out.2.2.2 (e ▸ hb))⟩
  gi_wp2
  refine ⟨trivial, (fun h => by simp [Fence.wide] at h), ?_⟩
  refine (CallsIn.inRound lp (callsIn_wide.2 (HCALL.out _ (Below.refl _ _)))).mono ?_
  rintro e w2 ⟨rfl, hb2⟩
  have EN2 := hide (HEV.out.later hb2)
  have HB2 := hide hb2
  have HZ2 : Hid (W.heap.size ≤ w2.heap.size) := by have h1 := hb2.size; rw [hzV.out] at h1; exact h1
  clear hb2 m0 HRJ HCALL HSV HMV HBV HEV
  have cS : w2.cell? ⟨S, E, none⟩ = some (.bool (decide (E ∈ al'))) := by rw [EN2.out.bS.cell]; exact seenA_at al' HE64.out
  have hE64 : (E : Int) < 64 := by have := HE64.out; omega
  unfold stV
  by_cases hin : E ∈ al'
  ·rw [decide_eq_true hin] at cS
   have HIN := hide hin
   clear hin
   gi_wp2
   obtain ⟨k1, k2, k3, k4⟩ := HFIN.out al' v' w2 EN2.out HPL.out (List.prefix_refl _) (by rw [← HEE.out]; exact HIN.out) (ExQ.ofBelow HB2.out) (fun b hb => Or.inl hb) (fun b hb => Or.inl hb)
   exact ⟨k1, k2, k3, by simpa using k4⟩
  ·rw [decide_eq_false hin] at cS
   have HNIN := hide hin
   clear hin
   obtain ⟨g', cap, w4, hap, a1, a2, a3, hen, hex, hgg⟩ := EN2.out.push HE64.out HPL.out.len
   obtain ⟨av', cv', hve, _, _⟩ := id EN2.out.lv
   subst hve
   have cA : w2.cell? ⟨A, 0, none⟩ = some (.slice av' al'.length cv') := EN2.out.bA.cell 0
   have fS := EN2.out.bS.frozen E
   have hSl := EN2.out.bS.lt
   have hAl := EN2.out.bA.lt
   have hAS : A ≠ S := EN2.out.lo.2.2.1
   unfold stV at hap
   have HAP := hide hap
   have HEN := hide hen
   have HEX := hide hex
   have HGG := hide hgg
   clear hap hen hex hgg
   gi_wp2_with (gi_at_builtin; refine wpListIn_append_eqX rfl _ _ _ _ rfl rfl rfl HAP.out ?_)
   obtain ⟨k1, k2, k3, k4⟩ := HFIN.out (al' ++ [E]) _ _ HEN.out (HPL.out.add HNIN.out HE64.out HET.out) (List.prefix_append _ _) (by rw [← HEE.out]; simp) (ExQ.trans (ExQ.ofBelow HB2.out) HEX.out) (fun b hb => by
    have e : g' = b := by simpa [Value.ownBlock] using hb
    subst e
    rcases HGG.out with h | h
    ·exact Or.inl h
    ·right; have := HZ2.out; omega) (fun b hb => by
    rcases HGG.out with h | h
    ·left
     rw [hb] at h
     simp [Value.ownBlock] at h ⊢
     exact h.symm
    ·right
     have hbl := HBL.out b hb
     exact (h.2 b hb).trans ((HB2.out.block b hbl.1).trans hbl.2))
   exact ⟨k1, k2, k3, by simpa using k4⟩
 have HBX : Hid (∀ {pre W'}, Rj N A S W0.heap.size ms g n W0 al1 (.slice av al1.length cv) pre W' → Blk W' B1 #[.slice av al1.length cv] 95 ∧ Blk W' (B1 + 1) #[.int .i64 (n0 : Int)] 3) := fun {pre W'} h =>
  ⟨XK.out pre W' h B1 _ _ hB1l (by omega) (by omega) (Or.inl ⟨hBN, NM.out B1 (Or.inl X1.out) hBN⟩) X1.out, XK.out pre W' h (B1 + 1) _ _ hB2l (by omega) (by omega) (Or.inl ⟨by omega, NM.out (B1 + 1) (Or.inr (Or.inl X2.out)) (by omega)⟩) X2.out⟩
 refine (lists1_any (J := Rj N A S W0.heap.size ms g n W0 al1 (.slice av al1.length cv)) (lp := lp) (B := W0.heap.size) (n0 := n0) (ov := .slice av al1.length cv) (L := al1) (by have := HN0.out; omega) Rj.kp RH B1 (B1 + 1) W0 rfl (Rj.start C0.out.st C0.out.pl rfl) HBX.out).mono ?_
 rintro e W ⟨⟨ve, rfl⟩, al2, v2, hR⟩
 have hlW := LW.out _ _ ⟨al2, v2, hR⟩
 refine ⟨⟨_, rfl⟩, hlW, ?_⟩
 have CX : Hid (EnC w N T A S #[.map (some r), .slice (some ⟨b, o, none⟩) L.length c] ms n al2 v2 (D :: Ds) (W.putObj lp (.loop { r' with state := .exhausted }))) := by
  have hkp : ∀ b, b ≠ lp → (W.putObj lp (.loop { r' with state := .exhausted })).heap[b]? = W.heap[b]? := fun b hb => World.putObj_heap_other hb
  have hfr := hR.fr
  have hown2 : ∀ b, v2.ownBlock = some b → b ≠ lp := fun b hb e => by
   rcases hR.own b hb with h | h
   ·exact hnl (e ▸ h)
   ·omega
  have hnm : ∀ E ∈ Ds, (Value.slice av al1.length cv).ownBlock ≠ some E := fun E hE e => by
   have h1 := (CL.out.mks E hE).2
   rcases CL.out.st.own.2 with ⟨e1, _⟩ | ⟨q, cap, cur, e1, _, hh, _⟩
   ·rw [e1] at e; simp [Value.ownBlock] at e
   ·rw [e1] at e
    have e2 : q = E := by simpa [Value.ownBlock] using e
    subst e2
    rw [h1] at hh
    cases hh
  refine ⟨hR.st.kept (by simp) fun b hb => hkp b ?_, hR.pl, ?_, ?_, ?_, fun E hE => ?_⟩
  ·rcases hb with e | e | e
   ·omega
   ·omega
   ·exact hown2 b e
  ·have h1 : Below w.heap.size W0 W := hfr.below C0.out.bl.size (by
    rintro b (e | e | e | e)
    ·have := HE.out; omega
    ·have := HE.out; omega
    ·have := C0.out.bl.size; omega
    ·have := (CL.out.st.own.lt b e).1; have := HE.out; omega)
   have h2 := C0.out.bl.trans h1
   exact ⟨h2.os, h2.tape, h2.output, by have := h2.size; simpa using this, fun k hk => (hkp k (by have := HE.out; omega)).trans (h2.block k hk)⟩
  ·exact (hkp T (by have := HE.out; omega)).trans ((hfr.block T (by have := C0.out.bT.lt; omega) (by
    rintro (e | e | e | e)
    ·have := HE.out; omega
    ·have := HE.out; omega
    ·have := C0.out.bT.lt; omega
    ·have := (CL.out.st.own.lt T e).1; have := HE.out; omega)).trans C0.out.bT)
  ·refine List.nodup_cons.2 ⟨fun hm => ?_, C0.out.nd⟩
   have h1 := (CL.out.mks D hm).2
   have : D < wl.heap.size := by
    apply Classical.byContradiction
    intro h
    rw [Array.getElem?_eq_none (by omega)] at h1
    cases h1
   omega
  ·rcases List.mem_cons.1 hE with rfl | hE
   ·refine ⟨by omega, (hkp E (by omega)).trans ((hfr.block E (by omega) (by
     rintro (e | e | e | e)
     ·omega
     ·omega
     ·omega
     ·exact hnD e)).trans hD0)⟩
   ·have h1 := CL.out.mks E hE
    have hlt : E < wl.heap.size := by
     apply Classical.byContradiction
     intro h
     have := h1.2
     rw [Array.getElem?_eq_none (by omega)] at this
     cases this
    refine ⟨h1.1, (hkp E (by omega)).trans ((hfr.block E (by omega) (by
     rintro (e | e | e | e)
     ·omega
     ·omega
     ·omega
     ·exact hnm E hE e)).trans (C0.out.mks E hE).2)⟩
 have HCF := hide (HCJ.out al2 hR.ext (fun xs hx => hR.did xs hx))
 have HPX := hide (List.IsPrefix.trans HPR.out hR.ext)
 generalize W.putObj lp (.loop { r' with state := .exhausted }) = Wx at *
 clear hR hlW LW XK NM HBX RH X1 X2 KML
 gi_wp2
 go_wp2_with fail
 refine ⟨⟨al2, v2, j + 1, D :: Ds, fun i => ([f 0, f 1, f 2, f 3, f 4, f 5, f 6, .pointer (some ⟨M, 0, none⟩), f 8, f 9, f 10, f 11, f 12, f 13, f 14, f 15, f 16, undef, undef, undef, .bool true, .pointer (some ⟨b, o + j, none⟩), .slice (some ⟨b1, o1, none⟩) g.length ci, .slice av al1.length cv, .slice (some ⟨b1, o1, none⟩) g.length ci, .pointer (some ⟨b1, o1, none⟩), .pointer (some ⟨b1, o1 + 1, none⟩), .slice af n0 cf, .int .i64 (n0 : Int), .func (.func 86) #[] #[.pointer (some ⟨B1, 0, none⟩), .pointer (some ⟨B1 + 1, 0, none⟩)], f 30, f 31, f 32, f 33, f 34, f 35, f 36, f 37, f 38, f 39, f 40, f 41, f 42, f 43, .int .i64 ((j : Int) + 1), f 45]).getD i undef, ?_, CX.out, by omega, HPX.out, HCF.out⟩, ?_⟩
 ·simp [mkD, hD]
 ·simp [intOf]; omega
end Go.Proofs.Ytofebfjkodceeaa
