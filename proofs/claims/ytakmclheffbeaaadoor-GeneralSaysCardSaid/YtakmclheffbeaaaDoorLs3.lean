/- Walks: the document's GeneralOf; rows of bindings whose terms lie in old memory. -/
import Derived.Test.YtakmclheffbeaaaDoorZBGeneralSaysOwn
import Derived.Test.YtakmclheffbeaaaDoorGn7
import Derived.Test.YtakmclheffbeaaaDoorCn2
import Derived.Test.YtakmclheffbeaaaDoorW86
import Derived.Test.YtakmclheffbeaaaDoorZGeneralSaysOwn
namespace Go.Proofs.YtakmclheffbeaaaDoor
open Go.RowKit
set_option linter.unusedSimpArgs false
set_option linter.unusedVariables false
set_option maxRecDepth 8000

theorem LRow.at {w : World} {N : Nat} {Y : Nat → Prop} {a : Option Addr} {n c : Nat} {cs : List Pc} (h : LRow w N Y (.slice a n c) cs) (k : Nat) (hk : k < cs.length) : ∃ g o, a = some ⟨g, o, none⟩ ∧
    (w.cell? ⟨g, o + k * 4, none⟩ = some (.string cs[k].1.l.name) ∧ w.cell? ⟨g, o + k * 4 + 1, none⟩ = some (.slice cs[k].2.1.1 cs[k].1.l.args.length cs[k].2.1.2)) ∧ w.cell? ⟨g, o + k * 4 + 2, none⟩ = some (.string cs[k].1.r.name) ∧ w.cell? ⟨g, o + k * 4 + 3, none⟩ = some (.slice cs[k].2.2.1 cs[k].1.r.args.length cs[k].2.2.2) := by
  obtain ⟨g, cap, e, hg, hlt, hc⟩ := owned_val h.own (by omega)
  simp only [Value.slice.injEq] at e
  obtain ⟨rfl, _, _⟩ := e
  have g0 := hc (k * 4 + 0) (.string cs[k].1.l.name) (by rw [flat4_get cs k hk 0 (by decide)]; rfl)
  have g1 := hc (k * 4 + 1) (.slice cs[k].2.1.1 cs[k].1.l.args.length cs[k].2.1.2) (by rw [flat4_get cs k hk 1 (by decide)]; rfl)
  have g2 := hc (k * 4 + 2) (.string cs[k].1.r.name) (by rw [flat4_get cs k hk 2 (by decide)]; rfl)
  have g3 := hc (k * 4 + 3) (.slice cs[k].2.2.1 cs[k].1.r.args.length cs[k].2.2.2) (by rw [flat4_get cs k hk 3 (by decide)]; rfl)
  refine ⟨g, 0, rfl, ⟨?_, ?_⟩, ?_, ?_⟩ <;> simp only [Nat.zero_add] <;> assumption
/-- What GeneralOf tells. -/
def GoP (X : Nat → Prop) (y : Tm × List Pr) (w : World) (e : Ending) (w' : World) : Prop :=
  ∃ x c hv cs, e = .returned (.tuple #[.agg #[.string y.1.name, .slice x y.1.args.length c], hv]) ∧ Sl w' (fun b => w.heap.size ≤ b) x y.1.args ∧ LRow w' w.heap.size (fun b => X b ∧ b < w.heap.size) hv cs ∧ cs.map (·.1) = y.2 ∧ Below w.heap.size w w'
set_option maxHeartbeats 2000000 in
theorem generalOf_any (a b : Tm) (va vb : Value) (w : World) (X : Nat → Prop) (ha : TV w X va a) (hb : TV w X vb b) (h0 : errL [a] = 0) (h1 : errL [b] = 0) (hz : sizeL [a] ≤ 100000) :
    Calls Tryd.prog 7 #[va, vb] w fun e w' => GoP X (gnT [] a b) w e w' := by
  obtain ⟨y, hye⟩ : ∃ y, y = gnT [] a b := ⟨_, rfl⟩
  rw [← hye]
  have HYE := hide hye
  clear hye
  obtain ⟨aa, ca, rfl, hsa⟩ := ha
  obtain ⟨ab, cb, rfl, hsb⟩ := hb
  have W3 : Hid (LsW w #[.string a.name, .slice aa a.args.length ca] #[.string b.name, .slice ab b.args.length cb] (((w.alloc (.cells #[.string a.name, .slice aa a.args.length ca] 24)).alloc (.cells #[.string b.name, .slice ab b.args.length cb] 24)).alloc (.cells #[.string ⟨#[]⟩, .slice none 0 0] 24))) := by
    refine ⟨(((Below.refl _ _).alloc (Nat.le_refl _) _).alloc (by simp) _).alloc (by simp; omega) _, ((Blk.new w _ _).alloc _).alloc _, ?_, ?_⟩
    · have h := (Blk.new (w.alloc (.cells #[.string a.name, .slice aa a.args.length ca] 24)) #[.string b.name, .slice ab b.args.length cb] 24).alloc (.cells #[.string ⟨#[]⟩, .slice none 0 0] 24)
      rw [World.size_alloc] at h
      exact h
    · have h := Blk.new ((w.alloc (.cells #[.string a.name, .slice aa a.args.length ca] 24)).alloc (.cells #[.string b.name, .slice ab b.args.length cb] 24)) #[.string ⟨#[]⟩, .slice none 0 0] 24
      rw [World.size_alloc, World.size_alloc] at h
      exact h
  have c0 := W3.out.ka.cell 0
  have c1 := W3.out.ka.cell 1
  have d0 := W3.out.kb.cell 0
  have d1 := W3.out.kb.cell 1
  have HSA := hide (hsa.mono (Y := fun b => X b ∧ b < w.heap.size) fun b h1 h2 => ⟨h1, h2⟩)
  have HSB := hide (hsb.mono (Y := fun b => X b ∧ b < w.heap.size) fun b h1 h2 => ⟨h1, h2⟩)
  have H0 := hide h0
  have H1 := hide h1
  have HZ := hide hz
  clear hsa hsb h0 h1 hz
  go_enter Tryd.func7, Tryd.ntmps7
  go_wp2_with fail
  generalize (((w.alloc (.cells #[.string a.name, .slice aa a.args.length ca] 24)).alloc (.cells #[.string b.name, .slice ab b.args.length cb] 24)).alloc (.cells #[.string ⟨#[]⟩, .slice none 0 0] 24)) = w3 at *
  refine (least_any w.heap.size (fun b => X b ∧ b < w.heap.size) (fun b h => h.2) a b (.slice none 0 0) [] _ _ w3 ⟨_, _, rfl, HSA.out.later W3.out.bl⟩ ⟨_, _, rfl, HSB.out.later W3.out.bl⟩ (LRow.start _ _ _) W3.out.bl.size (by simp) H0.out H1.out (by have := HZ.out; simp; omega)).mono ?_
  intro e w4 h
  rw [show gnT (List.map (fun x : Pc => x.fst) []) a b = y by rw [HYE.out]; rfl] at h
  obtain ⟨x, c, hv, cs, rfl, hs, hl, hcs2, hx, hw⟩ := h
  have hb4 : Below w3.heap.size w3 w4 := hx.below (Nat.le_refl _) (fun b e => by simp [Value.ownBlock] at e)
  have W4 := hide (W3.out.later hb4)
  have S4 := hide hs
  have L4 := hide hl
  have C4 := hide hcs2
  have HW : Hid (∀ g, hv.ownBlock = some g → w3.heap.size ≤ g) := fun g hg => by
    rcases hw with h | ⟨g', h, h2⟩
    · rw [h] at hg; simp [Value.ownBlock] at hg
    · rw [h] at hg; simp at hg; omega
  have h3 : Hid (w.heap.size + 2 < w3.heap.size) := W3.out.kr.lt
  have r0 : w4.cell? ⟨w.heap.size + 2, 0, none⟩ = some (.string ⟨#[]⟩) := W4.out.kr.cell 0
  have q1 : w4.cell? ⟨w.heap.size + 2, 1, none⟩ = some (.slice none 0 0) := W4.out.kr.cell 1
  have rf := W4.out.kr.frozen
  have hRl : w.heap.size + 2 < w4.heap.size := W4.out.kr.lt
  clear hs hl hcs2 hx hw hb4 c0 c1 d0 d1
  go_wp2_with fail
  refine bodyPost_ret (v := .tuple #[.agg #[.string y.1.name, .slice x y.1.args.length c], hv]) (by simp [results, Tryd.results7, go_sem, World.cell?_setCell_same, World.cell?_setCell_other, r0, q1, hRl]) rfl ?_
  have hne2 : ∀ b, Value.ownBlock hv = some b → b ≠ w.heap.size + 2 := fun b hb e => by have := HW.out b hb; have := h3.out; omega
  refine ⟨x, c, hv, cs, rfl, (S4.out.kept fun b hb => ?_).mono fun b hb _ => by have := hb.1; have := h3.out; omega, (L4.out.exq (Q := fun b => b = w.heap.size + 2) (exq_setA _ _ 0 _) (fun b e => by omega) (fun b h => h.2) hne2).exq (Q := fun b => b = w.heap.size + 2) (exq_setA _ _ 1 _) (fun b e => by omega) (fun b h => h.2) hne2, C4.out, (W4.out.bl.setCell (p := ⟨w.heap.size + 2, 0, none⟩) (by simp) _).setCell (p := ⟨w.heap.size + 2, 1, none⟩) (by simp) _⟩
  have hbn : b ≠ w.heap.size + 2 := by have := hb.1; have := h3.out; omega
  rw [Below.heap_setCell _ _ _ _ (by simpa using hbn), Below.heap_setCell _ _ _ _ (by simpa using hbn)]
/-- A row of bindings whose terms lie in old memory. -/
structure BLs (w : World) (N : Nat) (Y : Nat → Prop) (v : Value) (cs : List Bc) : Prop where
  own : w.ownsRow N 36 3 v cs.length (flat3 cs)
  row : ∀ x ∈ cs, Sl w Y x.2.1 x.1.t.args
theorem BLs.start (w : World) (N : Nat) (Y : Nat → Prop) : BLs w N Y (.slice none 0 0) [] := ⟨World.ownsRow_nil w N _ 3, by simp⟩
theorem BLs.exq {w w' : World} {N : Nat} {Q Y : Nat → Prop} {v : Value} {cs : List Bc} (h : BLs w N Y v cs) (he : ExQ Q w w') (hQ : ∀ b, Q b → N ≤ b) (hY : ∀ b, Y b → b < N) (hv : ∀ b, v.ownBlock = some b → ¬ Q b) : BLs w' N Y v cs :=
  ⟨ownsRow_at h.own fun g hg => he.block g (h.own.lt g hg).2 (hv g hg), fun x hx => (h.row x hx).exq he fun b hb hq => by have := hQ b hq; have := hY b hb; omega⟩
theorem BLs.below {w w' : World} {N : Nat} {Y : Nat → Prop} {v : Value} {cs : List Bc} (h : BLs w N Y v cs) (hb : Below w.heap.size w w') : BLs w' N Y v cs :=
  ⟨ownsRow_at h.own fun g hg => hb.block g (h.own.lt g hg).2, fun x hx => (h.row x hx).later hb⟩
theorem BLs.bv {w : World} {N : Nat} {Y : Nat → Prop} {v : Value} {cs : List Bc} (h : BLs w N Y v cs) : BV w (fun b => Y b ∨ N ≤ b) v (cs.map (·.1)) :=
  BRow.bv ⟨h.own, fun x hx => (h.row x hx).mono fun _ h _ => Or.inl h⟩
/-- One binding more. -/
theorem app_bindL {w : World} {N : Nat} {Y : Nat → Prop} {v : Value} {cs : List Bc} (x : Bc) (h : BLs w N Y v cs) (hN : N ≤ w.heap.size) (hY : ∀ b, Y b → b < N) (hl : cs.length ≤ 1000000) (hx : Sl w Y x.2.1 x.1.t.args) :
    ∃ g cap w3, (Builtin.append_ #[28, 28] 28 #[v, .slice (some ⟨w.heap.size, 0, none⟩) 1 1]).run Tryd.prog (w.alloc (.cells #[.string x.1.nm, .string x.1.t.name, .slice x.2.1 x.1.t.args.length x.2.2] 36)) = .ok (.slice (some ⟨g, 0, none⟩) (cs.length + 1) cap) w3 ∧
      BLs w3 N Y (.slice (some ⟨g, 0, none⟩) (cs.length + 1) cap) (cs ++ [x]) ∧ ExQ (fun b => some b = v.ownBlock) w w3 ∧ (v.ownBlock = some g ∨ g = w.heap.size + 1) := by
  obtain ⟨i0, hi, hz0, hz1, hz2⟩ := info_parts Tryd.infoBind
  obtain ⟨g, cap, w3, hr, ho, hg, hat, _⟩ := run_append_lies (P := Tryd.prog) (w := w.alloc (.cells #[.string x.1.nm, .string x.1.t.name, .slice x.2.1 x.1.t.args.length x.2.2] 36)) 28 28 N 36 i0 _ 3 56 Tryd.underlying28 hi hz0 hz1 hz2 rfl (by decide) v cs.length (flat3 cs) (h.own.alloc _) ⟨w.heap.size, 0, none⟩ 1 1 (enc3 x) rfl (cell_three_new _ _ _ _ _) (fun y hy => by simp [enc3] at hy; rcases hy with rfl | rfl | rfl <;> rfl) (by decide) (by unfold maxLen; omega) (by omega) (by simp; omega) _ rfl
  have he : ExQ (fun b => some b = v.ownBlock) w w3 := ((ExQ.refl _ w).alloc _).grown hg (fun k hk => Or.inr hk.symm)
  have hold : ∀ (a : Option Addr) (l : List Tm), Sl w Y a l → Sl w3 Y a l := fun a l hs => hs.exq he fun b hb e => by have := (h.own.lt b e.symm).1; have := hY b hb; omega
  refine ⟨g, cap, w3, hr, ⟨by simpa [flat3_append, flat3] using ho, fun y hy => ?_⟩, he, by simpa using hat⟩
  rcases List.mem_append.1 hy with hy | hy
  · exact hold _ _ (h.row y hy)
  · have e : y = x := by simpa using hy
    rw [e]
    exact hold _ _ hx
theorem bdL_pushL (f : Pr → Tm) : ∀ (l : List Pr) (k : Nat) (p : Pr), bdL f k (l ++ [p]) = bdL f k l ++ [⟨nmZ (k + l.length + 1), f p⟩]
  | [], k, p => by simp [bdL]
  | q :: r, k, p => by
    rw [List.cons_append, bdL, bdL, bdL_pushL f r (k + 1) p, List.cons_append, List.length_cons]
    have : k + 1 + r.length = k + (r.length + 1) := by omega
    rw [this]
theorem bdL_take (f : Pr → Tm) {l : List Pr} {m : Nat} (h : m < l.length) : bdL f 0 (l.take (m + 1)) = bdL f 0 (l.take m) ++ [⟨nmZ (m + 1), f l[m]⟩] := by
  rw [List.take_succ_eq_append_getElem h, bdL_pushL]
  have : (l.take m).length = m := by simp; omega
  rw [this, Nat.zero_add]
/-- Sorted in two ways: one list. -/
theorem sorted_same {ls k : List Bd} {cs : List Bc} (h1 : ls.Perm k) (h2 : SortedB ls) (h3 : (cs.map (·.1)).Perm k) (h4 : Weak cs) : cs.map (·.1) = ls := by
  have hp : (cs.map (·.1)).Perm ls := h3.trans h1.symm
  exact sortedB_unique hp (sortedB_of (h2.apart.perm hp) (List.pairwise_map.2 h4)) h2
end Go.Proofs.YtakmclheffbeaaaDoor
