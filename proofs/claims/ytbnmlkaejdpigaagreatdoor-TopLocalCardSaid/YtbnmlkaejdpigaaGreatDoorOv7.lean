import Derived.Test.YtbnmlkaejdpigaaGreatDoorOv6
import Derived.Test.YtbnmlkaejdpigaaGreatDoorZDTopLocalOwn
import Derived.Test.YtbnmlkaejdpigaaGreatDoorZTopLocalOwn
namespace Go.Proofs.YtbnmlkaejdpigaaGreatDoor
open Go.RowKit
set_option linter.unusedSimpArgs false
set_option linter.unusedVariables false
set_option maxRecDepth 8000
structure JoS (U : List Pr → Int × List Bd) (ab : Pr × Pr) (same : Bool) (K : Nat → Prop) (A R4 R5 L : Nat) (lo : Loop) (W0 : World) (pre : List Dn) (s : Bool) (f : Nat → Prop) (W : World) (v : Value) (cs : List Pc) (F : Nat → Prop) : Prop where
 ky : ∀ b, K b → b < W0.heap.size ∧ ¬ f b
 sz : W0.heap.size ≤ W.heap.size
 kp : ∀ b, K b → W.heap[b]? = W0.heap[b]?
 lp : W.heap[L]? = some (.loop lo)
 b4 : Blk W R4 #[.slice none 0 0] 22
 b5 : Blk W R5 #[.int .i64 (if s = true then 0 else 8)] 24
 ff : ∀ b, f b ↔ b = L ∨ b = A ∨ b = R4 ∨ b = R5 ∨ F b
 fi : ∀ b, F b → W0.heap.size ≤ b ∧ b < W.heap.size
 fo : ∀ b, v.ownBlock = some b → F b
 ba : Blk W A #[v] 22
 ow : W.ownsRow W0.heap.size 34 4 v cs.length (flat4 cs)
 ro : ∀ x ∈ cs, Sl W (fun b => F b ∧ some b ≠ v.ownBlock) x.2.1.1 x.1.l.args ∧ Sl W (fun b => F b ∧ some b ≠ v.ownBlock) x.2.2.1 x.1.r.args
 yes : s = true → cs.map (·.1) = pre.filterMap (ovQ U ab same) ∧ ∀ d ∈ pre, ¬ ovF U ab same d
 no : s = false → ∃ d ∈ pre, ovF U ab same d
def JO (U : List Pr → Int × List Bd) (ab : Pr × Pr) (same : Bool) (K : Nat → Prop) (A R4 R5 L : Nat) (r rd : Loop) (W0 : World) : Tk Dn := fun pre s f W =>
 ∃ v cs F, JoS U ab same K A R4 R5 L (if s = true then r else rd) W0 pre s f W v cs F
def Ap4 (A R4 R5 L N : Nat) : Prop := A < N ∧ R4 < N ∧ R5 < N ∧ L < N ∧ A ≠ R4 ∧ A ≠ R5 ∧ A ≠ L ∧ R4 ≠ R5 ∧ R4 ≠ L ∧ R5 ≠ L
section
variable {U : List Pr → Int × List Bd} {ab : Pr × Pr} {same : Bool} {K : Nat → Prop} {A R4 R5 L : Nat} {r rd rb : Loop} {W0 : World}
theorem JO.ok : TkOk (JO U ab same K A R4 R5 L r rd W0) K where
 inside := by
  rintro pre s f W ⟨v, cs, F, h⟩ b hb
  rcases hb with hb | hb
  ·rcases (h.ff b).1 hb with e | e | e | e | e
   ·subst e; exact (Array.getElem?_eq_some_iff.1 h.lp).1
   ·subst e; exact h.ba.lt
   ·subst e; exact h.b4.lt
   ·subst e; exact h.b5.lt
   ·exact (h.fi b e).2
  ·have := (h.ky b hb).1; have := h.sz; omega
 apart := by
  rintro pre s f W ⟨v, cs, F, h⟩ b hb
  exact (h.ky b hb).2
 abide := by
  rintro pre s f W W' ⟨v, cs, F, h⟩ hs hk
  have kf : ∀ b, f b → W'.heap[b]? = W.heap[b]? := fun b hb => hk b (Or.inl hb)
  have kF : ∀ b, F b → W'.heap[b]? = W.heap[b]? := fun b hb => kf b ((h.ff b).2 (Or.inr (Or.inr (Or.inr (Or.inr hb)))))
  exact ⟨v, cs, F, { ky := h.ky, sz := Nat.le_trans h.sz hs, kp := fun b hb => (hk b (Or.inr hb)).trans (h.kp b hb), lp := (kf L ((h.ff L).2 (Or.inl rfl))).trans h.lp, b4 := (kf R4 ((h.ff R4).2 (Or.inr (Or.inr (Or.inl rfl))))).trans h.b4, b5 := (kf R5 ((h.ff R5).2 (Or.inr (Or.inr (Or.inr (Or.inl rfl)))))).trans h.b5, ff := h.ff, fi := fun b hb => ⟨(h.fi b hb).1, Nat.lt_of_lt_of_le (h.fi b hb).2 hs⟩, fo := h.fo, ba := (kf A ((h.ff A).2 (Or.inr (Or.inl rfl)))).trans h.ba, ow := ownsRow_at h.ow fun g hg => kF g (h.fo g hg), ro := fun x hx => ⟨(h.ro x hx).1.kept fun b hb => kF b hb.1, (h.ro x hx).2.kept fun b hb => kF b hb.1⟩, yes := h.yes, no := h.no }⟩
theorem jo_keep (hd : Ap4 A R4 R5 L W0.heap.size) {pre : List Dn} {f : Nat → Prop} {W V : World} {v : Value} {cs : List Pc} {F : Nat → Prop} (h : JoS U ab same K A R4 R5 L r W0 pre true f W v cs F) (hz : W.heap.size ≤ V.heap.size) (hos : V.os = W.os ∧ V.tape = W.tape ∧ V.output = W.output) (hk : ∀ b, b < W.heap.size → b ≠ L → V.heap[b]? = W.heap[b]?) (hL : V.heap[L]? = some (.loop rb)) {d : Dn} (hs : ovS U ab same d = true) :
  V.heap[L]? = some (.loop rb) ∧ ∃ f', JO U ab same K A R4 R5 L r rd W0 (pre ++ [d]) true f' (V.putObj L (.loop r)) ∧ ExQ f W (V.putObj L (.loop r)) ∧ ∀ b, f' b → f b ∨ W.heap.size ≤ b := by
 have hLl := (Array.getElem?_eq_some_iff.1 hL).1
 have po : ∀ b, b < W.heap.size → b ≠ L → (V.putObj L (.loop r)).heap[b]? = W.heap[b]? := fun b hb hne => (World.putObj_heap_other hne).trans (hk b hb hne)
 have hsz := h.sz
 obtain ⟨d1, d2, d3, d4, d5, d6, d7, d8, d9, d10⟩ := hd
 have pF : ∀ b, F b → (V.putObj L (.loop r)).heap[b]? = W.heap[b]? := fun b hb => po b (h.fi b hb).2 (by have := (h.fi b hb).1; omega)
 refine ⟨hL, f, ⟨v, cs, F, { ky := h.ky, sz := by simp; omega, kp := fun b hb => (po b (by have := (h.ky b hb).1; omega) (fun e => (h.ky b hb).2 ((h.ff b).2 (Or.inl e)))).trans (h.kp b hb), lp := World.putObj_heap_same hLl, b4 := (po _ h.b4.lt d9).trans h.b4, b5 := (po _ h.b5.lt d10).trans h.b5, ff := h.ff, fi := fun b hb => ⟨(h.fi b hb).1, by have := (h.fi b hb).2; simp; omega⟩, fo := h.fo, ba := (po _ h.ba.lt d7).trans h.ba, ow := ownsRow_at h.ow fun g hg => pF g (h.fo g hg), ro := fun x hx => ⟨(h.ro x hx).1.kept fun b hb => pF b hb.1, (h.ro x hx).2.kept fun b hb => pF b hb.1⟩, yes := fun _ => ?_, no := fun e => by cases e }⟩, ⟨hos.1, hos.2.1, hos.2.2, by simpa using hz, fun b hb hn => po b hb (fun e => hn ((h.ff b).2 (Or.inl e)))⟩, fun b hb => Or.inl hb⟩
 obtain ⟨y1, y2⟩ := h.yes rfl
 refine ⟨by rw [y1]; simp [ovQ, hs], fun c hc => ?_⟩
 rcases List.mem_append.1 hc with e | e
 ·exact y2 c e
 ·rw [List.mem_singleton.1 e]
  intro q
  have := q.1
  rw [hs] at this
  cases this
theorem jo_full (hd : Ap4 A R4 R5 L W0.heap.size) {pre : List Dn} {f : Nat → Prop} {W V : World} {v : Value} {cs : List Pc} {F : Nat → Prop} (h : JoS U ab same K A R4 R5 L r W0 pre true f W v cs F) (hz : W.heap.size ≤ V.heap.size) (hos : V.os = W.os ∧ V.tape = W.tape ∧ V.output = W.output) (hk : ∀ b, b < W.heap.size → b ≠ L → b ≠ R4 → b ≠ R5 → V.heap[b]? = W.heap[b]?) (hL : V.heap[L]? = some (.loop rb)) (h4 : Blk V R4 #[.slice none 0 0] 22) (h5 : Blk V R5 #[.int .i64 8] 24) {d : Dn} (hs : ovF U ab same d) :
  V.heap[L]? = some (.loop rb) ∧ ∃ f', JO U ab same K A R4 R5 L r rd W0 (pre ++ [d]) false f' (V.putObj L (.loop rd)) ∧ ExQ f W (V.putObj L (.loop rd)) ∧ ∀ b, f' b → f b ∨ W.heap.size ≤ b := by
 have hLl := (Array.getElem?_eq_some_iff.1 hL).1
 have po : ∀ b, b < W.heap.size → b ≠ L → b ≠ R4 → b ≠ R5 → (V.putObj L (.loop rd)).heap[b]? = W.heap[b]? := fun b hb hne h1 h2 => (World.putObj_heap_other hne).trans (hk b hb hne h1 h2)
 have hsz := h.sz
 obtain ⟨d1, d2, d3, d4, d5, d6, d7, d8, d9, d10⟩ := hd
 have pF : ∀ b, F b → (V.putObj L (.loop rd)).heap[b]? = W.heap[b]? := fun b hb => by have h1 := h.fi b hb; exact po b h1.2 (by omega) (by omega) (by omega)
 refine ⟨hL, f, ⟨v, cs, F, { ky := h.ky, sz := by simp; omega, kp := fun b hb => (po b (by have := (h.ky b hb).1; omega) (fun e => (h.ky b hb).2 ((h.ff b).2 (Or.inl e))) (fun e => (h.ky b hb).2 ((h.ff b).2 (Or.inr (Or.inr (Or.inl e))))) (fun e => (h.ky b hb).2 ((h.ff b).2 (Or.inr (Or.inr (Or.inr (Or.inl e))))))).trans (h.kp b hb), lp := World.putObj_heap_same hLl, b4 := (World.putObj_heap_other d9).trans h4, b5 := (World.putObj_heap_other d10).trans h5, ff := h.ff, fi := fun b hb => ⟨(h.fi b hb).1, by have := (h.fi b hb).2; simp; omega⟩, fo := h.fo, ba := (po _ h.ba.lt d7 d5 d6).trans h.ba, ow := ownsRow_at h.ow fun g hg => pF g (h.fo g hg), ro := fun x hx => ⟨(h.ro x hx).1.kept fun b hb => pF b hb.1, (h.ro x hx).2.kept fun b hb => pF b hb.1⟩, yes := (fun e => by cases e), no := fun _ => ⟨d, by simp, hs⟩ }⟩, ⟨hos.1, hos.2.1, hos.2.2, by simpa using hz, fun b hb hn => po b hb (fun e => hn ((h.ff b).2 (Or.inl e))) (fun e => hn ((h.ff b).2 (Or.inr (Or.inr (Or.inl e))))) (fun e => hn ((h.ff b).2 (Or.inr (Or.inr (Or.inr (Or.inl e))))))⟩, fun b hb => Or.inl hb⟩
theorem jo_pair (hd : Ap4 A R4 R5 L W0.heap.size) {pre : List Dn} {f : Nat → Prop} {W V : World} {v v2 : Value} {cs : List Pc} {F : Nat → Prop} (h : JoS U ab same K A R4 R5 L r W0 pre true f W v cs F) (hz : W.heap.size ≤ V.heap.size) (hos : V.os = W.os ∧ V.tape = W.tape ∧ V.output = W.output) (hk : ∀ b, b < W.heap.size → b ≠ L → b ≠ A → some b ≠ v.ownBlock → V.heap[b]? = W.heap[b]?) (hL : V.heap[L]? = some (.loop rb)) (hA : Blk V A #[v2] 22) (x : Pc) (ho : V.ownsRow W0.heap.size 34 4 v2 (cs ++ [x]).length (flat4 (cs ++ [x]))) (hv2 : ∀ k, v2.ownBlock = some k → v.ownBlock = some k ∨ W.heap.size ≤ k) (hx : Sl V (fun b => W.heap.size ≤ b ∧ some b ≠ v2.ownBlock) x.2.1.1 x.1.l.args ∧ Sl V (fun b => W.heap.size ≤ b ∧ some b ≠ v2.ownBlock) x.2.2.1 x.1.r.args) {d : Dn} (hq : ovS U ab same d = false) (hx1 : x.1 = nmP (ovW U ab d)) (hnf : ¬ ovF U ab same d) :
  V.heap[L]? = some (.loop rb) ∧ ∃ f', JO U ab same K A R4 R5 L r rd W0 (pre ++ [d]) true f' (V.putObj L (.loop r)) ∧ ExQ f W (V.putObj L (.loop r)) ∧ ∀ b, f' b → f b ∨ W.heap.size ≤ b := by
 have hLl := (Array.getElem?_eq_some_iff.1 hL).1
 have po : ∀ b, b < W.heap.size → b ≠ L → b ≠ A → some b ≠ v.ownBlock → (V.putObj L (.loop r)).heap[b]? = W.heap[b]? := fun b hb hne h1 h2 => (World.putObj_heap_other hne).trans (hk b hb hne h1 h2)
 have hsz := h.sz
 obtain ⟨d1, d2, d3, d4, d5, d6, d7, d8, d9, d10⟩ := hd
 have hltv := h.ow.lt
 have hlt2 := ho.lt
 have nv : ∀ b, b < W0.heap.size → some b ≠ v.ownBlock := fun b hb e => by have := (hltv b e.symm).1; omega
 have hzV : (V.putObj L (.loop r)).heap.size = V.heap.size := by simp
 have pF : ∀ b, F b ∧ some b ≠ v.ownBlock → (V.putObj L (.loop r)).heap[b]? = W.heap[b]? := fun b hb => by have h1 := h.fi b hb.1; exact po b h1.2 (by omega) (by omega) hb.2
 have pV : ∀ b, W0.heap.size ≤ b → (V.putObj L (.loop r)).heap[b]? = V.heap[b]? := fun b hb => World.putObj_heap_other (by omega)
 have old : ∀ {a : Option Addr} {l : List Tm}, Sl W (fun b => F b ∧ some b ≠ v.ownBlock) a l → Sl (V.putObj L (.loop r)) (fun b => (F b ∨ (W.heap.size ≤ b ∧ b < V.heap.size)) ∧ some b ≠ v2.ownBlock) a l := fun hs => (hs.kept pF).mono fun b hb _ => ⟨Or.inl hb.1, fun e => by
  rcases hv2 b e.symm with q | q
  ·exact hb.2 q.symm
  ·have := (h.fi b hb.1).2; omega⟩
 have new : ∀ {a : Option Addr} {l : List Tm}, Sl V (fun b => W.heap.size ≤ b ∧ some b ≠ v2.ownBlock) a l → Sl (V.putObj L (.loop r)) (fun b => (F b ∨ (W.heap.size ≤ b ∧ b < V.heap.size)) ∧ some b ≠ v2.ownBlock) a l := fun hs => (hs.kept fun b hb => pV b (by omega)).mono fun b hb hl => ⟨Or.inr ⟨hb.1, by rw [hzV] at hl; exact hl⟩, hb.2⟩
 refine ⟨hL, fun b => b = L ∨ b = A ∨ b = R4 ∨ b = R5 ∨ (F b ∨ (W.heap.size ≤ b ∧ b < V.heap.size)), ⟨v2, cs ++ [x], fun b => F b ∨ (W.heap.size ≤ b ∧ b < V.heap.size), { ky := fun b hb => ⟨(h.ky b hb).1, fun e => (h.ky b hb).2 ((h.ff b).2 ?_)⟩, sz := by rw [hzV]; omega, kp := fun b hb => ?_, lp := World.putObj_heap_same hLl, b4 := (po _ h.b4.lt d9 (Ne.symm d5) (nv _ d2)).trans h.b4, b5 := (po _ h.b5.lt d10 (Ne.symm d6) (nv _ d3)).trans h.b5, ff := fun b => Iff.rfl, fi := fun b hb => ?_, fo := fun b hb => ?_, ba := (World.putObj_heap_other d7).trans hA, ow := ownsRow_at ho fun g hg => pV g (hlt2 g hg).1, ro := fun y hy => ?_, yes := fun _ => ?_, no := fun e => by cases e }⟩, ⟨hos.1, hos.2.1, hos.2.2, by rw [hzV]; exact hz, fun b hb hn => po b hb (fun e => hn ((h.ff b).2 (Or.inl e))) (fun e => hn ((h.ff b).2 (Or.inr (Or.inl e)))) (fun e => hn ((h.ff b).2 (Or.inr (Or.inr (Or.inr (Or.inr (h.fo b e.symm)))))))⟩, fun b hb => ?_⟩
 ·have h1 := (h.ky b hb).1
  rcases e with e | e | e | e | e | e
  ·exact Or.inl e
  ·exact Or.inr (Or.inl e)
  ·exact Or.inr (Or.inr (Or.inl e))
  ·exact Or.inr (Or.inr (Or.inr (Or.inl e)))
  ·exact Or.inr (Or.inr (Or.inr (Or.inr e)))
  ·omega
 ·have h1 := (h.ky b hb).1
  exact (po b (by omega) (fun e => (h.ky b hb).2 ((h.ff b).2 (Or.inl e))) (fun e => (h.ky b hb).2 ((h.ff b).2 (Or.inr (Or.inl e)))) (nv b h1)).trans (h.kp b hb)
 ·rw [hzV]
  rcases hb with e | e
  ·have := h.fi b e; omega
  ·omega
 ·have h1 := hlt2 b hb
  rcases hv2 b hb with e | e
  ·exact Or.inl (h.fo b e)
  ·exact Or.inr ⟨e, h1.2⟩
 ·rcases List.mem_append.1 hy with e | e
  ·exact ⟨old (h.ro y e).1, old (h.ro y e).2⟩
  ·rw [List.mem_singleton.1 e]
   exact ⟨new hx.1, new hx.2⟩
 ·obtain ⟨y1, y2⟩ := h.yes rfl
  refine ⟨by rw [List.map_append, y1]; simp [ovQ, hq, hx1], fun c hc => ?_⟩
  rcases List.mem_append.1 hc with e | e
  ·exact y2 c e
  ·rw [List.mem_singleton.1 e]
   exact hnf
 ·rcases hb with e | e | e | e | e | e
  ·exact Or.inl ((h.ff b).2 (Or.inl e))
  ·exact Or.inl ((h.ff b).2 (Or.inr (Or.inl e)))
  ·exact Or.inl ((h.ff b).2 (Or.inr (Or.inr (Or.inl e))))
  ·exact Or.inl ((h.ff b).2 (Or.inr (Or.inr (Or.inr (Or.inl e)))))
  ·exact Or.inl ((h.ff b).2 (Or.inr (Or.inr (Or.inr (Or.inr e)))))
  ·exact Or.inr e.1
end
end Go.Proofs.YtbnmlkaejdpigaaGreatDoor
