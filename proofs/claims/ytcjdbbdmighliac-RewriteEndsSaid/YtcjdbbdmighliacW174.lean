/- Walks: all that one step makes of a term. -/
import Derived.Test.YtcjdbbdmighliacW173
import Derived.Test.YtcjdbbdmighliacRr
import Derived.Test.YtcjdbbdmighliacZBRewriteEndsOwn
import Derived.Test.YtcjdbbdmighliacZRewriteEndsOwn
import Derived.Deep.RegionHeld3
namespace Go.Proofs.Ytcjdbbdmighliac
open Go.RowKit Go.Shelf
attribute [local go_sem] Oper.semAt_some
set_option linter.unusedSimpArgs false
set_option linter.unusedVariables false
set_option maxRecDepth 8000

theorem downF_any (s : ByteArray) (aa fa : Option Addr) (n ca fn fc : Nat) (w : World) :
    Calls Try.prog 82 #[.agg #[.string s, .slice aa n ca], .slice fa fn fc] w fun e w' => e = .returned (.func (.func 104) #[] #[.pointer (some ⟨w.heap.size, 0, none⟩), .pointer (some ⟨w.heap.size + 1, 0, none⟩)]) ∧ w' = (w.alloc (.cells #[.string s, .slice aa n ca] 25)).alloc (.cells #[.slice fa fn fc] 34) := by
  have hmf : ∀ (fn : Fn) (first cap : Array Value) (w : World), (Instr.makeFunc fn first cap).run Try.prog w = .ok (.func fn first cap) w := fun _ _ _ _ => rfl
  go_enter Try.func82, Try.ntmps82
  go_wp2_with fail
  go_ret
  exact ⟨rfl, rfl⟩
theorem chancesF_any (ua : Option Addr) (un uc : Nat) (fn : Fn) (c1 c2 : Array Value) (w : World) :
    Calls Try.prog 81 #[.slice ua un uc, .func fn c1 c2] w fun e w' => e = .returned (.func (.func 102) #[] #[.pointer (some ⟨w.heap.size + 1, 0, none⟩), .pointer (some ⟨w.heap.size, 0, none⟩)]) ∧ w' = (w.alloc (.cells #[.slice ua un uc] 43)).alloc (.cells #[.func fn c1 c2] 113) := by
  have hmf : ∀ (fn : Fn) (first cap : Array Value) (w : World), (Instr.makeFunc fn first cap).run Try.prog w = .ok (.func fn first cap) w := fun _ _ _ _ => rfl
  go_enter Try.func81, Try.ntmps81
  go_wp2_with fail
  go_ret
  exact ⟨rfl, rfl⟩

/-- Blocks laid one behind the other. -/
def allocs (w : World) (os : List Obj) : World := os.foldl (fun w o => w.alloc o) w
theorem allocs_facts : ∀ (os : List Obj) (w : World), Below w.heap.size w (allocs w os) ∧ (allocs w os).heap.size = w.heap.size + os.length ∧ ∀ (i : Nat) (o : Obj), os[i]? = some o → (allocs w os).heap[w.heap.size + i]? = some o
  | [], w => ⟨Below.refl _ _, rfl, fun i o h => by simp at h⟩
  | o :: os, w => by
    obtain ⟨h1, h2, h3⟩ := allocs_facts os (w.alloc o)
    have e : allocs w (o :: os) = allocs (w.alloc o) os := rfl
    rw [e]
    refine ⟨((Below.refl _ _).alloc (Nat.le_refl _) o).trans (h1.mono (by simp)), by rw [h2]; simp; omega, fun i o' hi => ?_⟩
    cases i with
    | zero =>
      simp at hi
      subst hi
      have := h1.block w.heap.size (by simp)
      rw [Nat.add_zero, this]
      exact World.alloc_heap_new w o
    | succ i =>
      have := h3 i o' (by simpa using hi)
      rw [World.size_alloc] at this
      rw [show w.heap.size + (i + 1) = w.heap.size + 1 + i by omega]
      exact this

theorem dnL_at : ∀ (l : List Tm) (hs : List Int) (j st : Nat) (r : List Int) (d : Dn), d ∈ dnL hs j st r l → ∃ (k : Nat) (p : List Int) (h : k < l.length), d.1 = hs ++ ((j + k : Nat) : Int) :: p ∧ atT l[k] p = some d.2 := by
  intro l
  induction l using Tm.indL with
  | h0 => intro hs j st r d h; simp [dnL] at h
  | h s l rest ih1 ih2 =>
    intro hs j st r d h
    rw [dnL_cons] at h
    rcases List.mem_append.1 h with h | h
    · split at h
      · simp at h
      · unfold dnT at h
        rcases List.mem_cons.1 h with h | h
        · subst h
          exact ⟨0, [], by simp, by simp, by simp [atT]⟩
        · obtain ⟨k, p, hk, e1, e2⟩ := ih1 _ _ _ _ _ h
          refine ⟨0, ((0 + k : Nat) : Int) :: p, by simp, by rw [e1]; simp, ?_⟩
          have e : ((0 + k : Nat) : Int).toNat = k := by omega
          simp only [List.getElem_cons_zero, atT]
          rw [dif_pos ⟨by omega, by rw [e]; exact hk⟩]
          simp only [e]
          exact e2
    · obtain ⟨k, p, hk, e1, e2⟩ := ih2 _ _ _ _ _ h
      exact ⟨k + 1, p, by simp; omega, by rw [e1, show j + 1 + k = j + (k + 1) by omega], by simpa using e2⟩
theorem dnT_at {hs fs : List Int} {t : Tm} {d : Dn} (h : d ∈ dnT hs fs t) : ∃ p, d.1 = hs ++ p ∧ atT t p = some d.2 := by
  unfold dnT at h
  rcases List.mem_cons.1 h with h | h
  · subst h
    exact ⟨[], by simp, by simp [atT]⟩
  · obtain ⟨k, p, hk, e1, e2⟩ := dnL_at _ _ _ _ _ _ h
    refine ⟨((0 + k : Nat) : Int) :: p, e1, ?_⟩
    have e : ((0 + k : Nat) : Int).toNat = k := by omega
    rw [atT, dif_pos ⟨by omega, by rw [e]; exact hk⟩]
    simp only [e]
    exact e2
theorem chL_at {rs : List Pr} {t : Tm} {fs : List Int} {c : Ch} (h : c ∈ chL rs t fs) : atT t c.1.1 = some c.1.2 := by
  obtain ⟨d, hd, hc⟩ := List.mem_flatMap.1 h
  obtain ⟨y, _, rfl⟩ := List.mem_map.1 hc
  obtain ⟨p, e1, e2⟩ := dnT_at hd
  rw [List.nil_append] at e1
  rw [e1]
  exact e2
theorem dnL_len : ∀ (l : List Tm) (hs : List Int) (j st : Nat) (r : List Int), (dnL hs j st r l).length ≤ sizeL l := by
  intro l
  induction l using Tm.indL with
  | h0 => intro hs j st r; simp [dnL]
  | h s l rest ih1 ih2 =>
    intro hs j st r
    rw [dnL_cons, List.length_append]
    have h2 := ih2 hs (j + 1) st r
    have e : sizeL ((⟨s, l⟩ : Tm) :: rest) = 1 + sizeL l + sizeL rest := by simp [sizeL]
    rw [e]
    split
    · simp; omega
    · unfold dnT
      have h1 := ih1 (hs ++ [(j : Int)]) 0 (hdN (if j = st then r else [])) (if j = st then r else []).tail
      rw [List.length_cons]
      have e2 : (⟨s, l⟩ : Tm).args = l := rfl
      rw [e2]
      omega
theorem chL_len (rs : List Pr) (t : Tm) (fs : List Int) : (chL rs t fs).length ≤ sizeL [t] * rs.length := by
  have h1 : ∀ ds : List Dn, (ds.flatMap (chG rs)).length ≤ ds.length * rs.length := by
    intro ds
    induction ds with
    | nil => simp
    | cons d ds ih =>
      rw [List.flatMap_cons, List.length_append, List.length_cons, Nat.add_mul, Nat.one_mul]
      have : (chG rs d).length ≤ rs.length := by unfold chG fitsL; rw [List.length_map]; exact List.length_filterMap_le _ _
      omega
  have h2 : (dnT [] fs t).length ≤ sizeL [t] := by
    obtain ⟨s, l⟩ := t
    unfold dnT
    have := dnL_len l [] 0 (hdN fs) fs.tail
    have e : sizeL [(⟨s, l⟩ : Tm)] = 1 + sizeL l := by simp [sizeL]
    rw [e, List.length_cons]
    simp only
    omega
  exact Nat.le_trans (h1 _) (Nat.mul_le_mul_right _ h2)

/-- The last of a row is written. -/
theorem row_last {w3 : World} {N T n g cap : Nat} {xs : List Value} {z1 z2 u1 u2 : Value} (h : w3.ownsRow N T 2 (.slice (some ⟨g, 0, none⟩) (n + 1) cap) (n + 1) (xs ++ [z1, z2])) (hx : xs.length = n * 2) :
    w3.cell? ⟨g, n * 2, none⟩ = some z1 ∧ w3.cell? ⟨g, n * 2 + 1, none⟩ = some z2 ∧ (∀ i, w3.frozen? ⟨g, i, none⟩ = false) ∧ ∀ wF : World, wF.heap[g]? = ((w3.setCell ⟨g, n * 2, none⟩ u1).setCell ⟨g, n * 2 + 1, none⟩ u2).heap[g]? → wF.ownsRow N T 2 (.slice (some ⟨g, 0, none⟩) (n + 1) cap) (n + 1) (xs ++ [u1, u2]) := by
  obtain ⟨hl, h1⟩ := h
  rcases h1 with ⟨h1, _⟩ | ⟨g', cap', cur, hv, hg, hh, hnc, hcm, hcs, htk⟩
  · cases h1
  · simp at hv
    obtain ⟨rfl, rfl⟩ := hv
    have hlt : n * 2 + 1 < cur.size := by omega
    have c1 : cur.toList[n * 2]? = some z1 := by
      have := congrArg (fun l => l[n * 2]?) htk
      rw [List.getElem?_take_of_lt (by omega), List.getElem?_append_right (by omega), hx] at this
      simpa using this
    have c2 : cur.toList[n * 2 + 1]? = some z2 := by
      have := congrArg (fun l => l[n * 2 + 1]?) htk
      rw [List.getElem?_take_of_lt (by omega), List.getElem?_append_right (by omega), hx] at this
      simpa using this
    refine ⟨by simpa [World.cell?, hh] using c1, by simpa [World.cell?, hh] using c2, fun i => by simp [World.frozen?, hh], fun wF hF => ⟨by simp [hx]; omega, Or.inr ⟨g, cap, (cur.setIfInBounds (n * 2) u1).setIfInBounds (n * 2 + 1) u2, rfl, hg, ?_, hnc, hcm, by simpa using hcs, ?_⟩⟩⟩
    · rw [hF]
      simp [World.setCell, Array.getElem?_modify, hh]
    · rw [Array.toList_setIfInBounds, Array.toList_setIfInBounds, List.take_set, List.take_set, htk]
      rw [List.set_append_right _ _ (by omega), List.set_append_right _ _ (by omega), hx]
      simp

theorem Blk.set1R {w : World} {A T : Nat} {q v : Value} (h : Blk w A #[q] T) : Blk (w.setCell ⟨A, 0, none⟩ v) A #[v] T := by
  unfold Blk at *
  simp [World.setCell, Array.getElem?_modify, h]

/-- The last of the row g is written, and the row is put into the block A. -/
structure FwW (w3 : World) (A g n cap T : Nat) (u1 u2 : Value) (wF : World) : Prop where
  os : wF.os = w3.os
  tape : wF.tape = w3.tape
  output : wF.output = w3.output
  size : wF.heap.size = w3.heap.size
  other : ∀ b, b ≠ g → b ≠ A → wF.heap[b]? = w3.heap[b]?
  box : Blk wF A #[.slice (some ⟨g, 0, none⟩) (n + 1) cap] T
  row : wF.heap[g]? = ((w3.setCell ⟨g, n * 2, none⟩ u1).setCell ⟨g, n * 2 + 1, none⟩ u2).heap[g]?
theorem fw_a {w3 : World} {A g n cap T : Nat} {u1 u2 v : Value} (hne : A ≠ g) (hA : Blk w3 A #[v] T) : FwW w3 A g n cap T u1 u2 (((w3.setCell ⟨g, n * 2, none⟩ u1).setCell ⟨g, n * 2 + 1, none⟩ u2).setCell ⟨A, 0, none⟩ (.slice (some ⟨g, 0, none⟩) (n + 1) cap)) :=
  ⟨rfl, rfl, rfl, by simp [World.setCell], fun b h1 h2 => by rw [Below.heap_setCell _ _ _ _ (by simpa using h2), Below.heap_setCell _ _ _ _ (by simpa using h1), Below.heap_setCell _ _ _ _ (by simpa using h1)], Blk.set1R ((hA.setOther _ _ hne).setOther _ _ hne), Below.heap_setCell _ _ _ _ (by simpa using fun e => hne e.symm)⟩
theorem fw_b {w3 : World} {A g n cap T : Nat} {u1 u2 v : Value} (hne : A ≠ g) (hA : Blk w3 A #[v] T) : FwW w3 A g n cap T u1 u2 (((w3.setCell ⟨A, 0, none⟩ (.slice (some ⟨g, 0, none⟩) (n + 1) cap)).setCell ⟨g, n * 2, none⟩ u1).setCell ⟨g, n * 2 + 1, none⟩ u2) := by
  refine ⟨rfl, rfl, rfl, by simp [World.setCell], fun b h1 h2 => by rw [Below.heap_setCell _ _ _ _ (by simpa using h1), Below.heap_setCell _ _ _ _ (by simpa using h1), Below.heap_setCell _ _ _ _ (by simpa using h2)], ((Blk.set1R hA).setOther _ _ hne).setOther _ _ hne, ?_⟩
  have e : (w3.setCell ⟨A, 0, none⟩ (.slice (some ⟨g, 0, none⟩) (n + 1) cap)).heap[g]? = w3.heap[g]? := Below.heap_setCell _ _ _ _ (by simpa using fun e => hne e.symm)
  simp only [World.setCell, Array.getElem?_modify] at e ⊢
  simp only [e]
theorem own_form {w : World} {N e z n : Nat} {v : Value} {xs : List Value} (h : w.ownsRow N e z v n xs) : ∃ a c, v = .slice a n c := by
  rcases h.2 with ⟨rfl, rfl⟩ | ⟨g, cap, cur, hv, _⟩
  · exact ⟨none, 0, rfl⟩
  · exact ⟨_, _, hv⟩

/-- What a step makes of the term. -/
def outA (t : Tm) (c : Ch) : Tm := putT (outC c.2) c.1.1 t

/-- What is gathered: the row v in the block A; where a step was too great, the answer is told already. -/
def JA (t : Tm) (X K : Nat → Prop) (A R4 R5 L : Nat) (r rd : Loop) (W0 : World) : Tk Ch := fun pre s f W =>
  (∀ b, K b → b < W0.heap.size ∧ ¬ f b) ∧ W0.heap.size ≤ W.heap.size ∧ (∀ b, K b → W.heap[b]? = W0.heap[b]?) ∧ W.heap[L]? = some (.loop (if s = true then r else rd)) ∧ Blk W R4 #[.slice none 0 0] 23 ∧ Blk W R5 #[.int .i64 (if s = true then 0 else 8)] 27 ∧
  (∃ (v : Value) (l : List Tm) (xs : List Value) (E : Nat → Prop), (∀ b, f b ↔ b = L ∨ b = A ∨ b = R4 ∨ b = R5 ∨ v.ownBlock = some b ∨ E b) ∧ (∀ b, E b → W0.heap.size ≤ b ∧ b < W.heap.size ∧ v.ownBlock ≠ some b) ∧ Blk W A #[v] 23 ∧ W.ownsRow W0.heap.size 25 2 v l.length xs ∧ RowT W (fun b => X b ∨ E b) l xs ∧ (s = true → l = pre.map (outA t))) ∧
  (s = true → ∀ c ∈ pre, ¬ isFull t c.1 c.2) ∧ (s = false → ∃ c ∈ pre, isFull t c.1 c.2)

theorem JA.ok {t : Tm} {X K : Nat → Prop} {A R4 R5 L : Nat} {r rd : Loop} {W0 : World} (hXK : ∀ b, X b → K b) : TkOk (JA t X K A R4 R5 L r rd W0) K where
  inside := by
    rintro pre s f W ⟨hK, hz, hC, hL, h4, h5, ⟨v, l, xs, E, hf, hE, hA, ho, hr, hl⟩, h1, h2⟩ b hb
    rcases hb with hb | hb
    · rcases (hf b).1 hb with h | h | h | h | h | h
      · subst h; exact (Array.getElem?_eq_some_iff.1 hL).1
      · subst h; exact hA.lt
      · subst h; exact h4.lt
      · subst h; exact h5.lt
      · exact (ho.lt b h).2
      · exact (hE b h).2.1
    · have := (hK b hb).1; omega
  apart := by
    rintro pre s f W ⟨hK, hz, hC, hL, h4, h5, ⟨v, l, xs, E, hf, hE, hA, ho, hr, hl⟩, h1, h2⟩ b hb
    exact (hK b hb).2
  abide := by
    rintro pre s f W W' ⟨hK, hz, hC, hL, h4, h5, ⟨v, l, xs, E, hf, hE, hA, ho, hr, hl⟩, h1, h2⟩ hs hk
    refine ⟨hK, Nat.le_trans hz hs, fun b hb => (hk b (Or.inr hb)).trans (hC b hb), (hk L (Or.inl ((hf L).2 (Or.inl rfl)))).trans hL, (hk R4 (Or.inl ((hf R4).2 (Or.inr (Or.inr (Or.inl rfl)))))).trans h4, (hk R5 (Or.inl ((hf R5).2 (Or.inr (Or.inr (Or.inr (Or.inl rfl))))))).trans h5, ⟨v, l, xs, E, hf, fun b hb => ⟨(hE b hb).1, Nat.lt_of_lt_of_le (hE b hb).2.1 hs, (hE b hb).2.2⟩, (hk A (Or.inl ((hf A).2 (Or.inr (Or.inl rfl))))).trans hA, ownsRow_at ho fun g hg => hk g (Or.inl ((hf g).2 (Or.inr (Or.inr (Or.inr (Or.inr (Or.inl hg))))))), hr.imp fun a l hsl => hsl.kept fun b hb => ?_, hl⟩, h1, h2⟩
    rcases hb with hb | hb
    · exact hk b (Or.inr (hXK b hb))
    · exact hk b (Or.inl ((hf b).2 (Or.inr (Or.inr (Or.inr (Or.inr (Or.inr hb)))))))

def AllPost (rs : List Pr) (t : Tm) (X : Nat → Prop) (w : World) (e : Ending) (w' : World) : Prop :=
  Below w.heap.size w w' ∧ (((∀ c ∈ chL rs t [], ¬ isFull t c.1 c.2) ∧ ∃ v xs, e = .returned (.tuple #[v, .int .i64 0]) ∧ w'.ownsRow w.heap.size 25 2 v ((chL rs t []).map (outA t)).length xs ∧ RowT w' (fun b => (X b ∧ b < w.heap.size) ∨ (w.heap.size ≤ b ∧ v.ownBlock ≠ some b)) ((chL rs t []).map (outA t)) xs) ∨
    ((∃ c ∈ chL rs t [], isFull t c.1 c.2) ∧ e = .returned (.tuple #[.slice none 0 0, .int .i64 8])))

set_option maxHeartbeats 2000000 in
theorem all_any (rs : List Pr) (t : Tm) (u : Value) (aa : Option Addr) (ca : Nat) (w : World) (X0 : Nat → Prop) (hu : QV w X0 u rs) (hs : Sl w X0 aa t.args) (hz : sizeL [t] ≤ 2000) (hrs : rs.length ≤ 400) :
    Calls Try.prog 58 #[u, .agg #[.string t.name, .slice aa t.args.length ca]] w fun e w' => AllPost rs t X0 w e w' := by
  obtain ⟨X, hX, hXX, hu, hs⟩ : ∃ X : Nat → Prop, (∀ b, X b → b < w.heap.size) ∧ (∀ b, X b → X0 b) ∧ QV w X u rs ∧ Sl w X aa t.args := ⟨fun b => X0 b ∧ b < w.heap.size, fun _ h => h.2, fun _ h => h.1, hu.mono fun b h1 h2 => ⟨h1, h2⟩, hs.mono fun b h1 h2 => ⟨h1, h2⟩⟩
  have HX := hide hX
  have HXX := hide hXX
  have HU := hide hu
  have HS := hide hs
  obtain ⟨ua, uc, rfl, hul, _⟩ := hu
  clear hX hXX hs
  refine (callsIn_wide (n := 3)).1 ?_
  refine callsIn_of_wp_marks Try.func58 rfl trivial ?_ rfl
  simp only [Try.ntmps58, List.size_toArray, List.length_cons, List.length_nil, Nat.reduceAdd, Nat.reduceSub, Array.replicate_succ, Array.replicate_zero, List.push_toArray, List.append_toArray, List.nil_append, List.cons_append]
  have hf1 : Fence.wide.fn 82 := trivial
  have hf2 : Fence.wide.fn 81 := trivial
  gi_wp2_with (first | (gi_at_call 82; refine (callsIn_wide.2 (downF_any _ _ _ _ _ _ _ _)).mono ?_; rintro e w' ⟨rfl, rfl⟩) | (gi_at_call 81; refine (callsIn_wide.2 (chancesF_any _ _ _ _ _ _ _)).mono ?_; rintro e w' ⟨rfl, rfl⟩))
  refine wp_range2 (gf := 102) (lb := #[.pointer (some ⟨w.heap.size + 7, 0, none⟩), .pointer (some ⟨w.heap.size + 6, 0, none⟩)]) rfl (enters_of Try.func102 (by kernel_rfl) rfl) ?_
  intro r hr1 hr2 hr3 hr4 hr5 hr6
  have hz8 : ((((((((w.alloc (.cells #[.string t.name, .slice aa t.args.length ca] 25)).alloc (.cells #[.slice none 0 0] 23)).alloc (.cells #[.int .i64 0] 27)).alloc (.cells #[.slice none 0 0] 23)).alloc (.cells #[.string t.name, .slice aa t.args.length ca] 25)).alloc (.cells #[.slice none 0 0] 34)).alloc (.cells #[.slice ua rs.length uc] 43)).alloc (.cells #[.func (.func 104) #[] #[.pointer (some ⟨w.heap.size + 4, 0, none⟩), .pointer (some ⟨w.heap.size + 5, 0, none⟩)]] 113)).heap.size = w.heap.size + 8 := by simp
  have hW10 : ((((((((((w.alloc (.cells #[.string t.name, .slice aa t.args.length ca] 25)).alloc (.cells #[.slice none 0 0] 23)).alloc (.cells #[.int .i64 0] 27)).alloc (.cells #[.slice none 0 0] 23)).alloc (.cells #[.string t.name, .slice aa t.args.length ca] 25)).alloc (.cells #[.slice none 0 0] 34)).alloc (.cells #[.slice ua rs.length uc] 43)).alloc (.cells #[.func (.func 104) #[] #[.pointer (some ⟨w.heap.size + 4, 0, none⟩), .pointer (some ⟨w.heap.size + 5, 0, none⟩)]] 113)).alloc (.deferred (some []))).alloc (.loop r)) = allocs w [(.cells #[.string t.name, .slice aa t.args.length ca] 25 : Obj), (.cells #[.slice none 0 0] 23 : Obj), (.cells #[.int .i64 0] 27 : Obj), (.cells #[.slice none 0 0] 23 : Obj), (.cells #[.string t.name, .slice aa t.args.length ca] 25 : Obj), (.cells #[.slice none 0 0] 34 : Obj), (.cells #[.slice ua rs.length uc] 43 : Obj), (.cells #[.func (.func 104) #[] #[.pointer (some ⟨w.heap.size + 4, 0, none⟩), .pointer (some ⟨w.heap.size + 5, 0, none⟩)]] 113 : Obj), (.deferred (some []) : Obj), (.loop r : Obj)] := rfl
  rw [hz8]
  have HAF := hide (allocs_facts [(.cells #[.string t.name, .slice aa t.args.length ca] 25 : Obj), (.cells #[.slice none 0 0] 23 : Obj), (.cells #[.int .i64 0] 27 : Obj), (.cells #[.slice none 0 0] 23 : Obj), (.cells #[.string t.name, .slice aa t.args.length ca] 25 : Obj), (.cells #[.slice none 0 0] 34 : Obj), (.cells #[.slice ua rs.length uc] 43 : Obj), (.cells #[.func (.func 104) #[] #[.pointer (some ⟨w.heap.size + 4, 0, none⟩), .pointer (some ⟨w.heap.size + 5, 0, none⟩)]] 113 : Obj), (.deferred (some []) : Obj), (.loop r : Obj)] w)
  rw [← hW10] at HAF
  clear hW10
  generalize ((((((((((w.alloc (.cells #[.string t.name, .slice aa t.args.length ca] 25)).alloc (.cells #[.slice none 0 0] 23)).alloc (.cells #[.int .i64 0] 27)).alloc (.cells #[.slice none 0 0] 23)).alloc (.cells #[.string t.name, .slice aa t.args.length ca] 25)).alloc (.cells #[.slice none 0 0] 34)).alloc (.cells #[.slice ua rs.length uc] 43)).alloc (.cells #[.func (.func 104) #[] #[.pointer (some ⟨w.heap.size + 4, 0, none⟩), .pointer (some ⟨w.heap.size + 5, 0, none⟩)]] 113)).alloc (.deferred (some []))).alloc (.loop r)) = W5 at *
  have hz5 : W5.heap.size = w.heap.size + 10 := HAF.out.2.1
  have HB5 : Hid (Below w.heap.size w W5) := HAF.out.1
  have H0 : Hid (Blk W5 w.heap.size #[.string t.name, .slice aa t.args.length ca] 25) := HAF.out.2.2 0 _ rfl
  have H1 : Hid (Blk W5 (w.heap.size + 1) #[.slice none 0 0] 23) := HAF.out.2.2 1 _ rfl
  have H2 : Hid (Blk W5 (w.heap.size + 2) #[.int .i64 0] 27) := HAF.out.2.2 2 _ rfl
  have H3 : Hid (Blk W5 (w.heap.size + 3) #[.slice none 0 0] 23) := HAF.out.2.2 3 _ rfl
  have H4 : Hid (Blk W5 (w.heap.size + 4) #[.string t.name, .slice aa t.args.length ca] 25) := HAF.out.2.2 4 _ rfl
  have H5 : Hid (Blk W5 (w.heap.size + 5) #[.slice none 0 0] 34) := HAF.out.2.2 5 _ rfl
  have H6 : Hid (Blk W5 (w.heap.size + 6) #[.slice ua rs.length uc] 43) := HAF.out.2.2 6 _ rfl
  have H7 : Hid (Blk W5 (w.heap.size + 7) #[.func (.func 104) #[] #[.pointer (some ⟨w.heap.size + 4, 0, none⟩), .pointer (some ⟨w.heap.size + 5, 0, none⟩)]] 113) := HAF.out.2.2 7 _ rfl
  have H8 : Hid (W5.heap[w.heap.size + 8]? = some (.deferred (some []))) := HAF.out.2.2 8 _ rfl
  have H9 : Hid (W5.heap[w.heap.size + 9]? = some (.loop r)) := HAF.out.2.2 9 _ rfl
  clear HAF
  obtain ⟨K, hK⟩ : ∃ K : Nat → Prop, K = fun b => X b ∨ b = w.heap.size := ⟨_, rfl⟩
  have HKX : Hid (∀ b, X b → K b) := fun b hb => by rw [hK]; exact Or.inl hb
  have HKT : Hid (K w.heap.size) := by unfold Hid; rw [hK]; exact Or.inr rfl
  have HKl : Hid (∀ b, K b → b ≤ w.heap.size) := fun b hb => by
    rw [hK] at hb
    rcases hb with h | h
    · have := HX.out b h; omega
    · omega
  clear hK
  obtain ⟨rd, hrd⟩ : ∃ rd : Loop, rd = { r with state := .done, pending := some .ret } := ⟨_, rfl⟩
  obtain ⟨rb, hrb⟩ : ∃ rb : Loop, rb = { r with state := .busy } := ⟨_, rfl⟩
  have hok : TkOk (JA t X K (w.heap.size + 3) (w.heap.size + 1) (w.heap.size + 2) (w.heap.size + 9) r rd W5) K := JA.ok HKX.out
  have RH : Rnd (w.heap.size + 9) LpC (JA t X K (w.heap.size + 3) (w.heap.size + 1) (w.heap.size + 2) (w.heap.size + 9) r rd W5) (chL rs t []) := by
    have HR1 := hide hr1
    have HR2 := hide hr2
    have HR3 := hide hr3
    have HR4 := hide hr4
    have HR5 := hide hr5
    have HR6 := hide hr6
    clear hr1 hr2 hr3 hr4 hr5 hr6 hok hz8
    intro n pre c args Z f W hpfx hj hl hZ
    have hat : atT t c.1.1 = some c.1.2 := chL_at (hpfx.subset (by simp))
    have hlen : pre.length ≤ 1000000 := by
      have h1 := hpfx.length_le
      have h2 := chL_len rs t []
      have h3 : sizeL [t] * rs.length ≤ 2000 * 400 := Nat.mul_le_mul hz hrs
      rw [List.length_append] at h1
      omega
    clear hpfx
    obtain ⟨hK1, hzW, hC, hL, h4, h5, ⟨v, l, xs, E, hf, hE, hA, ho, hr, hll⟩, hnf, -⟩ := hj
    obtain ⟨ja, jc, xa, xc, ra, rc, q, Lm, rfl, hp, hxs, hrs', hq, hen⟩ := hl
    simp only [if_true] at hL h5
    have HLL := hide (hll rfl)
    have HNF := hide (hnf rfl)
    have HF := hide hf
    have HE := hide hE
    have HA := hide hA
    have HO := hide ho
    have HRW := hide hr
    have HK1 := hide hK1
    have HC := hide hC
    have H4W := hide h4
    have H5W := hide h5
    have HP := hide hp
    have HXS := hide hxs
    have HRS := hide hrs'
    have HEN := hide hen
    have HZ := hide hZ
    have HAT := hide hat
    have hlL : w.heap.size + 9 < W.heap.size := (Array.getElem?_eq_some_iff.1 hL).1
    clear hf hE hA ho hr hK1 hC h4 h5 hp hxs hrs' hen hZ hat hll hnf
    refine yield_two hrb hrd HR5.out HR6.out HR4.out HR3.out hL HR1.out HR2.out rfl ?_
    have hL2 : (W.alloc (.cells #[.slice ja c.1.1.length jc, .string c.1.2.name, .slice xa c.1.2.args.length xc, .string c.2.1.r.name, .slice ra c.2.1.r.args.length rc, .map (some q)] 119)).heap[w.heap.size + 9]? = some (.loop r) := (Below.heap_alloc _ _ _ hlL).trans hL
    have kV : ∀ b, b < W.heap.size → b ≠ w.heap.size + 9 → ((W.alloc (.cells #[.slice ja c.1.1.length jc, .string c.1.2.name, .slice xa c.1.2.args.length xc, .string c.2.1.r.name, .slice ra c.2.1.r.args.length rc, .map (some q)] 119)).putObj (w.heap.size + 9) (.loop rb)).heap[b]? = W.heap[b]? := fun b hb hne => (World.putObj_heap_other hne).trans (Below.heap_alloc _ _ _ hb)
    have hzV : ((W.alloc (.cells #[.slice ja c.1.1.length jc, .string c.1.2.name, .slice xa c.1.2.args.length xc, .string c.2.1.r.name, .slice ra c.2.1.r.args.length rc, .map (some q)] 119)).putObj (w.heap.size + 9) (.loop rb)).heap.size = W.heap.size + 1 := by simp
    have hCB : Blk ((W.alloc (.cells #[.slice ja c.1.1.length jc, .string c.1.2.name, .slice xa c.1.2.args.length xc, .string c.2.1.r.name, .slice ra c.2.1.r.args.length rc, .map (some q)] 119)).putObj (w.heap.size + 9) (.loop rb)) W.heap.size #[.slice ja c.1.1.length jc, .string c.1.2.name, .slice xa c.1.2.args.length xc, .string c.2.1.r.name, .slice ra c.2.1.r.args.length rc, .map (some q)] 119 := (World.putObj_heap_other (by omega)).trans (Blk.new W _ _)
    have hLV : ((W.alloc (.cells #[.slice ja c.1.1.length jc, .string c.1.2.name, .slice xa c.1.2.args.length xc, .string c.2.1.r.name, .slice ra c.2.1.r.args.length rc, .map (some q)] 119)).putObj (w.heap.size + 9) (.loop rb)).heap[w.heap.size + 9]? = some (.loop rb) := World.putObj_heap_same (by simp; omega)
    have hT0 : Blk ((W.alloc (.cells #[.slice ja c.1.1.length jc, .string c.1.2.name, .slice xa c.1.2.args.length xc, .string c.2.1.r.name, .slice ra c.2.1.r.args.length rc, .map (some q)] 119)).putObj (w.heap.size + 9) (.loop rb)) w.heap.size #[.string t.name, .slice aa t.args.length ca] 25 := (kV _ (by omega) (by omega)).trans ((HC.out _ HKT.out).trans H0.out)
    have c0 : ((W.alloc (.cells #[.slice ja c.1.1.length jc, .string c.1.2.name, .slice xa c.1.2.args.length xc, .string c.2.1.r.name, .slice ra c.2.1.r.args.length rc, .map (some q)] 119)).putObj (w.heap.size + 9) (.loop rb)).cell? ⟨W.heap.size, 0, none⟩ = some (.slice ja c.1.1.length jc) := hCB.cell 0
    have c1 : ((W.alloc (.cells #[.slice ja c.1.1.length jc, .string c.1.2.name, .slice xa c.1.2.args.length xc, .string c.2.1.r.name, .slice ra c.2.1.r.args.length rc, .map (some q)] 119)).putObj (w.heap.size + 9) (.loop rb)).cell? ⟨W.heap.size, 1, none⟩ = some (.string c.1.2.name) := hCB.cell 1
    have c2 : ((W.alloc (.cells #[.slice ja c.1.1.length jc, .string c.1.2.name, .slice xa c.1.2.args.length xc, .string c.2.1.r.name, .slice ra c.2.1.r.args.length rc, .map (some q)] 119)).putObj (w.heap.size + 9) (.loop rb)).cell? ⟨W.heap.size, 2, none⟩ = some (.slice xa c.1.2.args.length xc) := hCB.cell 2
    have c3 : ((W.alloc (.cells #[.slice ja c.1.1.length jc, .string c.1.2.name, .slice xa c.1.2.args.length xc, .string c.2.1.r.name, .slice ra c.2.1.r.args.length rc, .map (some q)] 119)).putObj (w.heap.size + 9) (.loop rb)).cell? ⟨W.heap.size, 3, none⟩ = some (.string c.2.1.r.name) := hCB.cell 3
    have c4 : ((W.alloc (.cells #[.slice ja c.1.1.length jc, .string c.1.2.name, .slice xa c.1.2.args.length xc, .string c.2.1.r.name, .slice ra c.2.1.r.args.length rc, .map (some q)] 119)).putObj (w.heap.size + 9) (.loop rb)).cell? ⟨W.heap.size, 4, none⟩ = some (.slice ra c.2.1.r.args.length rc) := hCB.cell 4
    have c5 : ((W.alloc (.cells #[.slice ja c.1.1.length jc, .string c.1.2.name, .slice xa c.1.2.args.length xc, .string c.2.1.r.name, .slice ra c.2.1.r.args.length rc, .map (some q)] 119)).putObj (w.heap.size + 9) (.loop rb)).cell? ⟨W.heap.size, 5, none⟩ = some (.map (some q)) := hCB.cell 5
    have t0 : ((W.alloc (.cells #[.slice ja c.1.1.length jc, .string c.1.2.name, .slice xa c.1.2.args.length xc, .string c.2.1.r.name, .slice ra c.2.1.r.args.length rc, .map (some q)] 119)).putObj (w.heap.size + 9) (.loop rb)).cell? ⟨w.heap.size, 0, none⟩ = some (.string t.name) := hT0.cell 0
    have t1 : ((W.alloc (.cells #[.slice ja c.1.1.length jc, .string c.1.2.name, .slice xa c.1.2.args.length xc, .string c.2.1.r.name, .slice ra c.2.1.r.args.length rc, .map (some q)] 119)).putObj (w.heap.size + 9) (.loop rb)).cell? ⟨w.heap.size, 1, none⟩ = some (.slice aa t.args.length ca) := hT0.cell 1
    have HOSV : Hid (((W.alloc (.cells #[.slice ja c.1.1.length jc, .string c.1.2.name, .slice xa c.1.2.args.length xc, .string c.2.1.r.name, .slice ra c.2.1.r.args.length rc, .map (some q)] 119)).putObj (w.heap.size + 9) (.loop rb)).os = W.os ∧ ((W.alloc (.cells #[.slice ja c.1.1.length jc, .string c.1.2.name, .slice xa c.1.2.args.length xc, .string c.2.1.r.name, .slice ra c.2.1.r.args.length rc, .map (some q)] 119)).putObj (w.heap.size + 9) (.loop rb)).tape = W.tape ∧ ((W.alloc (.cells #[.slice ja c.1.1.length jc, .string c.1.2.name, .slice xa c.1.2.args.length xc, .string c.2.1.r.name, .slice ra c.2.1.r.args.length rc, .map (some q)] 119)).putObj (w.heap.size + 9) (.loop rb)).output = W.output) := ⟨rfl, rfl, rfl⟩
    have HLV := hide hLV
    have HKV := hide kV
    clear hrb hrd hCB hT0 hLV kV
    gi_wp2
    refine ⟨(Array.getElem?_eq_some_iff.1 hL2).2, ?_⟩
    clear hL2
    generalize ((W.alloc (.cells #[.slice ja c.1.1.length jc, .string c.1.2.name, .slice xa c.1.2.args.length xc, .string c.2.1.r.name, .slice ra c.2.1.r.args.length rc, .map (some q)] 119)).putObj (w.heap.size + 9) (.loop rb)) = V at *
    gi_wp2
    clear c0 c1 c2 c3 c4 c5 t0 t1
    have hKne : ∀ b, K b → b < W.heap.size ∧ b ≠ w.heap.size + 9 := fun b hb => by have := HKl.out b hb; omega
    have hZne : ∀ b, Z b → b < W.heap.size ∧ b ≠ w.heap.size + 9 := fun b hb => ⟨(HZ.out b hb).1, fun h => (HZ.out b hb).2 ((HF.out b).2 (Or.inl h))⟩
    have hSV : Sl V X aa t.args := ((HS.out.later HB5.out).kept fun b hb => (HKV.out b (hKne b (HKX.out b hb)).1 (hKne b (HKX.out b hb)).2).trans (HC.out b (HKX.out b hb)))
    refine ⟨trivial, (fun h => by simp [Fence.wide] at h), ?_⟩
    refine (CallsIn.inRound _ (callsIn_wide.2 (take_step c.1 c.2 t ja xa ra aa jc xc rc ca q Lm V X Z (HP.out.kept fun b hb => HKV.out b (hZne b hb).1 (hZne b hb).2) (HXS.out.kept fun b hb => HKV.out b (hZne b hb).1 (hZne b hb).2) (HRS.out.kept fun b hb => HKV.out b (hZne b hb).1 (hZne b hb).2) ⟨HEN.out.1.kept (HKV.out q (hZne q hq).1 (hZne q hq).2), HEN.out.2.imp fun a l hs => hs.kept fun b hb => HKV.out b (hZne b hb).1 (hZne b hb).2⟩ hSV HAT.out hz))).mono ?_
    clear hSV
    rintro e w9 ⟨hb9, ⟨hnf, a9, c9, rfl, hs9⟩ | ⟨hfl, rfl⟩⟩
    · have hz9 := hb9.size
      have k9a : ∀ b, b < W.heap.size → b ≠ w.heap.size + 9 → w9.heap[b]? = W.heap[b]? := fun b hb hne => (hb9.block b (by omega)).trans (HKV.out b hb hne)
      have e0 : putT (outC c.2) c.1.1 t = outA t c := rfl
      rw [e0] at hs9 ⊢
      have HS9 := hide hs9
      have HNF9 := hide hnf
      have HB9 := hide hb9
      have HK9 := hide k9a
      have hmo : Try.prog.follows .mixedOrders = true := by kernel_rfl
      have hBA : Blk w9 (w.heap.size + 3) #[v] 23 := (k9a _ HA.out.lt (by omega)).trans HA.out
      have HBA := hide hBA
      have hAl := hBA.lt
      have hn1 : l.length ≤ 1000000 := by rw [HLL.out, List.length_map]; exact hlen
      have hxl : xs.length = l.length * 2 := HRW.out.len
      have hltv := HO.out.lt
      have hOV : (w9.alloc (.cells #[.string (outA t c).name, .slice a9 (outA t c).args.length c9] 25)).drew.ownsRow W5.heap.size 25 2 v l.length xs := ownsRow_at HO.out fun g hg => by
        have h1 := hltv g hg
        exact (Below.heap_alloc _ _ _ (by omega)).trans (k9a g h1.2 (by omega))
      clear hs9 hnf hb9 k9a hBA e0
      gi_wp2
      have XB8 := hide ((Blk.new w9 #[.string (outA t c).name, .slice a9 (outA t c).args.length c9] 25))
      have A8 := hide (HBA.out.alloc (.cells #[.string (outA t c).name, .slice a9 (outA t c).args.length c9] 25))
      have hz8 : (w9.alloc (.cells #[.string (outA t c).name, .slice a9 (outA t c).args.length c9] 25)).heap.size = w9.heap.size + 1 := by simp
      have HW8 : Hid (∀ b, b < w9.heap.size → (w9.alloc (.cells #[.string (outA t c).name, .slice a9 (outA t c).args.length c9] 25)).heap[b]? = w9.heap[b]?) := fun b hb => Below.heap_alloc _ _ _ hb
      have HOS8 : Hid ((w9.alloc (.cells #[.string (outA t c).name, .slice a9 (outA t c).args.length c9] 25)).os = w9.os ∧ (w9.alloc (.cells #[.string (outA t c).name, .slice a9 (outA t c).args.length c9] 25)).tape = w9.tape ∧ (w9.alloc (.cells #[.string (outA t c).name, .slice a9 (outA t c).args.length c9] 25)).output = w9.output) := ⟨rfl, rfl, rfl⟩
      have HOV := hide hOV
      clear hOV
      generalize (w9.alloc (.cells #[.string (outA t c).name, .slice a9 (outA t c).args.length c9] 25)) = V8 at *
      obtain ⟨i0, hi, hz0, hz1, hz2⟩ := info_parts Try.infoTerm
      obtain ⟨g, cap, w3, hrun, hown, hgrow, hgat, hglt⟩ := run_append_lies (P := Try.prog) (w := (V8.alloc (.cells #[.string ⟨#[]⟩, .slice none 0 0] 25)).drew) 23 23 W5.heap.size 25 i0 _ 2 40 Try.underlying23 hi hz0 hz1 hz2 rfl (by decide) v l.length xs (ownsRow_at HOV.out fun g hg => Below.heap_alloc _ _ _ (HOV.out.lt g hg).2)
        ⟨V8.heap.size, 0, none⟩ 1 1 [.string ⟨#[]⟩, .slice none 0 0] rfl (cell_term_new V8 _ _ _) (fun y hy => by simp at hy; rcases hy with rfl | rfl <;> rfl) (by decide) (by unfold maxLen; omega) (by omega) (by simp; omega) _ rfl
      have HRUN := hide hrun
      obtain ⟨q1, q2, q3, hlast⟩ := row_last (u1 := .string (outA t c).name) (u2 := .slice a9 (outA t c).args.length c9) hown hxl
      have hgN : W5.heap.size ≤ g := by
        rcases hgat with e | e
        · exact (HO.out.lt g e).1
        · simp at e; omega
      have hgv : ∀ b, b < V8.heap.size + 1 → v.ownBlock ≠ some b → w3.heap[b]? = (V8.alloc (.cells #[.string ⟨#[]⟩, .slice none 0 0] 25)).drew.heap[b]? := fun b hb hne => hgrow.block b (by simp; omega) (fun e => hne e.symm)
      have hz3 : V8.heap.size + 1 ≤ w3.heap.size := by have := hgrow.size; simp at this; omega
      have hnv : ∀ b, b < W5.heap.size → v.ownBlock ≠ some b := fun b hb e => by have := (hltv b e).1; omega
      have hA3 : Blk w3 (w.heap.size + 3) #[v] 23 := (hgv _ (by omega) (hnv _ (by omega))).trans ((A8.out.alloc _).drewN 1)
      have hX3 : Blk w3 w9.heap.size #[.string (outA t c).name, .slice a9 (outA t c).args.length c9] 25 := (hgv _ (by omega) (fun e => by have := (hltv _ e).2; omega)).trans ((XB8.out.alloc _).drewN 1)
      obtain ⟨va, vc, hv⟩ := own_form HO.out
      have hAg : w.heap.size + 3 ≠ g := by omega
      have hXg : w9.heap.size ≠ g := by
        rcases hgat with e | e
        · have := (hltv _ e).2; omega
        · simp at e; omega
      have a0 : V8.drew.cell? ⟨w.heap.size + 1 + 1 + 1, 0, none⟩ = some (.slice va l.length vc) := by rw [← hv]; exact (A8.out.drewN 1).cell 0
      have a1 : (V8.alloc (.cells #[.string ⟨#[]⟩, .slice none 0 0] 25)).drew.cell? ⟨w.heap.size + 1 + 1 + 1, 0, none⟩ = some (.slice va l.length vc) := by rw [← hv]; exact ((A8.out.alloc _).drewN 1).cell 0
      have a2 : (V8.alloc (.cells #[.string ⟨#[]⟩, .slice none 0 0] 25)).cell? ⟨w.heap.size + 1 + 1 + 1, 0, none⟩ = some (.slice va l.length vc) := by rw [← hv]; exact (A8.out.alloc _).cell 0
      have a4 : V8.cell? ⟨w.heap.size + 1 + 1 + 1, 0, none⟩ = some (.slice va l.length vc) := by rw [← hv]; exact A8.out.cell 0
      have a3 : w3.cell? ⟨w.heap.size + 1 + 1 + 1, 0, none⟩ = some v := hA3.cell 0
      have af : w3.frozen? ⟨w.heap.size + 1 + 1 + 1, 0, none⟩ = false := hA3.frozen 0
      have XD := hide (XB8.out.drewN 1)
      have XZ := hide ((XB8.out.alloc (.cells #[.string ⟨#[]⟩, .slice none 0 0] 25)).drewN 1)
      have X3 := hide hX3
      have HRUN2 : Hid ((Builtin.append_ #[23, 23] 23 #[.slice va l.length vc, .slice (some ⟨w9.heap.size + 1, 0, none⟩) 1 1]).run Try.prog (V8.alloc (.cells #[.string ⟨#[]⟩, .slice none 0 0] 25)).drew = .ok (.slice (some ⟨g, 0, none⟩) (l.length + 1) cap) w3) := by unfold Hid; rw [← hv, ← hz8]; exact HRUN.out
      have HGO : Hid (w3.os = V8.os ∧ w3.tape = V8.tape ∧ w3.output = V8.output) := ⟨hgrow.os, hgrow.tape, hgrow.output⟩
      have hl5 : (l.length : Int) < (l.length : Int) + 1 := by omega
      have X36 := hide ((X3.out.setOther (l.length * 2) (.string (outA t c).name) hXg).setOther (l.length * 2 + 1) (.slice a9 (outA t c).args.length c9) hXg)
      have hXA : w9.heap.size ≠ w.heap.size + 1 + 1 + 1 := by omega
      have X367 := hide (X36.out.setOther 0 (.slice (some ⟨g, 0, none⟩) (l.length + 1) cap) hXA)
      have X37 := hide (X3.out.setOther 0 (.slice (some ⟨g, 0, none⟩) (l.length + 1) cap) hXA)
      have X376 := hide ((X37.out.setOther (l.length * 2) (.string (outA t c).name) hXg).setOther (l.length * 2 + 1) (.slice a9 (outA t c).args.length c9) hXg)
      have HFIN : Hid (∀ wF, FwW w3 (w.heap.size + 3) g l.length cap 23 (.string (outA t c).name) (.slice a9 (outA t c).args.length c9) wF → wF.heap[w.heap.size + 9]? = some (.loop rb) ∧ ∃ f', JA t X K (w.heap.size + 3) (w.heap.size + 1) (w.heap.size + 2) (w.heap.size + 9) r rd W5 (pre ++ [c]) true f' (wF.putObj (w.heap.size + 9) (.loop r)) ∧ ExQ f W (wF.putObj (w.heap.size + 9) (.loop r)) ∧ ∀ b, f' b → f b ∨ W.heap.size ≤ b) := fun wF hF => by
        have hbg : ∀ b, b < V8.heap.size + 1 → v.ownBlock ≠ some b → b ≠ g := fun b hb hne e => by
          rcases hgat with h | h
          · rw [e] at hne; exact hne h
          · simp at h; omega
        have kF9 : ∀ b, b < w9.heap.size → b ≠ w.heap.size + 3 → v.ownBlock ≠ some b → wF.heap[b]? = w9.heap[b]? := fun b hb h3 hne => (hF.other b (hbg b (by omega) hne) h3).trans ((hgv b (by omega) hne).trans ((Below.heap_alloc V8 _ b (by omega)).trans (HW8.out b hb)))
        have kF : ∀ b, b < W.heap.size → b ≠ w.heap.size + 9 → b ≠ w.heap.size + 3 → v.ownBlock ≠ some b → wF.heap[b]? = W.heap[b]? := fun b hb h9 h3 hne => (kF9 b (by omega) h3 hne).trans (HK9.out b hb h9)
        have hzF : wF.heap.size = w3.heap.size := hF.size
        have hLv : v.ownBlock ≠ some (w.heap.size + 9) := hnv _ (by omega)
        have po : ∀ b, b ≠ w.heap.size + 9 → (wF.putObj (w.heap.size + 9) (.loop r)).heap[b]? = wF.heap[b]? := fun b hb => World.putObj_heap_other hb
        have hKK : ∀ b, K b → b < W.heap.size ∧ b ≠ w.heap.size + 9 ∧ b ≠ w.heap.size + 3 ∧ v.ownBlock ≠ some b := fun b hb => by
          have := HKl.out b hb
          exact ⟨by omega, by omega, by omega, hnv b (by omega)⟩
        refine ⟨(kF9 _ (by omega) (by omega) hLv).trans ((HB9.out.block _ (by omega)).trans HLV.out), fun b => b = w.heap.size + 9 ∨ b = w.heap.size + 3 ∨ b = w.heap.size + 1 ∨ b = w.heap.size + 2 ∨ (Value.slice (some ⟨g, 0, none⟩) (l.length + 1) cap).ownBlock = some b ∨ ((E b ∨ W.heap.size ≤ b) ∧ b < wF.heap.size ∧ b ≠ g), ⟨fun b hb => ⟨(HK1.out b hb).1, fun h => ?_⟩, by simp; omega, fun b hb => ?_, World.putObj_heap_same (by omega), (po _ (by omega)).trans ((kF _ H4W.out.lt (by omega) (by omega) (hnv _ (by omega))).trans H4W.out), (po _ (by omega)).trans ((kF _ H5W.out.lt (by omega) (by omega) (hnv _ (by omega))).trans H5W.out), ⟨.slice (some ⟨g, 0, none⟩) (l.length + 1) cap, l ++ [outA t c], xs ++ [.string (outA t c).name, .slice a9 (outA t c).args.length c9], fun b => (E b ∨ W.heap.size ≤ b) ∧ b < wF.heap.size ∧ b ≠ g, fun b => Iff.rfl, fun b hb => ⟨?_, by simpa using hb.2.1, fun e => hb.2.2 (by simpa [Value.ownBlock] using e.symm)⟩, (po _ (by omega)).trans hF.box, ?_, ?_, fun _ => by rw [HLL.out]; simp⟩, fun _ c' hc' => ?_, fun h => by cases h⟩, ⟨?_, ?_, ?_, by simp; omega, fun b hb hn => ?_⟩, fun b hb => ?_⟩
        · have h1 := HKl.out b hb
          rcases h with h | h | h | h | h | h
          · omega
          · omega
          · omega
          · omega
          · simp [Value.ownBlock] at h; omega
          · rcases h.1 with h | h
            · have := (HE.out b h).1; omega
            · omega
        · have h1 := hKK b hb
          exact (po b h1.2.1).trans ((kF b h1.1 h1.2.1 h1.2.2.1 h1.2.2.2).trans (HC.out b hb))
        · rcases hb.1 with h | h
          · exact (HE.out b h).1
          · omega
        · have h1 := hlast (wF.putObj (w.heap.size + 9) (.loop r)) ((po g (by omega)).trans hF.row)
          rw [List.length_append, List.length_singleton]
          exact h1
        · refine RowT.append (HRW.out.imp fun a' k' hs' => ?_) ⟨a9, c9, [], rfl, ?_, rfl⟩
          · refine ((hs'.mono (Y := fun b => (X b ∨ E b) ∧ b < W.heap.size) fun b h1 h2 => ⟨h1, h2⟩).kept (w' := wF.putObj (w.heap.size + 9) (.loop r)) fun b hb => ?_).mono fun b hb _ => ?_
            · rcases hb.1 with h | h
              · have h1 := hKK b (HKX.out b h)
                exact (po b h1.2.1).trans (kF b h1.1 h1.2.1 h1.2.2.1 h1.2.2.2)
              · have h1 := HE.out b h
                exact (po b (by omega)).trans (kF b hb.2 (by omega) (by omega) h1.2.2)
            · rcases hb.1 with h | h
              · exact Or.inl h
              · have h1 := HE.out b h
                exact Or.inr ⟨Or.inl h, by omega, hbg b (by omega) h1.2.2⟩
          · refine ((HS9.out.mono (Y := fun b => ((X b ∧ b < V.heap.size) ∨ V.heap.size ≤ b) ∧ b < w9.heap.size) fun b h1 h2 => ⟨h1, h2⟩).kept (w' := wF.putObj (w.heap.size + 9) (.loop r)) fun b hb => ?_).mono fun b hb _ => ?_
            · rcases hb.1 with h | h
              · have h1 := hKK b (HKX.out b h.1)
                exact (po b h1.2.1).trans (kF9 b hb.2 h1.2.2.1 h1.2.2.2)
              · exact (po b (by omega)).trans (kF9 b hb.2 (by omega) (fun e => by have := (hltv b e).2; omega))
            · rcases hb.1 with h | h
              · exact Or.inl h.1
              · exact Or.inr ⟨Or.inr (by omega), by omega, hbg b (by omega) (fun e => by have := (hltv b e).2; omega)⟩
        · rcases List.mem_append.1 hc' with h | h
          · exact HNF.out c' h
          · simp at h; subst h; exact HNF9.out
        · exact hF.os.trans (HGO.out.1.trans (HOS8.out.1.trans (HB9.out.os.trans HOSV.out.1)))
        · exact hF.tape.trans (HGO.out.2.1.trans (HOS8.out.2.1.trans (HB9.out.tape.trans HOSV.out.2.1)))
        · exact hF.output.trans (HGO.out.2.2.trans (HOS8.out.2.2.trans (HB9.out.output.trans HOSV.out.2.2)))
        · have h9 : b ≠ w.heap.size + 9 := fun h => hn ((HF.out b).2 (Or.inl h))
          have h3 : b ≠ w.heap.size + 3 := fun h => hn ((HF.out b).2 (Or.inr (Or.inl h)))
          exact (po b h9).trans (kF b hb h9 h3 (fun h => hn ((HF.out b).2 (Or.inr (Or.inr (Or.inr (Or.inr (Or.inl h))))))))
        · rcases hb with h | h | h | h | h | h
          · exact Or.inl ((HF.out b).2 (Or.inl h))
          · exact Or.inl ((HF.out b).2 (Or.inr (Or.inl h)))
          · exact Or.inl ((HF.out b).2 (Or.inr (Or.inr (Or.inl h))))
          · exact Or.inl ((HF.out b).2 (Or.inr (Or.inr (Or.inr (Or.inl h)))))
          · have e : g = b := by simpa [Value.ownBlock] using h
            subst e
            rcases hgat with h1 | h1
            · exact Or.inl ((HF.out g).2 (Or.inr (Or.inr (Or.inr (Or.inr (Or.inl h1))))))
            · right; simp at h1; omega
          · rcases h.1 with h1 | h1
            · exact Or.inl ((HF.out b).2 (Or.inr (Or.inr (Or.inr (Or.inr (Or.inr h1))))))
            · exact Or.inr h1
      have HA3 := hide hA3
      clear hA3 hX3 hrun hown hlast hgrow
      refine region_round (S := fun w' => Blk w' w9.heap.size #[.string (outA t c).name, .slice a9 (outA t c).args.length c9] 25) hmo ?_ XD.out (fun hHeld => ?_)
      · intro i o ho c' hc'
        match i, ho with
        | 0, ho => simp at ho; subst ho; cases hc'
        | 1, ho => simp at ho; subst ho; cases hc'
        | 2, ho => simp at ho; subst ho; cases hc'
        | 3, ho => simp at ho; subst ho; cases hc'
        | 4, ho => simp at ho; subst ho; cases hc'
        | 5, ho => simp at ho; subst ho; cases hc'
        | 6, ho => simp at ho; subst ho; cases hc'
        | 7, ho => simp at ho; subst ho; cases hc'
        | i + 8, ho => simp at ho
      refine wpAnyH_take (i := 1) (v := ?_) rfl (by kernel_rfl) (by kernel_rfl) (by kernel_rfl) (fun _ _ _ h => h) (Or.inl ⟨by rfl, ?_⟩) (by assumption) ?_
      rotate_left
      · intro w' hSw
        have c0 : w'.cell? ⟨w9.heap.size, 0, none⟩ = some (.string (outA t c).name) := Blk.cell hSw 0
        have c1 : w'.cell? ⟨w9.heap.size, 1, none⟩ = some (.slice a9 (outA t c).args.length c9) := Blk.cell hSw 1
        go_simp <;> with_reducible rfl
      try simp only [Act.put, List.setIfInBounds_toArray, List.set_cons_zero, List.set_cons_succ, List.getElem_toArray, List.getElem_cons_succ, List.getElem_cons_zero]
      refine wpAnyH_ready (rs := [0, 3]) (by kernel_rfl) (by simp) ?_
      refine AllReadyH.cons rfl (fun K hK => ?_) (AllReadyH.cons rfl (fun K hK => ?_) AllReadyH.nil)
      · go_simp
        refine hK.out _ _ (by exact XD.out) (fun hHeld => ?_)
        clear hK K
        try simp only [Act.put, List.setIfInBounds_toArray, List.set_cons_zero, List.set_cons_succ, List.getElem_toArray, List.getElem_cons_succ, List.getElem_cons_zero]
        refine wpAnyH_take (i := 2) (v := ?_) rfl (by kernel_rfl) (by kernel_rfl) (by kernel_rfl) (fun _ _ _ h => h) (Or.inl ⟨by rfl, ?_⟩) (by assumption) ?_
        rotate_left
        · intro w' hSw
          go_simp <;> with_reducible rfl
        try simp only [Act.put, List.setIfInBounds_toArray, List.set_cons_zero, List.set_cons_succ, List.getElem_toArray, List.getElem_cons_succ, List.getElem_cons_zero]
        refine wpAnyH_ready (rs := [3]) (by kernel_rfl) (by simp) ?_
        refine AllReadyH.cons rfl (fun K hK => ?_) AllReadyH.nil
        go_simp
        refine hK.out _ _ (by exact XZ.out) (fun hHeld => ?_)
        clear hK K
        try simp only [Act.put, List.setIfInBounds_toArray, List.set_cons_zero, List.set_cons_succ, List.getElem_toArray, List.getElem_cons_succ, List.getElem_cons_zero]
        refine wpAnyH_ready (rs := [4]) (by kernel_rfl) (by simp) ?_
        refine AllReadyH.cons rfl (fun K hK => ?_) AllReadyH.nil
        refine step_append_eq rfl _ _ _ _ rfl rfl rfl HRUN2.out ?_
        refine hK.out _ _ (by exact X3.out) (fun hHeld => ?_)
        clear hK K
        try simp only [Act.put, List.setIfInBounds_toArray, List.set_cons_zero, List.set_cons_succ, List.getElem_toArray, List.getElem_cons_succ, List.getElem_cons_zero]
        refine wpAnyH_take (i := 5) (v := ?_) rfl (by kernel_rfl) (by kernel_rfl) (by kernel_rfl) (fun _ _ _ h => h) (Or.inl ⟨by rfl, ?_⟩) (by assumption) ?_
        rotate_left
        · intro w' hSw
          go_simp <;> with_reducible rfl
        try simp only [Act.put, List.setIfInBounds_toArray, List.set_cons_zero, List.set_cons_succ, List.getElem_toArray, List.getElem_cons_succ, List.getElem_cons_zero]
        refine wpAnyH_ready (rs := [6, 7]) (by kernel_rfl) (by simp) ?_
        refine AllReadyH.cons rfl (fun K hK => ?_) (AllReadyH.cons rfl (fun K hK => ?_) AllReadyH.nil)
        · go_simp
          refine hK.out _ _ (by exact X36.out) (fun hHeld => ?_)
          clear hK K
          try simp only [Act.put, List.setIfInBounds_toArray, List.set_cons_zero, List.set_cons_succ, List.getElem_toArray, List.getElem_cons_succ, List.getElem_cons_zero]
          refine wpAnyH_ready (rs := [7]) (by kernel_rfl) (by simp) ?_
          refine AllReadyH.cons rfl (fun K hK => ?_) AllReadyH.nil
          go_simp
          refine hK.out _ _ (by exact X367.out) (fun hHeld => ?_)
          clear hK K
          try simp only [Act.put, List.setIfInBounds_toArray, List.set_cons_zero, List.set_cons_succ, List.getElem_toArray, List.getElem_cons_succ, List.getElem_cons_zero]
          refine wpAnyH_done (by kernel_rfl) ?_ _
          refine ⟨by simp, ?_⟩
          refine HFIN.out _ ?_
          exact fw_a hAg HA3.out
        · go_simp
          refine hK.out _ _ (by exact X37.out) (fun hHeld => ?_)
          clear hK K
          try simp only [Act.put, List.setIfInBounds_toArray, List.set_cons_zero, List.set_cons_succ, List.getElem_toArray, List.getElem_cons_succ, List.getElem_cons_zero]
          refine wpAnyH_ready (rs := [6]) (by kernel_rfl) (by simp) ?_
          refine AllReadyH.cons rfl (fun K hK => ?_) AllReadyH.nil
          go_simp
          refine hK.out _ _ (by exact X376.out) (fun hHeld => ?_)
          clear hK K
          try simp only [Act.put, List.setIfInBounds_toArray, List.set_cons_zero, List.set_cons_succ, List.getElem_toArray, List.getElem_cons_succ, List.getElem_cons_zero]
          refine wpAnyH_done (by kernel_rfl) ?_ _
          refine ⟨by simp, ?_⟩
          refine HFIN.out _ ?_
          exact fw_b hAg HA3.out
      · go_simp
        refine hK.out _ _ (by exact XZ.out) (fun hHeld => ?_)
        clear hK K
        try simp only [Act.put, List.setIfInBounds_toArray, List.set_cons_zero, List.set_cons_succ, List.getElem_toArray, List.getElem_cons_succ, List.getElem_cons_zero]
        refine wpAnyH_ready (rs := [0]) (by kernel_rfl) (by simp) ?_
        refine AllReadyH.cons rfl (fun K hK => ?_) AllReadyH.nil
        go_simp
        refine hK.out _ _ (by exact XZ.out) (fun hHeld => ?_)
        clear hK K
        try simp only [Act.put, List.setIfInBounds_toArray, List.set_cons_zero, List.set_cons_succ, List.getElem_toArray, List.getElem_cons_succ, List.getElem_cons_zero]
        refine wpAnyH_take (i := 2) (v := ?_) rfl (by kernel_rfl) (by kernel_rfl) (by kernel_rfl) (fun _ _ _ h => h) (Or.inl ⟨by rfl, ?_⟩) (by assumption) ?_
        rotate_left
        · intro w' hSw
          go_simp <;> with_reducible rfl
        try simp only [Act.put, List.setIfInBounds_toArray, List.set_cons_zero, List.set_cons_succ, List.getElem_toArray, List.getElem_cons_succ, List.getElem_cons_zero]
        refine wpAnyH_ready (rs := [4]) (by kernel_rfl) (by simp) ?_
        refine AllReadyH.cons rfl (fun K hK => ?_) AllReadyH.nil
        refine step_append_eq rfl _ _ _ _ rfl rfl rfl HRUN2.out ?_
        refine hK.out _ _ (by exact X3.out) (fun hHeld => ?_)
        clear hK K
        try simp only [Act.put, List.setIfInBounds_toArray, List.set_cons_zero, List.set_cons_succ, List.getElem_toArray, List.getElem_cons_succ, List.getElem_cons_zero]
        refine wpAnyH_take (i := 5) (v := ?_) rfl (by kernel_rfl) (by kernel_rfl) (by kernel_rfl) (fun _ _ _ h => h) (Or.inl ⟨by rfl, ?_⟩) (by assumption) ?_
        rotate_left
        · intro w' hSw
          go_simp <;> with_reducible rfl
        try simp only [Act.put, List.setIfInBounds_toArray, List.set_cons_zero, List.set_cons_succ, List.getElem_toArray, List.getElem_cons_succ, List.getElem_cons_zero]
        refine wpAnyH_ready (rs := [6, 7]) (by kernel_rfl) (by simp) ?_
        refine AllReadyH.cons rfl (fun K hK => ?_) (AllReadyH.cons rfl (fun K hK => ?_) AllReadyH.nil)
        · go_simp
          refine hK.out _ _ (by exact X36.out) (fun hHeld => ?_)
          clear hK K
          try simp only [Act.put, List.setIfInBounds_toArray, List.set_cons_zero, List.set_cons_succ, List.getElem_toArray, List.getElem_cons_succ, List.getElem_cons_zero]
          refine wpAnyH_ready (rs := [7]) (by kernel_rfl) (by simp) ?_
          refine AllReadyH.cons rfl (fun K hK => ?_) AllReadyH.nil
          go_simp
          refine hK.out _ _ (by exact X367.out) (fun hHeld => ?_)
          clear hK K
          try simp only [Act.put, List.setIfInBounds_toArray, List.set_cons_zero, List.set_cons_succ, List.getElem_toArray, List.getElem_cons_succ, List.getElem_cons_zero]
          refine wpAnyH_done (by kernel_rfl) ?_ _
          refine ⟨by simp, ?_⟩
          refine HFIN.out _ ?_
          exact fw_a hAg HA3.out
        · go_simp
          refine hK.out _ _ (by exact X37.out) (fun hHeld => ?_)
          clear hK K
          try simp only [Act.put, List.setIfInBounds_toArray, List.set_cons_zero, List.set_cons_succ, List.getElem_toArray, List.getElem_cons_succ, List.getElem_cons_zero]
          refine wpAnyH_ready (rs := [6]) (by kernel_rfl) (by simp) ?_
          refine AllReadyH.cons rfl (fun K hK => ?_) AllReadyH.nil
          go_simp
          refine hK.out _ _ (by exact X376.out) (fun hHeld => ?_)
          clear hK K
          try simp only [Act.put, List.setIfInBounds_toArray, List.set_cons_zero, List.set_cons_succ, List.getElem_toArray, List.getElem_cons_succ, List.getElem_cons_zero]
          refine wpAnyH_done (by kernel_rfl) ?_ _
          refine ⟨by simp, ?_⟩
          refine HFIN.out _ ?_
          exact fw_b hAg HA3.out
    · have hz9 := hb9.size
      have k9 : ∀ b, b < W.heap.size → b ≠ w.heap.size + 9 → w9.heap[b]? = W.heap[b]? := fun b hb hne => (hb9.block b (by omega)).trans (HKV.out b hb hne)
      have B4 : Blk w9 (w.heap.size + 1) #[.slice none 0 0] 23 := (k9 _ H4W.out.lt (by omega)).trans H4W.out
      have B5 : Blk w9 (w.heap.size + 1 + 1) #[.int .i64 0] 27 := (k9 _ H5W.out.lt (by omega)).trans H5W.out
      have b4 : w9.cell? ⟨w.heap.size + 1, 0, none⟩ = some (.slice none 0 0) := B4.cell 0
      have b5 : w9.cell? ⟨w.heap.size + 1 + 1, 0, none⟩ = some (.int .i64 0) := B5.cell 0
      have f4 : w9.frozen? ⟨w.heap.size + 1, 0, none⟩ = false := B4.frozen 0
      have f5 : w9.frozen? ⟨w.heap.size + 1 + 1, 0, none⟩ = false := B5.frozen 0
      have hl4 := B4.lt
      have hl5 := B5.lt
      gi_wp2
      have po : ∀ b, b ≠ w.heap.size + 9 → b ≠ w.heap.size + 1 → b ≠ w.heap.size + 2 → b < W.heap.size → ((((w9.setCell ⟨w.heap.size + 1, 0, none⟩ (.slice none 0 0)).setCell ⟨w.heap.size + 1 + 1, 0, none⟩ (.int .i64 8)).alloc (.cells #[.string ⟨#[]⟩, .slice none 0 0] 25)).putObj (w.heap.size + 9) (.loop rd)).heap[b]? = W.heap[b]? := fun b h9 h1 h2 hb => by
        rw [World.putObj_heap_other h9, Below.heap_alloc _ _ _ (by simp [World.setCell]; omega), Below.heap_setCell _ _ _ _ (by simpa using h2), Below.heap_setCell _ _ _ _ (by simpa using h1), k9 b hb h9]
      have hltv := HO.out.lt
      refine ⟨?_, f, ⟨HK1.out, by simp [World.setCell]; omega, fun b hb => ?_, World.putObj_heap_same (by simp [World.setCell]; omega), ?_, ?_, ⟨v, l, xs, E, HF.out, fun b hb => ⟨(HE.out b hb).1, by have := (HE.out b hb).2.1; simp [World.setCell]; omega, (HE.out b hb).2.2⟩, ?_, ownsRow_at HO.out fun g hg => ?_, HRW.out.imp fun a' k' hs' => ?_, fun h => by cases h⟩, (fun h => by cases h), fun _ => ⟨c, by simp, hfl⟩⟩, ⟨?_, ?_, ?_, by simp [World.setCell]; omega, fun b hb hn => ?_⟩, fun b hb => Or.inl hb⟩
      · rw [Below.heap_alloc _ _ _ (by simp [World.setCell]; omega), Below.heap_setCell _ _ _ _ (by simp), Below.heap_setCell _ _ _ _ (by simp), hb9.block _ (by omega)]
        exact HLV.out
      · have h1 := HKl.out b hb
        exact (po b (by omega) (by omega) (by omega) (by omega)).trans (HC.out b hb)
      · exact (World.putObj_heap_other (by omega)).trans ((Blk.setOther (Blk.set1R B4) _ _ (by omega)).alloc _)
      · exact (World.putObj_heap_other (by omega)).trans ((Blk.set1R (B5.setOther _ _ (by omega))).alloc _)
      · exact (po _ (by omega) (by omega) (by omega) HA.out.lt).trans HA.out
      · have h1 := hltv g hg
        exact po g (by omega) (by omega) (by omega) h1.2
      · refine ((hs'.mono (Y := fun b => (X b ∨ E b) ∧ b < W.heap.size) fun b h1 h2 => ⟨h1, h2⟩).kept fun b hb => ?_).mono fun b hb _ => hb.1
        rcases hb.1 with h | h
        · have h1 := HKl.out b (HKX.out b h)
          exact po b (by omega) (by omega) (by omega) hb.2
        · have h1 := HE.out b h
          exact po b (by omega) (by omega) (by omega) hb.2
      · exact hb9.os.trans HOSV.out.1
      · exact hb9.tape.trans HOSV.out.2.1
      · exact hb9.output.trans HOSV.out.2.2
      · exact po b (fun h => hn ((HF.out b).2 (Or.inl h))) (fun h => hn ((HF.out b).2 (Or.inr (Or.inr (Or.inl h))))) (fun h => hn ((HF.out b).2 (Or.inr (Or.inr (Or.inr (Or.inl h)))))) hb
  have hst : JA t X K (w.heap.size + 3) (w.heap.size + 1) (w.heap.size + 2) (w.heap.size + 9) r rd W5 [] true (fun b => b = w.heap.size + 9 ∨ b = w.heap.size + 3 ∨ b = w.heap.size + 1 ∨ b = w.heap.size + 2 ∨ (Value.slice none 0 0).ownBlock = some b ∨ False) W5 := by
    refine ⟨fun b hb => ⟨by have := HKl.out b hb; omega, fun h => ?_⟩, Nat.le_refl _, fun b _ => rfl, H9.out, H1.out, H2.out, ⟨.slice none 0 0, [], [], fun _ => False, fun b => Iff.rfl, fun b hb => hb.elim, H3.out, World.ownsRow_nil _ _ _ _, rfl, fun _ => rfl⟩, fun _ c hc => by simp at hc, fun h => by cases h⟩
    have := HKl.out b hb
    rcases h with h | h | h | h | h | h
    · omega
    · omega
    · omega
    · omega
    · simp [Value.ownBlock] at h
    · exact h
  have hHX : ∀ b, X b → b < w.heap.size := HX.out
  refine (chances1I_any hok (w.heap.size + 9) RH rs t [] (w.heap.size + 7) (w.heap.size + 6) (w.heap.size + 4) (w.heap.size + 5) (.slice ua rs.length uc) aa ca (.slice none 0 0) [] _ W5 X H7.out H6.out (HU.out.later HB5.out) H4.out (HS.out.later HB5.out) H5.out ⟨none, 0, rfl, by simp, Or.inl rfl⟩ rfl (fun b hb => ⟨by have := hHX b hb; omega, fun h => by
    have := hHX b hb
    rcases h with h | h | h | h | h | h
    · omega
    · omega
    · omega
    · omega
    · simp [Value.ownBlock] at h
    · exact h⟩) (fun h => by
    rcases h with h | h | h | h | h | h
    · omega
    · omega
    · omega
    · omega
    · simp [Value.ownBlock] at h
    · exact h) hst (by omega) (by simp)).mono ?_
  rintro e Wf ⟨hret, s, hw⟩
  obtain ⟨m, f', hm, hms, hj, he, hff⟩ := hw
  rw [List.nil_append] at hj
  obtain ⟨hK9, hz9, hC9, hL9, h49, h59, ⟨v, l, xs, E, hf9, hE9, hA9, ho9, hr9, hl9⟩, hnf9, hfl9⟩ := hj
  have hlt9 := ho9.lt
  have HD9 : Hid (Wf.heap[w.heap.size + 8]? = some (.deferred (some []))) := (he.block _ (by omega) (fun h => by
    rcases h with (h | h | h | h | h | h) | h
    · omega
    · omega
    · omega
    · omega
    · simp [Value.ownBlock] at h
    · exact h
    · exact h)).trans H8.out
  have HBF : Hid (∀ b, b < w.heap.size → Wf.heap[b]? = w.heap[b]?) := fun b hb => (he.block b (by omega) (fun h => by
    rcases h with (h | h | h | h | h | h) | h
    · omega
    · omega
    · omega
    · omega
    · simp [Value.ownBlock] at h
    · exact h
    · exact h)).trans (HB5.out.block b hb)
  have HOSF : Hid (Wf.os = w.os ∧ Wf.tape = w.tape ∧ Wf.output = w.output) := ⟨he.os.trans HB5.out.os, he.tape.trans HB5.out.tape, he.output.trans HB5.out.output⟩
  have HRET := hide hret
  have HL9 := hide hL9
  have HHX := hide hHX
  clear he hff hst RH hok hret
  refine ⟨HRET.out, ?_⟩
  cases s with
  | true =>
    left
    refine ⟨HL9.out, ?_⟩
    have em := hms rfl
    subst em
    rw [List.take_length] at hl9 hnf9
    have HLL := hide (hl9 rfl)
    have HNF := hide (hnf9 rfl)
    clear hl9 hnf9 hfl9 hms hm hr1 hr2 hr3 hr4 hr5 hr6
    obtain ⟨va, vc, rfl⟩ := own_form ho9
    have q4 : ∀ o, (Wf.putObj (w.heap.size + 9) o).cell? ⟨w.heap.size + 1, 0, none⟩ = some (.slice none 0 0) := fun o => (World.cell?_of_block (World.putObj_heap_other (by simp))).trans (h49.cell 0)
    have q5 : ∀ o, (Wf.putObj (w.heap.size + 9) o).cell? ⟨w.heap.size + 1 + 1, 0, none⟩ = some (.int .i64 0) := fun o => (World.cell?_of_block (World.putObj_heap_other (by simp))).trans (h59.cell 0)
    have qa : ∀ o, (Wf.putObj (w.heap.size + 9) o).cell? ⟨w.heap.size + 1 + 1 + 1, 0, none⟩ = some (.slice va l.length vc) := fun o => (World.cell?_of_block (World.putObj_heap_other (by simp))).trans (hA9.cell 0)
    have g4 : ∀ o, (Wf.putObj (w.heap.size + 9) o).frozen? ⟨w.heap.size + 1, 0, none⟩ = false := fun o => Blk.frozen (show Blk (Wf.putObj (w.heap.size + 9) o) (w.heap.size + 1) _ _ from (World.putObj_heap_other (by simp)).trans h49) 0
    have g5 : ∀ o, (Wf.putObj (w.heap.size + 9) o).frozen? ⟨w.heap.size + 1 + 1, 0, none⟩ = false := fun o => Blk.frozen (show Blk (Wf.putObj (w.heap.size + 9) o) (w.heap.size + 1 + 1) _ _ from (World.putObj_heap_other (by simp)).trans h59) 0
    have pf : ∀ (o o1 : Obj) b, b ≠ w.heap.size + 9 → b ≠ w.heap.size + 8 → b ≠ w.heap.size + 1 → b ≠ w.heap.size + 2 → ((((Wf.putObj (w.heap.size + 9) o).setCell ⟨w.heap.size + 1, 0, none⟩ (.slice va l.length vc)).setCell ⟨w.heap.size + 1 + 1, 0, none⟩ (.int .i64 0)).putObj (w.heap.size + 8) o1).heap[b]? = Wf.heap[b]? := fun o o1 b h9 h8 h1 h2 => by
      rw [World.putObj_heap_other h8, Below.heap_setCell _ _ _ _ (by simpa using h2), Below.heap_setCell _ _ _ _ (by simpa using h1), World.putObj_heap_other h9]
    have HDD : Hid (∀ o, (((Wf.putObj (w.heap.size + 9) o).setCell ⟨w.heap.size + 1, 0, none⟩ (.slice va l.length vc)).setCell ⟨w.heap.size + 1 + 1, 0, none⟩ (.int .i64 0)).heap[w.heap.size + 8]? = some (.deferred (some []))) := fun o => by
      rw [Below.heap_setCell _ _ _ _ (by simp), Below.heap_setCell _ _ _ _ (by simp), World.putObj_heap_other (by omega)]
      exact HD9.out
    have r4 : ∀ (o o1 : Obj), ((((Wf.putObj (w.heap.size + 9) o).setCell ⟨w.heap.size + 1, 0, none⟩ (.slice va l.length vc)).setCell ⟨w.heap.size + 1 + 1, 0, none⟩ (.int .i64 0)).putObj (w.heap.size + 8) o1).cell? ⟨w.heap.size + 1, 0, none⟩ = some (.slice va l.length vc) := fun o o1 => by
      have h : Blk ((((Wf.putObj (w.heap.size + 9) o).setCell ⟨w.heap.size + 1, 0, none⟩ (.slice va l.length vc)).setCell ⟨w.heap.size + 1 + 1, 0, none⟩ (.int .i64 0)).putObj (w.heap.size + 8) o1) (w.heap.size + 1) #[.slice va l.length vc] 23 := (World.putObj_heap_other (by omega)).trans ((Blk.set1R ((World.putObj_heap_other (by omega)).trans h49)).setOther _ _ (by omega))
      exact h.cell 0
    have r5 : ∀ (o o1 : Obj), ((((Wf.putObj (w.heap.size + 9) o).setCell ⟨w.heap.size + 1, 0, none⟩ (.slice va l.length vc)).setCell ⟨w.heap.size + 1 + 1, 0, none⟩ (.int .i64 0)).putObj (w.heap.size + 8) o1).cell? ⟨w.heap.size + 1 + 1, 0, none⟩ = some (.int .i64 0) := fun o o1 => by
      have h : Blk ((((Wf.putObj (w.heap.size + 9) o).setCell ⟨w.heap.size + 1, 0, none⟩ (.slice va l.length vc)).setCell ⟨w.heap.size + 1 + 1, 0, none⟩ (.int .i64 0)).putObj (w.heap.size + 8) o1) (w.heap.size + 1 + 1) #[.int .i64 0] 27 := (World.putObj_heap_other (by omega)).trans (Blk.set1R (Blk.setOther (show Blk (Wf.putObj (w.heap.size + 9) o) (w.heap.size + 1 + 1) #[.int .i64 0] 27 from (World.putObj_heap_other (by omega)).trans h59) _ _ (by omega)))
      exact h.cell 0
    have HFIN : Hid (∀ (o o1 : Obj), AllPost rs t X0 w (.returned (.tuple #[.slice va l.length vc, .int .i64 0])) ((((Wf.putObj (w.heap.size + 9) o).setCell ⟨w.heap.size + 1, 0, none⟩ (.slice va l.length vc)).setCell ⟨w.heap.size + 1 + 1, 0, none⟩ (.int .i64 0)).putObj (w.heap.size + 8) o1)) := fun o o1 => by
      refine ⟨⟨HOSF.out.1, HOSF.out.2.1, HOSF.out.2.2, by simp [World.setCell]; omega, fun b hb => (pf o o1 b (by omega) (by omega) (by omega) (by omega)).trans (HBF.out b hb)⟩, Or.inl ⟨HNF.out, _, xs, rfl, ?_, ?_⟩⟩
      · rw [← HLL.out]
        exact owns_mono (ownsRow_at ho9 fun g hg => by have := hlt9 g hg; exact pf o o1 g (by omega) (by omega) (by omega) (by omega)) (by omega)
      · rw [← HLL.out]
        refine hr9.imp fun a' k' hs' => (hs'.kept fun b hb => ?_).mono fun b hb _ => ?_
        · rcases hb with h | h
          · have := HHX.out b h; exact pf o o1 b (by omega) (by omega) (by omega) (by omega)
          · have := hE9 b h; exact pf o o1 b (by omega) (by omega) (by omega) (by omega)
        · rcases hb with h | h
          · exact Or.inl ⟨HXX.out b h, HHX.out b h⟩
          · have h1 := hE9 b h
            exact Or.inr ⟨by omega, h1.2.2⟩
    gi_wp2
    refine ⟨by simp, .inl ⟨_, _, rfl, run_takeDeferred (HDD.out _), ?_⟩⟩
    exact ⟨.tuple #[.slice va l.length vc, .int .i64 0], by simp [results, Try.results58, go_sem, r4, r5], HFIN.out _ _⟩
  | false =>
    right
    refine ⟨by rw [← hrd]; exact HL9.out, ?_⟩
    have HFL := hide (hfl9 rfl)
    clear hl9 hnf9 hfl9 hms hm hr1 hr2 hr3 hr4 hr5 hr6
    simp only [Bool.false_eq_true, if_false] at h59
    have pf : ∀ (o o1 : Obj) b, b ≠ w.heap.size + 9 → b ≠ w.heap.size + 8 → ((Wf.putObj (w.heap.size + 9) o).putObj (w.heap.size + 8) o1).heap[b]? = Wf.heap[b]? := fun o o1 b h9 h8 => (World.putObj_heap_other h8).trans (World.putObj_heap_other h9)
    have HDD : Hid (∀ o, (Wf.putObj (w.heap.size + 9) o).heap[w.heap.size + 8]? = some (.deferred (some []))) := fun o => (World.putObj_heap_other (by omega)).trans HD9.out
    have r4 : ∀ (o o1 : Obj), ((Wf.putObj (w.heap.size + 9) o).putObj (w.heap.size + 8) o1).cell? ⟨w.heap.size + 1, 0, none⟩ = some (.slice none 0 0) := fun o o1 => (World.cell?_of_block (pf o o1 _ (by simp) (by simp))).trans (h49.cell 0)
    have r5 : ∀ (o o1 : Obj), ((Wf.putObj (w.heap.size + 9) o).putObj (w.heap.size + 8) o1).cell? ⟨w.heap.size + 1 + 1, 0, none⟩ = some (.int .i64 8) := fun o o1 => (World.cell?_of_block (pf o o1 _ (by simp) (by simp))).trans (h59.cell 0)
    have HFIN : Hid (∀ (o o1 : Obj), AllPost rs t X0 w (.returned (.tuple #[.slice none 0 0, .int .i64 8])) ((Wf.putObj (w.heap.size + 9) o).putObj (w.heap.size + 8) o1)) := fun o o1 => by
      refine ⟨⟨HOSF.out.1, HOSF.out.2.1, HOSF.out.2.2, by simp; omega, fun b hb => (pf o o1 b (by omega) (by omega)).trans (HBF.out b hb)⟩, Or.inr ⟨?_, rfl⟩⟩
      obtain ⟨c, hc, h⟩ := HFL.out
      exact ⟨c, List.mem_of_mem_take hc, h⟩
    gi_wp2
    refine ⟨by simp, .inl ⟨_, _, rfl, run_takeDeferred (HDD.out _), ?_⟩⟩
    exact ⟨.tuple #[.slice none 0 0, .int .i64 8], by simp [results, Try.results58, go_sem, r4, r5], HFIN.out _ _⟩
#print axioms all_any
end Go.Proofs.Ytcjdbbdmighliac
