
/- Walks: how often each variable stands in one term, and in another one. -/
import Derived.Test.YtccbocefgoccdaaW135
import Derived.Test.YtccbocefgoccdaaZTopDownOwn
namespace Go.Proofs.Ytccbocefgoccdaa
open Go.RowKit
set_option linter.unusedSimpArgs false
set_option linter.unusedVariables false
set_option maxRecDepth 8000

/-- How often a variable stands. -/
def vo (v : ByteArray) (l : List Tm) : Nat := if varB v = true then oftL v l else 0
theorem vo_app (v : ByteArray) (a b : List Tm) : vo v (a ++ b) = vo v a + vo v b := by
  unfold vo
  split
  · exact oft_app v a b
  · rfl
theorem vo_one (v s : ByteArray) (l : List Tm) : vo v [(⟨s, l⟩ : Tm)] = (if varB s = true ∧ s = v then 1 else 0) + vo v l := by
  unfold vo
  by_cases hv : varB v = true
  · rw [if_pos hv, if_pos hv, oft_one]
    by_cases h : s = v
    · subst h; simp [hv]
    · simp [h]
  · rw [if_neg hv, if_neg hv]
    have : ¬ (varB s = true ∧ s = v) := fun h => hv (by rw [← h.2]; exact h.1)
    rw [if_neg this]
theorem oft_le (v : ByteArray) (l : List Tm) : oftL v l ≤ sizeL l := by
  unfold oftL
  rw [← preL_len0]
  exact List.length_filter_le _ _
theorem vo_le (v : ByteArray) (l : List Tm) : vo v l ≤ sizeL l := by
  unfold vo
  split
  · exact oft_le v l
  · exact Nat.zero_le _
theorem vo_take (v : ByteArray) (l : List Tm) (k : Nat) (h : k < l.length) : vo v (l.take (k + 1)) = vo v (l.take k) + vo v [l[k]] := by rw [List.take_succ_eq_append_getElem h, vo_app]

/-- The map holds so much for each name. -/
def TalAt (w : World) (r : Nat) (f : ByteArray → Int) : Prop := ∃ L, MapAt w r L ∧ (∀ p ∈ L, p.2 = .int .i64 (f p.1)) ∧ (∀ v, mapGet L v = none → f v = 0) ∧ (L.map (·.1)).Nodup
theorem TalAt.lt {w : World} {r : Nat} {f : ByteArray → Int} (h : TalAt w r f) : r < w.heap.size := by obtain ⟨L, h, _⟩ := h; exact h.lt
theorem TalAt.kept {w w' : World} {r : Nat} {f : ByteArray → Int} (h : TalAt w r f) (hk : w'.heap[r]? = w.heap[r]?) : TalAt w' r f := by obtain ⟨L, h, h2⟩ := h; exact ⟨L, h.kept hk, h2⟩
theorem TalAt.congr {w : World} {r : Nat} {f g : ByteArray → Int} (h : TalAt w r f) (e : ∀ v, f v = g v) : TalAt w r g := by
  have : f = g := funext e
  rw [← this]; exact h
theorem mapGet_mem {n : ByteArray} {v : Value} : ∀ {L : List (ByteArray × Value)}, mapGet L n = some v → (n, v) ∈ L
  | [], h => by simp [mapGet] at h
  | p :: L, h => by
    by_cases hp : p.1 = n
    · simp only [mapGet, hp, if_true, Option.some.injEq] at h
      obtain ⟨a, b⟩ := p
      simp only at hp h
      subst hp; subst h
      simp
    · rw [mapGet, if_neg hp] at h
      exact List.mem_cons_of_mem _ (mapGet_mem h)
theorem mapGet_has {n : ByteArray} : ∀ {L : List (ByteArray × Value)}, mapGet L n = none ↔ n ∉ L.map (·.1)
  | [] => by simp [mapGet]
  | p :: L => by
    by_cases hp : p.1 = n
    · simp [mapGet, hp]
    · rw [mapGet, if_neg hp, mapGet_has, List.map_cons, List.mem_cons, not_or]
      exact ⟨fun h => ⟨fun e => hp e.symm, h⟩, fun h => h.2⟩
theorem setAt_keys (n : ByteArray) (v : Value) : ∀ L : List (ByteArray × Value), (setAt L n v).map (·.1) = L.map (·.1)
  | [] => rfl
  | p :: L => by
    by_cases hp : p.1 = n
    · simp [setAt, hp]
    · simp [setAt, hp, setAt_keys n v L]
theorem setAt_mem {n : ByteArray} {v : Value} : ∀ {L : List (ByteArray × Value)}, (L.map (·.1)).Nodup → ∀ p ∈ setAt L n v, p = (n, v) ∨ (p ∈ L ∧ p.1 ≠ n)
  | [], _, p, h => by simp [setAt] at h
  | q :: L, hn, p, h => by
    rw [List.map_cons, List.nodup_cons] at hn
    by_cases hq : q.1 = n
    · rw [setAt, if_pos hq, List.mem_cons] at h
      rcases h with rfl | h
      · exact Or.inl (by rw [hq])
      · refine Or.inr ⟨List.mem_cons_of_mem _ h, fun e => hn.1 ?_⟩
        rw [hq, ← e]
        exact List.mem_map.2 ⟨p, h, rfl⟩
    · rw [setAt, if_neg hq, List.mem_cons] at h
      rcases h with rfl | h
      · exact Or.inr ⟨by simp, hq⟩
      · rcases setAt_mem hn.2 p h with h | ⟨h, h'⟩
        · exact Or.inl h
        · exact Or.inr ⟨List.mem_cons_of_mem _ h, h'⟩
/-- Some more for one name. -/
def addF (f : ByteArray → Int) (n : ByteArray) (d : Int) : ByteArray → Int := fun v => if n = v then f v + d else f v
theorem TalAt.look {w : World} {r : Nat} {f : ByteArray → Int} (h : TalAt w r f) (n : ByteArray) : (Instr.lookup 75 (.map (some r)) (.string n) false).run Try.prog w = .ok (.int .i64 (f n)) w := by
  obtain ⟨L, hM, h1, h2, h3⟩ := h
  rw [run_look1 (P := Try.prog) Try.underlying75 Try.underlying9 (Try.zeroValue3 w) hM n]
  cases hg : mapGet L n with
  | none => rw [h2 n hg]; rfl
  | some z =>
    have e : z = .int .i64 (f n) := h1 _ (mapGet_mem hg)
    rw [e]; rfl
theorem TalAt.put {w : World} {r : Nat} {f : ByteArray → Int} (h : TalAt w r f) (n : ByteArray) (d : Int) :
    ∃ w', (Instr.mapUpdate 75 (.map (some r)) (.string n) (.int .i64 (f n + d))).run Try.prog w = .ok () w' ∧ TalAt w' r (addF f n d) ∧ Ex r w w' := by
  obtain ⟨L, hM, h1, h2, h3⟩ := h
  cases hg : mapGet L n with
  | none =>
    obtain ⟨w', hr, hM', hz, ho, ht, hu, hk⟩ := run_put (P := Try.prog) Try.underlying75 Try.underlying9 hM n (.int .i64 (f n + d)) hg
    have hnm := mapGet_has.1 hg
    refine ⟨w', hr, ⟨_, hM', fun p hp => ?_, fun v hv => ?_, ?_⟩, ⟨ho, ht, hu, by omega, fun k _ hn => hk k hn⟩⟩
    · rw [List.mem_append] at hp
      rcases hp with hp | hp
      · have hne : n ≠ p.1 := fun e => hnm (List.mem_map.2 ⟨p, hp, e.symm⟩)
        rw [h1 p hp, addF, if_neg hne]
      · have e : p = (n, .int .i64 (f n + d)) := by simpa using hp
        rw [e, addF, if_pos rfl]
    · rw [mapGet_has, List.map_append, List.mem_append, not_or] at hv
      have hne : n ≠ v := fun e => hv.2 (by simp [e])
      rw [addF, if_neg hne]
      exact h2 v (mapGet_has.2 hv.1)
    · rw [List.map_append, List.nodup_append]
      refine ⟨h3, by simp, fun a ha b hb => ?_⟩
      have e : b = n := by simpa using hb
      rw [e]
      exact fun e2 => hnm (by rw [← e2]; exact ha)
  | some z =>
    obtain ⟨w', hr, hM', hz, ho, ht, hu, hk⟩ := run_set (P := Try.prog) Try.underlying75 Try.underlying9 hM n (.int .i64 (f n + d)) z hg
    refine ⟨w', hr, ⟨_, hM', fun p hp => ?_, fun v hv => ?_, by rw [setAt_keys]; exact h3⟩, ⟨ho, ht, hu, by omega, fun k _ hn => hk k hn⟩⟩
    · rcases setAt_mem h3 p hp with e | ⟨hp, hne⟩
      · rw [e, addF, if_pos rfl]
      · rw [h1 p hp, addF, if_neg fun e => hne e.symm]
    · rw [mapGet_has, setAt_keys, ← mapGet_has] at hv
      have hne : n ≠ v := fun e => by rw [e, hv] at hg; cases hg
      rw [addF, if_neg hne]
      exact h2 v hv

def TyInv (S : List Tm) (r : Nat) (f : ByteArray → Int) (d : Int) (a : Tm) (aa : Option Addr) (ca : Nat) (w : World) (i : Value) (wr : World) : Prop :=
  ∃ k : Nat, k ≤ a.args.length ∧ i = .int .i64 (k : Int) ∧ Blk wr w.heap.size #[.string a.name, .slice aa a.args.length ca, .int .i64 (numT a S), .int .i64 (sizeL [a])] 83 ∧ TalAt wr r (fun v => f v + d * ((if varB a.name = true ∧ a.name = v then 1 else 0) + vo v (a.args.take k) : Nat)) ∧ Ex r w wr
/-- Both counted: what the map holds. -/
theorem vo_all {a b : Tm} : (∀ v, (0 : Int) ≤ (vo v [a] : Int) - (vo v [b] : Int)) ↔ hasAll a b = true := by
  rw [hasAll_iff]
  constructor
  · intro h v hv
    have := h v
    unfold vo at this
    rw [if_pos hv, if_pos hv] at this
    omega
  · intro h v
    unfold vo
    by_cases hv : varB v = true
    · rw [if_pos hv, if_pos hv]
      have := h v hv
      omega
    · rw [if_neg hv, if_neg hv]; omega
/-- The loop over the map: what came was never below 0. -/
def HaInv (m r : Nat) (L : List (ByteArray × Value)) (f : ByteArray → Int) (w : World) (i : Value) (wr : World) : Prop := ∃ rem, RangeAt wr m r L rem ∧ (∀ p ∈ L, p ∈ rem ∨ 0 ≤ f p.1) ∧ (∀ p ∈ rem, p ∈ L) ∧ Below w.heap.size w wr
end Go.Proofs.Ytccbocefgoccdaa
