/- Several texts in one. -/
import Derived.Test.YthlgknglalcggacZRewriteSaysOwn
import Derived.WideMake
import Derived.Maps.RangeRun
import Derived.Deep.RegionLaw
import Derived.Test.YthlgknglalcggacRows
import Derived.Sort.Grow
/- Walks: whether two terms are the same, as the program asks. -/
namespace Go.Proofs.Ythlgknglalcggac
open Go.RowKit
set_option linter.unusedSimpArgs false
set_option linter.unusedVariables false
set_option maxRecDepth 8000

set_option maxHeartbeats 2000000 in
theorem sameK_all (t : Tm) : ∀ (x : Tm) (v u : Value) (w : World) (X Y : Nat → Prop), TV w X v t → TV w Y u x →
    Calls Try.prog 92 #[v, u] w fun e w' => e = .returned (.bool (sameB t x)) ∧ Below w.heap.size w w' := by
  induction t using Tm.ind with
  | h s l ih =>
    intro x v u w X Y hv hu
    obtain ⟨s2, m⟩ := x
    have IH := hide ih
    clear ih
    obtain ⟨a, c, rfl, hs⟩ := hv
    obtain ⟨a2, c2, rfl, hs2⟩ := hu
    have hl := hs.1
    have hl2 := hs2.1
    dsimp only
    cases hn : (s.toList == s2.toList) with
    | false =>
      have HR : Hid (false = sameB ⟨s, l⟩ ⟨s2, m⟩) := by unfold Hid sameB; rw [hn]; rfl
      go_enter Try.func92, Try.ntmps92
      go_wp2_with fail
      go_ret
      exact ⟨ret_bool HR.out, below2 _ _⟩
    | true =>
      by_cases hm : l.length = m.length
      · have HR : Hid (eqL l m = sameB ⟨s, l⟩ ⟨s2, m⟩) := by unfold Hid sameB; simp [hn, hm]
        have HM := hide hm
        rw [← hm]
        clear hm
        go_enter Try.func92, Try.ntmps92
        go_wp2_with fail
        go_loopw [23] (fun i wr => SaInv w l m a a2 c c2 i wr) (fun i wr => l.length - (intOf i).toNat)
        case atStart => exact ⟨0, Nat.zero_le _, rfl, by simp [eqL], below2 _ _, by simp, by simp, by simp⟩
        case round =>
          obtain ⟨k, hk, rfl, hq, hb, hc1, hc2, hsz⟩ := hrel
          have HQ := hide hq
          clear hq
          by_cases hlt : k < l.length
          · obtain ⟨b, o, a', c', rfl, d0, d1, hx⟩ := hs.get hb (fun _ _ h => h) k hlt
            obtain ⟨b2, o2, a2', c2', rfl, e0, e1, hx2⟩ := hs2.get hb (fun _ _ h => h) k (by have := HM.out; omega)
            have hltm : k < m.length := by have := HM.out; omega
            have HX := hide hx
            have HX2 := hide hx2
            have HB := hide hb
            have HS0 := hide (And.intro hc1 (And.intro hc2 (And.intro d0 (And.intro d1 (And.intro e0 e1)))))
            have IHK := hide (fun (w' : World) => IH.out l[k] (List.getElem_mem hlt) m[k] (.agg #[.string l[k].name, .slice a' l[k].args.length c']) (.agg #[.string m[k].name, .slice a2' m[k].args.length c2']) w' X Y)
            have HT := hide (eqL_take hlt hltm)
            have HNO := hide (eqL_no hlt HM.out)
            clear hx hx2 hb
            generalize l[k] = y at *
            generalize m[k] = z at *
            go_wp2_with fail
            cases hsm : sameB y z with
            | true =>
              rw [hsm] at IHK HT
              go_region_held3 (fun w' => w'.cell? ⟨w.heap.size, 1, none⟩ = some (.slice (some ⟨b, o, none⟩) l.length c) ∧ w'.cell? ⟨w.heap.size + 1, 1, none⟩ = some (.slice (some ⟨b2, o2, none⟩) l.length c2) ∧ w'.cell? ⟨b, o + k * 2, none⟩ = some (.string y.name) ∧ w'.cell? ⟨b, o + k * 2 + 1, none⟩ = some (.slice a' y.args.length c') ∧ w'.cell? ⟨b2, o2 + k * 2, none⟩ = some (.string z.name) ∧ w'.cell? ⟨b2, o2 + k * 2 + 1, none⟩ = some (.slice a2' z.args.length c2')) (first | exact HS0.out | exact hS1 | go_keep)
                ((go_at_call 92; refine (IHK.out _ (by exact HX.out.later (below_drewN (Below.refl _ _) 1)) (by exact HX2.out.later (below_drewN (Below.refl _ _) 1))).mono ?_; rintro e w1 ⟨rfl, hb1⟩; have hS1 := same_cells (n := 1) hb1 HS0.out))
              go_wp2_with fail
              go_roundw
              case rel => exact ⟨k + 1, by omega, by go_num, by rw [HT.out, HQ.out]; rfl, (HB.out.trans (below_drewN (Below.refl _ _) 1)).trans (hb1.mono (by simp; omega)), hS1.1, hS1.2.1, by have := hb1.size; simp at this; omega⟩
              case measure => simp [intOf]; omega
            | false =>
              have HF : Hid (false = sameB ⟨s, l⟩ ⟨s2, m⟩) := by unfold Hid; rw [← HR.out, HNO.out hsm]
              rw [hsm] at IHK
              go_region_held3 (fun w' => w'.cell? ⟨w.heap.size, 1, none⟩ = some (.slice (some ⟨b, o, none⟩) l.length c) ∧ w'.cell? ⟨w.heap.size + 1, 1, none⟩ = some (.slice (some ⟨b2, o2, none⟩) l.length c2) ∧ w'.cell? ⟨b, o + k * 2, none⟩ = some (.string y.name) ∧ w'.cell? ⟨b, o + k * 2 + 1, none⟩ = some (.slice a' y.args.length c') ∧ w'.cell? ⟨b2, o2 + k * 2, none⟩ = some (.string z.name) ∧ w'.cell? ⟨b2, o2 + k * 2 + 1, none⟩ = some (.slice a2' z.args.length c2')) (first | exact HS0.out | exact hS1 | go_keep)
                ((go_at_call 92; refine (IHK.out _ (by exact HX.out.later (below_drewN (Below.refl _ _) 1)) (by exact HX2.out.later (below_drewN (Below.refl _ _) 1))).mono ?_; rintro e w1 ⟨rfl, hb1⟩; have hS1 := same_cells (n := 1) hb1 HS0.out))
              go_wp2_with fail
              go_ret
              exact ⟨ret_bool HF.out, (HB.out.trans (below_drewN (Below.refl _ _) 1)).trans (hb1.mono (by simp; omega))⟩
          · have HF : Hid (true = sameB ⟨s, l⟩ ⟨s2, m⟩) := by
              unfold Hid
              rw [← HR.out, ← HQ.out, List.take_of_length_le (by omega), List.take_of_length_le (by have := HM.out; omega)]
            go_wp2_with fail
            go_ret
            exact ⟨ret_bool HF.out, hb⟩
      · have HR : Hid (false = sameB ⟨s, l⟩ ⟨s2, m⟩) := by unfold Hid sameB; simp [hn, hm]
        have hm2 : ((l.length : Int) == (m.length : Int)) = false := beq_eq_false_iff_ne.2 (by omega)
        clear hm
        go_enter Try.func92, Try.ntmps92
        go_wp2_with fail
        go_ret
        exact ⟨ret_bool HR.out, below2 _ _⟩
#print axioms sameK_all
end Go.Proofs.Ythlgknglalcggac

/- Maps by texts, as they lie in memory. -/
namespace Go.Proofs.Ythlgknglalcggac
open Go.RowKit
set_option linter.unusedSimpArgs false
set_option linter.unusedVariables false

def mapGet : List (ByteArray × Value) → ByteArray → Option Value
  | [], _ => none
  | p :: r, n => if p.1 = n then some p.2 else mapGet r n

/-- The entries' stamps: each below the clock, none twice. -/
def Stamps (es : Array MapEntry) (clk : Nat) : Prop := (∀ x ∈ es.toList, x.born < clk) ∧ (es.toList.map (·.born)).Nodup
/-- The map at r has these keys, in the order in which they came, and what stands for them. -/
def MapAt (w : World) (r : Nat) (L : List (ByteArray × Value)) : Prop :=
  ∃ es clk, w.heap[r]? = some (.map es clk) ∧ es.toList.map (fun e => (e.key, e.val)) = L.map (fun p => (Value.string p.1, p.2)) ∧ Stamps es clk
theorem Stamps.push {es : Array MapEntry} {clk : Nat} (h : Stamps es clk) (k v : Value) : Stamps (es.push { key := k, val := v, born := clk }) (clk + 1) := by
  obtain ⟨h1, h2⟩ := h
  refine ⟨fun x hx => ?_, ?_⟩
  · rw [Array.toList_push, List.mem_append] at hx
    rcases hx with hx | hx
    · have := h1 x hx; omega
    · have e : x = { key := k, val := v, born := clk } := by simpa using hx
      subst e; exact Nat.lt_succ_self _
  · rw [Array.toList_push, List.map_append, List.nodup_append]
    refine ⟨h2, by simp, fun a ha b hb => ?_⟩
    obtain ⟨x, hx, rfl⟩ := List.mem_map.1 ha
    have := h1 x hx
    have e : b = clk := by simpa using hb
    omega
theorem map_born_modify (j : Nat) (k v : Value) : ∀ l : List MapEntry, (l.modify j fun e => { e with key := k, val := v }).map (·.born) = l.map (·.born) := by
  induction j with
  | zero => intro l; cases l <;> simp
  | succ j ih => intro l; cases l with
    | nil => simp
    | cons a r => simp [List.modify_succ_cons, ih r]
theorem Stamps.modify {es : Array MapEntry} {clk : Nat} (h : Stamps es clk) (j : Nat) (k v : Value) : Stamps (es.modify j fun e => { e with key := k, val := v }) clk := by
  obtain ⟨h1, h2⟩ := h
  have e := map_born_modify j k v es.toList
  refine ⟨fun x hx => ?_, by rw [Array.toList_modify, e]; exact h2⟩
  rw [Array.toList_modify] at hx
  have : x.born ∈ es.toList.map (·.born) := by rw [← e]; exact List.mem_map.2 ⟨x, hx, rfl⟩
  obtain ⟨y, hy, hb⟩ := List.mem_map.1 this
  rw [← hb]; exact h1 y hy

theorem MapAt.new (w : World) : MapAt (w.alloc (.map #[] 0)) w.heap.size [] := ⟨#[], 0, heap_alloc_new w _, rfl, by simp [Stamps]⟩
theorem MapAt.lt {w : World} {r : Nat} {L : List (ByteArray × Value)} (h : MapAt w r L) : r < w.heap.size := by
  obtain ⟨es, clk, h, _⟩ := h
  exact (Array.getElem?_eq_some_iff.1 h).1
theorem MapAt.kept {w w' : World} {r : Nat} {L : List (ByteArray × Value)} (h : MapAt w r L) (hk : w'.heap[r]? = w.heap[r]?) : MapAt w' r L := by
  obtain ⟨es, clk, h1, h2⟩ := h
  exact ⟨es, clk, hk.trans h1, h2⟩
theorem MapAt.below {w w' : World} {r B : Nat} {L : List (ByteArray × Value)} (h : MapAt w r L) (hb : Below B w w') (hB : r < B) : MapAt w' r L := h.kept (hb.block r hB)

theorem findNow_map (n : ByteArray) : ∀ (l : List MapEntry) (L : List (ByteArray × Value)) (i : Nat), l.map (fun e => (e.key, e.val)) = L.map (fun p => (Value.string p.1, p.2)) →
    (mapGet L n = none → Instr.findNow .string (.string n) l i = some none) ∧ (∀ v, mapGet L n = some v → ∃ j, Instr.findNow .string (.string n) l i = some (some (j, v)))
  | [], [], i, h => ⟨fun _ => rfl, fun v h => by simp [mapGet] at h⟩
  | [], p :: L, i, h => by simp at h
  | e :: l, [], i, h => by simp at h
  | e :: l, p :: L, i, h => by
    simp only [List.map_cons, List.cons.injEq, Prod.mk.injEq] at h
    obtain ⟨⟨hk, hv⟩, ht⟩ := h
    obtain ⟨ih1, ih2⟩ := findNow_map n l L (i + 1) ht
    by_cases hn : p.1 = n
    · have hs : Instr.sameNow .string (.string n) e.key = some true := by
        rw [hk, hn]
        show some (n == n) = some true
        rw [show (n == n) = true from (MapKept.bytes_beq _ _).2 rfl]
      refine ⟨fun h => by simp [mapGet, hn] at h, fun v h => ⟨i, ?_⟩⟩
      simp only [mapGet, hn, if_true, Option.some.injEq] at h
      simp [Instr.findNow, hs, hv, h]
    · have hs : Instr.sameNow .string (.string n) e.key = some false := by
        rw [hk]
        show some (n == p.1) = some false
        have hb : (n == p.1) = false := by
          cases hh : (n == p.1) with
          | false => rfl
          | true => exact absurd ((MapKept.bytes_beq _ _).1 hh).symm hn
        rw [hb]
      refine ⟨fun h => ?_, fun v h => ?_⟩
      · rw [mapGet, if_neg hn] at h
        simp [Instr.findNow, hs, ih1 h]
      · rw [mapGet, if_neg hn] at h
        obtain ⟨j, hj⟩ := ih2 v h
        exact ⟨j, by simp [Instr.findNow, hs, hj]⟩

theorem run_look {P : Program} {w : World} {T kt et : TypeId} {r : Nat} {L : List (ByteArray × Value)} {z : Value} (hm : P.underlying T = some (.map kt et)) (hk : P.underlying kt = some .string) (hz : (zeroValue et).run P w = .ok z w) (h : MapAt w r L) (n : ByteArray) :
    (Instr.lookup T (.map (some r)) (.string n) true).run P w = .ok (.tuple #[(mapGet L n).getD z, .bool (mapGet L n).isSome]) w := by
  obtain ⟨es, clk, hb, he, hst⟩ := h
  obtain ⟨h1, h2⟩ := findNow_map n es.toList L 0 he
  have hc : ∀ b, (Instr.checkKey b 10000 kt (.string n)).run P w = .ok () w := fun b => MapKept.run_checkKey (k := .string n) hk (by simp [MapKept.IsKey]) b 9999
  cases hg : mapGet L n with
  | none => simp [Instr.lookup, run_underlying hm, MapKept.run_getObj_map hb, hc, MapKept.run_findKey hk (h1 hg), Result.andThen, hz]
  | some v =>
    obtain ⟨j, hj⟩ := h2 v hg
    simp [Instr.lookup, run_underlying hm, MapKept.run_getObj_map hb, hc, MapKept.run_findKey hk hj, Result.andThen]

theorem run_put {P : Program} {w : World} {T kt et : TypeId} {r : Nat} {L : List (ByteArray × Value)} (hm : P.underlying T = some (.map kt et)) (hk : P.underlying kt = some .string) (h : MapAt w r L) (n : ByteArray) (v : Value) (hn : mapGet L n = none) :
    ∃ w', (Instr.mapUpdate T (.map (some r)) (.string n) v).run P w = .ok () w' ∧ MapAt w' r (L ++ [(n, v)]) ∧ w'.heap.size = w.heap.size ∧ w'.os = w.os ∧ w'.tape = w.tape ∧ w'.output = w.output ∧ (∀ b, b ≠ r → w'.heap[b]? = w.heap[b]?) := by
  obtain ⟨es, clk, hb, he, hst⟩ := h
  obtain ⟨h1, h2⟩ := findNow_map n es.toList L 0 he
  have hc : (Instr.checkKey false 10000 kt (.string n)).run P w = .ok () w := MapKept.run_checkKey (k := .string n) hk (by simp [MapKept.IsKey]) false 9999
  have hlt : r < w.heap.size := (Array.getElem?_eq_some_iff.1 hb).1
  refine ⟨{ w with heap := w.heap.setIfInBounds r (.map (es.push { key := .string n, val := v, born := clk }) (clk + 1)) }, ?_, ⟨_, _, (MapKept.heap_set hb).1, by simp [he], hst.push _ _⟩, by simp, rfl, rfl, rfl, fun b hne => (MapKept.heap_set hb).2 b hne⟩
  simp [Instr.mapUpdate, run_underlying hm, MapKept.run_getObj_map hb, hc, MapKept.run_findKey hk (h1 hn), MapKept.run_setObj_map _ hb, Result.andThen]
end Go.Proofs.Ythlgknglalcggac

/- Maps by texts: looked into, and set where the key is there. -/
namespace Go.Proofs.Ythlgknglalcggac
open Go.RowKit
set_option linter.unusedSimpArgs false
set_option linter.unusedVariables false

/-- What stands for a key is another. -/
def setAt : List (ByteArray × Value) → ByteArray → Value → List (ByteArray × Value)
  | [], _, _ => []
  | p :: r, n, v => if p.1 = n then (p.1, v) :: r else p :: setAt r n v
theorem mapGet_setAt (n : ByteArray) (v : Value) : ∀ L : List (ByteArray × Value), mapGet (setAt L n v) n = (mapGet L n).map fun _ => v
  | [] => rfl
  | p :: r => by
    by_cases h : p.1 = n
    · simp [setAt, mapGet, h]
    · simp [setAt, mapGet, h, mapGet_setAt n v r]
theorem mapGet_append (n : ByteArray) (q : ByteArray × Value) : ∀ L : List (ByteArray × Value), mapGet L n = none → mapGet (L ++ [q]) n = if q.1 = n then some q.2 else none
  | [], _ => by simp [mapGet]
  | p :: r, h => by
    by_cases hp : p.1 = n
    · simp [mapGet, hp] at h
    · rw [mapGet, if_neg hp] at h
      rw [List.cons_append, mapGet, if_neg hp]
      exact mapGet_append n q r h

theorem findNow_set (n : ByteArray) (x : Value) : ∀ (l : List MapEntry) (L : List (ByteArray × Value)) (i : Nat) (v : Value), l.map (fun e => (e.key, e.val)) = L.map (fun p => (Value.string p.1, p.2)) → mapGet L n = some v →
    ∃ j e, Instr.findNow .string (.string n) l i = some (some (i + j, v)) ∧ l[j]? = some e ∧ e.key = .string n ∧ (l.modify j fun e => { e with key := .string n, val := x }).map (fun e => (e.key, e.val)) = (setAt L n x).map (fun p => (Value.string p.1, p.2))
  | [], [], i, v, h, hv => by simp [mapGet] at hv
  | [], p :: L, i, v, h, hv => by simp at h
  | e :: l, [], i, v, h, hv => by simp at h
  | e :: l, p :: L, i, v, h, hv => by
    simp only [List.map_cons, List.cons.injEq, Prod.mk.injEq] at h
    obtain ⟨⟨hk, he⟩, ht⟩ := h
    by_cases hn : p.1 = n
    · have hs : Instr.sameNow .string (.string n) e.key = some true := by
        rw [hk, hn]
        show some (n == n) = some true
        rw [show (n == n) = true from (MapKept.bytes_beq _ _).2 rfl]
      simp only [mapGet, hn, if_true, Option.some.injEq] at hv
      refine ⟨0, e, by simp [Instr.findNow, hs, he, hv], rfl, by rw [hk, hn], ?_⟩
      simp [setAt, hn, ht]
    · have hs : Instr.sameNow .string (.string n) e.key = some false := by
        rw [hk]
        show some (n == p.1) = some false
        have hb : (n == p.1) = false := by
          cases hh : (n == p.1) with
          | false => rfl
          | true => exact absurd ((MapKept.bytes_beq _ _).1 hh).symm hn
        rw [hb]
      rw [mapGet, if_neg hn] at hv
      obtain ⟨j, e', h1, h2, h3, h4⟩ := findNow_set n x l L (i + 1) v ht hv
      refine ⟨j + 1, e', by simp [Instr.findNow, hs, h1]; omega, by simpa using h2, h3, ?_⟩
      rw [setAt, if_neg hn]
      simp [List.modify_succ_cons, h4, hk, he]

theorem run_look1 {P : Program} {w : World} {T kt et : TypeId} {r : Nat} {L : List (ByteArray × Value)} {z : Value} (hm : P.underlying T = some (.map kt et)) (hk : P.underlying kt = some .string) (hz : (zeroValue et).run P w = .ok z w) (h : MapAt w r L) (n : ByteArray) :
    (Instr.lookup T (.map (some r)) (.string n) false).run P w = .ok ((mapGet L n).getD z) w := by
  obtain ⟨es, clk, hb, he, hstm⟩ := h
  obtain ⟨h1, h2⟩ := findNow_map n es.toList L 0 he
  have hc : ∀ b, (Instr.checkKey b 10000 kt (.string n)).run P w = .ok () w := fun b => MapKept.run_checkKey (k := .string n) hk (by simp [MapKept.IsKey]) b 9999
  cases hg : mapGet L n with
  | none => simp [Instr.lookup, run_underlying hm, MapKept.run_getObj_map hb, hc, MapKept.run_findKey hk (h1 hg), Result.andThen, hz]
  | some v =>
    obtain ⟨j, hj⟩ := h2 v hg
    simp [Instr.lookup, run_underlying hm, MapKept.run_getObj_map hb, hc, MapKept.run_findKey hk hj, Result.andThen]

theorem run_set {P : Program} {w : World} {T kt et : TypeId} {r : Nat} {L : List (ByteArray × Value)} (hm : P.underlying T = some (.map kt et)) (hk : P.underlying kt = some .string) (h : MapAt w r L) (n : ByteArray) (v old : Value) (hn : mapGet L n = some old) :
    ∃ w', (Instr.mapUpdate T (.map (some r)) (.string n) v).run P w = .ok () w' ∧ MapAt w' r (setAt L n v) ∧ w'.heap.size = w.heap.size ∧ w'.os = w.os ∧ w'.tape = w.tape ∧ w'.output = w.output ∧ (∀ b, b ≠ r → w'.heap[b]? = w.heap[b]?) := by
  obtain ⟨es, clk, hb, he, hstm⟩ := h
  obtain ⟨j, e0, h1, h2, h3, h4⟩ := findNow_set n v es.toList L 0 old he hn
  have hc : (Instr.checkKey false 10000 kt (.string n)).run P w = .ok () w := MapKept.run_checkKey (k := .string n) hk (by simp [MapKept.IsKey]) false 9999
  have hj : es[j]? = some e0 := by simpa using h2
  rw [Nat.zero_add] at h1
  have hst : (Instr.keyThatStays (.string n) (.string n)).run P w = .ok (.string n) w := MapKept.run_keyThatStays (d := .string) (by simp [MapKept.IsKey])
  refine ⟨{ w with heap := w.heap.setIfInBounds r (.map (es.modify j fun e => { e with key := .string n, val := v }) clk) }, ?_, ⟨_, _, (MapKept.heap_set hb).1, by rw [Array.toList_modify]; exact h4, hstm.modify _ _ _⟩, by simp, rfl, rfl, rfl, fun b hne => (MapKept.heap_set hb).2 b hne⟩
  simp [Instr.mapUpdate, run_underlying hm, MapKept.run_getObj_map hb, hc, MapKept.run_findKey hk h1, hj, h3, hst, MapKept.run_setObj_map _ hb, Result.andThen]
end Go.Proofs.Ythlgknglalcggac

/- Maps by texts: a loop over one, and what is struck in it. -/
namespace Go.Proofs.Ythlgknglalcggac
open Go.RowKit
open Go.ChangeMaps (setBlock)
set_option linter.unusedSimpArgs false
set_option linter.unusedVariables false

/-- A loop over the map at b, its iterator at r: the map's entries, and those that are still to come. -/
def RangeAt (w : World) (b r : Nat) (L rem : List (ByteArray × Value)) : Prop :=
  ∃ es clk since seen c0, w.heap[b]? = some (.map es clk) ∧ es.toList.map (fun e => (e.key, e.val)) = L.map (fun p => (Value.string p.1, p.2)) ∧ Stamps es clk ∧
    w.heap[r]? = some (.mapIter (some b) since seen c0) ∧ (∀ x ∈ es.toList, x.born < since) ∧ since ≤ c0 ∧ since ≤ clk ∧
    (leftOf es seen).toList.map (fun e => (e.key, e.val)) = rem.map (fun p => (Value.string p.1, p.2))

/-- How many are still to come. -/
def leftAt (w : World) (b r : Nat) : Nat :=
  match w.heap[b]?, w.heap[r]? with
  | some (.map es _), some (.mapIter _ _ seen _) => (leftOf es seen).size
  | _, _ => 0

theorem RangeAt.left {w : World} {b r : Nat} {L rem : List (ByteArray × Value)} (h : RangeAt w b r L rem) : leftAt w b r = rem.length := by
  obtain ⟨es, clk, since, seen, c0, hb, _, _, hr, _, _, _, hl⟩ := h
  have := congrArg List.length hl
  simp only [List.length_map, Array.length_toList] at this
  simp only [leftAt, hb, hr]
  exact this
theorem RangeAt.map {w : World} {b r : Nat} {L rem : List (ByteArray × Value)} (h : RangeAt w b r L rem) : MapAt w b L := by
  obtain ⟨es, clk, since, seen, c0, hb, he, hs, _⟩ := h
  exact ⟨es, clk, hb, he, hs⟩
theorem RangeAt.ne {w : World} {b r : Nat} {L rem : List (ByteArray × Value)} (h : RangeAt w b r L rem) : r ≠ b := by
  obtain ⟨es, clk, since, seen, c0, hb, he, hs, hr, _⟩ := h
  intro e
  rw [e, hb] at hr
  cases hr
theorem RangeAt.lt {w : World} {b r : Nat} {L rem : List (ByteArray × Value)} (h : RangeAt w b r L rem) : r < w.heap.size := by
  obtain ⟨es, clk, since, seen, c0, hb, he, hs, hr, _⟩ := h
  exact (Array.getElem?_eq_some_iff.1 hr).1
theorem RangeAt.kept {w w' : World} {b r : Nat} {L rem : List (ByteArray × Value)} (h : RangeAt w b r L rem) (hb' : w'.heap[b]? = w.heap[b]?) (hr' : w'.heap[r]? = w.heap[r]?) : RangeAt w' b r L rem := by
  obtain ⟨es, clk, since, seen, c0, hb, he, hs, hr, rest⟩ := h
  exact ⟨es, clk, since, seen, c0, hb'.trans hb, he, hs, hr'.trans hr, rest⟩
theorem RangeAt.below {w w' : World} {b r B : Nat} {L rem : List (ByteArray × Value)} (h : RangeAt w b r L rem) (hb : Below B w w') (h1 : b < B) (h2 : r < B) : RangeAt w' b r L rem := h.kept (hb.block b h1) (hb.block r h2)

theorem MapAt.range {P : Program} {w : World} {T kt et : TypeId} {b : Nat} {L : List (ByteArray × Value)} (h : MapAt w b L) (hm : P.underlying T = some (.map kt et)) :
    ∃ o, (Instr.range T (.map (some b))).run P w = .ok (.pointer (some ⟨w.heap.size, 0, none⟩)) (w.alloc o) ∧ RangeAt (w.alloc o) b w.heap.size L L := by
  have hlt := h.lt
  obtain ⟨es, clk, hb, he, hs⟩ := h
  refine ⟨_, run_range_map w T kt et b es clk hm hb, es, clk, clk, #[], clk, (Below.heap_alloc _ _ _ hlt).trans hb, he, hs, heap_alloc_new w _, hs.1, Nat.le_refl _, Nat.le_refl _, ?_⟩
  rw [← he]
  congr 1
  simp [leftOf]

theorem kv_inj {l : List MapEntry} {L : List (ByteArray × Value)} (h : l.map (fun e => (e.key, e.val)) = L.map (fun p => (Value.string p.1, p.2))) {e : MapEntry} (he : e ∈ l) : ∃ p ∈ L, e.key = .string p.1 ∧ e.val = p.2 := by
  have : (e.key, e.val) ∈ L.map (fun p => (Value.string p.1, p.2)) := by rw [← h]; exact List.mem_map.2 ⟨e, he, rfl⟩
  obtain ⟨p, hp, e2⟩ := List.mem_map.1 this
  simp only [Prod.mk.injEq] at e2
  exact ⟨p, hp, e2.1.symm, e2.2.symm⟩

/-- One goes out of those that were left. -/
theorem left_out (seen : Array Nat) (e : MapEntry) : ∀ (l : List MapEntry) (R : List (ByteArray × Value)), (l.map (·.born)).Nodup → e ∈ l → seen.contains e.born = false → (l.filter fun x => !seen.contains x.born).map (fun e => (e.key, e.val)) = R.map (fun p => (Value.string p.1, p.2)) →
    ∃ p R', e.key = .string p.1 ∧ e.val = p.2 ∧ R.Perm (p :: R') ∧ (l.filter fun x => !(seen.push e.born).contains x.born).map (fun e => (e.key, e.val)) = R'.map (fun p => (Value.string p.1, p.2))
  | [], R, _, he, _, _ => by cases he
  | a :: l, R, hn, he, hs, hR => by
    simp only [List.map_cons, List.nodup_cons] at hn
    obtain ⟨hn1, hn2⟩ := hn
    by_cases ha : a.born = e.born
    · have hae : e = a := by
        rcases List.mem_cons.1 he with h | h
        · exact h
        · exact absurd (List.mem_map.2 ⟨e, h, ha.symm⟩) hn1
      subst hae
      have hs' : (!seen.contains e.born) = true := by rw [hs]; rfl
      rw [List.filter_cons_of_pos (by simpa using hs')] at hR
      match R, hR with
      | p :: R', hR =>
        simp only [List.map_cons, List.cons.injEq, Prod.mk.injEq] at hR
        refine ⟨p, R', hR.1.1, hR.1.2, List.Perm.refl _, ?_⟩
        rw [List.filter_cons_of_neg (by simp), ← hR.2]
        congr 1
        refine List.filter_congr fun x hx => ?_
        have hne : x.born ≠ e.born := fun h => hn1 (List.mem_map.2 ⟨x, hx, h⟩)
        simp [hne]
    · have he' : e ∈ l := by
        rcases List.mem_cons.1 he with h | h
        · exact absurd (by rw [h]) ha
        · exact h
      by_cases hsa : seen.contains a.born = true
      · rw [List.filter_cons_of_neg (by simpa using hsa)] at hR
        obtain ⟨p, R', h1, h2, h3, h4⟩ := left_out seen e l R hn2 he' hs hR
        refine ⟨p, R', h1, h2, h3, ?_⟩
        rw [List.filter_cons_of_neg (by simp at hsa ⊢; exact fun h => absurd hsa h), h4]
      · have hsa' : seen.contains a.born = false := by simpa using hsa
        rw [List.filter_cons_of_pos (by simpa using hsa')] at hR
        match R, hR with
        | q :: R0, hR =>
          simp only [List.map_cons, List.cons.injEq] at hR
          obtain ⟨p, R', h1, h2, h3, h4⟩ := left_out seen e l R0 hn2 he' hs hR.2
          refine ⟨p, q :: R', h1, h2, (List.Perm.cons q h3).trans (List.Perm.swap p q R'), ?_⟩
          rw [List.filter_cons_of_pos (by simp at hsa' ⊢; exact ⟨hsa', ha⟩), List.map_cons, List.map_cons, h4, hR.1]

theorem RangeAt.next {P : Program} {w : World} {b r : Nat} {L rem : List (ByteArray × Value)} (h : RangeAt w b r L rem) (ty : TypeId) :
    (rem = [] ∧ (Instr.next (.pointer (some ⟨r, 0, none⟩)) false ty).run P w = .ok (.tuple #[.bool false]) w) ∨
    ∃ p rem' w', rem.Perm (p :: rem') ∧ (Instr.next (.pointer (some ⟨r, 0, none⟩)) false ty).run P w = .ok (.tuple #[.bool true, .string p.1, p.2]) w' ∧ RangeAt w' b r L rem' ∧
      w'.heap.size = w.heap.size ∧ w'.os = w.os ∧ w'.tape = w.tape ∧ w'.output = w.output ∧ (∀ j, j ≠ r → w'.heap[j]? = w.heap[j]?) ∧ (Instr.entry (.pointer (some ⟨r, 0, none⟩))).run P w' = .ok (.tuple #[.string p.1, p.2]) w' := by
  have hne := h.ne
  obtain ⟨es, clk, since, seen, c0, hb, he, hs, hr, hold, hsc, hsk, hl⟩ := h
  rcases run_next_at (P := P) w ty r b since c0 seen es clk hr hb hold hsc with ⟨h0, hrun⟩ | ⟨e, hem, w1, hal, hrun⟩
  · refine Or.inl ⟨?_, hrun⟩
    have := congrArg List.length hl
    simp only [List.length_map, Array.length_toList, h0] at this
    exact List.length_eq_zero_iff.1 this.symm
  · obtain ⟨hm1, hm2⟩ := mem_left hem
    have hl' : (es.toList.filter fun x => !seen.contains x.born).map (fun e => (e.key, e.val)) = rem.map (fun p => (Value.string p.1, p.2)) := by
      rw [← hl]; unfold leftOf; rw [Array.toList_filter]
    obtain ⟨p, rem', hk, hv, hperm, hrem⟩ := left_out seen e es.toList rem hs.2 hm1 hm2 hl'
    have hr1 : w1.heap[r]? = some (.mapIter (some b) since seen c0) := by rcases hal with rfl | rfl <;> exact hr
    have hb1 : w1.heap[b]? = some (.map es clk) := by rcases hal with rfl | rfl <;> exact hb
    have hset := MapKept.heap_set (o' := .mapIter (some b) since (seen.push e.born) clk) hr1
    have hb' : (setBlock w1 r (.mapIter (some b) since (seen.push e.born) clk)).heap[b]? = some (.map es clk) := (hset.2 b (fun e1 => hne e1.symm)).trans hb1
    rw [hk, hv] at hrun
    refine Or.inr ⟨p, rem', _, hperm, hrun, ⟨es, clk, since, seen.push e.born, clk, hb', he, hs, hset.1, hold, hsk, hsk, ?_⟩, ?_, ?_, ?_, ?_, ?_, ?_⟩
    · rw [← hrem]; unfold leftOf; rw [Array.toList_filter]
    · rcases hal with rfl | rfl <;> simp [setBlock]
    · rcases hal with rfl | rfl <;> rfl
    · rcases hal with rfl | rfl <;> rfl
    · rcases hal with rfl | rfl <;> rfl
    · intro j hj
      have := hset.2 j hj
      rcases hal with rfl | rfl <;> exact this
    · have := run_entry_at (P := P) _ r b since seen es clk e hset.1 hb' hm1 hs.2
      rw [hk, hv] at this
      exact this

/-- What is left when a key is struck. -/
def delP : List (ByteArray × Value) → ByteArray → List (ByteArray × Value)
  | [], _ => []
  | p :: r, n => if p.1 = n then r else p :: delP r n
theorem findNow_del (n : ByteArray) (q : MapEntry → Bool) : ∀ (l : List MapEntry) (L : List (ByteArray × Value)) (i : Nat), l.map (fun e => (e.key, e.val)) = L.map (fun p => (Value.string p.1, p.2)) → (∀ e ∈ l, e.key = .string n → q e = false) →
    (mapGet L n = none → delP L n = L) ∧ (∀ v, mapGet L n = some v → ∃ j, Instr.findNow .string (.string n) l i = some (some (i + j, v)) ∧ j < l.length ∧ (l.eraseIdx j).map (fun e => (e.key, e.val)) = (delP L n).map (fun p => (Value.string p.1, p.2)) ∧ (l.eraseIdx j).filter q = l.filter q)
  | [], [], i, h, _ => ⟨fun _ => rfl, fun v hv => by simp [mapGet] at hv⟩
  | [], p :: L, i, h, _ => by simp at h
  | e :: l, [], i, h, _ => by simp at h
  | e :: l, p :: L, i, h, hq => by
    simp only [List.map_cons, List.cons.injEq, Prod.mk.injEq] at h
    obtain ⟨⟨hk, he⟩, ht⟩ := h
    obtain ⟨ih1, ih2⟩ := findNow_del n q l L (i + 1) ht fun e he => hq e (by simp [he])
    by_cases hn : p.1 = n
    · have hs : Instr.sameNow .string (.string n) e.key = some true := by
        rw [hk, hn]
        show some (n == n) = some true
        rw [show (n == n) = true from (MapKept.bytes_beq _ _).2 rfl]
      refine ⟨fun h => by simp [mapGet, hn] at h, fun v hv => ?_⟩
      simp only [mapGet, hn, if_true, Option.some.injEq] at hv
      refine ⟨0, by simp [Instr.findNow, hs, he, hv], by simp, ?_, ?_⟩
      · simp [delP, hn, ht]
      · rw [List.eraseIdx_cons_zero, List.filter_cons_of_neg (by rw [hq e (by simp) (by rw [hk, hn])]; simp)]
    · have hs : Instr.sameNow .string (.string n) e.key = some false := by
        rw [hk]
        show some (n == p.1) = some false
        have hb : (n == p.1) = false := by
          cases hh : (n == p.1) with
          | false => rfl
          | true => exact absurd ((MapKept.bytes_beq _ _).1 hh).symm hn
        rw [hb]
      refine ⟨fun h => ?_, fun v hv => ?_⟩
      · rw [mapGet, if_neg hn] at h
        rw [delP, if_neg hn, ih1 h]
      · rw [mapGet, if_neg hn] at hv
        obtain ⟨j, h1, h2, h3, h4⟩ := ih2 v hv
        refine ⟨j + 1, by simp [Instr.findNow, hs, h1]; omega, by simpa using h2, ?_, ?_⟩
        · rw [delP, if_neg hn]; simp [h3, hk, he]
        · rw [List.eraseIdx_cons_succ]
          cases hqe : q e with
          | true => rw [List.filter_cons_of_pos hqe, List.filter_cons_of_pos hqe, h4]
          | false => rw [List.filter_cons_of_neg (by simp [hqe]), List.filter_cons_of_neg (by simp [hqe]), h4]

theorem RangeAt.drop {P : Program} {w : World} {T kt et ty : TypeId} {b r : Nat} {L rem : List (ByteArray × Value)} (h : RangeAt w b r L rem) (hm : P.underlying T = some (.map kt et)) (hk : P.underlying kt = some .string) (n : ByteArray) (hr0 : ∀ p ∈ rem, p.1 ≠ n) (v : Value) (hv : mapGet L n = some v) :
    ∃ w', (Builtin.delete_ #[T, kt] ty #[.map (some b), .string n]).run P w = .ok (.tuple #[]) w' ∧ RangeAt w' b r (delP L n) rem ∧ w'.heap.size = w.heap.size ∧ w'.os = w.os ∧ w'.tape = w.tape ∧ w'.output = w.output ∧ (∀ j, j ≠ b → w'.heap[j]? = w.heap[j]?) := by
  have hne := h.ne
  obtain ⟨es, clk, since, seen, c0, hb, he, hs, hr, hold, hsc, hsk, hl⟩ := h
  have hl' : (es.toList.filter fun x => !seen.contains x.born).map (fun e => (e.key, e.val)) = rem.map (fun p => (Value.string p.1, p.2)) := by
    rw [← hl]; unfold leftOf; rw [Array.toList_filter]
  have hq : ∀ e ∈ es.toList, e.key = .string n → (!seen.contains e.born) = false := fun e hee hke => by
    cases hc : seen.contains e.born with
    | true => rfl
    | false =>
      obtain ⟨p, hp, h1, _⟩ := kv_inj hl' (List.mem_filter.2 ⟨hee, by rw [hc]; rfl⟩)
      rw [hke] at h1
      exact absurd (Value.string.inj h1).symm (hr0 p hp)
  obtain ⟨j, h1, h2, h3, h4⟩ := (findNow_del n (fun x => !seen.contains x.born) es.toList L 0 he hq).2 v hv
  rw [Nat.zero_add] at h1
  have hc : ∀ b, (Instr.checkKey b 10000 kt (.string n)).run P w = .ok () w := fun b => MapKept.run_checkKey (k := .string n) hk (by simp [MapKept.IsKey]) b 9999
  have hsub : (es.eraseIdxIfInBounds j).toList = es.toList.eraseIdx j := by
    unfold Array.eraseIdxIfInBounds
    rw [dif_pos (by simpa using h2)]
    simp
  have hmem : ∀ x ∈ (es.eraseIdxIfInBounds j).toList, x ∈ es.toList := fun x hx => by rw [hsub] at hx; exact (List.eraseIdx_sublist _ _).subset hx
  refine ⟨setBlock w b (.map (es.eraseIdxIfInBounds j) clk), ?_, ⟨es.eraseIdxIfInBounds j, clk, since, seen, c0, (MapKept.heap_set hb).1, by rw [hsub]; exact h3, ⟨fun x hx => hs.1 x (hmem x hx), ?_⟩, ((MapKept.heap_set hb).2 r hne).trans hr, fun x hx => hold x (hmem x hx), hsc, hsk, ?_⟩, by simp [setBlock], rfl, rfl, rfl, fun i hi => (MapKept.heap_set hb).2 i hi⟩
  · simp [Builtin.delete_, run_underlying hm, MapKept.run_getObj_map hb, hc, MapKept.run_findKey hk h1, MapKept.run_setObj_map _ hb, Result.andThen, setBlock]
  · rw [hsub]
    exact hs.2.sublist ((List.eraseIdx_sublist _ _).map _)
  · unfold leftOf
    rw [Array.toList_filter, hsub, h4]
    exact hl'
#print axioms RangeAt.next
#print axioms RangeAt.drop
end Go.Proofs.Ythlgknglalcggac

/- Walks: a copy of a term. -/
namespace Go.Proofs.Ythlgknglalcggac
open Go.RowKit
set_option linter.unusedSimpArgs false
set_option linter.unusedVariables false

theorem below3 {w : World} (o1 o2 o3 : Obj) : Below w.heap.size w (((w.alloc o1).alloc o2).alloc o3) := (below2 o1 o2).alloc (by simp; omega) o3

theorem below4 {w : World} (o1 o2 o3 o4 : Obj) : Below w.heap.size w ((((w.alloc o1).alloc o2).alloc o3).alloc o4) := (below3 o1 o2 o3).alloc (by simp; omega) o4

theorem copy_step {w wr w1 w3 : World} {T k : Nat} {u : Value} {l : List Tm} {xs : List Value} {o1 o2 : Obj} {s s' : ByteArray} {a1 : Option Addr} {n1 c1 g cap : Nat} {c0 : Array Value} (hrow : Row wr (w.heap.size + 3) T (fun _ => False) u (l.take k) xs) (hb : Below w.heap.size w wr)
    (h1 : Blk wr (w.heap.size + 1) c0 T) (h2 : Blk wr (w.heap.size + 1 + 1) #[.string s, u] T) (hsz : w.heap.size + 3 ≤ wr.heap.size) (hlt : k < l.length)
    (hb1 : Below (wr.alloc o1).drew.heap.size (wr.alloc o1).drew w1) (ht : TV w1 (fun b => (wr.alloc o1).drew.heap.size ≤ b) (.agg #[.string s', .slice a1 n1 c1]) l[k])
    (hown : w3.ownsRow (w.heap.size + 3) T 2 (.slice (some ⟨g, 0, none⟩) ((l.take k).length + 1) cap) ((l.take k).length + 1) (xs ++ [.string s', .slice a1 n1 c1])) (hg : (w1.alloc o2).grownBy w3 u.ownBlock) (hat : u.ownBlock = some g ∨ g = (w1.alloc o2).heap.size) :
    let w4 := w3.setCell ⟨w.heap.size + 1 + 1, 1, none⟩ (.slice (some ⟨g, 0, none⟩) ((l.take k).length + 1) cap)
    Row w4 (w.heap.size + 3) T (fun _ => False) (.slice (some ⟨g, 0, none⟩) ((l.take k).length + 1) cap) (l.take (k + 1)) (xs ++ [.string s', .slice a1 n1 c1]) ∧ Below w.heap.size w w4 ∧ Blk w4 (w.heap.size + 1) c0 T ∧ Blk w4 (w.heap.size + 1 + 1) #[.string s, .slice (some ⟨g, 0, none⟩) ((l.take k).length + 1) cap] T ∧ w.heap.size + 3 ≤ w4.heap.size := by
  intro w4
  have hbb : Below wr.heap.size wr (wr.alloc o1).drew := ((Below.refl _ _).alloc (Nat.le_refl _) o1).drew
  have hr1 := hrow.below hbb
  have hlt' := hrow.own.lt
  have hs1 := hb1.size
  have hsg := hg.size
  simp at hs1 hsg
  have hp := hr1.push (w1 := w1) (w2 := w1.alloc o2) (w3 := w3) (by simp; omega) (fun _ h => h.elim) hb1 (ht.mono fun b h _ => Or.inr h) o2 rfl hown hg hat
  have hw3 : Below w.heap.size w w3 := (((hb.trans (hbb.mono (by omega))).trans (hb1.mono (by simp; omega))).alloc (by omega) o2).grown hg (by simp; omega) (fun j hj => by have := (hlt' j hj).1; omega)
  have hA : Below w.heap.size w w4 := hw3.setCell (p := ⟨w.heap.size + 1 + 1, 1, none⟩) (by simp; omega) _
  refine ⟨?_, hA, (copy_blk h1 hb1 hg (fun e => by have := (hlt' _ e.symm).1; omega)).setOther _ _ (by omega), ?_, by simp [w4, World.setCell]; omega⟩
  · rw [List.take_succ_eq_append_getElem hlt]
    exact hp.setCell (by omega) (fun h => h) _
  · exact (copy_blk h2 hb1 hg (fun e => by have := (hlt' _ e.symm).1; omega)).set 1 _

set_option maxHeartbeats 1000000 in
theorem copyOf_any (t : Tm) : ∀ (v : Value) (w : World) (X : Nat → Prop), TV w X v t → sizeL [t] ≤ 1000000 →
    Calls Try.prog 59 #[v] w fun e w' => ∃ v', e = .returned v' ∧ TV w' (fun b => w.heap.size ≤ b) v' t ∧ Below w.heap.size w w' := by
  induction t using Tm.ind with
  | h s l ih =>
    intro v w X hv hsm
    have IH := hide ih
    clear ih
    obtain ⟨a, c, rfl, hs⟩ := hv
    have hl := hs.1
    have hz : sizeL [(⟨s, l⟩ : Tm)] = 1 + sizeL l := by simp [sizeL]
    rw [hz] at hsm
    clear hz
    have hlen := sizeL_len l
    obtain ⟨i0, hi, hz0, hz1, hz2⟩ := info_parts Try.infoTerm
    go_enter Try.func59, Try.ntmps59
    go_wp2_with fail
    go_loopw [12] (fun i wr => ∃ (k : Nat) (u : Value) (xs : List Value), k ≤ l.length ∧ i = .int .i64 k ∧ Row wr (w.heap.size + 3) 25 (fun _ => False) u (l.take k) xs ∧ Below w.heap.size w wr ∧ Blk wr (w.heap.size + 1) #[.string ⟨#[]⟩, .slice none 0 0] 25 ∧ Blk wr (w.heap.size + 1 + 1) #[.string s, u] 25 ∧ w.heap.size + 3 ≤ wr.heap.size) (fun i wr => l.length - (intOf i).toNat)
    case atStart =>
      refine ⟨0, .slice none 0 0, [], Nat.zero_le _, rfl, Row.start _ _ _ _, below3 _ _ _, ?_, ?_, by simp⟩
      · have := ((Blk.new (w.alloc (.cells #[.string s, .slice a l.length c] 25)) #[.string ⟨#[]⟩, .slice none 0 0] 25)).alloc (.cells #[.string s, .slice none 0 0] 25)
        simpa using this
      · have := Blk.new ((w.alloc (.cells #[.string s, .slice a l.length c] 25)).alloc (.cells #[.string ⟨#[]⟩, .slice none 0 0] 25)) #[.string s, .slice none 0 0] 25
        simpa using this
    case round =>
      obtain ⟨k, u, xs, hk, rfl, hrow, hb, hbl1, hbl2, hsz⟩ := hrel
      have HROW := hide hrow
      have HBL1 := hide hbl1
      have HBL2 := hide hbl2
      have HB := hide hb
      clear hrow hbl1
      by_cases hlt : k < l.length
      · obtain ⟨b, o, a', c', rfl, d0, d1, hx⟩ := hs.get hb (fun _ _ h => h) k hlt
        have hc2 : ∀ o, (wr.alloc o).cell? ⟨w.heap.size + 1 + 1, 1, none⟩ = some u := fun o => (hbl2.alloc o).cell 1
        have HX := hide hx
        have hszk : sizeL [l[k]] ≤ 1000000 := by
          have := sizeL_take l k hlt; have := sizeL_take_le l (k + 1); omega
        clear hbl2 hb hx
        go_wp2_with fail
        go_region_law (first
          | (go_simp; go_at_call 59; refine (IH.out _ (List.getElem_mem hlt) _ _ X (by exact (HX.out.alloc _).later (below_drewN (Below.refl _ _) 1)) hszk).mono ?_; rintro e w1 ⟨v1, rfl, ht1, hb1⟩; obtain ⟨a1, c1, rfl, hs1⟩ := ht1; have hc3 : ∀ o, (w1.alloc o).cell? ⟨w.heap.size + 1 + 1, 1, none⟩ = some u := fun o => ((((HBL2.out.alloc _).drewN 1).below hb1 (by simp; omega)).alloc o).cell 1; have hc4 : w1.cell? ⟨w.heap.size + 1 + 1, 1, none⟩ = some u := (((HBL2.out.alloc _).drewN 1).below hb1 (by simp; omega)).cell 1)
          | (refine step_append_lies _ rfl _ _ 23 rfl (w.heap.size + 3) 25 i0 _ 2 40 Try.underlying23 hi hz0 hz1 hz2 rfl (by decide) u (l.take k).length xs rfl (by exact (((HROW.out.below ((Below.refl _ _).alloc (Nat.le_refl _) _)).below (below_drewN (Below.refl _ _) 1)).below hb1).own.alloc _) ⟨w1.heap.size, 0, none⟩ 1 1 [.string l[k].name, .slice a1 l[k].args.length c1] rfl rfl (cell_two_new _ _ _ _) (fun x hx => by simp at hx; rcases hx with rfl | rfl <;> rfl) (by decide) (by unfold maxLen; simp; omega) (by simp; omega) (by have := hb1.size; simp at this ⊢; omega) _ rfl ?_; intro g cap w3 hown3 hgrow3 hat3 hlt3; have hB3 := hide (copy_blk HBL2.out hb1 hgrow3 (HROW.out.ne (Nat.lt_succ_self _))); have hc5 : w3.cell? ⟨w.heap.size + 1 + 1, 1, none⟩ = some u := hB3.out.cell 1; have hf5 := hB3.out.frozen 1))
        all_goals
          have HFIN := hide (copy_step HROW.out HB.out HBL1.out HBL2.out hsz hlt hb1 ⟨a1, c1, rfl, hs1⟩ hown3 hgrow3 hat3)
          clear hown3 hgrow3 hat3 hc2 hc3 hc4
          go_wp2_with fail
          go_roundw
          case rel =>
            have hkl : (l.take k).length = k := by simp; omega
            obtain ⟨r1, r2, r3, r4, r5⟩ := HFIN.out
            simp only [hkl] at r1 r2 r3 r4 r5
            exact ⟨k + 1, _, _, by omega, by go_num, r1, r2, r3, r4, r5⟩
          case measure => simp [intOf]; omega
      · have htk : l.take k = l := List.take_of_length_le (by omega)
        have hc0 := hbl2.cell 0
        have hc1 := hbl2.cell 1
        have hr0 := HBL1.out.cell 0
        have hr1 := HBL1.out.cell 1
        have hrf := HBL1.out.frozen
        obtain ⟨a9, c9, hu9, hsl9⟩ := HROW.out.sl
        rw [htk] at hu9 hsl9
        have HSL := hide hsl9
        subst hu9
        clear hsl9 htk hbl2
        go_wp2_with fail
        refine bodyPost_ret (v := .agg #[.string s, .slice a9 l.length c9]) (by simp [results, Try.results59, go_sem, hr0, hr1, World.cell?_setCell_same, World.cell?_setCell_other]) rfl ⟨_, rfl, ?_, ?_⟩
        · refine ⟨a9, c9, rfl, ?_⟩
          have hk9 : Sl wr (fun b => w.heap.size + 3 ≤ b) a9 l := HSL.out.mono fun b h _ => h.elim False.elim id
          exact ((hk9.kept fun b hb => by rw [Below.heap_setCell _ _ _ _ (by simp; omega), Below.heap_setCell _ _ _ _ (by simp; omega)]).mono fun b hb _ => by omega)
        · exact (HB.out.setCell (by simp) _).setCell (by simp) _
#print axioms copyOf_any
end Go.Proofs.Ythlgknglalcggac


/- Walks: what stands for variables, in a map; what is looked for there. -/
namespace Go.Proofs.Ythlgknglalcggac
open Go.RowKit
set_option linter.unusedSimpArgs false
set_option linter.unusedVariables false
set_option maxRecDepth 8000

/-- No variable twice. -/
def Once (ls : List Bd) : Prop := ∀ k (h : k < ls.length), forT (ls.take k) ls[k].nm = none

/-- The map's values are the bindings' terms. -/
def PairsL (w : World) (X : Nat → Prop) : List Bd → List (ByteArray × Value) → Prop
  | [], L => L = []
  | d :: r, L => ∃ a c L', L = (d.nm, .agg #[.string d.t.name, .slice a d.t.args.length c]) :: L' ∧ Sl w X a d.t.args ∧ PairsL w X r L'
theorem PairsL.imp {w w' : World} {X Y : Nat → Prop} (hs : ∀ a l, Sl w X a l → Sl w' Y a l) : ∀ {l : List Bd} {L : List (ByteArray × Value)}, PairsL w X l L → PairsL w' Y l L
  | [], L, h => h
  | d :: r, L, h => by obtain ⟨a, c, L', e, h1, h2⟩ := h; exact ⟨a, c, L', e, hs _ _ h1, PairsL.imp hs h2⟩
theorem PairsL.push {w : World} {X : Nat → Prop} {d : Bd} {a : Option Addr} {c : Nat} (hs : Sl w X a d.t.args) : ∀ {l : List Bd} {L : List (ByteArray × Value)}, PairsL w X l L → PairsL w X (l ++ [d]) (L ++ [(d.nm, .agg #[.string d.t.name, .slice a d.t.args.length c])])
  | [], L, h => by
    have e : L = [] := h
    subst e
    exact ⟨a, c, [], rfl, hs, rfl⟩
  | d' :: r, L, h => by obtain ⟨a', c', L', e, h1, h2⟩ := h; subst e; exact ⟨a', c', _, rfl, h1, PairsL.push hs h2⟩
theorem PairsL.get {w : World} {X : Nat → Prop} (n : ByteArray) : ∀ {l : List Bd} {L : List (ByteArray × Value)}, PairsL w X l L → (forT l n = none → mapGet L n = none) ∧ (∀ t, forT l n = some t → ∃ a c, mapGet L n = some (.agg #[.string t.name, .slice a t.args.length c]) ∧ Sl w X a t.args)
  | [], L, h => by
    have e : L = [] := h
    subst e
    exact ⟨fun _ => rfl, fun t h => by simp [forT] at h⟩
  | d :: r, L, h => by
    obtain ⟨a, c, L', rfl, h1, h2⟩ := h
    obtain ⟨g1, g2⟩ := PairsL.get n h2
    by_cases hd : d.nm = n
    · refine ⟨fun h => by simp [forT, hd] at h, fun t h => ?_⟩
      rw [forT, if_pos hd] at h
      cases h
      exact ⟨a, c, by simp [mapGet, hd], h1⟩
    · refine ⟨fun h => ?_, fun t h => ?_⟩
      · rw [forT, if_neg hd] at h
        simp only [mapGet, hd, if_false]
        exact g1 h
      · rw [forT, if_neg hd] at h
        simp only [mapGet, hd, if_false]
        exact g2 t h

def ByInv (w : World) (X : Nat → Prop) (ls : List Bd) (v : Value) (wr : World) : Prop := ∃ (k : Nat) (L : List (ByteArray × Value)), v = .int .i64 (k : Int) ∧ k ≤ ls.length ∧ MapAt wr w.heap.size L ∧ PairsL wr (fun b => X b ∧ b < w.heap.size) (ls.take k) L ∧ Below w.heap.size w wr

end Go.Proofs.Ythlgknglalcggac

/- Walks: what stands for a pattern's variables, in a map. -/
namespace Go.Proofs.Ythlgknglalcggac
open Go.RowKit
set_option linter.unusedSimpArgs false
set_option linter.unusedVariables false
set_option maxRecDepth 8000

/-- The map at q holds these bindings, whose terms lie in memory that Y lets. -/
def FtM (w : World) (q : Nat) (Y : Nat → Prop) (Z : List Bc) : Prop := MapAt w q (Z.map toP) ∧ ∀ x ∈ Z, Sl w Y x.2.1 x.1.t.args
/-- What a round leaves: what is old stays, but for the map. -/
def FtPost (w : World) (q : Nat) (Y : Nat → Prop) (r : Option (List Bd)) (e : Ending) (w' : World) : Prop :=
  w.grownBy w' (some q) ∧ ((r = none ∧ e = .returned (.bool false)) ∨ ∃ (h' : List Bd) (Z' : List Bc), r = some h' ∧ e = .returned (.bool true) ∧ Z'.map (·.1) = h' ∧ FtM w' q Y Z')
theorem FtM.kept {w w' : World} {q : Nat} {Y : Nat → Prop} {Z : List Bc} (h : FtM w q Y Z) (hY : ∀ b, Y b → b < w.heap.size) (hk : ∀ b, b < w.heap.size → w'.heap[b]? = w.heap[b]?) : FtM w' q Y Z :=
  ⟨h.1.kept (hk q h.1.lt), fun x hx => (h.2 x hx).kept fun b hb => hk b (hY b hb)⟩
theorem FtM.below {w w' : World} {q : Nat} {Y : Nat → Prop} {Z : List Bc} (h : FtM w q Y Z) (hY : ∀ b, Y b → b < w.heap.size) (hb : Below w.heap.size w w') : FtM w' q Y Z := h.kept hY fun b hb' => hb.block b hb'
theorem mapGet_forT {Z : List Bc} {n : ByteArray} : (forT (Z.map (·.1)) n = none → mapGet (Z.map toP) n = none) ∧ (∀ t, forT (Z.map (·.1)) n = some t → ∃ x ∈ Z, x.1.t = t ∧ mapGet (Z.map toP) n = some (.agg #[.string t.name, .slice x.2.1 t.args.length x.2.2])) := by
  induction Z with
  | nil => exact ⟨fun _ => rfl, fun t h => by simp [forT] at h⟩
  | cons y r ih =>
    simp only [List.map_cons]
    by_cases hn : y.1.nm = n
    · refine ⟨fun h => by simp [forT, hn] at h, fun t h => ?_⟩
      rw [forT, if_pos hn] at h
      cases h
      exact ⟨y, by simp, rfl, by simp [mapGet, toP, hn]⟩
    · refine ⟨fun h => ?_, fun t h => ?_⟩
      · rw [forT, if_neg hn] at h
        rw [mapGet, if_neg (by simpa [toP] using hn)]
        exact ih.1 h
      · rw [forT, if_neg hn] at h
        obtain ⟨x, hx, h1, h2⟩ := ih.2 t h
        exact ⟨x, by simp [hx], h1, by rw [mapGet, if_neg (by simpa [toP] using hn)]; exact h2⟩

def FlInv (w2 : World) (q : Nat) (Y : Nat → Prop) (l m : List Tm) (h : List Bd) (i : Value) (wr : World) : Prop :=
  ∃ (k : Nat) (Z' : List Bc), k ≤ l.length ∧ i = .int .i64 (k : Int) ∧ mtL (l.take k) (m.take k) h = some (Z'.map (·.1)) ∧ FtM wr q Y Z' ∧ w2.grownBy wr (some q)

theorem grown2_below {w w' w'' : World} {row : Option Nat} (h : w.grownBy w' row) (hb : Below w'.heap.size w' w'') : w.grownBy w'' row :=
  h.andThen (row' := none) ⟨hb.os, hb.tape, hb.output, hb.size, fun j hj _ => hb.block j hj⟩ (by simp)

set_option maxHeartbeats 1000000 in
theorem fits_any (S F q : Nat) (Y : Nat → Prop) (p : Tm) : ∀ (t : Tm) (Z : List Bc) (pv tv : Value) (w : World), TV w Y pv p → TV w Y tv t → Blk w S #[.map (some q)] 115 → Blk w F #[.func (.func 137) #[] #[.pointer (some ⟨S, 0, none⟩), .pointer (some ⟨F, 0, none⟩)]] 49 → FtM w q Y Z → (∀ b, Y b → b < w.heap.size ∧ b ≠ q) → shT p t = true →
    Calls Try.prog 137 #[pv, tv, .pointer (some ⟨S, 0, none⟩), .pointer (some ⟨F, 0, none⟩)] w fun e w' => FtPost w q Y (mtT p t (Z.map (·.1))) e w' := by
  induction p using Tm.ind with
  | h s l ih =>
    intro t Z pv tv w hp ht hS hF hM hY hsh
    obtain ⟨s2, m⟩ := t
    obtain ⟨a, c, rfl, hs⟩ := hp
    obtain ⟨a2, c2, rfl, hs2⟩ := ht
    have IH := hide ih
    have HS := hide hs
    have HS2 := hide hs2
    have HSB := hide hS
    have HFB := hide hF
    have HM := hide hM
    have HY := hide hY
    have hl := hs.1
    have hl2 := hs2.1
    have hql := hM.1.lt
    have hSq : S ≠ q := fun e => by
      obtain ⟨es, clk, h1, _⟩ := hM.1
      subst e
      unfold Blk at hS
      rw [h1] at hS; cases hS
    have hFq : F ≠ q := fun e => by
      obtain ⟨es, clk, h1, _⟩ := hM.1
      subst e
      unfold Blk at hF
      rw [h1] at hF; cases hF
    have hSl := hS.lt
    have hFl := hF.lt
    clear ih hs hs2 hS hF hM hY
    dsimp only
    have HB2 : Hid (Below w.heap.size w ((w.alloc (.cells #[.string s, .slice a l.length c] 25)).alloc (.cells #[.string s2, .slice a2 m.length c2] 25))) := below2 _ _
    have PA := hide ((Blk.new w #[.string s, .slice a l.length c] 25).alloc (.cells #[.string s2, .slice a2 m.length c2] 25))
    have PB : Hid (Blk ((w.alloc (.cells #[.string s, .slice a l.length c] 25)).alloc (.cells #[.string s2, .slice a2 m.length c2] 25)) (w.heap.size + 1) #[.string s2, .slice a2 m.length c2] 25) := by
      have h := Blk.new (w.alloc (.cells #[.string s, .slice a l.length c] 25)) #[.string s2, .slice a2 m.length c2] 25
      unfold Hid
      simpa using h
    have hz2 : ((w.alloc (.cells #[.string s, .slice a l.length c] 25)).alloc (.cells #[.string s2, .slice a2 m.length c2] 25)).heap.size = w.heap.size + 2 := by simp
    have HG2 : Hid (w.grownBy ((w.alloc (.cells #[.string s, .slice a l.length c] 25)).alloc (.cells #[.string s2, .slice a2 m.length c2] 25)) (some q)) := (World.grownBy_alloc w _ _).andThen (World.grownBy_alloc _ _ none) (by simp)
    have hz : ∀ w', (zeroValue 25).run Try.prog w' = .ok (.agg #[.string ⟨#[]⟩, .slice none 0 0]) w' := fun w' => Try.zeroValue25 w'
    cases hvb : varB s with
    | true =>
      have HVB := hide hvb
      clear hvb
      have HM2 := hide (HM.out.below (fun b hb => (HY.out b hb).1) HB2.out)
      have HS22 := hide (HS2.out.later HB2.out)
      have s0 : ((w.alloc (.cells #[.string s, .slice a l.length c] 25)).alloc (.cells #[.string s2, .slice a2 m.length c2] 25)).cell? ⟨S, 0, none⟩ = some (.map (some q)) := (HSB.out.below HB2.out hSl).cell 0
      have a0 := PA.out.cell 0
      have b0 := PB.out.cell 0
      have b1 := PB.out.cell 1
      cases hf : forT (Z.map (·.1)) s with
      | some x =>
        obtain ⟨y, hy, rfl, hg⟩ := mapGet_forT.2 x hf
        have HR := hide (mtT_old (l := l) (t := ⟨s2, m⟩) HVB.out hf)
        have HSY := hide (HM2.out.2 y hy)
        have hlk : (Instr.lookup 115 (.map (some q)) (.string s) true).run Try.prog ((w.alloc (.cells #[.string s, .slice a l.length c] 25)).alloc (.cells #[.string s2, .slice a2 m.length c2] 25)) = .ok (.tuple #[.agg #[.string y.1.t.name, .slice y.2.1 y.1.t.args.length y.2.2], .bool true]) ((w.alloc (.cells #[.string s, .slice a l.length c] 25)).alloc (.cells #[.string s2, .slice a2 m.length c2] 25)) := by
          rw [run_look (P := Try.prog) Try.underlying115 Try.underlying9 (hz _) HM2.out.1 s, hg]; rfl
        clear hf hg hy
        have b0' : ∀ o, (((w.alloc (.cells #[.string s, .slice a l.length c] 25)).alloc (.cells #[.string s2, .slice a2 m.length c2] 25)).alloc o).cell? ⟨w.heap.size + 1, 0, none⟩ = some (.string s2) := fun o => (PB.out.alloc o).cell 0
        have b1' : ∀ o, (((w.alloc (.cells #[.string s, .slice a l.length c] 25)).alloc (.cells #[.string s2, .slice a2 m.length c2] 25)).alloc o).cell? ⟨w.heap.size + 1, 1, none⟩ = some (.slice a2 m.length c2) := fun o => (PB.out.alloc o).cell 1
        have SK : Hid (Calls Try.prog 92 #[.agg #[.string y.1.t.name, .slice y.2.1 y.1.t.args.length y.2.2], .agg #[.string s2, .slice a2 m.length c2]] (((w.alloc (.cells #[.string s, .slice a l.length c] 25)).alloc (.cells #[.string s2, .slice a2 m.length c2] 25)).alloc (.cells #[.string y.1.t.name, .slice y.2.1 y.1.t.args.length y.2.2] 25)) fun e w' => e = .returned (.bool (sameB y.1.t ⟨s2, m⟩)) ∧ Below ((w.alloc (.cells #[.string s, .slice a l.length c] 25)).alloc (.cells #[.string s2, .slice a2 m.length c2] 25)).heap.size ((w.alloc (.cells #[.string s, .slice a l.length c] 25)).alloc (.cells #[.string s2, .slice a2 m.length c2] 25)) w') := by
          refine (sameK_all y.1.t ⟨s2, m⟩ _ _ _ Y Y ⟨_, _, rfl, HSY.out.later ((Below.refl _ _).alloc (Nat.le_refl _) _)⟩ ⟨_, _, rfl, HS22.out.later ((Below.refl _ _).alloc (Nat.le_refl _) _)⟩).mono ?_
          rintro e w5 ⟨rfl, hb5⟩
          exact ⟨rfl, ((Below.refl _ _).alloc (Nat.le_refl _) _).trans (hb5.mono (by simp))⟩
        go_enter Try.func137, Try.ntmps137
        go_wp2_with (go_at_call 47; refine (isVariable_all _ _).mono ?_; rintro e w' ⟨rfl, rfl⟩; rw [HVB.out])
        refine SK.out.mono ?_
        rintro e w5 ⟨rfl, hb5⟩
        have HG5 := hide (grown2_below HG2.out hb5)
        have HM5 := hide (HM2.out.below (fun b hb => by have := (HY.out b hb).1; omega) hb5)
        clear hb5 b0' b1' hlk
        go_wp2_with fail
        go_ret
        refine ⟨HG5.out, ?_⟩
        rw [HR.out]
        cases hsm : sameB y.1.t ⟨s2, m⟩ with
        | true => exact Or.inr ⟨_, Z, by rw [if_pos rfl], rfl, rfl, HM5.out⟩
        | false => exact Or.inl ⟨by rw [if_neg (by simp)], rfl⟩
      | none =>
        have hg := mapGet_forT.1 hf
        have HR := hide (mtT_new (l := l) (t := ⟨s2, m⟩) HVB.out hf)
        have hlk : (Instr.lookup 115 (.map (some q)) (.string s) true).run Try.prog ((w.alloc (.cells #[.string s, .slice a l.length c] 25)).alloc (.cells #[.string s2, .slice a2 m.length c2] 25)) = .ok (.tuple #[.agg #[.string ⟨#[]⟩, .slice none 0 0], .bool false]) ((w.alloc (.cells #[.string s, .slice a l.length c] 25)).alloc (.cells #[.string s2, .slice a2 m.length c2] 25)) := by
          rw [run_look (P := Try.prog) Try.underlying115 Try.underlying9 (hz _) HM2.out.1 s, hg]; rfl
        have hbA : Below ((w.alloc (.cells #[.string s, .slice a l.length c] 25)).alloc (.cells #[.string s2, .slice a2 m.length c2] 25)).heap.size ((w.alloc (.cells #[.string s, .slice a l.length c] 25)).alloc (.cells #[.string s2, .slice a2 m.length c2] 25)) (((w.alloc (.cells #[.string s, .slice a l.length c] 25)).alloc (.cells #[.string s2, .slice a2 m.length c2] 25)).alloc (.cells #[.string ⟨#[]⟩, .slice none 0 0] 25)) := (Below.refl _ _).alloc (Nat.le_refl _) _
        have HM3 := hide (HM2.out.below (fun b hb => by have := (HY.out b hb).1; omega) hbA)
        have HG3 := hide (grown2_below HG2.out hbA)
        have HB3 := hide (HB2.out.trans (hbA.mono HB2.out.size))
        have s0' : (((w.alloc (.cells #[.string s, .slice a l.length c] 25)).alloc (.cells #[.string s2, .slice a2 m.length c2] 25)).alloc (.cells #[.string ⟨#[]⟩, .slice none 0 0] 25)).cell? ⟨S, 0, none⟩ = some (.map (some q)) := (HSB.out.below HB3.out hSl).cell 0
        have a0' : (((w.alloc (.cells #[.string s, .slice a l.length c] 25)).alloc (.cells #[.string s2, .slice a2 m.length c2] 25)).alloc (.cells #[.string ⟨#[]⟩, .slice none 0 0] 25)).cell? ⟨w.heap.size, 0, none⟩ = some (.string s) := (PA.out.alloc _).cell 0
        have b0' : (((w.alloc (.cells #[.string s, .slice a l.length c] 25)).alloc (.cells #[.string s2, .slice a2 m.length c2] 25)).alloc (.cells #[.string ⟨#[]⟩, .slice none 0 0] 25)).cell? ⟨w.heap.size + 1, 0, none⟩ = some (.string s2) := (PB.out.alloc _).cell 0
        have b1' : (((w.alloc (.cells #[.string s, .slice a l.length c] 25)).alloc (.cells #[.string s2, .slice a2 m.length c2] 25)).alloc (.cells #[.string ⟨#[]⟩, .slice none 0 0] 25)).cell? ⟨w.heap.size + 1, 1, none⟩ = some (.slice a2 m.length c2) := (PB.out.alloc _).cell 1
        obtain ⟨w8, hrun, hM8, hz8, ho8, ht8, hu8, hk8⟩ := run_put (P := Try.prog) Try.underlying115 Try.underlying9 HM3.out.1 s (.agg #[.string s2, .slice a2 m.length c2]) hg
        have HM8 : Hid (FtM w8 q Y (Z ++ [(⟨s, ⟨s2, m⟩⟩, a2, c2)])) := ⟨by rw [List.map_append]; exact hM8, fun x hx => by
          rcases List.mem_append.1 hx with hx | hx
          · exact (HM3.out.2 x hx).kept fun b hb => hk8 b (HY.out b hb).2
          · have e : x = (⟨s, ⟨s2, m⟩⟩, a2, c2) := by simpa using hx
            subst e
            exact (HS2.out.later HB3.out).kept fun b hb => hk8 b (HY.out b hb).2⟩
        have HG8 : Hid (w.grownBy w8 (some q)) := ⟨ho8.trans HG3.out.os, ht8.trans HG3.out.tape, hu8.trans HG3.out.output, by rw [hz8]; exact HG3.out.size, fun j hj hne => (hk8 j (fun e => hne (by rw [e]))).trans (HG3.out.block j hj hne)⟩
        clear hf hg hbA hM8 hz8 ho8 ht8 hu8 hk8
        go_enter Try.func137, Try.ntmps137
        go_wp2_with (go_at_call 47; refine (isVariable_all _ _).mono ?_; rintro e w' ⟨rfl, rfl⟩; rw [HVB.out])
        go_ret
        refine ⟨HG8.out, ?_⟩
        rw [HR.out]
        exact Or.inr ⟨_, _, rfl, rfl, by simp, HM8.out⟩
    | false =>
      have HVB := hide hvb
      clear hvb
      rw [shT_deep HVB.out, Bool.and_eq_true, Bool.and_eq_true] at hsh
      obtain ⟨⟨hn, hm⟩, hsh⟩ := hsh
      have hm : l.length = m.length := by simpa using hm
      have HSH := hide ((shL_iff l m hm).1 hsh)
      clear hsh
      have HR := hide (mtT_deep (h := Z.map (·.1)) HVB.out hn hm)
      have HLM := hide hm
      rw [← hm] at HG2 HB2 PA PB hz2 hl2 ⊢
      clear hm
      go_enter Try.func137, Try.ntmps137
      go_wp2_with (go_at_call 47; refine (isVariable_all _ _).mono ?_; rintro e w' ⟨rfl, rfl⟩; rw [HVB.out])
      generalize (w.alloc (.cells #[.string s, .slice a l.length c] 25)).alloc (.cells #[.string s2, .slice a2 l.length c2] 25) = w2 at *
      go_loopw [36] (fun i wr => FlInv w2 q Y l m (Z.map (·.1)) i wr) (fun i wr => l.length - (intOf i).toNat)
      case atStart => exact ⟨0, Z, Nat.zero_le _, rfl, by simp [mtL], HM.out.below (fun b hb => (HY.out b hb).1) HB2.out, ⟨rfl, rfl, rfl, Nat.le_refl _, fun _ _ _ => rfl⟩⟩
      case round =>
        obtain ⟨k, Z', hk, rfl, hT, hMk, hg⟩ := hrel
        have HT := hide hT
        have HMK := hide hMk
        have HGK := hide hg
        have hwr : w.heap.size + 2 ≤ wr.heap.size := by have := hg.size; omega
        have PAK : Hid (Blk wr w.heap.size #[.string s, .slice a l.length c] 25) := (hg.block w.heap.size (by omega) (by simp; omega)).trans PA.out
        have PBK : Hid (Blk wr (w.heap.size + 1) #[.string s2, .slice a2 l.length c2] 25) := (hg.block (w.heap.size + 1) (by omega) (by simp; omega)).trans PB.out
        have FBK : Hid (Blk wr F #[.func (.func 137) #[] #[.pointer (some ⟨S, 0, none⟩), .pointer (some ⟨F, 0, none⟩)]] 49) := (hg.block F (by omega) (by simpa using hFq)).trans (HFB.out.below HB2.out hFl)
        have SBK : Hid (Blk wr S #[.map (some q)] 115) := (hg.block S (by omega) (by simpa using hSq)).trans (HSB.out.below HB2.out hSl)
        have HSK : Hid (Sl wr Y a l) := (HS.out.later HB2.out).kept fun b hb => by
          have h1 := HY.out b hb
          exact hg.block b (by omega) (by simpa using h1.2)
        have HSK2 : Hid (Sl wr Y a2 m) := (HS2.out.later HB2.out).kept fun b hb => by
          have h1 := HY.out b hb
          exact hg.block b (by omega) (by simpa using h1.2)
        have f0 : wr.cell? ⟨F, 0, none⟩ = some (.func (.func 137) #[] #[.pointer (some ⟨S, 0, none⟩), .pointer (some ⟨F, 0, none⟩)]) := FBK.out.cell 0
        have a1 : wr.cell? ⟨w.heap.size, 1, none⟩ = some (.slice a l.length c) := PAK.out.cell 1
        clear hT hMk hg
        by_cases hlt' : k < l.length
        · have hlt2 : (k : Int) < (l.length : Int) := by omega
          have hltm : k < m.length := by have := HLM.out; omega
          obtain ⟨b, o, a', c', rfl, d0, d1, hx⟩ := HSK.out.get (Below.refl _ _) (fun _ _ h => h) k hlt'
          obtain ⟨b2, o2, a2', c2', rfl, e0, e1, hx2⟩ := HSK2.out.get (Below.refl _ _) (fun _ _ h => h) k hltm
          have HX := hide hx
          have HX2 := hide hx2
          have b1 : wr.cell? ⟨w.heap.size + 1, 1, none⟩ = some (.slice (some ⟨b2, o2, none⟩) l.length c2) := PBK.out.cell 1
          have HS0 := hide (And.intro f0 (And.intro a1 (And.intro b1 (And.intro d0 (And.intro d1 (And.intro e0 e1))))))
          have hbY : b < w.heap.size ∧ b ≠ q := by
            obtain ⟨_, h1⟩ := HSK.out
            rcases h1 with h1 | ⟨b', o', e', h1⟩
            · rw [h1] at hlt'; simp at hlt'
            · cases e'; exact HY.out _ (lies_get _ _ _ h1 k hlt').1
          have hb2Y : b2 < w.heap.size ∧ b2 ≠ q := by
            obtain ⟨_, h1⟩ := HSK2.out
            rcases h1 with h1 | ⟨b', o', e', h1⟩
            · rw [h1] at hltm; simp at hltm
            · cases e'; exact HY.out _ (lies_get _ _ _ h1 k hltm).1
          have IHK := hide (IH.out l[k] (List.getElem_mem hlt') m[k] Z' (.agg #[.string l[k].name, .slice a' l[k].args.length c']) (.agg #[.string m[k].name, .slice a2' m[k].args.length c2']) wr.drew (by exact HX.out.later (below_drewN (Below.refl _ _) 1)) (by exact HX2.out.later (below_drewN (Below.refl _ _) 1)) (by exact SBK.out) (by exact FBK.out) (by exact HMK.out.below (fun b hb => by have := (HY.out b hb).1; omega) (below_drewN (Below.refl _ _) 1)) (fun b hb => by have := HY.out b hb; exact ⟨by simp; omega, this.2⟩) (HSH.out k hlt' hltm))
          have SEV : Hid (∀ w1, wr.drew.grownBy w1 (some q) → w1.cell? ⟨F, 0, none⟩ = some (.func (.func 137) #[] #[.pointer (some ⟨S, 0, none⟩), .pointer (some ⟨F, 0, none⟩)]) ∧ w1.cell? ⟨w.heap.size, 1, none⟩ = some (.slice (some ⟨b, o, none⟩) l.length c) ∧ w1.cell? ⟨w.heap.size + 1, 1, none⟩ = some (.slice (some ⟨b2, o2, none⟩) l.length c2) ∧ w1.cell? ⟨b, o + k * 2, none⟩ = some (.string l[k].name) ∧ w1.cell? ⟨b, o + k * 2 + 1, none⟩ = some (.slice a' l[k].args.length c') ∧ w1.cell? ⟨b2, o2 + k * 2, none⟩ = some (.string m[k].name) ∧ w1.cell? ⟨b2, o2 + k * 2 + 1, none⟩ = some (.slice a2' m[k].args.length c2')) := fun w1 hg1 => by
            have kp : ∀ b o, b < wr.heap.size → b ≠ q → w1.cell? ⟨b, o, none⟩ = wr.cell? ⟨b, o, none⟩ := fun b o hb hne => hg1.cell_far ⟨b, o, none⟩ (by simpa using hb) (by simpa using hne)
            have h := HS0.out
            exact ⟨(kp _ _ (by omega) hFq).trans h.1, (kp _ _ (by omega) (by omega)).trans h.2.1, (kp _ _ (by omega) (by omega)).trans h.2.2.1, (kp _ _ (by omega) hbY.2).trans h.2.2.2.1, (kp _ _ (by omega) hbY.2).trans h.2.2.2.2.1, (kp _ _ (by omega) hb2Y.2).trans h.2.2.2.2.2.1, (kp _ _ (by omega) hb2Y.2).trans h.2.2.2.2.2.2⟩
          have HNO := hide (fun h0 => mtL_no hlt' HLM.out HT.out h0)
          have HNX := hide (fun h'' (h0 : mtT l[k] m[k] (Z'.map (·.1)) = some h'') => mtL_next hlt' hltm HT.out h0)
          have HGO : Hid (∀ w1, wr.drew.grownBy w1 (some q) → w2.grownBy w1 (some q)) := fun w1 hg1 => (grown2_below HGK.out (below_drewN (Below.refl _ _) 1)).andThen hg1 (fun j hj => Or.inr hj)
          clear hx hx2 hbY hb2Y
          generalize l[k] = y at *
          generalize m[k] = z at *
          go_wp2_with fail
          cases hr : mtT y z (Z'.map (·.1)) with
          | none =>
            have IHN : Hid (Calls Try.prog 137 #[.agg #[.string y.name, .slice a' y.args.length c'], .agg #[.string z.name, .slice a2' z.args.length c2'], .pointer (some ⟨S, 0, none⟩), .pointer (some ⟨F, 0, none⟩)] wr.drew fun e w' => e = .returned (.bool false) ∧ wr.drew.grownBy w' (some q)) := by
              refine IHK.out.mono ?_
              rintro e w1 ⟨hg1, ⟨_, rfl⟩ | ⟨h', Z1, h0, _⟩⟩
              · exact ⟨rfl, hg1⟩
              · rw [hr] at h0; cases h0
            have HF : Hid (mtT ⟨s, l⟩ ⟨s2, m⟩ (Z.map (·.1)) = none) := by unfold Hid; rw [HR.out, HNO.out hr]
            go_region_held3 (fun w' => w'.cell? ⟨F, 0, none⟩ = some (.func (.func 137) #[] #[.pointer (some ⟨S, 0, none⟩), .pointer (some ⟨F, 0, none⟩)]) ∧ w'.cell? ⟨w.heap.size, 1, none⟩ = some (.slice (some ⟨b, o, none⟩) l.length c) ∧ w'.cell? ⟨w.heap.size + 1, 1, none⟩ = some (.slice (some ⟨b2, o2, none⟩) l.length c2) ∧ w'.cell? ⟨b, o + k * 2, none⟩ = some (.string y.name) ∧ w'.cell? ⟨b, o + k * 2 + 1, none⟩ = some (.slice a' y.args.length c') ∧ w'.cell? ⟨b2, o2 + k * 2, none⟩ = some (.string z.name) ∧ w'.cell? ⟨b2, o2 + k * 2 + 1, none⟩ = some (.slice a2' z.args.length c2')) (first | exact HS0.out | exact hS1 | go_keep)
              ((go_at_call 137; refine IHN.out.mono ?_; rintro e w1 ⟨rfl, hg1⟩; have hS1 := SEV.out w1 hg1))
            have HG1 := hide (HGO.out w1 hg1)
            clear hg1 hS1
            go_wp2_with fail
            go_ret
            exact ⟨HG2.out.andThen HG1.out (fun j hj => Or.inr hj), Or.inl ⟨HF.out, rfl⟩⟩
          | some h' =>
            have IHS : Hid (Calls Try.prog 137 #[.agg #[.string y.name, .slice a' y.args.length c'], .agg #[.string z.name, .slice a2' z.args.length c2'], .pointer (some ⟨S, 0, none⟩), .pointer (some ⟨F, 0, none⟩)] wr.drew fun e w' => e = .returned (.bool true) ∧ wr.drew.grownBy w' (some q) ∧ ∃ Z1 : List Bc, Z1.map (·.1) = h' ∧ FtM w' q Y Z1) := by
              refine IHK.out.mono ?_
              rintro e w1 ⟨hg1, ⟨h0, _⟩ | ⟨h'', Z1, h0, rfl, h2, h3⟩⟩
              · rw [hr] at h0; cases h0
              · rw [hr] at h0
                cases h0
                exact ⟨rfl, hg1, Z1, h2, h3⟩
            have HN := hide (HNX.out h' hr)
            go_region_held3 (fun w' => w'.cell? ⟨F, 0, none⟩ = some (.func (.func 137) #[] #[.pointer (some ⟨S, 0, none⟩), .pointer (some ⟨F, 0, none⟩)]) ∧ w'.cell? ⟨w.heap.size, 1, none⟩ = some (.slice (some ⟨b, o, none⟩) l.length c) ∧ w'.cell? ⟨w.heap.size + 1, 1, none⟩ = some (.slice (some ⟨b2, o2, none⟩) l.length c2) ∧ w'.cell? ⟨b, o + k * 2, none⟩ = some (.string y.name) ∧ w'.cell? ⟨b, o + k * 2 + 1, none⟩ = some (.slice a' y.args.length c') ∧ w'.cell? ⟨b2, o2 + k * 2, none⟩ = some (.string z.name) ∧ w'.cell? ⟨b2, o2 + k * 2 + 1, none⟩ = some (.slice a2' z.args.length c2')) (first | exact HS0.out | exact hS1 | go_keep)
              ((go_at_call 137; refine IHS.out.mono ?_; rintro e w1 ⟨rfl, hg1, Z1, hc1, hm1⟩; have hS1 := SEV.out w1 hg1))
            have HG1 := hide (HGO.out w1 hg1)
            have HC1 := hide hc1
            have HM1 := hide hm1
            clear hg1 hS1 hc1 hm1
            go_wp2_with fail
            go_roundw
            case rel => exact ⟨k + 1, Z1, by omega, by go_num, by rw [HC1.out]; exact HN.out, HM1.out, HG1.out⟩
            case measure => simp [intOf]; omega
        · have HF : Hid (mtT ⟨s, l⟩ ⟨s2, m⟩ (Z.map (·.1)) = some (Z'.map (·.1))) := by
            unfold Hid
            rw [HR.out, ← HT.out, List.take_of_length_le (by omega), List.take_of_length_le (by have := HLM.out; omega)]
          have HGF := hide (HG2.out.andThen HGK.out (fun j hj => Or.inr hj))
          go_wp2_with fail
          go_ret
          exact ⟨HGF.out, Or.inr ⟨_, Z', HF.out, rfl, rfl, HMK.out⟩⟩
#print axioms fits_any
end Go.Proofs.Ythlgknglalcggac

/- Walks: has a term another one's symbols, wherever that has some? -/
namespace Go.Proofs.Ythlgknglalcggac
open Go.RowKit
set_option linter.unusedSimpArgs false
set_option linter.unusedVariables false
set_option maxRecDepth 8000

/-- A term lies where a pointer points. -/
def PtT (w : World) (X : Nat → Prop) (b o : Nat) (t : Tm) : Prop := ∃ a c, w.cell? ⟨b, o, none⟩ = some (.string t.name) ∧ w.cell? ⟨b, o + 1, none⟩ = some (.slice a t.args.length c) ∧ Sl w X a t.args ∧ b < w.heap.size
theorem PtT.later {w w' : World} {X : Nat → Prop} {b o : Nat} {t : Tm} (h : PtT w X b o t) (hb : Below w.heap.size w w') : PtT w' X b o t := by
  obtain ⟨a, c, h1, h2, h3, h4⟩ := h
  exact ⟨a, c, (hb.cell (p := ⟨b, o, none⟩) h4).trans h1, (hb.cell (p := ⟨b, o + 1, none⟩) h4).trans h2, h3.later hb, Nat.lt_of_lt_of_le h4 hb.size⟩
theorem PtT.lt {w : World} {X : Nat → Prop} {b o : Nat} {t : Tm} (h : PtT w X b o t) : b < w.heap.size := by
  obtain ⟨a, c, h1, h2, h3, h4⟩ := h
  exact h4
theorem PtT.sub {w : World} {X : Nat → Prop} {b o : Nat} {t : Tm} (h : PtT w X b o t) : ∃ a c, w.cell? ⟨b, o + 1, none⟩ = some (.slice a t.args.length c) ∧ ∀ k (hk : k < t.args.length), ∃ b' o', a = some ⟨b', o', none⟩ ∧ PtT w X b' (o' + k * 2) t.args[k] := by
  obtain ⟨a, c, h1, h2, h3, h4⟩ := h
  refine ⟨a, c, h2, fun k hk => ?_⟩
  obtain ⟨b', o', a', c', rfl, d0, d1, hx⟩ := h3.get (Below.refl _ _) (fun _ _ h => h) k hk
  obtain ⟨a2, c2, e2, hx⟩ := hx
  cases e2
  exact ⟨b', o', rfl, a', c', d0, d1, hx, cell_lt d0⟩

def ShInv (w : World) (l m : List Tm) (i : Value) (wr : World) : Prop :=
  ∃ k : Nat, k ≤ l.length ∧ i = .int .i64 (k : Int) ∧ (∀ j (h : j < l.length) (h2 : j < m.length), j < k → shT l[j] m[j] = true) ∧ Below w.heap.size w wr

set_option maxHeartbeats 1000000 in
theorem isShaped_any (X : Nat → Prop) (p : Tm) : ∀ (t : Tm) (b o b2 o2 : Nat) (w : World), PtT w X b o p → PtT w X b2 o2 t →
    Calls Try.prog 136 #[.pointer (some ⟨b, o, none⟩), .pointer (some ⟨b2, o2, none⟩)] w fun e w' => e = .returned (.bool (shT p t)) ∧ Below w.heap.size w w' := by
  induction p using Tm.ind with
  | h s l ih =>
    intro t b o b2 o2 w hp ht
    obtain ⟨s2, m⟩ := t
    have IH := hide ih
    have HP := hide hp
    have HT := hide ht
    obtain ⟨a, c, p0, p1, hs, hbl⟩ := hp
    obtain ⟨a2, c2, t0, t1, hs2, hbl2⟩ := ht
    dsimp only at p0 p1 hs t0 t1 hs2 ⊢
    have hl := hs.1
    have hl2 := hs2.1
    clear ih hs hs2
    cases hvb : varB s with
    | true =>
      have HR := hide (shT_var (l := l) (t := ⟨s2, m⟩) hvb)
      go_enter Try.func136, Try.ntmps136
      go_wp2_with (go_at_call 47; refine (isVariable_all _ _).mono ?_; rintro e w ⟨rfl, rfl⟩; rw [hvb])
      refine bodyPost_ret (v := .bool true) (by simp [results, Try.results136, go_sem]) rfl ?_
      exact ⟨by rw [HR.out], Below.refl _ _⟩
    | false =>
      have HVB := hide hvb
      cases hn : (s.toList == s2.toList) with
      | false =>
        have HR : Hid (shT ⟨s, l⟩ ⟨s2, m⟩ = false) := by unfold Hid; rw [shT_deep hvb, hn]; rfl
        go_enter Try.func136, Try.ntmps136
        have HS0 := hide (And.intro p0 (And.intro p1 (And.intro t0 t1)))
        go_wp2_with (go_at_call 47; refine (isVariable_all _ _).mono ?_; rintro e w ⟨rfl, rfl⟩; rw [hvb])
        refine wp_region_held_drew (S := fun w' => w'.cell? ⟨b, o, none⟩ = some (.string s) ∧ w'.cell? ⟨b, o + 1, none⟩ = some (.slice a l.length c) ∧ w'.cell? ⟨b2, o2, none⟩ = some (.string s2) ∧ w'.cell? ⟨b2, o2 + 1, none⟩ = some (.slice a2 m.length c2)) (by kernel_rfl) HS0.out (fun hHeld => ?_)
        refine wpAnyH_take (i := 0) (v := ?_) rfl (by kernel_rfl) (by kernel_rfl) (by kernel_rfl) (fun _ _ _ h => h) (Or.inl ⟨by rfl, ?_⟩) (by assumption) ?_
        rotate_left
        · intro w' hSw
          obtain ⟨k1, k2, k3, k4⟩ := hSw
          go_simp <;> with_reducible rfl
        try simp only [Act.put, List.setIfInBounds_toArray, List.set_cons_zero, List.set_cons_succ, List.getElem_toArray, List.getElem_cons_succ, List.getElem_cons_zero]
        refine wpAnyH_take (i := 1) (v := ?_) rfl (by kernel_rfl) (by kernel_rfl) (by kernel_rfl) (fun _ _ _ h => h) (Or.inl ⟨by rfl, ?_⟩) (by assumption) ?_
        rotate_left
        · intro w' hSw
          obtain ⟨k1, k2, k3, k4⟩ := hSw
          go_simp <;> with_reducible rfl
        try simp only [Act.put, List.setIfInBounds_toArray, List.set_cons_zero, List.set_cons_succ, List.getElem_toArray, List.getElem_cons_succ, List.getElem_cons_zero]
        refine wpAnyH_take (i := 2) (v := ?_) rfl (by kernel_rfl) (by kernel_rfl) (by kernel_rfl) (fun _ _ _ h => h) (Or.inl ⟨by rfl, ?_⟩) (by assumption) ?_
        rotate_left
        · intro w' hSw
          obtain ⟨k1, k2, k3, k4⟩ := hSw
          go_simp <;> with_reducible rfl
        try simp only [Act.put, List.setIfInBounds_toArray, List.set_cons_zero, List.set_cons_succ, List.getElem_toArray, List.getElem_cons_succ, List.getElem_cons_zero]
        refine wpAnyH_take (i := 3) (v := ?_) rfl (by kernel_rfl) (by kernel_rfl) (by kernel_rfl) (fun _ _ _ h => h) (Or.inl ⟨by rfl, ?_⟩) (by assumption) ?_
        rotate_left
        · intro w' hSw
          obtain ⟨k1, k2, k3, k4⟩ := hSw
          go_simp <;> with_reducible rfl
        try simp only [Act.put, List.setIfInBounds_toArray, List.set_cons_zero, List.set_cons_succ, List.getElem_toArray, List.getElem_cons_succ, List.getElem_cons_zero]
        refine wpAnyH_take (i := 4) (v := ?_) rfl (by kernel_rfl) (by kernel_rfl) (by kernel_rfl) (fun _ _ _ h => h) (Or.inl ⟨by rfl, ?_⟩) (by assumption) ?_
        rotate_left
        · intro w' hSw
          obtain ⟨k1, k2, k3, k4⟩ := hSw
          go_simp <;> with_reducible rfl
        try simp only [Act.put, List.setIfInBounds_toArray, List.set_cons_zero, List.set_cons_succ, List.getElem_toArray, List.getElem_cons_succ, List.getElem_cons_zero]
        refine wpAnyH_take (i := 5) (v := ?_) rfl (by kernel_rfl) (by kernel_rfl) (by kernel_rfl) (fun _ _ _ h => h) (Or.inl ⟨by rfl, ?_⟩) (by assumption) ?_
        rotate_left
        · intro w' hSw
          obtain ⟨k1, k2, k3, k4⟩ := hSw
          go_simp <;> with_reducible rfl
        try simp only [Act.put, List.setIfInBounds_toArray, List.set_cons_zero, List.set_cons_succ, List.getElem_toArray, List.getElem_cons_succ, List.getElem_cons_zero]
        refine wpAnyH_take (i := 6) (v := ?_) rfl (by kernel_rfl) (by kernel_rfl) (by kernel_rfl) (fun _ _ _ h => h) (Or.inl ⟨by rfl, ?_⟩) (by assumption) ?_
        rotate_left
        · intro w' hSw
          obtain ⟨k1, k2, k3, k4⟩ := hSw
          go_simp <;> with_reducible rfl
        try simp only [Act.put, List.setIfInBounds_toArray, List.set_cons_zero, List.set_cons_succ, List.getElem_toArray, List.getElem_cons_succ, List.getElem_cons_zero]
        refine wpAnyH_take (i := 7) (v := ?_) rfl (by kernel_rfl) (by kernel_rfl) (by kernel_rfl) (fun _ _ _ h => h) (Or.inl ⟨by rfl, ?_⟩) (by assumption) ?_
        rotate_left
        · intro w' hSw
          obtain ⟨k1, k2, k3, k4⟩ := hSw
          go_simp <;> with_reducible rfl
        try simp only [Act.put, List.setIfInBounds_toArray, List.set_cons_zero, List.set_cons_succ, List.getElem_toArray, List.getElem_cons_succ, List.getElem_cons_zero]
        refine wpAnyH_take (i := 8) (v := ?_) rfl (by kernel_rfl) (by kernel_rfl) (by kernel_rfl) (fun _ _ _ h => h) (Or.inl ⟨by rfl, ?_⟩) (by assumption) ?_
        rotate_left
        · intro w' hSw
          obtain ⟨k1, k2, k3, k4⟩ := hSw
          go_simp <;> with_reducible rfl
        try simp only [Act.put, List.setIfInBounds_toArray, List.set_cons_zero, List.set_cons_succ, List.getElem_toArray, List.getElem_cons_succ, List.getElem_cons_zero]
        refine wpAnyH_take (i := 9) (v := ?_) rfl (by kernel_rfl) (by kernel_rfl) (by kernel_rfl) (fun _ _ _ h => h) (Or.inl ⟨by rfl, ?_⟩) (by assumption) ?_
        rotate_left
        · intro w' hSw
          obtain ⟨k1, k2, k3, k4⟩ := hSw
          go_simp <;> with_reducible rfl
        try simp only [Act.put, List.setIfInBounds_toArray, List.set_cons_zero, List.set_cons_succ, List.getElem_toArray, List.getElem_cons_succ, List.getElem_cons_zero]
        refine wpAnyH_take (i := 10) (v := undef) rfl (by kernel_rfl) (by kernel_rfl) (by kernel_rfl) (fun _ _ _ h => h) (Or.inr ⟨by rfl, rfl⟩) (by assumption) ?_
        try simp only [Act.put, List.setIfInBounds_toArray, List.set_cons_zero, List.set_cons_succ, List.getElem_toArray, List.getElem_cons_succ, List.getElem_cons_zero]
        refine wpAnyH_take (i := 11) (v := undef) rfl (by kernel_rfl) (by kernel_rfl) (by kernel_rfl) (fun _ _ _ h => h) (Or.inr ⟨by rfl, rfl⟩) (by assumption) ?_
        try simp only [Act.put, List.setIfInBounds_toArray, List.set_cons_zero, List.set_cons_succ, List.getElem_toArray, List.getElem_cons_succ, List.getElem_cons_zero]
        refine wpAnyH_take (i := 12) (v := undef) rfl (by kernel_rfl) (by kernel_rfl) (by kernel_rfl) (fun _ _ _ h => h) (Or.inr ⟨by rfl, rfl⟩) (by assumption) ?_
        try simp only [Act.put, List.setIfInBounds_toArray, List.set_cons_zero, List.set_cons_succ, List.getElem_toArray, List.getElem_cons_succ, List.getElem_cons_zero]
        refine wpAnyH_take (i := 13) (v := undef) rfl (by kernel_rfl) (by kernel_rfl) (by kernel_rfl) (fun _ _ _ h => h) (Or.inr ⟨by rfl, rfl⟩) (by assumption) ?_
        try simp only [Act.put, List.setIfInBounds_toArray, List.set_cons_zero, List.set_cons_succ, List.getElem_toArray, List.getElem_cons_succ, List.getElem_cons_zero]
        refine wpAnyH_take (i := 14) (v := undef) rfl (by kernel_rfl) (by kernel_rfl) (by kernel_rfl) (fun _ _ _ h => h) (Or.inr ⟨by rfl, rfl⟩) (by assumption) ?_
        try simp only [Act.put, List.setIfInBounds_toArray, List.set_cons_zero, List.set_cons_succ, List.getElem_toArray, List.getElem_cons_succ, List.getElem_cons_zero]
        refine wpAnyH_take (i := 15) (v := undef) rfl (by kernel_rfl) (by kernel_rfl) (by kernel_rfl) (fun _ _ _ h => h) (Or.inr ⟨by rfl, rfl⟩) (by assumption) ?_
        try simp only [Act.put, List.setIfInBounds_toArray, List.set_cons_zero, List.set_cons_succ, List.getElem_toArray, List.getElem_cons_succ, List.getElem_cons_zero]
        refine wpAnyH_take (i := 16) (v := undef) rfl (by kernel_rfl) (by kernel_rfl) (by kernel_rfl) (fun _ _ _ h => h) (Or.inr ⟨by rfl, rfl⟩) (by assumption) ?_
        try simp only [Act.put, List.setIfInBounds_toArray, List.set_cons_zero, List.set_cons_succ, List.getElem_toArray, List.getElem_cons_succ, List.getElem_cons_zero]
        refine wpAnyH_take (i := 17) (v := undef) rfl (by kernel_rfl) (by kernel_rfl) (by kernel_rfl) (fun _ _ _ h => h) (Or.inr ⟨by rfl, rfl⟩) (by assumption) ?_
        try simp only [Act.put, List.setIfInBounds_toArray, List.set_cons_zero, List.set_cons_succ, List.getElem_toArray, List.getElem_cons_succ, List.getElem_cons_zero]
        refine wpAnyH_take (i := 18) (v := undef) rfl (by kernel_rfl) (by kernel_rfl) (by kernel_rfl) (fun _ _ _ h => h) (Or.inr ⟨by rfl, rfl⟩) (by assumption) ?_
        try simp only [Act.put, List.setIfInBounds_toArray, List.set_cons_zero, List.set_cons_succ, List.getElem_toArray, List.getElem_cons_succ, List.getElem_cons_zero]
        refine wpAnyH_take (i := 19) (v := undef) rfl (by kernel_rfl) (by kernel_rfl) (by kernel_rfl) (fun _ _ _ h => h) (Or.inr ⟨by rfl, rfl⟩) (by assumption) ?_
        try simp only [Act.put, List.setIfInBounds_toArray, List.set_cons_zero, List.set_cons_succ, List.getElem_toArray, List.getElem_cons_succ, List.getElem_cons_zero]
        refine wpAnyH_take (i := 20) (v := undef) rfl (by kernel_rfl) (by kernel_rfl) (by kernel_rfl) (fun _ _ _ h => h) (Or.inr ⟨by rfl, rfl⟩) (by assumption) ?_
        try simp only [Act.put, List.setIfInBounds_toArray, List.set_cons_zero, List.set_cons_succ, List.getElem_toArray, List.getElem_cons_succ, List.getElem_cons_zero]
        refine wpAnyH_take (i := 21) (v := ?_) rfl (by kernel_rfl) (by kernel_rfl) (by kernel_rfl) (fun _ _ _ h => h) (Or.inl ⟨by rfl, ?_⟩) (by assumption) ?_
        rotate_left
        · intro w' hSw
          obtain ⟨k1, k2, k3, k4⟩ := hSw
          go_simp <;> with_reducible rfl
        try simp only [Act.put, List.setIfInBounds_toArray, List.set_cons_zero, List.set_cons_succ, List.getElem_toArray, List.getElem_cons_succ, List.getElem_cons_zero]
        refine wpAnyH_done (by kernel_rfl) ?_ _
        go_wp2_with fail
        refine bodyPost_ret (v := .bool false) (by simp [results, Try.results136, go_sem]) rfl ?_
        exact ⟨by rw [HR.out], (Below.refl _ _).drew⟩
      | true =>
        by_cases hm : l.length = m.length
        case neg =>
          have HR : Hid (shT ⟨s, l⟩ ⟨s2, m⟩ = false) := by unfold Hid; rw [shT_deep hvb, hn]; simp [hm]
          have hm2 : ((l.length : Int) == (m.length : Int)) = false := beq_eq_false_iff_ne.2 (by omega)
          have hm3 : ((l.length : Int) != (m.length : Int)) = true := by simp [bne, hm2]
          clear hm
          go_enter Try.func136, Try.ntmps136
          have HS0 := hide (And.intro p0 (And.intro p1 (And.intro t0 t1)))
          go_wp2_with (go_at_call 47; refine (isVariable_all _ _).mono ?_; rintro e w ⟨rfl, rfl⟩; rw [hvb])
          go_region_held3 (fun w' => w'.cell? ⟨b, o, none⟩ = some (.string s) ∧ w'.cell? ⟨b, o + 1, none⟩ = some (.slice a l.length c) ∧ w'.cell? ⟨b2, o2, none⟩ = some (.string s2) ∧ w'.cell? ⟨b2, o2 + 1, none⟩ = some (.slice a2 m.length c2)) (first | exact HS0.out | go_keep) (fail)
          go_wp2_with fail
          refine bodyPost_ret (v := .bool false) (by simp [results, Try.results136, go_sem]) rfl ?_
          exact ⟨by rw [HR.out], (Below.refl _ _).drew⟩
        case pos =>
          have HR : Hid (shT ⟨s, l⟩ ⟨s2, m⟩ = shL l m) := by unfold Hid; rw [shT_deep hvb, hn]; simp [hm]
          have HLM := hide hm
          rw [← hm] at t1 hl2
          clear hm
          go_enter Try.func136, Try.ntmps136
          have HS0 := hide (And.intro p0 (And.intro p1 (And.intro t0 t1)))
          go_wp2_with (go_at_call 47; refine (isVariable_all _ _).mono ?_; rintro e w ⟨rfl, rfl⟩; rw [hvb])
          go_region_held3 (fun w' => w'.cell? ⟨b, o, none⟩ = some (.string s) ∧ w'.cell? ⟨b, o + 1, none⟩ = some (.slice a l.length c) ∧ w'.cell? ⟨b2, o2, none⟩ = some (.string s2) ∧ w'.cell? ⟨b2, o2 + 1, none⟩ = some (.slice a2 l.length c2)) (first | exact HS0.out | go_keep) (fail)
          go_wp2_with fail
          go_loopw [38] (fun i wr => ShInv w l m i wr) (fun i wr => l.length - (intOf i).toNat)
          case atStart => exact ⟨0, Nat.zero_le _, rfl, fun j _ _ h => absurd h (by omega), (Below.refl _ _).drew⟩
          case round =>
            obtain ⟨k, hk, rfl, hT, hB⟩ := hrel
            have HTK := hide hT
            have HB := hide hB
            have HPK := hide (HP.out.later hB)
            have HTT := hide (HT.out.later hB)
            clear hT hB
            by_cases hlt : k < l.length
            · have hltm : k < m.length := by have := HLM.out; omega
              obtain ⟨a', c', q1, hsub⟩ := HPK.out.sub
              obtain ⟨b', o', rfl, hx⟩ := hsub k hlt
              obtain ⟨a2', c2', r1, hsub2⟩ := HTT.out.sub
              obtain ⟨b2', o2', rfl, hx2⟩ := hsub2 k hltm
              dsimp only at q1 r1 hx hx2
              rw [← HLM.out] at r1
              have hk2 : (k : Int) < (l.length : Int) := by omega
              have HS1 := hide (And.intro q1 r1)
              have HI : Hid (Calls Try.prog 136 #[.pointer (some ⟨b', o' + k * 2, none⟩), .pointer (some ⟨b2', o2' + k * 2, none⟩)] wr.drew fun e w' => e = .returned (.bool (shT l[k] m[k])) ∧ Below wr.drew.heap.size wr.drew w') := IH.out l[k] (List.getElem_mem hlt) m[k] b' (o' + k * 2) b2' (o2' + k * 2) wr.drew (hx.later ((Below.refl _ _).drew)) (hx2.later ((Below.refl _ _).drew))
              have HNO := hide (fun h0 => shL_no HLM.out hlt hltm h0)
              have HNX : Hid (shT l[k] m[k] = true → ∀ j (h : j < l.length) (h2 : j < m.length), j < k + 1 → shT l[j] m[j] = true) := fun h0 j h h2 hj => by
                by_cases e : j = k
                · subst e; exact h0
                · exact HTK.out j h h2 (by omega)
              have hkp : ∀ w5, Below wr.drew.heap.size wr.drew w5 → w5.cell? ⟨b, o + 1, none⟩ = some (.slice (some ⟨b', o', none⟩) l.length c') ∧ w5.cell? ⟨b2, o2 + 1, none⟩ = some (.slice (some ⟨b2', o2', none⟩) l.length c2') := fun w5 h5 => ⟨(h5.cell (p := ⟨b, o + 1, none⟩) (HPK.out.lt)).trans HS1.out.1, (h5.cell (p := ⟨b2, o2 + 1, none⟩) (HTT.out.lt)).trans HS1.out.2⟩
              have HKP := hide hkp
              clear hsub hsub2 hx hx2 hkp
              generalize shT l[k] m[k] = y at *
              go_wp2_with fail
              go_region_held3 (fun w' => w'.cell? ⟨b, o + 1, none⟩ = some (.slice (some ⟨b', o', none⟩) l.length c') ∧ w'.cell? ⟨b2, o2 + 1, none⟩ = some (.slice (some ⟨b2', o2', none⟩) l.length c2')) (first | exact HS1.out | exact hS5 | go_keep)
                ((go_at_call 136; refine HI.out.mono ?_; rintro e w5 ⟨rfl, hb5⟩; have hS5 := HKP.out w5 hb5))
              have HB5 := hide (HB.out.trans (((Below.refl _ _).drew.trans hb5).mono HB.out.size))
              clear hb5 hS5
              cases y with
              | false =>
                have HF := hide (HR.out.trans (HNO.out rfl))
                go_wp2_with fail
                refine bodyPost_ret (v := .bool false) (by simp [results, Try.results136, go_sem]) rfl ?_
                exact ⟨by rw [HF.out], HB5.out⟩
              | true =>
                go_wp2_with fail
                go_roundw
                case rel => exact ⟨k + 1, by omega, by go_num, HNX.out rfl, HB5.out⟩
                case measure => simp [intOf]; omega
            · have HF : Hid (shT ⟨s, l⟩ ⟨s2, m⟩ = true) := by
                unfold Hid
                rw [HR.out, shL_iff l m HLM.out]
                exact fun j h h2 => HTK.out j h h2 (by omega)
              go_wp2_with fail
              refine bodyPost_ret (v := .bool true) (by simp [results, Try.results136, go_sem]) rfl ?_
              exact ⟨by rw [HF.out], HB.out⟩
#print axioms isShaped_any
end Go.Proofs.Ythlgknglalcggac

/- Walks: what stands for a variable, as the document says. -/
namespace Go.Proofs.Ythlgknglalcggac
open Go.RowKit
set_option linter.unusedSimpArgs false
set_option linter.unusedVariables false
set_option maxRecDepth 8000

def ForPost (w : World) (X : Nat → Prop) (l : List Bd) (n : ByteArray) (e : Ending) (w' : World) : Prop :=
  Below w.heap.size w w' ∧ ((∃ t a c, forT l n = some t ∧ e = .returned (.tuple #[.agg #[.string t.name, .slice a t.args.length c], .bool true]) ∧ Sl w' X a t.args) ∨ (forT l n = none ∧ e = .returned (.tuple #[.agg #[.string ⟨#[]⟩, .slice none 0 0], .bool false])))

def FoInv (l : List Bd) (n : ByteArray) (w0 : World) (v : Value) (wr : World) : Prop := ∃ k : Nat, k ≤ l.length ∧ v = .int .i64 (k : Int) ∧ forT (l.take k) n = none ∧ wr = w0

set_option maxHeartbeats 1000000 in
theorem for_any (l : List Bd) (n : ByteArray) (v : Value) (w : World) (X0 : Nat → Prop) (hv0 : BV w X0 v l) :
    Calls Try.prog 78 #[v, .string n] w fun e w' => ForPost w (fun b => X0 b ∧ b < w.heap.size) l n e w' := by
  have HV := hide (hv0.mono (Y := fun b => X0 b ∧ b < w.heap.size) fun b h1 h2 => ⟨h1, h2⟩)
  obtain ⟨a, c, rfl, hl, hv⟩ := hv0
  clear hv
  go_enter Try.func78, Try.ntmps78
  go_wp2_with fail
  have R0 := hide (Blk.new w #[.string ⟨#[]⟩, .slice none 0 0] 25)
  have B0 := hide ((Below.refl w.heap.size w).alloc (Nat.le_refl _) (.cells #[.string ⟨#[]⟩, .slice none 0 0] 25))
  have V0 := hide (HV.out.alloc (.cells #[.string ⟨#[]⟩, .slice none 0 0] 25))
  generalize w.alloc (.cells #[.string ⟨#[]⟩, .slice none 0 0] 25) = w0 at *
  go_loopw [6] (fun v wr => FoInv l n w0 v wr) (fun v wr => l.length - (intOf v).toNat)
  case atStart => exact ⟨0, Nat.zero_le _, rfl, rfl, rfl⟩
  case round =>
    obtain ⟨k, hk, rfl, hno, rfl⟩ := hrel
    have HNO := hide hno
    clear hno
    have r0 : wr.cell? ⟨w.heap.size, 0, none⟩ = some (.string ⟨#[]⟩) := R0.out.cell 0
    have r1 : wr.cell? ⟨w.heap.size, 1, none⟩ = some (.slice none 0 0) := R0.out.cell 1
    have rf := R0.out.frozen
    by_cases hlt : k < l.length
    · obtain ⟨b, o, a', c', rfl, d0, d1, d2, hs⟩ := V0.out.get k hlt
      have hlt2 : (k : Int) < (l.length : Int) := by omega
      have HT := hide (forT_take hlt HNO.out)
      have HS := hide hs
      clear hs
      generalize l[k] = d at *
      by_cases he : d.nm = n
      · have heq := bytes_yes he
        have HF := hide (HT.out.1 he)
        clear he
        go_wp2_with fail
        refine bodyPost_ret (v := .tuple #[.agg #[.string d.t.name, .slice a' d.t.args.length c'], .bool true]) (by simp [results, Try.results78, go_sem, World.cell?_setCell_same, World.cell?_setCell_other, r0, r1]) rfl ?_
        refine ⟨(B0.out.setCell (by simp) _).setCell (by simp) _, Or.inl ⟨d.t, a', c', HF.out, rfl, HS.out.kept fun b hb => ?_⟩⟩
        rw [Below.heap_setCell _ _ _ _ (by simp; omega), Below.heap_setCell _ _ _ _ (by simp; omega)]
      · have heq := bytes_no he
        have HF := hide (HT.out.2 he)
        clear he
        go_wp2_with fail
        go_roundw
        case rel => exact ⟨k + 1, by omega, by go_num, HF.out, by trivial⟩
        case measure => simp [intOf]; omega
    · have htk : l.take k = l := List.take_of_length_le (by omega)
      have HF := hide HNO.out
      rw [htk] at HF
      clear htk
      go_wp2_with fail
      refine bodyPost_ret (v := .tuple #[.agg #[.string ⟨#[]⟩, .slice none 0 0], .bool false]) (by simp [results, Try.results78, go_sem, World.cell?_setCell_same, World.cell?_setCell_other, r0, r1]) rfl ?_
      exact ⟨(B0.out.setCell (by simp) _).setCell (by simp) _, Or.inr ⟨HF.out, rfl⟩⟩
#print axioms for_any
end Go.Proofs.Ythlgknglalcggac


/- Walks: two bindings by their names. -/
namespace Go.Proofs.Ythlgknglalcggac
open Go.RowKit
set_option linter.unusedSimpArgs false
set_option linter.unusedVariables false
set_option maxRecDepth 8000

/-- How two texts stand to each other. -/
def cmpN (a b : ByteArray) : Int := if ltB a b = true then -1 else if ltB b a = true then 1 else 0
theorem isNaN_any (a : ByteArray) (w : World) : Calls Try.prog 135 #[.string a] w fun e w' => e = .returned (.bool false) ∧ w' = w := by
  go_enter Try.func135, Try.ntmps135
  go_wp2_with fail
  go_ret
  exact ⟨by simp, rfl⟩
theorem compare_any (a b : ByteArray) (w : World) : Calls Try.prog 122 #[.string a, .string b] w fun e w' => e = .returned (.int .i64 (cmpN a b)) ∧ w' = w := by
  cases h1 : Op.bytesLess a.toList b.toList with
  | true =>
    have HN : Hid (cmpN a b = -1) := by unfold Hid cmpN ltB; rw [h1]; rfl
    go_enter Try.func122, Try.ntmps122
    go_wp2_with (go_at_call 135; refine (isNaN_any _ _).mono ?_; rintro e w' ⟨rfl, rfl⟩)
    go_ret
    exact ⟨by rw [HN.out]; rfl, rfl⟩
  | false =>
    by_cases he : a = b
    · have HN : Hid (cmpN a b = 0) := by unfold Hid cmpN ltB; rw [h1, he, bl_irrefl]; rfl
      have h2 : (a.toList == b.toList) = true := bytes_yes he
      clear he
      go_enter Try.func122, Try.ntmps122
      go_wp2_with (go_at_call 135; refine (isNaN_any _ _).mono ?_; rintro e w' ⟨rfl, rfl⟩)
      go_ret
      exact ⟨by rw [HN.out]; rfl, rfl⟩
    · have HN : Hid (cmpN a b = 1) := by
        unfold Hid cmpN
        have h3 : ltB b a = true := by
          cases h : ltB b a with
          | true => rfl
          | false => exact absurd (ltB_conn h1 h) he
        rw [if_neg (by unfold ltB; rw [h1]; simp), if_pos h3]
      have h2 : (a.toList == b.toList) = false := bytes_no he
      clear he
      go_enter Try.func122, Try.ntmps122
      go_wp2_with (go_at_call 135; refine (isNaN_any _ _).mono ?_; rintro e w' ⟨rfl, rfl⟩)
      go_ret
      exact ⟨by rw [HN.out]; rfl, rfl⟩
open Go.Sort in
#print axioms compare_any
end Go.Proofs.Ythlgknglalcggac


/- Walks: bindings out of a map, in order. -/
namespace Go.Proofs.Ythlgknglalcggac
open Go.RowKit
set_option linter.unusedSimpArgs false
set_option linter.unusedVariables false
set_option maxRecDepth 8000

theorem Try.infoBind : (Try.prog.info? 75).map (fun i => (i.zero, i.size, i.bytes)) = some (some (.agg #[.string ByteArray.empty, .string ByteArray.empty, .slice none 0 0]), 3, 56) := by kernel_rfl

theorem cell_three_new (w : World) (c0 c1 c2 : Value) (T : Nat) : ∀ j u, [c0, c1, c2][j]? = some u → (w.alloc (.cells #[c0, c1, c2] T)).cell? ((⟨w.heap.size, 0, none⟩ : Addr).add j) = some u :=
  World.news_of_block (cs := #[c0, c1, c2]) (heap_alloc_new w _)

/-- A binding appended to a row of them. -/
theorem binds_append {w w1 : World} {N : Nat} {Y : Nat → Prop} {v : Value} {cs : List Bc} (h : BRow w N Y v cs) (hN : N ≤ w.heap.size) (hY : ∀ b, Y b → b < N) (hb : Below w.heap.size w w1) (x : Bc) (ht : Sl w1 (fun b => Y b ∨ w.heap.size ≤ b) x.2.1 x.1.t.args) (hn : cs.length ≤ 1000000) (A : Nat) (hA : w1.heap.size = A) :
    ∃ v2 w3, (Builtin.append_ #[40, 40] 40 #[v, .slice (some ⟨A, 0, none⟩) 1 1]).run Try.prog (w1.alloc (.cells #[.string x.1.nm, .string x.1.t.name, .slice x.2.1 x.1.t.args.length x.2.2] 75)) = .ok v2 w3 ∧ BRow w3 N Y v2 (cs ++ [x]) ∧
      (w1.alloc (.cells #[.string x.1.nm, .string x.1.t.name, .slice x.2.1 x.1.t.args.length x.2.2] 75)).grownBy w3 v.ownBlock := by
  subst hA
  obtain ⟨i0, hi, hz0, hz1, hz2⟩ := info_parts Try.infoBind
  have hs := hb.size
  obtain ⟨g, cap, w3, hr, ho, hg, hat, hlt⟩ := run_append_lies (P := Try.prog) (w := w1.alloc (.cells #[.string x.1.nm, .string x.1.t.name, .slice x.2.1 x.1.t.args.length x.2.2] 75)) 40 40 N 75 i0 _ 3 56 Try.underlying40 hi hz0 hz1 hz2 rfl (by decide) v cs.length (flat3 cs) ((h.below hb).own.alloc _)
    ⟨w1.heap.size, 0, none⟩ 1 1 (enc3 x) rfl (cell_three_new _ _ _ _ _) (fun y hy => by simp [enc3] at hy; rcases hy with rfl | rfl | rfl <;> rfl) (by decide) (by unfold maxLen; omega) (by omega) (by simp; omega) _ rfl
  exact ⟨_, w3, hr, h.push hN hY hb ht _ rfl ho hg hat, hg⟩

/-- What is known midway. -/
def IoInv (w : World) (Z : List Bc) (b : Nat) (u : Value) (wr : World) : Prop :=
  ∃ Zr cs : List Bc, RangeAt wr b w.heap.size (Z.map toP) (Zr.map toP) ∧ (cs.map (·.1) ++ Zr.map (·.1)).Perm (Z.map (·.1)) ∧ (∀ x ∈ Zr, x ∈ Z) ∧ BRow wr (w.heap.size + 1) (fun _ => False) u cs ∧ Below w.heap.size w wr ∧ w.heap.size + 1 ≤ wr.heap.size

end Go.Proofs.Ythlgknglalcggac

/- What is wrong with bindings. -/
namespace Go.Proofs.Ythlgknglalcggac
open Go.RowKit
set_option linter.unusedSimpArgs false
set_option linter.unusedVariables false

/-- A text is not above another one. -/
def leB (a b : ByteArray) : Bool := Op.bytesLess a.toList b.toList || a.toList == b.toList
def prevN (ls : List Bd) (k : Nat) : Option ByteArray := if k = 0 then none else (ls[k - 1]?).map Bd.nm
/-- What is wrong with a binding behind another one. -/
def bmB (p : Option ByteArray) (d : Bd) : Int :=
  if (nameB d.nm && varB d.nm) = false then 1 else if (match p with | some q => leB d.nm q | none => false) = true then 14 else mayE d.t
def bmK (ls : List Bd) (k : Nat) : Int := match ls[k]? with
  | some d => bmB (prevN ls k) d
  | none => 0
def bmT (ls : List Bd) : Nat → Int
  | 0 => 0
  | n + 1 => if bmT ls n = 0 then bmK ls n else bmT ls n
/-- What is wrong with a list of bindings. -/
def bindsE (ls : List Bd) : Int := if 40 < ls.length then 3 else bmT ls ls.length

theorem bmT_stays {ls : List Bd} {k : Nat} (h : bmT ls k ≠ 0) : ∀ n, k ≤ n → bmT ls n = bmT ls k
  | 0, hn => by have : k = 0 := by omega
                subst this; rfl
  | n + 1, hn => by
    by_cases e : k = n + 1
    · rw [e]
    · have ih := bmT_stays h n (by omega)
      rw [bmT, if_neg (by rw [ih]; exact h), ih]
theorem bmT_err {ls : List Bd} {k : Nat} {z : Int} (hk : k < ls.length) (h40 : ¬ 40 < ls.length) (h0 : bmT ls k = 0) (hz : bmK ls k = z) (hne : z ≠ 0) : bindsE ls = z := by
  have h1 : bmT ls (k + 1) = z := by rw [bmT, if_pos h0, hz]
  unfold bindsE
  rw [if_neg h40, bmT_stays (k := k + 1) (by rw [h1]; exact hne) _ (by omega), h1]
theorem bmT_next {ls : List Bd} {k : Nat} (h0 : bmT ls k = 0) (hz : bmK ls k = 0) : bmT ls (k + 1) = 0 := by rw [bmT, if_pos h0, hz]
theorem bmK_name {ls : List Bd} {k : Nat} (hk : k < ls.length) (h : (nameB ls[k].nm && varB ls[k].nm) = false) : bmK ls k = 1 := by
  unfold bmK bmB
  rw [List.getElem?_eq_getElem hk]
  simp only [h, if_true]
theorem bmK_order {ls : List Bd} {j : Nat} (hk : j + 1 < ls.length) (h : (nameB ls[j + 1].nm && varB ls[j + 1].nm) = true) (hle : leB ls[j + 1].nm (ls[j]'(by omega)).nm = true) : bmK ls (j + 1) = 14 := by
  unfold bmK bmB prevN
  rw [List.getElem?_eq_getElem hk]
  simp only [h, Nat.add_sub_cancel, Nat.succ_ne_zero, if_false, Bool.true_eq_false]
  rw [List.getElem?_eq_getElem (by omega : j < ls.length)]
  simp only [Option.map_some, hle, if_true]
theorem bmK_may {ls : List Bd} {j : Nat} (hk : j + 1 < ls.length) (h : (nameB ls[j + 1].nm && varB ls[j + 1].nm) = true) (hle : leB ls[j + 1].nm (ls[j]'(by omega)).nm = false) : bmK ls (j + 1) = mayE ls[j + 1].t := by
  unfold bmK bmB prevN
  rw [List.getElem?_eq_getElem hk]
  simp only [h, Nat.add_sub_cancel, Nat.succ_ne_zero, if_false, Bool.true_eq_false]
  rw [List.getElem?_eq_getElem (by omega : j < ls.length)]
  simp only [Option.map_some, hle, Bool.false_eq_true, if_false]
theorem bmK_first {ls : List Bd} (hk : 0 < ls.length) (h : (nameB ls[0].nm && varB ls[0].nm) = true) : bmK ls 0 = mayE ls[0].t := by
  unfold bmK bmB prevN
  rw [List.getElem?_eq_getElem hk]
  simp only [h, if_true, Bool.true_eq_false, Bool.false_eq_true, if_false]
end Go.Proofs.Ythlgknglalcggac


/- Walks: whether bindings may be, as the document says. -/
namespace Go.Proofs.Ythlgknglalcggac
open Go.RowKit
set_option linter.unusedSimpArgs false
set_option linter.unusedVariables false
set_option maxRecDepth 8000

def BmInv (ls : List Bd) (w : World) (v : Value) (wr : World) : Prop := ∃ k : Nat, v = .int .i64 (k : Int) ∧ k ≤ ls.length ∧ bmT ls k = 0 ∧ Below w.heap.size w wr

theorem Below.drewN' {B : Nat} {a w : World} (h : Below B a w) (n : Nat) : Below B a (w.drewN n) := ⟨h.os, h.tape, h.output, h.size, h.block⟩

end Go.Proofs.Ythlgknglalcggac

/- Walks: bindings sorted, as the document says. -/
namespace Go.Proofs.Ythlgknglalcggac
open Go.RowKit
set_option linter.unusedSimpArgs false
set_option linter.unusedVariables false
set_option maxRecDepth 8000

theorem flat3_set (y : Bc) : ∀ (cs : List Bc) (i : Nat), i < cs.length → flat3 (cs.set i y) = (((flat3 cs).set (i * 3) (.string y.1.nm)).set (i * 3 + 1) (.string y.1.t.name)).set (i * 3 + 2) (.slice y.2.1 y.1.t.args.length y.2.2)
  | [], i, h => by simp at h
  | x :: r, 0, h => by simp [flat3, enc3]
  | x :: r, i + 1, h => by
    have ih := flat3_set y r i (by simpa using h)
    rw [List.set_cons_succ, flat3, flat3, ih]
    rw [show (i + 1) * 3 = i * 3 + 3 by omega, show i * 3 + 3 + 1 = (i * 3 + 1) + 3 by omega, show i * 3 + 3 + 2 = (i * 3 + 2) + 3 by omega]
    simp [enc3]
/-- The world with a binding stored in a row. -/
def put3 (w : World) (g i : Nat) (y : Bc) : World := (((w.setCell ⟨g, i * 3, none⟩ (.string y.1.nm)).setCell ⟨g, i * 3 + 1, none⟩ (.string y.1.t.name)).setCell ⟨g, i * 3 + 2, none⟩ (.slice y.2.1 y.1.t.args.length y.2.2))
theorem put3_block {w : World} {g i b : Nat} {y : Bc} (h : b ≠ g) : (put3 w g i y).heap[b]? = w.heap[b]? := by
  unfold put3
  rw [Below.heap_setCell _ _ _ _ (by simpa using h), Below.heap_setCell _ _ _ _ (by simpa using h), Below.heap_setCell _ _ _ _ (by simpa using h)]
theorem put3_size {w : World} {g i : Nat} {y : Bc} : (put3 w g i y).heap.size = w.heap.size := by simp [put3, World.setCell]
theorem put3_below {w0 w : World} {B g i : Nat} {y : Bc} (h : Below B w0 w) (hg : B ≤ g) : Below B w0 (put3 w g i y) := ((h.setCell (by exact hg) _).setCell (by exact hg) _).setCell (by exact hg) _
theorem Sl.put3 {w : World} {N g n cap i : Nat} {Y : Nat → Prop} {a : Option Addr} {l : List Tm} {y : Bc} (h : Sl w (fun b => Y b ∨ (N ≤ b ∧ some b ≠ (Value.slice (some ⟨g, 0, none⟩) n cap).ownBlock)) a l) (hY : ∀ b, Y b → b < N) (hg : N ≤ g) : Sl (put3 w g i y) (fun b => Y b ∨ (N ≤ b ∧ some b ≠ (Value.slice (some ⟨g, 0, none⟩) n cap).ownBlock)) a l :=
  h.kept fun b hb => put3_block (by
    rcases hb with hb | hb
    · have := hY b hb; omega
    · intro e; exact hb.2 (by simp [Value.ownBlock, e]))
theorem BRow.put {w : World} {N : Nat} {Y : Nat → Prop} {cs : List Bc} {g n cap : Nat} (h : BRow w N Y (.slice (some ⟨g, 0, none⟩) n cap) cs) (hY : ∀ b, Y b → b < N) (i : Nat) (hi : i < cs.length) (y : Bc) (hy : Sl w (fun b => Y b ∨ (N ≤ b ∧ some b ≠ (Value.slice (some ⟨g, 0, none⟩) n cap).ownBlock)) y.2.1 y.1.t.args) : BRow (put3 w g i y) N Y (.slice (some ⟨g, 0, none⟩) n cap) (cs.set i y) := by
  have hNg : N ≤ g := (h.own.lt g rfl).1
  refine ⟨?_, fun x hx => ?_⟩
  · rcases h.own.2 with ⟨e, _⟩ | ⟨g', cap', cur, e, hbase, hb, h1, h2, h3, h4⟩
    · cases e
    · simp at e
      obtain ⟨rfl, rfl, rfl⟩ := e
      have hB : Blk w g cur 75 := hb
      have hB' := ((hB.set (i * 3) (.string y.1.nm)).set (i * 3 + 1) (.string y.1.t.name)).set (i * 3 + 2) (.slice y.2.1 y.1.t.args.length y.2.2)
      refine ⟨flat3_length _, Or.inr ⟨g, cap, _, by simp, hbase, hB', by simpa using h1, h2, by simpa using h3, ?_⟩⟩
      rw [flat3_set y cs i hi, ← h4]
      simp [List.take_set]
  · rcases List.mem_or_eq_of_mem_set hx with h1 | h1
    · exact (h.row x h1).put3 hY hNg
    · rw [h1]; exact hy.put3 hY hNg
/-- Two of a row change places. -/
theorem BRow.swap {w : World} {N : Nat} {Y : Nat → Prop} {A B : List Bc} {x y : Bc} {g n cap : Nat} (h : BRow w N Y (.slice (some ⟨g, 0, none⟩) n cap) ((A ++ [y]) ++ x :: B)) (hY : ∀ b, Y b → b < N) : BRow (put3 (put3 w g (A.length + 1) y) g A.length x) N Y (.slice (some ⟨g, 0, none⟩) n cap) (A ++ x :: y :: B) := by
  have hNg : N ≤ g := (h.own.lt g rfl).1
  have h1 := h.put hY (A.length + 1) (by simp) y (h.row y (by simp))
  have h2 := h1.put hY A.length (by simp) x ((h.row x (by simp)).put3 hY hNg)
  have e : (((A ++ [y]) ++ x :: B).set (A.length + 1) y).set A.length x = A ++ x :: y :: B := by
    rw [List.set_append_right _ _ (by simp)]
    simp [List.set_append_right]
  rw [e] at h2
  exact h2

/-- None is ahead of one that stands ahead of it. -/
def Weak (l : List Bc) : Prop := l.Pairwise fun a b => ltB b.1.nm a.1.nm = false
theorem weak_ins {A B : List Bc} {x : Bc} (hw : Weak (A ++ B)) (hB : ∀ b ∈ B, ltB x.1.nm b.1.nm = true) (hA : ∀ a ∈ A, ltB x.1.nm a.1.nm = false) : Weak (A ++ x :: B) := by
  obtain ⟨h1, h2, h3⟩ := List.pairwise_append.1 hw
  refine List.pairwise_append.2 ⟨h1, List.pairwise_cons.2 ⟨fun b hb => ltB_asymm (hB b hb), h2⟩, fun a ha b hb => ?_⟩
  rcases List.mem_cons.1 hb with rfl | hb
  · exact hA a ha
  · exact h3 a ha b hb
theorem weak_last {A B : List Bc} {a x : Bc} (hw : Weak (A ++ [a] ++ B)) (h : ltB x.1.nm a.1.nm = false) : ∀ y ∈ A ++ [a], ltB x.1.nm y.1.nm = false := fun y hy => by
  rcases List.mem_append.1 hy with hy | hy
  · obtain ⟨h1, _⟩ := List.pairwise_append.1 hw
    exact ltB_ntrans h ((List.pairwise_append.1 h1).2.2 y hy a (by simp))
  · have e : y = a := by simpa using hy
    rw [e]; exact h

theorem BRow.atk {w : World} {N : Nat} {Y : Nat → Prop} {P Q : List Bc} {z : Bc} {g n cap : Nat} (h : BRow w N Y (.slice (some ⟨g, 0, none⟩) n cap) (P ++ z :: Q)) :
    w.cell? ⟨g, P.length * 3, none⟩ = some (.string z.1.nm) ∧ w.cell? ⟨g, P.length * 3 + 1, none⟩ = some (.string z.1.t.name) ∧ w.cell? ⟨g, P.length * 3 + 2, none⟩ = some (.slice z.2.1 z.1.t.args.length z.2.2) ∧ ∀ j, w.frozen? ⟨g, j, none⟩ = false := by
  obtain ⟨g', cap', e, _, _, hc⟩ := owned_val h.own (by simp only [List.length_append, List.length_cons]; omega)
  simp at e
  obtain ⟨rfl, _, rfl⟩ := e
  have hf : ∀ j, w.frozen? ⟨g, j, none⟩ = false := by
    rcases h.own.2 with ⟨e, _⟩ | ⟨g', cap', cur, e, _, hb, _⟩
    · cases e
    · simp at e
      obtain ⟨rfl, _, rfl⟩ := e
      intro j
      simp [World.frozen?, hb]
  have hg : ∀ j, j < 3 → (flat3 (P ++ z :: Q))[P.length * 3 + j]? = (enc3 z)[j]? := fun j hj => by
    rw [flat3_get _ P.length (by simp) j hj]
    simp
  exact ⟨hc _ _ (by have h0 := hg 0 (by decide); rw [Nat.add_zero] at h0; rw [h0]; rfl), hc _ _ (by rw [hg 1 (by decide)]; rfl), hc _ _ (by rw [hg 2 (by decide)]; rfl), hf⟩
theorem ins_perm {A B cs : List Bc} {x : Bc} {l : List Bd} (h : A ++ B = cs) (hp : (cs.map (·.1) ++ [x.1]).Perm l) : ((A ++ x :: B).map (·.1)).Perm l := by
  refine List.Perm.trans ?_ hp
  have h1 : (A ++ x :: B).Perm (cs ++ [x]) := by
    rw [← h]
    exact List.perm_middle.trans (List.perm_append_singleton x (A ++ B)).symm
  simpa using h1.map (·.1)

/-- What is known in the outer loop. -/
def SoInv (w : World) (Y : Nat → Prop) (ls : List Bd) (u v : Value) (wr : World) : Prop :=
  ∃ (k : Nat) (cs : List Bc), v = .int .i64 (k : Int) ∧ k ≤ ls.length ∧ BRow wr w.heap.size Y u cs ∧ (cs.map (·.1)).Perm (ls.take k) ∧ Weak cs ∧ Below w.heap.size w wr
/-- What is known in the inner loop. -/
def SiInv (w : World) (Y : Nat → Prop) (cs : List Bc) (x : Bc) (g cap : Nat) (v : Value) (wr : World) : Prop :=
  ∃ (A B : List Bc), v = .int .i64 (A.length : Int) ∧ A ++ B = cs ∧ (∀ b ∈ B, ltB x.1.nm b.1.nm = true) ∧ BRow wr w.heap.size Y (.slice (some ⟨g, 0, none⟩) (cs.length + 1) cap) (A ++ x :: B) ∧ Below w.heap.size w wr

set_option maxHeartbeats 2000000 in
theorem sorted_any (ls : List Bd) (u : Value) (w : World) (X : Nat → Prop) (hu : BV w X u ls) (hn : ls.length ≤ 1000000) :
    Calls Try.prog 101 #[u] w fun e w' => ∃ (v : Value) (cs : List Bc), e = .returned v ∧ BRow w' w.heap.size (fun b => X b ∧ b < w.heap.size) v cs ∧ (cs.map (·.1)).Perm ls ∧ Weak cs ∧ Below w.heap.size w w' := by
  have HU := hide (hu.mono (Y := fun b => X b ∧ b < w.heap.size) fun b h1 h2 => ⟨h1, h2⟩)
  obtain ⟨a, c, rfl, hl, hu2⟩ := hu
  clear hu2
  go_enter Try.func101, Try.ntmps101
  go_wp2_with fail
  go_loopw [3, 4] (fun u v wr => SoInv w (fun b => X b ∧ b < w.heap.size) ls u v wr) (fun u v wr => ls.length - (intOf v).toNat)
  case atStart => exact ⟨0, [], rfl, Nat.zero_le _, BRow.start _ _ _, by simp, List.Pairwise.nil, Below.refl _ _⟩
  case round =>
    obtain ⟨k, cs, rfl, hk, hrow, hperm, hweak, hb⟩ := hrel
    have HROW := hide hrow
    have HP := hide hperm
    have HW := hide hweak
    have HB := hide hb
    clear hrow hperm hweak
    by_cases hlt : k < ls.length
    · obtain ⟨b, o, a', c', rfl, d0, d1, d2, hs⟩ := (HU.out.later hb).get k hlt
      have hlt2 : (k : Int) < (ls.length : Int) := by omega
      have HS := hide hs
      have HP1 : Hid ((cs.map (·.1) ++ [ls[k]]).Perm (ls.take (k + 1))) := by
        unfold Hid
        rw [List.take_succ_eq_append_getElem hlt]
        exact HP.out.append_right _
      have hLC : cs.length ≤ 1000000 := by have := HP.out.length_eq; simp at this; omega
      clear hb hs
      generalize ls[k] = d at *
      obtain ⟨v2, w2, hrun, hB2, hg2⟩ := binds_append HROW.out HB.out.size (fun b h => h.2) (Below.refl wr.heap.size wr) (d, a', c') (HS.out.mono fun b h _ => Or.inl h) hLC wr.heap.size rfl
      obtain ⟨g, cap, rfl, hNg, hgl⟩ := hB2.own.form (by simp)
      have HRUN := hide hrun
      have HB2 := hide hB2
      have HBW : Hid (Below w.heap.size w w2) := (HB.out.alloc HB.out.size _).grown hg2 (by have := HB.out.size; simp; omega) (fun j hj => by have := (HROW.out.own.lt j hj).1; omega)
      have hlen2 : (cs ++ [(d, a', c')]).length = cs.length + 1 := by simp
      rw [hlen2] at HB2 HRUN
      clear hrun hB2 hg2
      have hgw : w.heap.size ≤ g := hNg
      go_wp2_with (at_builtin; refine wpList_append_eq rfl _ _ _ _ rfl rfl rfl HRUN.out ?_)
      go_loopw [5] (fun v wr => SiInv w (fun b => X b ∧ b < w.heap.size) cs (d, a', c') g cap v wr) (fun v wr => (intOf v).toNat)
      case atStart =>
        exact ⟨cs, [], by go_num, by simp, by simp, HB2.out, HBW.out⟩
      case round =>
        obtain ⟨A, B, rfl, hAB, hBx, hrow, hb⟩ := hrel
        have HROW3 := hide hrow
        have HB3 := hide hb
        have HBX := hide hBx
        have HAB := hide hAB
        have HLA : Hid (A.length + B.length = cs.length) := by have := congrArg List.length hAB; unfold Hid; simpa using this
        clear hBx hAB
        rcases List.eq_nil_or_concat A with rfl | ⟨A', y, hAe⟩
        · clear hrow hb
          go_wp2_with fail
          go_quiet (fail)
          go_wp2_with fail
          go_roundw
          case rel => exact ⟨k + 1, [] ++ (d, a', c') :: B, by go_num, by omega, HROW3.out.below (below_drewN (Below.refl _ _) _), ins_perm HAB.out HP1.out, weak_ins (by rw [HAB.out]; exact HW.out) HBX.out (by simp), below_drewN HB3.out _⟩
          case measure => simp [intOf]; omega
        · rw [List.concat_eq_append] at hAe
          subst hAe
          have hlen : (A' ++ [y]).length = A'.length + 1 := by simp
          have hm1 : A'.length + 1 < cs.length + 1 := by have := HLA.out; simp at this; omega
          have e1 : (A' ++ [y]) ++ (d, a', c') :: B = A' ++ y :: (d, a', c') :: B := by simp
          obtain ⟨x0, x1, x2, xf⟩ := hrow.atk
          rw [e1] at hrow
          obtain ⟨y0, y1, y2, _⟩ := hrow.atk
          simp only [List.length_append, List.length_cons, List.length_nil, Nat.zero_add] at x0 x1 x2 ⊢
          clear hrow hb hlen e1
          generalize hmA : A'.length = m at *
          have HMA := hide hmA
          clear hmA
          have hj0 : (0 : Int) ≤ (m : Int) := by omega
          have hw1 : IntKind.i64.wrap ((m : Int) + 1 - 1) = (m : Int) := by rw [IntKind.wrap_i64]; omega
          have hw2 : IntKind.i64.wrap (m : Int) = (m : Int) := by rw [IntKind.wrap_i64]; omega
          cases hlt3 : Op.bytesLess d.nm.toList y.1.nm.toList with
          | true =>
            have HLT := hide hlt3
            go_wp2_with fail
            go_quiet (fail)
            have HROW5 := hide (HROW3.out.below (below_drewN (Below.refl wr.heap.size wr) nq))
            have HB5 := hide (below_drewN HB3.out nq)
            have x0' : (wr.drewN nq).cell? ⟨g, (m + 1) * 3, none⟩ = some (.string d.nm) := x0
            have x1' : (wr.drewN nq).cell? ⟨g, (m + 1) * 3 + 1, none⟩ = some (.string d.t.name) := x1
            have x2' : (wr.drewN nq).cell? ⟨g, (m + 1) * 3 + 2, none⟩ = some (.slice a' d.t.args.length c') := x2
            have y0' : (wr.drewN nq).cell? ⟨g, m * 3, none⟩ = some (.string y.1.nm) := y0
            have y1' : (wr.drewN nq).cell? ⟨g, m * 3 + 1, none⟩ = some (.string y.1.t.name) := y1
            have y2' : (wr.drewN nq).cell? ⟨g, m * 3 + 2, none⟩ = some (.slice y.2.1 y.1.t.args.length y.2.2) := y2
            have xf' : ∀ j, (wr.drewN nq).frozen? ⟨g, j, none⟩ = false := xf
            have hg5 : g < (wr.drewN nq).heap.size := cell_lt x0'
            clear x0 x1 x2 y0 y1 y2 xf hlt3
            generalize wr.drewN nq = w5 at *
            go_wp2_with fail
            go_roundw
            case rel =>
              have hr := (HROW5.out.swap fun b h => h.2).below ((Below.refl _ _).alloc (Nat.le_refl _) (.cells #[.string d.nm, .string d.t.name, .slice a' d.t.args.length c'] 75))
              rw [HMA.out] at hr
              have hbb := (put3_below (i := m) (y := (d, a', c')) (put3_below (i := m + 1) (y := y) HB5.out hgw) hgw).alloc (by rw [put3_size, put3_size]; exact HB5.out.size) (.cells #[.string d.nm, .string d.t.name, .slice a' d.t.args.length c'] 75)
              simp only [put3] at hr hbb
              refine ⟨A', y :: B, by rw [HMA.out], by have := HAB.out; simpa using this, fun b hb => ?_, hr, hbb⟩
              rcases List.mem_cons.1 hb with rfl | hb
              · exact HLT.out
              · exact HBX.out b hb
            case measure => simp [intOf]
          | false =>
            have HLT := hide hlt3
            go_wp2_with fail
            go_quiet (fail)
            go_wp2_with fail
            go_roundw
            case rel => exact ⟨k + 1, (A' ++ [y]) ++ (d, a', c') :: B, by go_num, by omega, HROW3.out.below (below_drewN (Below.refl _ _) _), ins_perm HAB.out HP1.out, weak_ins (by rw [HAB.out]; exact HW.out) HBX.out (weak_last (by rw [HAB.out]; exact HW.out) HLT.out), below_drewN HB3.out _⟩
            case measure => simp [intOf]; omega
    · go_wp2_with fail
      go_ret
      exact ⟨u3, cs, rfl, HROW.out, by have h := HP.out; rwa [List.take_of_length_le (by omega)] at h, HW.out, HB.out⟩
#print axioms sorted_any
end Go.Proofs.Ythlgknglalcggac

/- Walks: one term as a case of another one, as the document says. -/
namespace Go.Proofs.Ythlgknglalcggac
open Go.RowKit
set_option linter.unusedSimpArgs false
set_option linter.unusedVariables false
set_option maxRecDepth 8000

/-- What a matching leaves: what is old stays, but for the row that is grown. -/
def MtPost (w : World) (N : Nat) (Y : Nat → Prop) (hv : Value) (r : Option (List Bd)) (e : Ending) (w' : World) : Prop :=
  w.grownBy w' hv.ownBlock ∧ ((r = none ∧ ∃ v, e = .returned (.tuple #[v, .bool false])) ∨
    ∃ (h' : List Bd) (v : Value) (cs' : List Bc), r = some h' ∧ e = .returned (.tuple #[v, .bool true]) ∧ cs'.map (·.1) = h' ∧ BRow w' N Y v cs' ∧ (∀ k, v.ownBlock = some k → hv.ownBlock = some k ∨ w.heap.size ≤ k))

theorem grown_alloc2 (w : World) (o o' : Obj) (row : Option Nat) : w.grownBy ((w.alloc o).alloc o') row := (World.grownBy_alloc w o row).andThen (World.grownBy_alloc (w.alloc o) o' none) (by simp)
theorem grown_below {w w' w'' : World} {row : Option Nat} (h : w.grownBy w' row) (hb : Below w'.heap.size w' w'') : w.grownBy w'' row :=
  h.andThen (row' := none) ⟨hb.os, hb.tape, hb.output, hb.size, fun j hj _ => hb.block j hj⟩ (by simp)

/-- A binding appended to a row of them, and where the row is. -/
theorem binds_append2 {w : World} {N : Nat} {Y : Nat → Prop} {v : Value} {cs : List Bc} (h : BRow w N Y v cs) (hN : N ≤ w.heap.size) (hY : ∀ b, Y b → b < N) (x : Bc) (ht : Sl w (fun b => Y b ∨ w.heap.size ≤ b) x.2.1 x.1.t.args) (hn : cs.length ≤ 1000000) (A : Nat) (hA : w.heap.size = A) :
    ∃ v2 w3, (Builtin.append_ #[40, 40] 40 #[v, .slice (some ⟨A, 0, none⟩) 1 1]).run Try.prog (w.alloc (.cells #[.string x.1.nm, .string x.1.t.name, .slice x.2.1 x.1.t.args.length x.2.2] 75)) = .ok v2 w3 ∧ BRow w3 N Y v2 (cs ++ [x]) ∧ w.grownBy w3 v.ownBlock ∧ ∀ k, v2.ownBlock = some k → v.ownBlock = some k ∨ w.heap.size ≤ k := by
  subst hA
  obtain ⟨i0, hi, hz0, hz1, hz2⟩ := info_parts Try.infoBind
  have hb := Below.refl w.heap.size w
  obtain ⟨g, cap, w3, hr, ho, hg, hat, hlt⟩ := run_append_lies (P := Try.prog) (w := w.alloc (.cells #[.string x.1.nm, .string x.1.t.name, .slice x.2.1 x.1.t.args.length x.2.2] 75)) 40 40 N 75 i0 _ 3 56 Try.underlying40 hi hz0 hz1 hz2 rfl (by decide) v cs.length (flat3 cs) (h.own.alloc _)
    ⟨w.heap.size, 0, none⟩ 1 1 (enc3 x) rfl (cell_three_new _ _ _ _ _) (fun y hy => by simp [enc3] at hy; rcases hy with rfl | rfl | rfl <;> rfl) (by decide) (by unfold maxLen; omega) (by omega) (by simp; omega) _ rfl
  refine ⟨_, w3, hr, h.push hN hY hb ht _ rfl ho hg hat, (World.grownBy_alloc w _ _).andThen hg (fun j hj => Or.inr hj), fun k hk => ?_⟩
  have e : g = k := by simpa [Value.ownBlock] using hk
  rcases hat with h1 | h1
  · exact Or.inl (by rw [h1, e])
  · right; simp at h1; omega

def MlInv (w2 : World) (N : Nat) (Y : Nat → Prop) (hv : Value) (l m : List Tm) (h : List Bd) (v i : Value) (wr : World) : Prop :=
  ∃ (k : Nat) (cs' : List Bc), k ≤ l.length ∧ i = .int .i64 (k : Int) ∧ mtL (l.take k) (m.take k) h = some (cs'.map (·.1)) ∧ BRow wr N Y v cs' ∧ w2.grownBy wr hv.ownBlock ∧ (∀ j, v.ownBlock = some j → hv.ownBlock = some j ∨ w2.heap.size ≤ j)

set_option maxHeartbeats 400000 in
theorem matched_any (p : Tm) : ∀ (t : Tm) (cs : List Bc) (pv tv hv : Value) (w : World) (N : Nat) (Y : Nat → Prop), TV w Y pv p → TV w Y tv t → BRow w N Y hv cs → N ≤ w.heap.size → (∀ b, Y b → b < N) → cs.length + sizeL [p] ≤ 1000000 → ApartB (cs.map (·.1)) →
    Calls Try.prog 100 #[pv, tv, hv] w fun e w' => MtPost w N Y hv (mtT p t (cs.map (·.1))) e w' := by
  induction p using Tm.ind with
  | h s l ih =>
    intro t cs pv tv hv w N Y hp ht hrow hN hY hsz hap
    obtain ⟨s2, m⟩ := t
    obtain ⟨a, c, rfl, hs⟩ := hp
    obtain ⟨a2, c2, rfl, hs2⟩ := ht
    have IH := hide ih
    have HS := hide hs
    have HS2 := hide hs2
    have HROW := hide hrow
    have HY := hide hY
    have HAP := hide hap
    have hlt := hrow.own.lt
    have hl := hs.1
    have hl2 := hs2.1
    clear ih hs hs2 hrow hY hap
    dsimp only
    have HG2 := hide (grown_alloc2 w (.cells #[.string s, .slice a l.length c] 25) (.cells #[.string s2, .slice a2 m.length c2] 25) hv.ownBlock)
    have HB2 : Hid (Below w.heap.size w ((w.alloc (.cells #[.string s, .slice a l.length c] 25)).alloc (.cells #[.string s2, .slice a2 m.length c2] 25))) := below2 _ _
    have PA := hide ((Blk.new w #[.string s, .slice a l.length c] 25).alloc (.cells #[.string s2, .slice a2 m.length c2] 25))
    have PB : Hid (Blk ((w.alloc (.cells #[.string s, .slice a l.length c] 25)).alloc (.cells #[.string s2, .slice a2 m.length c2] 25)) (w.heap.size + 1) #[.string s2, .slice a2 m.length c2] 25) := by
      have h := Blk.new (w.alloc (.cells #[.string s, .slice a l.length c] 25)) #[.string s2, .slice a2 m.length c2] 25
      unfold Hid
      simpa using h
    have hz2 : ((w.alloc (.cells #[.string s, .slice a l.length c] 25)).alloc (.cells #[.string s2, .slice a2 m.length c2] 25)).heap.size = w.heap.size + 2 := by simp
    cases hvb : varB s with
    | true =>
      have HVB := hide hvb
      clear hvb
      go_enter Try.func100, Try.ntmps100
      go_wp2_with (go_at_call 35; refine (isVarR_any _ _).mono ?_; rintro e w' ⟨rfl, rfl⟩; rw [HVB.out])
      have HGW : Hid (∀ o o', w.grownBy ((w.alloc o).alloc o') hv.ownBlock) := fun o o' => grown_alloc2 w o o' _
      clear HGW
      generalize (w.alloc (.cells #[.string s, .slice a l.length c] 25)).alloc (.cells #[.string s2, .slice a2 m.length c2] 25) = w2 at *
      refine (for_any (cs.map (·.1)) s hv w2 _ (HROW.out.below HB2.out).bv).mono ?_
      rintro e w3 ⟨hb3, hc3⟩
      have HB3 := hide (HB2.out.trans (hb3.mono HB2.out.size))
      have HG3 := hide (grown_below HG2.out hb3)
      have HROW3 := hide (HROW.out.below HB3.out)
      have PA3 := hide (PA.out.below hb3 PA.out.lt)
      have PB3 := hide (PB.out.below hb3 PB.out.lt)
      have hz3 := hb3.size
      clear hb3
      rcases hc3 with ⟨x, ax, cx, hf, rfl, hsx⟩ | ⟨hf, rfl⟩
      · have HSX := hide hsx
        have HR := hide (mtT_old (l := l) (t := ⟨s2, m⟩) HVB.out hf)
        clear hf hsx
        have b0 : ∀ o, (w3.alloc o).cell? ⟨w.heap.size + 1, 0, none⟩ = some (.string s2) := fun o => (PB3.out.alloc o).cell 0
        have b1 : ∀ o, (w3.alloc o).cell? ⟨w.heap.size + 1, 1, none⟩ = some (.slice a2 m.length c2) := fun o => (PB3.out.alloc o).cell 1
        go_wp2_with fail
        have HB4 := hide (HB3.out.alloc HB3.out.size (.cells #[.string x.name, .slice ax x.args.length cx] 25))
        have HG4 := hide (grown_below HG3.out ((Below.refl _ _).alloc (Nat.le_refl _) (.cells #[.string x.name, .slice ax x.args.length cx] 25)))
        have HSX4 := hide (HSX.out.later ((Below.refl _ _).alloc (Nat.le_refl _) (.cells #[.string x.name, .slice ax x.args.length cx] 25)))
        generalize w3.alloc (.cells #[.string x.name, .slice ax x.args.length cx] 25) = w4 at *
        refine (sameR_all x ⟨s2, m⟩ _ _ w4 _ _ ⟨ax, cx, rfl, HSX4.out⟩ ⟨a2, c2, rfl, HS2.out.later HB4.out⟩).mono ?_
        rintro e w5 ⟨rfl, hb5⟩
        have HG5 := hide (grown_below HG4.out hb5)
        have HROW5 := hide (HROW.out.below (HB4.out.trans (hb5.mono HB4.out.size)))
        clear hb5 b0 b1
        go_wp2_with fail
        refine bodyPost_ret (v := .tuple #[hv, .bool (sameB x ⟨s2, m⟩)]) (by simp [results, Try.results100, go_sem]) rfl ?_
        rw [HR.out]
        refine ⟨HG5.out, ?_⟩
        cases hsm : sameB x ⟨s2, m⟩ with
        | true => exact Or.inr ⟨_, hv, cs, by rw [if_pos rfl], rfl, rfl, HROW5.out, fun k hk => Or.inl hk⟩
        | false => exact Or.inl ⟨by rw [if_neg (by simp)], hv, rfl⟩
      · have HR := hide (mtT_new (l := l) (t := ⟨s2, m⟩) HVB.out hf)
        clear hf
        have hbA : Below w3.heap.size w3 (w3.alloc (.cells #[.string ⟨#[]⟩, .slice none 0 0] 25)) := (Below.refl _ _).alloc (Nat.le_refl _) _
        have HB4 := hide (HB3.out.trans (hbA.mono HB3.out.size))
        have HG4 := hide (grown_below HG3.out hbA)
        have HROW4 := hide (HROW3.out.below hbA)
        have a0 : (w3.alloc (.cells #[.string ⟨#[]⟩, .slice none 0 0] 25)).cell? ⟨w.heap.size, 0, none⟩ = some (.string s) := (PA3.out.below hbA PA3.out.lt).cell 0
        have b0 : (w3.alloc (.cells #[.string ⟨#[]⟩, .slice none 0 0] 25)).cell? ⟨w.heap.size + 1, 0, none⟩ = some (.string s2) := (PB3.out.below hbA PB3.out.lt).cell 0
        have b1 : (w3.alloc (.cells #[.string ⟨#[]⟩, .slice none 0 0] 25)).cell? ⟨w.heap.size + 1, 1, none⟩ = some (.slice a2 m.length c2) := (PB3.out.below hbA PB3.out.lt).cell 1
        have a0' := fun o => (PA3.out.alloc o).cell 0
        clear hbA
        have hz4 : w3.heap.size ≤ (w3.alloc (.cells #[.string ⟨#[]⟩, .slice none 0 0] 25)).heap.size := by simp
        have hsz' : cs.length ≤ 1000000 := by omega
        obtain ⟨v5, w5, hrun, hB5, hg5, hob⟩ := binds_append2 HROW4.out (by omega) HY.out (⟨s, ⟨s2, m⟩⟩, a2, c2) ((HS2.out.later HB4.out).mono fun b h _ => Or.inl h) hsz' (w3.heap.size + 1) (by simp)
        have HRUN := hide hrun
        have HB5 := hide hB5
        have HG5 : Hid (w.grownBy w5 hv.ownBlock) := HG4.out.andThen hg5 (fun j hj => Or.inr hj)
        have HOB : Hid (∀ k, v5.ownBlock = some k → hv.ownBlock = some k ∨ w.heap.size ≤ k) := fun k hk => (hob k hk).imp id (fun h => Nat.le_trans HG4.out.size h)
        clear hrun hB5 hg5 hob a0'
        go_wp2_with (at_builtin; refine wpList_append_eq rfl _ _ _ _ rfl rfl rfl HRUN.out ?_)
        refine bodyPost_ret (v := .tuple #[v5, .bool true]) (by simp [results, Try.results100, go_sem]) rfl ?_
        rw [HR.out]
        exact ⟨HG5.out, Or.inr ⟨_, v5, _, rfl, rfl, by simp, HB5.out, HOB.out⟩⟩
    | false =>
      have HVB := hide hvb
      clear hvb
      cases hn : (s.toList == s2.toList) with
      | false =>
        have HR := hide (mtT_off (h := cs.map (·.1)) HVB.out (show ((s.toList == s2.toList) && (l.length == m.length)) = false by rw [hn]; rfl))
        go_enter Try.func100, Try.ntmps100
        go_wp2_with (go_at_call 35; refine (isVarR_any _ _).mono ?_; rintro e w' ⟨rfl, rfl⟩; rw [HVB.out])
        refine bodyPost_ret (v := .tuple #[.slice none 0 0, .bool false]) (by simp [results, Try.results100, go_sem]) rfl ?_
        rw [HR.out]
        exact ⟨HG2.out, Or.inl ⟨rfl, _, rfl⟩⟩
      | true =>
        by_cases hm : l.length = m.length
        case neg =>
          have HR := hide (mtT_off (h := cs.map (·.1)) HVB.out (show ((s.toList == s2.toList) && (l.length == m.length)) = false by rw [hn]; simpa using hm))
          have hm2 : ((l.length : Int) == (m.length : Int)) = false := beq_eq_false_iff_ne.2 (by omega)
          clear hm
          go_enter Try.func100, Try.ntmps100
          go_wp2_with (go_at_call 35; refine (isVarR_any _ _).mono ?_; rintro e w' ⟨rfl, rfl⟩; rw [HVB.out])
          refine bodyPost_ret (v := .tuple #[.slice none 0 0, .bool false]) (by simp [results, Try.results100, go_sem]) rfl ?_
          rw [HR.out]
          exact ⟨HG2.out, Or.inl ⟨rfl, _, rfl⟩⟩
        case pos =>
          have HR := hide (mtT_deep (h := cs.map (·.1)) HVB.out hn hm)
          have HM := hide hm
          rw [← hm] at HG2 HB2 PA PB hz2 hl2 ⊢
          clear hm
          go_enter Try.func100, Try.ntmps100
          go_wp2_with (go_at_call 35; refine (isVarR_any _ _).mono ?_; rintro e w' ⟨rfl, rfl⟩; rw [HVB.out])
          generalize (w.alloc (.cells #[.string s, .slice a l.length c] 25)).alloc (.cells #[.string s2, .slice a2 l.length c2] 25) = w2 at *
          go_loopw [2, 10] (fun v i wr => MlInv w2 N Y hv l m (cs.map (·.1)) v i wr) (fun v i wr => l.length - (intOf i).toNat)
          case atStart => exact ⟨0, cs, Nat.zero_le _, rfl, by simp [mtL], HROW.out.below HB2.out, ⟨rfl, rfl, rfl, Nat.le_refl _, fun _ _ _ => rfl⟩, fun j hj => Or.inl hj⟩
          case round =>
            obtain ⟨k, cs', hk, rfl, hT, hrow, hg, hob⟩ := hrel
            have HT := hide hT
            have HROWK := hide hrow
            have HGK := hide hg
            have HOB := hide hob
            have hne : ∀ b, b < w.heap.size + 2 → (b < N ∨ w.heap.size ≤ b) → some b ≠ hv.ownBlock := fun b _ h e => by
              have h1 := hlt b e.symm
              rcases h with h | h
              · omega
              · omega
            have hwr : w.heap.size + 2 ≤ wr.heap.size := by have := hg.size; omega
            have PAK : Hid (Blk wr w.heap.size #[.string s, .slice a l.length c] 25) := (hg.block w.heap.size (by omega) (hne _ (by omega) (Or.inr (Nat.le_refl _)))).trans PA.out
            have PBK : Hid (Blk wr (w.heap.size + 1) #[.string s2, .slice a2 l.length c2] 25) := (hg.block (w.heap.size + 1) (by omega) (hne _ (by omega) (Or.inr (by omega)))).trans PB.out
            have HSK : Hid (Sl wr Y a l) := (HS.out.later HB2.out).kept fun b hb => by
              have h1 := HY.out b hb
              exact hg.block b (by omega) (hne _ (by omega) (Or.inl h1))
            have HSK2 : Hid (Sl wr Y a2 m) := (HS2.out.later HB2.out).kept fun b hb => by
              have h1 := HY.out b hb
              exact hg.block b (by omega) (hne _ (by omega) (Or.inl h1))
            have a1 : wr.cell? ⟨w.heap.size, 1, none⟩ = some (.slice a l.length c) := PAK.out.cell 1
            clear hT hrow hg hob
            by_cases hlt' : k < l.length
            · have hltm : k < m.length := by have := HM.out; omega
              obtain ⟨b, o, a', c', rfl, d0, d1, hx⟩ := HSK.out.get (Below.refl _ _) (fun _ _ h => h) k hlt'
              obtain ⟨b2, o2, a2', c2', rfl, e0, e1, hx2⟩ := HSK2.out.get (Below.refl _ _) (fun _ _ h => h) k hltm
              have HX := hide hx
              have HX2 := hide hx2
              have b1 : wr.cell? ⟨w.heap.size + 1, 1, none⟩ = some (.slice (some ⟨b2, o2, none⟩) l.length c2) := PBK.out.cell 1
              have HS0 := hide (And.intro a1 (And.intro b1 (And.intro d0 (And.intro d1 (And.intro e0 e1)))))
              have hbN : b < N := by
                obtain ⟨_, h1⟩ := HSK.out
                rcases h1 with h1 | ⟨b', o', e', h1⟩
                · rw [h1] at hlt'; simp at hlt'
                · cases e'; exact HY.out _ (lies_get _ _ _ h1 k hlt').1
              have hb2N : b2 < N := by
                obtain ⟨_, h1⟩ := HSK2.out
                rcases h1 with h1 | ⟨b', o', e', h1⟩
                · rw [h1] at hltm; simp at hltm
                · cases e'; exact HY.out _ (lies_get _ _ _ h1 k hltm).1
              have hob1 : ∀ j, (j < N ∨ (w.heap.size ≤ j ∧ j < w.heap.size + 2)) → some j ≠ u2.ownBlock := fun j hj e => by
                have h1 := HROWK.out.own.lt j e.symm
                rcases hj with hj | hj
                · omega
                · rcases HOB.out j e.symm with h2 | h2
                  · have := (hlt j h2).2; omega
                  · omega
              have hAL := mtL_apart _ _ _ _ HT.out HAP.out
              have hsk : cs'.length + sizeL [l[k]] ≤ 1000000 := by
                have h1 := hAL.2
                have h2 := sizeL_take l k hlt'
                have h3 := sizeL_take_le l (k + 1)
                have h4 : sizeL [(⟨s, l⟩ : Tm)] = 1 + sizeL l := by simp [sizeL]
                rw [h4] at hsz
                simp at h1
                omega
              have IHK := hide (IH.out l[k] (List.getElem_mem hlt') m[k] cs' (.agg #[.string l[k].name, .slice a' l[k].args.length c']) (.agg #[.string m[k].name, .slice a2' m[k].args.length c2']) u2 wr.drew N Y (by exact HX.out.later (below_drewN (Below.refl _ _) 1)) (by exact HX2.out.later (below_drewN (Below.refl _ _) 1)) (by exact HROWK.out.below (below_drewN (Below.refl _ _) 1)) (by simp; omega) HY.out hsk hAL.1)
              have SIX : Hid (∀ w1, wr.drew.grownBy w1 u2.ownBlock → w1.cell? ⟨w.heap.size, 1, none⟩ = some (.slice (some ⟨b, o, none⟩) l.length c) ∧ w1.cell? ⟨w.heap.size + 1, 1, none⟩ = some (.slice (some ⟨b2, o2, none⟩) l.length c2) ∧ w1.cell? ⟨b, o + k * 2, none⟩ = some (.string l[k].name) ∧ w1.cell? ⟨b, o + k * 2 + 1, none⟩ = some (.slice a' l[k].args.length c') ∧ w1.cell? ⟨b2, o2 + k * 2, none⟩ = some (.string m[k].name) ∧ w1.cell? ⟨b2, o2 + k * 2 + 1, none⟩ = some (.slice a2' m[k].args.length c2')) := fun w1 hg1 => by
                have kp : ∀ b o, (b < N ∨ (w.heap.size ≤ b ∧ b < w.heap.size + 2)) → w1.cell? ⟨b, o, none⟩ = wr.cell? ⟨b, o, none⟩ := fun b o hb => hg1.cell_far ⟨b, o, none⟩ (by simp; omega) (by simpa using hob1 b hb)
                exact ⟨(kp _ _ (Or.inr (by omega))).trans HS0.out.1, (kp _ _ (Or.inr (by omega))).trans HS0.out.2.1, (kp _ _ (Or.inl hbN)).trans HS0.out.2.2.1, (kp _ _ (Or.inl hbN)).trans HS0.out.2.2.2.1, (kp _ _ (Or.inl hb2N)).trans HS0.out.2.2.2.2.1, (kp _ _ (Or.inl hb2N)).trans HS0.out.2.2.2.2.2⟩
              have HNO := hide (fun h0 => mtL_no hlt' HM.out HT.out h0)
              have HNX := hide (fun h'' (h0 : mtT l[k] m[k] (cs'.map (·.1)) = some h'') => mtL_next hlt' hltm HT.out h0)
              have HGO : Hid (∀ w1, wr.drew.grownBy w1 u2.ownBlock → w2.grownBy w1 hv.ownBlock) := fun w1 hg1 => (grown_below HGK.out (below_drewN (Below.refl _ _) 1)).andThen hg1 (fun j hj => (HOB.out j hj).symm)
              have HW2 : Hid (w.grownBy w2 hv.ownBlock) := HG2.out
              clear hx hx2 hAL hsk hob1
              generalize l[k] = y at *
              generalize m[k] = z at *
              go_wp2_with fail
              cases hr : mtT y z (cs'.map (·.1)) with
              | none =>
                have IHN : Hid (Calls Try.prog 100 #[.agg #[.string y.name, .slice a' y.args.length c'], .agg #[.string z.name, .slice a2' z.args.length c2'], u2] wr.drew fun e w' => ∃ v1, e = .returned (.tuple #[v1, .bool false]) ∧ wr.drew.grownBy w' u2.ownBlock) := by
                  refine IHK.out.mono ?_
                  rintro e w1 ⟨hg1, ⟨_, v1, rfl⟩ | ⟨h', v1, cs1, h0, _⟩⟩
                  · exact ⟨v1, rfl, hg1⟩
                  · rw [hr] at h0; cases h0
                have HF : Hid (mtT ⟨s, l⟩ ⟨s2, m⟩ (cs.map (·.1)) = none) := by unfold Hid; rw [HR.out, HNO.out hr]
                go_region_held3 (fun w' => w'.cell? ⟨w.heap.size, 1, none⟩ = some (.slice (some ⟨b, o, none⟩) l.length c) ∧ w'.cell? ⟨w.heap.size + 1, 1, none⟩ = some (.slice (some ⟨b2, o2, none⟩) l.length c2) ∧ w'.cell? ⟨b, o + k * 2, none⟩ = some (.string y.name) ∧ w'.cell? ⟨b, o + k * 2 + 1, none⟩ = some (.slice a' y.args.length c') ∧ w'.cell? ⟨b2, o2 + k * 2, none⟩ = some (.string z.name) ∧ w'.cell? ⟨b2, o2 + k * 2 + 1, none⟩ = some (.slice a2' z.args.length c2')) (first | exact HS0.out | exact hS1 | go_keep)
                  ((go_at_call 100; refine IHN.out.mono ?_; rintro e w1 ⟨v1, rfl, hg1⟩; have hS1 := SIX.out w1 hg1))
                have HG1 := hide (HGO.out w1 hg1)
                clear hg1 hS1
                go_wp2_with fail
                refine bodyPost_ret (v := .tuple #[.slice none 0 0, .bool false]) (by simp [results, Try.results100, go_sem]) rfl ?_
                rw [HF.out]
                exact ⟨HW2.out.andThen HG1.out (fun j hj => Or.inr hj), Or.inl ⟨rfl, _, rfl⟩⟩
              | some h' =>
                have IHS : Hid (Calls Try.prog 100 #[.agg #[.string y.name, .slice a' y.args.length c'], .agg #[.string z.name, .slice a2' z.args.length c2'], u2] wr.drew fun e w' => ∃ v1 cs1, e = .returned (.tuple #[v1, .bool true]) ∧ wr.drew.grownBy w' u2.ownBlock ∧ cs1.map (·.1) = h' ∧ BRow w' N Y v1 cs1 ∧ (∀ k, v1.ownBlock = some k → u2.ownBlock = some k ∨ wr.heap.size ≤ k)) := by
                  refine IHK.out.mono ?_
                  rintro e w1 ⟨hg1, ⟨h0, _⟩ | ⟨h'', v1, cs1, h0, rfl, h2, h3, h4⟩⟩
                  · rw [hr] at h0; cases h0
                  · rw [hr] at h0
                    cases h0
                    exact ⟨v1, cs1, rfl, hg1, h2, h3, h4⟩
                have HN := hide (HNX.out h' hr)
                go_region_held3 (fun w' => w'.cell? ⟨w.heap.size, 1, none⟩ = some (.slice (some ⟨b, o, none⟩) l.length c) ∧ w'.cell? ⟨w.heap.size + 1, 1, none⟩ = some (.slice (some ⟨b2, o2, none⟩) l.length c2) ∧ w'.cell? ⟨b, o + k * 2, none⟩ = some (.string y.name) ∧ w'.cell? ⟨b, o + k * 2 + 1, none⟩ = some (.slice a' y.args.length c') ∧ w'.cell? ⟨b2, o2 + k * 2, none⟩ = some (.string z.name) ∧ w'.cell? ⟨b2, o2 + k * 2 + 1, none⟩ = some (.slice a2' z.args.length c2')) (first | exact HS0.out | exact hS1 | go_keep)
                  ((go_at_call 100; refine IHS.out.mono ?_; rintro e w1 ⟨v1, cs1, rfl, hg1, hc1, hr1, ho1⟩; have hS1 := SIX.out w1 hg1))
                have HG1 := hide (HGO.out w1 hg1)
                have HC1 := hide hc1
                have HR1 := hide hr1
                have HO1 : Hid (∀ j, v1.ownBlock = some j → hv.ownBlock = some j ∨ w2.heap.size ≤ j) := fun j hj => by
                  rcases ho1 j hj with h1 | h1
                  · exact HOB.out j h1
                  · right; have := HGK.out.size; omega
                clear hg1 hS1 hc1 hr1 ho1
                go_wp2_with fail
                go_roundw
                case rel => exact ⟨k + 1, cs1, by omega, by go_num, by rw [HC1.out]; exact HN.out, HR1.out, HG1.out, HO1.out⟩
                case measure => simp [intOf]; omega
            · have HF : Hid (mtT ⟨s, l⟩ ⟨s2, m⟩ (cs.map (·.1)) = some (cs'.map (·.1))) := by
                unfold Hid
                rw [HR.out, ← HT.out, List.take_of_length_le (by omega), List.take_of_length_le (by have := HM.out; omega)]
              have HGF := hide (HG2.out.andThen HGK.out (fun j hj => Or.inr hj))
              go_wp2_with fail
              refine bodyPost_ret (v := .tuple #[u2, .bool true]) (by simp [results, Try.results100, go_sem]) rfl ?_
              rw [HF.out]
              exact ⟨HGF.out, Or.inr ⟨_, u2, cs', rfl, rfl, rfl, HROWK.out, fun j hj => (HOB.out j hj).imp id (fun h => by omega)⟩⟩
#print axioms matched_any
end Go.Proofs.Ythlgknglalcggac


/- Walks: matching, comparing up to names and searching for an instance, as the document says. -/
namespace Go.Proofs.Ythlgknglalcggac
open Go.RowKit
set_option linter.unusedSimpArgs false
set_option linter.unusedVariables false
set_option maxRecDepth 8000

/-- One is a case of the other. -/
def mtB (p t : Tm) : Bool := (mtT p t []).isSome
def MoPost (w : World) (Z : Nat → Prop) (p t : Tm) (e : Ending) (w' : World) : Prop :=
  Below w.heap.size w w' ∧ ((mtT p t [] = none ∧ e = .returned (.tuple #[.slice none 0 0, .bool false])) ∨
    ∃ h' v l', mtT p t [] = some h' ∧ e = .returned (.tuple #[v, .bool true]) ∧ BV w' Z v l' ∧ l'.Perm h' ∧ l'.Pairwise fun a b => ltB b.nm a.nm = false)

set_option maxHeartbeats 400000 in
theorem matchOf_any (p t : Tm) (pv tv : Value) (w : World) (X : Nat → Prop) (hp : TV w X pv p) (ht : TV w X tv t) (hsz : sizeL [p] ≤ 1000000) :
    Calls Try.prog 79 #[pv, tv] w fun e w' => MoPost w (fun b => (X b ∧ b < w.heap.size) ∨ w.heap.size ≤ b) p t e w' := by
  obtain ⟨a, c, rfl, hs⟩ := hp
  obtain ⟨a2, c2, rfl, hs2⟩ := ht
  have HS := hide (hs.mono (Y := fun b => X b ∧ b < w.heap.size) fun b h1 h2 => ⟨h1, h2⟩)
  have HS2 := hide (hs2.mono (Y := fun b => X b ∧ b < w.heap.size) fun b h1 h2 => ⟨h1, h2⟩)
  clear hs hs2
  have HB2 : Hid (Below w.heap.size w ((w.alloc (.cells #[.string p.name, .slice a p.args.length c] 25)).alloc (.cells #[.string t.name, .slice a2 t.args.length c2] 25))) := below2 _ _
  go_enter Try.func79, Try.ntmps79
  go_wp2_with fail
  generalize (w.alloc (.cells #[.string p.name, .slice a p.args.length c] 25)).alloc (.cells #[.string t.name, .slice a2 t.args.length c2] 25) = w2 at *
  refine (matched_any p t [] _ _ (.slice none 0 0) w2 w.heap.size (fun b => X b ∧ b < w.heap.size) ⟨a, c, rfl, HS.out.later HB2.out⟩ ⟨a2, c2, rfl, HS2.out.later HB2.out⟩ (BRow.start _ _ _) HB2.out.size (fun b h => h.2) (by simpa using hsz) List.Pairwise.nil).mono ?_
  rintro e w3 ⟨hg3, hc3⟩
  have HB3 : Hid (Below w.heap.size w w3) := HB2.out.grown hg3 HB2.out.size (fun j hj => by simp [Value.ownBlock] at hj)
  clear hg3
  rcases hc3 with ⟨h0, v3, rfl⟩ | ⟨h', v3, cs3, h0, rfl, hcs, hrow, _⟩
  · have H0 := hide h0
    clear h0
    go_wp2_with fail
    refine bodyPost_ret (v := .tuple #[.slice none 0 0, .bool false]) (by simp [results, Try.results79, go_sem]) rfl ?_
    exact ⟨HB3.out, Or.inl ⟨H0.out, rfl⟩⟩
  · have H0 := hide h0
    have HCS := hide hcs
    have HROW := hide hrow
    have hl3 : cs3.length ≤ 1000000 := by
      have h1 := (mtT_apart h0 List.Pairwise.nil).2
      rw [← hcs] at h1
      simp at h1
      omega
    clear h0 hcs hrow
    go_wp2_with fail
    refine (sorted_any (cs3.map (·.1)) v3 w3 _ HROW.out.bv (by simpa using hl3)).mono ?_
    rintro e w5 ⟨v5, cs5, rfl, hr5, hp5, hw5, hb5⟩
    have HR5 := hide hr5
    have HP5 := hide hp5
    have HW5 := hide hw5
    have HB5 := hide (HB3.out.trans (hb5.mono HB3.out.size))
    have hzz := HB3.out.size
    clear hr5 hp5 hw5 hb5
    go_wp2_with fail
    refine bodyPost_ret (v := .tuple #[v5, .bool true]) (by simp [results, Try.results79, go_sem]) rfl ?_
    refine ⟨HB5.out, Or.inr ⟨h', v5, cs5.map (·.1), H0.out, rfl, HR5.out.bv.mono fun b hb _ => ?_, by rw [← HCS.out]; exact HP5.out, List.pairwise_map.2 (show cs5.Pairwise (fun a b => ltB b.1.nm a.1.nm = false) from HW5.out)⟩⟩
    rcases hb with ⟨hb, _⟩ | hb
    · exact hb
    · exact Or.inr (by omega)

theorem matchOf_b (p t : Tm) (pv tv : Value) (w : World) (X : Nat → Prop) (hp : TV w X pv p) (ht : TV w X tv t) (hsz : sizeL [p] ≤ 1000000) :
    Calls Try.prog 79 #[pv, tv] w fun e w' => ∃ v, e = .returned (.tuple #[v, .bool (mtB p t)]) ∧ Below w.heap.size w w' := by
  refine (matchOf_any p t pv tv w X hp ht hsz).mono ?_
  rintro e w1 ⟨hb, ⟨h0, rfl⟩ | ⟨h', v, l', h0, rfl, _⟩⟩
  · exact ⟨_, by unfold mtB; rw [h0]; rfl, hb⟩
  · exact ⟨v, by unfold mtB; rw [h0]; rfl, hb⟩

/-- Some knot of a term is a case of another one. -/
def hcB (t p : Tm) : Bool := (preL [t]).any fun k => mtB p k
theorem hc_take {ks : List Tm} {p : Tm} {k : Nat} (h : k < ks.length) : (ks.take (k + 1)).any (fun x => mtB p x) = ((ks.take k).any (fun x => mtB p x) || mtB p ks[k]) := by
  rw [List.take_succ_eq_append_getElem h, List.any_append]; simp
theorem hc_yes {ks : List Tm} {p : Tm} {k : Nat} (h : k < ks.length) (h0 : mtB p ks[k] = true) : ks.any (fun x => mtB p x) = true := by
  rw [List.any_eq_true]; exact ⟨ks[k], List.getElem_mem h, h0⟩
def HcInv (ks : List Tm) (p : Tm) (w2 : World) (v : Value) (wr : World) : Prop := ∃ k : Nat, k ≤ ks.length ∧ v = .int .i64 (k : Int) ∧ (ks.take k).any (fun x => mtB p x) = false ∧ Below w2.heap.size w2 wr
end Go.Proofs.Ythlgknglalcggac
