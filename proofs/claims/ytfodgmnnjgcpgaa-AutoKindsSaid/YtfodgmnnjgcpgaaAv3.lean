/- The table of moves by symbols, while it is made. -/
import Derived.Test.YtfodgmnnjgcpgaaAv2
import Derived.Test.YtfodgmnnjgcpgaaZAutoKindsOwn
namespace Go.Proofs.Ytfodgmnnjgcpgaa
open Go.RowKit
open Go.WideMaps
set_option linter.unusedSimpArgs false
set_option linter.unusedVariables false
set_option maxRecDepth 8000

def symM (m : Mv) : Sy := (m.name, m.frm.length)
theorem grp_yes (ms : List Mv) (m : Mv) : grp (ms ++ [m]) (symM m) = grp ms (symM m) ++ [m] := by unfold grp symM; simp
theorem grp_no {ms : List Mv} {m : Mv} {s : Sy} (h : s ≠ symM m) : grp (ms ++ [m]) s = grp ms s := by
  unfold grp
  rw [List.filter_append]
  have : ¬ (m.name = s.1 ∧ m.frm.length = s.2) := fun e => h (by obtain ⟨a, b⟩ := s; simp only at e; rw [symM, e.1, e.2])
  simp only [List.filter_cons, List.filter_nil]
  rw [if_neg (by simpa using this)]
  simp
theorem grp_none {ms : List Mv} {L : List Sy} {s : Sy} (h : ∀ m ∈ ms, symM m ∈ L) (hs : s ∉ L) : grp ms s = [] := by
  unfold grp
  rw [List.filter_eq_nil_iff]
  intro m hm e
  simp only [Bool.and_eq_true, decide_eq_true_eq] at e
  refine hs ?_
  have := h m hm
  unfold symM at this
  rw [e.1, e.2] at this
  exact this
/-- The table while it is made. -/
structure TabB (w : World) (N : Nat) (Y : Nat → Prop) (r O : Nat) (ms : List Mv) (L : List Sy) (ov : Value) (gs : List (Value × List Value)) : Prop where
  map : MapY w r L
  blk : Blk w O #[.map (some r), ov] 67
  rn : r < N
  on : O < N
  ro : r ≠ O
  len : gs.length = L.length
  nd : L.Nodup
  all : ∀ m ∈ ms, symM m ∈ L
  own : w.ownsRow N 22 1 ov gs.length (gs.map (·.1))
  inn : ∀ (i : Nat) (h : i < gs.length) (h2 : i < L.length), w.ownsRow N 49 3 gs[i].1 (grp ms L[i]).length gs[i].2 ∧ RowTV w Y (grp ms L[i]) gs[i].2
  apart : ∀ (i j : Nat) (hi : i < gs.length) (hj : j < gs.length) (b : Nat), gs[i].1.ownBlock = some b → gs[j].1.ownBlock = some b → i = j
  outer : ∀ (i : Nat) (hi : i < gs.length) (b : Nat), gs[i].1.ownBlock = some b → some b ≠ ov.ownBlock
  hY : ∀ b, Y b → b < N ∧ b ≠ r ∧ b ≠ O
theorem pv_keptB {w w' : World} {Y : Nat → Prop} {v : Value} {l : List Int} (h : PV w Y v l) (hk : ∀ b, Y b → b < w.heap.size → w'.heap[b]? = w.heap[b]?) : PV w' Y v l :=
  ((h.mono (Y := fun b => Y b ∧ b < w.heap.size) fun b h1 h2 => ⟨h1, h2⟩).kept fun b hb => hk b hb.1 hb.2).mono fun b hb _ => hb.1
theorem TabB.below {w w' : World} {N : Nat} {Y : Nat → Prop} {r O : Nat} {ms : List Mv} {L : List Sy} {ov : Value} {gs : List (Value × List Value)} (h : TabB w N Y r O ms L ov gs) (hb : Below w.heap.size w w') : TabB w' N Y r O ms L ov gs :=
  ⟨h.map.kept (hb.block r h.map.lt), h.blk.below hb h.blk.lt, h.rn, h.on, h.ro, h.len, h.nd, h.all, ownsRow_at h.own fun g hg => hb.block g (h.own.lt g hg).2,
   fun i h1 h2 => ⟨ownsRow_at (h.inn i h1 h2).1 fun g hg => hb.block g ((h.inn i h1 h2).1.lt g hg).2, (h.inn i h1 h2).2.imp fun v l hp => hp.later hb⟩, h.apart, h.outer, h.hY⟩
theorem TabB.start {w : World} {Y : Nat → Prop} {r O : Nat} (hm : MapY w r []) (hO : Blk w O #[.map (some r), .slice none 0 0] 67) (hro : r ≠ O) (hY : ∀ b, Y b → b < w.heap.size ∧ b ≠ r ∧ b ≠ O) : TabB w w.heap.size Y r O [] [] (.slice none 0 0) [] :=
  ⟨hm, hO, hm.lt, hO.lt, hro, rfl, List.nodup_nil, by simp, World.ownsRow_nil _ _ _ _, fun i h => by simp at h, fun i j h => by simp at h, fun i h => by simp at h, hY⟩
theorem Try.infoMoves : (Try.prog.info? 22).map (fun i => (i.zero, i.size, i.bytes)) = some (some (.slice none 0 0), 1, 24) := by kernel_rfl
theorem cell_one_newB (w : World) (c0 : Value) (T : Nat) : ∀ j u, [c0][j]? = some u → (w.alloc (.cells #[c0] T)).cell? ((⟨w.heap.size, 0, none⟩ : Addr).add j) = some u :=
  World.news_of_block (cs := #[c0]) (heap_alloc_new w _)
/-- A symbol more. -/
theorem tab_new {w : World} {N : Nat} {Y : Nat → Prop} {r O : Nat} {ms : List Mv} {L : List Sy} {ov : Value} {gs : List (Value × List Value)} (h : TabB w N Y r O ms L ov gs) (hN : N ≤ w.heap.size) {s : Sy} (hs : SyOk s) (hn : s ∉ L) (hl : gs.length ≤ 100000) :
    ∃ w1, (Instr.mapUpdate 64 (.map (some r)) (symV s) (.int .i64 (L.length : Int))).run Try.prog w = .ok () w1 ∧ Blk w1 O #[.map (some r), ov] 67 ∧
      ∃ g cap w2, (Builtin.append_ #[65, 65] 65 #[ov, .slice (some ⟨w1.heap.size, 0, none⟩) 1 1]).run Try.prog (w1.alloc (.cells #[.slice none 0 0] 22)) = .ok (.slice (some ⟨g, 0, none⟩) (gs.length + 1) cap) w2 ∧ Blk w2 O #[.map (some r), ov] 67 ∧
      TabB (w2.setCell ⟨O, 1, none⟩ (.slice (some ⟨g, 0, none⟩) (gs.length + 1) cap)) N Y r O ms (L ++ [s]) (.slice (some ⟨g, 0, none⟩) (gs.length + 1) cap) (gs ++ [(.slice none 0 0, [])]) ∧
      (∀ b, b < w.heap.size → b ≠ r → b ≠ O → some b ≠ ov.ownBlock → w1.heap[b]? = w.heap[b]? ∧ w2.heap[b]? = w.heap[b]? ∧ (w2.setCell ⟨O, 1, none⟩ (.slice (some ⟨g, 0, none⟩) (gs.length + 1) cap)).heap[b]? = w.heap[b]?) ∧
      (∀ n0, n0 ≤ r → n0 ≤ O → n0 ≤ N → Below n0 w (w2.setCell ⟨O, 1, none⟩ (.slice (some ⟨g, 0, none⟩) (gs.length + 1) cap))) ∧ (ov.ownBlock = some g ∨ w.heap.size < g) := by
  obtain ⟨w1, hr1, hm1, hz1, ho1, ht1, hu1, hk1⟩ := run_putY h.map s hs hn
  obtain ⟨i0, hi, hi0, hi1, hi2⟩ := info_parts Try.infoMoves
  have hlt := h.own.lt
  have hO1 : Blk w1 O #[.map (some r), ov] 67 := (hk1 O (fun e => h.ro e.symm)).trans h.blk
  have hown1 : w1.ownsRow N 22 1 ov gs.length (gs.map (·.1)) := ownsRow_at h.own fun g hg => hk1 g (fun e => by have := (hlt g hg).1; have := h.rn; omega)
  obtain ⟨g, cap, w2, hr2, ho, hg, hat, hgl⟩ := run_append_lies (P := Try.prog) (w := w1.alloc (.cells #[.slice none 0 0] 22)) 65 65 N 22 i0 _ 1 24 Try.underlying65 hi hi0 hi1 hi2 rfl (by decide) ov gs.length (gs.map (·.1)) (hown1.alloc _) ⟨w1.heap.size, 0, none⟩ 1 1 [.slice none 0 0] rfl (cell_one_newB _ _ _) (fun u hu => by simp at hu; subst hu; rfl) (by decide) (by unfold maxLen; omega) (by omega) (by simp; omega) _ rfl
  have hgs := hg.size
  simp at hgs
  have hgN : N ≤ g := (ho.lt g rfl).1
  have k2 : ∀ b, b < w.heap.size → b ≠ r → some b ≠ ov.ownBlock → w2.heap[b]? = w.heap[b]? := fun b h1 h2 h3 => by
    rw [hg.block b (by simp; omega) h3, Below.heap_alloc _ _ _ (by omega), hk1 b h2]
  have k3 : ∀ b, b < w.heap.size → b ≠ r → b ≠ O → some b ≠ ov.ownBlock → (w2.setCell ⟨O, 1, none⟩ (.slice (some ⟨g, 0, none⟩) (gs.length + 1) cap)).heap[b]? = w.heap[b]? := fun b h1 h2 h3 h4 => by
    rw [Below.heap_setCell _ _ _ _ (by simpa using h3), k2 b h1 h2 h4]
  have hO2 : Blk w2 O #[.map (some r), ov] 67 := (k2 O h.blk.lt (fun e => h.ro e.symm) (fun e => by have := (hlt O e.symm).1; have := h.on; omega)).trans h.blk
  have hrr : (w2.setCell ⟨O, 1, none⟩ (.slice (some ⟨g, 0, none⟩) (gs.length + 1) cap)).heap[r]? = w1.heap[r]? := by
    rw [Below.heap_setCell _ _ _ _ (by simpa using h.ro), hg.block r (by have := h.map.lt; simp; omega) (fun e => by have := (hlt r e.symm).1; have := h.rn; omega), Below.heap_alloc _ _ _ (by have := h.map.lt; omega)]
  have hrn := h.rn
  have hon := h.on
  refine ⟨w1, hr1, hO1, g, cap, w2, hr2, hO2, ⟨hm1.kept hrr, hO2.set 1 _, h.rn, h.on, h.ro, by simp [h.len], ?_, fun m hm => List.mem_append_left _ (h.all m hm), ?_, fun i h1 h2 => ?_, fun i j hi hj b e1 e2 => ?_, fun i hi b e1 => ?_, h.hY⟩, fun b h1 h2 h3 h4 => ⟨hk1 b h2, k2 b h1 h2 h4, k3 b h1 h2 h3 h4⟩, fun n0 n1 n2 n3 => ⟨?_, ?_, ?_, ?_, fun b hb => ?_⟩, hat.imp id (fun e => by simp at e; omega)⟩
  · rw [List.nodup_append]
    exact ⟨h.nd, by simp, fun a ha b hb e => by simp at hb; subst hb; subst e; exact hn ha⟩
  · have h1 := ownsRow_at ho (w' := w2.setCell ⟨O, 1, none⟩ (.slice (some ⟨g, 0, none⟩) (gs.length + 1) cap)) (fun b e => Below.heap_setCell _ _ _ _ (by simp [Value.ownBlock] at e; simp; omega))
    simpa using h1
  · have hl2 := h.len
    by_cases hi2 : i < gs.length
    · have hiL : i < L.length := by omega
      rw [List.getElem_append_left hi2, List.getElem_append_left hiL]
      obtain ⟨q1, q2⟩ := h.inn i hi2 hiL
      exact ⟨ownsRow_at q1 fun b e => k3 b (q1.lt b e).2 (fun e2 => by have := (q1.lt b e).1; omega) (fun e2 => by have := (q1.lt b e).1; omega) (h.outer i hi2 b e), q2.imp fun v l hp => pv_keptB hp fun b hy hlt => k3 b hlt (h.hY b hy).2.1 (h.hY b hy).2.2 (fun e => by have := (h.own.lt b e.symm).1; have := (h.hY b hy).1; omega)⟩
    · have hie : i = gs.length := by simp at h1; omega
      subst hie
      have eL : (L ++ [s])[gs.length]'h2 = s := by rw [List.getElem_append_right (by omega)]; simp
      have eG : (gs ++ [((Value.slice none 0 0, []) : Value × List Value)])[gs.length]'h1 = (.slice none 0 0, []) := by rw [List.getElem_append_right (Nat.le_refl _)]; simp
      rw [eL, eG, grp_none h.all hn]
      exact ⟨World.ownsRow_nil _ _ _ _, rfl⟩
  · rw [List.getElem_append] at e1 e2
    split at e1 <;> split at e2
    · exact h.apart i j (by assumption) (by assumption) b e1 e2
    · simp [Value.ownBlock] at e2
    · simp [Value.ownBlock] at e1
    · simp [Value.ownBlock] at e1
  · rw [List.getElem_append] at e1
    split at e1
    · rename_i hi2
      intro e
      have hbg : b = g := by simpa [Value.ownBlock] using e
      subst hbg
      rcases hat with e' | e'
      · exact h.outer i hi2 b e1 e'.symm
      · have := ((h.inn i hi2 (by have := h.len; omega)).1.lt b e1).2
        simp at e'; omega
    · simp [Value.ownBlock] at e1
  · exact hg.os.trans ho1
  · exact hg.tape.trans ht1
  · exact hg.output.trans hu1
  · simp [World.setCell]; omega
  · by_cases hb2 : b < w.heap.size
    · exact k3 b hb2 (by omega) (by omega) (fun e => by have := (hlt b e.symm).1; omega)
    · have := h.map.lt; omega
/-- A move more. -/
theorem tab_add {w : World} {N : Nat} {Y : Nat → Prop} {r O : Nat} {ms : List Mv} {L : List Sy} {og cap0 : Nat} {gs : List (Value × List Value)} (h : TabB w N Y r O ms L (.slice (some ⟨og, 0, none⟩) gs.length cap0) gs) (hN : N ≤ w.heap.size) {m : Mv} {i : Nat} (hi : i < gs.length) (hiL : i < L.length) (hm : L[i] = symM m) {af : Option Addr} {cf : Nat} (hp : PV w Y (.slice af m.frm.length cf) m.frm) (hl : ms.length ≤ 100000) :
    ∃ g cap w2, (Builtin.append_ #[22, 22] 22 #[gs[i].1, .slice (some ⟨w.heap.size, 0, none⟩) 1 1]).run Try.prog (w.alloc (.cells #[.string m.name, .slice af m.frm.length cf, .int .i64 m.to] 49)) = .ok (.slice (some ⟨g, 0, none⟩) ((grp ms L[i]).length + 1) cap) w2 ∧
      (w2.cell? ⟨og, i, none⟩ = some gs[i].1 ∧ w2.frozen? ⟨og, i, none⟩ = false ∧ og < w2.heap.size) ∧
      TabB (w2.setCell ⟨og, i, none⟩ (.slice (some ⟨g, 0, none⟩) ((grp ms L[i]).length + 1) cap)) N Y r O (ms ++ [m]) L (.slice (some ⟨og, 0, none⟩) gs.length cap0) (gs.set i (.slice (some ⟨g, 0, none⟩) ((grp ms L[i]).length + 1) cap, gs[i].2 ++ [.string m.name, .slice af m.frm.length cf, .int .i64 m.to])) ∧
      (∀ b, b < w.heap.size → b ≠ og → some b ≠ gs[i].1.ownBlock → (w.alloc (.cells #[.string m.name, .slice af m.frm.length cf, .int .i64 m.to] 49)).heap[b]? = w.heap[b]? ∧ w2.heap[b]? = w.heap[b]? ∧ (w2.setCell ⟨og, i, none⟩ (.slice (some ⟨g, 0, none⟩) ((grp ms L[i]).length + 1) cap)).heap[b]? = w.heap[b]?) ∧
      ∀ n0, n0 ≤ N → Below n0 w (w2.setCell ⟨og, i, none⟩ (.slice (some ⟨g, 0, none⟩) ((grp ms L[i]).length + 1) cap)) := by
  obtain ⟨i0, hi0, hz0, hz1, hz2⟩ := info_parts Try.infoMove
  obtain ⟨q1, q2⟩ := h.inn i hi hiL
  have hogN := (h.own.lt og rfl).1
  have hogl := (h.own.lt og rfl).2
  have hrn := h.rn
  have hon := h.on
  have hgl : (grp ms L[i]).length ≤ 100000 := Nat.le_trans (List.length_filter_le _ _) hl
  obtain ⟨g, cap, w2, hr, ho, hg, hat, _⟩ := run_append_lies (P := Try.prog) (w := w.alloc (.cells #[.string m.name, .slice af m.frm.length cf, .int .i64 m.to] 49)) 22 22 N 49 i0 _ 3 48 Try.underlying22 hi0 hz0 hz1 hz2 rfl (by decide) gs[i].1 (grp ms L[i]).length gs[i].2 (q1.alloc _)
    ⟨w.heap.size, 0, none⟩ 1 1 [.string m.name, .slice af m.frm.length cf, .int .i64 m.to] rfl (fun j u hj => by
      rw [add_at, (Blk.new w #[.string m.name, .slice af m.frm.length cf, .int .i64 m.to] 49).cell j]
      simpa using hj) (fun u hu => by simp at hu; rcases hu with rfl | rfl | rfl <;> rfl) (by decide) (by unfold maxLen; omega) (by omega) (by simp; omega) _ rfl
  have hgs := hg.size
  simp at hgs
  have hgN : N ≤ g := (ho.lt g rfl).1
  have hne : some og ≠ gs[i].1.ownBlock := fun e => h.outer i hi og e.symm rfl
  have hgo : g ≠ og := fun e => by
    rcases hat with e' | e'
    · exact hne (by rw [e', e])
    · simp at e'; omega
  have k2 : ∀ b, b < w.heap.size → some b ≠ gs[i].1.ownBlock → w2.heap[b]? = w.heap[b]? := fun b h1 h3 => by
    rw [hg.block b (by simp; omega) h3, Below.heap_alloc _ _ _ (by omega)]
  have k3 : ∀ b, b < w.heap.size → b ≠ og → some b ≠ gs[i].1.ownBlock → (w2.setCell ⟨og, i, none⟩ (.slice (some ⟨g, 0, none⟩) ((grp ms L[i]).length + 1) cap)).heap[b]? = w.heap[b]? := fun b h1 h2 h3 => by
    rw [Below.heap_setCell _ _ _ _ (by simpa using h2), k2 b h1 h3]
  have small : ∀ b, b < N → some b ≠ gs[i].1.ownBlock := fun b hb e => by have := (q1.lt b e.symm).1; omega
  have hown2 : w2.ownsRow N 22 1 (.slice (some ⟨og, 0, none⟩) gs.length cap0) gs.length (gs.map (·.1)) := ownsRow_at h.own fun b e => by
    have : b = og := by simpa [Value.ownBlock, eq_comm] using e
    subst this
    exact k2 b hogl hne
  have hc0 : w2.cell? ⟨og, i, none⟩ = some gs[i].1 := by
    rw [hown2.cellAt i (by simpa using hi)]
    simp [hi]
  have e_outer : ∀ b, (Value.slice (some ⟨og, 0, none⟩) gs.length cap0).ownBlock = some b → b = og := fun b e => by simpa [Value.ownBlock, eq_comm] using e
  refine ⟨g, cap, w2, hr, ⟨hc0, hown2.frozenAt i, by omega⟩, ⟨h.map.kept (k3 r h.map.lt (by omega) (small r hrn)), (k3 O h.blk.lt (by omega) (small O hon)).trans h.blk, h.rn, h.on, h.ro, by simp [h.len], h.nd, fun x hx => ?_, ?_, fun j h1 h2 => ?_, fun a b' ha hb' b e1 e2 => ?_, fun a ha b e1 => ?_, h.hY⟩, fun b h1 h2 h3 => ⟨Below.heap_alloc _ _ _ h1, k2 b h1 h3, k3 b h1 h2 h3⟩, fun n0 n3 => ⟨?_, ?_, ?_, ?_, fun b hb => k3 b (by omega) (by omega) (small b (by omega))⟩⟩
  · rcases List.mem_append.1 hx with hx | hx
    · exact h.all x hx
    · have e : x = m := by simpa using hx
      rw [e, ← hm]; exact List.getElem_mem hiL
  · have h1 := hown2.stored i (.slice (some ⟨g, 0, none⟩) ((grp ms L[i]).length + 1) cap)
    rw [List.map_set, List.length_set]
    exact h1.1
  · have h1' : j < gs.length := by simpa using h1
    rw [List.getElem_set]
    by_cases e : i = j
    · subst e
      rw [if_pos rfl, hm, grp_yes, ← hm]
      refine ⟨?_, RowTV.append (q2.imp fun v l hp => pv_keptB hp fun b hy hlt => k3 b hlt (by have := (h.hY b hy).1; omega) (small b (h.hY b hy).1)) ⟨af, cf, [], rfl, pv_keptB hp fun b hy hlt => k3 b hlt (by have := (h.hY b hy).1; omega) (small b (h.hY b hy).1), rfl⟩⟩
      have h3 := ownsRow_at ho (w' := w2.setCell ⟨og, i, none⟩ (.slice (some ⟨g, 0, none⟩) ((grp ms L[i]).length + 1) cap)) (fun b e => Below.heap_setCell _ _ _ _ (by simp [Value.ownBlock] at e; simp; omega))
      simpa using h3
    · rw [if_neg e, grp_no (fun e2 => e (List.getElem_inj h.nd |>.1 (hm.trans e2.symm)))]
      obtain ⟨p1, p2⟩ := h.inn j h1' h2
      refine ⟨ownsRow_at p1 fun b e1 => k3 b (p1.lt b e1).2 (fun e2 => h.outer j h1' b e1 (by rw [e2]; rfl)) (fun e2 => e (h.apart i j hi h1' b e2.symm e1)), p2.imp fun v l hp => pv_keptB hp fun b hy hlt => k3 b hlt (by have := (h.hY b hy).1; omega) (small b (h.hY b hy).1)⟩
  · have ha' : a < gs.length := by simpa using ha
    have hb2 : b' < gs.length := by simpa using hb'
    rw [List.getElem_set] at e1 e2
    have key : ∀ j, j < gs.length → (hj : j < gs.length) → gs[j].1.ownBlock = some g → j = i := fun j _ hj ej => by
      rcases hat with e' | e'
      · exact h.apart j i hj hi g ej e'
      · have := ((h.inn j hj (by have := h.len; omega)).1.lt g ej).2
        simp at e'; omega
    split at e1 <;> split at e2
    · omega
    · have hbg : g = b := by simpa [Value.ownBlock] using e1
      subst hbg
      have := key b' hb2 hb2 e2; omega
    · have hbg : g = b := by simpa [Value.ownBlock] using e2
      subst hbg
      have := key a ha' ha' e1; omega
    · exact h.apart a b' ha' hb2 b e1 e2
  · have ha' : a < gs.length := by simpa using ha
    rw [List.getElem_set] at e1
    split at e1
    · have hbg : g = b := by simpa [Value.ownBlock] using e1
      intro e
      have := e_outer b e.symm
      omega
    · exact h.outer a ha' b e1
  · exact hg.os
  · exact hg.tape
  · exact hg.output
  · simp [World.setCell]; omega
/-- Of each symbol there is a move. -/
def NeG (ms : List Mv) (L : List Sy) : Prop := ∀ x ∈ L, ∃ m ∈ ms, symM m = x
def NeS (ms : List Mv) (s : Sy) (L : List Sy) : Prop := ∀ x ∈ L, x = s ∨ ∃ m ∈ ms, symM m = x
theorem NeG.toS {ms : List Mv} {L : List Sy} (h : NeG ms L) (s : Sy) : NeS ms s L := fun x hx => Or.inr (h x hx)
theorem NeG.new {ms : List Mv} {L : List Sy} (h : NeG ms L) (s : Sy) : NeS ms s (L ++ [s]) := fun x hx => by
  rcases List.mem_append.1 hx with hx | hx
  · exact Or.inr (h x hx)
  · exact Or.inl (by simpa using hx)
theorem NeS.snoc {ms : List Mv} {m : Mv} {L : List Sy} (h : NeS ms (symM m) L) : NeG (ms ++ [m]) L := fun x hx => by
  rcases h x hx with e | ⟨k, hk, e⟩
  · exact ⟨m, by simp, e.symm⟩
  · exact ⟨k, by simp [hk], e⟩
/-- The table as it is read. -/
structure TabV (w : World) (v : Value) (ms : List Mv) : Prop where
  ex : ∃ (r : Nat) (L : List Sy) (a : Option Addr) (c : Nat), v = .agg #[.map (some r), .slice a L.length c] ∧ MapY w r L ∧ L.length ≤ 100000 ∧ ((∀ m ∈ ms, symM m ∈ L) ∧ NeG ms L) ∧ ∀ (i : Nat) (h : i < L.length), ∃ b o ai ci, a = some ⟨b, o, none⟩ ∧ w.cell? ⟨b, o + i, none⟩ = some (.slice ai (grp ms L[i]).length ci) ∧ SlV w (fun _ => True) ai (grp ms L[i])
theorem slV_row {w : World} {N : Nat} {Y : Nat → Prop} {v : Value} {l : List Mv} {xs : List Value} (hown : w.ownsRow N 49 3 v l.length xs) (hrow : RowTV w Y l xs) : ∃ a c, v = .slice a l.length c ∧ SlV w (fun _ => True) a l := by
  have hml : l.length ≤ 9223372036854775807 := by
    rcases hown.2 with ⟨_, h0⟩ | ⟨g, cap, cur, _, _, _, h1, h2, _⟩
    · omega
    · unfold maxLen at h2; omega
  by_cases h0 : 0 < l.length
  · obtain ⟨g, cap, rfl, hg, hlt, hc⟩ := owned_val hown h0
    refine ⟨_, _, rfl, hml, Or.inr ⟨g, 0, rfl, trivial, fun i hi => ?_⟩⟩
    obtain ⟨a, c, h1, h2, h3, h4⟩ := hrow.get i hi
    refine ⟨by simpa using hc _ _ h1, ⟨a, c, by simpa using hc _ _ h2, h4.mono fun _ _ _ => trivial⟩, by simpa using hc _ _ h3⟩
  · have e : l = [] := List.length_eq_zero_iff.1 (by omega)
    subst e
    rcases hown.2 with ⟨hv, _⟩ | ⟨g, cap, cur, hv, _⟩
    · exact ⟨none, 0, hv, hml, Or.inl rfl⟩
    · exact ⟨_, _, hv, hml, Or.inl rfl⟩
theorem TabB.v {w : World} {N : Nat} {Y : Nat → Prop} {r O : Nat} {ms : List Mv} {L : List Sy} {ov : Value} {gs : List (Value × List Value)} (h : TabB w N Y r O ms L ov gs) (hl : L.length ≤ 100000) (hne : NeG ms L) : TabV w (.agg #[.map (some r), ov]) ms := by
  have hlen := h.len
  by_cases h0 : 0 < gs.length
  · obtain ⟨g, cap, rfl, hg, hlt, hc⟩ := owned_val h.own h0
    refine ⟨r, L, _, cap, by rw [hlen], h.map, hl, ⟨h.all, hne⟩, fun i hi => ?_⟩
    obtain ⟨q1, q2⟩ := h.inn i (by omega) hi
    obtain ⟨ai, ci, e, hs⟩ := slV_row q1 q2
    refine ⟨g, 0, ai, ci, rfl, ?_, hs⟩
    have := hc i gs[i].1 (by simp [show i < gs.length by omega])
    rw [Nat.zero_add, this, e]
  · have e : L = [] := List.length_eq_zero_iff.1 (by omega)
    subst e
    have e2 : gs = [] := List.length_eq_zero_iff.1 (by omega)
    subst e2
    rcases h.own.2 with ⟨hv, _⟩ | ⟨g, cap, cur, hv, _⟩
    · exact ⟨r, [], none, 0, by rw [hv]; rfl, h.map, by simp, ⟨h.all, hne⟩, fun i hi => by simp at hi⟩
    · exact ⟨r, [], _, _, by rw [hv]; rfl, h.map, by simp, ⟨h.all, hne⟩, fun i hi => by simp at hi⟩
theorem TabV.later {w w' : World} {v : Value} {ms : List Mv} (h : TabV w v ms) (hb : Below w.heap.size w w') : TabV w' v ms := by
  obtain ⟨r, L, a, c, e, hm, hl, ha, h1⟩ := h.ex
  refine ⟨r, L, a, c, e, hm.kept (hb.block r hm.lt), hl, ha, fun i hi => ?_⟩
  obtain ⟨b, o, ai, ci, e1, e2, e3⟩ := h1 i hi
  exact ⟨b, o, ai, ci, e1, (hb.cell (p := ⟨b, o + i, none⟩) (cell_ltA e2)).trans e2, e3.later hb⟩
end Go.Proofs.Ytfodgmnnjgcpgaa
