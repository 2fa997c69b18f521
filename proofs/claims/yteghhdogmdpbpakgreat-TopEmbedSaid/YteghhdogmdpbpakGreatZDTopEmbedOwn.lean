/- Several texts in one. -/
import Derived.Test.YteghhdogmdpbpakGreatZCTopEmbedOwn
import Derived.Deep.RegionHeld3
import Derived.Deep.DeepCutAuto
import Derived.Test.YteghhdogmdpbpakGreatZTopEmbedOwn
import Derived.Test.YteghhdogmdpbpakGreatShelf
import Derived.Deep.RegionHeld
/- Walks: a term with another one at a place that it has. -/
namespace Go.Proofs.YteghhdogmdpbpakGreat
open Go.RowKit
set_option linter.unusedSimpArgs false
set_option linter.unusedVariables false
set_option maxRecDepth 8000

theorem RowT.put {w : World} {X : Nat → Prop} {y : Tm} {a : Option Addr} {c : Nat} (hy : Sl w X a y.args) : ∀ {l : List Tm} {xs : List Value} (k : Nat), RowT w X l xs → k < l.length → RowT w X (l.set k y) ((xs.set (k * 2) (.string y.name)).set (k * 2 + 1) (.slice a y.args.length c))
  | [], xs, k, h, hk => by simp at hk
  | t :: l, xs, 0, h, _ => by
    obtain ⟨a', c', r, rfl, h1, h2⟩ := h
    exact ⟨a, c, r, by simp, hy, h2⟩
  | t :: l, xs, k + 1, h, hk => by
    obtain ⟨a', c', r, rfl, h1, h2⟩ := h
    refine ⟨a', c', (r.set (k * 2) (.string y.name)).set (k * 2 + 1) (.slice a y.args.length c), ?_, h1, RowT.put hy k h2 (by simpa using hk)⟩
    have e : (k + 1) * 2 = k * 2 + 1 + 1 := by omega
    rw [e]
    simp
theorem putL_set (f : Tm → Tm) : ∀ (l : List Tm) (j k : Nat) (h : k < l.length), putL f ((j + k : Nat) : Int) j l = l.set k (f l[k])
  | [], j, k, h => by simp at h
  | a :: r, j, 0, h => by
    simp only [Nat.add_zero, putL, if_true, List.set_cons_zero, List.getElem_cons_zero]
    have : ∀ (r : List Tm) (m : Nat), j < m → putL f (j : Int) m r = r := fun r => by
      induction r with
      | nil => intro m _; rfl
      | cons b r ih => intro m hm; rw [putL, if_neg (by omega), ih (m + 1) (by omega)]
    rw [this r (j + 1) (by omega)]
  | a :: r, j, k + 1, h => by
    rw [putL, if_neg (by omega)]
    have := putL_set f r (j + 1) k (by simpa using h)
    rw [show j + (k + 1) = j + 1 + k by omega, this]
    simp

theorem owns_mono {w : World} {N M e z n : Nat} {v : Value} {xs : List Value} (h : w.ownsRow N e z v n xs) (hM : M ≤ N) : w.ownsRow M e z v n xs :=
  ⟨h.1, h.2.imp id fun ⟨g, cap, cur, h1, h2, h3⟩ => ⟨g, cap, cur, h1, Nat.le_trans hM h2, h3⟩⟩
theorem ownsRow_put2 {w : World} {N e z n G cap O i j : Nat} {u u' : Value} {xs : List Value} (h : w.ownsRow N e z (.slice (some ⟨G, 0, none⟩) n cap) n xs) (hO : O ≠ G) : ((w.setCell ⟨O, i, none⟩ u).setCell ⟨O, j, none⟩ u').ownsRow N e z (.slice (some ⟨G, 0, none⟩) n cap) n xs := by
  obtain ⟨hl, h1⟩ := h
  refine ⟨hl, ?_⟩
  rcases h1 with h1 | ⟨g, cap', cur, hv, hg, hh, hr⟩
  · exact Or.inl h1
  · refine Or.inr ⟨g, cap', cur, hv, hg, ?_, hr⟩
    have e : g = G := by simp at hv; exact hv.1.symm
    rw [Below.heap_setCell _ _ _ _ (by simp; omega), Below.heap_setCell _ _ _ _ (by simp; omega)]
    exact hh
/-- What has been laid. -/
def KpM (W : World) (N : Nat) (s : ByteArray) (n : Nat) (xs : List Value) (o7 : Value) (wc : World) : Prop :=
  ∃ G O cap : Nat, o7 = .pointer (some ⟨O, 0, none⟩) ∧ N ≤ G ∧ N ≤ O ∧ G ≠ O ∧ Blk wc O #[.string s, .slice (some ⟨G, 0, none⟩) n cap] 25 ∧ wc.ownsRow N 25 2 (.slice (some ⟨G, 0, none⟩) n cap) n xs ∧ Below N W wc
theorem kpM_last {W w1 : World} {N n G cap : Nat} {s : ByteArray} {xs : List Value} (hN : W.heap.size = N) (hown : w1.ownsRow N 25 2 (.slice (some ⟨G, 0, none⟩) n cap) n xs) (hb : Below N W w1) :
    KpM W N s n xs (.pointer (some ⟨w1.heap.size, 0, none⟩)) (w1.alloc (.cells #[.string s, .slice (some ⟨G, 0, none⟩) n cap] 25)) := by
  have hl := hown.lt G rfl
  have hs := hb.size
  exact ⟨G, w1.heap.size, cap, rfl, hl.1, by omega, by omega, Blk.new _ _ _, hown.alloc _, hb.alloc (by omega) _⟩
theorem kpM_first {W w1 : World} {N n G cap O : Nat} {s : ByteArray} {xs : List Value} (hO : N ≤ O) (hB : Blk w1 O #[.string ⟨#[]⟩, .slice none 0 0] 25) (hGO : O < G) (hown : w1.ownsRow N 25 2 (.slice (some ⟨G, 0, none⟩) n cap) n xs) (hb : Below N W w1) :
    KpM W N s n xs (.pointer (some ⟨O, 0, none⟩)) ((w1.setCell ⟨O, 0, none⟩ (.string s)).setCell ⟨O, 1, none⟩ (.slice (some ⟨G, 0, none⟩) n cap)) := by
  have hl := hown.lt G rfl
  refine ⟨G, O, cap, rfl, hl.1, hO, by omega, ?_, ownsRow_put2 hown (by omega), (hb.setCell (by simpa using hO) _).setCell (by simpa using hO) _⟩
  have := (hB.set 0 (.string s)).set 1 (.slice (some ⟨G, 0, none⟩) n cap)
  simpa using this
theorem kput_fin {w w5 : World} {X : Nat → Prop} {l : List Tm} {k G R M T n9 c9 : Nat} {xs : List Value} {cur : Array Value} {s9 : ByteArray} {a9 : Option Addr} {y : Tm} (hX : ∀ b, X b → b < w.heap.size) (hk : k < l.length) (hl : l.length ≤ 9223372036854775807) (hrt : RowT w X l xs) (hcx : cur.toList.take (l.length * 2) = xs) (hG : w.heap.size ≤ G) (hGM : G < M) (hR : w.heap.size ≤ R) (hRG : R ≠ G) (hRM : R < M) (GB : Blk w5 G cur T) (hb : Below w.heap.size w w5)
    (ht : TV w5 (fun b => (X b ∧ b < M) ∨ M ≤ b) (.agg #[.string s9, .slice a9 n9 c9]) y) : ∀ wF : World, (∀ b, b ≠ R → wF.heap[b]? = ((w5.setCell ⟨G, k * 2, none⟩ (.string s9)).setCell ⟨G, k * 2 + 1, none⟩ (.slice a9 n9 c9)).heap[b]?) → Sl wF (fun b => X b ∨ w.heap.size ≤ b) (some ⟨G, 0, none⟩) (l.set k y) := by
  intro wF hF
  obtain ⟨a', c', e, hs9⟩ := ht
  simp at e
  obtain ⟨rfl, rfl, rfl, rfl⟩ := e
  have keep : ∀ b, b ≠ G → b ≠ R → wF.heap[b]? = w5.heap[b]? := fun b h1 h2 => by
    rw [hF b h2, Below.heap_setCell _ _ _ _ (by simpa using h1), Below.heap_setCell _ _ _ _ (by simpa using h1)]
  have h1 : RowT wF (fun b => X b ∨ w.heap.size ≤ b) l xs := hrt.imp fun a kk hs => (hs.kept fun b hb2 => by
    have := hX b hb2
    rw [keep b (by omega) (by omega), hb.block b this]).mono fun b hb2 _ => Or.inl hb2
  have h2 : Sl wF (fun b => X b ∨ w.heap.size ≤ b) a9 y.args := (hs9.kept fun b hb2 => by
    rcases hb2 with hb2 | hb2
    · have := hX b hb2.1
      exact keep b (by omega) (by omega)
    · exact keep b (by omega) (by omega)).mono fun b hb2 _ => by
    rcases hb2 with hb2 | hb2
    · exact Or.inl hb2.1
    · exact Or.inr (by omega)
  have h3 := RowT.put (c := c9) h2 k h1 hk
  have hBF : Blk wF G ((cur.setIfInBounds (k * 2) (.string y.name)).setIfInBounds (k * 2 + 1) (.slice a9 y.args.length c9)) T := by
    have h4 := (GB.set (k * 2) (.string y.name)).set (k * 2 + 1) (.slice a9 y.args.length c9)
    unfold Blk at *
    rw [hF G (fun e => hRG e.symm)]
    exact h4
  refine ⟨by simpa using hl, Or.inr ⟨G, 0, rfl, lies_of_rowT G (Or.inr hG) _ _ 0 h3 (fun _ _ h => h) fun j u hj => ?_⟩⟩
  rw [Nat.zero_add]
  refine (hBF.cell j).trans ?_
  rw [← hcx, ← List.take_set, ← List.take_set, List.getElem?_take] at hj
  split at hj
  · rw [← Array.getElem?_toList]
    simpa using hj
  · cases hj
set_option maxHeartbeats 4000000 in
theorem kput_any (x : Tm) (zs : List Int) : ∀ (t : Tm) (v p u : Value) (w : World) (X : Nat → Prop), TV w X v t → PV w X p zs → TV w X u x → (atT t zs).isSome = true → sizeL [t] ≤ 1000000 →
    Calls Tryz.prog 18 #[v, p, u] w fun e w' => ∃ v', e = .returned v' ∧ TV w' (fun b => (X b ∧ b < w.heap.size) ∨ w.heap.size ≤ b) v' (putT x zs t) ∧ Below w.heap.size w w' := by
  induction zs with
  | nil =>
    intro t v p u w X hv hp hu hat hsm
    obtain ⟨a, c, rfl, hs⟩ := hv
    obtain ⟨ax, cx, rfl, hsx⟩ := hu
    obtain ⟨pa, pc, rfl, hzl, hz⟩ := hp
    have HU := hide hsx
    go_enter Tryz.func18, Tryz.ntmps18
    go_wp2_with fail
    refine bodyPost_ret (v := .agg #[.string x.name, .slice ax x.args.length cx]) (by simp [results, Tryz.results18, go_sem]) rfl ⟨_, rfl, ?_, ?_⟩
    · exact ⟨ax, cx, by simp [putT], (HU.out.mono (Y := fun b => (X b ∧ b < w.heap.size) ∨ w.heap.size ≤ b) fun b h1 h2 => Or.inl ⟨h1, h2⟩).later (below3 _ _ _)⟩
    · exact below3 _ _ _
  | cons z zs ih =>
    intro t v p u w X0 hv0 hp0 hu0 hat hsm
    have IH := hide ih
    clear ih
    obtain ⟨X, hX, hXX, hv, hp, hu⟩ : ∃ X : Nat → Prop, (∀ b, X b → b < w.heap.size) ∧ (∀ b, X b → X0 b) ∧ TV w X v t ∧ PV w X p (z :: zs) ∧ TV w X u x := ⟨fun b => X0 b ∧ b < w.heap.size, fun _ h => h.2, fun _ h => h.1, hv0.mono fun b h1 h2 => ⟨h1, h2⟩, hp0.mono fun b h1 h2 => ⟨h1, h2⟩, hu0.mono fun b h1 h2 => ⟨h1, h2⟩⟩
    clear hv0 hp0 hu0
    obtain ⟨a, c, rfl, hs⟩ := hv
    obtain ⟨ax, cx, rfl, hsx⟩ := hu
    have HU := hide (show TV w X (.agg #[.string x.name, .slice ax x.args.length cx]) x from ⟨ax, cx, rfl, hsx⟩)
    clear hsx
    obtain ⟨pa, pc, rfl, hzl, hz⟩ := hp
    obtain ⟨b, o, rfl, hxb, hcell⟩ := hz.resolve_left (fun h => by cases h)
    have h0 := hcell 0 (by simp)
    simp only [Nat.add_zero, List.getElem_cons_zero] at h0
    have hzl' : zs.length + 1 ≤ 9223372036854775807 ∧ zs.length + 1 ≤ pc := by simpa using hzl
    obtain ⟨hzl1, hzl2⟩ := hzl'
    obtain ⟨s, l⟩ := t
    have hz1 : sizeL [(⟨s, l⟩ : Tm)] = 1 + sizeL l := by simp [sizeL]
    rw [hz1] at hsm
    clear hz1
    have hlen := sizeL_len l
    rw [atT] at hat
    split at hat
    case isFalse => cases hat
    case isTrue hzk =>
    obtain ⟨k, rfl⟩ : ∃ k : Nat, z = (k : Int) := ⟨z.toNat, by omega⟩
    have hk : k < l.length := by simpa using hzk.2
    have HAT : Hid ((atT l[k] zs).isSome = true) := hide (by simpa using hat)
    obtain ⟨sa, HSA, HT⟩ : ∃ sa : Option Addr, Hid ((if pc = 1 then some (⟨b, o, none⟩ : Addr) else some ⟨b, o + 1, none⟩) = sa) ∧ Hid (PV w X (.slice sa zs.length (pc - 1)) zs) := by
      by_cases h1 : pc = 1
      · refine ⟨_, rfl, ?_⟩
        have : zs = [] := List.length_eq_zero_iff.1 (by omega)
        subst this
        exact ⟨_, _, rfl, by simp, Or.inl rfl⟩
      · refine ⟨_, rfl, ?_⟩
        rw [if_neg h1]
        exact PV.tail ⟨hzl1, hzl2⟩ hxb hcell
    simp only [List.length_cons] at *
    clear hcell hzl hz hat hzk
    go_enter Tryz.func18, Tryz.ntmps18
    go_upto_region 3 with fail
    have hB3 : Below w.heap.size w (((w.alloc (.cells #[.string s, .slice a l.length c] 25)).alloc (.cells #[.string x.name, .slice ax x.args.length cx] 25)).alloc (.cells #[.string ⟨#[]⟩, .slice none 0 0] 25)) := below3 _ _ _
    have hz3 : (((w.alloc (.cells #[.string s, .slice a l.length c] 25)).alloc (.cells #[.string x.name, .slice ax x.args.length cx] 25)).alloc (.cells #[.string ⟨#[]⟩, .slice none 0 0] 25)).heap.size = w.heap.size + 3 := by simp
    obtain ⟨ba, oa, rfl, hlies⟩ := hs.2.resolve_left (fun e => by rw [e] at hk; simp at hk)
    obtain ⟨xs, hrt, hxc⟩ := rowT_of_lies l ba oa hlies
    have HRT := hide hrt
    have hbal : ba < w.heap.size := hX _ (lies_get _ _ _ hlies 0 (by omega)).1
    have CL : Hid (∀ w', Below w.heap.size w w' → Calls Tryz.prog 31 #[.slice (some ⟨ba, oa, none⟩) l.length c] w' fun e w'' => ∃ G cap, e = .returned (.slice (some ⟨G, 0, none⟩) l.length cap) ∧ w''.ownsRow w'.heap.size 25 2 (.slice (some ⟨G, 0, none⟩) l.length cap) l.length xs ∧ Below w'.heap.size w' w'') := fun w' hb => by
      refine (cloneT_any ba oa l.length c xs w' hrt.len (by omega) (fun j u hj => (hb.cell (p := ⟨ba, oa + j, none⟩) hbal).trans (hxc j u hj)) hrt.one).mono ?_
      rintro e w'' ⟨v', rfl, ho, hne, hb2⟩
      rcases ho.2 with ⟨h1, _⟩ | ⟨g, cap, cur, hv, _⟩
      · exact absurd h1 hne
      · subst hv
        exact ⟨g, cap, rfl, ho, hb2⟩
    go_cut [7] (fun o7 wc => KpM (((w.alloc (.cells #[.string s, .slice (some ⟨ba, oa, none⟩) l.length c] 25)).alloc (.cells #[.string x.name, .slice ax x.args.length cx] 25)).alloc (.cells #[.string ⟨#[]⟩, .slice none 0 0] 25)) (w.heap.size + 3) s l.length xs o7 wc)
    case first =>
      have T3 : Blk (((w.alloc (.cells #[.string s, .slice (some ⟨ba, oa, none⟩) l.length c] 25)).alloc (.cells #[.string x.name, .slice ax x.args.length cx] 25)).alloc (.cells #[.string ⟨#[]⟩, .slice none 0 0] 25)) w.heap.size #[.string s, .slice (some ⟨ba, oa, none⟩) l.length c] 25 := ((Blk.new w _ _).alloc _).alloc _
      have HB3 := hide hB3
      generalize (((w.alloc (.cells #[.string s, .slice (some ⟨ba, oa, none⟩) l.length c] 25)).alloc (.cells #[.string x.name, .slice ax x.args.length cx] 25)).alloc (.cells #[.string ⟨#[]⟩, .slice none 0 0] 25)) = W at *
      have t0 : W.cell? ⟨w.heap.size, 0, none⟩ = some (.string s) := T3.cell 0
      have t1 : W.cell? ⟨w.heap.size, 1, none⟩ = some (.slice (some ⟨ba, oa, none⟩) l.length c) := T3.cell 1
      have HS0 := hide (And.intro t0 t1)
      have KP : Hid (∀ w', Below (w.heap.size + 3) W w' → w'.cell? ⟨w.heap.size, 0, none⟩ = some (.string s) ∧ w'.cell? ⟨w.heap.size, 1, none⟩ = some (.slice (some ⟨ba, oa, none⟩) l.length c)) := fun w' hb => ⟨(hb.cell (p := ⟨w.heap.size, 0, none⟩) (by simp)).trans t0, (hb.cell (p := ⟨w.heap.size, 1, none⟩) (by simp)).trans t1⟩
      have HD : Hid (Below (w.heap.size + 3) W W.drew) := (Below.refl _ _).drew
      have HA : Hid (∀ o, Below (w.heap.size + 3) W (W.drew.alloc o)) := fun o => ((Below.refl _ _).drew).alloc (by simp; omega) o
      have CL2 : Hid (∀ w', Below (w.heap.size + 3) W w' → Calls Tryz.prog 31 #[.slice (some ⟨ba, oa, none⟩) l.length c] w' fun e w'' => ∃ G cap, e = .returned (.slice (some ⟨G, 0, none⟩) l.length cap) ∧ w''.ownsRow w'.heap.size 25 2 (.slice (some ⟨G, 0, none⟩) l.length cap) l.length xs ∧ Below w'.heap.size w' w'' ∧ Below (w.heap.size + 3) W w'') := fun w' hb => (CL.out w' (HB3.out.trans (hb.mono (by omega)))).mono fun e w'' ⟨G, cap, h1, h2, h3⟩ => ⟨G, cap, h1, h2, h3, hb.trans (h3.mono (by have := hb.size; omega))⟩
      have HZ3 := hide hz3
      have nW : w.heap.size ≠ W.heap.size := by omega
      clear hz3
      go_region_held3 (fun w' => w'.cell? ⟨w.heap.size, 0, none⟩ = some (.string s) ∧ w'.cell? ⟨w.heap.size, 1, none⟩ = some (.slice (some ⟨ba, oa, none⟩) l.length c)) (first | exact hS | exact HS0.out | exact KP.out _ (HA.out _) | exact ⟨set2_keep hS.1 nW, set2_keep hS.2 nW⟩ | go_keep)
        (first
          | (go_at_call 31;
              first
                | (refine (CL2.out _ (by first | exact Below.refl _ _ | exact HD.out)).mono ?_; rintro e w5 ⟨G, cap, rfl, ho5, hb5, hB5⟩; have hS := KP.out _ hB5)
                | (refine (CL2.out _ (by exact HA.out (.cells #[.string ⟨#[]⟩, .slice none 0 0] 25))).mono ?_; rintro e w5 ⟨G, cap, rfl, ho5, hb5, hB5⟩; have hS := KP.out _ hB5; have QB : Blk w5 W.heap.size #[.string ⟨#[]⟩, .slice none 0 0] 25 := (Blk.new W.drew _ _).below hb5 (by simp); have q0 : w5.cell? ⟨W.heap.size, 0, none⟩ = some (.string ⟨#[]⟩) := QB.cell 0; have q1 : w5.cell? ⟨W.heap.size, 1, none⟩ = some (.slice none 0 0) := QB.cell 1; have qf := QB.frozen)))
      all_goals have hGl := ho5.lt G rfl
      all_goals go_wp2_with fail
      all_goals go_meet
      all_goals first
        | exact kpM_last (by exact HZ3.out) (owns_mono ho5 (by have := HZ3.out; simp; omega)) hB5
        | (have hz3 := HZ3.out; have e : W.heap.size = w.heap.size + 3 := hz3; exact kpM_first (by omega) QB (by have := hGl.1; simp at this; omega) (owns_mono ho5 (by simp; omega)) hB5)
    case rest =>
      obtain ⟨G, O, cap, rfl, hG3, hO3, hGO, hBO, hown, hbw⟩ := hcut
      have T3 : Blk (((w.alloc (.cells #[.string s, .slice (some ⟨ba, oa, none⟩) l.length c] 25)).alloc (.cells #[.string x.name, .slice ax x.args.length cx] 25)).alloc (.cells #[.string ⟨#[]⟩, .slice none 0 0] 25)) w.heap.size #[.string s, .slice (some ⟨ba, oa, none⟩) l.length c] 25 := ((Blk.new w _ _).alloc _).alloc _
      have X3 : Blk (((w.alloc (.cells #[.string s, .slice (some ⟨ba, oa, none⟩) l.length c] 25)).alloc (.cells #[.string x.name, .slice ax x.args.length cx] 25)).alloc (.cells #[.string ⟨#[]⟩, .slice none 0 0] 25)) (w.heap.size + 1) #[.string x.name, .slice ax x.args.length cx] 25 := by
        have := (Blk.new (w.alloc (.cells #[.string s, .slice (some ⟨ba, oa, none⟩) l.length c] 25)) #[.string x.name, .slice ax x.args.length cx] 25).alloc (.cells #[.string ⟨#[]⟩, .slice none 0 0] 25)
        rw [World.size_alloc] at this
        exact this
      have hbW : Below w.heap.size w wc := hB3.trans (hbw.mono (by omega))
      have c01 : wc.cell? ⟨w.heap.size, 1, none⟩ = some (.slice (some ⟨ba, oa, none⟩) l.length c) := (hbw.cell (p := ⟨w.heap.size, 1, none⟩) (by simp)).trans (T3.cell 1)
      have cz : wc.cell? ⟨b, o, none⟩ = some (.int .i64 (k : Int)) := (hbW.cell (p := ⟨b, o, none⟩) (by simpa using hX b hxb)).trans h0
      have hkl : (k : Int) < (l.length : Int) := by omega
      have x0 : wc.cell? ⟨w.heap.size + 1, 0, none⟩ = some (.string x.name) := (hbw.cell (p := ⟨w.heap.size + 1, 0, none⟩) (by simp)).trans (X3.cell 0)
      have x1 : wc.cell? ⟨w.heap.size + 1, 1, none⟩ = some (.slice ax x.args.length cx) := (hbw.cell (p := ⟨w.heap.size + 1, 1, none⟩) (by simp)).trans (X3.cell 1)
      obtain ⟨b1, o1, a', c', hae, d0, d1, hx⟩ := hs.get hbW (fun b hb _ => hX b hb) k hk
      have eba : b1 = ba ∧ o1 = oa := by simp at hae; exact ⟨hae.1.symm, hae.2.symm⟩
      obtain ⟨rfl, rfl⟩ := eba
      have o1' : wc.cell? ⟨O, 1, none⟩ = some (.slice (some ⟨G, 0, none⟩) l.length cap) := hBO.cell 1
      have HX := hide hx
      have hszk : sizeL [l[k]] ≤ 1000000 := by
        have := sizeL_take l k hk; have := sizeL_take_le l (k + 1); omega
      have hslq : ∀ w' : World, Sem.run Tryz.prog (Instr.slice 22 (.slice (some ⟨b, o, none⟩) (zs.length + 1) pc) (some (.int .i64 1)) none none) w' = .ok (.slice sa zs.length (pc - 1)) w' := fun w' => by
        rw [slice_tail_run b o zs.length pc hzl2 w', HSA.out]
      have hnG : ∀ b, b < w.heap.size + 3 → b ≠ G := fun b hb => by omega
      have hlen9 := hs.1
      have hput : putT x ((k : Int) :: zs) ⟨s, l⟩ = ⟨s, l.set k (putT x zs l[k])⟩ := by
        have := putL_set (putT x zs) l 0 k hk
        rw [Nat.zero_add] at this
        rw [putT, this]
      have PU : Hid (∀ w', Below wc.heap.size wc w' → Calls Tryz.prog 18 #[.agg #[.string l[k].name, .slice a' l[k].args.length c'], .slice sa zs.length (pc - 1), .agg #[.string x.name, .slice ax x.args.length cx]] w' fun e w'' => ∃ s9 a9 n9 c9, e = .returned (.agg #[.string s9, .slice a9 n9 c9]) ∧ TV w'' (fun b => (X b ∧ b < w'.heap.size) ∨ w'.heap.size ≤ b) (.agg #[.string s9, .slice a9 n9 c9]) (putT x zs l[k]) ∧ Below wc.heap.size wc w'') := fun w' hb => by
        refine (IH.out l[k] _ _ _ w' X (HX.out.later hb) ((HT.out.later hbW).later hb) ((HU.out.later hbW).later hb) HAT.out hszk).mono ?_
        rintro e w'' ⟨v', rfl, ht, hb2⟩
        obtain ⟨a9, c9, rfl, hs9⟩ := ht
        exact ⟨_, a9, _, c9, rfl, ⟨a9, c9, rfl, hs9⟩, hb.trans (hb2.mono hb.size)⟩
      have hcs6 : wc.cell? ⟨O, 1, none⟩ = some (.slice (some ⟨G, 0, none⟩) l.length cap) ∧ wc.cell? ⟨w.heap.size, 1, none⟩ = some (.slice (some ⟨b1, o1, none⟩) l.length c) ∧ wc.cell? ⟨b1, o1 + k * 2, none⟩ = some (.string l[k].name) ∧ wc.cell? ⟨b1, o1 + k * 2 + 1, none⟩ = some (.slice a' l[k].args.length c') ∧ wc.cell? ⟨w.heap.size + 1, 0, none⟩ = some (.string x.name) ∧ wc.cell? ⟨w.heap.size + 1, 1, none⟩ = some (.slice ax x.args.length cx) := ⟨o1', c01, d0, d1, x0, x1⟩
      have HS0 := hide hcs6
      have hOl : O < wc.heap.size := hBO.lt
      have hszc : w.heap.size + 3 ≤ wc.heap.size := by have := hbw.size; omega
      have KP : Hid (∀ w', Below wc.heap.size wc w' → w'.cell? ⟨O, 1, none⟩ = some (.slice (some ⟨G, 0, none⟩) l.length cap) ∧ w'.cell? ⟨w.heap.size, 1, none⟩ = some (.slice (some ⟨b1, o1, none⟩) l.length c) ∧ w'.cell? ⟨b1, o1 + k * 2, none⟩ = some (.string l[k].name) ∧ w'.cell? ⟨b1, o1 + k * 2 + 1, none⟩ = some (.slice a' l[k].args.length c') ∧ w'.cell? ⟨w.heap.size + 1, 0, none⟩ = some (.string x.name) ∧ w'.cell? ⟨w.heap.size + 1, 1, none⟩ = some (.slice ax x.args.length cx)) := fun w' hb => ⟨(hb.cell (p := ⟨O, 1, none⟩) hOl).trans o1', (hb.cell (p := ⟨w.heap.size, 1, none⟩) (by simp; omega)).trans c01, (hb.cell (p := ⟨b1, o1 + k * 2, none⟩) (by simp; omega)).trans d0, (hb.cell (p := ⟨b1, o1 + k * 2 + 1, none⟩) (by simp; omega)).trans d1, (hb.cell (p := ⟨w.heap.size + 1, 0, none⟩) (by simp; omega)).trans x0, (hb.cell (p := ⟨w.heap.size + 1, 1, none⟩) (by simp; omega)).trans x1⟩
      obtain ⟨cur, hGb, hcur, hcx, hcap⟩ : ∃ cur : Array Value, Blk wc G cur 25 ∧ cur.size = cap * 2 ∧ cur.toList.take (l.length * 2) = xs ∧ l.length ≤ cap := by
        rcases hown.2 with ⟨h1, _⟩ | ⟨g, cap', cur, hv, _, hh, hnc, _, hz, ht⟩
        · cases h1
        · simp at hv
          obtain ⟨rfl, rfl⟩ := hv
          exact ⟨cur, hh, hz, ht, hnc⟩
      have HGB := hide hGb
      obtain ⟨y0, hy0⟩ : ∃ y, cur[k * 2]? = some y := ⟨_, Array.getElem?_eq_getElem (by omega)⟩
      obtain ⟨y1, hy1⟩ : ∃ y, cur[k * 2 + 1]? = some y := ⟨_, Array.getElem?_eq_getElem (by omega)⟩
      have nO : O ≠ G := fun e => hGO e.symm
      have n1 : w.heap.size ≠ G := by omega
      have n2 : b1 ≠ G := by omega
      have n3 : w.heap.size + 1 ≠ G := by omega
      have n4 : w.heap.size + 1 + 1 ≠ G := by omega
      have hRc : Blk wc (w.heap.size + 1 + 1) #[.string ⟨#[]⟩, .slice none 0 0] 25 := by
        have h1 := Blk.new ((w.alloc (.cells #[.string s, .slice (some ⟨b1, o1, none⟩) l.length c] 25)).alloc (.cells #[.string x.name, .slice ax x.args.length cx] 25)) #[.string ⟨#[]⟩, .slice none 0 0] 25
        rw [World.size_alloc, World.size_alloc] at h1
        unfold Blk at *
        rw [hbw.block _ (by omega)]
        exact h1
      have hGl : G < wc.heap.size := hGb.lt
      clear o1' c01 d0 d1 x0 x1 hcs6
      go_wp2_with fail
      go_region_held3 (fun w' => w'.cell? ⟨O, 1, none⟩ = some (.slice (some ⟨G, 0, none⟩) l.length cap) ∧ w'.cell? ⟨w.heap.size, 1, none⟩ = some (.slice (some ⟨b1, o1, none⟩) l.length c) ∧ w'.cell? ⟨b1, o1 + k * 2, none⟩ = some (.string l[k].name) ∧ w'.cell? ⟨b1, o1 + k * 2 + 1, none⟩ = some (.slice a' l[k].args.length c') ∧ w'.cell? ⟨w.heap.size + 1, 0, none⟩ = some (.string x.name) ∧ w'.cell? ⟨w.heap.size + 1, 1, none⟩ = some (.slice ax x.args.length cx)) (first | exact hS | exact HS0.out | exact ⟨set2_keep hS.1 nO, set2_keep hS.2.1 n1, set2_keep hS.2.2.1 n2, set2_keep hS.2.2.2.1 n2, set2_keep hS.2.2.2.2.1 n3, set2_keep hS.2.2.2.2.2 n3⟩ | go_keep)
        (first
          | (go_at_call 18; refine (PU.out _ (by first | exact Below.refl _ _ | exact (Below.refl _ _).drew)).mono ?_; rintro e w5 ⟨s9, a9, n9, c9, rfl, ht5, hb5⟩; have hS := KP.out _ hb5; have GB := HGB.out.below hb5 hGl; have gf := GB.frozen; have g0 : w5.cell? ⟨G, k * 2, none⟩ = some y0 := (GB.cell (k * 2)).trans hy0; have g1 : w5.cell? ⟨G, k * 2 + 1, none⟩ = some y1 := (GB.cell (k * 2 + 1)).trans hy1))
      all_goals
        have OB := (hBO.below hb5 hOl)
        have OB9 := (OB.setOther (k * 2) (.string s9) nO).setOther (k * 2 + 1) (.slice a9 n9 c9) nO
        have GB9 := (GB.set (k * 2) (.string s9)).set (k * 2 + 1) (.slice a9 n9 c9)
        have hR5 := ((hRc.below hb5 (by omega)).setOther (k * 2) (.string s9) n4).setOther (k * 2 + 1) (.slice a9 n9 c9) n4
        have hb9 : Below w.heap.size w ((w5.setCell ⟨G, k * 2, none⟩ (.string s9)).setCell ⟨G, k * 2 + 1, none⟩ (.slice a9 n9 c9)) := ((hbW.trans (hb5.mono (by omega))).setCell (p := ⟨G, k * 2, none⟩) (by simp; omega) _).setCell (p := ⟨G, k * 2 + 1, none⟩) (by simp; omega) _
        have HFIN := hide (kput_fin (R := w.heap.size + 1 + 1) hX hk hlen9 HRT.out hcx (by omega) (by exact hGl) (by omega) n4 (by have := hszc; simp; omega) GB (hbW.trans (hb5.mono (by omega))) ht5)
        have hGx9 := hb5.size
        generalize ((w5.setCell ⟨G, k * 2, none⟩ (.string s9)).setCell ⟨G, k * 2 + 1, none⟩ (.slice a9 n9 c9)) = w9 at *
        have u0 : w9.cell? ⟨O, 0, none⟩ = some (.string s) := OB9.cell 0
        have u1 : w9.cell? ⟨O, 1, none⟩ = some (.slice (some ⟨G, 0, none⟩) l.length cap) := OB9.cell 1
        have r20 : w9.cell? ⟨w.heap.size + 1 + 1, 0, none⟩ = some (.string ⟨#[]⟩) := hR5.cell 0
        have r21 : w9.cell? ⟨w.heap.size + 1 + 1, 1, none⟩ = some (.slice none 0 0) := hR5.cell 1
        have rf := hR5.frozen
        go_wp2_with fail
        refine bodyPost_ret (v := .agg #[.string s, .slice (some ⟨G, 0, none⟩) l.length cap]) (by simp [results, Tryz.results18, go_sem, r20, r21, World.cell?_setCell_same, World.cell?_setCell_other]) rfl ⟨_, rfl, ?_, ?_⟩
        · refine ⟨some ⟨G, 0, none⟩, cap, ?_, ?_⟩
          · rw [hput]; simp
          · rw [hput]
            exact (HFIN.out _ (fun b hb => by rw [Below.heap_setCell _ _ _ _ (by simpa using hb), Below.heap_setCell _ _ _ _ (by simpa using hb)])).mono fun b hb _ => hb.imp (fun h => ⟨hXX b h, hX b h⟩) id
        · exact (hb9.setCell (by simp; omega) _).setCell (by simp; omega) _
#print axioms kput_any
end Go.Proofs.YteghhdogmdpbpakGreat


/- Walks: a term with another one at a place, as the document says. -/
namespace Go.Proofs.YteghhdogmdpbpakGreat
open Go.RowKit
set_option linter.unusedSimpArgs false
set_option linter.unusedVariables false
set_option maxRecDepth 8000

/-- What a round that appends does: the row at block M holds what is appended to. -/
theorem put_step {w wr w1 w3 : World} {M T : Nat} {Y : Nat → Prop} {u : Value} {L : List Tm} {t : Tm} {xs : List Value} {o2 : Obj} {s s' : ByteArray} {a1 : Option Addr} {n1 c1 g cap n : Nat} (hn : L.length = n) (hrow : Row wr (M + 1) T Y u L xs) (hb : Below w.heap.size w wr) (hM : w.heap.size ≤ M) (hY : ∀ b, Y b → b < w.heap.size)
    (h2 : Blk wr M #[.string s, u] T) (hsz : M + 1 ≤ wr.heap.size)
    (hb1 : Below wr.heap.size wr w1) (ht : TV w1 (fun b => Y b ∨ wr.heap.size ≤ b) (.agg #[.string s', .slice a1 n1 c1]) t)
    (hown : w3.ownsRow (M + 1) T 2 (.slice (some ⟨g, 0, none⟩) (n + 1) cap) (n + 1) (xs ++ [.string s', .slice a1 n1 c1])) (hg : (w1.alloc o2).grownBy w3 u.ownBlock) (hat : u.ownBlock = some g ∨ g = (w1.alloc o2).heap.size) :
    let w4 := w3.setCell ⟨M, 1, none⟩ (.slice (some ⟨g, 0, none⟩) (n + 1) cap)
    Row w4 (M + 1) T Y (.slice (some ⟨g, 0, none⟩) (n + 1) cap) (L ++ [t]) (xs ++ [.string s', .slice a1 n1 c1]) ∧ Below w.heap.size w w4 ∧ (∀ b cs, b < M → Blk wr b cs T → Blk w4 b cs T) ∧ Blk w4 M #[.string s, .slice (some ⟨g, 0, none⟩) (n + 1) cap] T ∧ M + 1 ≤ w4.heap.size := by
  intro w4
  subst hn
  have hlt' := hrow.own.lt
  have hs1 := hb1.size
  have hsg := hg.size
  simp at hsg
  have hp := hrow.push (w1 := w1) (w2 := w1.alloc o2) (w3 := w3) hsz (fun b h => by have := hY b h; omega) hb1 ht o2 rfl hown hg hat
  have hw3 : Below w.heap.size w w3 := ((hb.trans (hb1.mono hb.size)).alloc (by have := hb.size; omega) o2).grown hg (by have := hb.size; simp; omega) (fun j hj => by have := (hlt' j hj).1; omega)
  have hA : Below w.heap.size w w4 := hw3.setCell (p := ⟨M, 1, none⟩) hM _
  have hbk : ∀ b cs, b < M + 1 → Blk wr b cs T → Blk w3 b cs T := fun b cs hb h => ((h.below hb1 h.lt).alloc o2).grown hg (hrow.ne hb)
  refine ⟨hp.setCell (by omega) (fun h => by have := hY _ h; omega) _, hA, fun b cs hb h => (hbk b cs (by omega) h).setOther _ _ (by omega), (hbk _ _ (by omega) h2).set 1 _, by simp [w4, World.setCell]; omega⟩

theorem put_blk {wr w1 w3 : World} {o2 : Obj} {M T : Nat} {Y : Nat → Prop} {u : Value} {L : List Tm} {xs : List Value} {b : Nat} {cs : Array Value} (hrow : Row wr (M + 1) T Y u L xs) (h : Blk wr b cs T) (hb1 : Below wr.heap.size wr w1) (hg : (w1.alloc o2).grownBy w3 u.ownBlock) (hM : b < M + 1) : Blk w3 b cs T :=
  ((h.below hb1 h.lt).alloc o2).grown hg (hrow.ne hM)

theorem own_later {w w' : World} {N T size : Nat} {v : Value} {n : Nat} {xs : List Value} (h : w.ownsRow N T size v n xs) (hb : Below w.heap.size w w') : w'.ownsRow N T size v n xs :=
  h.kept (w' := w') (row := none) ⟨hb.os, hb.tape, hb.output, hb.size, fun j hj _ => hb.block j hj⟩ (by rcases Option.eq_none_or_eq_some (Value.ownBlock v) with h | ⟨x, h⟩; exact Or.inl h; exact Or.inr (by rw [h]; simp))

/-- What holds at each round's head of putting at a place. -/
def PutInv (w : World) (X : Nat → Prop) (x : Tm) (zs : List Int) (z : Int) (s : ByteArray) (l : List Tm) (a : Option Addr) (c : Nat) (ax : Option Addr) (cx : Nat) (i : Value) (wr : World) : Prop :=
  ∃ (k : Nat) (q : Value) (xs : List Value), k ≤ l.length ∧ i = .int .i64 k ∧ Row wr (w.heap.size + 1 + 1 + 1 + 1) 25 X q ((putL (putT x zs) z 0 l).take k) xs ∧ Below w.heap.size w wr ∧ Blk wr w.heap.size #[.string s, .slice a l.length c] 25 ∧ Blk wr (w.heap.size + 1) #[.string x.name, .slice ax x.args.length cx] 25 ∧ Blk wr (w.heap.size + 1 + 1) #[.string ⟨#[]⟩, .slice none 0 0] 25 ∧ Blk wr (w.heap.size + 1 + 1 + 1) #[.string s, q] 25 ∧ w.heap.size + 1 + 1 + 1 + 1 ≤ wr.heap.size

theorem two_one (s : ByteArray) (a : Option Addr) (n c : Nat) : ∀ u ∈ [Value.string s, .slice a n c], u.oneCell' = true := fun x hx => by
  simp at hx; rcases hx with rfl | rfl <;> rfl

theorem drew_below {wr w1 : World} (hb1 : Below wr.drew.heap.size wr.drew w1) : Below wr.heap.size wr w1 := (below_drewN (Below.refl _ _) 1).trans hb1

end Go.Proofs.YteghhdogmdpbpakGreat


/- Walks: two answers that are terms. -/
namespace Go.Proofs.YteghhdogmdpbpakGreat
open Go.RowKit
set_option linter.unusedSimpArgs false
set_option linter.unusedVariables false

end Go.Proofs.YteghhdogmdpbpakGreat

/- Walks: Put, and the law on it. -/
namespace Go.Proofs.YteghhdogmdpbpakGreat
open Go.RowKit
set_option linter.unusedSimpArgs false
set_option linter.unusedVariables false
set_option maxRecDepth 8000

/-- What is wrong with putting. -/
def putE (t : Tm) (zs : List Int) (x : Tm) : Int := if twoE t x = 0 then (if (atT t zs).isSome = true then 0 else 10) else twoE t x

theorem may_size {t : Tm} (h : mayE t = 0) : sizeL [t] ≤ 1000000 := by
  unfold mayE at h
  split at h
  · omega
  · omega

theorem may_le {t : Tm} (h : mayE t = 0) : sizeL [t] ≤ 400 := by
  unfold mayE at h
  split at h
  · omega
  · omega
theorem size_set : ∀ (l : List Tm) (k : Nat) (h : k < l.length) (y : Tm), sizeL (l.set k y) + sizeL [l[k]] = sizeL l + sizeL [y]
  | [], k, h, y => by simp at h
  | ⟨s, a⟩ :: l, 0, h, ⟨s', a'⟩ => by simp [sizeL]; omega
  | ⟨s, a⟩ :: l, k + 1, h, y => by
    have := size_set l k (by simpa using h) y
    simp only [List.set_cons_succ, List.getElem_cons_succ]
    have e1 : sizeL (⟨s, a⟩ :: l.set k y) = 1 + sizeL a + sizeL (l.set k y) := by simp [sizeL]
    have e2 : sizeL (⟨s, a⟩ :: l) = 1 + sizeL a + sizeL l := by simp [sizeL]
    omega
theorem putT_size (x : Tm) : ∀ (zs : List Int) (t : Tm), (atT t zs).isSome = true → sizeL [putT x zs t] ≤ sizeL [t] + sizeL [x]
  | [], t, _ => by simp [putT]
  | z :: zs, ⟨s, l⟩, h => by
    rw [atT] at h
    split at h
    case isFalse => cases h
    case isTrue hz =>
    obtain ⟨k, rfl⟩ : ∃ k : Nat, z = (k : Int) := ⟨z.toNat, by omega⟩
    have hk : k < l.length := by simpa using hz.2
    have ih := putT_size x zs l[k] (by simpa using h)
    have h1 := putL_set (putT x zs) l 0 k hk
    rw [Nat.zero_add] at h1
    rw [putT, h1]
    have h2 := size_set l k hk (putT x zs l[k])
    have e1 : sizeL [(⟨s, l.set k (putT x zs l[k])⟩ : Tm)] = 1 + sizeL (l.set k (putT x zs l[k])) := by simp [sizeL]
    have e2 : sizeL [(⟨s, l⟩ : Tm)] = 1 + sizeL l := by simp [sizeL]
    simp only [e1, e2]
    omega
theorem two_left {t x : Tm} (h : mayE t = 0) : twoE t x = mayE x := by simp [twoE, h]
theorem two_bad {t x : Tm} (h : mayE t ≠ 0) : twoE t x = mayE t := by simp [twoE, h]

theorem blks3 (w : World) (c1 c2 c3 : Array Value) (T : Nat) :
    Blk (((w.alloc (.cells c1 T)).alloc (.cells c2 T)).alloc (.cells c3 T)) w.heap.size c1 T ∧ Blk (((w.alloc (.cells c1 T)).alloc (.cells c2 T)).alloc (.cells c3 T)) (w.heap.size + 1) c2 T ∧ Blk (((w.alloc (.cells c1 T)).alloc (.cells c2 T)).alloc (.cells c3 T)) (w.heap.size + 1 + 1) c3 T := by
  refine ⟨(((Blk.new w c1 T).alloc _).alloc _), ?_, ?_⟩
  · have := ((Blk.new (w.alloc (.cells c1 T)) c2 T).alloc (.cells c3 T))
    simp at this; exact this
  · have := (Blk.new ((w.alloc (.cells c1 T)).alloc (.cells c2 T)) c3 T)
    simp at this; exact this

set_option maxHeartbeats 1000000 in
theorem put_any (t x : Tm) (zs : List Int) (v p u : Value) (w : World) (X : Nat → Prop) (hv : TV w X v t) (hp : PV w X p zs) (hu : TV w X u x) :
    Calls Tryz.prog 9 #[v, p, u] w fun e w' => ∃ v', e = .returned (.tuple #[v', .int .i64 (putE t zs x)]) ∧ (putE t zs x = 0 → TV w' (fun b => w.heap.size ≤ b) v' (putT x zs t)) ∧ (putE t zs x ≠ 0 → v' = zeroT) ∧ Below w.heap.size w w' := by
  obtain ⟨a, c, rfl, hs⟩ := hv
  obtain ⟨ax, cx, rfl, hsx⟩ := hu
  obtain ⟨pa, pc, rfl, hpr⟩ := hp
  have HV := hide (show TV w X (.agg #[.string t.name, .slice a t.args.length c]) t from ⟨a, c, rfl, hs⟩)
  have HU := hide (show TV w X (.agg #[.string x.name, .slice ax x.args.length cx]) x from ⟨ax, cx, rfl, hsx⟩)
  have HP := hide (show PV w X (.slice pa zs.length pc) zs from ⟨pa, pc, rfl, hpr⟩)
  clear hs hsx hpr
  go_enter Tryz.func9, Tryz.ntmps9
  go_wp2_with fail
  refine (check_any t _ _ X (by exact HV.out.later (below3 _ _ _))).mono ?_
  rintro e w1 ⟨rfl, hb1⟩
  obtain ⟨k1, k2, k3⟩ := blks3 w #[.string t.name, .slice a t.args.length c] #[.string x.name, .slice ax x.args.length cx] #[.string ⟨#[]⟩, .slice none 0 0] 25
  have B1 := hide (k1.below hb1 k1.lt)
  have B2 := hide (k2.below hb1 k2.lt)
  have B3 := hide (k3.below hb1 k3.lt)
  have HW1 := hide ((below3 (w := w) (.cells #[.string t.name, .slice a t.args.length c] 25) (.cells #[.string x.name, .slice ax x.args.length cx] 25) (.cells #[.string ⟨#[]⟩, .slice none 0 0] 25)).trans (hb1.mono (by simp; omega)))
  clear k1 k2 k3 hb1
  by_cases h1 : mayE t = 0
  · have HT := hide (two_left (x := x) h1)
    have HS1 := hide (may_size h1)
    have HL1 := hide (may_le h1)
    rw [h1]
    clear h1
    have x0 : w1.cell? ⟨w.heap.size + 1, 0, none⟩ = some (.string x.name) := B2.out.cell 0
    have x1 : w1.cell? ⟨w.heap.size + 1, 1, none⟩ = some (.slice ax x.args.length cx) := B2.out.cell 1
    go_wp2_with fail
    refine (check_any x _ _ X (by exact HU.out.later HW1.out)).mono ?_
    rintro e w2 ⟨rfl, hb2⟩
    have C1 := hide (B1.out.below hb2 B1.out.lt)
    have C2 := hide (B2.out.below hb2 B2.out.lt)
    have C3 := hide (B3.out.below hb2 B3.out.lt)
    have HW2 := hide (HW1.out.trans (hb2.mono HW1.out.size))
    clear hb2 x0 x1
    by_cases h2 : mayE x = 0
    · have HZ : Hid (twoE t x = 0) := by unfold Hid; rw [HT.out, h2]
      have HS2 := hide (may_size h2)
      have HL2 := hide (may_le h2)
      rw [h2]
      clear h2
      have x0 : w2.cell? ⟨w.heap.size, 0, none⟩ = some (.string t.name) := C1.out.cell 0
      have x1 : w2.cell? ⟨w.heap.size, 1, none⟩ = some (.slice a t.args.length c) := C1.out.cell 1
      go_wp2_with fail
      refine (find_any t zs _ _ _ X (by exact HV.out.later HW2.out) (by exact HP.out.later HW2.out)).mono ?_
      rintro e w3 ⟨v3, rfl, hyes, hno, hb3⟩
      obtain ⟨s3, a3, n3, c3, rfl⟩ := tvform hyes hno
      have D1 := hide (C1.out.below hb3 C1.out.lt)
      have D2 := hide (C2.out.below hb3 C2.out.lt)
      have D3 := hide (C3.out.below hb3 C3.out.lt)
      have HW3 := hide (HW2.out.trans (hb3.mono HW2.out.size))
      clear hb3 x0 x1 hyes hno
      cases hat : atT t zs with
      | none =>
        have HE : Hid (10 = putE t zs x) := by simp [Hid, putE, HZ.out, hat]
        have hne : putE t zs x ≠ 0 := by rw [← HE.out]; decide
        have r0 := fun o => (D3.out.alloc o).cell 0
        have r1 := fun o => (D3.out.alloc o).cell 1
        have rf := fun o => (D3.out.alloc o).frozen
        simp only [Option.isSome_none]
        go_wp2_with fail
        refine bodyPost_ret (v := .tuple #[zeroT, .int .i64 10]) (by simp [results, Tryz.results9, go_sem, zeroT, r0, r1, World.cell?_setCell_same, World.cell?_setCell_other]) rfl ⟨_, by rw [← HE.out], fun h => absurd h hne, fun _ => rfl, ?_⟩
        exact ((HW3.out.alloc HW3.out.size _).setCell (by simp; omega) _).setCell (by simp; omega) _
      | some y =>
        have HE : Hid (0 = putE t zs x) := by simp [Hid, putE, HZ.out, hat]
        have x0 := fun o => (D1.out.alloc o).cell 0
        have x1 := fun o => (D1.out.alloc o).cell 1
        have y0 := fun o => (D2.out.alloc o).cell 0
        have y1 := fun o => (D2.out.alloc o).cell 1
        simp only [Option.isSome_some]
        have hb4 := fun o => HW3.out.alloc HW3.out.size o
        have HB4 := hide hb4
        clear hb4
        go_wp2_with fail
        refine (kput_any x zs t _ _ _ _ X (by exact HV.out.later (HB4.out _)) (by exact HP.out.later (HB4.out _)) (by exact HU.out.later (HB4.out _)) (by rw [hat]; rfl) HS1.out).mono ?_
        rintro e w4 ⟨v4, rfl, ht4, hb4⟩
        have HZP := hide (putT_size x zs t (by rw [hat]; rfl))
        have HT4 := hide ht4
        obtain ⟨a4, c4, rfl, hs4⟩ := ht4
        clear hs4
        have hzb := hb4.size
        have HB44 := hide hb4
        clear hb4
        go_wp2_with fail
        refine (copyOf_any (putT x zs t) _ w4 _ HT4.out (by have := HZP.out; have := HL1.out; have := HL2.out; omega)).mono ?_
        rintro e w5 ⟨v5, rfl, ht5, hb5c⟩
        have hb5 := HB44.out.trans (hb5c.mono HB44.out.size)
        obtain ⟨a5, c5, rfl, hs5⟩ := ht5
        have E3 := hide ((D3.out.alloc _).below hb5 (by have := D3.out.lt; simp; omega))
        have r0 : w5.cell? ⟨w.heap.size + 1 + 1, 0, none⟩ = some (.string ⟨#[]⟩) := E3.out.cell 0
        have r1 : w5.cell? ⟨w.heap.size + 1 + 1, 1, none⟩ = some (.slice none 0 0) := E3.out.cell 1
        have rf := E3.out.frozen
        have HW5 := hide ((HB4.out _).trans (hb5.mono (by have := HW3.out.size; simp; omega)))
        have HS5 := hide hs5
        clear hs5 hb5 x0 x1 y0 y1
        generalize hn5 : (putT x zs t).name = s5
        generalize hl5 : (putT x zs t).args.length = n5
        go_wp2_with fail
        refine bodyPost_ret (v := .tuple #[.agg #[.string s5, .slice a5 n5 c5], .int .i64 0]) (by simp [results, Tryz.results9, go_sem, r0, r1, World.cell?_setCell_same, World.cell?_setCell_other]) rfl ⟨_, by rw [← HE.out], fun _ => ?_, fun h => absurd HE.out.symm h, ?_⟩
        · refine ⟨a5, c5, by rw [hn5, hl5], ?_⟩
          have hk : Sl w5 (fun b => w3.heap.size + 1 ≤ b) a5 (putT x zs t).args := HS5.out.mono fun b h _ => by simp at hzb; omega
          have hsz3 := D3.out.lt
          have hsz4 := HW3.out.size
          exact (hk.kept fun b hb => by rw [Below.heap_setCell _ _ _ _ (by simp; omega), Below.heap_setCell _ _ _ _ (by simp; omega)]).mono fun b hb _ => by omega
        · exact (HW5.out.setCell (by simp; omega) _).setCell (by simp; omega) _
    · have HE : Hid (mayE x = putE t zs x) := by
        have : twoE t x ≠ 0 := by rw [HT.out]; exact h2
        unfold Hid putE; rw [if_neg this, HT.out]
      have hne : putE t zs x ≠ 0 := by rw [← HE.out]; exact h2
      have h2' : (mayE x == 0) = false := by simpa using h2
      have r0 : w2.cell? ⟨w.heap.size + 1 + 1, 0, none⟩ = some (.string ⟨#[]⟩) := C3.out.cell 0
      have r1 : w2.cell? ⟨w.heap.size + 1 + 1, 1, none⟩ = some (.slice none 0 0) := C3.out.cell 1
      have rf := C3.out.frozen
      clear h2
      go_wp2_with fail
      refine bodyPost_ret (v := .tuple #[zeroT, .int .i64 (mayE x)]) (by simp [results, Tryz.results9, go_sem, zeroT, r0, r1, World.cell?_setCell_same, World.cell?_setCell_other]) rfl ⟨_, by rw [← HE.out], fun h => absurd h hne, fun _ => rfl, ?_⟩
      exact (HW2.out.setCell (by simp; omega) _).setCell (by simp; omega) _
  · have HE : Hid (mayE t = putE t zs x) := by
      have : twoE t x ≠ 0 := by rw [two_bad h1]; exact h1
      unfold Hid putE; rw [if_neg this, two_bad h1]
    have hne : putE t zs x ≠ 0 := by rw [← HE.out]; exact h1
    have h1' : (mayE t == 0) = false := by simpa using h1
    have r0 : w1.cell? ⟨w.heap.size + 1 + 1, 0, none⟩ = some (.string ⟨#[]⟩) := B3.out.cell 0
    have r1 : w1.cell? ⟨w.heap.size + 1 + 1, 1, none⟩ = some (.slice none 0 0) := B3.out.cell 1
    have rf := B3.out.frozen
    clear h1
    go_wp2_with fail
    refine bodyPost_ret (v := .tuple #[zeroT, .int .i64 (mayE t)]) (by simp [results, Tryz.results9, go_sem, zeroT, r0, r1, World.cell?_setCell_same, World.cell?_setCell_other]) rfl ⟨_, by rw [← HE.out], fun h => absurd h hne, fun _ => rfl, ?_⟩
    exact (HW1.out.setCell (by simp; omega) _).setCell (by simp; omega) _
#print axioms put_any
end Go.Proofs.YteghhdogmdpbpakGreat

/- Walks: the text of a term, as the program writes it. -/
namespace Go.Proofs.YteghhdogmdpbpakGreat
open Go.RowKit
set_option linter.unusedSimpArgs false
set_option linter.unusedVariables false
set_option maxRecDepth 8000

theorem TV.bfr {w w' : World} {X : Nat → Prop} {v q q' : Value} {t : Tm} {b : Nat} (h : TV w X v t) (hf : BFr w w' b q q') (hX : ∀ x, X x → x ≠ b ∧ some x ≠ q.ownBlock) : TV w' X v t := by
  have h1 : TV w (fun x => X x ∧ x < w.heap.size) v t := h.mono fun b h1 h2 => ⟨h1, h2⟩
  have h2 : TV w' (fun x => X x ∧ x < w.heap.size) v t := h1.kept fun x hx => hf.2.2.2.2.1 x hx.2 (hX x hx.1).1 (hX x hx.1).2
  exact h2.mono fun b hx _ => hx.1
theorem Sl.bfr {w w' : World} {X : Nat → Prop} {a : Option Addr} {q q' : Value} {l : List Tm} {b : Nat} (h : Sl w X a l) (hf : BFr w w' b q q') (hX : ∀ x, X x → x ≠ b ∧ some x ≠ q.ownBlock) : Sl w' X a l := by
  have h1 : Sl w (fun x => X x ∧ x < w.heap.size) a l := h.mono fun b h1 h2 => ⟨h1, h2⟩
  have h2 : Sl w' (fun x => X x ∧ x < w.heap.size) a l := h1.kept fun x hx => hf.2.2.2.2.1 x hx.2 (hX x hx.1).1 (hX x hx.1).2
  exact h2.mono fun b hx _ => hx.1
theorem Bld.alloc {w : World} {B b : Nat} {bs : List Value} {v : Value} (h : Bld w B b bs v) (o : Obj) : Bld (w.alloc o) B b bs v := by
  obtain ⟨hB, ⟨p, hp, hb⟩, hown⟩ := h
  exact ⟨hB, ⟨p, hp, by rw [Below.heap_alloc _ _ _ (bd_lt hb)]; exact hb⟩, hown.alloc o⟩
theorem Bld.lt {w : World} {B b : Nat} {bs : List Value} {v : Value} (h : Bld w B b bs v) : b < w.heap.size := by
  obtain ⟨_, ⟨p, _, hb⟩, _⟩ := h
  exact bd_lt hb
theorem Bld.old {w : World} {B b : Nat} {bs : List Value} {v : Value} (h : Bld w B b bs v) {x : Nat} (hx : x < B) : x ≠ b ∧ some x ≠ v.ownBlock := by
  refine ⟨by have := h.1; omega, fun e => ?_⟩
  have := (h.2.2.lt x e.symm).1; omega
theorem Blk.bfr {w w' : World} {b k T : Nat} {q q' : Value} {cs : Array Value} (h : Blk w k cs T) (hf : BFr w w' b q q') (hk : k ≠ b) (hq : some k ≠ q.ownBlock) : Blk w' k cs T := by
  unfold Blk at *; rw [hf.2.2.2.2.1 k (Blk.lt h) hk hq]; exact h

def bytesV (l : List UInt8) : List Value := l.map fun b => Value.int .u8 b.toNat
theorem bytesV_len (l : List UInt8) : (bytesV l).length = l.length := by simp [bytesV]
theorem bytesV_str (pre : List UInt8) (s : ByteArray) : bytesV pre ++ Lib.strCells s = bytesV (pre ++ s.data.toList) := by simp [bytesV, Lib.strCells]
theorem bytesV_one (pre : List UInt8) (c : UInt8) : bytesV pre ++ [.int .u8 c.toNat] = bytesV (pre ++ [c]) := by simp [bytesV]

/-- The new box is none of the Builder's. -/
theorem Bld.box {w : World} {B b : Nat} {bs : List Value} {v : Value} (h : Bld w B b bs v) : w.heap.size ≠ b ∧ some w.heap.size ≠ v.ownBlock := by
  refine ⟨by have := h.lt; omega, fun e => ?_⟩
  have := (h.2.2.lt _ e.symm).2; omega

theorem own_box {w wr : World} {b : Nat} {q0 q : Value} {o : Obj} (h : some w.heap.size ≠ q0.ownBlock) (hf : BFr (w.alloc o) wr b q0 q) : some w.heap.size ≠ q.ownBlock := fun e => by
  rcases hf.2.2.2.2.2 _ e.symm with h1 | h1
  · exact h h1.symm
  · simp at h1; omega

/-- What holds at each round's head of writing. -/
def WrInv (w : World) (B b : Nat) (v0 : Value) (pre : List UInt8) (s : ByteArray) (l : List Tm) (i : Value) (wr : World) : Prop :=
  ∃ (k : Nat) (q : Value), k ≤ l.length ∧ i = .int .i64 k ∧ Bld wr B b (bytesV (pre ++ s.data.toList ++ 40 :: txtL (l.take k))) q ∧ BFr w wr b v0 q

theorem wr_take0 (pre : List UInt8) (s : ByteArray) (l : List Tm) : pre ++ s.data.toList ++ ([40] : List UInt8) = pre ++ s.data.toList ++ 40 :: txtL (l.take 0) := by simp [txtL]
theorem wr_take1 (pre : List UInt8) (s : ByteArray) (l : List Tm) (h : 0 < l.length) : pre ++ s.data.toList ++ 40 :: txtL (l.take 0) ++ txtL [l[0]'h] = pre ++ s.data.toList ++ 40 :: txtL (l.take (0 + 1)) := by
  rw [List.take_succ_eq_append_getElem h]; simp [txtL]
theorem wr_takeS (pre : List UInt8) (s : ByteArray) (l : List Tm) (k : Nat) (hk : 0 < k) (h : k < l.length) : pre ++ s.data.toList ++ 40 :: txtL (l.take k) ++ ([44] : List UInt8) ++ txtL [l[k]] = pre ++ s.data.toList ++ 40 :: txtL (l.take (k + 1)) := by
  have h1 : l.take k ≠ [] := by
    intro e
    have h3 := congrArg List.length e
    rw [List.length_take] at h3
    simp only [List.length_nil] at h3
    omega
  rw [List.take_succ_eq_append_getElem h, txtL_append _ _ h1 (by simp)]; simp
theorem wr_end (pre : List UInt8) (s : ByteArray) (l : List Tm) (h : l ≠ []) : pre ++ s.data.toList ++ 40 :: txtL l ++ ([41] : List UInt8) = pre ++ txtL [(⟨s, l⟩ : Tm)] := by
  rw [txtL_one, if_neg (by simpa using h)]; simp
theorem wr_len (pre : List UInt8) (s : ByteArray) (l : List Tm) (k : Nat) (h : l ≠ []) (hk : k ≤ l.length) : (pre ++ s.data.toList ++ 40 :: txtL (l.take k)).length ≤ pre.length + (txtL [(⟨s, l⟩ : Tm)]).length := by
  by_cases h0 : k = 0
  · subst h0
    rw [txtL_one, if_neg (by simpa using h)]
    simp [txtL]
  · have h1 := txtTo_len s l k hk
    unfold txtTo at h1
    rw [if_neg h0] at h1
    simp only [List.length_append] at *
    omega

set_option maxHeartbeats 2000000 in
theorem write_any (t : Tm) : ∀ (v q0 : Value) (pre : List UInt8) (B b : Nat) (w : World) (X : Nat → Prop), TV w X v t → (∀ x, X x → x < B) → Bld w B b (bytesV pre) q0 → B ≤ w.heap.size → pre.length + (txtL [t]).length ≤ 900000000 →
    Calls Tryz.prog 78 #[.pointer (some ⟨b, 0, none⟩), v] w fun e w' => e = .returned (.tuple #[]) ∧ ∃ q, Bld w' B b (bytesV (pre ++ txtL [t])) q ∧ BFr w w' b q0 q := by
  induction t using Tm.ind with
  | h s l ih =>
    intro v q0 pre B b w X hv hX hbd hB hsm
    have IH := hide ih
    clear ih
    obtain ⟨a, c, rfl, hs⟩ := hv
    have hl := hs.1
    have hsz : s.size ≤ (txtL [(⟨s, l⟩ : Tm)]).length := by
      rw [txtL_one]; have h2 : s.data.toList.length = s.size := by rw [Array.length_toList]; rfl
      simp only [List.length_append]; omega
    have HBD := hide hbd
    have hbox := hbd.box
    clear hbd
    go_enter Tryz.func78, Tryz.ntmps78
    go_wp2_with fail
    refine (writeString_any B b _ q0 s _ (by exact HBD.out.alloc _) (by rw [bytesV_len]; omega) (by simp; omega)).mono ?_
    rintro e w1 ⟨rfl, q1, hbd1, hfr1⟩
    rw [bytesV_str] at hbd1
    have K1 := hide ((Blk.new w #[.string s, .slice a l.length c] 25).bfr hfr1 hbox.1 hbox.2)
    have HFR1 := hide hfr1
    have HW0 := hide (BFr.of_below ((Below.refl w.heap.size w).alloc (Nat.le_refl _) (.cells #[.string s, .slice a l.length c] 25)) b q0)
    have c1 : w1.cell? ⟨w.heap.size, 1, none⟩ = some (.slice a l.length c) := K1.out.cell 1
    have HBD1 := hide hbd1
    clear hfr1 hbd1
    by_cases hn : l = []
    · subst hn
      have HE := hide (txt_nil s)
      go_wp2_with fail
      refine bodyPost_ret (v := .tuple #[]) (by simp [results, Tryz.results78, go_sem]) rfl ?_
      exact ⟨rfl, q1, by rw [HE.out]; exact HBD1.out, HW0.out.trans HFR1.out⟩
    · have hlp : 0 < l.length := List.length_pos_iff.2 hn
      have hlp' : (((l.length : Nat) : Int) == 0) = false := by simp; omega
      have HN := hide hn
      have hw0 := wr_len pre s l 0 hn (Nat.zero_le _)
      have hp1 : (bytesV (pre ++ s.data.toList)).length ≤ 900000000 := by rw [bytesV_len]; simp only [List.length_append, List.length_cons] at hw0 ⊢; omega
      clear hn hw0
      go_wp2_with fail
      refine (writeByte_any B b _ q1 40 _ (by exact HBD1.out) (by omega) (by have := HFR1.out.2.2.2.1; simp at this; omega)).mono ?_
      rintro e w2 ⟨rfl, q2, hbd2, hfr2⟩
      have hbd2' : Bld w2 B b (bytesV (pre ++ s.data.toList ++ 40 :: txtL (l.take 0))) q2 := by
        have h3 := bytesV_one (pre ++ s.data.toList) 40
        rw [← wr_take0, ← h3]; exact hbd2
      have HBD2 := hide hbd2'
      have HFR2 := hide (HFR1.out.trans hfr2)
      have K2 := hide (K1.out.bfr hfr2 hbox.1 (own_box hbox.2 HFR1.out))
      have c2 : w2.cell? ⟨w.heap.size, 1, none⟩ = some (.slice a l.length c) := K2.out.cell 1
      clear hbd2 hbd2' hfr2 c1
      go_wp2_with fail
      go_loopw [19] (fun i wr => WrInv (w.alloc (.cells #[.string s, .slice a l.length c] 25)) B b q0 pre s l i wr) (fun i wr => l.length - (intOf i).toNat)
      case atStart => exact ⟨0, q2, Nat.zero_le _, rfl, HBD2.out, HFR2.out⟩
      case round =>
        obtain ⟨k, q, hk, rfl, hbdk, hfrk⟩ := hrel
        have HBK := hide hbdk
        have HFK := hide hfrk
        have hwl := wr_len pre s l k HN.out hk
        have hBr : B ≤ wr.heap.size := by have := hfrk.2.2.2.1; simp at this; omega
        by_cases hlt : k < l.length
        · have hsr := (hs.later ((Below.refl w.heap.size w).alloc (Nat.le_refl _) (.cells #[.string s, .slice a l.length c] 25))).bfr hfrk (fun x hx => HBD.out.old (hX x hx))
          obtain ⟨bx, o, a', c', rfl, d0, d1, hx⟩ := hsr.get (Below.refl wr.heap.size wr) (fun _ _ h => h) k hlt
          have HX := hide hx
          have hwl2 := wr_len pre s l (k + 1) HN.out (by omega)
          clear hbdk hfrk hsr hx
          by_cases hk0 : k = 0
          · subst hk0
            simp only [Nat.zero_mul, Nat.add_zero] at d0 d1
            have HE := hide (wr_take1 pre s l hlt)
            have hln : (pre ++ s.data.toList ++ 40 :: txtL (l.take 0)).length + (txtL [l[0]]).length ≤ 900000000 := by
              rw [← HE.out] at hwl2; simp only [List.length_append] at hwl2 ⊢; omega
            clear hwl hwl2
            go_wp2_with fail
            refine (IH.out _ (List.getElem_mem hlt) _ q _ B b _ X (by exact HX.out.alloc _) hX (by exact HBK.out.alloc _) (by simp; omega) hln).mono ?_
            rintro e w5 ⟨rfl, q5, hbd5, hfr5⟩
            have HBD5 := hide hbd5
            have HFR5 := hide (HFK.out.trans ((BFr.of_below ((Below.refl wr.heap.size wr).alloc (Nat.le_refl _) _) b q).trans hfr5))
            clear hbd5 hfr5
            go_wp2_with fail
            go_roundw
            case rel => exact ⟨0 + 1, q5, by omega, by go_num, by rw [← HE.out]; exact HBD5.out, HFR5.out⟩
            case measure => simp [intOf]; omega
          · have hkp : 0 < k := by omega
            have HE := hide (wr_takeS pre s l k hkp hlt)
            have hln : (pre ++ s.data.toList ++ 40 :: txtL (l.take k) ++ ([44] : List UInt8)).length + (txtL [l[k]]).length ≤ 900000000 := by
              rw [← HE.out] at hwl2; simp only [List.length_append] at hwl2 ⊢; omega
            have hbk : (bytesV (pre ++ s.data.toList ++ 40 :: txtL (l.take k))).length ≤ 1000000000 := by rw [bytesV_len]; omega
            clear hwl hwl2 hk0
            go_wp2_with fail
            refine (writeByte_any B b _ q 44 _ (by exact HBK.out.alloc _) hbk (by simp; omega)).mono ?_
            rintro e w4 ⟨rfl, q4, hbd4, hfr4⟩
            have hbd4' : Bld w4 B b (bytesV (pre ++ s.data.toList ++ 40 :: txtL (l.take k) ++ ([44] : List UInt8))) q4 := by
              have h3 := bytesV_one (pre ++ s.data.toList ++ 40 :: txtL (l.take k)) 44
              rw [← h3]; exact hbd4
            have HX4 := hide ((HX.out.alloc (.cells #[.string l[k].name, .slice a' l[k].args.length c'] 25)).bfr hfr4 (fun x hx => HBK.out.old (hX x hx)))
            have hb4 := HBK.out.box
            have K4 := hide ((Blk.new wr #[.string l[k].name, .slice a' l[k].args.length c'] 25).bfr hfr4 hb4.1 hb4.2)
            have e0 : w4.cell? ⟨wr.heap.size, 0, none⟩ = some (.string l[k].name) := K4.out.cell 0
            have e1 : w4.cell? ⟨wr.heap.size, 1, none⟩ = some (.slice a' l[k].args.length c') := K4.out.cell 1
            have hB4 : B ≤ w4.heap.size := by have := hfr4.2.2.2.1; simp at this; omega
            have HBD4 := hide hbd4'
            have HFR4 := hide (HFK.out.trans ((BFr.of_below ((Below.refl wr.heap.size wr).alloc (Nat.le_refl _) _) b q).trans hfr4))
            clear hbd4 hbd4' hfr4 hb4
            go_wp2_with fail
            refine (IH.out _ (List.getElem_mem hlt) _ q4 _ B b _ X (by exact HX4.out) hX (by exact HBD4.out) hB4 hln).mono ?_
            rintro e w5 ⟨rfl, q5, hbd5, hfr5⟩
            have HBD5 := hide hbd5
            have HFR5 := hide (HFR4.out.trans hfr5)
            clear hbd5 hfr5
            go_wp2_with fail
            go_roundw
            case rel => exact ⟨k + 1, q5, by omega, by go_num, by rw [← HE.out]; exact HBD5.out, HFR5.out⟩
            case measure => simp [intOf]; omega
        · have htk : l.take k = l := List.take_of_length_le (by omega)
          have hbk : (bytesV (pre ++ s.data.toList ++ 40 :: txtL (l.take k))).length ≤ 1000000000 := by rw [bytesV_len]; omega
          rw [htk] at hbdk hbk
          have HBE := hide hbdk
          have HE := hide (wr_end pre s l HN.out)
          clear hbdk hfrk hwl htk
          go_wp2_with fail
          refine (writeByte_any B b _ q 41 _ (by exact HBE.out) hbk hBr).mono ?_
          rintro e w4 ⟨rfl, q4, hbd4, hfr4⟩
          have hbd4' : Bld w4 B b (bytesV (pre ++ txtL [(⟨s, l⟩ : Tm)])) q4 := by
            have h3 := bytesV_one (pre ++ s.data.toList ++ 40 :: txtL l) 41
            rw [← HE.out, ← h3]; exact hbd4
          have HBD4 := hide hbd4'
          have HFR4 := hide (HW0.out.trans (HFK.out.trans hfr4))
          clear hbd4 hbd4' hfr4
          go_wp2_with fail
          go_end0
          exact ⟨rfl, q4, HBD4.out, HFR4.out⟩
#print axioms write_any
end Go.Proofs.YteghhdogmdpbpakGreat


/- Walks: the variables of a term, as the program gathers them. -/
namespace Go.Proofs.YteghhdogmdpbpakGreat
open Go.RowKit
set_option linter.unusedSimpArgs false
set_option linter.unusedVariables false

theorem Sl.grown {w w' : World} {X : Nat → Prop} {a : Option Addr} {l : List Tm} {r : Option Nat} (h : Sl w X a l) (hg : w.grownBy w' r) (hX : ∀ b, X b → some b ≠ r) : Sl w' X a l := by
  have h1 : Sl w (fun b => X b ∧ b < w.heap.size) a l := h.mono fun b h1 h2 => ⟨h1, h2⟩
  have h2 : Sl w' (fun b => X b ∧ b < w.heap.size) a l := h1.kept fun b hx => hg.block b hx.2 (hX b hx.1)
  exact h2.mono fun b hx _ => hx.1

theorem err_name {s : ByteArray} {l : List Tm} (h : errL [(⟨s, l⟩ : Tm)] = 0) : nameB s = true ∧ errL l = 0 := by
  simp only [errL] at h
  split at h
  · refine ⟨by assumption, ?_⟩
    split at h
    · exact absurd h (by decide)
    · split at h
      · assumption
      · exact h
  · exact absurd h (by decide)

theorem err_mem {l : List Tm} (h : errL l = 0) (k : Nat) (hk : k < l.length) : errL [l[k]] = 0 := by
  induction l generalizing k with
  | nil => simp at hk
  | cons t r ih =>
    rw [errL_cons] at h
    by_cases h0 : errL [t] = 0
    · rw [if_pos h0] at h
      cases k with
      | zero => exact h0
      | succ k => exact ih h k (by simpa using hk)
    · rw [if_neg h0] at h; exact absurd h h0

theorem NamesAt.lv {w0 w1 : World} {B : Nat} {q0 q1 : Value} {acc1 : List ByteArray} (h : NamesAt w0 B q0 acc1 q1 w1) : LV Value.string w1 (fun b => B ≤ b) q1 acc1 := LV.of_own h.1

theorem NamesAt.refl {w : World} {B : Nat} {q : Value} {acc : List ByteArray} (h : w.ownsRow B 9 1 q acc.length (acc.map Value.string)) : NamesAt w B q acc q w :=
  ⟨h, grown_of_below (Below.refl _ _) _, fun _ h => Or.inl h⟩

theorem names_append {w : World} {B : Nat} {q : Value} {acc : List ByteArray} (s : ByteArray) (h : w.ownsRow B 9 1 q acc.length (acc.map Value.string)) (hB : B ≤ w.heap.size) (hn : acc.length ≤ 3000000) (A : Nat) (hA : w.heap.size = A) :
    ∃ q2 w3, (Builtin.append_ #[37, 37] 37 #[q, .slice (some ⟨A, 0, none⟩) 1 1]).run Tryz.prog (w.alloc (.cells #[.string s] 9)) = .ok q2 w3 ∧ NamesAt w B q (acc ++ [s]) q2 w3 := by
  subst hA
  obtain ⟨i0, hi, hz0, hz1, hz2⟩ := info_parts Tryz.infoStr
  obtain ⟨g, cap, w3, hr, ho, hg, hat, hlt⟩ := run_append_lies (P := Tryz.prog) (w := w.alloc (.cells #[.string s] 9)) 37 37 B 9 i0 _ 1 16 Tryz.underlying37 hi hz0 hz1 hz2 rfl (by decide) q acc.length (acc.map Value.string) (h.alloc _)
    ⟨w.heap.size, 0, none⟩ 1 1 [.string s] rfl (cell_one_new _ _ _) (fun x hx => by simp at hx; subst hx; rfl) (by decide) (by unfold maxLen; omega) (by omega) (by simp; omega) _ rfl
  refine ⟨_, w3, hr, by simpa using ho, ?_, fun k hk => ?_⟩
  · exact grown_trans (grown_of_below ((Below.refl _ _).alloc (Nat.le_refl _) _) q.ownBlock) hg (fun k hk => Or.inl hk)
  · simp [Value.ownBlock] at hk
    subst hk
    rcases hat with e | e
    · exact Or.inl e
    · right; simp at e; omega

theorem names_start {w : World} {B : Nat} {q : Value} {acc : List ByteArray} (h : w.ownsRow B 9 1 q acc.length (acc.map Value.string)) (o : Obj) : NamesAt w B q acc q (w.alloc o) := (NamesAt.refl h).below ((Below.refl _ _).alloc (Nat.le_refl _) o)

/-- The row behind the box of the parameter. -/
theorem names_boxed {w w3 : World} {B : Nat} {q q2 : Value} {acc acc2 : List ByteArray} {o : Obj} (h : w.ownsRow B 9 1 q acc.length (acc.map Value.string)) (h2 : NamesAt (w.alloc o) B q acc2 q2 w3) : NamesAt w B q acc2 q2 w3 := (names_start h o).step h2

end Go.Proofs.YteghhdogmdpbpakGreat


/- Walks: Text. -/
namespace Go.Proofs.YteghhdogmdpbpakGreat
open Go.RowKit
set_option linter.unusedSimpArgs false
set_option linter.unusedVariables false
set_option maxRecDepth 8000

theorem name_le {s : ByteArray} (h : nameB s = true) : s.size ≤ 8 := by
  simp [nameB] at h; omega

/-- A text is not long. -/
theorem txt_len (l : List Tm) (h : errL l = 0) : (txtL l).length ≤ 11 * sizeL l := by
  induction l using Tm.indL with
  | h0 => simp [txtL]
  | h s l r ihl ihr =>
    rw [errL_cons] at h
    by_cases h0 : errL [(⟨s, l⟩ : Tm)] = 0
    · rw [if_pos h0] at h
      obtain ⟨hn, hl⟩ := err_name h0
      have h1 := ihl hl
      have h2 := ihr h
      have h3 := name_le hn
      have h4 : s.data.toList.length = s.size := by rw [Array.length_toList]; rfl
      simp only [txtL, sizeL, List.length_append]
      split <;> split <;> simp only [List.length_nil, List.length_cons, List.length_append] <;> omega
    · rw [if_neg h0] at h; exact absurd h h0

theorem bytes_cells (l : List UInt8) : bytesV l = Lib.byteCells l := rfl

set_option maxHeartbeats 1000000 in
theorem ktext_any (t : Tm) (v : Value) (w : World) (X : Nat → Prop) (hv : TV w X v t) (hlen : (txtL [t]).length ≤ 1000000) :
    Calls Tryz.prog 65 #[v] w fun e w' => e = .returned (.string ⟨(txtL [t]).toArray⟩) ∧ Below w.heap.size w w' := by
  obtain ⟨X', hX, hv'⟩ : ∃ X' : Nat → Prop, (∀ b, X' b → b < w.heap.size) ∧ TV w X' v t := ⟨fun b => X b ∧ b < w.heap.size, fun _ h => h.2, hv.mono fun b h1 h2 => ⟨h1, h2⟩⟩
  clear hv
  obtain ⟨a, c, rfl, hs⟩ := hv'
  have HV := hide (show TV w X' (.agg #[.string t.name, .slice a t.args.length c]) t from ⟨a, c, rfl, hs⟩)
  clear hs
  generalize hR : (.string ⟨(txtL [t]).toArray⟩ : Value) = R
  have HR := hide hR
  clear hR
  have K1 := hide (Blk.new w #[.string t.name, .slice a t.args.length c] 25)
  have HB := hide ((Below.refl w.heap.size w).alloc (Nat.le_refl _) (.cells #[.string t.name, .slice a t.args.length c] 25))
  have c0 : ∀ o, ((w.alloc (.cells #[.string t.name, .slice a t.args.length c] 25)).alloc o).cell? ⟨w.heap.size, 0, none⟩ = some (.string t.name) := fun o => (K1.out.alloc o).cell 0
  have c1 : ∀ o, ((w.alloc (.cells #[.string t.name, .slice a t.args.length c] 25)).alloc o).cell? ⟨w.heap.size, 1, none⟩ = some (.slice a t.args.length c) := fun o => (K1.out.alloc o).cell 1
  have HBD : Hid (Bld ((w.alloc (.cells #[.string t.name, .slice a t.args.length c] 25)).alloc (.cells #[.pointer none, .slice none 0 0] 143)) (w.heap.size + 1) (w.heap.size + 1) (bytesV []) (.slice none 0 0)) := ⟨Nat.le_refl _, ⟨_, Or.inl rfl, by have h := heap_alloc_new (w.alloc (.cells #[.string t.name, .slice a t.args.length c] 25)) (.cells #[.pointer none, .slice none 0 0] 143); simpa using h⟩, World.ownsRow_nil _ _ _ _⟩
  go_enter Tryz.func65, Tryz.ntmps65
  go_wp2_with fail
  have hz1 : (w.alloc (.cells #[.string t.name, .slice a t.args.length c] 25)).heap.size = w.heap.size + 1 := by simp
  generalize (w.alloc (.cells #[.string t.name, .slice a t.args.length c] 25)) = w1 at *
  rw [← hz1] at HBD ⊢
  clear hz1
  refine (write_any t _ _ [] w1.heap.size w1.heap.size _ X' (by exact (HV.out.later HB.out).alloc _) (fun b hb => by have := hX b hb; have := HB.out.size; omega) (by exact HBD.out) (by simp) (by simp; omega)).mono ?_
  rintro e w3 ⟨rfl, q3, hbd3, hfr3⟩
  have HISB : Hid (Lib.IsBuilder 143 5 w1.heap.size w1.heap.size (Lib.byteCells (txtL [t])) w3) := by
    have h1 : Bld w3 w1.heap.size w1.heap.size (Lib.byteCells (txtL [t])) q3 := by simpa [bytes_cells] using hbd3
    have hne := bd_ne h1
    obtain ⟨g1, ⟨p, hp, hb⟩, hown⟩ := h1
    rcases hp with rfl | rfl
    · exact Or.inl ⟨g1, q3, hb, hown, hne⟩
    · exact Or.inr ⟨g1, q3, hb, hown, hne⟩
  have hsz3 : w1.heap.size ≤ w3.heap.size := by have := hfr3.2.2.2.1; simp at this; omega
  have HB3 : Hid (Below w.heap.size w w3) := by
    refine HB.out.trans ⟨hfr3.1, hfr3.2.1, hfr3.2.2.1, hsz3, fun k hk => ?_⟩
    have hk1 : k < w1.heap.size := Nat.lt_of_lt_of_le hk HB.out.size
    rw [hfr3.2.2.2.2.1 k (by simp; omega) (by omega) (by simp [Value.ownBlock]), Below.heap_alloc _ _ _ hk1]
  clear hbd3 hfr3 c0 c1
  go_wp2_with fail
  refine (Tryz.Builder_String_any w1.heap.size w1.heap.size (txtL [t]) _ HISB.out hsz3).mono ?_
  rintro e w4 ⟨rfl, hb4⟩
  go_wp2_with fail
  go_ret
  exact ⟨by rw [← HR.out]; rfl, HB3.out.trans (hb4.mono HB.out.size)⟩

end Go.Proofs.YteghhdogmdpbpakGreat

/- Walks: terms get numbers. -/
namespace Go.Proofs.YteghhdogmdpbpakGreat
open Go.RowKit
set_option linter.unusedSimpArgs false
set_option linter.unusedVariables false
set_option maxRecDepth 8000

theorem Tryz.infoItem : (Tryz.prog.info? 76).map (fun i => (i.zero, i.size, i.bytes)) = some (some (.agg #[.string ByteArray.empty, .slice none 0 0, .int .i64 0, .int .i64 0]), 4, 56) := by kernel_rfl
theorem cell_4new (w : World) (c0 c1 c2 c3 : Value) (T : Nat) : ∀ j u, [c0, c1, c2, c3][j]? = some u → (w.alloc (.cells #[c0, c1, c2, c3] T)).cell? ((⟨w.heap.size, 0, none⟩ : Addr).add j) = some u :=
  World.news_of_block (cs := #[c0, c1, c2, c3]) (heap_alloc_new w _)
/-- One appended to a row of numbered terms. -/
theorem items_append {w : World} {N : Nat} {S : List Tm} {v : Value} {l : List Tm} {xs : List Value} (h : IRow w N 76 S v l xs) (hN : N ≤ w.heap.size) {M : Nat} (hNM : N ≤ M) {t : Tm} {a : Option Addr} {c : Nat} (hM : ∀ b, some b = v.ownBlock → b < M)
    (ht : IV w (fun b => M ≤ b) S (.agg #[.string t.name, .slice a t.args.length c, .int .i64 (numT t S), .int .i64 (sizeL [t])]) t) (hn : l.length ≤ 1000000) (A : Nat) (hA : w.heap.size = A) :
    ∃ g cap w3 xs2, (Builtin.append_ #[74, 74] 74 #[v, .slice (some ⟨A, 0, none⟩) 1 1]).run Tryz.prog (w.alloc (.cells #[.string t.name, .slice a t.args.length c, .int .i64 (numT t S), .int .i64 (sizeL [t])] 76)) = .ok (.slice (some ⟨g, 0, none⟩) (l.length + 1) cap) w3 ∧ IRow w3 N 76 S (.slice (some ⟨g, 0, none⟩) (l.length + 1) cap) (l ++ [t]) xs2 ∧
      (w.alloc (.cells #[.string t.name, .slice a t.args.length c, .int .i64 (numT t S), .int .i64 (sizeL [t])] 76)).grownBy w3 v.ownBlock ∧ (v.ownBlock = some g ∨ w.heap.size ≤ g) := by
  subst hA
  obtain ⟨i0, hi, hz0, hz1, hz2⟩ := info_parts Tryz.infoItem
  obtain ⟨g, cap, w3, hr, ho, hg, hat, hlt⟩ := run_append_lies (P := Tryz.prog) (w := w.alloc (.cells #[.string t.name, .slice a t.args.length c, .int .i64 (numT t S), .int .i64 (sizeL [t])] 76)) 74 74 N 76 i0 _ 4 56 Tryz.underlying74 hi hz0 hz1 hz2 rfl (by decide) v l.length xs (h.own.alloc _)
    ⟨w.heap.size, 0, none⟩ 1 1 [.string t.name, .slice a t.args.length c, .int .i64 (numT t S), .int .i64 (sizeL [t])] rfl (cell_4new _ _ _ _ _ _) (fun y hy => by simp at hy; rcases hy with rfl | rfl | rfl | rfl <;> rfl) (by decide) (by unfold maxLen; omega) (by omega) (by simp; omega) _ rfl
  refine ⟨g, cap, w3, _, hr, h.push hNM hM ht _ rfl ho hg hat, hg, ?_⟩
  rcases hat with h1 | h1
  · exact Or.inl h1
  · right; simp at h1; omega
theorem map_len {w : World} {r : Nat} {L : List (ByteArray × Value)} (h : MapAt w r L) {P : Program} {T kt et ty : TypeId} (hm : P.underlying T = some (.map kt et)) : (Builtin.len_ #[T] ty #[.map (some r)]).run P w = .ok (.int .i64 L.length) w := by
  obtain ⟨es, clk, hb, he, _⟩ := h
  have : es.size = L.length := by simpa using congrArg List.length he
  simp [Builtin.len_, run_underlying hm, MapKept.run_getObj_map hb, goInt, Result.andThen, this]
/-- So many of those below have got numbers. -/
def NumInv (r B O : Nat) (t : Tm) (a : Option Addr) (c : Nat) (S1 : List Tm) (w : World) (i : Value) (wr : World) : Prop :=
  ∃ (k : Nat) (R0 S2 : List Tm) (vr : Value) (xs : List Value), k ≤ t.args.length ∧ i = .int .i64 (k : Int) ∧ ((∃ R, S2 = S1 ++ R) ∧ S2.length ≤ S1.length + sizeL (t.args.take k)) ∧ (∀ x ∈ S2, errL [x] = 0) ∧ Blk wr O #[.string t.name, vr, .int .i64 (numT t S1), .int .i64 (1 + sizeL (t.args.take k))] 76 ∧
    IRow wr (O + 1) 76 S2 vr (t.args.take k) xs ∧ MapAt wr r (numL 0 S2) ∧ Blk wr B #[.string t.name, .slice a t.args.length c] 25 ∧ Blk wr (B + 1) #[.string ⟨#[]⟩, .slice none 0 0, .int .i64 0, .int .i64 0] 76 ∧ Ex r w wr

set_option maxHeartbeats 4000000 in
theorem number_any (t : Tm) : ∀ (S : List Tm) (r : Nat) (v : Value) (w : World) (X : Nat → Prop), errL [t] = 0 → sizeL [t] ≤ 20000 → (∀ x ∈ S, errL [x] = 0) → MapAt w r (numL 0 S) → TV w X v t → (∀ b, X b → b ≠ r) →
    Calls Tryz.prog 48 #[v, .map (some r)] w fun e w' => ∃ S' v', e = .returned v' ∧ ((∃ R, S' = S ++ R) ∧ S'.length ≤ S.length + sizeL [t]) ∧ (∀ x ∈ S', errL [x] = 0) ∧ MapAt w' r (numL 0 S') ∧ IV w' (fun b => w.heap.size ≤ b) S' v' t ∧ Ex r w w' := by
  induction t using Tm.ind with
  | h s l ih =>
    intro S r v w X he hsz hS hM hv hXr
    obtain ⟨a, c, rfl, hs⟩ := hv
    have IH := hide ih
    have HS := hide hs
    have hl := hs.1
    have hrl := hM.lt
    have hr2 : r < w.heap.size := hrl
    have HERR : Hid (∀ k (h : k < l.length), errL [l[k]] = 0) := fun k h => err_mem (errL_parts0 he) k h
    have hszl : sizeL [(⟨s, l⟩ : Tm)] = 1 + sizeL l := by simp [sizeL]
    have HSL : Hid (sizeL l + 1 ≤ 20000) := by unfold Hid; omega
    have HSZ : Hid (∀ k (h : k < l.length), sizeL [l[k]] ≤ sizeL l) := fun k h => by
      have := size_arg (t := ⟨s, l⟩) (List.getElem_mem h)
      omega
    have HTX := hide (txt_len [(⟨s, l⟩ : Tm)] he)
    have HE := hide he
    have HT := hide (show TV w X (.agg #[.string s, .slice a l.length c]) (⟨s, l⟩ : Tm) from ⟨a, c, rfl, hs⟩)
    have HMP := hide hM
    have ESS := hide hS
    clear ih hs hM hS
    go_enter Tryz.func48, Tryz.ntmps48
    go_wp2_with fail
    refine (ktext_any (⟨s, l⟩ : Tm) _ _ X (by exact (HT.out.alloc _).alloc _) (by have := HTX.out; omega)).mono ?_
    rintro e w1 ⟨rfl, hb1⟩
    have B1 : Hid (Below w.heap.size w w1) := ((((Below.refl w.heap.size w).alloc (Nat.le_refl _) (.cells #[.string s, .slice a l.length c] 25)).alloc (by simp) (.cells #[.string ⟨#[]⟩, .slice none 0 0, .int .i64 0, .int .i64 0] 76)).trans (hb1.mono (by simp; omega)))
    have KT : Hid (Blk w1 w.heap.size #[.string s, .slice a l.length c] 25) := ((Blk.new w _ _).alloc _).below hb1 (by simp; omega)
    have KQ : Hid (Blk w1 (w.heap.size + 1) #[.string ⟨#[]⟩, .slice none 0 0, .int .i64 0, .int .i64 0] 76) := by
      have h := Blk.new (w.alloc (.cells #[.string s, .slice a l.length c] 25)) #[.string ⟨#[]⟩, .slice none 0 0, .int .i64 0, .int .i64 0] 76
      have e : (w.alloc (.cells #[.string s, .slice a l.length c] 25)).heap.size = w.heap.size + 1 := by simp
      rw [e] at h
      exact h.below hb1 (by simp)
    have M1 := hide (HMP.out.below B1.out hrl)
    have E1 : Hid (Ex r w w1) := ⟨B1.out.os, B1.out.tape, B1.out.output, B1.out.size, fun k hk _ => B1.out.block k hk⟩
    clear hb1 HMP
    have hget := numL_get HE.out S 0 ESS.out
    have hz := Tryz.zeroValue3 w1
    by_cases hin : numT (⟨s, l⟩ : Tm) S < S.length
    · rw [if_pos hin] at hget
      have hlook : (Instr.lookup 68 (.map (some r)) (.string ⟨(txtL [(⟨s, l⟩ : Tm)]).toArray⟩) true).run Tryz.prog w1 = .ok (.tuple #[.int .i64 (numT (⟨s, l⟩ : Tm) S), .bool true]) w1 := by
        rw [run_look (P := Tryz.prog) Tryz.underlying68 Tryz.underlying9 hz M1.out _]
        rw [show (⟨(txtL [(⟨s, l⟩ : Tm)]).toArray⟩ : ByteArray) = txtB ⟨s, l⟩ from rfl, hget]
        simp
      clear hget hz
      obtain ⟨S1, hS1⟩ : ∃ S1, S1 = S := ⟨S, rfl⟩
      obtain ⟨w2, hw2⟩ : ∃ w2, w2 = w1 := ⟨w1, rfl⟩
      obtain ⟨NN, hNN⟩ : ∃ NN : Int, NN = numT (⟨s, l⟩ : Tm) S := ⟨_, rfl⟩
      rw [← hNN, ← hw2] at hlook
      have HNN : Hid ((numT (⟨s, l⟩ : Tm) S1 : Int) = NN) := by unfold Hid; rw [hS1, hNN]
      have MEM : Hid ((⟨s, l⟩ : Tm) ∈ S1) := by unfold Hid; rw [hS1]; exact numT_lt.1 hin
      have GS : Hid ((∃ R, S1 = S ++ R) ∧ S1.length ≤ S.length + 1) := ⟨⟨[], by rw [hS1]; simp⟩, by rw [hS1]; omega⟩
      have ES : Hid (∀ x ∈ S1, errL [x] = 0) := by unfold Hid; rw [hS1]; exact ESS.out
      have M2 : Hid (MapAt w2 r (numL 0 S1)) := by unfold Hid; rw [hS1, hw2]; exact M1.out
      have K2 : Hid (Blk w2 w.heap.size #[.string s, .slice a l.length c] 25) := by unfold Hid; rw [hw2]; exact KT.out
      have KR : Hid (Blk w2 (w.heap.size + 1) #[.string ⟨#[]⟩, .slice none 0 0, .int .i64 0, .int .i64 0] 76) := by unfold Hid; rw [hw2]; exact KQ.out
      have E2 : Hid (Ex r w w2) := by unfold Hid; rw [hw2]; exact E1.out
      clear M1 KT KQ E1 B1 hS1 hNN hin
      subst hw2
      have Q0 : ∀ o, (w2.alloc o).cell? ⟨w.heap.size, 0, none⟩ = some (.string s) := fun o => (K2.out.alloc o).cell 0
      have Q1 : ∀ o, (w2.alloc o).cell? ⟨w.heap.size, 1, none⟩ = some (.slice a l.length c) := fun o => (K2.out.alloc o).cell 1
      have Q2 : w2.cell? ⟨w.heap.size, 0, none⟩ = some (.string s) := K2.out.cell 0
      have Q3 : w2.cell? ⟨w.heap.size, 1, none⟩ = some (.slice a l.length c) := K2.out.cell 1
      go_wp2_with fail
      have HINV0 : Hid (NumInv r w.heap.size w2.heap.size (⟨s, l⟩ : Tm) a c S1 w (.int .i64 0) (w2.alloc (.cells #[.string s, .slice none 0 0, .int .i64 NN, .int .i64 1] 76))) := by
        refine ⟨0, [], S1, .slice none 0 0, [], Nat.zero_le _, rfl, ⟨⟨[], by simp⟩, by simp⟩, ES.out, by have h := Blk.new w2 #[.string s, .slice none 0 0, .int .i64 NN, .int .i64 1] 76; simpa [HNN.out, sizeL] using h, IRow.start _ _ _ _, M2.out.kept (Below.heap_alloc _ _ _ M2.out.lt), K2.out.alloc _, KR.out.alloc _, E2.out.alloc _⟩
      generalize w2.alloc (.cells #[.string s, .slice none 0 0, .int .i64 NN, .int .i64 1] 76) = w3 at *
      clear Q0 Q1 Q2 Q3
      have hO : w.heap.size + 2 ≤ w2.heap.size := by have := KR.out.lt; omega
      go_loopw [34] (fun i wr => NumInv r w.heap.size w2.heap.size (⟨s, l⟩ : Tm) a c S1 w i wr) (fun i wr => l.length - (intOf i).toNat)
      case atStart => exact HINV0.out
      case round =>
        clear HINV0
        obtain ⟨k, R0, S2, vr, xs, hk, rfl, ⟨⟨R, hS2⟩, hSz⟩, hES, hO1, hrow, hM, hT, hRb, hE⟩ := hrel
        have XO := hide hO1
        have XROW := hide hrow
        have XM := hide hM
        have XT := hide hT
        have XR := hide hRb
        have XE := hide hE
        have XES := hide hES
        have c1 : wr.cell? ⟨w.heap.size, 1, none⟩ = some (.slice a l.length c) := hT.cell 1
        by_cases hlt : k < l.length
        · have hlt2 : (k : Int) < (l.length : Int) := by omega
          have hSlk : Sl wr X a l := HS.out.exq (ExQ.ofEx (Q := fun b => b = r) hE rfl) (fun b hb => hXr b hb)
          obtain ⟨b, o, a', c', rfl, d0, d1, hx⟩ := hSlk.get (Below.refl _ _) (fun _ _ h => h) k hlt
          have HX := hide hx
          clear hx hSlk hO1 hrow hM hT hRb hE hES
          go_wp2_with fail
          refine (IH.out l[k] (List.getElem_mem hlt) S2 r _ _ X (HERR.out k hlt) (by have := HSZ.out k hlt; omega) XES.out (XM.out.kept (Below.heap_alloc _ _ _ XM.out.lt)) (by exact HX.out.alloc _) hXr).mono ?_
          rintro e w4 ⟨S3, v3, rfl, ⟨⟨R3, hS3⟩, hSz3⟩, hES3, hM3, hIV, hE3⟩
          obtain ⟨hmem3, a3, c3, rfl, hsl3⟩ := hIV
          have hOw : w2.heap.size < wr.heap.size := XO.out.lt
          have hE4 : Ex r wr w4 := ((Ex.refl r wr).alloc _).trans hE3
          have hrO : r ≠ w2.heap.size := by have := hr2; omega
          have hwz := hE4.size
          have hwz3 : wr.heap.size + 1 ≤ w4.heap.size := by have := hE3.size; simpa using this
          have HS3 := hide hS3
          have HS2 := hide hS2
          clear hS2
          have YO := hide (XO.out.ex hE4 (fun e => hrO e.symm))
          have YT := hide (XT.out.ex hE4 (by omega))
          have YR := hide (XR.out.ex hE4 (by omega))
          have YE := hide (XE.out.trans hE4)
          have YM := hide hM3
          have YES := hide hES3
          have YI : Hid (IV w4 (fun b => wr.heap.size + 1 ≤ b) S3 (.agg #[.string l[k].name, .slice a3 l[k].args.length c3, .int .i64 (numT l[k] S3), .int .i64 (sizeL [l[k]])]) l[k]) := ⟨hmem3, a3, c3, rfl, hsl3.mono fun b hb _ => by simp at hb; omega⟩
          have YROW : Hid (IRow w4 (w2.heap.size + 1) 76 S3 vr (l.take k) xs) := by
            unfold Hid
            rw [HS3.out]
            exact (XROW.out.kept (fun b hb1 hb2 => hE4.block b hb2 (by omega)) hwz hE4.os hE4.tape hE4.output).more R3
          clear hM3 hES3 hsl3 hE3 hE4 hS3
          have hlk : (l.take k).length = k := by simp; omega
          have hl2 : l.length ≤ 20000 := by have := sizeL_len l; have := HSL.out; omega
          have hvlt : ∀ b, some b = vr.ownBlock → b < wr.heap.size + 1 := fun b hb => by have := (XROW.out.own.lt b hb.symm).2; omega
          obtain ⟨g5, cap5, w5, xs5, hrun, hrow5, hg5, hvb5⟩ := items_append (t := l[k]) (a := a3) (c := c3) (YROW.out.kept (w' := w4.alloc (.cells #[.string l[k].name, .slice a3 l[k].args.length c3, .int .i64 (numT l[k] S3), .int .i64 (sizeL [l[k]])] 76)) (fun b _ hb => Below.heap_alloc _ _ _ hb) (by simp) rfl rfl rfl) (by simp; omega) (M := wr.heap.size + 1) (by omega) hvlt (YI.out.alloc _) (by omega) (w4.heap.size + 1) (by simp)
          rw [hlk] at hrun hrow5
          have HRUN := hide hrun
          have ZO : Blk w5 w2.heap.size #[.string s, vr, .int .i64 (numT (⟨s, l⟩ : Tm) S1), .int .i64 (1 + sizeL (l.take k))] 76 := ((YO.out.alloc _).alloc _).grown hg5 (YROW.out.ne (by omega))
          have ZX : Blk w5 w4.heap.size #[.string l[k].name, .slice a3 l[k].args.length c3, .int .i64 (numT l[k] S3), .int .i64 (sizeL [l[k]])] 76 := ((Blk.new w4 _ _).alloc _).grown hg5 (fun e => by have := hvlt _ e; omega)
          have z0 : w5.cell? ⟨w2.heap.size, 1, none⟩ = some vr := ZO.cell 1
          have z1 : w5.cell? ⟨w2.heap.size, 3, none⟩ = some (.int .i64 (1 + sizeL (l.take k))) := ZO.cell 3
          have z2 : w5.cell? ⟨w4.heap.size, 3, none⟩ = some (.int .i64 (sizeL [l[k]])) := ZX.cell 3
          have zf := ZO.frozen
          have hst := sizeL_take l k hlt
          have hsb : sizeL (l.take (k + 1)) ≤ 20000 := by have h1 := sizeL_append (l.take (k + 1)) (l.drop (k + 1)); rw [List.take_append_drop] at h1; have := HSL.out; omega
          have y1 : ∀ o, (w4.alloc o).cell? ⟨w2.heap.size, 1, none⟩ = some vr := fun o => (YO.out.alloc o).cell 1
          have YS : sizeL [l[k]] ≤ 20000 := by omega
          have HFIN : Hid (NumInv r w.heap.size w2.heap.size (⟨s, l⟩ : Tm) (some ⟨b, o, none⟩) c S1 w (.int .i64 ((k + 1 : Nat) : Int)) ((w5.setCell ⟨w2.heap.size, 1, none⟩ (.slice (some ⟨g5, 0, none⟩) (k + 1) cap5)).setCell ⟨w2.heap.size, 3, none⟩ (.int .i64 (1 + (sizeL (l.take k) : Int) + (sizeL [l[k]] : Int))))) := by
            have hgs := hg5.size
            refine ⟨k + 1, R0, S3, (.slice (some ⟨g5, 0, none⟩) (k + 1) cap5), xs5, by show k + 1 ≤ l.length; omega, rfl, ⟨⟨R ++ R3, by rw [HS3.out, HS2.out, List.append_assoc]⟩, by show S3.length ≤ S1.length + sizeL (l.take (k + 1)); omega⟩, YES.out, ?_, ?_, ?_, ?_, ?_, ?_⟩
            · have := (ZO.set 1 (.slice (some ⟨g5, 0, none⟩) (k + 1) cap5)).set 3 (.int .i64 (1 + (sizeL (l.take k) : Int) + (sizeL [l[k]] : Int)))
              simpa [hst, Int.add_assoc] using this
            · have e : l.take (k + 1) = l.take k ++ [l[k]] := List.take_succ_eq_append_getElem hlt
              rw [e]
              exact (hrow5.setCell (by omega) _).setCell (by omega) _
            · have hMl := YM.out.lt
              refine YM.out.kept ?_
              rw [Below.heap_setCell _ _ _ _ (by simpa using hrO), Below.heap_setCell _ _ _ _ (by simpa using hrO), hg5.block r (by simp; omega) (fun e => by have := (YROW.out.own.lt r e.symm).1; omega), Below.heap_alloc _ _ _ (by simp; omega), Below.heap_alloc _ _ _ hMl]
            · exact ((((YT.out.alloc _).alloc _).grown hg5 (YROW.out.ne (by omega))).setOther _ _ (by omega)).setOther _ _ (by omega)
            · exact ((((YR.out.alloc _).alloc _).grown hg5 (YROW.out.ne (by omega))).setOther _ _ (by omega)).setOther _ _ (by omega)
            · exact ((((YE.out.alloc _).alloc _).grown hg5 (fun j hj => by have := (YROW.out.own.lt j hj).1; omega)).setNew (by omega) _ _).setNew (by omega) _ _
          have hsk : sizeL (l.take k) ≤ 20000 := by omega
          clear hrun hrow5 hg5 hvb5 ZX hst
          have y3 : ∀ v, (w5.setCell ⟨w2.heap.size, 1, none⟩ v).cell? ⟨w2.heap.size, 3, none⟩ = some (.int .i64 (1 + sizeL (l.take k))) := fun v => by rw [World.cell?_setCell_other _ _ _ _ (by simp)]; exact z1
          have y4 : ∀ v, (w5.setCell ⟨w2.heap.size, 1, none⟩ v).cell? ⟨w4.heap.size, 3, none⟩ = some (.int .i64 (sizeL [l[k]])) := fun v => by rw [World.cell?_setCell_other _ _ _ _ (by simp)]; exact z2
          have zf2 := fun v => (ZO.set 1 v).frozen
          go_wp2_with (at_builtin; refine wpList_append_eq rfl _ _ _ _ rfl rfl rfl HRUN.out ?_)
          go_roundw
          case rel =>
            have h := HFIN.out
            have e : ((k + 1 : Nat) : Int) = (k : Int) + 1 := by omega
            rw [e] at h
            exact h
          case measure => simp [intOf]; omega
        · have htk : l.take k = l := List.take_of_length_le (by omega)
          rw [htk] at hO1 hrow
          obtain ⟨a9, c9, hv9, hs9⟩ := hrow.sl
          subst hv9
          have p0 := hO1.cell 0
          have p1 := hO1.cell 1
          have p2 := hO1.cell 2
          have p3 := hO1.cell 3
          have r0 := hRb.cell 0
          have r1 := hRb.cell 1
          have r2 := hRb.cell 2
          have r3 := hRb.cell 3
          have rf := hRb.frozen
          simp only [List.getElem?_toArray, List.getElem?_cons_zero, List.getElem?_cons_succ] at p0 p1 p2 p3 r0 r1 r2 r3
          have HS9 := hide hs9
          have HZN : Hid (sizeL [(⟨s, l⟩ : Tm)] = 1 + sizeL l) := by unfold Hid; simp [sizeL]
          have HSZ2 : Hid (S2.length ≤ S1.length + sizeL l) := by unfold Hid; simpa [htk] using hSz
          have HZ : Hid ((1 : Int) + sizeL l = sizeL [(⟨s, l⟩ : Tm)]) := by unfold Hid; simp [sizeL]
          have HN : Hid (numT (⟨s, l⟩ : Tm) S1 = numT (⟨s, l⟩ : Tm) S2) := by unfold Hid; rw [hS2, numT_more R MEM.out]
          have HMM : Hid ((⟨s, l⟩ : Tm) ∈ S2) := by unfold Hid; rw [hS2]; exact List.mem_append_left _ MEM.out
          clear hs9 htk hO1 hrow hM hT hRb hE hES
          go_wp2_with fail
          refine bodyPost_ret (v := .agg #[.string s, .slice a9 l.length c9, .int .i64 (numT (⟨s, l⟩ : Tm) S1), .int .i64 (1 + sizeL l)]) (by simp [results, Tryz.results48, go_sem, World.cell?_setCell_same, World.cell?_setCell_other, r0, r1, r2, r3]) rfl ?_
          refine ⟨S2, _, rfl, ?_, XES.out, ?_, ?_, ?_⟩
          · obtain ⟨⟨R1, hR1⟩, hR2⟩ := GS.out
            refine ⟨⟨R1 ++ R, by rw [hS2, hR1, List.append_assoc]⟩, ?_⟩
            have := HZN.out
            have h3 : S2.length ≤ S1.length + sizeL l := HSZ2.out
            omega
          · refine XM.out.kept ?_
            have hne : r ≠ w.heap.size + 1 := by omega
            rw [Below.heap_setCell _ _ _ _ (by simpa using hne), Below.heap_setCell _ _ _ _ (by simpa using hne), Below.heap_setCell _ _ _ _ (by simpa using hne), Below.heap_setCell _ _ _ _ (by simpa using hne)]
          · refine ⟨HMM.out, a9, c9, by rw [HZ.out, HN.out], ?_⟩
            refine (HS9.out.kept fun b hb => ?_).mono fun b hb _ => by omega
            have hne : b ≠ w.heap.size + 1 := by omega
            rw [Below.heap_setCell _ _ _ _ (by simpa using hne), Below.heap_setCell _ _ _ _ (by simpa using hne), Below.heap_setCell _ _ _ _ (by simpa using hne), Below.heap_setCell _ _ _ _ (by simpa using hne)]
          · exact (((XE.out.setNew (by omega) _ _).setNew (by omega) _ _).setNew (by omega) _ _).setNew (by omega) _ _
    · rw [if_neg hin] at hget
      have hlook : (Instr.lookup 68 (.map (some r)) (.string ⟨(txtL [(⟨s, l⟩ : Tm)]).toArray⟩) true).run Tryz.prog w1 = .ok (.tuple #[.int .i64 0, .bool false]) w1 := by
        rw [run_look (P := Tryz.prog) Tryz.underlying68 Tryz.underlying9 hz M1.out _]
        rw [show (⟨(txtL [(⟨s, l⟩ : Tm)]).toArray⟩ : ByteArray) = txtB ⟨s, l⟩ from rfl, hget]
        simp
      have hlen : (Builtin.len_ #[68] 3 #[.map (some r)]).run Tryz.prog w1 = .ok (.int .i64 (S.length : Int)) w1 := by
        rw [map_len M1.out Tryz.underlying68, numL_len]
      obtain ⟨w2, hrun2, hM2, hz2, ho2, ht2, hu2, hk2⟩ := run_put (P := Tryz.prog) Tryz.underlying68 Tryz.underlying9 M1.out (txtB ⟨s, l⟩) (.int .i64 (S.length : Int)) hget
      have hrun2' : (Instr.mapUpdate 68 (.map (some r)) (.string ⟨(txtL [(⟨s, l⟩ : Tm)]).toArray⟩) (.int .i64 (S.length : Int))).run Tryz.prog w1 = .ok () w2 := hrun2
      have hnl : numT (⟨s, l⟩ : Tm) S = S.length := by have := numT_le (⟨s, l⟩ : Tm) S; omega
      obtain ⟨NN, hNN⟩ : ∃ NN : Int, NN = S.length := ⟨_, rfl⟩
      rw [← hNN] at hlen hrun2'
      obtain ⟨S1, hS1⟩ : ∃ S1, S1 = S ++ [(⟨s, l⟩ : Tm)] := ⟨_, rfl⟩
      have hsee : seeT S (⟨s, l⟩ : Tm) = S1 := by rw [hS1]; unfold seeT; rw [if_neg hin]
      have HNN : Hid ((numT (⟨s, l⟩ : Tm) S1 : Int) = NN) := by unfold Hid; rw [← hsee, see_num, hnl, hNN]
      have MEM : Hid ((⟨s, l⟩ : Tm) ∈ S1) := by unfold Hid; rw [hS1]; simp
      have GS : Hid ((∃ R, S1 = S ++ R) ∧ S1.length ≤ S.length + 1) := ⟨⟨_, hS1⟩, by rw [hS1]; simp⟩
      have ES : Hid (∀ x ∈ S1, errL [x] = 0) := by
        unfold Hid
        rw [hS1]
        intro x hx
        rw [List.mem_append] at hx
        rcases hx with hx | hx
        · exact ESS.out x hx
        · have e : x = ⟨s, l⟩ := by simpa using hx
          rw [e]; exact HE.out
      have M2 : Hid (MapAt w2 r (numL 0 S1)) := by
        unfold Hid
        rw [hS1, numL_push]
        simpa using hM2
      have E2 : Hid (Ex r w w2) := ⟨ho2.trans E1.out.os, ht2.trans E1.out.tape, hu2.trans E1.out.output, by rw [hz2]; exact E1.out.size, fun k hk hn => (hk2 k hn).trans (E1.out.block k hk hn)⟩
      have K2 : Hid (Blk w2 w.heap.size #[.string s, .slice a l.length c] 25) := (hk2 _ (by omega)).trans KT.out
      have KR : Hid (Blk w2 (w.heap.size + 1) #[.string ⟨#[]⟩, .slice none 0 0, .int .i64 0, .int .i64 0] 76) := (hk2 _ (by omega)).trans KQ.out
      clear M1 KT KQ E1 B1 hS1 hNN hin hM2 hz2 ho2 ht2 hu2 hk2 hget hz hnl hsee hrun2
      have Q0 : ∀ o, (w2.alloc o).cell? ⟨w.heap.size, 0, none⟩ = some (.string s) := fun o => (K2.out.alloc o).cell 0
      have Q1 : ∀ o, (w2.alloc o).cell? ⟨w.heap.size, 1, none⟩ = some (.slice a l.length c) := fun o => (K2.out.alloc o).cell 1
      have Q2 : w2.cell? ⟨w.heap.size, 0, none⟩ = some (.string s) := K2.out.cell 0
      have Q3 : w2.cell? ⟨w.heap.size, 1, none⟩ = some (.slice a l.length c) := K2.out.cell 1
      go_wp2_with fail
      have HINV0 : Hid (NumInv r w.heap.size w2.heap.size (⟨s, l⟩ : Tm) a c S1 w (.int .i64 0) (w2.alloc (.cells #[.string s, .slice none 0 0, .int .i64 NN, .int .i64 1] 76))) := by
        refine ⟨0, [], S1, .slice none 0 0, [], Nat.zero_le _, rfl, ⟨⟨[], by simp⟩, by simp⟩, ES.out, by have h := Blk.new w2 #[.string s, .slice none 0 0, .int .i64 NN, .int .i64 1] 76; simpa [HNN.out, sizeL] using h, IRow.start _ _ _ _, M2.out.kept (Below.heap_alloc _ _ _ M2.out.lt), K2.out.alloc _, KR.out.alloc _, E2.out.alloc _⟩
      generalize w2.alloc (.cells #[.string s, .slice none 0 0, .int .i64 NN, .int .i64 1] 76) = w3 at *
      clear Q0 Q1 Q2 Q3
      have hO : w.heap.size + 2 ≤ w2.heap.size := by have := KR.out.lt; omega
      go_loopw [34] (fun i wr => NumInv r w.heap.size w2.heap.size (⟨s, l⟩ : Tm) a c S1 w i wr) (fun i wr => l.length - (intOf i).toNat)
      case atStart => exact HINV0.out
      case round =>
        clear HINV0
        obtain ⟨k, R0, S2, vr, xs, hk, rfl, ⟨⟨R, hS2⟩, hSz⟩, hES, hO1, hrow, hM, hT, hRb, hE⟩ := hrel
        have XO := hide hO1
        have XROW := hide hrow
        have XM := hide hM
        have XT := hide hT
        have XR := hide hRb
        have XE := hide hE
        have XES := hide hES
        have c1 : wr.cell? ⟨w.heap.size, 1, none⟩ = some (.slice a l.length c) := hT.cell 1
        by_cases hlt : k < l.length
        · have hlt2 : (k : Int) < (l.length : Int) := by omega
          have hSlk : Sl wr X a l := HS.out.exq (ExQ.ofEx (Q := fun b => b = r) hE rfl) (fun b hb => hXr b hb)
          obtain ⟨b, o, a', c', rfl, d0, d1, hx⟩ := hSlk.get (Below.refl _ _) (fun _ _ h => h) k hlt
          have HX := hide hx
          clear hx hSlk hO1 hrow hM hT hRb hE hES
          go_wp2_with fail
          refine (IH.out l[k] (List.getElem_mem hlt) S2 r _ _ X (HERR.out k hlt) (by have := HSZ.out k hlt; omega) XES.out (XM.out.kept (Below.heap_alloc _ _ _ XM.out.lt)) (by exact HX.out.alloc _) hXr).mono ?_
          rintro e w4 ⟨S3, v3, rfl, ⟨⟨R3, hS3⟩, hSz3⟩, hES3, hM3, hIV, hE3⟩
          obtain ⟨hmem3, a3, c3, rfl, hsl3⟩ := hIV
          have hOw : w2.heap.size < wr.heap.size := XO.out.lt
          have hE4 : Ex r wr w4 := ((Ex.refl r wr).alloc _).trans hE3
          have hrO : r ≠ w2.heap.size := by have := hr2; omega
          have hwz := hE4.size
          have hwz3 : wr.heap.size + 1 ≤ w4.heap.size := by have := hE3.size; simpa using this
          have HS3 := hide hS3
          have HS2 := hide hS2
          clear hS2
          have YO := hide (XO.out.ex hE4 (fun e => hrO e.symm))
          have YT := hide (XT.out.ex hE4 (by omega))
          have YR := hide (XR.out.ex hE4 (by omega))
          have YE := hide (XE.out.trans hE4)
          have YM := hide hM3
          have YES := hide hES3
          have YI : Hid (IV w4 (fun b => wr.heap.size + 1 ≤ b) S3 (.agg #[.string l[k].name, .slice a3 l[k].args.length c3, .int .i64 (numT l[k] S3), .int .i64 (sizeL [l[k]])]) l[k]) := ⟨hmem3, a3, c3, rfl, hsl3.mono fun b hb _ => by simp at hb; omega⟩
          have YROW : Hid (IRow w4 (w2.heap.size + 1) 76 S3 vr (l.take k) xs) := by
            unfold Hid
            rw [HS3.out]
            exact (XROW.out.kept (fun b hb1 hb2 => hE4.block b hb2 (by omega)) hwz hE4.os hE4.tape hE4.output).more R3
          clear hM3 hES3 hsl3 hE3 hE4 hS3
          have hlk : (l.take k).length = k := by simp; omega
          have hl2 : l.length ≤ 20000 := by have := sizeL_len l; have := HSL.out; omega
          have hvlt : ∀ b, some b = vr.ownBlock → b < wr.heap.size + 1 := fun b hb => by have := (XROW.out.own.lt b hb.symm).2; omega
          obtain ⟨g5, cap5, w5, xs5, hrun, hrow5, hg5, hvb5⟩ := items_append (t := l[k]) (a := a3) (c := c3) (YROW.out.kept (w' := w4.alloc (.cells #[.string l[k].name, .slice a3 l[k].args.length c3, .int .i64 (numT l[k] S3), .int .i64 (sizeL [l[k]])] 76)) (fun b _ hb => Below.heap_alloc _ _ _ hb) (by simp) rfl rfl rfl) (by simp; omega) (M := wr.heap.size + 1) (by omega) hvlt (YI.out.alloc _) (by omega) (w4.heap.size + 1) (by simp)
          rw [hlk] at hrun hrow5
          have HRUN := hide hrun
          have ZO : Blk w5 w2.heap.size #[.string s, vr, .int .i64 (numT (⟨s, l⟩ : Tm) S1), .int .i64 (1 + sizeL (l.take k))] 76 := ((YO.out.alloc _).alloc _).grown hg5 (YROW.out.ne (by omega))
          have ZX : Blk w5 w4.heap.size #[.string l[k].name, .slice a3 l[k].args.length c3, .int .i64 (numT l[k] S3), .int .i64 (sizeL [l[k]])] 76 := ((Blk.new w4 _ _).alloc _).grown hg5 (fun e => by have := hvlt _ e; omega)
          have z0 : w5.cell? ⟨w2.heap.size, 1, none⟩ = some vr := ZO.cell 1
          have z1 : w5.cell? ⟨w2.heap.size, 3, none⟩ = some (.int .i64 (1 + sizeL (l.take k))) := ZO.cell 3
          have z2 : w5.cell? ⟨w4.heap.size, 3, none⟩ = some (.int .i64 (sizeL [l[k]])) := ZX.cell 3
          have zf := ZO.frozen
          have hst := sizeL_take l k hlt
          have hsb : sizeL (l.take (k + 1)) ≤ 20000 := by have h1 := sizeL_append (l.take (k + 1)) (l.drop (k + 1)); rw [List.take_append_drop] at h1; have := HSL.out; omega
          have y1 : ∀ o, (w4.alloc o).cell? ⟨w2.heap.size, 1, none⟩ = some vr := fun o => (YO.out.alloc o).cell 1
          have YS : sizeL [l[k]] ≤ 20000 := by omega
          have HFIN : Hid (NumInv r w.heap.size w2.heap.size (⟨s, l⟩ : Tm) (some ⟨b, o, none⟩) c S1 w (.int .i64 ((k + 1 : Nat) : Int)) ((w5.setCell ⟨w2.heap.size, 1, none⟩ (.slice (some ⟨g5, 0, none⟩) (k + 1) cap5)).setCell ⟨w2.heap.size, 3, none⟩ (.int .i64 (1 + (sizeL (l.take k) : Int) + (sizeL [l[k]] : Int))))) := by
            have hgs := hg5.size
            refine ⟨k + 1, R0, S3, (.slice (some ⟨g5, 0, none⟩) (k + 1) cap5), xs5, by show k + 1 ≤ l.length; omega, rfl, ⟨⟨R ++ R3, by rw [HS3.out, HS2.out, List.append_assoc]⟩, by show S3.length ≤ S1.length + sizeL (l.take (k + 1)); omega⟩, YES.out, ?_, ?_, ?_, ?_, ?_, ?_⟩
            · have := (ZO.set 1 (.slice (some ⟨g5, 0, none⟩) (k + 1) cap5)).set 3 (.int .i64 (1 + (sizeL (l.take k) : Int) + (sizeL [l[k]] : Int)))
              simpa [hst, Int.add_assoc] using this
            · have e : l.take (k + 1) = l.take k ++ [l[k]] := List.take_succ_eq_append_getElem hlt
              rw [e]
              exact (hrow5.setCell (by omega) _).setCell (by omega) _
            · have hMl := YM.out.lt
              refine YM.out.kept ?_
              rw [Below.heap_setCell _ _ _ _ (by simpa using hrO), Below.heap_setCell _ _ _ _ (by simpa using hrO), hg5.block r (by simp; omega) (fun e => by have := (YROW.out.own.lt r e.symm).1; omega), Below.heap_alloc _ _ _ (by simp; omega), Below.heap_alloc _ _ _ hMl]
            · exact ((((YT.out.alloc _).alloc _).grown hg5 (YROW.out.ne (by omega))).setOther _ _ (by omega)).setOther _ _ (by omega)
            · exact ((((YR.out.alloc _).alloc _).grown hg5 (YROW.out.ne (by omega))).setOther _ _ (by omega)).setOther _ _ (by omega)
            · exact ((((YE.out.alloc _).alloc _).grown hg5 (fun j hj => by have := (YROW.out.own.lt j hj).1; omega)).setNew (by omega) _ _).setNew (by omega) _ _
          have hsk : sizeL (l.take k) ≤ 20000 := by omega
          clear hrun hrow5 hg5 hvb5 ZX hst
          have y3 : ∀ v, (w5.setCell ⟨w2.heap.size, 1, none⟩ v).cell? ⟨w2.heap.size, 3, none⟩ = some (.int .i64 (1 + sizeL (l.take k))) := fun v => by rw [World.cell?_setCell_other _ _ _ _ (by simp)]; exact z1
          have y4 : ∀ v, (w5.setCell ⟨w2.heap.size, 1, none⟩ v).cell? ⟨w4.heap.size, 3, none⟩ = some (.int .i64 (sizeL [l[k]])) := fun v => by rw [World.cell?_setCell_other _ _ _ _ (by simp)]; exact z2
          have zf2 := fun v => (ZO.set 1 v).frozen
          go_wp2_with (at_builtin; refine wpList_append_eq rfl _ _ _ _ rfl rfl rfl HRUN.out ?_)
          go_roundw
          case rel =>
            have h := HFIN.out
            have e : ((k + 1 : Nat) : Int) = (k : Int) + 1 := by omega
            rw [e] at h
            exact h
          case measure => simp [intOf]; omega
        · have htk : l.take k = l := List.take_of_length_le (by omega)
          rw [htk] at hO1 hrow
          obtain ⟨a9, c9, hv9, hs9⟩ := hrow.sl
          subst hv9
          have p0 := hO1.cell 0
          have p1 := hO1.cell 1
          have p2 := hO1.cell 2
          have p3 := hO1.cell 3
          have r0 := hRb.cell 0
          have r1 := hRb.cell 1
          have r2 := hRb.cell 2
          have r3 := hRb.cell 3
          have rf := hRb.frozen
          simp only [List.getElem?_toArray, List.getElem?_cons_zero, List.getElem?_cons_succ] at p0 p1 p2 p3 r0 r1 r2 r3
          have HS9 := hide hs9
          have HZN : Hid (sizeL [(⟨s, l⟩ : Tm)] = 1 + sizeL l) := by unfold Hid; simp [sizeL]
          have HSZ2 : Hid (S2.length ≤ S1.length + sizeL l) := by unfold Hid; simpa [htk] using hSz
          have HZ : Hid ((1 : Int) + sizeL l = sizeL [(⟨s, l⟩ : Tm)]) := by unfold Hid; simp [sizeL]
          have HN : Hid (numT (⟨s, l⟩ : Tm) S1 = numT (⟨s, l⟩ : Tm) S2) := by unfold Hid; rw [hS2, numT_more R MEM.out]
          have HMM : Hid ((⟨s, l⟩ : Tm) ∈ S2) := by unfold Hid; rw [hS2]; exact List.mem_append_left _ MEM.out
          clear hs9 htk hO1 hrow hM hT hRb hE hES
          go_wp2_with fail
          refine bodyPost_ret (v := .agg #[.string s, .slice a9 l.length c9, .int .i64 (numT (⟨s, l⟩ : Tm) S1), .int .i64 (1 + sizeL l)]) (by simp [results, Tryz.results48, go_sem, World.cell?_setCell_same, World.cell?_setCell_other, r0, r1, r2, r3]) rfl ?_
          refine ⟨S2, _, rfl, ?_, XES.out, ?_, ?_, ?_⟩
          · obtain ⟨⟨R1, hR1⟩, hR2⟩ := GS.out
            refine ⟨⟨R1 ++ R, by rw [hS2, hR1, List.append_assoc]⟩, ?_⟩
            have := HZN.out
            have h3 : S2.length ≤ S1.length + sizeL l := HSZ2.out
            omega
          · refine XM.out.kept ?_
            have hne : r ≠ w.heap.size + 1 := by omega
            rw [Below.heap_setCell _ _ _ _ (by simpa using hne), Below.heap_setCell _ _ _ _ (by simpa using hne), Below.heap_setCell _ _ _ _ (by simpa using hne), Below.heap_setCell _ _ _ _ (by simpa using hne)]
          · refine ⟨HMM.out, a9, c9, by rw [HZ.out, HN.out], ?_⟩
            refine (HS9.out.kept fun b hb => ?_).mono fun b hb _ => by omega
            have hne : b ≠ w.heap.size + 1 := by omega
            rw [Below.heap_setCell _ _ _ _ (by simpa using hne), Below.heap_setCell _ _ _ _ (by simpa using hne), Below.heap_setCell _ _ _ _ (by simpa using hne), Below.heap_setCell _ _ _ _ (by simpa using hne)]
          · exact (((XE.out.setNew (by omega) _ _).setNew (by omega) _ _).setNew (by omega) _ _).setNew (by omega) _ _
#print axioms number_any
end Go.Proofs.YteghhdogmdpbpakGreat

/- Walks: two terms get numbers; above by paths. -/
namespace Go.Proofs.YteghhdogmdpbpakGreat
open Go.RowKit
open Go.WideMaps
set_option linter.unusedSimpArgs false
set_option linter.unusedVariables false
set_option maxRecDepth 8000

def NbS (a b : Tm) (aa : Option Addr) (ca : Nat) (ab : Option Addr) (cb : Nat) (w w' : World) : Prop :=
  Blk w' w.heap.size #[.string a.name, .slice aa a.args.length ca] 25 ∧ Blk w' (w.heap.size + 1) #[.string b.name, .slice ab b.args.length cb] 25 ∧ Ex (w.heap.size + 4) w w'
theorem NbS.step {a b : Tm} {aa ab : Option Addr} {ca cb : Nat} {w w1 w2 : World} (h : NbS a b aa ca ab cb w w1) (hE : Ex (w.heap.size + 4) w1 w2) : NbS a b aa ca ab cb w w2 := ⟨h.1.ex hE (by omega), h.2.1.ex hE (by omega), h.2.2.trans hE⟩
theorem NbS.set {a b : Tm} {aa ab : Option Addr} {ca cb : Nat} {w w1 : World} (h : NbS a b aa ca ab cb w w1) {k : Nat} (hk : w.heap.size + 2 ≤ k) (i : Nat) (v : Value) : NbS a b aa ca ab cb w (w1.setCell ⟨k, i, none⟩ v) := ⟨h.1.setOther i v (by omega), h.2.1.setOther i v (by omega), h.2.2.setNew (by omega) i v⟩
theorem nb_fin {S S0 : List Tm} {a b : Tm} {vx vy : Value} {e : Ending} {w w5 w' : World} (hB : Below w.heap.size w w5) (hq : ExQ (fun b => b = w.heap.size + 2 ∨ b = w.heap.size + 3) w5 w') (he : e = .returned (.tuple #[vx, vy])) (hS : S.length ≤ sizeL [a] + sizeL [b]) (hx : IV w5 (fun b => w.heap.size + 5 ≤ b) S vx a) (hy : IV w5 (fun b => w.heap.size + 5 ≤ b) S vy b) :
    ∃ S vx vy, e = .returned (.tuple #[vx, vy]) ∧ S.length ≤ sizeL [a] + sizeL [b] ∧ IV w' (fun b => w.heap.size ≤ b) S vx a ∧ IV w' (fun b => w.heap.size ≤ b) S vy b ∧ Below w.heap.size w w' := by
  have hz := hB.size
  have key : ∀ v x, IV w5 (fun b => w.heap.size + 5 ≤ b) S v x → IV w' (fun b => w.heap.size ≤ b) S v x := fun v x h =>
    ((h.mono (Y := fun b => w.heap.size + 5 ≤ b ∧ b < w5.heap.size) fun b h1 h2 => ⟨h1, h2⟩).kept fun b hb => hq.block b hb.2 (fun h => by have := hb.1; rcases h with h | h <;> omega)).mono fun b hb _ => by have := hb.1; omega
  exact ⟨S, vx, vy, he, hS, key _ _ hx, key _ _ hy, hB.trans (hq.below hB.size fun b hb => by rcases hb with h | h <;> omega)⟩

set_option maxHeartbeats 4000000 in
theorem numbered_any (a b : Tm) (va vb : Value) (w : World) (X : Nat → Prop) (ea : errL [a] = 0) (eb : errL [b] = 0) (za : sizeL [a] ≤ 20000) (zb : sizeL [b] ≤ 20000) (ha : TV w X va a) (hb : TV w X vb b) :
    Calls Tryz.prog 34 #[va, vb] w fun e w' => ∃ S vx vy, e = .returned (.tuple #[vx, vy]) ∧ S.length ≤ sizeL [a] + sizeL [b] ∧ IV w' (fun b => w.heap.size ≤ b) S vx a ∧ IV w' (fun b => w.heap.size ≤ b) S vy b ∧ Below w.heap.size w w' := by
  have HA := hide (ha.mono (Y := fun b => X b ∧ b < w.heap.size) fun b h1 h2 => ⟨h1, h2⟩)
  have HB := hide (hb.mono (Y := fun b => X b ∧ b < w.heap.size) fun b h1 h2 => ⟨h1, h2⟩)
  obtain ⟨aa, ca, rfl, hsa⟩ := ha
  obtain ⟨ab, cb, rfl, hsb⟩ := hb
  clear hsa hsb
  have HEA := hide ea
  have HEB := hide eb
  clear ea eb
  have hmm := @run_makeMap Tryz.prog
  have N0 : Hid (NbS a b aa ca ab cb w (((((w.alloc (.cells #[.string a.name, .slice aa a.args.length ca] 25)).alloc (.cells #[.string b.name, .slice ab b.args.length cb] 25)).alloc (.cells #[.string ⟨#[]⟩, .slice none 0 0, .int .i64 0, .int .i64 0] 76)).alloc (.cells #[.string ⟨#[]⟩, .slice none 0 0, .int .i64 0, .int .i64 0] 76)).alloc (.map #[] 0)).drew ∧ Blk (((((w.alloc (.cells #[.string a.name, .slice aa a.args.length ca] 25)).alloc (.cells #[.string b.name, .slice ab b.args.length cb] 25)).alloc (.cells #[.string ⟨#[]⟩, .slice none 0 0, .int .i64 0, .int .i64 0] 76)).alloc (.cells #[.string ⟨#[]⟩, .slice none 0 0, .int .i64 0, .int .i64 0] 76)).alloc (.map #[] 0)).drew (w.heap.size + 2) #[.string ⟨#[]⟩, .slice none 0 0, .int .i64 0, .int .i64 0] 76 ∧ Blk (((((w.alloc (.cells #[.string a.name, .slice aa a.args.length ca] 25)).alloc (.cells #[.string b.name, .slice ab b.args.length cb] 25)).alloc (.cells #[.string ⟨#[]⟩, .slice none 0 0, .int .i64 0, .int .i64 0] 76)).alloc (.cells #[.string ⟨#[]⟩, .slice none 0 0, .int .i64 0, .int .i64 0] 76)).alloc (.map #[] 0)).drew (w.heap.size + 3) #[.string ⟨#[]⟩, .slice none 0 0, .int .i64 0, .int .i64 0] 76 ∧ MapAt (((((w.alloc (.cells #[.string a.name, .slice aa a.args.length ca] 25)).alloc (.cells #[.string b.name, .slice ab b.args.length cb] 25)).alloc (.cells #[.string ⟨#[]⟩, .slice none 0 0, .int .i64 0, .int .i64 0] 76)).alloc (.cells #[.string ⟨#[]⟩, .slice none 0 0, .int .i64 0, .int .i64 0] 76)).alloc (.map #[] 0)).drew (w.heap.size + 4) (numL 0 []) ∧ Below w.heap.size w (((((w.alloc (.cells #[.string a.name, .slice aa a.args.length ca] 25)).alloc (.cells #[.string b.name, .slice ab b.args.length cb] 25)).alloc (.cells #[.string ⟨#[]⟩, .slice none 0 0, .int .i64 0, .int .i64 0] 76)).alloc (.cells #[.string ⟨#[]⟩, .slice none 0 0, .int .i64 0, .int .i64 0] 76)).alloc (.map #[] 0)).drew) := by
    have k1 := Blk.new w #[.string a.name, .slice aa a.args.length ca] 25
    have e1 : (w.alloc (.cells #[.string a.name, .slice aa a.args.length ca] 25)).heap.size = w.heap.size + 1 := by simp
    have b1 := (Below.refl w.heap.size w).alloc (Nat.le_refl _) (.cells #[.string a.name, .slice aa a.args.length ca] 25)
    generalize (w.alloc (.cells #[.string a.name, .slice aa a.args.length ca] 25)) = w1 at *
    have k2 := Blk.new w1 #[.string b.name, .slice ab b.args.length cb] 25
    have b2 := b1.alloc b1.size (.cells #[.string b.name, .slice ab b.args.length cb] 25)
    have k1' := k1.alloc (.cells #[.string b.name, .slice ab b.args.length cb] 25)
    have e2 : (w1.alloc (.cells #[.string b.name, .slice ab b.args.length cb] 25)).heap.size = w.heap.size + 2 := by simp [e1]
    generalize w1.alloc (.cells #[.string b.name, .slice ab b.args.length cb] 25) = w2 at *
    have k3 := Blk.new w2 #[.string ⟨#[]⟩, .slice none 0 0, .int .i64 0, .int .i64 0] 76
    have b3 := b2.alloc b2.size (.cells #[.string ⟨#[]⟩, .slice none 0 0, .int .i64 0, .int .i64 0] 76)
    have k2' := k2.alloc (.cells #[.string ⟨#[]⟩, .slice none 0 0, .int .i64 0, .int .i64 0] 76)
    have k1'' := k1'.alloc (.cells #[.string ⟨#[]⟩, .slice none 0 0, .int .i64 0, .int .i64 0] 76)
    have e3 : (w2.alloc (.cells #[.string ⟨#[]⟩, .slice none 0 0, .int .i64 0, .int .i64 0] 76)).heap.size = w.heap.size + 3 := by simp [e2]
    generalize w2.alloc (.cells #[.string ⟨#[]⟩, .slice none 0 0, .int .i64 0, .int .i64 0] 76) = w3 at *
    have k4 := Blk.new w3 #[.string ⟨#[]⟩, .slice none 0 0, .int .i64 0, .int .i64 0] 76
    have b4 := b3.alloc b3.size (.cells #[.string ⟨#[]⟩, .slice none 0 0, .int .i64 0, .int .i64 0] 76)
    have k3' := k3.alloc (.cells #[.string ⟨#[]⟩, .slice none 0 0, .int .i64 0, .int .i64 0] 76)
    have k2'' := k2'.alloc (.cells #[.string ⟨#[]⟩, .slice none 0 0, .int .i64 0, .int .i64 0] 76)
    have k1t := k1''.alloc (.cells #[.string ⟨#[]⟩, .slice none 0 0, .int .i64 0, .int .i64 0] 76)
    have e4 : (w3.alloc (.cells #[.string ⟨#[]⟩, .slice none 0 0, .int .i64 0, .int .i64 0] 76)).heap.size = w.heap.size + 4 := by simp [e3]
    generalize w3.alloc (.cells #[.string ⟨#[]⟩, .slice none 0 0, .int .i64 0, .int .i64 0] 76) = w4 at *
    have m5 := MapAt.new w4
    rw [e1] at k2''
    rw [e2] at k3'
    rw [e3] at k4
    rw [e4] at m5
    have b5 := b4.alloc b4.size (.map #[] 0)
    exact ⟨⟨k1t.alloc _, k2''.alloc _, ⟨b5.os, b5.tape, b5.output, b5.size, fun k hk _ => b5.block k hk⟩⟩, k3'.alloc _, k4.alloc _, m5, below_drewN b5 1⟩
  go_enter Tryz.func34, Tryz.ntmps34
  go_wp2_with fail
  refine wp_region_held_drew (S := NbS a b aa ca ab cb w) (by kernel_rfl) N0.out.1 (fun hHeld => ?_)
  refine wpAnyH_take (i := 0) (v := ?_) rfl (by kernel_rfl) (by kernel_rfl) (by kernel_rfl) (fun _ _ _ h => h) (Or.inl ⟨by rfl, ?_⟩) (by assumption) ?_
  rotate_left
  · intro w' hSw
    have t0 := hSw.1.cell 0
    have t1 := hSw.1.cell 1
    have u0 := hSw.2.1.cell 0
    have u1 := hSw.2.1.cell 1
    simp only [List.getElem?_toArray, List.getElem?_cons_zero, List.getElem?_cons_succ] at t0 t1 u0 u1
    go_simp <;> with_reducible rfl
  try simp only [Act.put, List.setIfInBounds_toArray, List.set_cons_zero, List.set_cons_succ, List.getElem_toArray, List.getElem_cons_succ, List.getElem_cons_zero]
  refine wpAnyH_take (i := 1) (v := ?_) rfl (by kernel_rfl) (by kernel_rfl) (by kernel_rfl) (fun _ _ _ h => h) (Or.inl ⟨by rfl, ?_⟩) (by assumption) ?_
  rotate_left
  · intro w' hSw
    have t0 := hSw.1.cell 0
    have t1 := hSw.1.cell 1
    have u0 := hSw.2.1.cell 0
    have u1 := hSw.2.1.cell 1
    simp only [List.getElem?_toArray, List.getElem?_cons_zero, List.getElem?_cons_succ] at t0 t1 u0 u1
    go_simp <;> with_reducible rfl
  try simp only [Act.put, List.setIfInBounds_toArray, List.set_cons_zero, List.set_cons_succ, List.getElem_toArray, List.getElem_cons_succ, List.getElem_cons_zero]
  refine wpAnyH_take (i := 3) (v := ?_) rfl (by kernel_rfl) (by kernel_rfl) (by kernel_rfl) (fun _ _ _ h => h) (Or.inl ⟨by rfl, ?_⟩) (by assumption) ?_
  rotate_left
  · intro w' hSw
    have t0 := hSw.1.cell 0
    have t1 := hSw.1.cell 1
    have u0 := hSw.2.1.cell 0
    have u1 := hSw.2.1.cell 1
    simp only [List.getElem?_toArray, List.getElem?_cons_zero, List.getElem?_cons_succ] at t0 t1 u0 u1
    go_simp <;> with_reducible rfl
  try simp only [Act.put, List.setIfInBounds_toArray, List.set_cons_zero, List.set_cons_succ, List.getElem_toArray, List.getElem_cons_succ, List.getElem_cons_zero]
  refine wpAnyH_take (i := 4) (v := ?_) rfl (by kernel_rfl) (by kernel_rfl) (by kernel_rfl) (fun _ _ _ h => h) (Or.inl ⟨by rfl, ?_⟩) (by assumption) ?_
  rotate_left
  · intro w' hSw
    have t0 := hSw.1.cell 0
    have t1 := hSw.1.cell 1
    have u0 := hSw.2.1.cell 0
    have u1 := hSw.2.1.cell 1
    simp only [List.getElem?_toArray, List.getElem?_cons_zero, List.getElem?_cons_succ] at t0 t1 u0 u1
    go_simp <;> with_reducible rfl
  try simp only [Act.put, List.setIfInBounds_toArray, List.set_cons_zero, List.set_cons_succ, List.getElem_toArray, List.getElem_cons_succ, List.getElem_cons_zero]

  have e5 : w.heap.size + 1 + 1 + 1 + 1 = w.heap.size + 4 := rfl
  rw [e5]
  clear e5 hmm
  generalize (((((w.alloc (.cells #[.string a.name, .slice aa a.args.length ca] 25)).alloc (.cells #[.string b.name, .slice ab b.args.length cb] 25)).alloc (.cells #[.string ⟨#[]⟩, .slice none 0 0, .int .i64 0, .int .i64 0] 76)).alloc (.cells #[.string ⟨#[]⟩, .slice none 0 0, .int .i64 0, .int .i64 0] 76)).alloc (.map #[] 0)).drew = w5 at *
  refine wpAnyH_ready (rs := [2]) (by kernel_rfl) (by simp) ?_
  refine AllReadyH.cons rfl (fun K hK => ?_) AllReadyH.nil
  go_simp
  go_at_call 48
  refine (number_any a [] (w.heap.size + 4) _ _ (fun b => X b ∧ b < w.heap.size) HEA.out za (by simp) N0.out.2.2.2.1 (by exact HA.out.later N0.out.2.2.2.2) (fun b hb => by have := hb.2; omega)).mono ?_
  rintro e w6 ⟨S1, v1, rfl, ⟨⟨R1, hR1⟩, hz1⟩, hes1, hm1, hiv1, hex1⟩
  have N1 := hide (N0.out.1.step hex1)
  have R2 := hide (N0.out.2.1.ex hex1 (by omega))
  have R3 := hide (N0.out.2.2.1.ex hex1 (by omega))
  have HB6 : Hid (Below w.heap.size w w6) := ⟨hex1.os.trans N0.out.2.2.2.2.os, hex1.tape.trans N0.out.2.2.2.2.tape, hex1.output.trans N0.out.2.2.2.2.output, Nat.le_trans N0.out.2.2.2.2.size hex1.size, fun k hk => (hex1.block k (by have := N0.out.2.2.2.2.size; omega) (by omega)).trans (N0.out.2.2.2.2.block k hk)⟩
  have hz5 : w.heap.size + 5 ≤ w5.heap.size := by have := N0.out.2.2.2.1.lt; omega
  have HI1 := hide (hiv1.mono (Y := fun b => w.heap.size + 5 ≤ b) fun b hb _ => by omega)
  have HM1 := hide hm1
  have HZ1 := hide hz1
  have HES1 := hide hes1
  have HEX1 := hide hex1
  obtain ⟨_, a1, c1, rfl, _⟩ := hiv1
  clear hm1 hex1 hes1 hR1 hz1
  go_simp
  refine hK.out _ _ (by exact N1.out) (fun hHeld => ?_)
  clear hK K
  try simp only [Act.put, List.setIfInBounds_toArray, List.set_cons_zero, List.set_cons_succ, List.getElem_toArray, List.getElem_cons_succ, List.getElem_cons_zero]
  refine wpAnyH_ready (rs := [5]) (by kernel_rfl) (by simp) ?_
  refine AllReadyH.cons rfl (fun K hK => ?_) AllReadyH.nil
  go_simp
  go_at_call 48
  refine (number_any b S1 (w.heap.size + 4) _ _ (fun b => X b ∧ b < w.heap.size) HEB.out zb HES1.out HM1.out (by exact HB.out.later HB6.out) (fun b hb => by have := hb.2; omega)).mono ?_
  rintro e w7 ⟨S2, v2, rfl, ⟨⟨R2', hR2⟩, hz2⟩, hes2, hm2, hiv2, hex2⟩
  have N2 := hide (N1.out.step hex2)
  have Q2 := hide (R2.out.ex hex2 (by omega))
  have Q3 := hide (R3.out.ex hex2 (by omega))
  have HB7 : Hid (Below w.heap.size w w7) := ⟨hex2.os.trans HB6.out.os, hex2.tape.trans HB6.out.tape, hex2.output.trans HB6.out.output, Nat.le_trans HB6.out.size hex2.size, fun k hk => (hex2.block k (by have := HB6.out.size; omega) (by omega)).trans (HB6.out.block k hk)⟩
  have HZ2 : Hid (S2.length ≤ sizeL [a] + sizeL [b]) := by have := HZ1.out; unfold Hid; simp at this; omega
  have HI2 := hide (hiv2.mono (Y := fun b => w.heap.size + 5 ≤ b) fun b hb _ => by have := HEX1.out.size; omega)
  have hmem1 := HI1.out.1
  have hnn : numT a S1 = numT a S2 := by rw [hR2, numT_more R2' hmem1]
  have HI1' : Hid (IV w7 (fun b => w.heap.size + 5 ≤ b) S2 (.agg #[.string a.name, .slice a1 a.args.length c1, .int .i64 (numT a S2), .int .i64 (sizeL [a])]) a) := by
    have h := (HI1.out.ex hex2 (fun b hb => by omega)).more R2'
    rw [← hR2, hnn] at h
    exact h
  obtain ⟨_, a2, c2, rfl, _⟩ := hiv2
  rw [hnn]
  clear hm2 hex2 hes2 hR2 hz2 HI1 HM1 HES1 R2 R3 N1 HB6 hnn hmem1
  go_simp
  refine hK.out _ _ (by exact N2.out) (fun hHeld => ?_)
  clear hK K
  try simp only [Act.put, List.setIfInBounds_toArray, List.set_cons_zero, List.set_cons_succ, List.getElem_toArray, List.getElem_cons_succ, List.getElem_cons_zero]
  have r0 := Q2.out.cell 0
  have r1 := Q2.out.cell 1
  have r2 := Q2.out.cell 2
  have r3 := Q2.out.cell 3
  have rf := Q2.out.frozen
  have s0 := Q3.out.cell 0
  have s1 := Q3.out.cell 1
  have s2 := Q3.out.cell 2
  have s3 := Q3.out.cell 3
  have sf := Q3.out.frozen
  simp only [List.getElem?_toArray, List.getElem?_cons_zero, List.getElem?_cons_succ] at r0 r1 r2 r3 s0 s1 s2 s3
  refine wpAnyH_ready (rs := [6]) (by kernel_rfl) (by simp) ?_
  refine AllReadyH.cons rfl (fun K hK => ?_) AllReadyH.nil
  go_simp
  refine hK.out _ _ (by exact (((N2.out.set (by omega) _ _).set (by omega) _ _).set (by omega) _ _).set (by omega) _ _) (fun hHeld => ?_)
  clear hK K
  try simp only [Act.put, List.setIfInBounds_toArray, List.set_cons_zero, List.set_cons_succ, List.getElem_toArray, List.getElem_cons_succ, List.getElem_cons_zero]
  refine wpAnyH_ready (rs := [7]) (by kernel_rfl) (by simp) ?_
  refine AllReadyH.cons rfl (fun K hK => ?_) AllReadyH.nil
  go_simp
  refine hK.out _ _ (by exact (((hHeld.set (by omega) _ _).set (by omega) _ _).set (by omega) _ _).set (by omega) _ _) (fun hHeld => ?_)
  clear hK K
  try simp only [Act.put, List.setIfInBounds_toArray, List.set_cons_zero, List.set_cons_succ, List.getElem_toArray, List.getElem_cons_succ, List.getElem_cons_zero]
  refine wpAnyH_done (by kernel_rfl) ?_ _
  go_wp2_with fail
  refine bodyPost_ret (v := .tuple #[.agg #[.string a.name, .slice a1 a.args.length c1, .int .i64 (numT a S2), .int .i64 (sizeL [a])], .agg #[.string b.name, .slice a2 b.args.length c2, .int .i64 (numT b S2), .int .i64 (sizeL [b])]]) (by simp [results, Tryz.results34, go_sem, World.cell?_setCell_same, World.cell?_setCell_other, r0, r1, r2, r3, s0, s1, s2, s3]) rfl ?_
  refine nb_fin (S0 := []) HB7.out ?_ rfl HZ2.out HI1'.out HI2.out
  iterate 8 refine ExQ.set ?_ (by simp) _ _
  exact ExQ.refl _ _
#print axioms numbered_any
end Go.Proofs.YteghhdogmdpbpakGreat


/- Walks: which term is above another one by weights. -/
namespace Go.Proofs.YteghhdogmdpbpakGreat
open Go.RowKit
set_option linter.unusedSimpArgs false
set_option linter.unusedVariables false
set_option maxRecDepth 8000

structure HvW (S : List Tm) (a b : Tm) (aa : Option Addr) (ca : Nat) (ab : Option Addr) (cb : Nat) (w wr : World) : Prop where
  k1 : Blk wr w.heap.size #[.string a.name, .slice aa a.args.length ca, .int .i64 (numT a S), .int .i64 (sizeL [a])] 76
  k2 : Blk wr (w.heap.size + 1) #[.string b.name, .slice ab b.args.length cb, .int .i64 (numT b S), .int .i64 (sizeL [b])] 76
  bl : Below w.heap.size w wr
theorem HvW.later {S : List Tm} {a b : Tm} {aa ab : Option Addr} {ca cb : Nat} {w w1 w2 : World} (h : HvW S a b aa ca ab cb w w1) (hb : Below w1.heap.size w1 w2) : HvW S a b aa ca ab cb w w2 := ⟨h.k1.below hb h.k1.lt, h.k2.below hb h.k2.lt, h.bl.trans (hb.mono h.bl.size)⟩
theorem HvW.start (S : List Tm) (a b : Tm) (aa : Option Addr) (ca : Nat) (ab : Option Addr) (cb : Nat) (w : World) : HvW S a b aa ca ab cb w ((w.alloc (.cells #[.string a.name, .slice aa a.args.length ca, .int .i64 (numT a S), .int .i64 (sizeL [a])] 76)).alloc (.cells #[.string b.name, .slice ab b.args.length cb, .int .i64 (numT b S), .int .i64 (sizeL [b])] 76)) := by
  have k1 := Blk.new w #[.string a.name, .slice aa a.args.length ca, .int .i64 (numT a S), .int .i64 (sizeL [a])] 76
  have e1 : (w.alloc (.cells #[.string a.name, .slice aa a.args.length ca, .int .i64 (numT a S), .int .i64 (sizeL [a])] 76)).heap.size = w.heap.size + 1 := by simp
  have b1 := (Below.refl w.heap.size w).alloc (Nat.le_refl _) (.cells #[.string a.name, .slice aa a.args.length ca, .int .i64 (numT a S), .int .i64 (sizeL [a])] 76)
  generalize (w.alloc (.cells #[.string a.name, .slice aa a.args.length ca, .int .i64 (numT a S), .int .i64 (sizeL [a])] 76)) = w1 at *
  have k2 := Blk.new w1 #[.string b.name, .slice ab b.args.length cb, .int .i64 (numT b S), .int .i64 (sizeL [b])] 76
  rw [e1] at k2
  exact ⟨k1.alloc _, k2, b1.alloc b1.size _⟩

end Go.Proofs.YteghhdogmdpbpakGreat

/- Walks: above by paths, as it is asked for. -/
namespace Go.Proofs.YteghhdogmdpbpakGreat
open Go.RowKit
open Go.WideMaps
set_option linter.unusedSimpArgs false
set_option linter.unusedVariables false
set_option maxRecDepth 8000

set_option maxHeartbeats 4000000 in
theorem aPath_any (row : List ByteArray) (ho : OnceN row) (a b : Tm) (u va vb : Value) (w : World) (X : Nat → Prop) (ea : errL [a] = 0) (eb : errL [b] = 0) (za : sizeL [a] ≤ 20000) (zb : sizeL [b] ≤ 20000) (hu : LV Value.string w X u row) (ha : TV w X va a) (hb : TV w X vb b) :
    Calls Tryz.prog 20 #[u, va, vb] w fun e w' => e = .returned (.bool (pathB row a b)) ∧ Below w.heap.size w w' := by
  have HA := hide ha
  have HB := hide hb
  have HU := hide hu
  obtain ⟨aa, ca, rfl, hsa⟩ := ha
  obtain ⟨ab, cb, rfl, hsb⟩ := hb
  clear hsa hsb hu
  have HEA := hide ea
  have HEB := hide eb
  have HO := hide ho
  clear ea eb ho
  have hmm := @run_makeMap Tryz.prog
  have B2 : Hid (Below w.heap.size w ((w.alloc (.cells #[.string a.name, .slice aa a.args.length ca] 25)).alloc (.cells #[.string b.name, .slice ab b.args.length cb] 25))) := ((Below.refl w.heap.size w).alloc (Nat.le_refl _) _).alloc (by simp) _
  have K1 : Hid (Blk ((w.alloc (.cells #[.string a.name, .slice aa a.args.length ca] 25)).alloc (.cells #[.string b.name, .slice ab b.args.length cb] 25)) w.heap.size #[.string a.name, .slice aa a.args.length ca] 25) := (Blk.new w _ _).alloc _
  have K2 : Hid (Blk ((w.alloc (.cells #[.string a.name, .slice aa a.args.length ca] 25)).alloc (.cells #[.string b.name, .slice ab b.args.length cb] 25)) (w.heap.size + 1) #[.string b.name, .slice ab b.args.length cb] 25) := by
    have h := Blk.new (w.alloc (.cells #[.string a.name, .slice aa a.args.length ca] 25)) #[.string b.name, .slice ab b.args.length cb] 25
    have e : (w.alloc (.cells #[.string a.name, .slice aa a.args.length ca] 25)).heap.size = w.heap.size + 1 := by simp
    rw [e] at h
    exact h
  go_enter Tryz.func20, Tryz.ntmps20
  go_wp2_with fail
  generalize ((w.alloc (.cells #[.string a.name, .slice aa a.args.length ca] 25)).alloc (.cells #[.string b.name, .slice ab b.args.length cb] 25)) = w2 at *
  refine (ranksOf_any row HO.out _ _ X (by exact HU.out.later B2.out)).mono ?_
  rintro e w3 ⟨rfl, hM3, hb3⟩
  have B3 := hide (B2.out.trans (hb3.mono B2.out.size))
  have M3 := hide hM3
  have K13 := hide (K1.out.below hb3 K1.out.lt)
  have K23 := hide (K2.out.below hb3 K2.out.lt)
  have hl3 := hM3.lt
  clear hM3 hb3 K1 K2
  have t0 : ∀ o o', ((w3.alloc o).alloc o').cell? ⟨w.heap.size, 0, none⟩ = some (.string a.name) := fun o o' => ((K13.out.alloc o).alloc o').cell 0
  have t1 : ∀ o o', ((w3.alloc o).alloc o').cell? ⟨w.heap.size, 1, none⟩ = some (.slice aa a.args.length ca) := fun o o' => ((K13.out.alloc o).alloc o').cell 1
  have u0 : ∀ o o', ((w3.alloc o).alloc o').cell? ⟨w.heap.size + 1, 0, none⟩ = some (.string b.name) := fun o o' => ((K23.out.alloc o).alloc o').cell 0
  have u1 : ∀ o o', ((w3.alloc o).alloc o').cell? ⟨w.heap.size + 1, 1, none⟩ = some (.slice ab b.args.length cb) := fun o o' => ((K23.out.alloc o).alloc o').cell 1
  go_wp2_with fail
  have M5 : Hid (MapAt ((w3.alloc (.map #[] 0)).alloc (.cells #[.map (some w2.heap.size), .map (some w3.heap.size)] 73)) w2.heap.size (rkL 0 row)) := (M3.out.kept (Below.heap_alloc _ _ _ hl3)).kept (Below.heap_alloc _ _ _ (by simp; omega))
  have P5 : Hid (∀ S, MapP ((w3.alloc (.map #[] 0)).alloc (.cells #[.map (some w2.heap.size), .map (some w3.heap.size)] 73)) w3.heap.size (AskQ row S)) := fun S => (MapP.new w3 (AskQ row S)).kept (Below.heap_alloc _ _ _ (by simp))
  have B5 : Hid (Below w.heap.size w ((w3.alloc (.map #[] 0)).alloc (.cells #[.map (some w2.heap.size), .map (some w3.heap.size)] 73))) := (B3.out.alloc B3.out.size _).alloc (by have := B3.out.size; simp; omega) _
  have K5 : Hid (Blk ((w3.alloc (.map #[] 0)).alloc (.cells #[.map (some w2.heap.size), .map (some w3.heap.size)] 73)) (w3.heap.size + 1) #[.map (some w2.heap.size), .map (some w3.heap.size)] 73) := by
    have h := Blk.new (w3.alloc (.map #[] 0)) #[.map (some w2.heap.size), .map (some w3.heap.size)] 73
    have e : (w3.alloc (.map #[] 0)).heap.size = w3.heap.size + 1 := by simp
    rw [e] at h
    exact h
  generalize (w3.alloc (.map #[] 0)).alloc (.cells #[.map (some w2.heap.size), .map (some w3.heap.size)] 73) = w5 at *
  refine (numbered_any a b _ _ _ X HEA.out HEB.out za zb (by exact HA.out.later B5.out) (by exact HB.out.later B5.out)).mono ?_
  rintro e w6 ⟨S, vx, vy, rfl, hS, hvx, hvy, hb6⟩
  have HVX := hide hvx
  have HVY := hide hvy
  obtain ⟨_, ax, cx, rfl, _⟩ := hvx
  obtain ⟨_, ay, cy, rfl, _⟩ := hvy
  have B6 := hide (B5.out.trans (hb6.mono B5.out.size))
  have hl5 := K5.out.lt
  have P6 : Hid (PS row S w2.heap.size w3.heap.size w6) := ⟨M5.out.below hb6 M5.out.lt, (P5.out S).below hb6 (P5.out S).lt, by omega⟩
  have K6 := K5.out.below hb6 hl5
  have q0 : ∀ o o', ((w6.alloc o).alloc o').cell? ⟨w3.heap.size + 1, 0, none⟩ = some (.map (some w2.heap.size)) := fun o o' => ((K6.alloc o).alloc o').cell 0
  have q1 : ∀ o o', ((w6.alloc o).alloc o').cell? ⟨w3.heap.size + 1, 1, none⟩ = some (.map (some w3.heap.size)) := fun o o' => ((K6.alloc o).alloc o').cell 1
  have hSl : S.length < 9000000000000000000 := by omega
  clear hb6 t0 t1 u0 u1
  go_wp2_with fail
  refine (above_any row S w2.heap.size w3.heap.size hSl (sizeL [a] + sizeL [b]) a b _ _ _ (fun b => w5.heap.size ≤ b) (Nat.le_refl _) (fun b hb => by omega) ((P6.out.alloc _).alloc _) (by exact (HVX.out.alloc _).alloc _) (by exact (HVY.out.alloc _).alloc _)).mono ?_
  rintro e w7 ⟨rfl, _, hE7⟩
  have HB7 : Hid (Below w.heap.size w w7) := by
    have h1 := (B6.out.alloc B6.out.size (.cells #[.string a.name, .slice ax a.args.length cx, .int .i64 (numT a S), .int .i64 (sizeL [a])] 76)).alloc (by have := B6.out.size; simp; omega) (.cells #[.string b.name, .slice ay b.args.length cy, .int .i64 (numT b S), .int .i64 (sizeL [b])] 76)
    exact ⟨hE7.os.trans h1.os, hE7.tape.trans h1.tape, hE7.output.trans h1.output, Nat.le_trans h1.size hE7.size, fun k hk => (hE7.block k (by have := h1.size; omega) (by have := B3.out.size; omega)).trans (h1.block k hk)⟩
  clear hE7
  go_wp2_with fail
  go_ret
  exact ⟨rfl, HB7.out⟩
#print axioms aPath_any
end Go.Proofs.YteghhdogmdpbpakGreat


/- Walks: above by weights, as it is asked for. -/
namespace Go.Proofs.YteghhdogmdpbpakGreat
open Go.RowKit
set_option linter.unusedSimpArgs false
set_option linter.unusedVariables false
set_option maxRecDepth 8000

def WtS (S : List Tm) (a b : Tm) (ax : Option Addr) (cx : Nat) (ay : Option Addr) (cy : Nat) (w w6 w' : World) : Prop :=
  Blk w' w6.heap.size #[.string a.name, .slice ax a.args.length cx, .int .i64 (numT a S), .int .i64 (sizeL [a])] 76 ∧ Blk w' (w6.heap.size + 1) #[.string b.name, .slice ay b.args.length cy, .int .i64 (numT b S), .int .i64 (sizeL [b])] 76 ∧ Below w.heap.size w w'
theorem WtS.later {S : List Tm} {a b : Tm} {ax ay : Option Addr} {cx cy : Nat} {w w6 w1 w2 : World} (h : WtS S a b ax cx ay cy w w6 w1) (hb : Below w1.heap.size w1 w2) : WtS S a b ax cx ay cy w w6 w2 := ⟨h.1.below hb h.1.lt, h.2.1.below hb h.2.1.lt, h.2.2.trans (hb.mono h.2.2.size)⟩
/-- What is wrong with a row at a place. -/
def rowAt (row : List ByteArray) (k : Nat) : Int := if nameB (row.getD k ⟨#[]⟩) = false ∨ varB (row.getD k ⟨#[]⟩) = true then 1 else if inB (row.getD k ⟨#[]⟩) (row.take k) = true then 4 else 0
/-- What is wrong with a row. -/
def rowE (row : List ByteArray) : Int := if 40 < row.length then 3 else orI ((List.range row.length).map (rowAt row))
theorem rowAt_get {row : List ByteArray} {k : Nat} (h : k < row.length) : rowAt row k = if nameB row[k] = false ∨ varB row[k] = true then 1 else if inB row[k] (row.take k) = true then 4 else 0 := by
  have e : row.getD k ⟨#[]⟩ = row[k] := by simp [List.getD, h]
  unfold rowAt
  rw [e]
theorem rows_take {row : List ByteArray} {k : Nat} (h : k < row.length) (h0 : ∀ j < k, rowAt row j = 0) (hz : rowAt row k ≠ 0) : orI ((List.range row.length).map (rowAt row)) = rowAt row k := by
  have hl : k < ((List.range row.length).map (rowAt row)).length := by simpa using h
  have hg : ((List.range row.length).map (rowAt row))[k] = rowAt row k := by simp
  rw [← hg]
  refine orI_take hl (fun z hz' => ?_) (by rw [hg]; exact hz)
  rw [List.mem_iff_getElem] at hz'
  obtain ⟨j, hj, rfl⟩ := hz'
  simp at hj ⊢
  exact h0 j (by omega)
theorem rows_none {row : List ByteArray} (h0 : ∀ j < row.length, rowAt row j = 0) : orI ((List.range row.length).map (rowAt row)) = 0 := by
  refine orI_none fun z hz => ?_
  rw [List.mem_map] at hz
  obtain ⟨j, hj, rfl⟩ := hz
  exact h0 j (by simpa using hj)
theorem rowE_once {row : List ByteArray} (h : rowE row = 0) : OnceN row := by
  intro k hk hm
  unfold rowE at h
  split at h
  · cases h
  · have key : ∀ j, j < row.length → rowAt row j = 0 := by
      intro j
      induction j using Nat.strongRecOn with
      | ind j ih =>
        intro hj
        apply Classical.byContradiction
        intro hne
        rw [rows_take hj (fun i hi => ih i hi (by omega)) hne] at h
        exact hne h
    have h1 := key k hk
    rw [rowAt_get hk] at h1
    have hin : inB row[k] (row.take k) = true := by
      unfold inB
      rw [List.any_eq_true]
      exact ⟨_, hm, by simp⟩
    rw [hin] at h1
    split at h1
    · cases h1
    · simp at h1
theorem LV.take {α : Type} {f : α → Value} {w : World} {X : Nat → Prop} {a : Option Addr} {n c : Nat} {l : List α} (h : LV f w X (.slice a n c) l) (k : Nat) (hk : k ≤ l.length) : LV f w X (.slice a k c) (l.take k) := by
  obtain ⟨a2, c2, e, ⟨h1, h2⟩, h3⟩ := h
  simp at e
  obtain ⟨rfl, rfl, rfl⟩ := e
  have hl : (l.take k).length = k := by simp; omega
  refine ⟨a, c, by rw [hl], ⟨by omega, by omega⟩, ?_⟩
  rcases h3 with h3 | ⟨b, o, e, hx, h3⟩
  · exact Or.inl (by rw [h3]; simp)
  · exact Or.inr ⟨b, o, e, hx, fun i hi => by rw [List.getElem_take]; exact h3 i (by simp at hi; omega)⟩

def RcInv (row : List ByteArray) (w : World) (i : Value) (wr : World) : Prop := ∃ k n : Nat, k ≤ row.length ∧ i = .int .i64 (k : Int) ∧ wr = w.drewN n ∧ ∀ j < k, rowAt row j = 0
set_option maxHeartbeats 4000000 in
theorem oCheck_any (row : List ByteArray) (u : Value) (w : World) (X : Nat → Prop) (hu : LV Value.string w X u row) :
    Calls Tryz.prog 32 #[u] w fun e w' => e = .returned (.int .i64 (rowE row)) ∧ Below w.heap.size w w' := by
  have HU := hide hu
  obtain ⟨a, c, rfl, ⟨hl, hlc⟩, hu⟩ := hu
  by_cases h40 : 40 < row.length
  · have h40i : (40 : Int) < (row.length : Int) := by omega
    have HR : Hid (rowE row = 3) := by unfold Hid rowE; rw [if_pos h40]
    go_enter Tryz.func32, Tryz.ntmps32
    go_wp2_with fail
    go_ret
    exact ⟨by rw [HR.out]; rfl, Below.refl _ _⟩
  · have h40i : ¬ (40 : Int) < (row.length : Int) := by omega
    have HE : Hid (rowE row = orI ((List.range row.length).map (rowAt row))) := by unfold Hid rowE; rw [if_neg h40]
    go_enter Tryz.func32, Tryz.ntmps32
    go_wp2_with fail
    go_loopw [10] (fun i wr => RcInv row w i wr) (fun i wr => row.length - (intOf i).toNat)
    case atStart => exact ⟨0, 0, Nat.zero_le _, rfl, rfl, fun j h => by omega⟩
    case round =>
      obtain ⟨k, n, hk, rfl, hwr, h0⟩ := hrel
      have H0 := hide h0
      have HWR := hide hwr
      by_cases hlt : k < row.length
      · obtain ⟨b, o, rfl, hX, hc⟩ := hu.resolve_left (fun h => by rw [h] at hlt; simp at hlt)
        have d0 : wr.cell? ⟨b, o + k, none⟩ = some (.string row[k]) := by rw [hwr]; exact hc k hlt
        have hlti : (k : Int) < (row.length : Int) := by omega
        have hkc : (k : Int) ≤ (c : Int) := by omega
        have HRA := hide (rowAt_get hlt)
        have HLT := hide (HU.out.take k (by omega))
        have HI0 : Hid (LV Value.string wr X (.slice (some ⟨b, o, none⟩) k c) (row.take k)) := by unfold Hid; rw [hwr]; exact HLT.out
        have HIN := hide (fun (n : Nat) => show LV Value.string (wr.drewN n) X (.slice (some ⟨b, o, none⟩) k c) (row.take k) from HI0.out)
        clear h0 hc hwr
        cases hn : nameB row[k] with
        | false =>
          have HR : Hid (rowE row = 1) := by unfold Hid; rw [HE.out, rows_take hlt H0.out (by rw [HRA.out, if_pos (Or.inl hn)]; decide), HRA.out, if_pos (Or.inl hn)]
          go_wp2_with (go_at_call 37; refine (isName_any _ _).mono ?_; rintro e w' ⟨rfl, rfl⟩; rw [hn])
          go_ret
          exact ⟨by rw [HR.out]; rfl, by rw [HWR.out]; exact below_drewN (Below.refl _ _) _⟩
        | true =>
          cases hv : varB row[k] with
          | true =>
            have HR : Hid (rowE row = 1) := by unfold Hid; rw [HE.out, rows_take hlt H0.out (by rw [HRA.out, if_pos (Or.inr hv)]; decide), HRA.out, if_pos (Or.inr hv)]
            go_wp2_with (first | (go_at_call 37; refine (isName_any _ _).mono ?_; rintro e w' ⟨rfl, rfl⟩; rw [hn]) | (go_at_call 38; refine (isVariable_all _ _).mono ?_; rintro e w' ⟨rfl, rfl⟩; rw [hv]))
            go_ret
            exact ⟨by rw [HR.out]; rfl, by rw [HWR.out]; exact below_drewN (Below.refl _ _) _⟩
          | false =>
            have hno : ¬ (nameB row[k] = false ∨ varB row[k] = true) := by rw [hn, hv]; simp
            cases hi : inB row[k] (row.take k) with
            | true =>
              have HR : Hid (rowE row = 4) := by unfold Hid; rw [HE.out, rows_take hlt H0.out (by rw [HRA.out, if_neg hno, if_pos hi]; decide), HRA.out, if_neg hno, if_pos hi]
              go_wp2_with (first | (go_at_call 37; refine (isName_any _ _).mono ?_; rintro e w' ⟨rfl, rfl⟩; rw [hn]) | (go_at_call 38; refine (isVariable_all _ _).mono ?_; rintro e w' ⟨rfl, rfl⟩; rw [hv]) | (go_at_call 47; refine (contains_any _ _ _ _ X HI0.out).mono ?_; rintro e w' ⟨rfl, rfl⟩; rw [hi]))
              go_ret
              exact ⟨by rw [HR.out]; rfl, by rw [HWR.out]; exact below_drewN (Below.refl _ _) _⟩
            | false =>
              have HZ : Hid (rowAt row k = 0) := by unfold Hid; rw [HRA.out, if_neg hno, if_neg (by rw [hi]; simp)]
              go_wp2_with (first | (go_at_call 37; refine (isName_any _ _).mono ?_; rintro e w' ⟨rfl, rfl⟩; rw [hn]) | (go_at_call 38; refine (isVariable_all _ _).mono ?_; rintro e w' ⟨rfl, rfl⟩; rw [hv]) | (go_at_call 47; refine (contains_any _ _ _ _ X HI0.out).mono ?_; rintro e w' ⟨rfl, rfl⟩; rw [hi]))
              go_roundw
              case rel =>
                refine ⟨k + 1, _, by omega, by go_num, HWR.out, fun j hj => ?_⟩
                by_cases e : j = k
                · subst e; exact HZ.out
                · exact H0.out j (by omega)
              case measure => simp [intOf]; omega
      · have hkk : k = row.length := by omega
        clear hwr
        have HR : Hid (rowE row = 0) := by unfold Hid; rw [HE.out]; exact rows_none (by rw [← hkk]; exact H0.out)
        go_wp2_with fail
        go_ret
        exact ⟨by rw [HR.out]; rfl, by rw [HWR.out]; exact below_drewN (Below.refl _ _) _⟩
#print axioms oCheck_any
end Go.Proofs.YteghhdogmdpbpakGreat


/- Walks: the face of package order. -/
namespace Go.Proofs.YteghhdogmdpbpakGreat
open Go.RowKit
set_option linter.unusedSimpArgs false
set_option linter.unusedVariables false
set_option maxRecDepth 8000

/-- What is wrong, first with the row, then with the terms. -/
def ordE (row : List ByteArray) (a b : Tm) : Int := if rowE row = 0 then twoE a b else rowE row
theorem ordE_zero {row : List ByteArray} {a b : Tm} (h : ordE row a b = 0) : rowE row = 0 ∧ mayE a = 0 ∧ mayE b = 0 := by
  unfold ordE at h
  split at h
  · rename_i h0
    unfold twoE at h
    split at h
    · rename_i h1
      exact ⟨h0, h1, h⟩
    · rename_i h1; exact absurd h h1
  · rename_i h0; exact absurd h h0
theorem mayE_zero {t : Tm} (h : mayE t = 0) : errL [t] = 0 ∧ sizeL [t] ≤ 200 := by
  unfold mayE at h
  split at h
  · exact absurd h (by decide)
  · exact ⟨h, by omega⟩
structure TwW (a b : Tm) (aa : Option Addr) (ca : Nat) (ab : Option Addr) (cb : Nat) (w wr : World) : Prop where
  k1 : Blk wr w.heap.size #[.string a.name, .slice aa a.args.length ca] 25
  k2 : Blk wr (w.heap.size + 1) #[.string b.name, .slice ab b.args.length cb] 25
  bl : Below w.heap.size w wr
theorem TwW.later {a b : Tm} {aa ab : Option Addr} {ca cb : Nat} {w w1 w2 : World} (h : TwW a b aa ca ab cb w w1) (hb : Below w1.heap.size w1 w2) : TwW a b aa ca ab cb w w2 := ⟨h.k1.below hb h.k1.lt, h.k2.below hb h.k2.lt, h.bl.trans (hb.mono h.bl.size)⟩
theorem TwW.start (a b : Tm) (aa : Option Addr) (ca : Nat) (ab : Option Addr) (cb : Nat) (w : World) : TwW a b aa ca ab cb w ((w.alloc (.cells #[.string a.name, .slice aa a.args.length ca] 25)).alloc (.cells #[.string b.name, .slice ab b.args.length cb] 25)) := by
  have k1 := Blk.new w #[.string a.name, .slice aa a.args.length ca] 25
  have e1 : (w.alloc (.cells #[.string a.name, .slice aa a.args.length ca] 25)).heap.size = w.heap.size + 1 := by simp
  have b1 := (Below.refl w.heap.size w).alloc (Nat.le_refl _) (.cells #[.string a.name, .slice aa a.args.length ca] 25)
  generalize (w.alloc (.cells #[.string a.name, .slice aa a.args.length ca] 25)) = w1 at *
  have k2 := Blk.new w1 #[.string b.name, .slice ab b.args.length cb] 25
  rw [e1] at k2
  exact ⟨k1.alloc _, k2, b1.alloc b1.size _⟩

set_option maxHeartbeats 2000000 in
theorem checkAll_any (row : List ByteArray) (a b : Tm) (u va vb : Value) (w : World) (X : Nat → Prop) (hu : LV Value.string w X u row) (ha : TV w X va a) (hb : TV w X vb b) :
    Calls Tryz.prog 19 #[u, va, vb] w fun e w' => e = .returned (.int .i64 (ordE row a b)) ∧ Below w.heap.size w w' := by
  have HA := hide ha
  have HB := hide hb
  have HU := hide hu
  obtain ⟨aa, ca, rfl, hsa⟩ := ha
  obtain ⟨ab, cb, rfl, hsb⟩ := hb
  clear hsa hsb hu
  have A2 := hide (TwW.start a b aa ca ab cb w)
  go_enter Tryz.func19, Tryz.ntmps19
  go_wp2_with fail
  generalize ((w.alloc (.cells #[.string a.name, .slice aa a.args.length ca] 25)).alloc (.cells #[.string b.name, .slice ab b.args.length cb] 25)) = w2 at *
  refine (oCheck_any row _ _ X (by exact HU.out.later A2.out.bl)).mono ?_
  rintro e w3 ⟨rfl, hb3⟩
  have A3 := hide (A2.out.later hb3)
  clear hb3 A2
  have r0 : w3.cell? ⟨w.heap.size, 0, none⟩ = some (.string a.name) := A3.out.k1.cell 0
  have r1 : w3.cell? ⟨w.heap.size, 1, none⟩ = some (.slice aa a.args.length ca) := A3.out.k1.cell 1
  by_cases h0 : rowE row = 0
  · have HE : Hid (ordE row a b = twoE a b) := by unfold Hid ordE; rw [if_pos h0]
    rw [h0]
    clear h0
    go_wp2_with fail
    refine (check_any a _ _ X (by exact HA.out.later A3.out.bl)).mono ?_
    rintro e w4 ⟨rfl, hb4⟩
    have A4 := hide (A3.out.later hb4)
    clear hb4 A3 r0 r1
    have s0 : w4.cell? ⟨w.heap.size + 1, 0, none⟩ = some (.string b.name) := A4.out.k2.cell 0
    have s1 : w4.cell? ⟨w.heap.size + 1, 1, none⟩ = some (.slice ab b.args.length cb) := A4.out.k2.cell 1
    by_cases h1 : mayE a = 0
    · have HE2 : Hid (ordE row a b = mayE b) := by unfold Hid; rw [HE.out]; unfold twoE; rw [if_pos h1]
      rw [h1]
      clear h1
      go_wp2_with fail
      refine (check_any b _ _ X (by exact HB.out.later A4.out.bl)).mono ?_
      rintro e w5 ⟨rfl, hb5⟩
      have A5 := hide (A4.out.later hb5)
      clear hb5 A4 s0 s1
      go_wp2_with fail
      go_ret
      exact ⟨by rw [HE2.out]; rfl, A5.out.bl⟩
    · have HE2 : Hid (ordE row a b = mayE a) := by unfold Hid; rw [HE.out]; unfold twoE; rw [if_neg h1]
      have h1' : (mayE a == 0) = false := by simpa using h1
      go_wp2_with fail
      go_ret
      exact ⟨by rw [HE2.out]; rfl, A4.out.bl⟩
  · have HE : Hid (ordE row a b = rowE row) := by unfold Hid ordE; rw [if_neg h0]
    have h0' : (rowE row == 0) = false := by simpa using h0
    go_wp2_with fail
    go_ret
    exact ⟨by rw [HE.out]; rfl, A3.out.bl⟩

set_option maxHeartbeats 2000000 in
theorem oPath_any (row : List ByteArray) (a b : Tm) (u va vb : Value) (w : World) (X : Nat → Prop) (hu : LV Value.string w X u row) (ha : TV w X va a) (hb : TV w X vb b) :
    Calls Tryz.prog 10 #[u, va, vb] w fun e w' => e = .returned (.tuple #[.bool (decide (ordE row a b = 0) && pathB row a b), .int .i64 (ordE row a b)]) ∧ Below w.heap.size w w' := by
  have HA := hide ha
  have HB := hide hb
  have HU := hide hu
  obtain ⟨aa, ca, rfl, hsa⟩ := ha
  obtain ⟨ab, cb, rfl, hsb⟩ := hb
  clear hsa hsb hu
  have A2 := hide (TwW.start a b aa ca ab cb w)
  go_enter Tryz.func10, Tryz.ntmps10
  go_wp2_with fail
  generalize ((w.alloc (.cells #[.string a.name, .slice aa a.args.length ca] 25)).alloc (.cells #[.string b.name, .slice ab b.args.length cb] 25)) = w2 at *
  refine (checkAll_any row a b _ _ _ _ X (by exact HU.out.later A2.out.bl) (by exact HA.out.later A2.out.bl) (by exact HB.out.later A2.out.bl)).mono ?_
  rintro e w3 ⟨rfl, hb3⟩
  have A3 := hide (A2.out.later hb3)
  clear hb3 A2
  have r0 : w3.cell? ⟨w.heap.size, 0, none⟩ = some (.string a.name) := A3.out.k1.cell 0
  have r1 : w3.cell? ⟨w.heap.size, 1, none⟩ = some (.slice aa a.args.length ca) := A3.out.k1.cell 1
  have s0 : w3.cell? ⟨w.heap.size + 1, 0, none⟩ = some (.string b.name) := A3.out.k2.cell 0
  have s1 : w3.cell? ⟨w.heap.size + 1, 1, none⟩ = some (.slice ab b.args.length cb) := A3.out.k2.cell 1
  by_cases h0 : ordE row a b = 0
  · have HR : Hid ((decide (ordE row a b = 0) && pathB row a b) = pathB row a b ∧ ordE row a b = 0) := by unfold Hid; rw [h0]; simp
    obtain ⟨e1, e2, e3⟩ := ordE_zero h0
    have HO := hide (rowE_once e1)
    have HA0 := hide (mayE_zero e2)
    have HB0 := hide (mayE_zero e3)
    rw [h0]
    clear h0 e1 e2 e3
    go_wp2_with fail
    refine (aPath_any row HO.out a b _ _ _ _ X HA0.out.1 HB0.out.1 (by have := HA0.out.2; omega) (by have := HB0.out.2; omega) (by exact HU.out.later A3.out.bl) (by exact HA.out.later A3.out.bl) (by exact HB.out.later A3.out.bl)).mono ?_
    rintro e w4 ⟨rfl, hb4⟩
    have A4 := hide (A3.out.later hb4)
    clear hb4 A3 r0 r1 s0 s1
    go_wp2_with fail
    go_ret2
    exact ⟨by rw [HR.out.1, HR.out.2]; rfl, A4.out.bl⟩
  · have HR : Hid ((decide (ordE row a b = 0) && pathB row a b) = false) := by unfold Hid; simp [h0]
    have h0' : (ordE row a b == 0) = false := by simpa using h0
    go_wp2_with fail
    go_ret2
    exact ⟨by rw [HR.out]; rfl, A3.out.bl⟩
#print axioms oPath_any

end Go.Proofs.YteghhdogmdpbpakGreat

/- Walks: numbers out of raw numbers. -/
namespace Go.Proofs.YteghhdogmdpbpakGreat
open Go.RowKit
set_option linter.unusedSimpArgs false
set_option linter.unusedVariables false
set_option maxRecDepth 8000

theorem mod_nat {x : Int} (hx : 0 ≤ x) {n : Nat} (hn : 0 < n) : ∃ k : Nat, x % (n : Int) = k ∧ k < n := by
  have h1 := Int.emod_nonneg x (b := (n : Int)) (by omega)
  have h2 := Int.emod_lt_of_pos x (b := (n : Int)) (by omega)
  exact ⟨(x % (n : Int)).toNat, by omega, by omega⟩

theorem pick_any (c : Int) (n : Nat) (hn : 0 < n) (hn2 : n ≤ 2000000) (hc : -9223372036854775808 ≤ c ∧ c ≤ 9223372036854775807) (w : World) :
    Calls Tryz.prog 5 #[.int .i64 c, .int .i64 (n : Int)] w fun e w' => ∃ k : Nat, e = .returned (.int .i64 (k : Int)) ∧ k < n ∧ w' = w := by
  go_enter Tryz.func5, Tryz.ntmps5
  by_cases h : c < 0
  · go_wp2_with fail
    go_ret
    obtain ⟨k, hk, hkn⟩ := mod_nat (x := -(c + 1)) (by omega) hn
    refine ⟨k, ?_, hkn, rfl⟩
    have h1 : -(c + 1).tmod (n : Int) = k := by rw [← Int.neg_tmod, Int.tmod_eq_emod_of_nonneg (by omega)]; exact hk
    simp [h1]
  · go_wp2_with fail
    go_ret
    obtain ⟨k, hk, hkn⟩ := mod_nat (x := c) (by omega) hn
    exact ⟨k, by simp [hk], hkn, rfl⟩

def pickN (c : Int) (n : Nat) : Nat := if c < 0 then (-(c + 1) % (n : Int)).toNat else (c % (n : Int)).toNat
theorem pickN_lt (c : Int) (n : Nat) (hn : 0 < n) : pickN c n < n := by
  unfold pickN
  split
  · obtain ⟨k, hk, hkn⟩ := mod_nat (x := -(c + 1)) (by omega) hn
    rw [hk]; simpa using hkn
  · obtain ⟨k, hk, hkn⟩ := mod_nat (x := c) (by omega) hn
    rw [hk]; simpa using hkn

theorem pick_eq (c : Int) (n : Nat) (hn : 0 < n) (hn2 : n ≤ 2000000) (hc : -9223372036854775808 ≤ c ∧ c ≤ 9223372036854775807) (w : World) :
    Calls Tryz.prog 5 #[.int .i64 c, .int .i64 (n : Int)] w fun e w' => e = .returned (.int .i64 (pickN c n : Int)) ∧ w' = w := by
  go_enter Tryz.func5, Tryz.ntmps5
  by_cases h : c < 0
  · have HK : Hid (((pickN c n : Nat) : Int) = -(c + 1).tmod (n : Int)) := by
      obtain ⟨k, hk, hkn⟩ := mod_nat (x := -(c + 1)) (by omega) hn
      have h1 : -(c + 1).tmod (n : Int) = k := by rw [← Int.neg_tmod, Int.tmod_eq_emod_of_nonneg (by omega)]; exact hk
      unfold Hid pickN
      rw [h1, if_pos h, hk]; simp
    go_wp2_with fail
    go_ret
    exact ⟨by simp [HK.out], rfl⟩
  · have HK : Hid (((pickN c n : Nat) : Int) = c % (n : Int)) := by
      obtain ⟨k, hk, hkn⟩ := mod_nat (x := c) (by omega) hn
      unfold Hid pickN
      rw [if_neg h, hk]; simp
    go_wp2_with fail
    go_ret
    exact ⟨by simp [HK.out], rfl⟩

theorem wrapI (x : Int) (h : -9223372036854775808 ≤ x ∧ x ≤ 9223372036854775807) : IntKind.i64.wrap x = x := by
  rw [IntKind.wrap_i64]; omega

def Rng (z : Int) : Prop := -9223372036854775808 ≤ z ∧ z ≤ 9223372036854775807

set_option maxHeartbeats 1000000 in
theorem raw_any (zs : List Int) (u : Value) (w : World) (X : Nat → Prop) (hu : PV w X u zs) (hr : ∀ z ∈ zs, Rng z) (i : Nat) (hi : i ≤ 1000000) (hzl : zs.length ≤ 1000000) :
    Calls Tryz.prog 21 #[u, .int .i64 (i : Int)] w fun e w' => ∃ k : Nat, e = .returned (.int .i64 (k : Int)) ∧ k ≤ 100000000000 ∧ Below w.heap.size w w' := by
  obtain ⟨a, c, rfl, hl, h⟩ := hu
  by_cases h0 : zs.length = 0
  · go_enter Tryz.func21, Tryz.ntmps21
    go_wp2_with fail
    go_ret
    exact ⟨i * 31, by simp, by omega, Below.refl _ _⟩
  · rcases h with h | ⟨b, o, rfl, hX, hc⟩
    · subst h; simp at h0
    · have hpos : 0 < zs.length := by omega
      obtain ⟨m, hm, hlt⟩ := mod_nat (x := (i : Int)) (by omega) hpos
      obtain ⟨d, hd, hdl⟩ : ∃ d : Nat, (i : Int) / (zs.length : Int) = d ∧ d ≤ i := ⟨i / zs.length, by simp, Nat.div_le_self _ _⟩
      have hm2 : (i : Int).tmod (zs.length : Int) = m := by rw [Int.tmod_eq_emod_of_nonneg (by omega)]; exact hm
      have hd2 : (i : Int).tdiv (zs.length : Int) = d := by rw [Int.tdiv_eq_ediv_of_nonneg (by omega)]; exact hd
      have hcc := hc m hlt
      have hrg := hr _ (List.getElem_mem hlt)
      generalize zs[m] = z at *
      have hm0 : (0 : Int) ≤ (m : Int) := by omega
      have hm1 : (m : Int) < (zs.length : Int) := by omega
      clear hc hr
      go_enter Tryz.func21, Tryz.ntmps21
      go_wp2_with fail
      go_region_held3 (fun w' => w'.cell? ⟨b, o + m, none⟩ = some (.int .i64 z)) (first | exact hcc | go_keep)
        ((go_at_call 5; refine (pick_any z 1000003 (by decide) (by decide) hrg _).mono ?_; rintro e w1 ⟨k, rfl, hk, rfl⟩))
      go_wp2_with fail
      go_ret
      refine ⟨k + d * 7919, by simp [wrapI (d : Int) (by omega), wrapI ((d : Int) * 7919) (by omega), wrapI ((k : Int) + (d : Int) * 7919) (by omega)], by omega, ?_⟩
      exact (Below.refl _ _).drew
#print axioms raw_any
#print axioms pick_any
end Go.Proofs.YteghhdogmdpbpakGreat

/- Walks: terms out of raw numbers. -/
namespace Go.Proofs.YteghhdogmdpbpakGreat
open Go.RowKit
set_option linter.unusedSimpArgs false
set_option linter.unusedVariables false
set_option maxRecDepth 8000

theorem leaf_any (s : ByteArray) (w : World) :
    Calls Tryz.prog 22 #[.string s] w fun e w' => e = .returned (.agg #[.string s, .slice none 0 0]) ∧ Below w.heap.size w w' := by
  go_enter Tryz.func22, Tryz.ntmps22
  go_wp2_with fail
  have hb := Blk.new w #[.string s, .slice none 0 0] 25
  have c0 := hb.cell 0
  have c1 := hb.cell 1
  refine bodyPost_ret (v := .agg #[.string s, .slice none 0 0]) (by simp [results, Tryz.results22, go_sem, c0, c1]) rfl ⟨rfl, (Below.refl _ _).alloc (Nat.le_refl _) _⟩

/-- How many knots at the most. -/
def top (m : Nat) : Nat := if m < 3 then 1 else 2 * m - 1

/-- No error, and no variables but the first ones. -/
def okV (nv : Nat) (l : List Tm) : Prop := errL l = 0 ∧ ∀ k ∈ preL l, varB k.name = true → k.name ∈ ([⟨#[88]⟩, ⟨#[89]⟩, ⟨#[90]⟩, ⟨#[85]⟩] : List ByteArray).take nv
def GrowPV (nv : Nat) (w : World) (i m : Nat) (e : Ending) (w' : World) : Prop :=
  ∃ (a : Option Addr) (c n : Nat) (t : Tm), e = .returned (.tuple #[.agg #[.string t.name, .slice a t.args.length c], .int .i64 (n : Int)]) ∧ Sl w' (fun b => w.heap.size ≤ b) a t.args ∧ t.args.length ≤ c ∧ c ≤ 9223372036854775807 ∧ sizeL [t] ≤ top m ∧ i ≤ n ∧ n ≤ i + top m ∧ Below w.heap.size w w' ∧ okV nv [t]

theorem top_pos (m : Nat) : 1 ≤ top m := by unfold top; split <;> omega

theorem top_step {m : Nat} (h : 3 ≤ m + 1) : top m + 1 ≤ top (m + 1) := by unfold top; split <;> split <;> omega

theorem top_half {m h : Nat} (hm : 3 ≤ m + 1) (hh : h = (m + 1) / 2) : 2 * top h + 1 ≤ top (m + 1) := by unfold top; split <;> split <;> omega

theorem err_leaf {s : ByteArray} (h : nameB s = true) : errL [(⟨s, []⟩ : Tm)] = 0 := by simp [errL, h]
theorem err_node {s : ByteArray} {l : List Tm} (h : nameB s = true) (hv : varB s = false) (hl : errL l = 0) : errL [(⟨s, l⟩ : Tm)] = 0 := by simp [errL, h, hv, hl]

theorem ok_node {nv : Nat} {s : ByteArray} {l : List Tm} (h : nameB s = true) (hv : varB s = false) (hl : okV nv l) : okV nv [(⟨s, l⟩ : Tm)] := by
  refine ⟨err_node h hv hl.1, fun k hk hvk => ?_⟩
  simp only [preL, List.append_nil, List.mem_cons] at hk
  rcases hk with rfl | hk
  · simp only at hvk
    rw [hv] at hvk; cases hvk
  · exact hl.2 k hk hvk
theorem preL_cons2 (t : Tm) (r : List Tm) : preL (t :: r) = preL [t] ++ preL r := by
  obtain ⟨s, l⟩ := t
  simp [preL]
theorem ok_two {nv : Nat} {a b : Tm} (ha : okV nv [a]) (hb : okV nv [b]) : okV nv [a, b] := by
  refine ⟨by rw [errL_cons, if_pos ha.1]; exact hb.1, fun k hk hv => ?_⟩
  rw [preL_cons2] at hk
  rcases List.mem_append.1 hk with hk | hk
  · exact ha.2 k hk hv
  · exact hb.2 k hk hv
theorem grow_leaf {nv : Nat} {w w' : World} {s : ByteArray} {i m : Nat} (hes : okV nv [(⟨s, []⟩ : Tm)]) (hb : Below w.heap.size w w') : GrowPV nv w i m (.returned (.tuple #[.agg #[.string s, .slice none 0 0], .int .i64 ((i : Int) + 1)])) w' := by
  have := top_pos m
  exact ⟨none, 0, i + 1, ⟨s, []⟩, by simp, ⟨by simp, Or.inl rfl⟩, by simp, by omega, by simp [sizeL]; omega, by omega, by omega, hb, hes⟩

theorem pick_var (w : World) (T k nv : Nat) (hk : k < nv) (hnv : nv ≤ 4) : ∃ s, okV nv [(⟨s, []⟩ : Tm)] ∧ (w.alloc (.cells #[.string ⟨#[88]⟩, .string ⟨#[89]⟩, .string ⟨#[90]⟩, .string ⟨#[85]⟩] T)).cell? ⟨w.heap.size, k, none⟩ = some (.string s) := by
  have h := heap_alloc_new w (.cells (([⟨#[88]⟩, ⟨#[89]⟩, ⟨#[90]⟩, ⟨#[85]⟩] : List ByteArray).map Value.string).toArray T)
  have hk4 : k < ([⟨#[88]⟩, ⟨#[89]⟩, ⟨#[90]⟩, ⟨#[85]⟩] : List ByteArray).length := by simp; omega
  refine ⟨([⟨#[88]⟩, ⟨#[89]⟩, ⟨#[90]⟩, ⟨#[85]⟩] : List ByteArray)[k], ⟨err_leaf ((show ∀ s ∈ ([⟨#[88]⟩, ⟨#[89]⟩, ⟨#[90]⟩, ⟨#[85]⟩] : List ByteArray), nameB s = true by decide) _ (List.getElem_mem hk4)), fun x hx _ => ?_⟩, ?_⟩
  · simp only [preL, List.append_nil, List.mem_cons, List.not_mem_nil, or_false] at hx
    rw [hx]
    rw [← List.getElem_take (h := by simp; omega) (j := nv)]
    exact List.getElem_mem _
  · have h2 := Lib.cell_of_heap h k
    refine h2.trans ?_
    rw [List.getElem?_toArray, List.getElem?_map, List.getElem?_eq_getElem hk4]
    rfl
theorem pick_const (w : World) (T k nv : Nat) (hk : k < 3) : ∃ s, okV nv [(⟨s, []⟩ : Tm)] ∧ (w.alloc (.cells #[.string ⟨#[97]⟩, .string ⟨#[98]⟩, .string ⟨#[99]⟩] T)).cell? ⟨w.heap.size, k, none⟩ = some (.string s) := by
  have h := heap_alloc_new w (.cells (([⟨#[97]⟩, ⟨#[98]⟩, ⟨#[99]⟩] : List ByteArray).map Value.string).toArray T)
  have hk4 : k < ([⟨#[97]⟩, ⟨#[98]⟩, ⟨#[99]⟩] : List ByteArray).length := by simpa using hk
  refine ⟨([⟨#[97]⟩, ⟨#[98]⟩, ⟨#[99]⟩] : List ByteArray)[k], ⟨err_leaf ((show ∀ s ∈ ([⟨#[97]⟩, ⟨#[98]⟩, ⟨#[99]⟩] : List ByteArray), nameB s = true by decide) _ (List.getElem_mem hk4)), fun x hx hv => ?_⟩, ?_⟩
  · simp only [preL, List.append_nil, List.mem_cons, List.not_mem_nil, or_false] at hx
    rw [hx] at hv
    have := (show ∀ s ∈ ([⟨#[97]⟩, ⟨#[98]⟩, ⟨#[99]⟩] : List ByteArray), varB s = false by decide) _ (List.getElem_mem hk4)
    rw [this] at hv; cases hv
  · have h2 := Lib.cell_of_heap h k
    refine h2.trans ?_
    rw [List.getElem?_toArray, List.getElem?_map, List.getElem?_eq_getElem hk4]
    rfl
theorem pick_cell (w : World) (l : List ByteArray) (T k : Nat) (hl : ∀ s ∈ l, nameB s = true) (hk : k < l.length) : ∃ s, errL [(⟨s, []⟩ : Tm)] = 0 ∧ (w.alloc (.cells (l.map Value.string).toArray T)).cell? ⟨w.heap.size, k, none⟩ = some (.string s) := by
  have h := heap_alloc_new w (.cells (l.map Value.string).toArray T)
  exact ⟨l[k], err_leaf (hl _ (List.getElem_mem hk)), by rw [Lib.cell_of_heap h]; simp [hk]⟩

theorem sl_one {w : World} {X Z : Nat → Prop} {B : Nat} {t : Tm} {a : Option Addr} {c T : Nat} (hb : w.heap[B]? = some (.cells #[.string t.name, .slice a t.args.length c] T (0, 0))) (hB : X B) (hs : Sl w Z a t.args) (hZ : ∀ b, Z b → b < w.heap.size → X b) : Sl w X (some ⟨B, 0, none⟩) [t] := by
  refine ⟨by simp, Or.inr ⟨B, 0, rfl, lies_mk _ _ _ fun i hi => ?_⟩⟩
  simp at hi
  subst hi
  exact ⟨hB, by simp [World.cell?, hb], a, c, by simp [World.cell?, hb], hs.mono hZ⟩

theorem grow_one {nv : Nat} {w w5 : World} {Z : Nat → Prop} {s : ByteArray} {i m n T : Nat} {a5 : Option Addr} {c5 : Nat} {t5 : Tm} {v0 v1 : Value} {o1 : Obj} (hB : Below w.heap.size w w5) (hlt : w.heap.size < w5.heap.size) (hs : Sl w5 Z a5 t5.args) (hZ : ∀ b, Z b → w.heap.size < b) (hz : sizeL [t5] ≤ top m) (hm : 3 ≤ m + 1) (hn : i ≤ n) (hn' : n ≤ i + 1 + top m) (hes : okV nv [(⟨s, [t5]⟩ : Tm)]) :
    GrowPV nv w i (m + 1) (.returned (.tuple #[.agg #[.string s, .slice (some ⟨w5.heap.size + 1, 0, none⟩) 1 1], .int .i64 (n : Int)])) ((((w5.setCell ⟨w.heap.size, 0, none⟩ v0).setCell ⟨w.heap.size, 1, none⟩ v1).alloc o1).alloc (.cells #[.string t5.name, .slice a5 t5.args.length c5] T)) := by
  have ht := top_step hm
  have hb0 : Below w.heap.size w (((w5.setCell ⟨w.heap.size, 0, none⟩ v0).setCell ⟨w.heap.size, 1, none⟩ v1).alloc o1) := ((hB.setCell (by simp) _).setCell (by simp) _).alloc (by simp [World.setCell]; omega) _
  refine ⟨some ⟨w5.heap.size + 1, 0, none⟩, 1, n, ⟨s, [t5]⟩, rfl, ?_, by simp, by omega, by simp [sizeL] at hz ⊢; omega, hn, by omega, hb0.alloc hb0.size _, hes⟩
  have hnew := heap_alloc_new (((w5.setCell ⟨w.heap.size, 0, none⟩ v0).setCell ⟨w.heap.size, 1, none⟩ v1).alloc o1) (.cells #[.string t5.name, .slice a5 t5.args.length c5] T)
  have e : (((w5.setCell ⟨w.heap.size, 0, none⟩ v0).setCell ⟨w.heap.size, 1, none⟩ v1).alloc o1).heap.size = w5.heap.size + 1 := by simp [World.setCell]
  rw [e] at hnew
  refine sl_one hnew (by omega) ((hs.mono (Y := fun b => Z b ∧ b < w5.heap.size) fun b h1 h2 => ⟨h1, h2⟩).kept (w' := _) fun b hb => ?_) (fun b hb _ => by have := hZ b hb.1; omega)
  have := hZ b hb.1
  rw [Below.heap_alloc _ _ _ (by rw [e]; omega), Below.heap_alloc _ _ _ (by simp [World.setCell]; omega), Below.heap_setCell _ _ _ _ (by simp; omega), Below.heap_setCell _ _ _ _ (by simp; omega)]

section
variable {P : Program} {ops : Array Oper} {Q : Exit → Act → World → Prop} {md : Region.Mode}
/-- A stronger condition held does as well. -/
theorem held_mono {S S' : World → Prop} (h : ∀ w, S' w → S w) : ∀ (fuel : Nat) (listed : Array Bool) (a : Act) (w : World), wpAnyH P md ops Q S' fuel listed a w → wpAnyH P md ops Q S fuel listed a w
  | 0, _, _, _, H => H
  | fuel + 1, listed, a, w, H => ⟨H.1, fun i hi => wpOp_mono (fun a' w' hh => ⟨h _ hh.1, held_mono h fuel _ a' w' hh.2⟩) (H.2 i hi)⟩
end

def TwoS (w5 w6 : World) (t5 t6 : Tm) (a5 a6 : Option Addr) (c5 c6 : Nat) (w' : World) : Prop :=
  Blk w' w5.heap.size #[.string t5.name, .slice a5 t5.args.length c5] 25 ∧ Blk w' w6.heap.size #[.string t6.name, .slice a6 t6.args.length c6] 25
def TwoF (w5 w6 : World) (t5 t6 : Tm) (a5 a6 : Option Addr) (c5 c6 : Nat) (b : Nat) (w' : World) : Prop :=
  TwoS w5 w6 t5 t6 a5 a6 c5 c6 w' ∧ Blk w' b #[.string ⟨#[102]⟩, .string ⟨#[103]⟩] 9
theorem TwoS.alloc {w5 w6 : World} {t5 t6 : Tm} {a5 a6 : Option Addr} {c5 c6 : Nat} {w' : World} (h : TwoS w5 w6 t5 t6 a5 a6 c5 c6 w') (o : Obj) : TwoS w5 w6 t5 t6 a5 a6 c5 c6 (w'.alloc o) := ⟨h.1.alloc o, h.2.alloc o⟩
theorem TwoF.alloc {w5 w6 : World} {t5 t6 : Tm} {a5 a6 : Option Addr} {c5 c6 b : Nat} {w' : World} (h : TwoF w5 w6 t5 t6 a5 a6 c5 c6 b w') (o : Obj) : TwoF w5 w6 t5 t6 a5 a6 c5 c6 b (w'.alloc o) := ⟨h.1.alloc o, h.2.alloc o⟩

theorem blk_at {w : World} {n : Nat} (h : w.heap.size = n) (cs : Array Value) (T : Nat) : Blk (w.alloc (.cells cs T)) n cs T := h ▸ Blk.new w cs T
theorem two_endA {w5 w6 : World} {t5 t6 : Tm} {a5 a6 : Option Addr} {c5 c6 b : Nat} (v0 v1 : Value) (A : Obj) (hX : Blk w6 w5.heap.size #[.string t5.name, .slice a5 t5.args.length c5] 25) (hne : w5.heap.size ≠ b) :
    TwoF w5 w6 t5 t6 a5 a6 c5 c6 (w6.heap.size + 1) (((((w6.setCell ⟨b, 0, none⟩ v0).setCell ⟨b, 1, none⟩ v1).alloc (.cells #[.string t6.name, .slice a6 t6.args.length c6] 25)).alloc (.cells #[.string ⟨#[102]⟩, .string ⟨#[103]⟩] 9)).alloc A) :=
  ⟨⟨(((((hX.setOther 0 v0 hne).setOther 1 v1 hne).alloc _).alloc _).alloc _), ((blk_at (by simp [World.setCell]) _ _).alloc _).alloc _⟩, (blk_at (by simp [World.setCell]) _ _).alloc _⟩
theorem two_endB {w5 w6 : World} {t5 t6 : Tm} {a5 a6 : Option Addr} {c5 c6 b : Nat} (v0 v1 : Value) (A : Obj) (hX : Blk w6 w5.heap.size #[.string t5.name, .slice a5 t5.args.length c5] 25) (hne : w5.heap.size ≠ b) :
    TwoF w5 w6 t5 t6 a5 a6 c5 c6 (w6.heap.size + 1 + 1) (((((w6.setCell ⟨b, 0, none⟩ v0).setCell ⟨b, 1, none⟩ v1).alloc (.cells #[.string t6.name, .slice a6 t6.args.length c6] 25)).alloc A).alloc (.cells #[.string ⟨#[102]⟩, .string ⟨#[103]⟩] 9)) :=
  ⟨⟨(((((hX.setOther 0 v0 hne).setOther 1 v1 hne).alloc _).alloc _).alloc _), ((blk_at (by simp [World.setCell]) _ _).alloc _).alloc _⟩, (blk_at (by simp [World.setCell]) _ _)⟩

theorem sl_two {w : World} {X Z5 Z6 : Nat → Prop} {B : Nat} {t5 t6 : Tm} {a5 a6 : Option Addr} {c5 c6 T : Nat} (hb : Blk w B #[.string t5.name, .slice a5 t5.args.length c5, .string t6.name, .slice a6 t6.args.length c6] T) (hB : X B) (h5 : Sl w Z5 a5 t5.args) (h6 : Sl w Z6 a6 t6.args) (hZ5 : ∀ b, Z5 b → b < w.heap.size → X b) (hZ6 : ∀ b, Z6 b → b < w.heap.size → X b) : Sl w X (some ⟨B, 0, none⟩) [t5, t6] := by
  refine ⟨by simp, Or.inr ⟨B, 0, rfl, lies_mk _ _ _ fun i hi => ?_⟩⟩
  have h01 : i = 0 ∨ i = 1 := by simp at hi; omega
  rcases h01 with rfl | rfl
  · exact ⟨hB, hb.cell 0, a5, c5, hb.cell 1, h5.mono hZ5⟩
  · exact ⟨hB, hb.cell 2, a6, c6, hb.cell 3, h6.mono hZ6⟩

theorem two_world {w w6 : World} {Z : Nat → Prop} {a : Option Addr} {l : List Tm} {v0 v1 : Value} {o1 o2 o3 : Obj} (hs : Sl w6 Z a l) (hZ : ∀ b, Z b → w.heap.size < b) : Sl (((((w6.setCell ⟨w.heap.size, 0, none⟩ v0).setCell ⟨w.heap.size, 1, none⟩ v1).alloc o1).alloc o2).alloc o3).drew (fun b => Z b ∧ b < w6.heap.size) a l := by
  refine (hs.mono (Y := fun b => Z b ∧ b < w6.heap.size) fun b h1 h2 => ⟨h1, h2⟩).kept fun b hb => ?_
  have := hZ b hb.1
  show ((((((w6.setCell ⟨w.heap.size, 0, none⟩ v0).setCell ⟨w.heap.size, 1, none⟩ v1).alloc o1).alloc o2).alloc o3)).heap[b]? = w6.heap[b]?
  rw [Below.heap_alloc _ _ _ (by simp [World.setCell]; omega), Below.heap_alloc _ _ _ (by simp [World.setCell]; omega), Below.heap_alloc _ _ _ (by simp [World.setCell]; omega), Below.heap_setCell _ _ _ _ (by simp; omega), Below.heap_setCell _ _ _ _ (by simp; omega)]

theorem grow_two {nv : Nat} {w w6 : World} {Z5 Z6 : Nat → Prop} {s : ByteArray} {i m n T bA : Nat} {a5 a6 : Option Addr} {c5 c6 : Nat} {t5 t6 : Tm} {v0 v1 : Value} {o1 o2 o3 : Obj} (hB : Below w.heap.size w w6) (hlt : w.heap.size < w6.heap.size) (h5 : Sl w6 Z5 a5 t5.args) (h6 : Sl w6 Z6 a6 t6.args) (hZ5 : ∀ b, Z5 b → w.heap.size < b) (hZ6 : ∀ b, Z6 b → w.heap.size < b) (hbig : i ≤ n ∧ n ≤ i + top (m + 1) ∧ sizeL [t5] + sizeL [t6] + 1 ≤ top (m + 1)) (hes : okV nv [(⟨s, [t5, t6]⟩ : Tm)]) (hbA : w6.heap.size < bA)
    (hA : Blk (((((w6.setCell ⟨w.heap.size, 0, none⟩ v0).setCell ⟨w.heap.size, 1, none⟩ v1).alloc o1).alloc o2).alloc o3).drew bA #[.string t5.name, .slice a5 t5.args.length c5, .string t6.name, .slice a6 t6.args.length c6] T) :
    GrowPV nv w i (m + 1) (.returned (.tuple #[.agg #[.string s, .slice (some ⟨bA, 0, none⟩) 2 2], .int .i64 (n : Int)])) (((((w6.setCell ⟨w.heap.size, 0, none⟩ v0).setCell ⟨w.heap.size, 1, none⟩ v1).alloc o1).alloc o2).alloc o3).drew := by
  have hb0 : Below w.heap.size w (((((w6.setCell ⟨w.heap.size, 0, none⟩ v0).setCell ⟨w.heap.size, 1, none⟩ v1).alloc o1).alloc o2).alloc o3) := ((((hB.setCell (by simp) _).setCell (by simp) _).alloc (by simp [World.setCell]; omega) _).alloc (by simp [World.setCell]; omega) _).alloc (by simp [World.setCell]; omega) _
  refine ⟨some ⟨bA, 0, none⟩, 2, n, ⟨s, [t5, t6]⟩, rfl, ?_, by simp, by omega, ?_, hbig.1, hbig.2.1, hb0.drew, hes⟩
  · exact sl_two hA (by omega) (two_world h5 hZ5) (two_world h6 hZ6) (fun b hb _ => by have := hZ5 b hb.1; omega) (fun b hb _ => by have := hZ6 b hb.1; omega)
  · have := hbig.2.2
    have e : sizeL [t5, t6] = sizeL [t5] + sizeL [t6] := sizeL_append [t5] [t6]
    have e2 : sizeL [⟨s, [t5, t6]⟩] = 1 + sizeL [t5, t6] := by simp [sizeL]
    omega

theorem two_up {w5 w6 : World} {t5 t6 : Tm} {a5 a6 : Option Addr} {c5 c6 b : Nat} {w' : World} (h : TwoS w5 w6 t5 t6 a5 a6 c5 c6 w') (hF : Blk w' b #[.string ⟨#[102]⟩, .string ⟨#[103]⟩] 9) : TwoF w5 w6 t5 t6 a5 a6 c5 c6 b w' := ⟨h, hF⟩

set_option maxHeartbeats 8000000 in
theorem growV_any (nv : Nat) (hnv : 1 ≤ nv) (hnv4 : nv ≤ 4) (zs : List Int) (hr : ∀ z ∈ zs, Rng z) (hzl : zs.length ≤ 1000000) : ∀ (m i : Nat) (u : Value) (w : World) (X : Nat → Prop), PV w X u zs → m ≤ 100 → i + top m ≤ 1000 →
    Calls Tryz.prog 12 #[u, .int .i64 (i : Int), .int .i64 (m : Int), .int .i64 (nv : Int)] w fun e w' => GrowPV nv w i m e w' := by
  have hnvI : (0 : Int) < (nv : Int) := by omega
  intro m
  induction m using Nat.strongRecOn with
  | ind m ih =>
    intro i u w X hu hm hi
    have IH := hide ih
    clear ih
    have HU := hide hu
    clear hu
    go_enter Tryz.func12, Tryz.ntmps12
    go_wp2_with fail
    refine (raw_any zs _ _ X (by exact HU.out.alloc _) hr i (by omega) hzl).mono ?_
    rintro e w1 ⟨c, rfl, hc, hb1⟩
    have B1 := hide (((Below.refl w.heap.size w).alloc (Nat.le_refl _) (.cells #[.string ⟨#[]⟩, .slice none 0 0] 25)).trans (hb1.mono (by simp)))
    have R1 := hide ((Blk.new w #[.string ⟨#[]⟩, .slice none 0 0] 25).below hb1 (by simp))
    clear hb1
    by_cases h3 : m < 3
    · go_wp2_with fail
      refine (pick_any _ 3 (by decide) (by decide) ⟨by omega, by omega⟩ _).mono ?_
      rintro e w2 ⟨k2, rfl, hk2, rfl⟩
      by_cases h2 : 0 < k2
      · go_wp2_with fail
        refine (pick_any _ nv (by omega) (by omega) ⟨by omega, by omega⟩ _).mono ?_
        rintro e w3 ⟨k3, rfl, hk3, rfl⟩
        obtain ⟨s5, hes5, hs5⟩ := pick_var w2 9 k3 nv hk3 hnv4
        have hs6 : (w2.alloc (.cells #[.string ⟨#[88]⟩, .string ⟨#[89]⟩, .string ⟨#[90]⟩, .string ⟨#[85]⟩] 9)).cell? ⟨w2.heap.size, k3, none⟩ = some (.string s5) := hs5
        have hk4 : (k3 : Int) < 4 := by omega
        clear hs5
        go_wp2_with fail
        refine (leaf_any _ _).mono ?_
        rintro e w4 ⟨rfl, hb4⟩
        have R4 := hide ((R1.out.alloc _).below hb4 (by have := R1.out.lt; simp; omega))
        have B4 := hide ((B1.out.alloc B1.out.size _).trans (hb4.mono (by have := B1.out.size; simp; omega)))
        clear hb4 hs6
        have r0 : w4.cell? ⟨w.heap.size, 0, none⟩ = some (.string ⟨#[]⟩) := R4.out.cell 0
        have r1 : w4.cell? ⟨w.heap.size, 1, none⟩ = some (.slice none 0 0) := R4.out.cell 1
        have rf := R4.out.frozen
        go_wp2_with fail
        have q0 := ((R4.out.set 0 (.string s5)).set 1 (.slice none 0 0)).cell 0
        have q1 := ((R4.out.set 0 (.string s5)).set 1 (.slice none 0 0)).cell 1
        refine bodyPost_ret (v := .tuple #[.agg #[.string s5, .slice none 0 0], .int .i64 ((i : Int) + 1)]) (by simp [results, Tryz.results12, go_sem, q0, q1, World.cell?_setCell_same, World.cell?_setCell_other, r0, r1]) rfl ?_
        exact grow_leaf hes5 ((B4.out.setCell (by simp) _).setCell (by simp) _)
      · go_wp2_with fail
        refine (pick_any _ 3 (by decide) (by decide) ⟨by omega, by omega⟩ _).mono ?_
        rintro e w3 ⟨k3, rfl, hk3, rfl⟩
        obtain ⟨s5, hes5, hs5⟩ := pick_const w2 9 k3 nv hk3
        have hs6 : (w2.alloc (.cells #[.string ⟨#[97]⟩, .string ⟨#[98]⟩, .string ⟨#[99]⟩] 9)).cell? ⟨w2.heap.size, k3, none⟩ = some (.string s5) := hs5
        have hk4 : (k3 : Int) < 3 := by omega
        clear hs5
        go_wp2_with fail
        refine (leaf_any _ _).mono ?_
        rintro e w4 ⟨rfl, hb4⟩
        have R4 := hide ((R1.out.alloc _).below hb4 (by have := R1.out.lt; simp; omega))
        have B4 := hide ((B1.out.alloc B1.out.size _).trans (hb4.mono (by have := B1.out.size; simp; omega)))
        clear hb4 hs6
        have r0 : w4.cell? ⟨w.heap.size, 0, none⟩ = some (.string ⟨#[]⟩) := R4.out.cell 0
        have r1 : w4.cell? ⟨w.heap.size, 1, none⟩ = some (.slice none 0 0) := R4.out.cell 1
        have rf := R4.out.frozen
        go_wp2_with fail
        have q0 := ((R4.out.set 0 (.string s5)).set 1 (.slice none 0 0)).cell 0
        have q1 := ((R4.out.set 0 (.string s5)).set 1 (.slice none 0 0)).cell 1
        refine bodyPost_ret (v := .tuple #[.agg #[.string s5, .slice none 0 0], .int .i64 ((i : Int) + 1)]) (by simp [results, Tryz.results12, go_sem, q0, q1, World.cell?_setCell_same, World.cell?_setCell_other, r0, r1]) rfl ?_
        exact grow_leaf hes5 ((B4.out.setCell (by simp) _).setCell (by simp) _)
    · go_wp2_with fail
      refine (pick_any _ 5 (by decide) (by decide) ⟨by omega, by omega⟩ _).mono ?_
      rintro e w1b ⟨k1, rfl, hk1, rfl⟩
      by_cases h1 : k1 < 2
      · go_wp2_with fail
        refine (pick_any _ 3 (by decide) (by decide) ⟨by omega, by omega⟩ _).mono ?_
        rintro e w2 ⟨k2, rfl, hk2, rfl⟩
        by_cases h2 : 0 < k2
        · go_wp2_with fail
          refine (pick_any _ nv (by omega) (by omega) ⟨by omega, by omega⟩ _).mono ?_
          rintro e w3 ⟨k3, rfl, hk3, rfl⟩
          obtain ⟨s5, hes5, hs5⟩ := pick_var w2 9 k3 nv hk3 hnv4
          have hs6 : (w2.alloc (.cells #[.string ⟨#[88]⟩, .string ⟨#[89]⟩, .string ⟨#[90]⟩, .string ⟨#[85]⟩] 9)).cell? ⟨w2.heap.size, k3, none⟩ = some (.string s5) := hs5
          have hk4 : (k3 : Int) < 4 := by omega
          clear hs5
          go_wp2_with fail
          refine (leaf_any _ _).mono ?_
          rintro e w4 ⟨rfl, hb4⟩
          have R4 := hide ((R1.out.alloc _).below hb4 (by have := R1.out.lt; simp; omega))
          have B4 := hide ((B1.out.alloc B1.out.size _).trans (hb4.mono (by have := B1.out.size; simp; omega)))
          clear hb4 hs6
          have r0 : w4.cell? ⟨w.heap.size, 0, none⟩ = some (.string ⟨#[]⟩) := R4.out.cell 0
          have r1 : w4.cell? ⟨w.heap.size, 1, none⟩ = some (.slice none 0 0) := R4.out.cell 1
          have rf := R4.out.frozen
          go_wp2_with fail
          have q0 := ((R4.out.set 0 (.string s5)).set 1 (.slice none 0 0)).cell 0
          have q1 := ((R4.out.set 0 (.string s5)).set 1 (.slice none 0 0)).cell 1
          refine bodyPost_ret (v := .tuple #[.agg #[.string s5, .slice none 0 0], .int .i64 ((i : Int) + 1)]) (by simp [results, Tryz.results12, go_sem, q0, q1, World.cell?_setCell_same, World.cell?_setCell_other, r0, r1]) rfl ?_
          exact grow_leaf hes5 ((B4.out.setCell (by simp) _).setCell (by simp) _)
        · go_wp2_with fail
          refine (pick_any _ 3 (by decide) (by decide) ⟨by omega, by omega⟩ _).mono ?_
          rintro e w3 ⟨k3, rfl, hk3, rfl⟩
          obtain ⟨s5, hes5, hs5⟩ := pick_const w2 9 k3 nv hk3
          have hs6 : (w2.alloc (.cells #[.string ⟨#[97]⟩, .string ⟨#[98]⟩, .string ⟨#[99]⟩] 9)).cell? ⟨w2.heap.size, k3, none⟩ = some (.string s5) := hs5
          have hk4 : (k3 : Int) < 3 := by omega
          clear hs5
          go_wp2_with fail
          refine (leaf_any _ _).mono ?_
          rintro e w4 ⟨rfl, hb4⟩
          have R4 := hide ((R1.out.alloc _).below hb4 (by have := R1.out.lt; simp; omega))
          have B4 := hide ((B1.out.alloc B1.out.size _).trans (hb4.mono (by have := B1.out.size; simp; omega)))
          clear hb4 hs6
          have r0 : w4.cell? ⟨w.heap.size, 0, none⟩ = some (.string ⟨#[]⟩) := R4.out.cell 0
          have r1 : w4.cell? ⟨w.heap.size, 1, none⟩ = some (.slice none 0 0) := R4.out.cell 1
          have rf := R4.out.frozen
          go_wp2_with fail
          have q0 := ((R4.out.set 0 (.string s5)).set 1 (.slice none 0 0)).cell 0
          have q1 := ((R4.out.set 0 (.string s5)).set 1 (.slice none 0 0)).cell 1
          refine bodyPost_ret (v := .tuple #[.agg #[.string s5, .slice none 0 0], .int .i64 ((i : Int) + 1)]) (by simp [results, Tryz.results12, go_sem, q0, q1, World.cell?_setCell_same, World.cell?_setCell_other, r0, r1]) rfl ?_
          exact grow_leaf hes5 ((B4.out.setCell (by simp) _).setCell (by simp) _)
      · go_wp2_with fail
        refine (pick_eq ((c : Int) / 5) 4 (by decide) (by decide) ⟨by omega, by omega⟩ _).mono ?_
        rintro e w2 ⟨rfl, rfl⟩
        have hk4 := pickN_lt ((c : Int) / 5) 4 (by decide)
        generalize hke : pickN ((c : Int) / 5) 4 = k4 at *
        have HKE := hide hke
        clear hke
        obtain ⟨m, rfl⟩ : ∃ m', m = m' + 1 := ⟨m - 1, by omega⟩
        by_cases h40 : k4 = 0
        · subst h40
          go_wp2_with fail
          refine (IH.out m (by omega) (i + 1) _ _ X (by exact HU.out.later B1.out) (by omega) (by have := top_step (m := m) (by omega); omega)).mono ?_
          rintro e w5 ⟨a5, c5, n5, t5, rfl, hs5, hc5, hc5', hz5, hn5, hn5', hb5, he5⟩
          have R5 := hide (R1.out.below hb5 R1.out.lt)
          have B5 := hide (B1.out.trans (hb5.mono B1.out.size))
          have S5 := hide hs5
          have HE5 := hide he5
          clear he5
          have hlt5 : w.heap.size < w5.heap.size := R5.out.lt
          clear hb5 hs5
          have r0 : w5.cell? ⟨w.heap.size, 0, none⟩ = some (.string ⟨#[]⟩) := R5.out.cell 0
          have r1 : w5.cell? ⟨w.heap.size, 1, none⟩ = some (.slice none 0 0) := R5.out.cell 1
          have rf := R5.out.frozen
          go_wp2_with fail
          refine bodyPost_ret (v := .tuple #[.agg #[.string ⟨#[104]⟩, .slice (some ⟨w5.heap.size + 1, 0, none⟩) 1 1], .int .i64 (n5 : Int)]) (by simp [results, Tryz.results12, go_sem, World.cell?_setCell_same, World.cell?_setCell_other, r0, r1, hlt5, World.cell?_alloc_old]) rfl ?_
          exact grow_one B5.out hlt5 S5.out (fun b hb => Nat.lt_of_lt_of_le R1.out.lt hb) hz5 (by omega) (by omega) (by omega) (ok_node (by decide) (by decide) HE5.out)
        · by_cases h41 : k4 = 1
          · subst h41
            go_wp2_with fail
            refine (IH.out m (by omega) (i + 1) _ _ X (by exact HU.out.later B1.out) (by omega) (by have := top_step (m := m) (by omega); omega)).mono ?_
            rintro e w5 ⟨a5, c5, n5, t5, rfl, hs5, hc5, hc5', hz5, hn5, hn5', hb5, he5⟩
            have R5 := hide (R1.out.below hb5 R1.out.lt)
            have B5 := hide (B1.out.trans (hb5.mono B1.out.size))
            have S5 := hide hs5
            have HE5 := hide he5
            clear he5
            have hlt5 : w.heap.size < w5.heap.size := R5.out.lt
            clear hb5 hs5
            have r0 : w5.cell? ⟨w.heap.size, 0, none⟩ = some (.string ⟨#[]⟩) := R5.out.cell 0
            have r1 : w5.cell? ⟨w.heap.size, 1, none⟩ = some (.slice none 0 0) := R5.out.cell 1
            have rf := R5.out.frozen
            go_wp2_with fail
            refine bodyPost_ret (v := .tuple #[.agg #[.string ⟨#[107]⟩, .slice (some ⟨w5.heap.size + 1, 0, none⟩) 1 1], .int .i64 (n5 : Int)]) (by simp [results, Tryz.results12, go_sem, World.cell?_setCell_same, World.cell?_setCell_other, r0, r1, hlt5, World.cell?_alloc_old]) rfl ?_
            exact grow_one B5.out hlt5 S5.out (fun b hb => Nat.lt_of_lt_of_le R1.out.lt hb) hz5 (by omega) (by omega) (by omega) (ok_node (by decide) (by decide) HE5.out)
          · have h42 : 2 ≤ k4 := by omega
            obtain ⟨h, hh, hh2⟩ : ∃ h : Nat, ((m : Int) + 1) / 2 = h ∧ h = (m + 1) / 2 := ⟨(m + 1) / 2, by omega, rfl⟩
            have hth := top_half (m := m) (by omega) hh2
            have HH2 := hide hh2
            have hhb : h < m + 1 ∧ h ≤ 100 := by omega
            clear hh2
            go_wp2_with fail
            refine (IH.out h (by omega) (i + 1) _ _ X (by exact HU.out.later B1.out) (by omega) (by omega)).mono ?_
            rintro e w5 ⟨a5, c5, n5, t5, rfl, hs5, hc5, hc5', hz5, hn5, hn5', hb5, he5⟩
            have R5 := hide (R1.out.below hb5 R1.out.lt)
            have B5 := hide (B1.out.trans (hb5.mono B1.out.size))
            have S5 := hide hs5
            have HE5 := hide he5
            clear he5
            have X5 := hide (Blk.new w5 #[.string t5.name, .slice a5 t5.args.length c5] 25)
            have hlt5 : w.heap.size < w5.heap.size := R5.out.lt
            clear hb5 hs5
            go_wp2_with fail
            refine (IH.out h (by omega) n5 _ _ X (by exact HU.out.later (B5.out.alloc B5.out.size _)) (by omega) (by omega)).mono ?_
            rintro e w6 ⟨a6, c6, n6, t6, rfl, hs6, hc6, hc6', hz6, hn6, hn6', hb6, he6⟩
            have R6 := hide ((R5.out.alloc _).below hb6 (by simp; omega))
            have X6 := hide (X5.out.below hb6 (by simp))
            have B6 := hide ((B5.out.alloc B5.out.size _).trans (hb6.mono (by have := B5.out.size; simp; omega)))
            have S56 := hide ((S5.out.later ((Below.refl w5.heap.size w5).alloc (Nat.le_refl _) _)).later hb6)
            have S6 := hide hs6
            have HE6 := hide he6
            clear he6
            have hlt6 : w5.heap.size < w6.heap.size := X6.out.lt
            clear hb6 hs6
            go_wp2_with fail
            have Y6 := hide (Blk.new w6 #[.string t6.name, .slice a6 t6.args.length c6] 25)
            have x0 : ∀ o, (w6.alloc o).cell? ⟨w5.heap.size, 0, none⟩ = some (.string t5.name) := fun o => (X6.out.alloc o).cell 0
            have x1 : ∀ o, (w6.alloc o).cell? ⟨w5.heap.size, 1, none⟩ = some (.slice a5 t5.args.length c5) := fun o => (X6.out.alloc o).cell 1
            have y0 := Y6.out.cell 0
            have y1 := Y6.out.cell 1
            have r0 : w6.cell? ⟨w.heap.size, 0, none⟩ = some (.string ⟨#[]⟩) := R6.out.cell 0
            have r1 : w6.cell? ⟨w.heap.size, 1, none⟩ = some (.slice none 0 0) := R6.out.cell 1
            have rf := R6.out.frozen
            have HWR : Hid (IntKind.i64.wrap ((c : Int) / 5) = (c : Int) / 5) := wrapI _ ⟨by omega, by omega⟩
            have HPK : Hid (∀ w', Calls Tryz.prog 5 #[.int .i64 (IntKind.i64.wrap ((c : Int) / 5)), .int .i64 4] w' fun e w'' => e = .returned (.int .i64 (k4 : Int)) ∧ w'' = w') := fun w' => by
              have h1 := pick_eq ((c : Int) / 5) 4 (by decide) (by decide) ⟨by omega, by omega⟩ w'
              rw [HKE.out] at h1
              rw [HWR.out]
              exact h1
            have HBIG : Hid (i ≤ n6 ∧ n6 ≤ i + top (m + 1) ∧ sizeL [t5] + sizeL [t6] + 1 ≤ top (m + 1)) := ⟨by omega, by omega, by omega⟩
            have hw0 : IntKind.i64.wrap 0 = 0 := by decide
            have hw1 : IntKind.i64.wrap 1 = 1 := by decide
            have hlt56 : w.heap.size < w6.heap.size := by omega
            have hlt57 : w.heap.size < w6.heap.size + 1 := by omega
            have hlt58 : w.heap.size < w6.heap.size + 1 + 1 := by omega
            have r30 : ∀ o1 o2 o3, (((w6.alloc o1).alloc o2).alloc o3).cell? ⟨w.heap.size, 0, none⟩ = some (.string ⟨#[]⟩) := fun o1 o2 o3 => (((R6.out.alloc o1).alloc o2).alloc o3).cell 0
            have r31 : ∀ o1 o2 o3, (((w6.alloc o1).alloc o2).alloc o3).cell? ⟨w.heap.size, 1, none⟩ = some (.slice none 0 0) := fun o1 o2 o3 => (((R6.out.alloc o1).alloc o2).alloc o3).cell 1
            have r3f : ∀ o1 o2 o3 i, (((w6.alloc o1).alloc o2).alloc o3).frozen? ⟨w.heap.size, i, none⟩ = false := fun o1 o2 o3 => (((R6.out.alloc o1).alloc o2).alloc o3).frozen
            have HZ6 : Hid (∀ b, (w5.alloc (.cells #[.string t5.name, .slice a5 t5.args.length c5] 25)).heap.size ≤ b → w.heap.size < b) := fun b hb => by
              simp at hb
              omega
            obtain rfl | rfl : k4 = 2 ∨ k4 = 3 := by omega
            · clear hth hhb hh hn6 hn6' hz6 hz5 hn5 hn5' hc5 hc5' hc6 hc6' hi hm hc hr hzl h42 h41 h40 hk4 h1 hk1 h3
              have HS0 : TwoS w5 w6 t5 t6 a5 a6 c5 c6 (w6.alloc (.cells #[.string t6.name, .slice a6 t6.args.length c6] 25)).drew := ⟨X6.out.alloc _, Y6.out⟩
              refine wp_region_held_drew (S := TwoS w5 w6 t5 t6 a5 a6 c5 c6) (by kernel_rfl) HS0 (fun hHeld => ?_)
              refine wpAnyH_take (i := 1) (v := ?_) rfl (by kernel_rfl) (by kernel_rfl) (by kernel_rfl) (fun _ _ _ h => h) (Or.inl ⟨by rfl, ?_⟩) (by assumption) ?_
              rotate_left
              · intro w' hSw
                go_simp <;> with_reducible rfl
              try simp only [Act.put, List.setIfInBounds_toArray, List.set_cons_zero, List.set_cons_succ, List.getElem_toArray, List.getElem_cons_succ, List.getElem_cons_zero]
              refine wpAnyH_take (i := 2) (v := ?_) rfl (by kernel_rfl) (by kernel_rfl) (by kernel_rfl) (fun _ _ _ h => h) (Or.inl ⟨by rfl, ?_⟩) (by assumption) ?_
              rotate_left
              · intro w' hSw
                go_simp <;> with_reducible rfl
              try simp only [Act.put, List.setIfInBounds_toArray, List.set_cons_zero, List.set_cons_succ, List.getElem_toArray, List.getElem_cons_succ, List.getElem_cons_zero]
              refine wpAnyH_take (i := 7) (v := ?_) rfl (by kernel_rfl) (by kernel_rfl) (by kernel_rfl) (fun _ _ _ h => h) (Or.inl ⟨by rfl, ?_⟩) (by assumption) ?_
              rotate_left
              · intro w' hSw
                have k0 : w'.cell? ⟨w5.heap.size, 0, none⟩ = some (.string t5.name) := hSw.1.cell 0
                have k1 : w'.cell? ⟨w5.heap.size, 1, none⟩ = some (.slice a5 t5.args.length c5) := hSw.1.cell 1
                go_simp <;> with_reducible rfl
              try simp only [Act.put, List.setIfInBounds_toArray, List.set_cons_zero, List.set_cons_succ, List.getElem_toArray, List.getElem_cons_succ, List.getElem_cons_zero]
              refine wpAnyH_take (i := 8) (v := ?_) rfl (by kernel_rfl) (by kernel_rfl) (by kernel_rfl) (fun _ _ _ h => h) (Or.inl ⟨by rfl, ?_⟩) (by assumption) ?_
              rotate_left
              · intro w' hSw
                have k2 : w'.cell? ⟨w6.heap.size, 0, none⟩ = some (.string t6.name) := hSw.2.cell 0
                have k3 : w'.cell? ⟨w6.heap.size, 1, none⟩ = some (.slice a6 t6.args.length c6) := hSw.2.cell 1
                go_simp <;> with_reducible rfl
              try simp only [Act.put, List.setIfInBounds_toArray, List.set_cons_zero, List.set_cons_succ, List.getElem_toArray, List.getElem_cons_succ, List.getElem_cons_zero]
              refine wpAnyH_take (i := 11) (v := ?_) rfl (by kernel_rfl) (by kernel_rfl) (by kernel_rfl) (fun _ _ _ h => h) (Or.inl ⟨by rfl, ?_⟩) (by assumption) ?_
              rotate_left
              · intro w' hSw
                go_simp <;> with_reducible rfl
              try simp only [Act.put, List.setIfInBounds_toArray, List.set_cons_zero, List.set_cons_succ, List.getElem_toArray, List.getElem_cons_succ, List.getElem_cons_zero]
              refine wpAnyH_ready (rs := [0, 3, 9]) (by kernel_rfl) (by simp) ?_
              refine AllReadyH.cons rfl (fun K hK => ?_) (AllReadyH.cons rfl (fun K hK => ?_) (AllReadyH.cons rfl (fun K hK => ?_) AllReadyH.nil))
              · go_simp
                refine hK.out _ _ (by exact hHeld.alloc _) (fun hHeld => ?_)
                clear hK K
                try simp only [Act.put, List.setIfInBounds_toArray, List.set_cons_zero, List.set_cons_succ, List.getElem_toArray, List.getElem_cons_succ, List.getElem_cons_zero]
                refine held_mono (S' := TwoF w5 w6 t5 t6 a5 a6 c5 c6 (w6.heap.size + 1)) (fun _ h => h.1) _ _ _ _ ?_
                replace hHeld := two_up (b := w6.heap.size + 1) hHeld (by exact blk_at (w := w6.alloc (.cells #[.string t6.name, .slice a6 t6.args.length c6] 25)) (by simp) _ _)
                refine wpAnyH_ready (rs := [3, 9]) (by kernel_rfl) (by simp) ?_
                refine AllReadyH.cons rfl (fun K hK => ?_) (AllReadyH.cons rfl (fun K hK => ?_) AllReadyH.nil)
                · go_simp
                  go_at_call 5
                  refine (HPK.out _).mono ?_
                  rintro e w7 ⟨rfl, rfl⟩
                  go_simp
                  refine hK.out _ _ (by exact hHeld) (fun hHeld => ?_)
                  clear hK K
                  try simp only [Act.put, List.setIfInBounds_toArray, List.set_cons_zero, List.set_cons_succ, List.getElem_toArray, List.getElem_cons_succ, List.getElem_cons_zero]
                  refine wpAnyH_take (i := 4) (v := ?_) rfl (by kernel_rfl) (by kernel_rfl) (by kernel_rfl) (fun _ _ _ h => h) (Or.inl ⟨by rfl, ?_⟩) (by assumption) ?_
                  rotate_left
                  · intro w' hSw
                    go_simp <;> with_reducible rfl
                  try simp only [Act.put, List.setIfInBounds_toArray, List.set_cons_zero, List.set_cons_succ, List.getElem_toArray, List.getElem_cons_succ, List.getElem_cons_zero]
                  refine wpAnyH_take (i := 5) (v := ?_) rfl (by kernel_rfl) (by kernel_rfl) (by kernel_rfl) (fun _ _ _ h => h) (Or.inl ⟨by rfl, ?_⟩) (by assumption) ?_
                  rotate_left
                  · intro w' hSw
                    go_simp <;> with_reducible rfl
                  try simp only [Act.put, List.setIfInBounds_toArray, List.set_cons_zero, List.set_cons_succ, List.getElem_toArray, List.getElem_cons_succ, List.getElem_cons_zero]
                  refine wpAnyH_take (i := 6) (v := ?_) rfl (by kernel_rfl) (by kernel_rfl) (by kernel_rfl) (fun _ _ _ h => h) (Or.inl ⟨by rfl, ?_⟩) (by assumption) ?_
                  rotate_left
                  · intro w' hSw
                    have k4 : w'.cell? ⟨w6.heap.size + 1, 0, none⟩ = some (.string ⟨#[102]⟩) := hSw.2.cell 0
                    have k5 : w'.cell? ⟨w6.heap.size + 1, 1, none⟩ = some (.string ⟨#[103]⟩) := hSw.2.cell 1
                    go_simp <;> with_reducible rfl
                  try simp only [Act.put, List.setIfInBounds_toArray, List.set_cons_zero, List.set_cons_succ, List.getElem_toArray, List.getElem_cons_succ, List.getElem_cons_zero]
                  refine wpAnyH_ready (rs := [9]) (by kernel_rfl) (by simp) ?_
                  refine AllReadyH.cons rfl (fun K hK => ?_) AllReadyH.nil
                  · go_simp
                    refine hK.out _ _ (by exact hHeld.alloc _) (fun hHeld => ?_)
                    clear hK K
                    try simp only [Act.put, List.setIfInBounds_toArray, List.set_cons_zero, List.set_cons_succ, List.getElem_toArray, List.getElem_cons_succ, List.getElem_cons_zero]
                    refine wpAnyH_take (i := 10) (v := ?_) rfl (by kernel_rfl) (by kernel_rfl) (by kernel_rfl) (fun _ _ _ h => h) (Or.inl ⟨by rfl, ?_⟩) (by assumption) ?_
                    rotate_left
                    · intro w' hSw
                      go_simp <;> with_reducible rfl
                    try simp only [Act.put, List.setIfInBounds_toArray, List.set_cons_zero, List.set_cons_succ, List.getElem_toArray, List.getElem_cons_succ, List.getElem_cons_zero]
                    refine wpAnyH_ready (rs := [12]) (by kernel_rfl) (by simp) ?_
                    refine AllReadyH.cons rfl (fun K hK => ?_) AllReadyH.nil
                    · go_simp
                      refine hK.out _ _ (by exact two_endA _ _ _ X6.out (Nat.ne_of_gt hlt5)) (fun hHeld => ?_)
                      clear hK K
                      try simp only [Act.put, List.setIfInBounds_toArray, List.set_cons_zero, List.set_cons_succ, List.getElem_toArray, List.getElem_cons_succ, List.getElem_cons_zero]
                      refine wpAnyH_take (i := 13) (v := ?_) rfl (by kernel_rfl) (by kernel_rfl) (by kernel_rfl) (fun _ _ _ h => h) (Or.inl ⟨by rfl, ?_⟩) (by assumption) ?_
                      rotate_left
                      · intro w' hSw
                        go_simp <;> with_reducible rfl
                      try simp only [Act.put, List.setIfInBounds_toArray, List.set_cons_zero, List.set_cons_succ, List.getElem_toArray, List.getElem_cons_succ, List.getElem_cons_zero]
                      refine wpAnyH_done (by kernel_rfl) ?_ _
                      go_wp2_with fail
                      refine bodyPost_ret (v := .tuple #[.agg #[.string ⟨#[102]⟩, .slice (some ⟨w6.heap.size + 1 + 1, 0, none⟩) 2 2], .int .i64 (n6 : Int)]) (by simp [results, Tryz.results12, go_sem, World.cell?_setCell_same, World.cell?_setCell_other, r0, r1, hlt56, hlt57, hlt58, World.cell?_alloc_old]) rfl ?_
                      exact grow_two B6.out hlt56 S56.out S6.out (fun b hb => Nat.lt_of_lt_of_le R1.out.lt hb) HZ6.out HBIG.out (ok_node (by decide) (by decide) (ok_two HE5.out HE6.out)) (by omega) (by exact blk_at (by simp [World.setCell]) _ _)
                · go_simp
                  refine hK.out _ _ (by exact hHeld.alloc _) (fun hHeld => ?_)
                  clear hK K
                  try simp only [Act.put, List.setIfInBounds_toArray, List.set_cons_zero, List.set_cons_succ, List.getElem_toArray, List.getElem_cons_succ, List.getElem_cons_zero]
                  refine wpAnyH_ready (rs := [3]) (by kernel_rfl) (by simp) ?_
                  refine AllReadyH.cons rfl (fun K hK => ?_) AllReadyH.nil
                  · go_simp
                    go_at_call 5
                    refine (HPK.out _).mono ?_
                    rintro e w7 ⟨rfl, rfl⟩
                    go_simp
                    refine hK.out _ _ (by exact hHeld) (fun hHeld => ?_)
                    clear hK K
                    try simp only [Act.put, List.setIfInBounds_toArray, List.set_cons_zero, List.set_cons_succ, List.getElem_toArray, List.getElem_cons_succ, List.getElem_cons_zero]
                    refine wpAnyH_take (i := 4) (v := ?_) rfl (by kernel_rfl) (by kernel_rfl) (by kernel_rfl) (fun _ _ _ h => h) (Or.inl ⟨by rfl, ?_⟩) (by assumption) ?_
                    rotate_left
                    · intro w' hSw
                      go_simp <;> with_reducible rfl
                    try simp only [Act.put, List.setIfInBounds_toArray, List.set_cons_zero, List.set_cons_succ, List.getElem_toArray, List.getElem_cons_succ, List.getElem_cons_zero]
                    refine wpAnyH_take (i := 5) (v := ?_) rfl (by kernel_rfl) (by kernel_rfl) (by kernel_rfl) (fun _ _ _ h => h) (Or.inl ⟨by rfl, ?_⟩) (by assumption) ?_
                    rotate_left
                    · intro w' hSw
                      go_simp <;> with_reducible rfl
                    try simp only [Act.put, List.setIfInBounds_toArray, List.set_cons_zero, List.set_cons_succ, List.getElem_toArray, List.getElem_cons_succ, List.getElem_cons_zero]
                    refine wpAnyH_take (i := 6) (v := ?_) rfl (by kernel_rfl) (by kernel_rfl) (by kernel_rfl) (fun _ _ _ h => h) (Or.inl ⟨by rfl, ?_⟩) (by assumption) ?_
                    rotate_left
                    · intro w' hSw
                      have k4 : w'.cell? ⟨w6.heap.size + 1, 0, none⟩ = some (.string ⟨#[102]⟩) := hSw.2.cell 0
                      have k5 : w'.cell? ⟨w6.heap.size + 1, 1, none⟩ = some (.string ⟨#[103]⟩) := hSw.2.cell 1
                      go_simp <;> with_reducible rfl
                    try simp only [Act.put, List.setIfInBounds_toArray, List.set_cons_zero, List.set_cons_succ, List.getElem_toArray, List.getElem_cons_succ, List.getElem_cons_zero]
                    refine wpAnyH_take (i := 10) (v := ?_) rfl (by kernel_rfl) (by kernel_rfl) (by kernel_rfl) (fun _ _ _ h => h) (Or.inl ⟨by rfl, ?_⟩) (by assumption) ?_
                    rotate_left
                    · intro w' hSw
                      go_simp <;> with_reducible rfl
                    try simp only [Act.put, List.setIfInBounds_toArray, List.set_cons_zero, List.set_cons_succ, List.getElem_toArray, List.getElem_cons_succ, List.getElem_cons_zero]
                    refine wpAnyH_ready (rs := [12]) (by kernel_rfl) (by simp) ?_
                    refine AllReadyH.cons rfl (fun K hK => ?_) AllReadyH.nil
                    · go_simp
                      refine hK.out _ _ (by exact two_endA _ _ _ X6.out (Nat.ne_of_gt hlt5)) (fun hHeld => ?_)
                      clear hK K
                      try simp only [Act.put, List.setIfInBounds_toArray, List.set_cons_zero, List.set_cons_succ, List.getElem_toArray, List.getElem_cons_succ, List.getElem_cons_zero]
                      refine wpAnyH_take (i := 13) (v := ?_) rfl (by kernel_rfl) (by kernel_rfl) (by kernel_rfl) (fun _ _ _ h => h) (Or.inl ⟨by rfl, ?_⟩) (by assumption) ?_
                      rotate_left
                      · intro w' hSw
                        go_simp <;> with_reducible rfl
                      try simp only [Act.put, List.setIfInBounds_toArray, List.set_cons_zero, List.set_cons_succ, List.getElem_toArray, List.getElem_cons_succ, List.getElem_cons_zero]
                      refine wpAnyH_done (by kernel_rfl) ?_ _
                      go_wp2_with fail
                      refine bodyPost_ret (v := .tuple #[.agg #[.string ⟨#[102]⟩, .slice (some ⟨w6.heap.size + 1 + 1, 0, none⟩) 2 2], .int .i64 (n6 : Int)]) (by simp [results, Tryz.results12, go_sem, World.cell?_setCell_same, World.cell?_setCell_other, r0, r1, hlt56, hlt57, hlt58, World.cell?_alloc_old]) rfl ?_
                      exact grow_two B6.out hlt56 S56.out S6.out (fun b hb => Nat.lt_of_lt_of_le R1.out.lt hb) HZ6.out HBIG.out (ok_node (by decide) (by decide) (ok_two HE5.out HE6.out)) (by omega) (by exact blk_at (by simp [World.setCell]) _ _)
              · go_simp
                go_at_call 5
                refine (HPK.out _).mono ?_
                rintro e w7 ⟨rfl, rfl⟩
                go_simp
                refine hK.out _ _ (by exact hHeld) (fun hHeld => ?_)
                clear hK K
                try simp only [Act.put, List.setIfInBounds_toArray, List.set_cons_zero, List.set_cons_succ, List.getElem_toArray, List.getElem_cons_succ, List.getElem_cons_zero]
                refine wpAnyH_take (i := 4) (v := ?_) rfl (by kernel_rfl) (by kernel_rfl) (by kernel_rfl) (fun _ _ _ h => h) (Or.inl ⟨by rfl, ?_⟩) (by assumption) ?_
                rotate_left
                · intro w' hSw
                  go_simp <;> with_reducible rfl
                try simp only [Act.put, List.setIfInBounds_toArray, List.set_cons_zero, List.set_cons_succ, List.getElem_toArray, List.getElem_cons_succ, List.getElem_cons_zero]
                refine wpAnyH_ready (rs := [0, 9]) (by kernel_rfl) (by simp) ?_
                refine AllReadyH.cons rfl (fun K hK => ?_) (AllReadyH.cons rfl (fun K hK => ?_) AllReadyH.nil)
                · go_simp
                  refine hK.out _ _ (by exact hHeld.alloc _) (fun hHeld => ?_)
                  clear hK K
                  try simp only [Act.put, List.setIfInBounds_toArray, List.set_cons_zero, List.set_cons_succ, List.getElem_toArray, List.getElem_cons_succ, List.getElem_cons_zero]
                  refine held_mono (S' := TwoF w5 w6 t5 t6 a5 a6 c5 c6 (w6.heap.size + 1)) (fun _ h => h.1) _ _ _ _ ?_
                  replace hHeld := two_up (b := w6.heap.size + 1) hHeld (by exact blk_at (w := w6.alloc (.cells #[.string t6.name, .slice a6 t6.args.length c6] 25)) (by simp) _ _)
                  refine wpAnyH_take (i := 5) (v := ?_) rfl (by kernel_rfl) (by kernel_rfl) (by kernel_rfl) (fun _ _ _ h => h) (Or.inl ⟨by rfl, ?_⟩) (by assumption) ?_
                  rotate_left
                  · intro w' hSw
                    go_simp <;> with_reducible rfl
                  try simp only [Act.put, List.setIfInBounds_toArray, List.set_cons_zero, List.set_cons_succ, List.getElem_toArray, List.getElem_cons_succ, List.getElem_cons_zero]
                  refine wpAnyH_take (i := 6) (v := ?_) rfl (by kernel_rfl) (by kernel_rfl) (by kernel_rfl) (fun _ _ _ h => h) (Or.inl ⟨by rfl, ?_⟩) (by assumption) ?_
                  rotate_left
                  · intro w' hSw
                    have k4 : w'.cell? ⟨w6.heap.size + 1, 0, none⟩ = some (.string ⟨#[102]⟩) := hSw.2.cell 0
                    have k5 : w'.cell? ⟨w6.heap.size + 1, 1, none⟩ = some (.string ⟨#[103]⟩) := hSw.2.cell 1
                    go_simp <;> with_reducible rfl
                  try simp only [Act.put, List.setIfInBounds_toArray, List.set_cons_zero, List.set_cons_succ, List.getElem_toArray, List.getElem_cons_succ, List.getElem_cons_zero]
                  refine wpAnyH_ready (rs := [9]) (by kernel_rfl) (by simp) ?_
                  refine AllReadyH.cons rfl (fun K hK => ?_) AllReadyH.nil
                  · go_simp
                    refine hK.out _ _ (by exact hHeld.alloc _) (fun hHeld => ?_)
                    clear hK K
                    try simp only [Act.put, List.setIfInBounds_toArray, List.set_cons_zero, List.set_cons_succ, List.getElem_toArray, List.getElem_cons_succ, List.getElem_cons_zero]
                    refine wpAnyH_take (i := 10) (v := ?_) rfl (by kernel_rfl) (by kernel_rfl) (by kernel_rfl) (fun _ _ _ h => h) (Or.inl ⟨by rfl, ?_⟩) (by assumption) ?_
                    rotate_left
                    · intro w' hSw
                      go_simp <;> with_reducible rfl
                    try simp only [Act.put, List.setIfInBounds_toArray, List.set_cons_zero, List.set_cons_succ, List.getElem_toArray, List.getElem_cons_succ, List.getElem_cons_zero]
                    refine wpAnyH_ready (rs := [12]) (by kernel_rfl) (by simp) ?_
                    refine AllReadyH.cons rfl (fun K hK => ?_) AllReadyH.nil
                    · go_simp
                      refine hK.out _ _ (by exact two_endA _ _ _ X6.out (Nat.ne_of_gt hlt5)) (fun hHeld => ?_)
                      clear hK K
                      try simp only [Act.put, List.setIfInBounds_toArray, List.set_cons_zero, List.set_cons_succ, List.getElem_toArray, List.getElem_cons_succ, List.getElem_cons_zero]
                      refine wpAnyH_take (i := 13) (v := ?_) rfl (by kernel_rfl) (by kernel_rfl) (by kernel_rfl) (fun _ _ _ h => h) (Or.inl ⟨by rfl, ?_⟩) (by assumption) ?_
                      rotate_left
                      · intro w' hSw
                        go_simp <;> with_reducible rfl
                      try simp only [Act.put, List.setIfInBounds_toArray, List.set_cons_zero, List.set_cons_succ, List.getElem_toArray, List.getElem_cons_succ, List.getElem_cons_zero]
                      refine wpAnyH_done (by kernel_rfl) ?_ _
                      go_wp2_with fail
                      refine bodyPost_ret (v := .tuple #[.agg #[.string ⟨#[102]⟩, .slice (some ⟨w6.heap.size + 1 + 1, 0, none⟩) 2 2], .int .i64 (n6 : Int)]) (by simp [results, Tryz.results12, go_sem, World.cell?_setCell_same, World.cell?_setCell_other, r0, r1, hlt56, hlt57, hlt58, World.cell?_alloc_old]) rfl ?_
                      exact grow_two B6.out hlt56 S56.out S6.out (fun b hb => Nat.lt_of_lt_of_le R1.out.lt hb) HZ6.out HBIG.out (ok_node (by decide) (by decide) (ok_two HE5.out HE6.out)) (by omega) (by exact blk_at (by simp [World.setCell]) _ _)
                · go_simp
                  refine hK.out _ _ (by exact hHeld.alloc _) (fun hHeld => ?_)
                  clear hK K
                  try simp only [Act.put, List.setIfInBounds_toArray, List.set_cons_zero, List.set_cons_succ, List.getElem_toArray, List.getElem_cons_succ, List.getElem_cons_zero]
                  refine wpAnyH_ready (rs := [0]) (by kernel_rfl) (by simp) ?_
                  refine AllReadyH.cons rfl (fun K hK => ?_) AllReadyH.nil
                  · go_simp
                    refine hK.out _ _ (by exact hHeld.alloc _) (fun hHeld => ?_)
                    clear hK K
                    try simp only [Act.put, List.setIfInBounds_toArray, List.set_cons_zero, List.set_cons_succ, List.getElem_toArray, List.getElem_cons_succ, List.getElem_cons_zero]
                    refine held_mono (S' := TwoF w5 w6 t5 t6 a5 a6 c5 c6 (w6.heap.size + 1 + 1)) (fun _ h => h.1) _ _ _ _ ?_
                    replace hHeld := two_up (b := w6.heap.size + 1 + 1) hHeld (by exact blk_at (w := (w6.alloc (.cells #[.string t6.name, .slice a6 t6.args.length c6] 25)).alloc (.cells #[.string t5.name, .slice a5 t5.args.length c5, .string t6.name, .slice a6 t6.args.length c6] 25)) (by simp) _ _)
                    refine wpAnyH_take (i := 5) (v := ?_) rfl (by kernel_rfl) (by kernel_rfl) (by kernel_rfl) (fun _ _ _ h => h) (Or.inl ⟨by rfl, ?_⟩) (by assumption) ?_
                    rotate_left
                    · intro w' hSw
                      go_simp <;> with_reducible rfl
                    try simp only [Act.put, List.setIfInBounds_toArray, List.set_cons_zero, List.set_cons_succ, List.getElem_toArray, List.getElem_cons_succ, List.getElem_cons_zero]
                    refine wpAnyH_take (i := 6) (v := ?_) rfl (by kernel_rfl) (by kernel_rfl) (by kernel_rfl) (fun _ _ _ h => h) (Or.inl ⟨by rfl, ?_⟩) (by assumption) ?_
                    rotate_left
                    · intro w' hSw
                      have k4 : w'.cell? ⟨w6.heap.size + 1 + 1, 0, none⟩ = some (.string ⟨#[102]⟩) := hSw.2.cell 0
                      have k5 : w'.cell? ⟨w6.heap.size + 1 + 1, 1, none⟩ = some (.string ⟨#[103]⟩) := hSw.2.cell 1
                      go_simp <;> with_reducible rfl
                    try simp only [Act.put, List.setIfInBounds_toArray, List.set_cons_zero, List.set_cons_succ, List.getElem_toArray, List.getElem_cons_succ, List.getElem_cons_zero]
                    refine wpAnyH_take (i := 10) (v := ?_) rfl (by kernel_rfl) (by kernel_rfl) (by kernel_rfl) (fun _ _ _ h => h) (Or.inl ⟨by rfl, ?_⟩) (by assumption) ?_
                    rotate_left
                    · intro w' hSw
                      go_simp <;> with_reducible rfl
                    try simp only [Act.put, List.setIfInBounds_toArray, List.set_cons_zero, List.set_cons_succ, List.getElem_toArray, List.getElem_cons_succ, List.getElem_cons_zero]
                    refine wpAnyH_ready (rs := [12]) (by kernel_rfl) (by simp) ?_
                    refine AllReadyH.cons rfl (fun K hK => ?_) AllReadyH.nil
                    · go_simp
                      refine hK.out _ _ (by exact two_endB _ _ _ X6.out (Nat.ne_of_gt hlt5)) (fun hHeld => ?_)
                      clear hK K
                      try simp only [Act.put, List.setIfInBounds_toArray, List.set_cons_zero, List.set_cons_succ, List.getElem_toArray, List.getElem_cons_succ, List.getElem_cons_zero]
                      refine wpAnyH_take (i := 13) (v := ?_) rfl (by kernel_rfl) (by kernel_rfl) (by kernel_rfl) (fun _ _ _ h => h) (Or.inl ⟨by rfl, ?_⟩) (by assumption) ?_
                      rotate_left
                      · intro w' hSw
                        go_simp <;> with_reducible rfl
                      try simp only [Act.put, List.setIfInBounds_toArray, List.set_cons_zero, List.set_cons_succ, List.getElem_toArray, List.getElem_cons_succ, List.getElem_cons_zero]
                      refine wpAnyH_done (by kernel_rfl) ?_ _
                      go_wp2_with fail
                      refine bodyPost_ret (v := .tuple #[.agg #[.string ⟨#[102]⟩, .slice (some ⟨w6.heap.size + 1, 0, none⟩) 2 2], .int .i64 (n6 : Int)]) (by simp [results, Tryz.results12, go_sem, World.cell?_setCell_same, World.cell?_setCell_other, r0, r1, hlt56, hlt57, hlt58, World.cell?_alloc_old]) rfl ?_
                      exact grow_two B6.out hlt56 S56.out S6.out (fun b hb => Nat.lt_of_lt_of_le R1.out.lt hb) HZ6.out HBIG.out (ok_node (by decide) (by decide) (ok_two HE5.out HE6.out)) (by omega) (by exact (blk_at (by simp [World.setCell]) _ _).alloc _)
              · go_simp
                refine hK.out _ _ (by exact hHeld.alloc _) (fun hHeld => ?_)
                clear hK K
                try simp only [Act.put, List.setIfInBounds_toArray, List.set_cons_zero, List.set_cons_succ, List.getElem_toArray, List.getElem_cons_succ, List.getElem_cons_zero]
                refine wpAnyH_ready (rs := [0, 3]) (by kernel_rfl) (by simp) ?_
                refine AllReadyH.cons rfl (fun K hK => ?_) (AllReadyH.cons rfl (fun K hK => ?_) AllReadyH.nil)
                · go_simp
                  refine hK.out _ _ (by exact hHeld.alloc _) (fun hHeld => ?_)
                  clear hK K
                  try simp only [Act.put, List.setIfInBounds_toArray, List.set_cons_zero, List.set_cons_succ, List.getElem_toArray, List.getElem_cons_succ, List.getElem_cons_zero]
                  refine held_mono (S' := TwoF w5 w6 t5 t6 a5 a6 c5 c6 (w6.heap.size + 1 + 1)) (fun _ h => h.1) _ _ _ _ ?_
                  replace hHeld := two_up (b := w6.heap.size + 1 + 1) hHeld (by exact blk_at (w := (w6.alloc (.cells #[.string t6.name, .slice a6 t6.args.length c6] 25)).alloc (.cells #[.string t5.name, .slice a5 t5.args.length c5, .string t6.name, .slice a6 t6.args.length c6] 25)) (by simp) _ _)
                  refine wpAnyH_ready (rs := [3]) (by kernel_rfl) (by simp) ?_
                  refine AllReadyH.cons rfl (fun K hK => ?_) AllReadyH.nil
                  · go_simp
                    go_at_call 5
                    refine (HPK.out _).mono ?_
                    rintro e w7 ⟨rfl, rfl⟩
                    go_simp
                    refine hK.out _ _ (by exact hHeld) (fun hHeld => ?_)
                    clear hK K
                    try simp only [Act.put, List.setIfInBounds_toArray, List.set_cons_zero, List.set_cons_succ, List.getElem_toArray, List.getElem_cons_succ, List.getElem_cons_zero]
                    refine wpAnyH_take (i := 4) (v := ?_) rfl (by kernel_rfl) (by kernel_rfl) (by kernel_rfl) (fun _ _ _ h => h) (Or.inl ⟨by rfl, ?_⟩) (by assumption) ?_
                    rotate_left
                    · intro w' hSw
                      go_simp <;> with_reducible rfl
                    try simp only [Act.put, List.setIfInBounds_toArray, List.set_cons_zero, List.set_cons_succ, List.getElem_toArray, List.getElem_cons_succ, List.getElem_cons_zero]
                    refine wpAnyH_take (i := 5) (v := ?_) rfl (by kernel_rfl) (by kernel_rfl) (by kernel_rfl) (fun _ _ _ h => h) (Or.inl ⟨by rfl, ?_⟩) (by assumption) ?_
                    rotate_left
                    · intro w' hSw
                      go_simp <;> with_reducible rfl
                    try simp only [Act.put, List.setIfInBounds_toArray, List.set_cons_zero, List.set_cons_succ, List.getElem_toArray, List.getElem_cons_succ, List.getElem_cons_zero]
                    refine wpAnyH_take (i := 6) (v := ?_) rfl (by kernel_rfl) (by kernel_rfl) (by kernel_rfl) (fun _ _ _ h => h) (Or.inl ⟨by rfl, ?_⟩) (by assumption) ?_
                    rotate_left
                    · intro w' hSw
                      have k4 : w'.cell? ⟨w6.heap.size + 1 + 1, 0, none⟩ = some (.string ⟨#[102]⟩) := hSw.2.cell 0
                      have k5 : w'.cell? ⟨w6.heap.size + 1 + 1, 1, none⟩ = some (.string ⟨#[103]⟩) := hSw.2.cell 1
                      go_simp <;> with_reducible rfl
                    try simp only [Act.put, List.setIfInBounds_toArray, List.set_cons_zero, List.set_cons_succ, List.getElem_toArray, List.getElem_cons_succ, List.getElem_cons_zero]
                    refine wpAnyH_take (i := 10) (v := ?_) rfl (by kernel_rfl) (by kernel_rfl) (by kernel_rfl) (fun _ _ _ h => h) (Or.inl ⟨by rfl, ?_⟩) (by assumption) ?_
                    rotate_left
                    · intro w' hSw
                      go_simp <;> with_reducible rfl
                    try simp only [Act.put, List.setIfInBounds_toArray, List.set_cons_zero, List.set_cons_succ, List.getElem_toArray, List.getElem_cons_succ, List.getElem_cons_zero]
                    refine wpAnyH_ready (rs := [12]) (by kernel_rfl) (by simp) ?_
                    refine AllReadyH.cons rfl (fun K hK => ?_) AllReadyH.nil
                    · go_simp
                      refine hK.out _ _ (by exact two_endB _ _ _ X6.out (Nat.ne_of_gt hlt5)) (fun hHeld => ?_)
                      clear hK K
                      try simp only [Act.put, List.setIfInBounds_toArray, List.set_cons_zero, List.set_cons_succ, List.getElem_toArray, List.getElem_cons_succ, List.getElem_cons_zero]
                      refine wpAnyH_take (i := 13) (v := ?_) rfl (by kernel_rfl) (by kernel_rfl) (by kernel_rfl) (fun _ _ _ h => h) (Or.inl ⟨by rfl, ?_⟩) (by assumption) ?_
                      rotate_left
                      · intro w' hSw
                        go_simp <;> with_reducible rfl
                      try simp only [Act.put, List.setIfInBounds_toArray, List.set_cons_zero, List.set_cons_succ, List.getElem_toArray, List.getElem_cons_succ, List.getElem_cons_zero]
                      refine wpAnyH_done (by kernel_rfl) ?_ _
                      go_wp2_with fail
                      refine bodyPost_ret (v := .tuple #[.agg #[.string ⟨#[102]⟩, .slice (some ⟨w6.heap.size + 1, 0, none⟩) 2 2], .int .i64 (n6 : Int)]) (by simp [results, Tryz.results12, go_sem, World.cell?_setCell_same, World.cell?_setCell_other, r0, r1, hlt56, hlt57, hlt58, World.cell?_alloc_old]) rfl ?_
                      exact grow_two B6.out hlt56 S56.out S6.out (fun b hb => Nat.lt_of_lt_of_le R1.out.lt hb) HZ6.out HBIG.out (ok_node (by decide) (by decide) (ok_two HE5.out HE6.out)) (by omega) (by exact (blk_at (by simp [World.setCell]) _ _).alloc _)
                · go_simp
                  go_at_call 5
                  refine (HPK.out _).mono ?_
                  rintro e w7 ⟨rfl, rfl⟩
                  go_simp
                  refine hK.out _ _ (by exact hHeld) (fun hHeld => ?_)
                  clear hK K
                  try simp only [Act.put, List.setIfInBounds_toArray, List.set_cons_zero, List.set_cons_succ, List.getElem_toArray, List.getElem_cons_succ, List.getElem_cons_zero]
                  refine wpAnyH_take (i := 4) (v := ?_) rfl (by kernel_rfl) (by kernel_rfl) (by kernel_rfl) (fun _ _ _ h => h) (Or.inl ⟨by rfl, ?_⟩) (by assumption) ?_
                  rotate_left
                  · intro w' hSw
                    go_simp <;> with_reducible rfl
                  try simp only [Act.put, List.setIfInBounds_toArray, List.set_cons_zero, List.set_cons_succ, List.getElem_toArray, List.getElem_cons_succ, List.getElem_cons_zero]
                  refine wpAnyH_ready (rs := [0]) (by kernel_rfl) (by simp) ?_
                  refine AllReadyH.cons rfl (fun K hK => ?_) AllReadyH.nil
                  · go_simp
                    refine hK.out _ _ (by exact hHeld.alloc _) (fun hHeld => ?_)
                    clear hK K
                    try simp only [Act.put, List.setIfInBounds_toArray, List.set_cons_zero, List.set_cons_succ, List.getElem_toArray, List.getElem_cons_succ, List.getElem_cons_zero]
                    refine held_mono (S' := TwoF w5 w6 t5 t6 a5 a6 c5 c6 (w6.heap.size + 1 + 1)) (fun _ h => h.1) _ _ _ _ ?_
                    replace hHeld := two_up (b := w6.heap.size + 1 + 1) hHeld (by exact blk_at (w := (w6.alloc (.cells #[.string t6.name, .slice a6 t6.args.length c6] 25)).alloc (.cells #[.string t5.name, .slice a5 t5.args.length c5, .string t6.name, .slice a6 t6.args.length c6] 25)) (by simp) _ _)
                    refine wpAnyH_take (i := 5) (v := ?_) rfl (by kernel_rfl) (by kernel_rfl) (by kernel_rfl) (fun _ _ _ h => h) (Or.inl ⟨by rfl, ?_⟩) (by assumption) ?_
                    rotate_left
                    · intro w' hSw
                      go_simp <;> with_reducible rfl
                    try simp only [Act.put, List.setIfInBounds_toArray, List.set_cons_zero, List.set_cons_succ, List.getElem_toArray, List.getElem_cons_succ, List.getElem_cons_zero]
                    refine wpAnyH_take (i := 6) (v := ?_) rfl (by kernel_rfl) (by kernel_rfl) (by kernel_rfl) (fun _ _ _ h => h) (Or.inl ⟨by rfl, ?_⟩) (by assumption) ?_
                    rotate_left
                    · intro w' hSw
                      have k4 : w'.cell? ⟨w6.heap.size + 1 + 1, 0, none⟩ = some (.string ⟨#[102]⟩) := hSw.2.cell 0
                      have k5 : w'.cell? ⟨w6.heap.size + 1 + 1, 1, none⟩ = some (.string ⟨#[103]⟩) := hSw.2.cell 1
                      go_simp <;> with_reducible rfl
                    try simp only [Act.put, List.setIfInBounds_toArray, List.set_cons_zero, List.set_cons_succ, List.getElem_toArray, List.getElem_cons_succ, List.getElem_cons_zero]
                    refine wpAnyH_take (i := 10) (v := ?_) rfl (by kernel_rfl) (by kernel_rfl) (by kernel_rfl) (fun _ _ _ h => h) (Or.inl ⟨by rfl, ?_⟩) (by assumption) ?_
                    rotate_left
                    · intro w' hSw
                      go_simp <;> with_reducible rfl
                    try simp only [Act.put, List.setIfInBounds_toArray, List.set_cons_zero, List.set_cons_succ, List.getElem_toArray, List.getElem_cons_succ, List.getElem_cons_zero]
                    refine wpAnyH_ready (rs := [12]) (by kernel_rfl) (by simp) ?_
                    refine AllReadyH.cons rfl (fun K hK => ?_) AllReadyH.nil
                    · go_simp
                      refine hK.out _ _ (by exact two_endB _ _ _ X6.out (Nat.ne_of_gt hlt5)) (fun hHeld => ?_)
                      clear hK K
                      try simp only [Act.put, List.setIfInBounds_toArray, List.set_cons_zero, List.set_cons_succ, List.getElem_toArray, List.getElem_cons_succ, List.getElem_cons_zero]
                      refine wpAnyH_take (i := 13) (v := ?_) rfl (by kernel_rfl) (by kernel_rfl) (by kernel_rfl) (fun _ _ _ h => h) (Or.inl ⟨by rfl, ?_⟩) (by assumption) ?_
                      rotate_left
                      · intro w' hSw
                        go_simp <;> with_reducible rfl
                      try simp only [Act.put, List.setIfInBounds_toArray, List.set_cons_zero, List.set_cons_succ, List.getElem_toArray, List.getElem_cons_succ, List.getElem_cons_zero]
                      refine wpAnyH_done (by kernel_rfl) ?_ _
                      go_wp2_with fail
                      refine bodyPost_ret (v := .tuple #[.agg #[.string ⟨#[102]⟩, .slice (some ⟨w6.heap.size + 1, 0, none⟩) 2 2], .int .i64 (n6 : Int)]) (by simp [results, Tryz.results12, go_sem, World.cell?_setCell_same, World.cell?_setCell_other, r0, r1, hlt56, hlt57, hlt58, World.cell?_alloc_old]) rfl ?_
                      exact grow_two B6.out hlt56 S56.out S6.out (fun b hb => Nat.lt_of_lt_of_le R1.out.lt hb) HZ6.out HBIG.out (ok_node (by decide) (by decide) (ok_two HE5.out HE6.out)) (by omega) (by exact (blk_at (by simp [World.setCell]) _ _).alloc _)
            · clear hth hhb hh hn6 hn6' hz6 hz5 hn5 hn5' hc5 hc5' hc6 hc6' hi hm hc hr hzl h42 h41 h40 hk4 h1 hk1 h3
              have HS0 : TwoS w5 w6 t5 t6 a5 a6 c5 c6 (w6.alloc (.cells #[.string t6.name, .slice a6 t6.args.length c6] 25)).drew := ⟨X6.out.alloc _, Y6.out⟩
              refine wp_region_held_drew (S := TwoS w5 w6 t5 t6 a5 a6 c5 c6) (by kernel_rfl) HS0 (fun hHeld => ?_)
              refine wpAnyH_take (i := 1) (v := ?_) rfl (by kernel_rfl) (by kernel_rfl) (by kernel_rfl) (fun _ _ _ h => h) (Or.inl ⟨by rfl, ?_⟩) (by assumption) ?_
              rotate_left
              · intro w' hSw
                go_simp <;> with_reducible rfl
              try simp only [Act.put, List.setIfInBounds_toArray, List.set_cons_zero, List.set_cons_succ, List.getElem_toArray, List.getElem_cons_succ, List.getElem_cons_zero]
              refine wpAnyH_take (i := 2) (v := ?_) rfl (by kernel_rfl) (by kernel_rfl) (by kernel_rfl) (fun _ _ _ h => h) (Or.inl ⟨by rfl, ?_⟩) (by assumption) ?_
              rotate_left
              · intro w' hSw
                go_simp <;> with_reducible rfl
              try simp only [Act.put, List.setIfInBounds_toArray, List.set_cons_zero, List.set_cons_succ, List.getElem_toArray, List.getElem_cons_succ, List.getElem_cons_zero]
              refine wpAnyH_take (i := 7) (v := ?_) rfl (by kernel_rfl) (by kernel_rfl) (by kernel_rfl) (fun _ _ _ h => h) (Or.inl ⟨by rfl, ?_⟩) (by assumption) ?_
              rotate_left
              · intro w' hSw
                have k0 : w'.cell? ⟨w5.heap.size, 0, none⟩ = some (.string t5.name) := hSw.1.cell 0
                have k1 : w'.cell? ⟨w5.heap.size, 1, none⟩ = some (.slice a5 t5.args.length c5) := hSw.1.cell 1
                go_simp <;> with_reducible rfl
              try simp only [Act.put, List.setIfInBounds_toArray, List.set_cons_zero, List.set_cons_succ, List.getElem_toArray, List.getElem_cons_succ, List.getElem_cons_zero]
              refine wpAnyH_take (i := 8) (v := ?_) rfl (by kernel_rfl) (by kernel_rfl) (by kernel_rfl) (fun _ _ _ h => h) (Or.inl ⟨by rfl, ?_⟩) (by assumption) ?_
              rotate_left
              · intro w' hSw
                have k2 : w'.cell? ⟨w6.heap.size, 0, none⟩ = some (.string t6.name) := hSw.2.cell 0
                have k3 : w'.cell? ⟨w6.heap.size, 1, none⟩ = some (.slice a6 t6.args.length c6) := hSw.2.cell 1
                go_simp <;> with_reducible rfl
              try simp only [Act.put, List.setIfInBounds_toArray, List.set_cons_zero, List.set_cons_succ, List.getElem_toArray, List.getElem_cons_succ, List.getElem_cons_zero]
              refine wpAnyH_take (i := 11) (v := ?_) rfl (by kernel_rfl) (by kernel_rfl) (by kernel_rfl) (fun _ _ _ h => h) (Or.inl ⟨by rfl, ?_⟩) (by assumption) ?_
              rotate_left
              · intro w' hSw
                go_simp <;> with_reducible rfl
              try simp only [Act.put, List.setIfInBounds_toArray, List.set_cons_zero, List.set_cons_succ, List.getElem_toArray, List.getElem_cons_succ, List.getElem_cons_zero]
              refine wpAnyH_ready (rs := [0, 3, 9]) (by kernel_rfl) (by simp) ?_
              refine AllReadyH.cons rfl (fun K hK => ?_) (AllReadyH.cons rfl (fun K hK => ?_) (AllReadyH.cons rfl (fun K hK => ?_) AllReadyH.nil))
              · go_simp
                refine hK.out _ _ (by exact hHeld.alloc _) (fun hHeld => ?_)
                clear hK K
                try simp only [Act.put, List.setIfInBounds_toArray, List.set_cons_zero, List.set_cons_succ, List.getElem_toArray, List.getElem_cons_succ, List.getElem_cons_zero]
                refine held_mono (S' := TwoF w5 w6 t5 t6 a5 a6 c5 c6 (w6.heap.size + 1)) (fun _ h => h.1) _ _ _ _ ?_
                replace hHeld := two_up (b := w6.heap.size + 1) hHeld (by exact blk_at (w := w6.alloc (.cells #[.string t6.name, .slice a6 t6.args.length c6] 25)) (by simp) _ _)
                refine wpAnyH_ready (rs := [3, 9]) (by kernel_rfl) (by simp) ?_
                refine AllReadyH.cons rfl (fun K hK => ?_) (AllReadyH.cons rfl (fun K hK => ?_) AllReadyH.nil)
                · go_simp
                  go_at_call 5
                  refine (HPK.out _).mono ?_
                  rintro e w7 ⟨rfl, rfl⟩
                  go_simp
                  refine hK.out _ _ (by exact hHeld) (fun hHeld => ?_)
                  clear hK K
                  try simp only [Act.put, List.setIfInBounds_toArray, List.set_cons_zero, List.set_cons_succ, List.getElem_toArray, List.getElem_cons_succ, List.getElem_cons_zero]
                  refine wpAnyH_take (i := 4) (v := ?_) rfl (by kernel_rfl) (by kernel_rfl) (by kernel_rfl) (fun _ _ _ h => h) (Or.inl ⟨by rfl, ?_⟩) (by assumption) ?_
                  rotate_left
                  · intro w' hSw
                    go_simp <;> with_reducible rfl
                  try simp only [Act.put, List.setIfInBounds_toArray, List.set_cons_zero, List.set_cons_succ, List.getElem_toArray, List.getElem_cons_succ, List.getElem_cons_zero]
                  refine wpAnyH_take (i := 5) (v := ?_) rfl (by kernel_rfl) (by kernel_rfl) (by kernel_rfl) (fun _ _ _ h => h) (Or.inl ⟨by rfl, ?_⟩) (by assumption) ?_
                  rotate_left
                  · intro w' hSw
                    go_simp <;> with_reducible rfl
                  try simp only [Act.put, List.setIfInBounds_toArray, List.set_cons_zero, List.set_cons_succ, List.getElem_toArray, List.getElem_cons_succ, List.getElem_cons_zero]
                  refine wpAnyH_take (i := 6) (v := ?_) rfl (by kernel_rfl) (by kernel_rfl) (by kernel_rfl) (fun _ _ _ h => h) (Or.inl ⟨by rfl, ?_⟩) (by assumption) ?_
                  rotate_left
                  · intro w' hSw
                    have k4 : w'.cell? ⟨w6.heap.size + 1, 0, none⟩ = some (.string ⟨#[102]⟩) := hSw.2.cell 0
                    have k5 : w'.cell? ⟨w6.heap.size + 1, 1, none⟩ = some (.string ⟨#[103]⟩) := hSw.2.cell 1
                    go_simp <;> with_reducible rfl
                  try simp only [Act.put, List.setIfInBounds_toArray, List.set_cons_zero, List.set_cons_succ, List.getElem_toArray, List.getElem_cons_succ, List.getElem_cons_zero]
                  refine wpAnyH_ready (rs := [9]) (by kernel_rfl) (by simp) ?_
                  refine AllReadyH.cons rfl (fun K hK => ?_) AllReadyH.nil
                  · go_simp
                    refine hK.out _ _ (by exact hHeld.alloc _) (fun hHeld => ?_)
                    clear hK K
                    try simp only [Act.put, List.setIfInBounds_toArray, List.set_cons_zero, List.set_cons_succ, List.getElem_toArray, List.getElem_cons_succ, List.getElem_cons_zero]
                    refine wpAnyH_take (i := 10) (v := ?_) rfl (by kernel_rfl) (by kernel_rfl) (by kernel_rfl) (fun _ _ _ h => h) (Or.inl ⟨by rfl, ?_⟩) (by assumption) ?_
                    rotate_left
                    · intro w' hSw
                      go_simp <;> with_reducible rfl
                    try simp only [Act.put, List.setIfInBounds_toArray, List.set_cons_zero, List.set_cons_succ, List.getElem_toArray, List.getElem_cons_succ, List.getElem_cons_zero]
                    refine wpAnyH_ready (rs := [12]) (by kernel_rfl) (by simp) ?_
                    refine AllReadyH.cons rfl (fun K hK => ?_) AllReadyH.nil
                    · go_simp
                      refine hK.out _ _ (by exact two_endA _ _ _ X6.out (Nat.ne_of_gt hlt5)) (fun hHeld => ?_)
                      clear hK K
                      try simp only [Act.put, List.setIfInBounds_toArray, List.set_cons_zero, List.set_cons_succ, List.getElem_toArray, List.getElem_cons_succ, List.getElem_cons_zero]
                      refine wpAnyH_take (i := 13) (v := ?_) rfl (by kernel_rfl) (by kernel_rfl) (by kernel_rfl) (fun _ _ _ h => h) (Or.inl ⟨by rfl, ?_⟩) (by assumption) ?_
                      rotate_left
                      · intro w' hSw
                        go_simp <;> with_reducible rfl
                      try simp only [Act.put, List.setIfInBounds_toArray, List.set_cons_zero, List.set_cons_succ, List.getElem_toArray, List.getElem_cons_succ, List.getElem_cons_zero]
                      refine wpAnyH_done (by kernel_rfl) ?_ _
                      go_wp2_with fail
                      refine bodyPost_ret (v := .tuple #[.agg #[.string ⟨#[103]⟩, .slice (some ⟨w6.heap.size + 1 + 1, 0, none⟩) 2 2], .int .i64 (n6 : Int)]) (by simp [results, Tryz.results12, go_sem, World.cell?_setCell_same, World.cell?_setCell_other, r0, r1, hlt56, hlt57, hlt58, World.cell?_alloc_old]) rfl ?_
                      exact grow_two B6.out hlt56 S56.out S6.out (fun b hb => Nat.lt_of_lt_of_le R1.out.lt hb) HZ6.out HBIG.out (ok_node (by decide) (by decide) (ok_two HE5.out HE6.out)) (by omega) (by exact blk_at (by simp [World.setCell]) _ _)
                · go_simp
                  refine hK.out _ _ (by exact hHeld.alloc _) (fun hHeld => ?_)
                  clear hK K
                  try simp only [Act.put, List.setIfInBounds_toArray, List.set_cons_zero, List.set_cons_succ, List.getElem_toArray, List.getElem_cons_succ, List.getElem_cons_zero]
                  refine wpAnyH_ready (rs := [3]) (by kernel_rfl) (by simp) ?_
                  refine AllReadyH.cons rfl (fun K hK => ?_) AllReadyH.nil
                  · go_simp
                    go_at_call 5
                    refine (HPK.out _).mono ?_
                    rintro e w7 ⟨rfl, rfl⟩
                    go_simp
                    refine hK.out _ _ (by exact hHeld) (fun hHeld => ?_)
                    clear hK K
                    try simp only [Act.put, List.setIfInBounds_toArray, List.set_cons_zero, List.set_cons_succ, List.getElem_toArray, List.getElem_cons_succ, List.getElem_cons_zero]
                    refine wpAnyH_take (i := 4) (v := ?_) rfl (by kernel_rfl) (by kernel_rfl) (by kernel_rfl) (fun _ _ _ h => h) (Or.inl ⟨by rfl, ?_⟩) (by assumption) ?_
                    rotate_left
                    · intro w' hSw
                      go_simp <;> with_reducible rfl
                    try simp only [Act.put, List.setIfInBounds_toArray, List.set_cons_zero, List.set_cons_succ, List.getElem_toArray, List.getElem_cons_succ, List.getElem_cons_zero]
                    refine wpAnyH_take (i := 5) (v := ?_) rfl (by kernel_rfl) (by kernel_rfl) (by kernel_rfl) (fun _ _ _ h => h) (Or.inl ⟨by rfl, ?_⟩) (by assumption) ?_
                    rotate_left
                    · intro w' hSw
                      go_simp <;> with_reducible rfl
                    try simp only [Act.put, List.setIfInBounds_toArray, List.set_cons_zero, List.set_cons_succ, List.getElem_toArray, List.getElem_cons_succ, List.getElem_cons_zero]
                    refine wpAnyH_take (i := 6) (v := ?_) rfl (by kernel_rfl) (by kernel_rfl) (by kernel_rfl) (fun _ _ _ h => h) (Or.inl ⟨by rfl, ?_⟩) (by assumption) ?_
                    rotate_left
                    · intro w' hSw
                      have k4 : w'.cell? ⟨w6.heap.size + 1, 0, none⟩ = some (.string ⟨#[102]⟩) := hSw.2.cell 0
                      have k5 : w'.cell? ⟨w6.heap.size + 1, 1, none⟩ = some (.string ⟨#[103]⟩) := hSw.2.cell 1
                      go_simp <;> with_reducible rfl
                    try simp only [Act.put, List.setIfInBounds_toArray, List.set_cons_zero, List.set_cons_succ, List.getElem_toArray, List.getElem_cons_succ, List.getElem_cons_zero]
                    refine wpAnyH_take (i := 10) (v := ?_) rfl (by kernel_rfl) (by kernel_rfl) (by kernel_rfl) (fun _ _ _ h => h) (Or.inl ⟨by rfl, ?_⟩) (by assumption) ?_
                    rotate_left
                    · intro w' hSw
                      go_simp <;> with_reducible rfl
                    try simp only [Act.put, List.setIfInBounds_toArray, List.set_cons_zero, List.set_cons_succ, List.getElem_toArray, List.getElem_cons_succ, List.getElem_cons_zero]
                    refine wpAnyH_ready (rs := [12]) (by kernel_rfl) (by simp) ?_
                    refine AllReadyH.cons rfl (fun K hK => ?_) AllReadyH.nil
                    · go_simp
                      refine hK.out _ _ (by exact two_endA _ _ _ X6.out (Nat.ne_of_gt hlt5)) (fun hHeld => ?_)
                      clear hK K
                      try simp only [Act.put, List.setIfInBounds_toArray, List.set_cons_zero, List.set_cons_succ, List.getElem_toArray, List.getElem_cons_succ, List.getElem_cons_zero]
                      refine wpAnyH_take (i := 13) (v := ?_) rfl (by kernel_rfl) (by kernel_rfl) (by kernel_rfl) (fun _ _ _ h => h) (Or.inl ⟨by rfl, ?_⟩) (by assumption) ?_
                      rotate_left
                      · intro w' hSw
                        go_simp <;> with_reducible rfl
                      try simp only [Act.put, List.setIfInBounds_toArray, List.set_cons_zero, List.set_cons_succ, List.getElem_toArray, List.getElem_cons_succ, List.getElem_cons_zero]
                      refine wpAnyH_done (by kernel_rfl) ?_ _
                      go_wp2_with fail
                      refine bodyPost_ret (v := .tuple #[.agg #[.string ⟨#[103]⟩, .slice (some ⟨w6.heap.size + 1 + 1, 0, none⟩) 2 2], .int .i64 (n6 : Int)]) (by simp [results, Tryz.results12, go_sem, World.cell?_setCell_same, World.cell?_setCell_other, r0, r1, hlt56, hlt57, hlt58, World.cell?_alloc_old]) rfl ?_
                      exact grow_two B6.out hlt56 S56.out S6.out (fun b hb => Nat.lt_of_lt_of_le R1.out.lt hb) HZ6.out HBIG.out (ok_node (by decide) (by decide) (ok_two HE5.out HE6.out)) (by omega) (by exact blk_at (by simp [World.setCell]) _ _)
              · go_simp
                go_at_call 5
                refine (HPK.out _).mono ?_
                rintro e w7 ⟨rfl, rfl⟩
                go_simp
                refine hK.out _ _ (by exact hHeld) (fun hHeld => ?_)
                clear hK K
                try simp only [Act.put, List.setIfInBounds_toArray, List.set_cons_zero, List.set_cons_succ, List.getElem_toArray, List.getElem_cons_succ, List.getElem_cons_zero]
                refine wpAnyH_take (i := 4) (v := ?_) rfl (by kernel_rfl) (by kernel_rfl) (by kernel_rfl) (fun _ _ _ h => h) (Or.inl ⟨by rfl, ?_⟩) (by assumption) ?_
                rotate_left
                · intro w' hSw
                  go_simp <;> with_reducible rfl
                try simp only [Act.put, List.setIfInBounds_toArray, List.set_cons_zero, List.set_cons_succ, List.getElem_toArray, List.getElem_cons_succ, List.getElem_cons_zero]
                refine wpAnyH_ready (rs := [0, 9]) (by kernel_rfl) (by simp) ?_
                refine AllReadyH.cons rfl (fun K hK => ?_) (AllReadyH.cons rfl (fun K hK => ?_) AllReadyH.nil)
                · go_simp
                  refine hK.out _ _ (by exact hHeld.alloc _) (fun hHeld => ?_)
                  clear hK K
                  try simp only [Act.put, List.setIfInBounds_toArray, List.set_cons_zero, List.set_cons_succ, List.getElem_toArray, List.getElem_cons_succ, List.getElem_cons_zero]
                  refine held_mono (S' := TwoF w5 w6 t5 t6 a5 a6 c5 c6 (w6.heap.size + 1)) (fun _ h => h.1) _ _ _ _ ?_
                  replace hHeld := two_up (b := w6.heap.size + 1) hHeld (by exact blk_at (w := w6.alloc (.cells #[.string t6.name, .slice a6 t6.args.length c6] 25)) (by simp) _ _)
                  refine wpAnyH_take (i := 5) (v := ?_) rfl (by kernel_rfl) (by kernel_rfl) (by kernel_rfl) (fun _ _ _ h => h) (Or.inl ⟨by rfl, ?_⟩) (by assumption) ?_
                  rotate_left
                  · intro w' hSw
                    go_simp <;> with_reducible rfl
                  try simp only [Act.put, List.setIfInBounds_toArray, List.set_cons_zero, List.set_cons_succ, List.getElem_toArray, List.getElem_cons_succ, List.getElem_cons_zero]
                  refine wpAnyH_take (i := 6) (v := ?_) rfl (by kernel_rfl) (by kernel_rfl) (by kernel_rfl) (fun _ _ _ h => h) (Or.inl ⟨by rfl, ?_⟩) (by assumption) ?_
                  rotate_left
                  · intro w' hSw
                    have k4 : w'.cell? ⟨w6.heap.size + 1, 0, none⟩ = some (.string ⟨#[102]⟩) := hSw.2.cell 0
                    have k5 : w'.cell? ⟨w6.heap.size + 1, 1, none⟩ = some (.string ⟨#[103]⟩) := hSw.2.cell 1
                    go_simp <;> with_reducible rfl
                  try simp only [Act.put, List.setIfInBounds_toArray, List.set_cons_zero, List.set_cons_succ, List.getElem_toArray, List.getElem_cons_succ, List.getElem_cons_zero]
                  refine wpAnyH_ready (rs := [9]) (by kernel_rfl) (by simp) ?_
                  refine AllReadyH.cons rfl (fun K hK => ?_) AllReadyH.nil
                  · go_simp
                    refine hK.out _ _ (by exact hHeld.alloc _) (fun hHeld => ?_)
                    clear hK K
                    try simp only [Act.put, List.setIfInBounds_toArray, List.set_cons_zero, List.set_cons_succ, List.getElem_toArray, List.getElem_cons_succ, List.getElem_cons_zero]
                    refine wpAnyH_take (i := 10) (v := ?_) rfl (by kernel_rfl) (by kernel_rfl) (by kernel_rfl) (fun _ _ _ h => h) (Or.inl ⟨by rfl, ?_⟩) (by assumption) ?_
                    rotate_left
                    · intro w' hSw
                      go_simp <;> with_reducible rfl
                    try simp only [Act.put, List.setIfInBounds_toArray, List.set_cons_zero, List.set_cons_succ, List.getElem_toArray, List.getElem_cons_succ, List.getElem_cons_zero]
                    refine wpAnyH_ready (rs := [12]) (by kernel_rfl) (by simp) ?_
                    refine AllReadyH.cons rfl (fun K hK => ?_) AllReadyH.nil
                    · go_simp
                      refine hK.out _ _ (by exact two_endA _ _ _ X6.out (Nat.ne_of_gt hlt5)) (fun hHeld => ?_)
                      clear hK K
                      try simp only [Act.put, List.setIfInBounds_toArray, List.set_cons_zero, List.set_cons_succ, List.getElem_toArray, List.getElem_cons_succ, List.getElem_cons_zero]
                      refine wpAnyH_take (i := 13) (v := ?_) rfl (by kernel_rfl) (by kernel_rfl) (by kernel_rfl) (fun _ _ _ h => h) (Or.inl ⟨by rfl, ?_⟩) (by assumption) ?_
                      rotate_left
                      · intro w' hSw
                        go_simp <;> with_reducible rfl
                      try simp only [Act.put, List.setIfInBounds_toArray, List.set_cons_zero, List.set_cons_succ, List.getElem_toArray, List.getElem_cons_succ, List.getElem_cons_zero]
                      refine wpAnyH_done (by kernel_rfl) ?_ _
                      go_wp2_with fail
                      refine bodyPost_ret (v := .tuple #[.agg #[.string ⟨#[103]⟩, .slice (some ⟨w6.heap.size + 1 + 1, 0, none⟩) 2 2], .int .i64 (n6 : Int)]) (by simp [results, Tryz.results12, go_sem, World.cell?_setCell_same, World.cell?_setCell_other, r0, r1, hlt56, hlt57, hlt58, World.cell?_alloc_old]) rfl ?_
                      exact grow_two B6.out hlt56 S56.out S6.out (fun b hb => Nat.lt_of_lt_of_le R1.out.lt hb) HZ6.out HBIG.out (ok_node (by decide) (by decide) (ok_two HE5.out HE6.out)) (by omega) (by exact blk_at (by simp [World.setCell]) _ _)
                · go_simp
                  refine hK.out _ _ (by exact hHeld.alloc _) (fun hHeld => ?_)
                  clear hK K
                  try simp only [Act.put, List.setIfInBounds_toArray, List.set_cons_zero, List.set_cons_succ, List.getElem_toArray, List.getElem_cons_succ, List.getElem_cons_zero]
                  refine wpAnyH_ready (rs := [0]) (by kernel_rfl) (by simp) ?_
                  refine AllReadyH.cons rfl (fun K hK => ?_) AllReadyH.nil
                  · go_simp
                    refine hK.out _ _ (by exact hHeld.alloc _) (fun hHeld => ?_)
                    clear hK K
                    try simp only [Act.put, List.setIfInBounds_toArray, List.set_cons_zero, List.set_cons_succ, List.getElem_toArray, List.getElem_cons_succ, List.getElem_cons_zero]
                    refine held_mono (S' := TwoF w5 w6 t5 t6 a5 a6 c5 c6 (w6.heap.size + 1 + 1)) (fun _ h => h.1) _ _ _ _ ?_
                    replace hHeld := two_up (b := w6.heap.size + 1 + 1) hHeld (by exact blk_at (w := (w6.alloc (.cells #[.string t6.name, .slice a6 t6.args.length c6] 25)).alloc (.cells #[.string t5.name, .slice a5 t5.args.length c5, .string t6.name, .slice a6 t6.args.length c6] 25)) (by simp) _ _)
                    refine wpAnyH_take (i := 5) (v := ?_) rfl (by kernel_rfl) (by kernel_rfl) (by kernel_rfl) (fun _ _ _ h => h) (Or.inl ⟨by rfl, ?_⟩) (by assumption) ?_
                    rotate_left
                    · intro w' hSw
                      go_simp <;> with_reducible rfl
                    try simp only [Act.put, List.setIfInBounds_toArray, List.set_cons_zero, List.set_cons_succ, List.getElem_toArray, List.getElem_cons_succ, List.getElem_cons_zero]
                    refine wpAnyH_take (i := 6) (v := ?_) rfl (by kernel_rfl) (by kernel_rfl) (by kernel_rfl) (fun _ _ _ h => h) (Or.inl ⟨by rfl, ?_⟩) (by assumption) ?_
                    rotate_left
                    · intro w' hSw
                      have k4 : w'.cell? ⟨w6.heap.size + 1 + 1, 0, none⟩ = some (.string ⟨#[102]⟩) := hSw.2.cell 0
                      have k5 : w'.cell? ⟨w6.heap.size + 1 + 1, 1, none⟩ = some (.string ⟨#[103]⟩) := hSw.2.cell 1
                      go_simp <;> with_reducible rfl
                    try simp only [Act.put, List.setIfInBounds_toArray, List.set_cons_zero, List.set_cons_succ, List.getElem_toArray, List.getElem_cons_succ, List.getElem_cons_zero]
                    refine wpAnyH_take (i := 10) (v := ?_) rfl (by kernel_rfl) (by kernel_rfl) (by kernel_rfl) (fun _ _ _ h => h) (Or.inl ⟨by rfl, ?_⟩) (by assumption) ?_
                    rotate_left
                    · intro w' hSw
                      go_simp <;> with_reducible rfl
                    try simp only [Act.put, List.setIfInBounds_toArray, List.set_cons_zero, List.set_cons_succ, List.getElem_toArray, List.getElem_cons_succ, List.getElem_cons_zero]
                    refine wpAnyH_ready (rs := [12]) (by kernel_rfl) (by simp) ?_
                    refine AllReadyH.cons rfl (fun K hK => ?_) AllReadyH.nil
                    · go_simp
                      refine hK.out _ _ (by exact two_endB _ _ _ X6.out (Nat.ne_of_gt hlt5)) (fun hHeld => ?_)
                      clear hK K
                      try simp only [Act.put, List.setIfInBounds_toArray, List.set_cons_zero, List.set_cons_succ, List.getElem_toArray, List.getElem_cons_succ, List.getElem_cons_zero]
                      refine wpAnyH_take (i := 13) (v := ?_) rfl (by kernel_rfl) (by kernel_rfl) (by kernel_rfl) (fun _ _ _ h => h) (Or.inl ⟨by rfl, ?_⟩) (by assumption) ?_
                      rotate_left
                      · intro w' hSw
                        go_simp <;> with_reducible rfl
                      try simp only [Act.put, List.setIfInBounds_toArray, List.set_cons_zero, List.set_cons_succ, List.getElem_toArray, List.getElem_cons_succ, List.getElem_cons_zero]
                      refine wpAnyH_done (by kernel_rfl) ?_ _
                      go_wp2_with fail
                      refine bodyPost_ret (v := .tuple #[.agg #[.string ⟨#[103]⟩, .slice (some ⟨w6.heap.size + 1, 0, none⟩) 2 2], .int .i64 (n6 : Int)]) (by simp [results, Tryz.results12, go_sem, World.cell?_setCell_same, World.cell?_setCell_other, r0, r1, hlt56, hlt57, hlt58, World.cell?_alloc_old]) rfl ?_
                      exact grow_two B6.out hlt56 S56.out S6.out (fun b hb => Nat.lt_of_lt_of_le R1.out.lt hb) HZ6.out HBIG.out (ok_node (by decide) (by decide) (ok_two HE5.out HE6.out)) (by omega) (by exact (blk_at (by simp [World.setCell]) _ _).alloc _)
              · go_simp
                refine hK.out _ _ (by exact hHeld.alloc _) (fun hHeld => ?_)
                clear hK K
                try simp only [Act.put, List.setIfInBounds_toArray, List.set_cons_zero, List.set_cons_succ, List.getElem_toArray, List.getElem_cons_succ, List.getElem_cons_zero]
                refine wpAnyH_ready (rs := [0, 3]) (by kernel_rfl) (by simp) ?_
                refine AllReadyH.cons rfl (fun K hK => ?_) (AllReadyH.cons rfl (fun K hK => ?_) AllReadyH.nil)
                · go_simp
                  refine hK.out _ _ (by exact hHeld.alloc _) (fun hHeld => ?_)
                  clear hK K
                  try simp only [Act.put, List.setIfInBounds_toArray, List.set_cons_zero, List.set_cons_succ, List.getElem_toArray, List.getElem_cons_succ, List.getElem_cons_zero]
                  refine held_mono (S' := TwoF w5 w6 t5 t6 a5 a6 c5 c6 (w6.heap.size + 1 + 1)) (fun _ h => h.1) _ _ _ _ ?_
                  replace hHeld := two_up (b := w6.heap.size + 1 + 1) hHeld (by exact blk_at (w := (w6.alloc (.cells #[.string t6.name, .slice a6 t6.args.length c6] 25)).alloc (.cells #[.string t5.name, .slice a5 t5.args.length c5, .string t6.name, .slice a6 t6.args.length c6] 25)) (by simp) _ _)
                  refine wpAnyH_ready (rs := [3]) (by kernel_rfl) (by simp) ?_
                  refine AllReadyH.cons rfl (fun K hK => ?_) AllReadyH.nil
                  · go_simp
                    go_at_call 5
                    refine (HPK.out _).mono ?_
                    rintro e w7 ⟨rfl, rfl⟩
                    go_simp
                    refine hK.out _ _ (by exact hHeld) (fun hHeld => ?_)
                    clear hK K
                    try simp only [Act.put, List.setIfInBounds_toArray, List.set_cons_zero, List.set_cons_succ, List.getElem_toArray, List.getElem_cons_succ, List.getElem_cons_zero]
                    refine wpAnyH_take (i := 4) (v := ?_) rfl (by kernel_rfl) (by kernel_rfl) (by kernel_rfl) (fun _ _ _ h => h) (Or.inl ⟨by rfl, ?_⟩) (by assumption) ?_
                    rotate_left
                    · intro w' hSw
                      go_simp <;> with_reducible rfl
                    try simp only [Act.put, List.setIfInBounds_toArray, List.set_cons_zero, List.set_cons_succ, List.getElem_toArray, List.getElem_cons_succ, List.getElem_cons_zero]
                    refine wpAnyH_take (i := 5) (v := ?_) rfl (by kernel_rfl) (by kernel_rfl) (by kernel_rfl) (fun _ _ _ h => h) (Or.inl ⟨by rfl, ?_⟩) (by assumption) ?_
                    rotate_left
                    · intro w' hSw
                      go_simp <;> with_reducible rfl
                    try simp only [Act.put, List.setIfInBounds_toArray, List.set_cons_zero, List.set_cons_succ, List.getElem_toArray, List.getElem_cons_succ, List.getElem_cons_zero]
                    refine wpAnyH_take (i := 6) (v := ?_) rfl (by kernel_rfl) (by kernel_rfl) (by kernel_rfl) (fun _ _ _ h => h) (Or.inl ⟨by rfl, ?_⟩) (by assumption) ?_
                    rotate_left
                    · intro w' hSw
                      have k4 : w'.cell? ⟨w6.heap.size + 1 + 1, 0, none⟩ = some (.string ⟨#[102]⟩) := hSw.2.cell 0
                      have k5 : w'.cell? ⟨w6.heap.size + 1 + 1, 1, none⟩ = some (.string ⟨#[103]⟩) := hSw.2.cell 1
                      go_simp <;> with_reducible rfl
                    try simp only [Act.put, List.setIfInBounds_toArray, List.set_cons_zero, List.set_cons_succ, List.getElem_toArray, List.getElem_cons_succ, List.getElem_cons_zero]
                    refine wpAnyH_take (i := 10) (v := ?_) rfl (by kernel_rfl) (by kernel_rfl) (by kernel_rfl) (fun _ _ _ h => h) (Or.inl ⟨by rfl, ?_⟩) (by assumption) ?_
                    rotate_left
                    · intro w' hSw
                      go_simp <;> with_reducible rfl
                    try simp only [Act.put, List.setIfInBounds_toArray, List.set_cons_zero, List.set_cons_succ, List.getElem_toArray, List.getElem_cons_succ, List.getElem_cons_zero]
                    refine wpAnyH_ready (rs := [12]) (by kernel_rfl) (by simp) ?_
                    refine AllReadyH.cons rfl (fun K hK => ?_) AllReadyH.nil
                    · go_simp
                      refine hK.out _ _ (by exact two_endB _ _ _ X6.out (Nat.ne_of_gt hlt5)) (fun hHeld => ?_)
                      clear hK K
                      try simp only [Act.put, List.setIfInBounds_toArray, List.set_cons_zero, List.set_cons_succ, List.getElem_toArray, List.getElem_cons_succ, List.getElem_cons_zero]
                      refine wpAnyH_take (i := 13) (v := ?_) rfl (by kernel_rfl) (by kernel_rfl) (by kernel_rfl) (fun _ _ _ h => h) (Or.inl ⟨by rfl, ?_⟩) (by assumption) ?_
                      rotate_left
                      · intro w' hSw
                        go_simp <;> with_reducible rfl
                      try simp only [Act.put, List.setIfInBounds_toArray, List.set_cons_zero, List.set_cons_succ, List.getElem_toArray, List.getElem_cons_succ, List.getElem_cons_zero]
                      refine wpAnyH_done (by kernel_rfl) ?_ _
                      go_wp2_with fail
                      refine bodyPost_ret (v := .tuple #[.agg #[.string ⟨#[103]⟩, .slice (some ⟨w6.heap.size + 1, 0, none⟩) 2 2], .int .i64 (n6 : Int)]) (by simp [results, Tryz.results12, go_sem, World.cell?_setCell_same, World.cell?_setCell_other, r0, r1, hlt56, hlt57, hlt58, World.cell?_alloc_old]) rfl ?_
                      exact grow_two B6.out hlt56 S56.out S6.out (fun b hb => Nat.lt_of_lt_of_le R1.out.lt hb) HZ6.out HBIG.out (ok_node (by decide) (by decide) (ok_two HE5.out HE6.out)) (by omega) (by exact (blk_at (by simp [World.setCell]) _ _).alloc _)
                · go_simp
                  go_at_call 5
                  refine (HPK.out _).mono ?_
                  rintro e w7 ⟨rfl, rfl⟩
                  go_simp
                  refine hK.out _ _ (by exact hHeld) (fun hHeld => ?_)
                  clear hK K
                  try simp only [Act.put, List.setIfInBounds_toArray, List.set_cons_zero, List.set_cons_succ, List.getElem_toArray, List.getElem_cons_succ, List.getElem_cons_zero]
                  refine wpAnyH_take (i := 4) (v := ?_) rfl (by kernel_rfl) (by kernel_rfl) (by kernel_rfl) (fun _ _ _ h => h) (Or.inl ⟨by rfl, ?_⟩) (by assumption) ?_
                  rotate_left
                  · intro w' hSw
                    go_simp <;> with_reducible rfl
                  try simp only [Act.put, List.setIfInBounds_toArray, List.set_cons_zero, List.set_cons_succ, List.getElem_toArray, List.getElem_cons_succ, List.getElem_cons_zero]
                  refine wpAnyH_ready (rs := [0]) (by kernel_rfl) (by simp) ?_
                  refine AllReadyH.cons rfl (fun K hK => ?_) AllReadyH.nil
                  · go_simp
                    refine hK.out _ _ (by exact hHeld.alloc _) (fun hHeld => ?_)
                    clear hK K
                    try simp only [Act.put, List.setIfInBounds_toArray, List.set_cons_zero, List.set_cons_succ, List.getElem_toArray, List.getElem_cons_succ, List.getElem_cons_zero]
                    refine held_mono (S' := TwoF w5 w6 t5 t6 a5 a6 c5 c6 (w6.heap.size + 1 + 1)) (fun _ h => h.1) _ _ _ _ ?_
                    replace hHeld := two_up (b := w6.heap.size + 1 + 1) hHeld (by exact blk_at (w := (w6.alloc (.cells #[.string t6.name, .slice a6 t6.args.length c6] 25)).alloc (.cells #[.string t5.name, .slice a5 t5.args.length c5, .string t6.name, .slice a6 t6.args.length c6] 25)) (by simp) _ _)
                    refine wpAnyH_take (i := 5) (v := ?_) rfl (by kernel_rfl) (by kernel_rfl) (by kernel_rfl) (fun _ _ _ h => h) (Or.inl ⟨by rfl, ?_⟩) (by assumption) ?_
                    rotate_left
                    · intro w' hSw
                      go_simp <;> with_reducible rfl
                    try simp only [Act.put, List.setIfInBounds_toArray, List.set_cons_zero, List.set_cons_succ, List.getElem_toArray, List.getElem_cons_succ, List.getElem_cons_zero]
                    refine wpAnyH_take (i := 6) (v := ?_) rfl (by kernel_rfl) (by kernel_rfl) (by kernel_rfl) (fun _ _ _ h => h) (Or.inl ⟨by rfl, ?_⟩) (by assumption) ?_
                    rotate_left
                    · intro w' hSw
                      have k4 : w'.cell? ⟨w6.heap.size + 1 + 1, 0, none⟩ = some (.string ⟨#[102]⟩) := hSw.2.cell 0
                      have k5 : w'.cell? ⟨w6.heap.size + 1 + 1, 1, none⟩ = some (.string ⟨#[103]⟩) := hSw.2.cell 1
                      go_simp <;> with_reducible rfl
                    try simp only [Act.put, List.setIfInBounds_toArray, List.set_cons_zero, List.set_cons_succ, List.getElem_toArray, List.getElem_cons_succ, List.getElem_cons_zero]
                    refine wpAnyH_take (i := 10) (v := ?_) rfl (by kernel_rfl) (by kernel_rfl) (by kernel_rfl) (fun _ _ _ h => h) (Or.inl ⟨by rfl, ?_⟩) (by assumption) ?_
                    rotate_left
                    · intro w' hSw
                      go_simp <;> with_reducible rfl
                    try simp only [Act.put, List.setIfInBounds_toArray, List.set_cons_zero, List.set_cons_succ, List.getElem_toArray, List.getElem_cons_succ, List.getElem_cons_zero]
                    refine wpAnyH_ready (rs := [12]) (by kernel_rfl) (by simp) ?_
                    refine AllReadyH.cons rfl (fun K hK => ?_) AllReadyH.nil
                    · go_simp
                      refine hK.out _ _ (by exact two_endB _ _ _ X6.out (Nat.ne_of_gt hlt5)) (fun hHeld => ?_)
                      clear hK K
                      try simp only [Act.put, List.setIfInBounds_toArray, List.set_cons_zero, List.set_cons_succ, List.getElem_toArray, List.getElem_cons_succ, List.getElem_cons_zero]
                      refine wpAnyH_take (i := 13) (v := ?_) rfl (by kernel_rfl) (by kernel_rfl) (by kernel_rfl) (fun _ _ _ h => h) (Or.inl ⟨by rfl, ?_⟩) (by assumption) ?_
                      rotate_left
                      · intro w' hSw
                        go_simp <;> with_reducible rfl
                      try simp only [Act.put, List.setIfInBounds_toArray, List.set_cons_zero, List.set_cons_succ, List.getElem_toArray, List.getElem_cons_succ, List.getElem_cons_zero]
                      refine wpAnyH_done (by kernel_rfl) ?_ _
                      go_wp2_with fail
                      refine bodyPost_ret (v := .tuple #[.agg #[.string ⟨#[103]⟩, .slice (some ⟨w6.heap.size + 1, 0, none⟩) 2 2], .int .i64 (n6 : Int)]) (by simp [results, Tryz.results12, go_sem, World.cell?_setCell_same, World.cell?_setCell_other, r0, r1, hlt56, hlt57, hlt58, World.cell?_alloc_old]) rfl ?_
                      exact grow_two B6.out hlt56 S56.out S6.out (fun b hb => Nat.lt_of_lt_of_le R1.out.lt hb) HZ6.out HBIG.out (ok_node (by decide) (by decide) (ok_two HE5.out HE6.out)) (by omega) (by exact (blk_at (by simp [World.setCell]) _ _).alloc _)

def GrowPost (w : World) (i m : Nat) (e : Ending) (w' : World) : Prop :=
  ∃ (a : Option Addr) (c n : Nat) (t : Tm), e = .returned (.tuple #[.agg #[.string t.name, .slice a t.args.length c], .int .i64 (n : Int)]) ∧ Sl w' (fun b => w.heap.size ≤ b) a t.args ∧ t.args.length ≤ c ∧ c ≤ 9223372036854775807 ∧ sizeL [t] ≤ top m ∧ i ≤ n ∧ n ≤ i + top m ∧ Below w.heap.size w w' ∧ errL [t] = 0

theorem grow_any (nv : Nat) (hnv : 1 ≤ nv) (hnv4 : nv ≤ 4) (zs : List Int) (hr : ∀ z ∈ zs, Rng z) (hzl : zs.length ≤ 1000000) (m i : Nat) (u : Value) (w : World) (X : Nat → Prop) (hu : PV w X u zs) (hm : m ≤ 100) (hi : i + top m ≤ 1000) :
    Calls Tryz.prog 12 #[u, .int .i64 (i : Int), .int .i64 (m : Int), .int .i64 (nv : Int)] w fun e w' => GrowPost w i m e w' := by
  refine (growV_any nv hnv hnv4 zs hr hzl m i u w X hu hm hi).mono ?_
  rintro e w' ⟨a, c, n, t, h1, h2, h3, h4, h5, h6, h7, h8, h9⟩
  exact ⟨a, c, n, t, h1, h2, h3, h4, h5, h6, h7, h8, h9.1⟩
end Go.Proofs.YteghhdogmdpbpakGreat

/- Walks: a term out of raw numbers, and the law on all its places. -/
namespace Go.Proofs.YteghhdogmdpbpakGreat
open Go.RowKit
set_option linter.unusedSimpArgs false
set_option linter.unusedVariables false
set_option maxRecDepth 8000

theorem one_world {w w5 : World} {Z : Nat → Prop} {a : Option Addr} {l : List Tm} {v0 v1 : Value} {o1 : Obj} (hs : Sl w5 Z a l) (hZ : ∀ b, Z b → w.heap.size < b) : Sl (((w5.setCell ⟨w.heap.size, 0, none⟩ v0).setCell ⟨w.heap.size, 1, none⟩ v1).alloc o1) (fun b => Z b ∧ b < w5.heap.size) a l := by
  refine (hs.mono (Y := fun b => Z b ∧ b < w5.heap.size) fun b h1 h2 => ⟨h1, h2⟩).kept fun b hb => ?_
  have := hZ b hb.1
  rw [Below.heap_alloc _ _ _ (by simp [World.setCell]; omega), Below.heap_setCell _ _ _ _ (by simp; omega), Below.heap_setCell _ _ _ _ (by simp; omega)]

theorem termOfV_any (nv : Nat) (hnv : 1 ≤ nv) (hnv4 : nv ≤ 4) (zs : List Int) (hr : ∀ z ∈ zs, Rng z) (hzl : zs.length ≤ 1000000) (m i : Nat) (u : Value) (w : World) (X : Nat → Prop) (hu : PV w X u zs) (hm : m ≤ 100) (hi : i + top m ≤ 1000) :
    Calls Tryz.prog 4 #[u, .int .i64 (i : Int), .int .i64 (m : Int), .int .i64 (nv : Int)] w fun e w' => ∃ (t : Tm) (a : Option Addr) (c : Nat), e = .returned (.agg #[.string t.name, .slice a t.args.length c]) ∧ Sl w' (fun b => w.heap.size ≤ b) a t.args ∧ sizeL [t] ≤ top m ∧ Below w.heap.size w w' ∧ okV nv [t] := by
  have HU := hide hu
  clear hu
  go_enter Tryz.func4, Tryz.ntmps4
  go_wp2_with fail
  refine (growV_any nv hnv hnv4 zs hr hzl m i u _ X (by exact HU.out.alloc _) hm hi).mono ?_
  rintro e w5 ⟨a5, c5, n5, t5, rfl, hs5, hc5, hc5', hz5, hn5, hn5', hb5, he5⟩
  have HE5 := hide he5
  clear he5
  have R5 := hide ((Blk.new w #[.string ⟨#[]⟩, .slice none 0 0] 25).below hb5 (by simp))
  have B5 := hide (((Below.refl w.heap.size w).alloc (Nat.le_refl _) (.cells #[.string ⟨#[]⟩, .slice none 0 0] 25)).trans (hb5.mono (by simp)))
  have S5 := hide hs5
  have hlt5 : w.heap.size < w5.heap.size := R5.out.lt
  clear hb5 hs5
  have r0 : w5.cell? ⟨w.heap.size, 0, none⟩ = some (.string ⟨#[]⟩) := R5.out.cell 0
  have r1 : w5.cell? ⟨w.heap.size, 1, none⟩ = some (.slice none 0 0) := R5.out.cell 1
  have rf := R5.out.frozen
  go_wp2_with fail
  refine bodyPost_ret (v := .agg #[.string t5.name, .slice a5 t5.args.length c5]) (by simp [results, Tryz.results4, go_sem, World.cell?_setCell_same, World.cell?_setCell_other, r0, r1, hlt5, World.cell?_alloc_old]) rfl ?_
  refine ⟨t5, a5, c5, rfl, (one_world S5.out (fun b hb => ?_)).mono (fun b hb _ => ?_), hz5, ?_, HE5.out⟩
  · simp at hb; omega
  · have := hb.1; simp at this; omega
  · exact ((B5.out.setCell (by simp) _).setCell (by simp) _).alloc (by simp [World.setCell]; omega) _

theorem termOf_any (nv : Nat) (hnv : 1 ≤ nv) (hnv4 : nv ≤ 4) (zs : List Int) (hr : ∀ z ∈ zs, Rng z) (hzl : zs.length ≤ 1000000) (m i : Nat) (u : Value) (w : World) (X : Nat → Prop) (hu : PV w X u zs) (hm : m ≤ 100) (hi : i + top m ≤ 1000) :
    Calls Tryz.prog 4 #[u, .int .i64 (i : Int), .int .i64 (m : Int), .int .i64 (nv : Int)] w fun e w' => ∃ (t : Tm) (a : Option Addr) (c : Nat), e = .returned (.agg #[.string t.name, .slice a t.args.length c]) ∧ Sl w' (fun b => w.heap.size ≤ b) a t.args ∧ sizeL [t] ≤ top m ∧ Below w.heap.size w w' ∧ errL [t] = 0 := by
  refine (termOfV_any nv hnv hnv4 zs hr hzl m i u w X hu hm hi).mono ?_
  rintro e w' ⟨t, a, c, rfl, h1, h2, h3, h4⟩
  exact ⟨t, a, c, rfl, h1, h2, h3, h4.1⟩
end Go.Proofs.YteghhdogmdpbpakGreat


/- Walks: bindings out of a map, in order. -/
namespace Go.Proofs.YteghhdogmdpbpakGreat
open Go.RowKit
set_option linter.unusedSimpArgs false
set_option linter.unusedVariables false
set_option maxRecDepth 8000

theorem Tryz.infoBind : (Tryz.prog.info? 54).map (fun i => (i.zero, i.size, i.bytes)) = some (some (.agg #[.string ByteArray.empty, .string ByteArray.empty, .slice none 0 0]), 3, 56) := by kernel_rfl

theorem cell_three_new (w : World) (c0 c1 c2 : Value) (T : Nat) : ∀ j u, [c0, c1, c2][j]? = some u → (w.alloc (.cells #[c0, c1, c2] T)).cell? ((⟨w.heap.size, 0, none⟩ : Addr).add j) = some u :=
  World.news_of_block (cs := #[c0, c1, c2]) (heap_alloc_new w _)

/-- A binding appended to a row of them. -/
theorem binds_append {w w1 : World} {N : Nat} {Y : Nat → Prop} {v : Value} {cs : List Bc} (h : BRow w N Y v cs) (hN : N ≤ w.heap.size) (hY : ∀ b, Y b → b < N) (hb : Below w.heap.size w w1) (x : Bc) (ht : Sl w1 (fun b => Y b ∨ w.heap.size ≤ b) x.2.1 x.1.t.args) (hn : cs.length ≤ 1000000) (A : Nat) (hA : w1.heap.size = A) :
    ∃ v2 w3, (Builtin.append_ #[47, 47] 47 #[v, .slice (some ⟨A, 0, none⟩) 1 1]).run Tryz.prog (w1.alloc (.cells #[.string x.1.nm, .string x.1.t.name, .slice x.2.1 x.1.t.args.length x.2.2] 54)) = .ok v2 w3 ∧ BRow w3 N Y v2 (cs ++ [x]) ∧
      (w1.alloc (.cells #[.string x.1.nm, .string x.1.t.name, .slice x.2.1 x.1.t.args.length x.2.2] 54)).grownBy w3 v.ownBlock := by
  subst hA
  obtain ⟨i0, hi, hz0, hz1, hz2⟩ := info_parts Tryz.infoBind
  have hs := hb.size
  obtain ⟨g, cap, w3, hr, ho, hg, hat, hlt⟩ := run_append_lies (P := Tryz.prog) (w := w1.alloc (.cells #[.string x.1.nm, .string x.1.t.name, .slice x.2.1 x.1.t.args.length x.2.2] 54)) 47 47 N 54 i0 _ 3 56 Tryz.underlying47 hi hz0 hz1 hz2 rfl (by decide) v cs.length (flat3 cs) ((h.below hb).own.alloc _)
    ⟨w1.heap.size, 0, none⟩ 1 1 (enc3 x) rfl (cell_three_new _ _ _ _ _) (fun y hy => by simp [enc3] at hy; rcases hy with rfl | rfl | rfl <;> rfl) (by decide) (by unfold maxLen; omega) (by omega) (by simp; omega) _ rfl
  exact ⟨_, w3, hr, h.push hN hY hb ht _ rfl ho hg hat, hg⟩

/-- What is known midway. -/
def IoInv (w : World) (Z : List Bc) (b : Nat) (u : Value) (wr : World) : Prop :=
  ∃ Zr cs : List Bc, RangeAt wr b w.heap.size (Z.map toP) (Zr.map toP) ∧ (cs.map (·.1) ++ Zr.map (·.1)).Perm (Z.map (·.1)) ∧ (∀ x ∈ Zr, x ∈ Z) ∧ BRow wr (w.heap.size + 1) (fun _ => False) u cs ∧ Below w.heap.size w wr ∧ w.heap.size + 1 ≤ wr.heap.size

end Go.Proofs.YteghhdogmdpbpakGreat

/- What is wrong with bindings. -/
namespace Go.Proofs.YteghhdogmdpbpakGreat
open Go.RowKit
set_option linter.unusedSimpArgs false
set_option linter.unusedVariables false

/-- A text is not above another one. -/
def leB (a b : ByteArray) : Bool := Op.bytesLess a.toList b.toList || a.toList == b.toList
def prevN (ls : List Bd) (k : Nat) : Option ByteArray := if k = 0 then none else (ls[k - 1]?).map Bd.nm
/-- What is wrong with a binding behind another one. -/
def bmB (p : Option ByteArray) (d : Bd) : Int :=
  if (nameB d.nm && varB d.nm) = false then 1 else if (match p with | some q => leB d.nm q | none => false) = true then 14 else mayE d.t
def bmK (ls : List Bd) (k : Nat) : Int := match ls[k]? with
  | some d => bmB (prevN ls k) d
  | none => 0
def bmT (ls : List Bd) : Nat → Int
  | 0 => 0
  | n + 1 => if bmT ls n = 0 then bmK ls n else bmT ls n
/-- What is wrong with a list of bindings. -/
def bindsE (ls : List Bd) : Int := if 40 < ls.length then 3 else bmT ls ls.length

theorem bmT_stays {ls : List Bd} {k : Nat} (h : bmT ls k ≠ 0) : ∀ n, k ≤ n → bmT ls n = bmT ls k
  | 0, hn => by have : k = 0 := by omega
                subst this; rfl
  | n + 1, hn => by
    by_cases e : k = n + 1
    · rw [e]
    · have ih := bmT_stays h n (by omega)
      rw [bmT, if_neg (by rw [ih]; exact h), ih]
theorem bmT_err {ls : List Bd} {k : Nat} {z : Int} (hk : k < ls.length) (h40 : ¬ 40 < ls.length) (h0 : bmT ls k = 0) (hz : bmK ls k = z) (hne : z ≠ 0) : bindsE ls = z := by
  have h1 : bmT ls (k + 1) = z := by rw [bmT, if_pos h0, hz]
  unfold bindsE
  rw [if_neg h40, bmT_stays (k := k + 1) (by rw [h1]; exact hne) _ (by omega), h1]
theorem bmT_next {ls : List Bd} {k : Nat} (h0 : bmT ls k = 0) (hz : bmK ls k = 0) : bmT ls (k + 1) = 0 := by rw [bmT, if_pos h0, hz]
theorem bmK_name {ls : List Bd} {k : Nat} (hk : k < ls.length) (h : (nameB ls[k].nm && varB ls[k].nm) = false) : bmK ls k = 1 := by
  unfold bmK bmB
  rw [List.getElem?_eq_getElem hk]
  simp only [h, if_true]
theorem bmK_order {ls : List Bd} {j : Nat} (hk : j + 1 < ls.length) (h : (nameB ls[j + 1].nm && varB ls[j + 1].nm) = true) (hle : leB ls[j + 1].nm (ls[j]'(by omega)).nm = true) : bmK ls (j + 1) = 14 := by
  unfold bmK bmB prevN
  rw [List.getElem?_eq_getElem hk]
  simp only [h, Nat.add_sub_cancel, Nat.succ_ne_zero, if_false, Bool.true_eq_false]
  rw [List.getElem?_eq_getElem (by omega : j < ls.length)]
  simp only [Option.map_some, hle, if_true]
theorem bmK_may {ls : List Bd} {j : Nat} (hk : j + 1 < ls.length) (h : (nameB ls[j + 1].nm && varB ls[j + 1].nm) = true) (hle : leB ls[j + 1].nm (ls[j]'(by omega)).nm = false) : bmK ls (j + 1) = mayE ls[j + 1].t := by
  unfold bmK bmB prevN
  rw [List.getElem?_eq_getElem hk]
  simp only [h, Nat.add_sub_cancel, Nat.succ_ne_zero, if_false, Bool.true_eq_false]
  rw [List.getElem?_eq_getElem (by omega : j < ls.length)]
  simp only [Option.map_some, hle, Bool.false_eq_true, if_false]
theorem bmK_first {ls : List Bd} (hk : 0 < ls.length) (h : (nameB ls[0].nm && varB ls[0].nm) = true) : bmK ls 0 = mayE ls[0].t := by
  unfold bmK bmB prevN
  rw [List.getElem?_eq_getElem hk]
  simp only [h, if_true, Bool.true_eq_false, Bool.false_eq_true, if_false]
end Go.Proofs.YteghhdogmdpbpakGreat


/- Walks: bindings out of raw numbers. -/
namespace Go.Proofs.YteghhdogmdpbpakGreat
open Go.RowKit
set_option linter.unusedSimpArgs false
set_option linter.unusedVariables false
set_option maxRecDepth 8000

/-- The names of made bindings. -/
def four : List ByteArray := [⟨#[85]⟩, ⟨#[88]⟩, ⟨#[89]⟩, ⟨#[90]⟩]
theorem four_at (k : Nat) (h : k < 4) : ∃ s, (#[Value.string ⟨#[85]⟩, .string ⟨#[88]⟩, .string ⟨#[89]⟩, .string ⟨#[90]⟩] : Array Value)[k]? = some (.string s) ∧ four.take (k + 1) = four.take k ++ [s] := by
  match k, h with
  | 0, _ => exact ⟨_, rfl, rfl⟩
  | 1, _ => exact ⟨_, rfl, rfl⟩
  | 2, _ => exact ⟨_, rfl, rfl⟩
  | 3, _ => exact ⟨_, rfl, rfl⟩
def BfInv (w : World) (m : Nat) (u v : Value) (wr : World) : Prop :=
  ∃ (k : Nat) (cs : List Bc), k ≤ 4 ∧ v = .int .i64 (k : Int) ∧ BRow wr (w.heap.size + 1) (fun _ => False) u cs ∧ (cs.map fun x => x.1.nm).Sublist (four.take k) ∧ (∀ x ∈ cs, sizeL [x.1.t] ≤ top m ∧ errL [x.1.t] = 0) ∧ Blk wr w.heap.size #[.string ⟨#[85]⟩, .string ⟨#[88]⟩, .string ⟨#[89]⟩, .string ⟨#[90]⟩] 9 ∧ Below w.heap.size w wr

end Go.Proofs.YteghhdogmdpbpakGreat
