/- Walks: a term with another one at a place that it has. -/
import Derived.Test.YtcjdbbdmighliacZRewriteEndsOwn
import Derived.Test.YtcjdbbdmighliacZBRewriteEndsOwn
import Derived.Test.YtcjdbbdmighliacClt
import Derived.Deep.RegionHeld3
import Derived.Deep.DeepCutAuto
namespace Go.Proofs.Ytcjdbbdmighliac
open Go.RowKit
set_option linter.unusedSimpArgs false
set_option linter.unusedVariables false
set_option maxRecDepth 8000

theorem RowT.put {w : World} {X : Nat → Prop} {y : Tm} {a : Option Addr} {c : Nat} (hy : Sl w X a y.args) : ∀ {l : List Tm} {xs : List Value} (k : Nat), RowT w X l xs → k < l.length → RowT w X (l.set k y) ((xs.set (k * 2) (.string y.name)).set (k * 2 + 1) (.slice a y.args.length c))
  | [], xs, k, h, hk => by simp at hk
  | t :: l, xs, 0, h, _ => by
    obtain ⟨a', c', r, rfl, h1, h2⟩ := h
    exact ⟨a, c, r, by simp, hy, h2⟩
  | t :: l, xs, k + 1, h, hk => by
    obtain ⟨a', c', r, rfl, h1, h2⟩ := h
    refine ⟨a', c', (r.set (k * 2) (.string y.name)).set (k * 2 + 1) (.slice a y.args.length c), ?_, h1, RowT.put hy k h2 (by simpa using hk)⟩
    have e : (k + 1) * 2 = k * 2 + 1 + 1 := by omega
    rw [e]
    simp
theorem putL_set (f : Tm → Tm) : ∀ (l : List Tm) (j k : Nat) (h : k < l.length), putL f ((j + k : Nat) : Int) j l = l.set k (f l[k])
  | [], j, k, h => by simp at h
  | a :: r, j, 0, h => by
    simp only [Nat.add_zero, putL, if_true, List.set_cons_zero, List.getElem_cons_zero]
    have : ∀ (r : List Tm) (m : Nat), j < m → putL f (j : Int) m r = r := fun r => by
      induction r with
      | nil => intro m _; rfl
      | cons b r ih => intro m hm; rw [putL, if_neg (by omega), ih (m + 1) (by omega)]
    rw [this r (j + 1) (by omega)]
  | a :: r, j, k + 1, h => by
    rw [putL, if_neg (by omega)]
    have := putL_set f r (j + 1) k (by simpa using h)
    rw [show j + (k + 1) = j + 1 + k by omega, this]
    simp

theorem owns_mono {w : World} {N M e z n : Nat} {v : Value} {xs : List Value} (h : w.ownsRow N e z v n xs) (hM : M ≤ N) : w.ownsRow M e z v n xs :=
  ⟨h.1, h.2.imp id fun ⟨g, cap, cur, h1, h2, h3⟩ => ⟨g, cap, cur, h1, Nat.le_trans hM h2, h3⟩⟩
theorem ownsRow_put2 {w : World} {N e z n G cap O i j : Nat} {u u' : Value} {xs : List Value} (h : w.ownsRow N e z (.slice (some ⟨G, 0, none⟩) n cap) n xs) (hO : O ≠ G) : ((w.setCell ⟨O, i, none⟩ u).setCell ⟨O, j, none⟩ u').ownsRow N e z (.slice (some ⟨G, 0, none⟩) n cap) n xs := by
  obtain ⟨hl, h1⟩ := h
  refine ⟨hl, ?_⟩
  rcases h1 with h1 | ⟨g, cap', cur, hv, hg, hh, hr⟩
  · exact Or.inl h1
  · refine Or.inr ⟨g, cap', cur, hv, hg, ?_, hr⟩
    have e : g = G := by simp at hv; exact hv.1.symm
    rw [Below.heap_setCell _ _ _ _ (by simp; omega), Below.heap_setCell _ _ _ _ (by simp; omega)]
    exact hh
/-- What has been laid. -/
def KpM (W : World) (N : Nat) (s : ByteArray) (n : Nat) (xs : List Value) (o7 : Value) (wc : World) : Prop :=
  ∃ G O cap : Nat, o7 = .pointer (some ⟨O, 0, none⟩) ∧ N ≤ G ∧ N ≤ O ∧ G ≠ O ∧ Blk wc O #[.string s, .slice (some ⟨G, 0, none⟩) n cap] 25 ∧ wc.ownsRow N 25 2 (.slice (some ⟨G, 0, none⟩) n cap) n xs ∧ Below N W wc
theorem kpM_last {W w1 : World} {N n G cap : Nat} {s : ByteArray} {xs : List Value} (hN : W.heap.size = N) (hown : w1.ownsRow N 25 2 (.slice (some ⟨G, 0, none⟩) n cap) n xs) (hb : Below N W w1) :
    KpM W N s n xs (.pointer (some ⟨w1.heap.size, 0, none⟩)) (w1.alloc (.cells #[.string s, .slice (some ⟨G, 0, none⟩) n cap] 25)) := by
  have hl := hown.lt G rfl
  have hs := hb.size
  exact ⟨G, w1.heap.size, cap, rfl, hl.1, by omega, by omega, Blk.new _ _ _, hown.alloc _, hb.alloc (by omega) _⟩
theorem kpM_first {W w1 : World} {N n G cap O : Nat} {s : ByteArray} {xs : List Value} (hO : N ≤ O) (hB : Blk w1 O #[.string ⟨#[]⟩, .slice none 0 0] 25) (hGO : O < G) (hown : w1.ownsRow N 25 2 (.slice (some ⟨G, 0, none⟩) n cap) n xs) (hb : Below N W w1) :
    KpM W N s n xs (.pointer (some ⟨O, 0, none⟩)) ((w1.setCell ⟨O, 0, none⟩ (.string s)).setCell ⟨O, 1, none⟩ (.slice (some ⟨G, 0, none⟩) n cap)) := by
  have hl := hown.lt G rfl
  refine ⟨G, O, cap, rfl, hl.1, hO, by omega, ?_, ownsRow_put2 hown (by omega), (hb.setCell (by simpa using hO) _).setCell (by simpa using hO) _⟩
  have := (hB.set 0 (.string s)).set 1 (.slice (some ⟨G, 0, none⟩) n cap)
  simpa using this
theorem kput_fin {w w5 : World} {X : Nat → Prop} {l : List Tm} {k G R M T n9 c9 : Nat} {xs : List Value} {cur : Array Value} {s9 : ByteArray} {a9 : Option Addr} {y : Tm} (hX : ∀ b, X b → b < w.heap.size) (hk : k < l.length) (hl : l.length ≤ 9223372036854775807) (hrt : RowT w X l xs) (hcx : cur.toList.take (l.length * 2) = xs) (hG : w.heap.size ≤ G) (hGM : G < M) (hR : w.heap.size ≤ R) (hRG : R ≠ G) (hRM : R < M) (GB : Blk w5 G cur T) (hb : Below w.heap.size w w5)
    (ht : TV w5 (fun b => (X b ∧ b < M) ∨ M ≤ b) (.agg #[.string s9, .slice a9 n9 c9]) y) : ∀ wF : World, (∀ b, b ≠ R → wF.heap[b]? = ((w5.setCell ⟨G, k * 2, none⟩ (.string s9)).setCell ⟨G, k * 2 + 1, none⟩ (.slice a9 n9 c9)).heap[b]?) → Sl wF (fun b => X b ∨ w.heap.size ≤ b) (some ⟨G, 0, none⟩) (l.set k y) := by
  intro wF hF
  obtain ⟨a', c', e, hs9⟩ := ht
  simp at e
  obtain ⟨rfl, rfl, rfl, rfl⟩ := e
  have keep : ∀ b, b ≠ G → b ≠ R → wF.heap[b]? = w5.heap[b]? := fun b h1 h2 => by
    rw [hF b h2, Below.heap_setCell _ _ _ _ (by simpa using h1), Below.heap_setCell _ _ _ _ (by simpa using h1)]
  have h1 : RowT wF (fun b => X b ∨ w.heap.size ≤ b) l xs := hrt.imp fun a kk hs => (hs.kept fun b hb2 => by
    have := hX b hb2
    rw [keep b (by omega) (by omega), hb.block b this]).mono fun b hb2 _ => Or.inl hb2
  have h2 : Sl wF (fun b => X b ∨ w.heap.size ≤ b) a9 y.args := (hs9.kept fun b hb2 => by
    rcases hb2 with hb2 | hb2
    · have := hX b hb2.1
      exact keep b (by omega) (by omega)
    · exact keep b (by omega) (by omega)).mono fun b hb2 _ => by
    rcases hb2 with hb2 | hb2
    · exact Or.inl hb2.1
    · exact Or.inr (by omega)
  have h3 := RowT.put (c := c9) h2 k h1 hk
  have hBF : Blk wF G ((cur.setIfInBounds (k * 2) (.string y.name)).setIfInBounds (k * 2 + 1) (.slice a9 y.args.length c9)) T := by
    have h4 := (GB.set (k * 2) (.string y.name)).set (k * 2 + 1) (.slice a9 y.args.length c9)
    unfold Blk at *
    rw [hF G (fun e => hRG e.symm)]
    exact h4
  refine ⟨by simpa using hl, Or.inr ⟨G, 0, rfl, lies_of_rowT G (Or.inr hG) _ _ 0 h3 (fun _ _ h => h) fun j u hj => ?_⟩⟩
  rw [Nat.zero_add]
  refine (hBF.cell j).trans ?_
  rw [← hcx, ← List.take_set, ← List.take_set, List.getElem?_take] at hj
  split at hj
  · rw [← Array.getElem?_toList]
    simpa using hj
  · cases hj
set_option maxHeartbeats 4000000 in
theorem kputY_any (x : Tm) (zs : List Int) : ∀ (t : Tm) (v p u : Value) (w : World) (X Y : Nat → Prop), TV w X v t → PV w Y p zs → TV w X u x → (atT t zs).isSome = true → sizeL [t] ≤ 1000000 →
    Calls Try.prog 108 #[v, p, u] w fun e w' => ∃ v', e = .returned v' ∧ TV w' (fun b => (X b ∧ b < w.heap.size) ∨ w.heap.size ≤ b) v' (putT x zs t) ∧ Below w.heap.size w w' := by
  induction zs with
  | nil =>
    intro t v p u w X Y hv hp hu hat hsm
    obtain ⟨a, c, rfl, hs⟩ := hv
    obtain ⟨ax, cx, rfl, hsx⟩ := hu
    obtain ⟨pa, pc, rfl, hzl, hz⟩ := hp
    have HU := hide hsx
    go_enter Try.func108, Try.ntmps108
    go_wp2_with fail
    refine bodyPost_ret (v := .agg #[.string x.name, .slice ax x.args.length cx]) (by simp [results, Try.results108, go_sem]) rfl ⟨_, rfl, ?_, ?_⟩
    · exact ⟨ax, cx, by simp [putT], (HU.out.mono (Y := fun b => (X b ∧ b < w.heap.size) ∨ w.heap.size ≤ b) fun b h1 h2 => Or.inl ⟨h1, h2⟩).later (below3 _ _ _)⟩
    · exact below3 _ _ _
  | cons z zs ih =>
    intro t v p u w X0 Y0 hv0 hp0 hu0 hat hsm
    have IH := hide ih
    clear ih
    obtain ⟨X, Y, hX, hYY, hXX, hv, hp, hu⟩ : ∃ X Y : Nat → Prop, (∀ b, X b → b < w.heap.size) ∧ (∀ b, Y b → b < w.heap.size) ∧ (∀ b, X b → X0 b) ∧ TV w X v t ∧ PV w Y p (z :: zs) ∧ TV w X u x := ⟨fun b => X0 b ∧ b < w.heap.size, fun b => Y0 b ∧ b < w.heap.size, fun _ h => h.2, fun _ h => h.2, fun _ h => h.1, hv0.mono fun b h1 h2 => ⟨h1, h2⟩, hp0.mono fun b h1 h2 => ⟨h1, h2⟩, hu0.mono fun b h1 h2 => ⟨h1, h2⟩⟩
    clear hv0 hp0 hu0
    obtain ⟨a, c, rfl, hs⟩ := hv
    obtain ⟨ax, cx, rfl, hsx⟩ := hu
    have HU := hide (show TV w X (.agg #[.string x.name, .slice ax x.args.length cx]) x from ⟨ax, cx, rfl, hsx⟩)
    clear hsx
    obtain ⟨pa, pc, rfl, hzl, hz⟩ := hp
    obtain ⟨b, o, rfl, hxb, hcell⟩ := hz.resolve_left (fun h => by cases h)
    have h0 := hcell 0 (by simp)
    simp only [Nat.add_zero, List.getElem_cons_zero] at h0
    have hzl' : zs.length + 1 ≤ 9223372036854775807 ∧ zs.length + 1 ≤ pc := by simpa using hzl
    obtain ⟨hzl1, hzl2⟩ := hzl'
    obtain ⟨s, l⟩ := t
    have hz1 : sizeL [(⟨s, l⟩ : Tm)] = 1 + sizeL l := by simp [sizeL]
    rw [hz1] at hsm
    clear hz1
    have hlen := sizeL_len l
    rw [atT] at hat
    split at hat
    case isFalse => cases hat
    case isTrue hzk =>
    obtain ⟨k, rfl⟩ : ∃ k : Nat, z = (k : Int) := ⟨z.toNat, by omega⟩
    have hk : k < l.length := by simpa using hzk.2
    have HAT : Hid ((atT l[k] zs).isSome = true) := hide (by simpa using hat)
    obtain ⟨sa, HSA, HT⟩ : ∃ sa : Option Addr, Hid ((if pc = 1 then some (⟨b, o, none⟩ : Addr) else some ⟨b, o + 1, none⟩) = sa) ∧ Hid (PV w Y (.slice sa zs.length (pc - 1)) zs) := by
      by_cases h1 : pc = 1
      · refine ⟨_, rfl, ?_⟩
        have : zs = [] := List.length_eq_zero_iff.1 (by omega)
        subst this
        exact ⟨_, _, rfl, by simp, Or.inl rfl⟩
      · refine ⟨_, rfl, ?_⟩
        rw [if_neg h1]
        exact PV.tail ⟨hzl1, hzl2⟩ hxb hcell
    simp only [List.length_cons] at *
    clear hcell hzl hz hat hzk
    go_enter Try.func108, Try.ntmps108
    go_upto_region 3 with fail
    have hB3 : Below w.heap.size w (((w.alloc (.cells #[.string s, .slice a l.length c] 25)).alloc (.cells #[.string x.name, .slice ax x.args.length cx] 25)).alloc (.cells #[.string ⟨#[]⟩, .slice none 0 0] 25)) := below3 _ _ _
    have hz3 : (((w.alloc (.cells #[.string s, .slice a l.length c] 25)).alloc (.cells #[.string x.name, .slice ax x.args.length cx] 25)).alloc (.cells #[.string ⟨#[]⟩, .slice none 0 0] 25)).heap.size = w.heap.size + 3 := by simp
    obtain ⟨ba, oa, rfl, hlies⟩ := hs.2.resolve_left (fun e => by rw [e] at hk; simp at hk)
    obtain ⟨xs, hrt, hxc⟩ := rowT_of_lies l ba oa hlies
    have HRT := hide hrt
    have hbal : ba < w.heap.size := hX _ (lies_get _ _ _ hlies 0 (by omega)).1
    have CL : Hid (∀ w', Below w.heap.size w w' → Calls Try.prog 127 #[.slice (some ⟨ba, oa, none⟩) l.length c] w' fun e w'' => ∃ G cap, e = .returned (.slice (some ⟨G, 0, none⟩) l.length cap) ∧ w''.ownsRow w'.heap.size 25 2 (.slice (some ⟨G, 0, none⟩) l.length cap) l.length xs ∧ Below w'.heap.size w' w'') := fun w' hb => by
      refine (cloneT_any ba oa l.length c xs w' hrt.len (by omega) (fun j u hj => (hb.cell (p := ⟨ba, oa + j, none⟩) hbal).trans (hxc j u hj)) hrt.one).mono ?_
      rintro e w'' ⟨v', rfl, ho, hne, hb2⟩
      rcases ho.2 with ⟨h1, _⟩ | ⟨g, cap, cur, hv, _⟩
      · exact absurd h1 hne
      · subst hv
        exact ⟨g, cap, rfl, ho, hb2⟩
    go_cut [7] (fun o7 wc => KpM (((w.alloc (.cells #[.string s, .slice (some ⟨ba, oa, none⟩) l.length c] 25)).alloc (.cells #[.string x.name, .slice ax x.args.length cx] 25)).alloc (.cells #[.string ⟨#[]⟩, .slice none 0 0] 25)) (w.heap.size + 3) s l.length xs o7 wc)
    case first =>
      have T3 : Blk (((w.alloc (.cells #[.string s, .slice (some ⟨ba, oa, none⟩) l.length c] 25)).alloc (.cells #[.string x.name, .slice ax x.args.length cx] 25)).alloc (.cells #[.string ⟨#[]⟩, .slice none 0 0] 25)) w.heap.size #[.string s, .slice (some ⟨ba, oa, none⟩) l.length c] 25 := ((Blk.new w _ _).alloc _).alloc _
      have HB3 := hide hB3
      generalize (((w.alloc (.cells #[.string s, .slice (some ⟨ba, oa, none⟩) l.length c] 25)).alloc (.cells #[.string x.name, .slice ax x.args.length cx] 25)).alloc (.cells #[.string ⟨#[]⟩, .slice none 0 0] 25)) = W at *
      have t0 : W.cell? ⟨w.heap.size, 0, none⟩ = some (.string s) := T3.cell 0
      have t1 : W.cell? ⟨w.heap.size, 1, none⟩ = some (.slice (some ⟨ba, oa, none⟩) l.length c) := T3.cell 1
      have HS0 := hide (And.intro t0 t1)
      have KP : Hid (∀ w', Below (w.heap.size + 3) W w' → w'.cell? ⟨w.heap.size, 0, none⟩ = some (.string s) ∧ w'.cell? ⟨w.heap.size, 1, none⟩ = some (.slice (some ⟨ba, oa, none⟩) l.length c)) := fun w' hb => ⟨(hb.cell (p := ⟨w.heap.size, 0, none⟩) (by simp)).trans t0, (hb.cell (p := ⟨w.heap.size, 1, none⟩) (by simp)).trans t1⟩
      have HD : Hid (Below (w.heap.size + 3) W W.drew) := (Below.refl _ _).drew
      have HA : Hid (∀ o, Below (w.heap.size + 3) W (W.drew.alloc o)) := fun o => ((Below.refl _ _).drew).alloc (by simp; omega) o
      have CL2 : Hid (∀ w', Below (w.heap.size + 3) W w' → Calls Try.prog 127 #[.slice (some ⟨ba, oa, none⟩) l.length c] w' fun e w'' => ∃ G cap, e = .returned (.slice (some ⟨G, 0, none⟩) l.length cap) ∧ w''.ownsRow w'.heap.size 25 2 (.slice (some ⟨G, 0, none⟩) l.length cap) l.length xs ∧ Below w'.heap.size w' w'' ∧ Below (w.heap.size + 3) W w'') := fun w' hb => (CL.out w' (HB3.out.trans (hb.mono (by omega)))).mono fun e w'' ⟨G, cap, h1, h2, h3⟩ => ⟨G, cap, h1, h2, h3, hb.trans (h3.mono (by have := hb.size; omega))⟩
      have HZ3 := hide hz3
      have nW : w.heap.size ≠ W.heap.size := by omega
      clear hz3
      go_region_held3 (fun w' => w'.cell? ⟨w.heap.size, 0, none⟩ = some (.string s) ∧ w'.cell? ⟨w.heap.size, 1, none⟩ = some (.slice (some ⟨ba, oa, none⟩) l.length c)) (first | exact hS | exact HS0.out | exact KP.out _ (HA.out _) | exact ⟨set2_keep hS.1 nW, set2_keep hS.2 nW⟩ | go_keep)
        (first
          | (go_at_call 127;
              first
                | (refine (CL2.out _ (by first | exact Below.refl _ _ | exact HD.out)).mono ?_; rintro e w5 ⟨G, cap, rfl, ho5, hb5, hB5⟩; have hS := KP.out _ hB5)
                | (refine (CL2.out _ (by exact HA.out (.cells #[.string ⟨#[]⟩, .slice none 0 0] 25))).mono ?_; rintro e w5 ⟨G, cap, rfl, ho5, hb5, hB5⟩; have hS := KP.out _ hB5; have QB : Blk w5 W.heap.size #[.string ⟨#[]⟩, .slice none 0 0] 25 := (Blk.new W.drew _ _).below hb5 (by simp); have q0 : w5.cell? ⟨W.heap.size, 0, none⟩ = some (.string ⟨#[]⟩) := QB.cell 0; have q1 : w5.cell? ⟨W.heap.size, 1, none⟩ = some (.slice none 0 0) := QB.cell 1; have qf := QB.frozen)))
      all_goals have hGl := ho5.lt G rfl
      all_goals go_wp2_with fail
      all_goals go_meet
      all_goals first
        | exact kpM_last (by exact HZ3.out) (owns_mono ho5 (by have := HZ3.out; simp; omega)) hB5
        | (have hz3 := HZ3.out; have e : W.heap.size = w.heap.size + 3 := hz3; exact kpM_first (by omega) QB (by have := hGl.1; simp at this; omega) (owns_mono ho5 (by simp; omega)) hB5)
    case rest =>
      obtain ⟨G, O, cap, rfl, hG3, hO3, hGO, hBO, hown, hbw⟩ := hcut
      have T3 : Blk (((w.alloc (.cells #[.string s, .slice (some ⟨ba, oa, none⟩) l.length c] 25)).alloc (.cells #[.string x.name, .slice ax x.args.length cx] 25)).alloc (.cells #[.string ⟨#[]⟩, .slice none 0 0] 25)) w.heap.size #[.string s, .slice (some ⟨ba, oa, none⟩) l.length c] 25 := ((Blk.new w _ _).alloc _).alloc _
      have X3 : Blk (((w.alloc (.cells #[.string s, .slice (some ⟨ba, oa, none⟩) l.length c] 25)).alloc (.cells #[.string x.name, .slice ax x.args.length cx] 25)).alloc (.cells #[.string ⟨#[]⟩, .slice none 0 0] 25)) (w.heap.size + 1) #[.string x.name, .slice ax x.args.length cx] 25 := by
        have := (Blk.new (w.alloc (.cells #[.string s, .slice (some ⟨ba, oa, none⟩) l.length c] 25)) #[.string x.name, .slice ax x.args.length cx] 25).alloc (.cells #[.string ⟨#[]⟩, .slice none 0 0] 25)
        rw [World.size_alloc] at this
        exact this
      have hbW : Below w.heap.size w wc := hB3.trans (hbw.mono (by omega))
      have c01 : wc.cell? ⟨w.heap.size, 1, none⟩ = some (.slice (some ⟨ba, oa, none⟩) l.length c) := (hbw.cell (p := ⟨w.heap.size, 1, none⟩) (by simp)).trans (T3.cell 1)
      have cz : wc.cell? ⟨b, o, none⟩ = some (.int .i64 (k : Int)) := (hbW.cell (p := ⟨b, o, none⟩) (by simpa using hYY b hxb)).trans h0
      have hkl : (k : Int) < (l.length : Int) := by omega
      have x0 : wc.cell? ⟨w.heap.size + 1, 0, none⟩ = some (.string x.name) := (hbw.cell (p := ⟨w.heap.size + 1, 0, none⟩) (by simp)).trans (X3.cell 0)
      have x1 : wc.cell? ⟨w.heap.size + 1, 1, none⟩ = some (.slice ax x.args.length cx) := (hbw.cell (p := ⟨w.heap.size + 1, 1, none⟩) (by simp)).trans (X3.cell 1)
      obtain ⟨b1, o1, a', c', hae, d0, d1, hx⟩ := hs.get hbW (fun b hb _ => hX b hb) k hk
      have eba : b1 = ba ∧ o1 = oa := by simp at hae; exact ⟨hae.1.symm, hae.2.symm⟩
      obtain ⟨rfl, rfl⟩ := eba
      have o1' : wc.cell? ⟨O, 1, none⟩ = some (.slice (some ⟨G, 0, none⟩) l.length cap) := hBO.cell 1
      have HX := hide hx
      have hszk : sizeL [l[k]] ≤ 1000000 := by
        have := sizeL_take l k hk; have := sizeL_take_le l (k + 1); omega
      have hslq : ∀ w' : World, Sem.run Try.prog (Instr.slice 34 (.slice (some ⟨b, o, none⟩) (zs.length + 1) pc) (some (.int .i64 1)) none none) w' = .ok (.slice sa zs.length (pc - 1)) w' := fun w' => by
        rw [slice_tail_run b o zs.length pc hzl2 w', HSA.out]
      have hnG : ∀ b, b < w.heap.size + 3 → b ≠ G := fun b hb => by omega
      have hlen9 := hs.1
      have hput : putT x ((k : Int) :: zs) ⟨s, l⟩ = ⟨s, l.set k (putT x zs l[k])⟩ := by
        have := putL_set (putT x zs) l 0 k hk
        rw [Nat.zero_add] at this
        rw [putT, this]
      have PU : Hid (∀ w', Below wc.heap.size wc w' → Calls Try.prog 108 #[.agg #[.string l[k].name, .slice a' l[k].args.length c'], .slice sa zs.length (pc - 1), .agg #[.string x.name, .slice ax x.args.length cx]] w' fun e w'' => ∃ s9 a9 n9 c9, e = .returned (.agg #[.string s9, .slice a9 n9 c9]) ∧ TV w'' (fun b => (X b ∧ b < w'.heap.size) ∨ w'.heap.size ≤ b) (.agg #[.string s9, .slice a9 n9 c9]) (putT x zs l[k]) ∧ Below wc.heap.size wc w'') := fun w' hb => by
        refine (IH.out l[k] _ _ _ w' X Y (HX.out.later hb) ((HT.out.later hbW).later hb) ((HU.out.later hbW).later hb) HAT.out hszk).mono ?_
        rintro e w'' ⟨v', rfl, ht, hb2⟩
        obtain ⟨a9, c9, rfl, hs9⟩ := ht
        exact ⟨_, a9, _, c9, rfl, ⟨a9, c9, rfl, hs9⟩, hb.trans (hb2.mono hb.size)⟩
      have hcs6 : wc.cell? ⟨O, 1, none⟩ = some (.slice (some ⟨G, 0, none⟩) l.length cap) ∧ wc.cell? ⟨w.heap.size, 1, none⟩ = some (.slice (some ⟨b1, o1, none⟩) l.length c) ∧ wc.cell? ⟨b1, o1 + k * 2, none⟩ = some (.string l[k].name) ∧ wc.cell? ⟨b1, o1 + k * 2 + 1, none⟩ = some (.slice a' l[k].args.length c') ∧ wc.cell? ⟨w.heap.size + 1, 0, none⟩ = some (.string x.name) ∧ wc.cell? ⟨w.heap.size + 1, 1, none⟩ = some (.slice ax x.args.length cx) := ⟨o1', c01, d0, d1, x0, x1⟩
      have HS0 := hide hcs6
      have hOl : O < wc.heap.size := hBO.lt
      have hszc : w.heap.size + 3 ≤ wc.heap.size := by have := hbw.size; omega
      have KP : Hid (∀ w', Below wc.heap.size wc w' → w'.cell? ⟨O, 1, none⟩ = some (.slice (some ⟨G, 0, none⟩) l.length cap) ∧ w'.cell? ⟨w.heap.size, 1, none⟩ = some (.slice (some ⟨b1, o1, none⟩) l.length c) ∧ w'.cell? ⟨b1, o1 + k * 2, none⟩ = some (.string l[k].name) ∧ w'.cell? ⟨b1, o1 + k * 2 + 1, none⟩ = some (.slice a' l[k].args.length c') ∧ w'.cell? ⟨w.heap.size + 1, 0, none⟩ = some (.string x.name) ∧ w'.cell? ⟨w.heap.size + 1, 1, none⟩ = some (.slice ax x.args.length cx)) := fun w' hb => ⟨(hb.cell (p := ⟨O, 1, none⟩) hOl).trans o1', (hb.cell (p := ⟨w.heap.size, 1, none⟩) (by simp; omega)).trans c01, (hb.cell (p := ⟨b1, o1 + k * 2, none⟩) (by simp; omega)).trans d0, (hb.cell (p := ⟨b1, o1 + k * 2 + 1, none⟩) (by simp; omega)).trans d1, (hb.cell (p := ⟨w.heap.size + 1, 0, none⟩) (by simp; omega)).trans x0, (hb.cell (p := ⟨w.heap.size + 1, 1, none⟩) (by simp; omega)).trans x1⟩
      obtain ⟨cur, hGb, hcur, hcx, hcap⟩ : ∃ cur : Array Value, Blk wc G cur 25 ∧ cur.size = cap * 2 ∧ cur.toList.take (l.length * 2) = xs ∧ l.length ≤ cap := by
        rcases hown.2 with ⟨h1, _⟩ | ⟨g, cap', cur, hv, _, hh, hnc, _, hz, ht⟩
        · cases h1
        · simp at hv
          obtain ⟨rfl, rfl⟩ := hv
          exact ⟨cur, hh, hz, ht, hnc⟩
      have HGB := hide hGb
      obtain ⟨y0, hy0⟩ : ∃ y, cur[k * 2]? = some y := ⟨_, Array.getElem?_eq_getElem (by omega)⟩
      obtain ⟨y1, hy1⟩ : ∃ y, cur[k * 2 + 1]? = some y := ⟨_, Array.getElem?_eq_getElem (by omega)⟩
      have nO : O ≠ G := fun e => hGO e.symm
      have n1 : w.heap.size ≠ G := by omega
      have n2 : b1 ≠ G := by omega
      have n3 : w.heap.size + 1 ≠ G := by omega
      have n4 : w.heap.size + 1 + 1 ≠ G := by omega
      have hRc : Blk wc (w.heap.size + 1 + 1) #[.string ⟨#[]⟩, .slice none 0 0] 25 := by
        have h1 := Blk.new ((w.alloc (.cells #[.string s, .slice (some ⟨b1, o1, none⟩) l.length c] 25)).alloc (.cells #[.string x.name, .slice ax x.args.length cx] 25)) #[.string ⟨#[]⟩, .slice none 0 0] 25
        rw [World.size_alloc, World.size_alloc] at h1
        unfold Blk at *
        rw [hbw.block _ (by omega)]
        exact h1
      have hGl : G < wc.heap.size := hGb.lt
      clear o1' c01 d0 d1 x0 x1 hcs6
      go_wp2_with fail
      go_region_held3 (fun w' => w'.cell? ⟨O, 1, none⟩ = some (.slice (some ⟨G, 0, none⟩) l.length cap) ∧ w'.cell? ⟨w.heap.size, 1, none⟩ = some (.slice (some ⟨b1, o1, none⟩) l.length c) ∧ w'.cell? ⟨b1, o1 + k * 2, none⟩ = some (.string l[k].name) ∧ w'.cell? ⟨b1, o1 + k * 2 + 1, none⟩ = some (.slice a' l[k].args.length c') ∧ w'.cell? ⟨w.heap.size + 1, 0, none⟩ = some (.string x.name) ∧ w'.cell? ⟨w.heap.size + 1, 1, none⟩ = some (.slice ax x.args.length cx)) (first | exact hS | exact HS0.out | exact ⟨set2_keep hS.1 nO, set2_keep hS.2.1 n1, set2_keep hS.2.2.1 n2, set2_keep hS.2.2.2.1 n2, set2_keep hS.2.2.2.2.1 n3, set2_keep hS.2.2.2.2.2 n3⟩ | go_keep)
        (first
          | (go_at_call 108; refine (PU.out _ (by first | exact Below.refl _ _ | exact (Below.refl _ _).drew)).mono ?_; rintro e w5 ⟨s9, a9, n9, c9, rfl, ht5, hb5⟩; have hS := KP.out _ hb5; have GB := HGB.out.below hb5 hGl; have gf := GB.frozen; have g0 : w5.cell? ⟨G, k * 2, none⟩ = some y0 := (GB.cell (k * 2)).trans hy0; have g1 : w5.cell? ⟨G, k * 2 + 1, none⟩ = some y1 := (GB.cell (k * 2 + 1)).trans hy1))
      all_goals
        have OB := (hBO.below hb5 hOl)
        have OB9 := (OB.setOther (k * 2) (.string s9) nO).setOther (k * 2 + 1) (.slice a9 n9 c9) nO
        have GB9 := (GB.set (k * 2) (.string s9)).set (k * 2 + 1) (.slice a9 n9 c9)
        have hR5 := ((hRc.below hb5 (by omega)).setOther (k * 2) (.string s9) n4).setOther (k * 2 + 1) (.slice a9 n9 c9) n4
        have hb9 : Below w.heap.size w ((w5.setCell ⟨G, k * 2, none⟩ (.string s9)).setCell ⟨G, k * 2 + 1, none⟩ (.slice a9 n9 c9)) := ((hbW.trans (hb5.mono (by omega))).setCell (p := ⟨G, k * 2, none⟩) (by simp; omega) _).setCell (p := ⟨G, k * 2 + 1, none⟩) (by simp; omega) _
        have HFIN := hide (kput_fin (R := w.heap.size + 1 + 1) hX hk hlen9 HRT.out hcx (by omega) (by exact hGl) (by omega) n4 (by have := hszc; simp; omega) GB (hbW.trans (hb5.mono (by omega))) ht5)
        have hGx9 := hb5.size
        generalize ((w5.setCell ⟨G, k * 2, none⟩ (.string s9)).setCell ⟨G, k * 2 + 1, none⟩ (.slice a9 n9 c9)) = w9 at *
        have u0 : w9.cell? ⟨O, 0, none⟩ = some (.string s) := OB9.cell 0
        have u1 : w9.cell? ⟨O, 1, none⟩ = some (.slice (some ⟨G, 0, none⟩) l.length cap) := OB9.cell 1
        have r20 : w9.cell? ⟨w.heap.size + 1 + 1, 0, none⟩ = some (.string ⟨#[]⟩) := hR5.cell 0
        have r21 : w9.cell? ⟨w.heap.size + 1 + 1, 1, none⟩ = some (.slice none 0 0) := hR5.cell 1
        have rf := hR5.frozen
        go_wp2_with fail
        refine bodyPost_ret (v := .agg #[.string s, .slice (some ⟨G, 0, none⟩) l.length cap]) (by simp [results, Try.results108, go_sem, r20, r21, World.cell?_setCell_same, World.cell?_setCell_other]) rfl ⟨_, rfl, ?_, ?_⟩
        · refine ⟨some ⟨G, 0, none⟩, cap, ?_, ?_⟩
          · rw [hput]; simp
          · rw [hput]
            exact (HFIN.out _ (fun b hb => by rw [Below.heap_setCell _ _ _ _ (by simpa using hb), Below.heap_setCell _ _ _ _ (by simpa using hb)])).mono fun b hb _ => hb.imp (fun h => ⟨hXX b h, hX b h⟩) id
        · exact (hb9.setCell (by simp; omega) _).setCell (by simp; omega) _
theorem kput_any (x : Tm) (zs : List Int) (t : Tm) (v p u : Value) (w : World) (X : Nat → Prop) (hv : TV w X v t) (hp : PV w X p zs) (hu : TV w X u x) (hat : (atT t zs).isSome = true) (hz : sizeL [t] ≤ 1000000) :
    Calls Try.prog 108 #[v, p, u] w fun e w' => ∃ v', e = .returned v' ∧ TV w' (fun b => (X b ∧ b < w.heap.size) ∨ w.heap.size ≤ b) v' (putT x zs t) ∧ Below w.heap.size w w' := kputY_any x zs t v p u w X X hv hp hu hat hz
#print axioms kput_any
end Go.Proofs.Ytcjdbbdmighliac
