/- Several texts in one. -/
import Derived.Test.YtbnmlkaejdpigaaGreatDoorZTopLocalOwn
import Derived.Test.YtbnmlkaejdpigaaGreatDoorZCTopLocalOwn
import Derived.Deep.RegionHeld3
import Derived.Deep.DeepCutAuto
import Derived.Deep.RegionHeld
namespace Go.Proofs.YtbnmlkaejdpigaaGreatDoor
open Go.RowKit
set_option linter.unusedSimpArgs false
set_option linter.unusedVariables false
set_option maxRecDepth 8000
theorem RowT.put {w : World} {X : Nat → Prop} {y : Tm} {a : Option Addr} {c : Nat} (hy : Sl w X a y.args) : ∀ {l : List Tm} {xs : List Value} (k : Nat), RowT w X l xs → k < l.length → RowT w X (l.set k y) ((xs.set (k * 2) (.string y.name)).set (k * 2 + 1) (.slice a y.args.length c))
  | [], xs, k, h, hk => by simp at hk
  | t :: l, xs, 0, h, _ => by
    obtain ⟨a', c', r, rfl, h1, h2⟩ := h
    exact ⟨a, c, r, by simp, hy, h2⟩
  | t :: l, xs, k + 1, h, hk => by
    obtain ⟨a', c', r, rfl, h1, h2⟩ := h
    refine ⟨a', c', (r.set (k * 2) (.string y.name)).set (k * 2 + 1) (.slice a y.args.length c), ?_, h1, RowT.put hy k h2 (by simpa using hk)⟩
    have e : (k + 1) * 2 = k * 2 + 1 + 1 := by omega
    rw [e]
    simp
theorem putL_set (f : Tm → Tm) : ∀ (l : List Tm) (j k : Nat) (h : k < l.length), putL f ((j + k : Nat) : Int) j l = l.set k (f l[k])
  | [], j, k, h => by simp at h
  | a :: r, j, 0, h => by
    simp only [Nat.add_zero, putL, if_true, List.set_cons_zero, List.getElem_cons_zero]
    have : ∀ (r : List Tm) (m : Nat), j < m → putL f (j : Int) m r = r := fun r => by
      induction r with
      | nil => intro m _; rfl
      | cons b r ih => intro m hm; rw [putL, if_neg (by omega), ih (m + 1) (by omega)]
    rw [this r (j + 1) (by omega)]
  | a :: r, j, k + 1, h => by
    rw [putL, if_neg (by omega)]
    have := putL_set f r (j + 1) k (by simpa using h)
    rw [show j + (k + 1) = j + 1 + k by omega, this]
    simp
theorem owns_mono {w : World} {N M e z n : Nat} {v : Value} {xs : List Value} (h : w.ownsRow N e z v n xs) (hM : M ≤ N) : w.ownsRow M e z v n xs :=
  ⟨h.1, h.2.imp id fun ⟨g, cap, cur, h1, h2, h3⟩ => ⟨g, cap, cur, h1, Nat.le_trans hM h2, h3⟩⟩
theorem ownsRow_put2 {w : World} {N e z n G cap O i j : Nat} {u u' : Value} {xs : List Value} (h : w.ownsRow N e z (.slice (some ⟨G, 0, none⟩) n cap) n xs) (hO : O ≠ G) : ((w.setCell ⟨O, i, none⟩ u).setCell ⟨O, j, none⟩ u').ownsRow N e z (.slice (some ⟨G, 0, none⟩) n cap) n xs := by
  obtain ⟨hl, h1⟩ := h
  refine ⟨hl, ?_⟩
  rcases h1 with h1 | ⟨g, cap', cur, hv, hg, hh, hr⟩
  · exact Or.inl h1
  · refine Or.inr ⟨g, cap', cur, hv, hg, ?_, hr⟩
    have e : g = G := by simp at hv; exact hv.1.symm
    rw [Below.heap_setCell _ _ _ _ (by simp; omega), Below.heap_setCell _ _ _ _ (by simp; omega)]
    exact hh
def KpM (W : World) (N : Nat) (s : ByteArray) (n : Nat) (xs : List Value) (o7 : Value) (wc : World) : Prop :=
  ∃ G O cap : Nat, o7 = .pointer (some ⟨O, 0, none⟩) ∧ N ≤ G ∧ N ≤ O ∧ G ≠ O ∧ Blk wc O #[.string s, .slice (some ⟨G, 0, none⟩) n cap] 32 ∧ wc.ownsRow N 32 2 (.slice (some ⟨G, 0, none⟩) n cap) n xs ∧ Below N W wc
theorem kpM_last {W w1 : World} {N n G cap : Nat} {s : ByteArray} {xs : List Value} (hN : W.heap.size = N) (hown : w1.ownsRow N 32 2 (.slice (some ⟨G, 0, none⟩) n cap) n xs) (hb : Below N W w1) :
    KpM W N s n xs (.pointer (some ⟨w1.heap.size, 0, none⟩)) (w1.alloc (.cells #[.string s, .slice (some ⟨G, 0, none⟩) n cap] 32)) := by
  have hl := hown.lt G rfl
  have hs := hb.size
  exact ⟨G, w1.heap.size, cap, rfl, hl.1, by omega, by omega, Blk.new _ _ _, hown.alloc _, hb.alloc (by omega) _⟩
theorem kpM_first {W w1 : World} {N n G cap O : Nat} {s : ByteArray} {xs : List Value} (hO : N ≤ O) (hB : Blk w1 O #[.string ⟨#[]⟩, .slice none 0 0] 32) (hGO : O < G) (hown : w1.ownsRow N 32 2 (.slice (some ⟨G, 0, none⟩) n cap) n xs) (hb : Below N W w1) :
    KpM W N s n xs (.pointer (some ⟨O, 0, none⟩)) ((w1.setCell ⟨O, 0, none⟩ (.string s)).setCell ⟨O, 1, none⟩ (.slice (some ⟨G, 0, none⟩) n cap)) := by
  have hl := hown.lt G rfl
  refine ⟨G, O, cap, rfl, hl.1, hO, by omega, ?_, ownsRow_put2 hown (by omega), (hb.setCell (by simpa using hO) _).setCell (by simpa using hO) _⟩
  have := (hB.set 0 (.string s)).set 1 (.slice (some ⟨G, 0, none⟩) n cap)
  simpa using this
theorem kput_fin {w w5 : World} {X : Nat → Prop} {l : List Tm} {k G R M T n9 c9 : Nat} {xs : List Value} {cur : Array Value} {s9 : ByteArray} {a9 : Option Addr} {y : Tm} (hX : ∀ b, X b → b < w.heap.size) (hk : k < l.length) (hl : l.length ≤ 9223372036854775807) (hrt : RowT w X l xs) (hcx : cur.toList.take (l.length * 2) = xs) (hG : w.heap.size ≤ G) (hGM : G < M) (hR : w.heap.size ≤ R) (hRG : R ≠ G) (hRM : R < M) (GB : Blk w5 G cur T) (hb : Below w.heap.size w w5)
    (ht : TV w5 (fun b => (X b ∧ b < M) ∨ M ≤ b) (.agg #[.string s9, .slice a9 n9 c9]) y) : ∀ wF : World, (∀ b, b ≠ R → wF.heap[b]? = ((w5.setCell ⟨G, k * 2, none⟩ (.string s9)).setCell ⟨G, k * 2 + 1, none⟩ (.slice a9 n9 c9)).heap[b]?) → Sl wF (fun b => X b ∨ w.heap.size ≤ b) (some ⟨G, 0, none⟩) (l.set k y) := by
  intro wF hF
  obtain ⟨a', c', e, hs9⟩ := ht
  simp at e
  obtain ⟨rfl, rfl, rfl, rfl⟩ := e
  have keep : ∀ b, b ≠ G → b ≠ R → wF.heap[b]? = w5.heap[b]? := fun b h1 h2 => by
    rw [hF b h2, Below.heap_setCell _ _ _ _ (by simpa using h1), Below.heap_setCell _ _ _ _ (by simpa using h1)]
  have h1 : RowT wF (fun b => X b ∨ w.heap.size ≤ b) l xs := hrt.imp fun a kk hs => (hs.kept fun b hb2 => by
    have := hX b hb2
    rw [keep b (by omega) (by omega), hb.block b this]).mono fun b hb2 _ => Or.inl hb2
  have h2 : Sl wF (fun b => X b ∨ w.heap.size ≤ b) a9 y.args := (hs9.kept fun b hb2 => by
    rcases hb2 with hb2 | hb2
    · have := hX b hb2.1
      exact keep b (by omega) (by omega)
    · exact keep b (by omega) (by omega)).mono fun b hb2 _ => by
    rcases hb2 with hb2 | hb2
    · exact Or.inl hb2.1
    · exact Or.inr (by omega)
  have h3 := RowT.put (c := c9) h2 k h1 hk
  have hBF : Blk wF G ((cur.setIfInBounds (k * 2) (.string y.name)).setIfInBounds (k * 2 + 1) (.slice a9 y.args.length c9)) T := by
    have h4 := (GB.set (k * 2) (.string y.name)).set (k * 2 + 1) (.slice a9 y.args.length c9)
    unfold Blk at *
    rw [hF G (fun e => hRG e.symm)]
    exact h4
  refine ⟨by simpa using hl, Or.inr ⟨G, 0, rfl, lies_of_rowT G (Or.inr hG) _ _ 0 h3 (fun _ _ h => h) fun j u hj => ?_⟩⟩
  rw [Nat.zero_add]
  refine (hBF.cell j).trans ?_
  rw [← hcx, ← List.take_set, ← List.take_set, List.getElem?_take] at hj
  split at hj
  · rw [← Array.getElem?_toList]
    simpa using hj
  · cases hj
set_option maxHeartbeats 4000000 in
theorem kputY_any (x : Tm) (zs : List Int) : ∀ (t : Tm) (v p u : Value) (w : World) (X Y : Nat → Prop), TV w X v t → PV w Y p zs → TV w X u x → (atT t zs).isSome = true → sizeL [t] ≤ 1000000 →
    Calls Tryz.prog 50 #[v, p, u] w fun e w' => ∃ v', e = .returned v' ∧ TV w' (fun b => (X b ∧ b < w.heap.size) ∨ w.heap.size ≤ b) v' (putT x zs t) ∧ Below w.heap.size w w' := by
  induction zs with
  | nil =>
    intro t v p u w X Y hv hp hu hat hsm
    obtain ⟨a, c, rfl, hs⟩ := hv
    obtain ⟨ax, cx, rfl, hsx⟩ := hu
    obtain ⟨pa, pc, rfl, hzl, hz⟩ := hp
    have HU := hide hsx
    go_enter Tryz.func50, Tryz.ntmps50
    go_wp2_with fail
    refine bodyPost_ret (v := .agg #[.string x.name, .slice ax x.args.length cx]) (by simp [results, Tryz.results50, go_sem]) rfl ⟨_, rfl, ?_, ?_⟩
    · exact ⟨ax, cx, by simp [putT], (HU.out.mono (Y := fun b => (X b ∧ b < w.heap.size) ∨ w.heap.size ≤ b) fun b h1 h2 => Or.inl ⟨h1, h2⟩).later (below3 _ _ _)⟩
    · exact below3 _ _ _
  | cons z zs ih =>
    intro t v p u w X0 Y0 hv0 hp0 hu0 hat hsm
    have IH := hide ih
    clear ih
    obtain ⟨X, Y, hX, hYY, hXX, hv, hp, hu⟩ : ∃ X Y : Nat → Prop, (∀ b, X b → b < w.heap.size) ∧ (∀ b, Y b → b < w.heap.size) ∧ (∀ b, X b → X0 b) ∧ TV w X v t ∧ PV w Y p (z :: zs) ∧ TV w X u x := ⟨fun b => X0 b ∧ b < w.heap.size, fun b => Y0 b ∧ b < w.heap.size, fun _ h => h.2, fun _ h => h.2, fun _ h => h.1, hv0.mono fun b h1 h2 => ⟨h1, h2⟩, hp0.mono fun b h1 h2 => ⟨h1, h2⟩, hu0.mono fun b h1 h2 => ⟨h1, h2⟩⟩
    clear hv0 hp0 hu0
    obtain ⟨a, c, rfl, hs⟩ := hv
    obtain ⟨ax, cx, rfl, hsx⟩ := hu
    have HU := hide (show TV w X (.agg #[.string x.name, .slice ax x.args.length cx]) x from ⟨ax, cx, rfl, hsx⟩)
    clear hsx
    obtain ⟨pa, pc, rfl, hzl, hz⟩ := hp
    obtain ⟨b, o, rfl, hxb, hcell⟩ := hz.resolve_left (fun h => by cases h)
    have h0 := hcell 0 (by simp)
    simp only [Nat.add_zero, List.getElem_cons_zero] at h0
    have hzl' : zs.length + 1 ≤ 9223372036854775807 ∧ zs.length + 1 ≤ pc := by simpa using hzl
    obtain ⟨hzl1, hzl2⟩ := hzl'
    obtain ⟨s, l⟩ := t
    have hz1 : sizeL [(⟨s, l⟩ : Tm)] = 1 + sizeL l := by simp [sizeL]
    rw [hz1] at hsm
    clear hz1
    have hlen := sizeL_len l
    rw [atT] at hat
    split at hat
    case isFalse => cases hat
    case isTrue hzk =>
    obtain ⟨k, rfl⟩ : ∃ k : Nat, z = (k : Int) := ⟨z.toNat, by omega⟩
    have hk : k < l.length := by simpa using hzk.2
    have HAT : Hid ((atT l[k] zs).isSome = true) := hide (by simpa using hat)
    obtain ⟨sa, HSA, HT⟩ : ∃ sa : Option Addr, Hid ((if pc = 1 then some (⟨b, o, none⟩ : Addr) else some ⟨b, o + 1, none⟩) = sa) ∧ Hid (PV w Y (.slice sa zs.length (pc - 1)) zs) := by
      by_cases h1 : pc = 1
      · refine ⟨_, rfl, ?_⟩
        have : zs = [] := List.length_eq_zero_iff.1 (by omega)
        subst this
        exact ⟨_, _, rfl, by simp, Or.inl rfl⟩
      · refine ⟨_, rfl, ?_⟩
        rw [if_neg h1]
        exact PV.tail ⟨hzl1, hzl2⟩ hxb hcell
    simp only [List.length_cons] at *
    clear hcell hzl hz hat hzk
    go_enter Tryz.func50, Tryz.ntmps50
    go_upto_region 3 with fail
    have hB3 : Below w.heap.size w (((w.alloc (.cells #[.string s, .slice a l.length c] 32)).alloc (.cells #[.string x.name, .slice ax x.args.length cx] 32)).alloc (.cells #[.string ⟨#[]⟩, .slice none 0 0] 32)) := below3 _ _ _
    have hz3 : (((w.alloc (.cells #[.string s, .slice a l.length c] 32)).alloc (.cells #[.string x.name, .slice ax x.args.length cx] 32)).alloc (.cells #[.string ⟨#[]⟩, .slice none 0 0] 32)).heap.size = w.heap.size + 3 := by simp
    obtain ⟨ba, oa, rfl, hlies⟩ := hs.2.resolve_left (fun e => by rw [e] at hk; simp at hk)
    obtain ⟨xs, hrt, hxc⟩ := rowT_of_lies l ba oa hlies
    have HRT := hide hrt
    have hbal : ba < w.heap.size := hX _ (lies_get _ _ _ hlies 0 (by omega)).1
    have CL : Hid (∀ w', Below w.heap.size w w' → Calls Tryz.prog 74 #[.slice (some ⟨ba, oa, none⟩) l.length c] w' fun e w'' => ∃ G cap, e = .returned (.slice (some ⟨G, 0, none⟩) l.length cap) ∧ w''.ownsRow w'.heap.size 32 2 (.slice (some ⟨G, 0, none⟩) l.length cap) l.length xs ∧ Below w'.heap.size w' w'') := fun w' hb => by
      refine (cloneT_any ba oa l.length c xs w' hrt.len (by omega) (fun j u hj => (hb.cell (p := ⟨ba, oa + j, none⟩) hbal).trans (hxc j u hj)) hrt.one).mono ?_
      rintro e w'' ⟨v', rfl, ho, hne, hb2⟩
      rcases ho.2 with ⟨h1, _⟩ | ⟨g, cap, cur, hv, _⟩
      · exact absurd h1 hne
      · subst hv
        exact ⟨g, cap, rfl, ho, hb2⟩
    go_cut [7] (fun o7 wc => KpM (((w.alloc (.cells #[.string s, .slice (some ⟨ba, oa, none⟩) l.length c] 32)).alloc (.cells #[.string x.name, .slice ax x.args.length cx] 32)).alloc (.cells #[.string ⟨#[]⟩, .slice none 0 0] 32)) (w.heap.size + 3) s l.length xs o7 wc)
    case first =>
      have T3 : Blk (((w.alloc (.cells #[.string s, .slice (some ⟨ba, oa, none⟩) l.length c] 32)).alloc (.cells #[.string x.name, .slice ax x.args.length cx] 32)).alloc (.cells #[.string ⟨#[]⟩, .slice none 0 0] 32)) w.heap.size #[.string s, .slice (some ⟨ba, oa, none⟩) l.length c] 32 := ((Blk.new w _ _).alloc _).alloc _
      have HB3 := hide hB3
      generalize (((w.alloc (.cells #[.string s, .slice (some ⟨ba, oa, none⟩) l.length c] 32)).alloc (.cells #[.string x.name, .slice ax x.args.length cx] 32)).alloc (.cells #[.string ⟨#[]⟩, .slice none 0 0] 32)) = W at *
      have t0 := T3.c0
      have t1 := T3.c1
      have HS0 := hide (And.intro t0 t1)
      have KP : Hid (∀ w', Below (w.heap.size + 3) W w' → w'.cell? ⟨w.heap.size, 0, none⟩ = some (.string s) ∧ w'.cell? ⟨w.heap.size, 1, none⟩ = some (.slice (some ⟨ba, oa, none⟩) l.length c)) := fun w' hb => ⟨(hb.cell (p := ⟨w.heap.size, 0, none⟩) (by simp)).trans t0, (hb.cell (p := ⟨w.heap.size, 1, none⟩) (by simp)).trans t1⟩
      have HD : Hid (Below (w.heap.size + 3) W W.drew) := (Below.refl _ _).drew
      have HA : Hid (∀ o, Below (w.heap.size + 3) W (W.drew.alloc o)) := fun o => ((Below.refl _ _).drew).alloc (by simp; omega) o
      have CL2 : Hid (∀ w', Below (w.heap.size + 3) W w' → Calls Tryz.prog 74 #[.slice (some ⟨ba, oa, none⟩) l.length c] w' fun e w'' => ∃ G cap, e = .returned (.slice (some ⟨G, 0, none⟩) l.length cap) ∧ w''.ownsRow w'.heap.size 32 2 (.slice (some ⟨G, 0, none⟩) l.length cap) l.length xs ∧ Below w'.heap.size w' w'' ∧ Below (w.heap.size + 3) W w'') := fun w' hb => (CL.out w' (HB3.out.trans (hb.mono (by omega)))).mono fun e w'' ⟨G, cap, h1, h2, h3⟩ => ⟨G, cap, h1, h2, h3, hb.trans (h3.mono (by have := hb.size; omega))⟩
      have HZ3 := hide hz3
      have nW : w.heap.size ≠ W.heap.size := by omega
      clear hz3
      go_region_held3 (fun w' => w'.cell? ⟨w.heap.size, 0, none⟩ = some (.string s) ∧ w'.cell? ⟨w.heap.size, 1, none⟩ = some (.slice (some ⟨ba, oa, none⟩) l.length c)) (first | exact hS | exact HS0.out | exact KP.out _ (HA.out _) | exact ⟨set2_keep hS.1 nW, set2_keep hS.2 nW⟩ | go_keep)
        (first
          | (go_at_call 74;
              first
                | (refine (CL2.out _ (by first | exact Below.refl _ _ | exact HD.out)).mono ?_; rintro e w5 ⟨G, cap, rfl, ho5, hb5, hB5⟩; have hS := KP.out _ hB5)
                | (refine (CL2.out _ (by exact HA.out (.cells #[.string ⟨#[]⟩, .slice none 0 0] 32))).mono ?_; rintro e w5 ⟨G, cap, rfl, ho5, hb5, hB5⟩; have hS := KP.out _ hB5; have QB : Blk w5 W.heap.size #[.string ⟨#[]⟩, .slice none 0 0] 32 := (Blk.new W.drew _ _).below hb5 (by simp); have q0 : w5.cell? ⟨W.heap.size, 0, none⟩ = some (.string ⟨#[]⟩) := QB.cell 0; have q1 : w5.cell? ⟨W.heap.size, 1, none⟩ = some (.slice none 0 0) := QB.cell 1; have qf := QB.frozen)))
      all_goals have hGl := ho5.lt G rfl
      all_goals go_wp2_with fail
      all_goals go_meet
      all_goals first
        | exact kpM_last (by exact HZ3.out) (owns_mono ho5 (by have := HZ3.out; simp; omega)) hB5
        | (have hz3 := HZ3.out; have e : W.heap.size = w.heap.size + 3 := hz3; exact kpM_first (by omega) QB (by have := hGl.1; simp at this; omega) (owns_mono ho5 (by simp; omega)) hB5)
    case rest =>
      obtain ⟨G, O, cap, rfl, hG3, hO3, hGO, hBO, hown, hbw⟩ := hcut
      have T3 : Blk (((w.alloc (.cells #[.string s, .slice (some ⟨ba, oa, none⟩) l.length c] 32)).alloc (.cells #[.string x.name, .slice ax x.args.length cx] 32)).alloc (.cells #[.string ⟨#[]⟩, .slice none 0 0] 32)) w.heap.size #[.string s, .slice (some ⟨ba, oa, none⟩) l.length c] 32 := ((Blk.new w _ _).alloc _).alloc _
      have X3 : Blk (((w.alloc (.cells #[.string s, .slice (some ⟨ba, oa, none⟩) l.length c] 32)).alloc (.cells #[.string x.name, .slice ax x.args.length cx] 32)).alloc (.cells #[.string ⟨#[]⟩, .slice none 0 0] 32)) (w.heap.size + 1) #[.string x.name, .slice ax x.args.length cx] 32 := by
        have := (Blk.new (w.alloc (.cells #[.string s, .slice (some ⟨ba, oa, none⟩) l.length c] 32)) #[.string x.name, .slice ax x.args.length cx] 32).alloc (.cells #[.string ⟨#[]⟩, .slice none 0 0] 32)
        rw [World.size_alloc] at this
        exact this
      have hbW : Below w.heap.size w wc := hB3.trans (hbw.mono (by omega))
      have c01 : wc.cell? ⟨w.heap.size, 1, none⟩ = some (.slice (some ⟨ba, oa, none⟩) l.length c) := (hbw.cell (p := ⟨w.heap.size, 1, none⟩) (by simp)).trans (T3.cell 1)
      have cz : wc.cell? ⟨b, o, none⟩ = some (.int .i64 (k : Int)) := (hbW.cell (p := ⟨b, o, none⟩) (by simpa using hYY b hxb)).trans h0
      have hkl : (k : Int) < (l.length : Int) := by omega
      have x0 : wc.cell? ⟨w.heap.size + 1, 0, none⟩ = some (.string x.name) := (hbw.cell (p := ⟨w.heap.size + 1, 0, none⟩) (by simp)).trans (X3.cell 0)
      have x1 : wc.cell? ⟨w.heap.size + 1, 1, none⟩ = some (.slice ax x.args.length cx) := (hbw.cell (p := ⟨w.heap.size + 1, 1, none⟩) (by simp)).trans (X3.cell 1)
      obtain ⟨b1, o1, a', c', hae, d0, d1, hx⟩ := hs.get hbW (fun b hb _ => hX b hb) k hk
      have eba : b1 = ba ∧ o1 = oa := by simp at hae; exact ⟨hae.1.symm, hae.2.symm⟩
      obtain ⟨rfl, rfl⟩ := eba
      have o1' := hBO.c1
      have HX := hide hx
      have hszk : sizeL [l[k]] ≤ 1000000 := by
        have := sizeL_take l k hk; have := sizeL_take_le l (k + 1); omega
      have hslq : ∀ w' : World, Sem.run Tryz.prog (Instr.slice 59 (.slice (some ⟨b, o, none⟩) (zs.length + 1) pc) (some (.int .i64 1)) none none) w' = .ok (.slice sa zs.length (pc - 1)) w' := fun w' => by
        rw [slice_tail_run b o zs.length pc hzl2 w', HSA.out]
      have hnG : ∀ b, b < w.heap.size + 3 → b ≠ G := fun b hb => by omega
      have hlen9 := hs.1
      have hput : putT x ((k : Int) :: zs) ⟨s, l⟩ = ⟨s, l.set k (putT x zs l[k])⟩ := by
        have := putL_set (putT x zs) l 0 k hk
        rw [Nat.zero_add] at this
        rw [putT, this]
      have PU : Hid (∀ w', Below wc.heap.size wc w' → Calls Tryz.prog 50 #[.agg #[.string l[k].name, .slice a' l[k].args.length c'], .slice sa zs.length (pc - 1), .agg #[.string x.name, .slice ax x.args.length cx]] w' fun e w'' => ∃ s9 a9 n9 c9, e = .returned (.agg #[.string s9, .slice a9 n9 c9]) ∧ TV w'' (fun b => (X b ∧ b < w'.heap.size) ∨ w'.heap.size ≤ b) (.agg #[.string s9, .slice a9 n9 c9]) (putT x zs l[k]) ∧ Below wc.heap.size wc w'') := fun w' hb => by
        refine (IH.out l[k] _ _ _ w' X Y (HX.out.later hb) ((HT.out.later hbW).later hb) ((HU.out.later hbW).later hb) HAT.out hszk).mono ?_
        rintro e w'' ⟨v', rfl, ht, hb2⟩
        obtain ⟨a9, c9, rfl, hs9⟩ := ht
        exact ⟨_, a9, _, c9, rfl, ⟨a9, c9, rfl, hs9⟩, hb.trans (hb2.mono hb.size)⟩
      have hcs6 : wc.cell? ⟨O, 1, none⟩ = some (.slice (some ⟨G, 0, none⟩) l.length cap) ∧ wc.cell? ⟨w.heap.size, 1, none⟩ = some (.slice (some ⟨b1, o1, none⟩) l.length c) ∧ wc.cell? ⟨b1, o1 + k * 2, none⟩ = some (.string l[k].name) ∧ wc.cell? ⟨b1, o1 + k * 2 + 1, none⟩ = some (.slice a' l[k].args.length c') ∧ wc.cell? ⟨w.heap.size + 1, 0, none⟩ = some (.string x.name) ∧ wc.cell? ⟨w.heap.size + 1, 1, none⟩ = some (.slice ax x.args.length cx) := ⟨o1', c01, d0, d1, x0, x1⟩
      have HS0 := hide hcs6
      have hOl : O < wc.heap.size := hBO.lt
      have hszc : w.heap.size + 3 ≤ wc.heap.size := by have := hbw.size; omega
      have KP : Hid (∀ w', Below wc.heap.size wc w' → w'.cell? ⟨O, 1, none⟩ = some (.slice (some ⟨G, 0, none⟩) l.length cap) ∧ w'.cell? ⟨w.heap.size, 1, none⟩ = some (.slice (some ⟨b1, o1, none⟩) l.length c) ∧ w'.cell? ⟨b1, o1 + k * 2, none⟩ = some (.string l[k].name) ∧ w'.cell? ⟨b1, o1 + k * 2 + 1, none⟩ = some (.slice a' l[k].args.length c') ∧ w'.cell? ⟨w.heap.size + 1, 0, none⟩ = some (.string x.name) ∧ w'.cell? ⟨w.heap.size + 1, 1, none⟩ = some (.slice ax x.args.length cx)) := fun w' hb => ⟨(hb.cell (p := ⟨O, 1, none⟩) hOl).trans o1', (hb.cell (p := ⟨w.heap.size, 1, none⟩) (by simp; omega)).trans c01, (hb.cell (p := ⟨b1, o1 + k * 2, none⟩) (by simp; omega)).trans d0, (hb.cell (p := ⟨b1, o1 + k * 2 + 1, none⟩) (by simp; omega)).trans d1, (hb.cell (p := ⟨w.heap.size + 1, 0, none⟩) (by simp; omega)).trans x0, (hb.cell (p := ⟨w.heap.size + 1, 1, none⟩) (by simp; omega)).trans x1⟩
      obtain ⟨cur, hGb, hcur, hcx, hcap⟩ : ∃ cur : Array Value, Blk wc G cur 32 ∧ cur.size = cap * 2 ∧ cur.toList.take (l.length * 2) = xs ∧ l.length ≤ cap := by
        rcases hown.2 with ⟨h1, _⟩ | ⟨g, cap', cur, hv, _, hh, hnc, _, hz, ht⟩
        · cases h1
        · simp at hv
          obtain ⟨rfl, rfl⟩ := hv
          exact ⟨cur, hh, hz, ht, hnc⟩
      have HGB := hide hGb
      obtain ⟨y0, hy0⟩ : ∃ y, cur[k * 2]? = some y := ⟨_, Array.getElem?_eq_getElem (by omega)⟩
      obtain ⟨y1, hy1⟩ : ∃ y, cur[k * 2 + 1]? = some y := ⟨_, Array.getElem?_eq_getElem (by omega)⟩
      have nO : O ≠ G := fun e => hGO e.symm
      have n1 : w.heap.size ≠ G := by omega
      have n2 : b1 ≠ G := by omega
      have n3 : w.heap.size + 1 ≠ G := by omega
      have n4 : w.heap.size + 1 + 1 ≠ G := by omega
      have hRc : Blk wc (w.heap.size + 1 + 1) #[.string ⟨#[]⟩, .slice none 0 0] 32 := by
        have h1 := Blk.new ((w.alloc (.cells #[.string s, .slice (some ⟨b1, o1, none⟩) l.length c] 32)).alloc (.cells #[.string x.name, .slice ax x.args.length cx] 32)) #[.string ⟨#[]⟩, .slice none 0 0] 32
        rw [World.size_alloc, World.size_alloc] at h1
        unfold Blk at *
        rw [hbw.block _ (by omega)]
        exact h1
      have hGl : G < wc.heap.size := hGb.lt
      clear o1' c01 d0 d1 x0 x1 hcs6
      go_wp2_with fail
      go_region_held3 (fun w' => w'.cell? ⟨O, 1, none⟩ = some (.slice (some ⟨G, 0, none⟩) l.length cap) ∧ w'.cell? ⟨w.heap.size, 1, none⟩ = some (.slice (some ⟨b1, o1, none⟩) l.length c) ∧ w'.cell? ⟨b1, o1 + k * 2, none⟩ = some (.string l[k].name) ∧ w'.cell? ⟨b1, o1 + k * 2 + 1, none⟩ = some (.slice a' l[k].args.length c') ∧ w'.cell? ⟨w.heap.size + 1, 0, none⟩ = some (.string x.name) ∧ w'.cell? ⟨w.heap.size + 1, 1, none⟩ = some (.slice ax x.args.length cx)) (first | exact hS | exact HS0.out | exact ⟨set2_keep hS.1 nO, set2_keep hS.2.1 n1, set2_keep hS.2.2.1 n2, set2_keep hS.2.2.2.1 n2, set2_keep hS.2.2.2.2.1 n3, set2_keep hS.2.2.2.2.2 n3⟩ | go_keep)
        (first
          | (go_at_call 50; refine (PU.out _ (by first | exact Below.refl _ _ | exact (Below.refl _ _).drew)).mono ?_; rintro e w5 ⟨s9, a9, n9, c9, rfl, ht5, hb5⟩; have hS := KP.out _ hb5; have GB := HGB.out.below hb5 hGl; have gf := GB.frozen; have g0 : w5.cell? ⟨G, k * 2, none⟩ = some y0 := (GB.cell (k * 2)).trans hy0; have g1 : w5.cell? ⟨G, k * 2 + 1, none⟩ = some y1 := (GB.cell (k * 2 + 1)).trans hy1))
      all_goals
        have OB := (hBO.below hb5 hOl)
        have OB9 := (OB.setOther (k * 2) (.string s9) nO).setOther (k * 2 + 1) (.slice a9 n9 c9) nO
        have GB9 := (GB.set (k * 2) (.string s9)).set (k * 2 + 1) (.slice a9 n9 c9)
        have hR5 := ((hRc.below hb5 (by omega)).setOther (k * 2) (.string s9) n4).setOther (k * 2 + 1) (.slice a9 n9 c9) n4
        have hb9 : Below w.heap.size w ((w5.setCell ⟨G, k * 2, none⟩ (.string s9)).setCell ⟨G, k * 2 + 1, none⟩ (.slice a9 n9 c9)) := ((hbW.trans (hb5.mono (by omega))).setCell (p := ⟨G, k * 2, none⟩) (by simp; omega) _).setCell (p := ⟨G, k * 2 + 1, none⟩) (by simp; omega) _
        have HFIN := hide (kput_fin (R := w.heap.size + 1 + 1) hX hk hlen9 HRT.out hcx (by omega) (by exact hGl) (by omega) n4 (by have := hszc; simp; omega) GB (hbW.trans (hb5.mono (by omega))) ht5)
        have hGx9 := hb5.size
        generalize ((w5.setCell ⟨G, k * 2, none⟩ (.string s9)).setCell ⟨G, k * 2 + 1, none⟩ (.slice a9 n9 c9)) = w9 at *
        have u0 := OB9.c0
        have u1 := OB9.c1
        have r20 := hR5.c0
        have r21 := hR5.c1
        have rf := hR5.frozen
        go_wp2_with fail
        refine bodyPost_ret (v := .agg #[.string s, .slice (some ⟨G, 0, none⟩) l.length cap]) (by simp [results, Tryz.results50, go_sem, r20, r21, World.cell?_setCell_same, World.cell?_setCell_other]) rfl ⟨_, rfl, ?_, ?_⟩
        · refine ⟨some ⟨G, 0, none⟩, cap, ?_, ?_⟩
          · rw [hput]; simp
          · rw [hput]
            exact (HFIN.out _ (fun b hb => by rw [Below.heap_setCell _ _ _ _ (by simpa using hb), Below.heap_setCell _ _ _ _ (by simpa using hb)])).mono fun b hb _ => hb.imp (fun h => ⟨hXX b h, hX b h⟩) id
        · exact (hb9.setCell (by simp; omega) _).setCell (by simp; omega) _
theorem may_le {t : Tm} (h : mayE t = 0) : sizeL [t] ≤ 400 := by
 unfold mayE at h
 split at h
 ·omega
 ·omega
def outC (y : Ft) : Tm := fT y.2 y.1.r
def isFull (t : Tm) (d : Dn) (y : Ft) : Prop := 2000 < sizeL [t] - sizeL [d.2] + sizeL [outC y]
open Go.RowKit Go.Shelf
attribute [local go_sem] Oper.semAt_some
theorem downF_any (s : ByteArray) (aa fa : Option Addr) (n ca fn fc : Nat) (w : World) :
  Calls Tryz.prog 20 #[.agg #[.string s, .slice aa n ca], .slice fa fn fc] w fun e w' => e = .returned (.func (.func 45) #[] #[.pointer (some ⟨w.heap.size, 0, none⟩), .pointer (some ⟨w.heap.size + 1, 0, none⟩)]) ∧ w' = (w.alloc (.cells #[.string s, .slice aa n ca] 32)).alloc (.cells #[.slice fa fn fc] 59) := by
 have hmf : ∀ (fn : Fn) (first cap : Array Value) (w : World), (Instr.makeFunc fn first cap).run Tryz.prog w = .ok (.func fn first cap) w := fun _ _ _ _ => rfl
 go_enter Tryz.func20, Tryz.ntmps20
 go_wp2_with fail
 go_ret
 exact ⟨rfl, rfl⟩
def allocs (w : World) (os : List Obj) : World := os.foldl (fun w o => w.alloc o) w
theorem allocs_facts : ∀ (os : List Obj) (w : World), Below w.heap.size w (allocs w os) ∧ (allocs w os).heap.size = w.heap.size + os.length ∧ ∀ (i : Nat) (o : Obj), os[i]? = some o → (allocs w os).heap[w.heap.size + i]? = some o
 | [], w => ⟨Below.refl _ _, rfl, fun i o h => by simp at h⟩
 | o :: os, w => by
  obtain ⟨h1, h2, h3⟩ := allocs_facts os (w.alloc o)
  have e : allocs w (o :: os) = allocs (w.alloc o) os := rfl
  rw [e]
  refine ⟨((Below.refl _ _).alloc (Nat.le_refl _) o).trans (h1.mono (by simp)), by rw [h2]; simp; omega, fun i o' hi => ?_⟩
  cases i with
  | zero =>
   simp at hi
   subst hi
   have := h1.block w.heap.size (by simp)
   rw [Nat.add_zero, this]
   exact World.alloc_heap_new w o
  | succ i =>
   have := h3 i o' (by simpa using hi)
   rw [World.size_alloc] at this
   rw [show w.heap.size + (i + 1) = w.heap.size + 1 + i by omega]
   exact this
theorem dnL_at : ∀ (l : List Tm) (hs : List Int) (j st : Nat) (r : List Int) (d : Dn), d ∈ dnL hs j st r l → ∃ (k : Nat) (p : List Int) (h : k < l.length), d.1 = hs ++ ((j + k : Nat) : Int) :: p ∧ atT l[k] p = some d.2 := by
 intro l
 induction l using Tm.indL with
 | h0 => intro hs j st r d h; simp [dnL] at h
 | h s l rest ih1 ih2 =>
  intro hs j st r d h
  rw [dnL_cons] at h
  rcases List.mem_append.1 h with h | h
  ·split at h
   ·simp at h
   ·unfold dnT at h
    rcases List.mem_cons.1 h with h | h
    ·subst h
     exact ⟨0, [], by simp, by simp, by simp [atT]⟩
    ·obtain ⟨k, p, hk, e1, e2⟩ := ih1 _ _ _ _ _ h
     refine ⟨0, ((0 + k : Nat) : Int) :: p, by simp, by rw [e1]; simp, ?_⟩
     have e : ((0 + k : Nat) : Int).toNat = k := by omega
     simp only [List.getElem_cons_zero, atT]
     rw [dif_pos ⟨by omega, by rw [e]; exact hk⟩]
     simp only [e]
     exact e2
  ·obtain ⟨k, p, hk, e1, e2⟩ := ih2 _ _ _ _ _ h
   exact ⟨k + 1, p, by simp; omega, by rw [e1, show j + 1 + k = j + (k + 1) by omega], by simpa using e2⟩
theorem dnT_at {hs fs : List Int} {t : Tm} {d : Dn} (h : d ∈ dnT hs fs t) : ∃ p, d.1 = hs ++ p ∧ atT t p = some d.2 := by
 unfold dnT at h
 rcases List.mem_cons.1 h with h | h
 ·subst h
  exact ⟨[], by simp, by simp [atT]⟩
 ·obtain ⟨k, p, hk, e1, e2⟩ := dnL_at _ _ _ _ _ _ h
  refine ⟨((0 + k : Nat) : Int) :: p, e1, ?_⟩
  have e : ((0 + k : Nat) : Int).toNat = k := by omega
  rw [atT, dif_pos ⟨by omega, by rw [e]; exact hk⟩]
  simp only [e]
  exact e2
theorem dnL_len : ∀ (l : List Tm) (hs : List Int) (j st : Nat) (r : List Int), (dnL hs j st r l).length ≤ sizeL l := by
 intro l
 induction l using Tm.indL with
 | h0 => intro hs j st r; simp [dnL]
 | h s l rest ih1 ih2 =>
  intro hs j st r
  rw [dnL_cons, List.length_append]
  have h2 := ih2 hs (j + 1) st r
  have e : sizeL ((⟨s, l⟩ : Tm) :: rest) = 1 + sizeL l + sizeL rest := by simp [sizeL]
  rw [e]
  split
  ·simp; omega
  ·unfold dnT
   have h1 := ih1 (hs ++ [(j : Int)]) 0 (hdN (if j = st then r else [])) (if j = st then r else []).tail
   rw [List.length_cons]
   have e2 : (⟨s, l⟩ : Tm).args = l := rfl
   rw [e2]
   omega
theorem Blk.set1R {w : World} {A T : Nat} {q v : Value} (h : Blk w A #[q] T) : Blk (w.setCell ⟨A, 0, none⟩ v) A #[v] T := by
 unfold Blk at *
 simp [World.setCell, Array.getElem?_modify, h]
structure FwW (w3 : World) (A g n cap T : Nat) (u1 u2 : Value) (wF : World) : Prop where
 os : wF.os = w3.os
 tape : wF.tape = w3.tape
 output : wF.output = w3.output
 size : wF.heap.size = w3.heap.size
 other : ∀ b, b ≠ g → b ≠ A → wF.heap[b]? = w3.heap[b]?
 box : Blk wF A #[.slice (some ⟨g, 0, none⟩) (n + 1) cap] T
 row : wF.heap[g]? = ((w3.setCell ⟨g, n * 2, none⟩ u1).setCell ⟨g, n * 2 + 1, none⟩ u2).heap[g]?
theorem own_form {w : World} {N e z n : Nat} {v : Value} {xs : List Value} (h : w.ownsRow N e z v n xs) : ∃ a c, v = .slice a n c := by
 rcases h.2 with ⟨rfl, rfl⟩ | ⟨g, cap, cur, hv, _⟩
 ·exact ⟨none, 0, rfl⟩
 ·exact ⟨_, _, hv⟩
def outA (t : Tm) (c : Ch) : Tm := putT (outC c.2) c.1.1 t
def JA (t : Tm) (X K : Nat → Prop) (A R4 R5 L : Nat) (r rd : Loop) (W0 : World) : Tk Ch := fun pre s f W =>
 (∀ b, K b → b < W0.heap.size ∧ ¬ f b) ∧ W0.heap.size ≤ W.heap.size ∧ (∀ b, K b → W.heap[b]? = W0.heap[b]?) ∧ W.heap[L]? = some (.loop (if s = true then r else rd)) ∧ Blk W R4 #[.slice none 0 0] 30 ∧ Blk W R5 #[.int .i64 (if s = true then 0 else 8)] 24 ∧
 (∃ (v : Value) (l : List Tm) (xs : List Value) (E : Nat → Prop), (∀ b, f b ↔ b = L ∨ b = A ∨ b = R4 ∨ b = R5 ∨ v.ownBlock = some b ∨ E b) ∧ (∀ b, E b → W0.heap.size ≤ b ∧ b < W.heap.size ∧ v.ownBlock ≠ some b) ∧ Blk W A #[v] 30 ∧ W.ownsRow W0.heap.size 32 2 v l.length xs ∧ RowT W (fun b => X b ∨ E b) l xs ∧ (s = true → l = pre.map (outA t))) ∧
 (s = true → ∀ c ∈ pre, ¬ isFull t c.1 c.2) ∧ (s = false → ∃ c ∈ pre, isFull t c.1 c.2)
theorem JA.ok {t : Tm} {X K : Nat → Prop} {A R4 R5 L : Nat} {r rd : Loop} {W0 : World} (hXK : ∀ b, X b → K b) : TkOk (JA t X K A R4 R5 L r rd W0) K where
 inside := by
  rintro pre s f W ⟨hK, hz, hC, hL, h4, h5, ⟨v, l, xs, E, hf, hE, hA, ho, hr, hl⟩, h1, h2⟩ b hb
  rcases hb with hb | hb
  ·rcases (hf b).1 hb with h | h | h | h | h | h
   ·subst h; exact (Array.getElem?_eq_some_iff.1 hL).1
   ·subst h; exact hA.lt
   ·subst h; exact h4.lt
   ·subst h; exact h5.lt
   ·exact (ho.lt b h).2
   ·exact (hE b h).2.1
  ·have := (hK b hb).1; omega
 apart := by
  rintro pre s f W ⟨hK, hz, hC, hL, h4, h5, ⟨v, l, xs, E, hf, hE, hA, ho, hr, hl⟩, h1, h2⟩ b hb
  exact (hK b hb).2
 abide := by
  rintro pre s f W W' ⟨hK, hz, hC, hL, h4, h5, ⟨v, l, xs, E, hf, hE, hA, ho, hr, hl⟩, h1, h2⟩ hs hk
  refine ⟨hK, Nat.le_trans hz hs, fun b hb => (hk b (Or.inr hb)).trans (hC b hb), (hk L (Or.inl ((hf L).2 (Or.inl rfl)))).trans hL, (hk R4 (Or.inl ((hf R4).2 (Or.inr (Or.inr (Or.inl rfl)))))).trans h4, (hk R5 (Or.inl ((hf R5).2 (Or.inr (Or.inr (Or.inr (Or.inl rfl))))))).trans h5, ⟨v, l, xs, E, hf, fun b hb => ⟨(hE b hb).1, Nat.lt_of_lt_of_le (hE b hb).2.1 hs, (hE b hb).2.2⟩, (hk A (Or.inl ((hf A).2 (Or.inr (Or.inl rfl))))).trans hA, ownsRow_at ho fun g hg => hk g (Or.inl ((hf g).2 (Or.inr (Or.inr (Or.inr (Or.inr (Or.inl hg))))))), hr.imp fun a l hsl => hsl.kept fun b hb => ?_, hl⟩, h1, h2⟩
  rcases hb with hb | hb
  ·exact hk b (Or.inr (hXK b hb))
  ·exact hk b (Or.inl ((hf b).2 (Or.inr (Or.inr (Or.inr (Or.inr (Or.inr hb)))))))
theorem errL_partsR {s : ByteArray} {a r : List Tm} (h : errL (⟨s, a⟩ :: r) = 0) : (varB s = true → a = []) ∧ errL a = 0 ∧ errL r = 0 := by
 rw [errL] at h
 split at h
 ·split at h
  ·cases h
  ·rename_i h1 h2
   split at h
   ·rename_i h3
    refine ⟨fun hv => ?_, h3, h⟩
    cases a with
    | nil => rfl
    | cons x y => simp [hv] at h2
   ·rename_i h3; exact absurd h h3
 ·cases h
def VarN (ls : List Bd) : Prop := ∀ d ∈ ls, varB d.nm = true
theorem forT_memR : ∀ {ls : List Bd} {s : ByteArray} {x : Tm}, forT ls s = some x → ∃ d ∈ ls, d.nm = s
 | [], s, x, h => by simp [forT] at h
 | d :: ls, s, x, h => by
  unfold forT at h
  split at h
  ·rename_i h1
   exact ⟨d, by simp, h1⟩
  ·obtain ⟨d', hd, e⟩ := forT_memR h
   exact ⟨d', by simp [hd], e⟩
theorem fN_onR {ls : List Bd} (h : VarN ls) (s : ByteArray) (a bs : List Tm) (hv : varB s = true → a = []) : fN ls s bs = onN ls s a bs := by
 unfold fN onN
 cases hs : varB s with
 | true => rw [hv hs]; cases forT ls s <;> rfl
 | false =>
  cases hf : forT ls s with
  | none => rfl
  | some x =>
   obtain ⟨d, hd, e⟩ := forT_memR hf
   have := h d hd
   rw [e, hs] at this
   cases this
theorem fL_onR {ls : List Bd} (h : VarN ls) : ∀ l : List Tm, errL l = 0 → fL ls l = onL ls l
 | [], _ => by simp [fL, onL]
 | ⟨s, a⟩ :: r, he => by
  obtain ⟨h1, h2, h3⟩ := errL_partsR he
  rw [fL, onL, fL_onR h a h2, fL_onR h r h3, fN_onR h s a _ h1]
theorem fT_onR {ls : List Bd} (h : VarN ls) (t : Tm) (ht : mayE t = 0) : fT ls t = onT ls t := by
 unfold mayE at ht
 split at ht
 ·cases ht
 ·obtain ⟨s, a⟩ := t
  obtain ⟨h1, h2, _⟩ := errL_partsR ht
  unfold fT onT
  rw [fL_onR h a h2, fN_onR h s a _ h1]
theorem mtT_varOne {p t : Tm} {h h' : List Bd} (ih : ∀ ts g g', mtL p.args ts g = some g' → VarN g → VarN g') (he : mtT p t h = some h') (hv : VarN h) : VarN h' := by
 unfold mtT at he
 obtain ⟨s, l⟩ := p
 simp only at he
 cases hs : varB s with
 | true =>
  simp only [hs, if_true] at he
  cases hf : forT h s with
  | none =>
   simp only [hf] at he
   cases he
   intro d hd
   rcases List.mem_append.1 hd with hd | hd
   ·exact hv d hd
   ·simp at hd; subst hd; exact hs
  | some x =>
   simp only [hf] at he
   split at he
   ·cases he; exact hv
   ·cases he
 | false =>
  simp only [hs] at he
  split at he
  ·rename_i h0; cases h0
  ·split at he
   ·exact ih _ _ _ he hv
   ·cases he
theorem mtL_var : ∀ (l ts : List Tm) (h h' : List Bd), mtL l ts h = some h' → VarN h → VarN h' := by
 intro l
 induction l using Tm.indL with
 | h0 =>
  intro ts h h' he hv
  cases ts with
  | nil => simp [mtL] at he; subst he; exact hv
  | cons t ts => first | (simp [mtL] at he; done) | (simp [mtL] at he; subst he; exact hv)
 | h s l r ihl ihr =>
  intro ts h h' he hv
  cases ts with
  | nil => first | (simp [mtL] at he; done) | (simp [mtL] at he; subst he; exact hv)
  | cons t ts =>
   rw [mtL_cons] at he
   cases h1 : mtT ⟨s, l⟩ t h with
   | none => simp only [h1] at he; cases he
   | some g =>
    simp only [h1] at he
    exact ihr _ _ _ he (mtT_varOne (p := ⟨s, l⟩) ihl h1 hv)
theorem mtT_var {p t : Tm} {h' : List Bd} (he : mtT p t [] = some h') : VarN h' := mtT_varOne (fun ts g g' h1 h2 => mtL_var p.args ts g g' h1 h2) he (by intro d hd; simp at hd)
def gN (ls : List Bd) (s : ByteArray) (bs : List Tm) : Tm := match forT ls s with | some x => x | none => ⟨s, bs⟩
def gL (ls : List Bd) : List Tm → List Tm
 | [] => []
 | ⟨s, a⟩ :: r => gN ls s (gL ls a) :: gL ls r
def gT (ls : List Bd) (t : Tm) : Tm := gN ls t.name (gL ls t.args)
theorem gL_cons (ls : List Bd) (t : Tm) (r : List Tm) : gL ls (t :: r) = gT ls t :: gL ls r := by
 obtain ⟨s, a⟩ := t
 simp only [gL, gT]
theorem gL_map (ls : List Bd) : ∀ l, gL ls l = l.map (gT ls)
 | [] => by simp [gL]
 | t :: r => by rw [gL_cons, gL_map ls r, List.map_cons]
theorem gT_some {ls : List Bd} {t x : Tm} (h : forT ls t.name = some x) : gT ls t = x := by simp [gT, gN, h]
theorem gT_none {ls : List Bd} {t : Tm} (h : forT ls t.name = none) : gT ls t = ⟨t.name, gL ls t.args⟩ := by simp [gT, gN, h]
theorem gL_nil : ∀ l, gL [] l = l := by
 intro l
 induction l using Tm.indL with
 | h0 => simp [gL]
 | h s l r ihl ihr => rw [gL, ihl, ihr]; simp [gN, forT]
theorem gT_nil (t : Tm) : gT [] t = t := by
 obtain ⟨s, l⟩ := t
 unfold gT gN
 simp [forT, gL_nil]
theorem gL_take (ls : List Bd) (l : List Tm) (k : Nat) (h : k < l.length) : gL ls (l.take (k + 1)) = gL ls (l.take k) ++ [gT ls l[k]] := by
 rw [gL_map, gL_map, List.take_succ_eq_append_getElem h, List.map_append]
 rfl
theorem gL_size_take (ls : List Bd) (l : List Tm) (k : Nat) (h : k < l.length) : sizeL (gL ls (l.take (k + 1))) = sizeL (gL ls (l.take k)) + sizeL [gT ls l[k]] := by rw [gL_take ls l k h, sizeL_append]
theorem gL_size_le (ls : List Bd) (l : List Tm) (k : Nat) : sizeL (gL ls (l.take k)) ≤ sizeL (gL ls l) := by
 rw [gL_map, gL_map]
 have := sizeL_append ((l.take k).map (gT ls)) ((l.drop k).map (gT ls))
 rw [← List.map_append, List.take_append_drop] at this
 omega
theorem gL_fL {ls : List Bd} (h : VarN ls) : ∀ l, gL ls l = fL ls l := by
 intro l
 induction l using Tm.indL with
 | h0 => simp [gL, fL]
 | h s l r ihl ihr =>
  rw [gL, fL, ihl, ihr]
  congr 1
  unfold gN fN
  cases hf : forT ls s with
  | none => simp
  | some x =>
   obtain ⟨d, hd, e⟩ := forT_memR hf
   have := h d hd
   rw [e] at this
   simp [this]
theorem gT_on {ls : List Bd} (h : VarN ls) (t : Tm) (ht : mayE t = 0) : gT ls t = onT ls t := by
 rw [← fT_onR h t ht]
 unfold gT fT
 rw [gL_fL h]
 unfold gN fN
 cases hf : forT ls t.name with
 | none => simp
 | some x =>
  obtain ⟨d, hd, e⟩ := forT_memR hf
  have := h d hd
  rw [e] at this
  simp [this]
def Within (ls : List Bd) (P : Tm → Prop) : Prop := ∀ d ∈ ls, P d.t
theorem mtT_withinOne {P : Tm → Prop} {p t : Tm} {h h' : List Bd} (hP : ∀ x, P x → ∀ y ∈ x.args, P y) (ih : ∀ ts g g', mtL p.args ts g = some g' → (∀ y ∈ ts, P y) → Within g P → Within g' P) (he : mtT p t h = some h') (ht : P t) (hv : Within h P) : Within h' P := by
 unfold mtT at he
 split at he
 ·split at he
  ·split at he
   ·cases he; exact hv
   ·cases he
  ·cases he
   intro d hd
   rcases List.mem_append.1 hd with hd | hd
   ·exact hv d hd
   ·simp at hd; subst hd; exact ht
 ·split at he
  ·exact ih _ _ _ he (hP t ht) hv
  ·cases he
theorem mtL_within {P : Tm → Prop} (hP : ∀ x, P x → ∀ y ∈ x.args, P y) : ∀ (l ts : List Tm) (h h' : List Bd), mtL l ts h = some h' → (∀ y ∈ ts, P y) → Within h P → Within h' P := by
 intro l
 induction l using Tm.indL with
 | h0 =>
  intro ts h h' he ht hv
  simp [mtL] at he
  subst he
  exact hv
 | h s l r ihl ihr =>
  intro ts h h' he ht hv
  cases ts with
  | nil => simp [mtL] at he
  | cons t ts =>
   rw [mtL_cons] at he
   cases h1 : mtT ⟨s, l⟩ t h with
   | none => simp only [h1] at he; cases he
   | some g =>
    simp only [h1] at he
    exact ihr _ _ _ he (fun y hy => ht y (by simp [hy])) (mtT_withinOne (p := ⟨s, l⟩) hP ihl h1 (ht t (by simp)) hv)
theorem mtT_below {P : Tm → Prop} (hP : ∀ x, P x → ∀ y ∈ x.args, P y) {p t : Tm} {h' : List Bd} (hnv : varB p.name = false) (he : mtT p t [] = some h') (ht : ∀ y ∈ t.args, P y) : Within h' P := by
 unfold mtT at he
 rw [if_neg (by rw [hnv]; simp)] at he
 split at he
 ·exact mtL_within hP _ _ _ _ he ht (by intro d hd; simp at hd)
 ·cases he
def noStep (rs : List Pr) (x : Tm) : Prop := noFit rs [x]
theorem noStep_down (rs : List Pr) : ∀ x, noStep rs x → ∀ y ∈ x.args, noStep rs y := fun x h y hy => noFit_mem.1 (noFit_one.1 h).2 y hy
theorem fits_first {rs : List Pr} {x : Tm} {y : Ft} (hr : ∀ p ∈ rs, ruleE p = 0) (h : [y] <+: fitsL rs x) : y.1 ∈ rs ∧ mtT y.1.l x [] = some y.2 ∧ fstT rs x = some (gT y.2 y.1.r) ∧ VarN y.2 := by
 have key : ∀ rs : List Pr, (∀ p ∈ rs, ruleE p = 0) → [y] <+: fitsL rs x → y.1 ∈ rs ∧ mtT y.1.l x [] = some y.2 ∧ fstT rs x = some (gT y.2 y.1.r) := by
  intro rs
  induction rs with
  | nil => intro _ h; simp [fitsL] at h
  | cons r rs ih =>
   intro hr h
   cases hm : mtT r.l x [] with
   | none =>
    have e1 : fitsL (r :: rs) x = fitsL rs x := by unfold fitsL; rw [List.filterMap_cons]; simp [hm]
    rw [e1] at h
    obtain ⟨h1, h2, h3⟩ := ih (fun p hp => hr p (by simp [hp])) h
    refine ⟨by simp [h1], h2, ?_⟩
    unfold fstT at *
    rw [List.findSome?_cons]
    have e2 : fitT r x = none := by unfold fitT; rw [hm]; rfl
    rw [e2]
    exact h3
   | some g =>
    have e1 : fitsL (r :: rs) x = (r, g) :: fitsL rs x := by unfold fitsL; rw [List.filterMap_cons]; simp [hm]
    rw [e1] at h
    have e2 : y = (r, g) := by
     obtain ⟨q, hq⟩ := h
     simp at hq
     exact hq.1
    subst e2
    refine ⟨by simp, hm, ?_⟩
    unfold fstT
    rw [List.findSome?_cons]
    have e3 : fitT r x = some (onT g r.r) := by unfold fitT; rw [hm]; rfl
    rw [e3, gT_on (mtT_var hm) r.r (ruleE_parts (hr r (by simp))).2.1]
 obtain ⟨h1, h2, h3⟩ := key rs hr h
 exact ⟨h1, h2, h3, mtT_var h2⟩
theorem fits_none {rs : List Pr} {x : Tm} (h : fitsL rs x = []) : fstT rs x = none := by
 unfold fstT
 rw [List.findSome?_eq_none_iff]
 intro r hr
 unfold fitsL at h
 rw [List.filterMap_eq_nil_iff] at h
 have := h r hr
 unfold fitT
 cases hm : mtT r.l x [] with
 | none => rfl
 | some g => rw [hm] at this; simp at this
def InOk (rs : List Pr) (C : Tm → Tm) (m d : Nat) (t0 x : Tm) (d' : Nat) : Prop := d ≤ d' ∧ d' ≤ m ∧ noStep rs x ∧ sizeL [C x] ≤ 2000 ∧ endP rs true (m - d) (C t0) = shiftN (d' - d) (endP rs true (m - d') (C x))
theorem InOk.here {rs : List Pr} {C : Tm → Tm} {m d : Nat} {x : Tm} (hd : d ≤ m) (h : noStep rs x) (hz : sizeL [C x] ≤ 2000) : InOk rs C m d x x d :=
 ⟨Nat.le_refl _, hd, h, hz, by rw [Nat.sub_self]; exact (shiftN_zero (endP_form _ _ _ _)).symm⟩
theorem InOk.trans {rs : List Pr} {C : Tm → Tm} {m d d1 d2 : Nat} {t0 t1 x : Tm} (h1 : d ≤ d1) (h2 : endP rs true (m - d) (C t0) = shiftN (d1 - d) (endP rs true (m - d1) (C t1))) (h : InOk rs C m d1 t1 x d2) : InOk rs C m d t0 x d2 := by
 obtain ⟨a, b, c, z, e⟩ := h
 refine ⟨by omega, b, c, z, ?_⟩
 rw [h2, e, shiftN_add]
 congr 1
 omega
theorem in_step {rs : List Pr} {C : Tm → Tm} {k m d : Nat} {a a' : Tm} (hC : CtxZ rs C k) (h : nextT rs true a = some a') (hd : d < m) (hz : sizeL [a'] + k ≤ 2000) : endP rs true (m - d) (C a) = shiftN (d + 1 - d) (endP rs true (m - (d + 1)) (C a')) := by
 have e1 : m - d = (m - (d + 1)) + 1 := by omega
 have e2 : d + 1 - d = 1 := by omega
 rw [e1, e2]
 exact endP_step (hC.1 _ _ h) (by rw [hC.2]; exact hz)
theorem in_fuel {rs : List Pr} {C : Tm → Tm} {k m : Nat} {a a' : Tm} (hC : CtxZ rs C k) (h : nextT rs true a = some a') : endP rs true (m - m) (C a) = (9, ⟨⟨#[]⟩, []⟩, 0) := by
 rw [Nat.sub_self]
 exact endP_zero (hC.1 _ _ h)
theorem in_full {rs : List Pr} {C : Tm → Tm} {k m d : Nat} {a a' : Tm} (hC : CtxZ rs C k) (h : nextT rs true a = some a') (hd : d < m) (hz : 2000 < sizeL [a'] + k) : endP rs true (m - d) (C a) = (8, ⟨⟨#[]⟩, []⟩, 0) := by
 have e1 : m - d = (m - (d + 1)) + 1 := by omega
 rw [e1]
 exact endP_full (hC.1 _ _ h) (by rw [hC.2]; exact hz)
theorem inner_topT {rs : List Pr} {t : Tm} (hl : noFit rs t.args) : nextT rs true t = fstT rs t := by
 obtain ⟨s, l⟩ := t
 exact inner_top hl
theorem errL_allD {l : List Tm} : errL l = 0 ↔ ∀ t ∈ l, errL [t] = 0 := by
 induction l with
 | nil => simp [errL]
 | cons t r ih =>
  rw [errL_cons]
  constructor
  ·intro h
   split at h
   ·rename_i h0
    intro y hy
    rcases List.mem_cons.1 hy with rfl | hy
    ·exact h0
    ·exact ih.1 h y hy
   ·rename_i h0; exact absurd h h0
  ·intro h
   rw [if_pos (h t (by simp))]
   exact ih.2 fun y hy => h y (by simp [hy])
theorem err_argsD {t : Tm} (h : errL [t] = 0) : ∀ y ∈ t.args, errL [y] = 0 := by
 obtain ⟨s, a⟩ := t
 exact errL_allD.1 (errL_partsR h).2.1
theorem err_knotD {s : ByteArray} {a b : List Tm} (h : errL [(⟨s, a⟩ : Tm)] = 0) (hl : a = [] → b = []) (hb : errL b = 0) : errL [(⟨s, b⟩ : Tm)] = 0 := by
 have h1 := (errL_partsR h).1
 have hn : nameB s = true := by
  cases hn : nameB s with
  | true => rfl
  | false => simp [errL, hn] at h
 cases hv : varB s with
 | false => simp [errL, hn, hv, hb]
 | true =>
  have := hl (h1 hv)
  subst this
  simp [errL, hn, hv]
theorem err_mayD {t : Tm} (h : mayE t = 0) : errL [t] = 0 := by
 unfold mayE at h
 split at h
 ·cases h
 ·exact h
theorem err_putD {y : Tm} (hy : errL [y] = 0) : ∀ (p : List Int) (t x : Tm), errL [t] = 0 → atT t p = some x → errL [putT y p t] = 0 ∧ errL [x] = 0
 | [], t, x, ht, h => by simp [atT] at h; subst h; simp [putT]; exact ⟨hy, ht⟩
 | i :: r, t, x, ht, h => by
  obtain ⟨k, hk, rfl, h2⟩ := atT_cons h
  have ha := err_argsD ht
  obtain ⟨h3, h4⟩ := err_putD hy r _ x (ha _ (List.getElem_mem hk)) h2
  refine ⟨?_, h4⟩
  obtain ⟨s, l⟩ := t
  have e1 := putL_set (putT y r) l 0 k hk
  rw [Nat.zero_add] at e1
  rw [putT, e1]
  refine err_knotD ht (fun h => by simp only at h hk; subst h; simp at hk) (errL_allD.2 fun z hz => ?_)
  rcases List.mem_or_eq_of_mem_set hz with hz | rfl
  ·exact ha z hz
  ·exact h3
def rkL (K : ByteArray → ByteArray) : List ByteArray → List Tm → List Tm × List ByteArray
 | ns, [] => ([], ns)
 | ns, ⟨s, l⟩ :: r =>
  if varB s = true then (⟨nmZ (idxS (K s) ns + 1), []⟩ :: (rkL K (adZ ns (K s)) r).1, (rkL K (adZ ns (K s)) r).2)
  else (⟨s, (rkL K ns l).1⟩ :: (rkL K (rkL K ns l).2 r).1, (rkL K (rkL K ns l).2 r).2)
def rkT (K : ByteArray → ByteArray) (ns : List ByteArray) (t : Tm) : Tm × List ByteArray :=
 if varB t.name = true then (⟨nmZ (idxS (K t.name) ns + 1), []⟩, adZ ns (K t.name)) else (⟨t.name, (rkL K ns t.args).1⟩, (rkL K ns t.args).2)
theorem rkL_nil (K : ByteArray → ByteArray) (ns : List ByteArray) : rkL K ns [] = ([], ns) := by rw [rkL]
theorem rkL_cons (K : ByteArray → ByteArray) (ns : List ByteArray) (t : Tm) (r : List Tm) : rkL K ns (t :: r) = ((rkT K ns t).1 :: (rkL K (rkT K ns t).2 r).1, (rkL K (rkT K ns t).2 r).2) := by
 obtain ⟨s, l⟩ := t
 rw [rkL]
 unfold rkT
 by_cases h : varB s = true
 ·simp [h]
 ·simp [h]
theorem rkL_append (K : ByteArray → ByteArray) (b : List Tm) : ∀ (a : List Tm) (ns : List ByteArray), rkL K ns (a ++ b) = ((rkL K ns a).1 ++ (rkL K (rkL K ns a).2 b).1, (rkL K (rkL K ns a).2 b).2)
 | [], ns => by simp [rkL_nil]
 | t :: r, ns => by
  rw [List.cons_append, rkL_cons, rkL_append K b r, rkL_cons]
  simp
theorem rkL_take (K : ByteArray → ByteArray) (ns : List ByteArray) (l : List Tm) (k : Nat) (h : k < l.length) : rkL K ns (l.take (k + 1)) = ((rkL K ns (l.take k)).1 ++ [(rkT K (rkL K ns (l.take k)).2 l[k]).1], (rkT K (rkL K ns (l.take k)).2 l[k]).2) := by
 rw [List.take_succ_eq_append_getElem h, rkL_append, rkL_cons, rkL_nil]
theorem rkL_len (K : ByteArray → ByteArray) : ∀ (l : List Tm) (ns : List ByteArray), (rkL K ns l).1.length = l.length
 | [], ns => by simp [rkL_nil]
 | t :: r, ns => by rw [rkL_cons]; simp [rkL_len K r]
theorem rkL_names (K : ByteArray → ByteArray) (l : List Tm) : ∀ (ns : List ByteArray), (rkL K ns l).2.length ≤ ns.length + sizeL l := by
 induction l using Tm.indL with
 | h0 => intro ns; simp [rkL_nil]
 | h s l r ihl ihr =>
  intro ns
  have e : sizeL ((⟨s, l⟩ : Tm) :: r) = 1 + sizeL l + sizeL r := by simp [sizeL]
  rw [e, rkL_cons]
  have h2 := ihr (rkT K ns ⟨s, l⟩).2
  have h3 : (rkT K ns ⟨s, l⟩).2.length ≤ ns.length + (1 + sizeL l) := by
   unfold rkT
   split
   ·have := addS_len ns (K s); simp only; omega
   ·have := ihl ns; simp only; omega
  simp only
  omega
theorem rkT_names (K : ByteArray → ByteArray) (t : Tm) (ns : List ByteArray) : (rkT K ns t).2.length ≤ ns.length + sizeL [t] := by
 have h := rkL_names K [t] ns
 rw [rkL_cons, rkL_nil] at h
 exact h
theorem renT_rk (ns : List ByteArray) (t : Tm) : renT ns t = rkT id ns t := by
 have key : ∀ (l : List Tm) (ns : List ByteArray), renL ns l = rkL id ns l := by
  intro l
  induction l using Tm.indL with
  | h0 => intro ns; rw [renL, rkL]
  | h s l r ihl ihr =>
   intro ns
   rw [renL, rkL]
   simp only [ihl, ihr, id]
 unfold renT rkT
 rw [key]
 rfl
theorem name_nmZ : ∀ {k : Nat}, k < 1002 → nameB (nmZ k) = true := by decide +kernel
theorem rkL_ok (K : ByteArray → ByteArray) (l : List Tm) : ∀ (ns : List ByteArray), errL l = 0 → ns.length + sizeL l ≤ 1000 → errL (rkL K ns l).1 = 0 ∧ sizeL (rkL K ns l).1 = sizeL l := by
 induction l using Tm.indL with
 | h0 => intro ns _ _; rw [rkL]; exact ⟨by simp [errL], rfl⟩
 | h s l r ihl ihr =>
  intro ns he hz
  have e : sizeL ((⟨s, l⟩ : Tm) :: r) = 1 + sizeL l + sizeL r := by simp [sizeL]
  rw [e] at hz ⊢
  obtain ⟨h1, h2, h3⟩ := errL_partsR he
  have hnm : nameB s = true := errL_name he
  rw [rkL]
  by_cases hv : varB s = true
  ·have hl := h1 hv
   subst hl
   rw [if_pos hv]
   have hix := idxS_le (K s) ns
   have hal := addS_len ns (K s)
   have hzl : sizeL ([] : List Tm) = 0 := by simp [sizeL]
   obtain ⟨g1, g2⟩ := ihr (adZ ns (K s)) h3 (by omega)
   have hn := name_nmZ (k := idxS (K s) ns + 1) (by omega)
   refine ⟨by simp [errL, hn, g1], ?_⟩
   simp [sizeL, g2]
  ·rw [if_neg hv]
   have hn2 := rkL_names K l ns
   obtain ⟨g1, g2⟩ := ihl ns h2 (by omega)
   obtain ⟨g3, g4⟩ := ihr (rkL K ns l).2 h3 (by omega)
   have hv2 : varB s = false := by simpa using hv
   refine ⟨by simp [errL, hnm, hv2, g1, g3], ?_⟩
   simp [sizeL, g2, g4]
theorem rkT_ok {K : ByteArray → ByteArray} {t : Tm} {ns : List ByteArray} (he : errL [t] = 0) (hz : ns.length + sizeL [t] ≤ 1000) : errL [(rkT K ns t).1] = 0 ∧ sizeL [(rkT K ns t).1] = sizeL [t] := by
 have h := rkL_ok K [t] ns he hz
 rw [rkL_cons, rkL_nil] at h
 exact h
def kyI (i : Nat) (s : ByteArray) : ByteArray := (⟨(Lib.decDigits i).toArray⟩ : ByteArray) ++ s
def rnP (K : ByteArray → ByteArray) (ns : List ByteArray) (p : Pr) : Pr × List ByteArray := (⟨(rkT K ns p.l).1, (rkT K (rkT K ns p.l).2 p.r).1⟩, (rkT K (rkT K ns p.l).2 p.r).2)
def apR (o n : Pr) : Pr × Pr := ((rnP (kyI 0) [] o).1, (rnP (kyI 1) (rnP (kyI 0) [] o).2 n).1)
def nmP (p : Pr) : Pr := (rnP id [] p).1
theorem rnP_names (K : ByteArray → ByteArray) (p : Pr) (ns : List ByteArray) : (rnP K ns p).2.length ≤ ns.length + sizeL [p.l] + sizeL [p.r] := by
 have h1 := rkT_names K p.l ns
 have h2 := rkT_names K p.r (rkT K ns p.l).2
 unfold rnP
 simp only
 omega
theorem rnP_ok {K : ByteArray → ByteArray} {p : Pr} {ns : List ByteArray} (hl : errL [p.l] = 0) (hr : errL [p.r] = 0) (hz : ns.length + sizeL [p.l] + sizeL [p.r] ≤ 1000) : (errL [(rnP K ns p).1.l] = 0 ∧ sizeL [(rnP K ns p).1.l] = sizeL [p.l]) ∧ errL [(rnP K ns p).1.r] = 0 ∧ sizeL [(rnP K ns p).1.r] = sizeL [p.r] := by
 have h1 := rkT_names K p.l ns
 exact ⟨rkT_ok hl (by omega), rkT_ok hr (by omega)⟩
theorem apR_ok {o n : Pr} (ho : mayE o.l = 0 ∧ mayE o.r = 0) (hn : mayE n.l = 0 ∧ mayE n.r = 0) : (mayE (apR o n).1.l = 0 ∧ mayE (apR o n).1.r = 0) ∧ mayE (apR o n).2.l = 0 ∧ mayE (apR o n).2.r = 0 := by
 have z1 := may200 ho.1
 have z2 := may200 ho.2
 have z3 := may200 hn.1
 have z4 := may200 hn.2
 have hnm := rnP_names (kyI 0) o []
 simp only [List.length_nil] at hnm
 obtain ⟨⟨a1, a2⟩, a3, a4⟩ := rnP_ok (K := kyI 0) (p := o) (ns := []) (err_mayD ho.1) (err_mayD ho.2) (by simp only [List.length_nil]; omega)
 obtain ⟨⟨b1, b2⟩, b3, b4⟩ := rnP_ok (K := kyI 1) (p := n) (ns := (rnP (kyI 0) [] o).2) (err_mayD hn.1) (err_mayD hn.2) (by omega)
 have key : ∀ {t : Tm}, errL [t] = 0 → sizeL [t] ≤ 200 → mayE t = 0 := fun {t} h1 h2 => by unfold mayE; rw [if_neg (by omega)]; exact h1
 unfold apR
 exact ⟨⟨key a1 (by rw [a2]; exact z1), key a3 (by rw [a4]; exact z2)⟩, key b1 (by rw [b2]; exact z3), key b3 (by rw [b4]; exact z4)⟩
def likeB (x l : Tm) : Bool := (x.name.toList == l.name.toList) && decide (x.args.length = l.args.length)
def eUn (R : Int × List Bd) : Int := if grtB R.2 = true then 8 else R.1
def ovS (U : List Pr → Int × List Bd) (ab : Pr × Pr) (same : Bool) (d : Dn) : Bool := (decide (d.1 = []) && same) || !likeB d.2 ab.2.l || (decide (eUn (U [⟨d.2, ab.2.l⟩]) ≠ 0) && decide (eUn (U [⟨d.2, ab.2.l⟩]) ≠ 8))
def ovW (U : List Pr → Int × List Bd) (ab : Pr × Pr) (d : Dn) : Pr := ⟨fT (U [⟨d.2, ab.2.l⟩]).2 ab.1.r, fT (U [⟨d.2, ab.2.l⟩]).2 (putT ab.2.r d.1 ab.1.l)⟩
def ovF (U : List Pr → Int × List Bd) (ab : Pr × Pr) (same : Bool) (d : Dn) : Prop := ovS U ab same d = false ∧ (eUn (U [⟨d.2, ab.2.l⟩]) = 8 ∨ 2000 < sizeL [(ovW U ab d).l] ∨ 2000 < sizeL [(ovW U ab d).r])
def ovQ (U : List Pr → Int × List Bd) (ab : Pr × Pr) (same : Bool) (d : Dn) : Option Pr := if ovS U ab same d = true then none else some (nmP (ovW U ab d))
def ovL (U : List Pr → Int × List Bd) (o n : Pr) (same : Bool) : List Pr := (dnT [] [] (apR o n).1.l).filterMap (ovQ U (apR o n) same)
structure OwB (w : World) (B Bn Bi i : Nat) : Prop where
 bn : Blk w Bn #[.func (.func 68) #[] #[.pointer (some ⟨B, 0, none⟩)]] 79
 bi : Blk w Bi #[.int .i64 (i : Int)] 3
theorem OwB.later {w w' : World} {B Bn Bi i : Nat} (h : OwB w B Bn Bi i) (hb : Below w.heap.size w w') : OwB w' B Bn Bi i := ⟨h.bn.below hb h.bn.lt, h.bi.below hb h.bi.lt⟩
theorem OwB.exq {w w' : World} {B Bn Bi i r : Nat} (h : OwB w B Bn Bi i) (he : ExQ (fun b => b = r) w w') (h1 : Bn ≠ r) (h2 : Bi ≠ r) : OwB w' B Bn Bi i := ⟨h.bn.exq he h1, h.bi.exq he h2⟩
theorem name_le8 {s : ByteArray} (h : nameB s = true) : s.size ≤ 8 := by
 unfold nameB at h
 simp at h
 omega
theorem dec_nine : ∀ {i : Nat}, i ≤ 9 → (Lib.decDigits i).length ≤ 1 := by decide +kernel
set_option maxHeartbeats 2000000 in
theorem own_any (BT : Nat) (s : ByteArray) (ns : List ByteArray) (B r Bn Bi i : Nat) (w : World) (h : NmAt w B r ns) (ho : OwB w B Bn Bi i) (hT : Tb BT w) (hBr : BT ≤ r) (hBw : BT ≤ w.heap.size) (hl : ns.length ≤ 100000) (hi : i ≤ 9) (hs : s.size ≤ 8) (hnr : Bn ≠ r) (hir : Bi ≠ r) :
  Calls Tryz.prog 42 #[.string s, .pointer (some ⟨Bn, 0, none⟩), .pointer (some ⟨Bi, 0, none⟩)] w fun e w' => e = .returned (.string (nmZ (idxS (kyI i s) ns + 1))) ∧ NmAt w' B r (adZ ns (kyI i s)) ∧ ExQ (fun b => b = r) w w' := by
 have HN := hide h
 have HO := hide ho
 have HTB := hide hT
 have hd := dec_nine hi
 have hcat : (⟨(Lib.decDigits i).toArray⟩ : ByteArray) ++ s = kyI i s := rfl
 have HC := hide hcat
 have hsz : (⟨(Lib.decDigits i).toArray⟩ : ByteArray).size ≤ 1 := by simpa [ByteArray.size] using hd
 clear h ho hT hcat
 go_enter Tryz.func42, Tryz.ntmps42
 go_wp2_with fail
 have HOd : Hid (OwB w.drew B Bn Bi i) := ⟨HO.out.bn.drewN 1, HO.out.bi.drewN 1⟩
 have HND : Hid (NmAt w.drew B r ns) := HN.out.later ((Below.refl _ _).drew)
 have HTD : Hid (Tb BT w.drew) := HTB.out.on ((Below.refl BT w).drew)
 have HXD : Hid (ExQ (fun b => b = r) w w.drew) := (ExQ.refl _ w).drew
 have hBd : BT ≤ w.drew.heap.size := hBw
 refine wp_region_held_drew (S := fun w' => OwB w' B Bn Bi i) (by kernel_rfl) HOd.out (fun hHeld => ?_)
 generalize w.drew = wd at *
 refine tkq (v := ?_) 0 rfl ?_ ?_
 rotate_left
 ·intro w' hSw
  have c0 := hSw.bn.cell 0
  go_simp <;> with_reducible rfl
 try simp only [Act.put, sq]
 refine tkq (v := ?_) 1 rfl ?_ ?_
 rotate_left
 ·intro w' hSw
  have c0 := hSw.bi.cell 0
  go_simp <;> with_reducible rfl
 try simp only [Act.put, sq]
 refine tkq (v := ?_) 3 rfl ?_ ?_
 rotate_left
 ·intro w' hSw
  go_simp <;> with_reducible rfl
 try simp only [Act.put, sq]
 refine rdq 2 rfl fun K hK => ?_
 go_simp
 go_at_call 43
 refine (itoa_any i BT (by omega) _ HTD.out).mono ?_
 rintro e w1 ⟨rfl, hb1⟩
 have HO1 := hide (HOd.out.later hb1)
 have HN1 := hide (HND.out.later hb1)
 have HT1 := hide (HTD.out.on (hb1.mono hBd))
 have HX1 := hide (HXD.out.trans (ExQ.ofBelow hb1))
 have hB1 : BT ≤ w1.heap.size := Nat.le_trans hBd hb1.size
 clear hb1
 go_simp
 refine hK.out _ _ (by exact HO1.out) (fun hHeld => ?_)
 clear hK K
 try simp only [Act.put, sq]
 refine tkq (v := ?_) 4 rfl ?_ ?_
 rotate_left
 ·intro w' hSw
  have hs9 : ¬ 9223372036854775807 < (Lib.decDigits i).length + s.size := by omega
  go_simp <;> with_reducible rfl
 try simp only [Act.put, sq]
 try rw [HC.out]
 refine rdq 5 rfl fun K hK => ?_
 go_simp
 try rw [HC.out]
 refine (namer_any BT (kyI i s) ns B r _ HN1.out HT1.out hBr hB1 hl).mono ?_
 rintro e w2 ⟨rfl, hn2, hx2⟩
 have HO2 := hide (HO1.out.exq hx2 hnr hir)
 have HN2 := hide hn2
 have HX2 := hide (HX1.out.trans hx2)
 clear hn2 hx2
 go_simp
 refine hK.out _ _ (by exact HO2.out) (fun hHeld => ?_)
 clear hK K
 try simp only [Act.put, sq]
 refine tkq (v := ?_) 6 rfl ?_ ?_
 rotate_left
 ·intro w' hSw
  go_simp <;> with_reducible rfl
 try simp only [Act.put, sq]
 refine wpAnyH_done (by kernel_rfl) ?_ _
 go_wp2_with fail
 go_ret
 exact ⟨rfl, HN2.out, HX2.out⟩
set_option maxHeartbeats 4000000 in
theorem renameO_any (BT B r Bn Bi i : Nat) (hBr : BT ≤ r) (hi9 : i ≤ 9) (hnr : Bn ≠ r) (hir : Bi ≠ r) (t : Tm) : ∀ (v : Value) (ns : List ByteArray) (w : World) (X : Nat → Prop), TV w X v t → (∀ b, X b → b ≠ r) → NmAt w B r ns → OwB w B Bn Bi i → Tb BT w → ns.length + sizeL [t] ≤ 100000 → errL [t] = 0 →
  Calls Tryz.prog 70 #[v, .func (.func 42) #[] #[.pointer (some ⟨Bn, 0, none⟩), .pointer (some ⟨Bi, 0, none⟩)]] w fun e w' => RnP B r (rkT (kyI i) ns t) w e w' := by
 induction t using Tm.ind with
 | h s l ih =>
  intro v ns w X hv hX hN hO hT hsz hE
  obtain ⟨a, c, rfl, hs⟩ := hv
  have IH := hide ih
  have HS := hide hs
  have HX := hide hX
  have HN := hide hN
  have HO := hide hO
  have HE := hide hE
  have hsn := name_le8 (errL_name hE)
  have HT := hide hT
  have hl := hs.1
  have hz : sizeL [(⟨s, l⟩ : Tm)] = 1 + sizeL l := by simp [sizeL]
  rw [hz] at hsz
  have hlen := sizeL_len l
  have hrl : r < w.heap.size := hN.map.lt
  have hBl : B < w.heap.size := hN.box.lt
  have HRB : Hid (r < w.heap.size ∧ B < w.heap.size) := ⟨hrl, hBl⟩
  have hBw : BT ≤ w.heap.size := by omega
  clear ih hs hz hX hN hT hO hE
  have T2 : Hid (Blk ((w.alloc (.cells #[.string s, .slice a l.length c] 32)).alloc (.cells #[.string ⟨#[]⟩, .slice none 0 0] 32)) w.heap.size #[.string s, .slice a l.length c] 32) := (Blk.new w _ _).alloc _
  have R2 : Hid (Blk ((w.alloc (.cells #[.string s, .slice a l.length c] 32)).alloc (.cells #[.string ⟨#[]⟩, .slice none 0 0] 32)) (w.heap.size + 1) #[.string ⟨#[]⟩, .slice none 0 0] 32) := by
   have h := Blk.new (w.alloc (.cells #[.string s, .slice a l.length c] 32)) #[.string ⟨#[]⟩, .slice none 0 0] 32
   rw [World.size_alloc] at h
   exact h
  have B2 : Hid (Below w.heap.size w ((w.alloc (.cells #[.string s, .slice a l.length c] 32)).alloc (.cells #[.string ⟨#[]⟩, .slice none 0 0] 32))) := ((Below.refl _ _).alloc (Nat.le_refl _) _).alloc (by simp) _
  have c0 := T2.out.cell 0
  have c1 := T2.out.cell 1
  cases hvs : varB s with
  | true =>
   have HR : Hid (rkT (kyI i) ns ⟨s, l⟩ = (⟨nmZ (idxS (kyI i s) ns + 1), []⟩, adZ ns (kyI i s))) := by unfold Hid rkT; simp [hvs]
   have NM := hide (own_any BT s ns B r Bn Bi i _ (HN.out.later B2.out) (HO.out.later B2.out) (HT.out.on (B2.out.mono hBw)) hBr (Nat.le_trans hBw B2.out.size) (by omega) hi9 hsn hnr hir)
   have HV := hide hvs
   clear hvs
   go_enter Tryz.func70, Tryz.ntmps70
   go_wp2_with fail
   refine (isVariable_all s _).mono ?_
   rintro e w2 ⟨rfl, rfl⟩
   rw [HV.out]
   go_wp2_with fail
   refine NM.out.mono ?_
   rintro e w3 ⟨rfl, hn3, hx3⟩
   have R3 := hide (R2.out.exq hx3 (by omega))
   have HN3 := hide hn3
   have HX3 := hide ((ExQ.ofBelow (Q := fun b => b = r) B2.out).transN hx3 (fun i h _ => h))
   clear hn3 hx3 c0 c1 NM
   have r0 := R3.out.c0
   have r1 := R3.out.c1
   have rf := R3.out.frozen
   have hRl : w.heap.size + 1 < w3.heap.size := R3.out.lt
   generalize nmZ (idxS (kyI i s) ns + 1) = nm at *
   go_wp2_with fail
   refine bodyPost_ret (v := .agg #[.string nm, .slice none 0 0]) (by simp [results, Tryz.results70, go_sem, World.cell?_setCell_same, World.cell?_setCell_other, r0, r1, hRl]) rfl ?_
   rw [HR.out]
   refine ⟨none, 0, rfl, ⟨by simp, Or.inl rfl⟩, ⟨(HN3.out.box.setOther _ _ (by omega)).setOther _ _ (by omega), ?_, HN3.out.ne⟩, (HX3.out.setNew (by omega) _ _).setNew (by omega) _ _⟩
   refine HN3.out.map.kept ?_
   rw [Below.heap_setCell _ _ _ _ (by simp; omega), Below.heap_setCell _ _ _ _ (by simp; omega)]
  | false =>
   have HR : Hid (rkT (kyI i) ns ⟨s, l⟩ = (⟨s, (rkL (kyI i) ns l).1⟩, (rkL (kyI i) ns l).2)) := by unfold Hid rkT; simp [hvs]
   have HV := hide hvs
   clear hvs
   go_enter Tryz.func70, Tryz.ntmps70
   go_wp2_with fail
   refine (isVariable_all s _).mono ?_
   rintro e w2 ⟨rfl, rfl⟩
   rw [HV.out]
   go_wp2_with fail
   have O3 : Hid (Blk (((w.alloc (.cells #[.string s, .slice a l.length c] 32)).alloc (.cells #[.string ⟨#[]⟩, .slice none 0 0] 32)).alloc (.cells #[.string s, .slice none 0 0] 32)) (w.heap.size + 2) #[.string s, .slice none 0 0] 32) := by
    have h := Blk.new ((w.alloc (.cells #[.string s, .slice a l.length c] 32)).alloc (.cells #[.string ⟨#[]⟩, .slice none 0 0] 32)) #[.string s, .slice none 0 0] 32
    have e : ((w.alloc (.cells #[.string s, .slice a l.length c] 32)).alloc (.cells #[.string ⟨#[]⟩, .slice none 0 0] 32)).heap.size = w.heap.size + 2 := by simp
    rw [e] at h
    exact h
   have R3 := hide (R2.out.alloc (.cells #[.string s, .slice none 0 0] 32))
   have B3 := hide (B2.out.alloc B2.out.size (.cells #[.string s, .slice none 0 0] 32))
   have SZ3 : Hid (w.heap.size + 3 ≤ (((w.alloc (.cells #[.string s, .slice a l.length c] 32)).alloc (.cells #[.string ⟨#[]⟩, .slice none 0 0] 32)).alloc (.cells #[.string s, .slice none 0 0] 32)).heap.size) := by unfold Hid; simp
   clear c0 c1 B2 T2 R2
   generalize (((w.alloc (.cells #[.string s, .slice a l.length c] 32)).alloc (.cells #[.string ⟨#[]⟩, .slice none 0 0] 32)).alloc (.cells #[.string s, .slice none 0 0] 32)) = w3 at *
   go_loopw [22] (fun iv wr => ∃ (k : Nat) (u : Value) (xs : List Value), k ≤ l.length ∧ iv = .int .i64 (k : Int) ∧ RnI w B r s #[] u (rkL (kyI i) ns (l.take k)).1 xs (rkL (kyI i) ns (l.take k)).2 wr) (fun iv wr => l.length - (intOf iv).toNat)
   case atStart => exact ⟨0, .slice none 0 0, [], Nat.zero_le _, rfl, ⟨by have h := Row.start w3 (w.heap.size + 3) 32 (fun _ => False); simpa [rkL_nil] using h, ExQ.ofBelow B3.out, R3.out, O3.out, SZ3.out, by simpa [rkL_nil] using HN.out.later B3.out⟩⟩
   case round =>
    obtain ⟨k, u9, xs, hk, rfl, hin⟩ := hrel
    have SET := hide hin
    clear hin
    have o0 := SET.out.out.c0
    have o1 : wr.cell? ⟨w.heap.size + 2, 1, none⟩ = some u9 := SET.out.out.cell 1
    by_cases hlt : k < l.length
    ·obtain ⟨b, o, a', c', rfl, d0, d1, hx⟩ := (((HS.out.mono (Y := fun b => X b ∧ b < w.heap.size) fun b h1 h2 => ⟨h1, h2⟩).exq SET.out.ex (fun b h => HX.out b h.1)).mono (Y := fun b => (X b ∧ b < w.heap.size) ∧ b < wr.heap.size) fun b h1 h2 => ⟨h1, h2⟩).get (Below.refl wr.heap.size wr) (fun b h _ => h.2) k hlt
     have hlt2 : (k : Int) < (l.length : Int) := by omega
     have hszk : sizeL [l[k]] ≤ sizeL l - sizeL (l.take k) := by
      have h1 := sizeL_take l k hlt
      have h2 := sizeL_take_le l (k + 1)
      omega
     have hszk2 : sizeL (l.take k) ≤ sizeL l := sizeL_take_le l k
     have HLN : Hid ((rkL (kyI i) ns (l.take k)).1.length ≤ 1000000) := by unfold Hid; rw [rkL_len]; simp; omega
     have hnn := rkL_names (kyI i) (l.take k) ns
     have HTK := hide (rkL_take (kyI i) ns l k hlt)
     have BQ : Below wr.heap.size wr (wr.alloc (.cells #[.string l[k].name, .slice a' l[k].args.length c'] 32)) := (Below.refl _ _).alloc (Nat.le_refl _) _
     have HXK := hide (hx.later BQ)
     have HOB : Hid (w.heap.size + 3 ≤ wr.heap.size ∧ some wr.heap.size ≠ u9.ownBlock) := ⟨SET.out.sz, fun e => by have := (SET.out.row.own.lt _ e.symm).2; omega⟩
     have SQ : Hid (RnI w B r s #[] u9 (rkL (kyI i) ns (l.take k)).1 xs (rkL (kyI i) ns (l.take k)).2 (wr.alloc (.cells #[.string l[k].name, .slice a' l[k].args.length c'] 32))) := ⟨SET.out.row.below BQ, SET.out.ex.alloc _, SET.out.res.alloc _, SET.out.out.alloc _, by have := SET.out.sz; simp; omega, SET.out.nm.alloc _⟩
     have HS8 : Hid (RnS wr.heap.size l[k].name (.slice a' l[k].args.length c') (wr.alloc (.cells #[.string l[k].name, .slice a' l[k].args.length c'] 32))) := ⟨(Blk.new wr _ _).cell 0, (Blk.new wr _ _).cell 1⟩
     have HTW : Hid (Tb BT (wr.alloc (.cells #[.string l[k].name, .slice a' l[k].args.length c'] 32))) := HT.out.on (SQ.out.ex.below hBw (fun b hb => by omega))
     clear hx BQ o0
     go_upto_region 7 with fail
     clear d0 d1 SET o1
     generalize (wr.alloc (.cells #[.string l[k].name, .slice a' l[k].args.length c'] 32)) = wq at *
     generalize wr.heap.size = Q at *
     have IHQ : Hid (Calls Tryz.prog 70 #[.agg #[.string l[k].name, .slice a' l[k].args.length c'], .func (.func 42) #[] #[.pointer (some ⟨Bn, 0, none⟩), .pointer (some ⟨Bi, 0, none⟩)]] wq.drew fun e w'' => ∃ a1 c1, e = .returned (.agg #[.string (rkT (kyI i) (rkL (kyI i) ns (l.take k)).2 l[k]).1.name, .slice a1 (rkT (kyI i) (rkL (kyI i) ns (l.take k)).2 l[k]).1.args.length c1]) ∧ Sl w'' (fun b => wq.heap.size ≤ b) a1 (rkT (kyI i) (rkL (kyI i) ns (l.take k)).2 l[k]).1.args ∧ NmAt w'' B r (rkT (kyI i) (rkL (kyI i) ns (l.take k)).2 l[k]).2 ∧ ExQ (fun b => b = r) wq w'') := (IH.out l[k] (List.getElem_mem hlt) _ _ wq.drew _ (HXK.out.later ((Below.refl wq.heap.size wq).drew)) (fun b h => HX.out b h.1.1) (SQ.out.nm.later ((Below.refl wq.heap.size wq).drew)) ((HO.out.exq SQ.out.ex hnr hir).later ((Below.refl wq.heap.size wq).drew)) (HTW.out.on ((Below.refl BT wq).drew)) (by omega) (err_argsD HE.out _ (List.getElem_mem hlt))).mono fun e w'' hp => by
       obtain ⟨a1, c1, h1, h2, h3, h4⟩ := hp
       exact ⟨a1, c1, h1, h2, h3, ((ExQ.refl _ wq).drew).trans h4⟩
     generalize rkT (kyI i) (rkL (kyI i) ns (l.take k)).2 l[k] = y at *
     have HSd : Hid (RnS Q l[k].name (.slice a' l[k].args.length c') wq.drew) := HS8.out
     refine wp_region_held_drew (S := RnS Q l[k].name (.slice a' l[k].args.length c')) (by kernel_rfl) HSd.out (fun hHeld => ?_)
     refine tkq (v := ?_) 0 rfl ?_ ?_
     rotate_left
     ·intro w' hSw
      go_simp <;> with_reducible rfl
     try simp only [Act.put, sq]
     refine tkq (v := ?_) 2 rfl ?_ ?_
     rotate_left
     ·intro w' hSw
      have e0 := hSw.1
      have e1 := hSw.2
      go_simp <;> with_reducible rfl
     try simp only [Act.put, sq]
     refine tkq (v := ?_) 3 rfl ?_ ?_
     rotate_left
     ·intro w' hSw
      go_simp <;> with_reducible rfl
     try simp only [Act.put, sq]
     have ob4 : wq.drew.cell? ⟨w.heap.size + 2, 1, none⟩ = some u9 := SQ.out.out.cell 1
     refine wpAnyH_ready (rs := [1, 4]) (by kernel_rfl) (by simp) ?_
     refine AllReadyH.cons rfl (fun K hK => ?_) (AllReadyH.cons rfl (fun K hK => ?_) AllReadyH.nil)
     ·go_simp
      refine hK.out _ _ (by exact HSd.out) (fun hHeld => ?_)
      clear hK K
      try simp only [Act.put, sq]
      refine rdq 4 rfl fun K hK => ?_
      go_simp
      go_at_call 70
      refine IHQ.out.mono ?_
      rintro e w5 ⟨a5, c5, rfl, hs5, hn5, hx5⟩
      obtain ⟨g, cap, w3, hrun, S1, S2, S3, p5, p6, o3, of, ol, S4, hset⟩ := rn_round (t := y.1) (c5 := c5) HRB.out.1 HRB.out.2 SQ.out ⟨HOB.out.1, HOB.out.2⟩ HS8.out HLN.out hx5 hs5 hn5
      have HRUN := hide hrun
      have HSET := hide hset
      have S1h := hide S1
      have S2h := hide S2
      have S3h := hide S3
      have S4h := hide S4
      have O5 := hide (And.intro p5 (And.intro o3 (And.intro of ol)))
      clear hrun hset S1 S2 S3 S4 hs5 hn5 hx5
      go_simp
      refine hK.out _ _ (by exact S1h.out) (fun hHeld => ?_)
      clear hK K
      try simp only [Act.put, sq]
      refine rdq 5 rfl fun K hK => ?_
      go_simp
      refine hK.out _ _ (by exact S2h.out) (fun hHeld => ?_)
      clear hK K
      try simp only [Act.put, sq]
      refine rdq 6 rfl fun K hK => ?_
      refine step_append_eqM rfl _ _ _ _ rfl rfl rfl HRUN.out ?_
      refine hK.out _ _ (by exact S3h.out) (fun hHeld => ?_)
      clear hK K
      try simp only [Act.put, sq]
      refine tkq (v := ?_) 7 rfl ?_ ?_
      rotate_left
      ·intro w' hSw
       go_simp <;> with_reducible rfl
      try simp only [Act.put, sq]
      refine rdq 8 rfl fun K hK => ?_
      go_simp
      refine hK.out _ _ (by exact S4h.out) (fun hHeld => ?_)
      clear hK K
      try simp only [Act.put, sq]
      refine wpAnyH_done (by kernel_rfl) ?_ _
      clear o3 of ol p5 p6
      go_wp2_with fail
      go_roundw
      case rel => exact ⟨k + 1, _, _, by omega, by go_num, by rw [HTK.out]; exact HSET.out⟩
      case measure => simp [intOf]; omega
     ·go_simp
      go_at_call 70
      refine IHQ.out.mono ?_
      rintro e w5 ⟨a5, c5, rfl, hs5, hn5, hx5⟩
      obtain ⟨g, cap, w3, hrun, S1, S2, S3, p5, p6, o3, of, ol, S4, hset⟩ := rn_round (t := y.1) (c5 := c5) HRB.out.1 HRB.out.2 SQ.out ⟨HOB.out.1, HOB.out.2⟩ HS8.out HLN.out hx5 hs5 hn5
      have HRUN := hide hrun
      have HSET := hide hset
      have S1h := hide S1
      have S2h := hide S2
      have S3h := hide S3
      have S4h := hide S4
      have O5 := hide (And.intro p5 (And.intro o3 (And.intro of ol)))
      clear hrun hset S1 S2 S3 S4 hs5 hn5 hx5
      go_simp
      refine hK.out _ _ (by exact S1h.out) (fun hHeld => ?_)
      clear hK K
      try simp only [Act.put, sq]
      refine wpAnyH_ready (rs := [1, 5]) (by kernel_rfl) (by simp) ?_
      refine AllReadyH.cons rfl (fun K hK => ?_) (AllReadyH.cons rfl (fun K hK => ?_) AllReadyH.nil)
      ·go_simp
       refine hK.out _ _ (by exact S1h.out) (fun hHeld => ?_)
       clear hK K
       try simp only [Act.put, sq]
       refine rdq 5 rfl fun K hK => ?_
       go_simp
       refine hK.out _ _ (by exact S2h.out) (fun hHeld => ?_)
       clear hK K
       try simp only [Act.put, sq]
       refine rdq 6 rfl fun K hK => ?_
       refine step_append_eqM rfl _ _ _ _ rfl rfl rfl HRUN.out ?_
       refine hK.out _ _ (by exact S3h.out) (fun hHeld => ?_)
       clear hK K
       try simp only [Act.put, sq]
       refine tkq (v := ?_) 7 rfl ?_ ?_
       rotate_left
       ·intro w' hSw
        go_simp <;> with_reducible rfl
       try simp only [Act.put, sq]
       refine rdq 8 rfl fun K hK => ?_
       go_simp
       refine hK.out _ _ (by exact S4h.out) (fun hHeld => ?_)
       clear hK K
       try simp only [Act.put, sq]
       refine wpAnyH_done (by kernel_rfl) ?_ _
       clear o3 of ol p5 p6
       go_wp2_with fail
       go_roundw
       case rel => exact ⟨k + 1, _, _, by omega, by go_num, by rw [HTK.out]; exact HSET.out⟩
       case measure => simp [intOf]; omega
      ·go_simp
       refine hK.out _ _ (by exact S2h.out) (fun hHeld => ?_)
       clear hK K
       try simp only [Act.put, sq]
       refine rdq 1 rfl fun K hK => ?_
       go_simp
       refine hK.out _ _ (by exact S2h.out) (fun hHeld => ?_)
       clear hK K
       try simp only [Act.put, sq]
       refine rdq 6 rfl fun K hK => ?_
       refine step_append_eqM rfl _ _ _ _ rfl rfl rfl HRUN.out ?_
       refine hK.out _ _ (by exact S3h.out) (fun hHeld => ?_)
       clear hK K
       try simp only [Act.put, sq]
       refine tkq (v := ?_) 7 rfl ?_ ?_
       rotate_left
       ·intro w' hSw
        go_simp <;> with_reducible rfl
       try simp only [Act.put, sq]
       refine rdq 8 rfl fun K hK => ?_
       go_simp
       refine hK.out _ _ (by exact S4h.out) (fun hHeld => ?_)
       clear hK K
       try simp only [Act.put, sq]
       refine wpAnyH_done (by kernel_rfl) ?_ _
       clear o3 of ol p5 p6
       go_wp2_with fail
       go_roundw
       case rel => exact ⟨k + 1, _, _, by omega, by go_num, by rw [HTK.out]; exact HSET.out⟩
       case measure => simp [intOf]; omega
    ·have hge : ¬ ((k : Int) < (l.length : Int)) := by omega
     have htk : l.take k = l := List.take_of_length_le (by omega)
     rw [htk] at SET
     obtain ⟨ae, ce, rfl, hse⟩ := SET.out.row.sl
     have HSE := hide hse
     clear hse
     have r0 := SET.out.res.c0
     have r1 := SET.out.res.c1
     have rf := SET.out.res.frozen
     have hRl : w.heap.size + 1 < wr.heap.size := SET.out.res.lt
     go_wp2_with fail
     refine bodyPost_ret (v := .agg #[.string s, .slice ae (rkL (kyI i) ns l).1.length ce]) (by simp [results, Tryz.results70, go_sem, World.cell?_setCell_same, World.cell?_setCell_other, r0, r1, hRl]) rfl ?_
     rw [HR.out]
     have hbs := SET.out.sz
     have hRB := HRB.out
     refine ⟨ae, ce, rfl, (HSE.out.kept fun b hb => ?_).mono fun b hb _ => ?_, ⟨(SET.out.nm.box.setOther _ _ (by omega)).setOther _ _ (by omega), ?_, SET.out.nm.ne⟩, (SET.out.ex.setNew (by omega) _ _).setNew (by omega) _ _⟩
     ·have hbn : b ≠ w.heap.size + 1 := by
       rcases hb with h | h
       ·exact h.elim
       ·omega
      rw [Below.heap_setCell _ _ _ _ (by simpa using hbn), Below.heap_setCell _ _ _ _ (by simpa using hbn)]
     ·rcases hb with h | h
      ·exact h.elim
      ·omega
     ·refine SET.out.nm.map.kept ?_
      rw [Below.heap_setCell _ _ _ _ (by simp; omega), Below.heap_setCell _ _ _ _ (by simp; omega)]
def RdP (B r : Nat) (y : Pr × List ByteArray) (w : World) (e : Ending) (w' : World) : Prop :=
 ∃ a1 c1 a2 c2, e = .returned (.agg #[.string y.1.l.name, .slice a1 y.1.l.args.length c1, .string y.1.r.name, .slice a2 y.1.r.args.length c2]) ∧ Sl w' (fun b => w.heap.size ≤ b) a1 y.1.l.args ∧ Sl w' (fun b => w.heap.size ≤ b) a2 y.1.r.args ∧ NmAt w' B r y.2 ∧ ExQ (fun b => b = r) w w'
theorem rename1_any (BT B r : Nat) (hBr : BT ≤ r) (t : Tm) (v : Value) (ns : List ByteArray) (w : World) (X : Nat → Prop) (hv : TV w X v t) (hX : ∀ b, X b → b ≠ r) (hN : NmAt w B r ns) (hT : Tb BT w) (hs : ns.length + sizeL [t] ≤ 100000) :
  Calls Tryz.prog 70 #[v, .func (.func 68) #[] #[.pointer (some ⟨B, 0, none⟩)]] w fun e w' => RnP B r (rkT id ns t) w e w' := by
 rw [← renT_rk]
 exact rename_any BT B r hBr t v ns w X hv hX hN hT hs
theorem nm_set {w : World} {B r R k : Nat} {ns : List ByteArray} {v : Value} (h : NmAt w B r ns) (h1 : B ≠ R) (h2 : r ≠ R) : NmAt (w.setCell ⟨R, k, none⟩ v) B r ns := ⟨h.box.setOther _ _ h1, h.map.kept (Below.heap_setCell _ _ _ _ (by simpa using h2)), h.ne⟩
theorem sl_set {w : World} {N R k : Nat} {a : Option Addr} {l : List Tm} {v : Value} (h : Sl w (fun b => N ≤ b) a l) (hR : R < N) : Sl (w.setCell ⟨R, k, none⟩ v) (fun b => N ≤ b) a l := h.kept fun b hb => Below.heap_setCell _ _ _ _ (by simp; omega)
set_option maxHeartbeats 4000000 in
theorem renamedN_any (BT B r : Nat) (hBr : BT ≤ r) (p : Pr) (a1 a2 : Option Addr) (c1 c2 : Nat) (ns : List ByteArray) (w : World) (X : Nat → Prop) (hs1 : Sl w X a1 p.l.args) (hs2 : Sl w X a2 p.r.args) (hX : ∀ b, X b → b ≠ r) (hN : NmAt w B r ns) (hT : Tb BT w) (hsz : ns.length + sizeL [p.l] + sizeL [p.r] ≤ 100000) :
  Calls Tryz.prog 44 #[.agg #[.string p.l.name, .slice a1 p.l.args.length c1, .string p.r.name, .slice a2 p.r.args.length c2], .func (.func 68) #[] #[.pointer (some ⟨B, 0, none⟩)]] w fun e w' => RdP B r (rnP (id) ns p) w e w' := by
 have HS1 := hide hs1
 have HS2 := hide hs2
 have HX := hide hX
 have HN := hide hN
 have HT := hide hT
 have hrl : r < w.heap.size := hN.map.lt
 have hBl : B < w.heap.size := hN.box.lt
 have hBw : BT ≤ w.heap.size := by omega
 have HSZ := hide hsz
 clear hs1 hs2 hX hN hT
 go_enter Tryz.func44, Tryz.ntmps44
 go_wp2_with fail
 have hB2 : Below w.heap.size w ((w.alloc (.cells #[.string p.l.name, .slice a1 p.l.args.length c1, .string p.r.name, .slice a2 p.r.args.length c2] 34)).alloc (.cells #[.string ⟨#[]⟩, .slice none 0 0, .string ⟨#[]⟩, .slice none 0 0] 34)) := ((Below.refl _ _).alloc (Nat.le_refl _) _).alloc (by simp) _
 have hP2 : Blk ((w.alloc (.cells #[.string p.l.name, .slice a1 p.l.args.length c1, .string p.r.name, .slice a2 p.r.args.length c2] 34)).alloc (.cells #[.string ⟨#[]⟩, .slice none 0 0, .string ⟨#[]⟩, .slice none 0 0] 34)) w.heap.size #[.string p.l.name, .slice a1 p.l.args.length c1, .string p.r.name, .slice a2 p.r.args.length c2] 34 := (Blk.new w _ _).alloc _
 have hR2 : Blk ((w.alloc (.cells #[.string p.l.name, .slice a1 p.l.args.length c1, .string p.r.name, .slice a2 p.r.args.length c2] 34)).alloc (.cells #[.string ⟨#[]⟩, .slice none 0 0, .string ⟨#[]⟩, .slice none 0 0] 34)) (w.heap.size + 1) #[.string ⟨#[]⟩, .slice none 0 0, .string ⟨#[]⟩, .slice none 0 0] 34 := by
  have h := Blk.new (w.alloc (.cells #[.string p.l.name, .slice a1 p.l.args.length c1, .string p.r.name, .slice a2 p.r.args.length c2] 34)) #[.string ⟨#[]⟩, .slice none 0 0, .string ⟨#[]⟩, .slice none 0 0] 34
  rw [World.size_alloc] at h
  exact h
 have hz2 : ((w.alloc (.cells #[.string p.l.name, .slice a1 p.l.args.length c1, .string p.r.name, .slice a2 p.r.args.length c2] 34)).alloc (.cells #[.string ⟨#[]⟩, .slice none 0 0, .string ⟨#[]⟩, .slice none 0 0] 34)).heap.size = w.heap.size + 2 := by simp
 generalize (w.alloc (.cells #[.string p.l.name, .slice a1 p.l.args.length c1, .string p.r.name, .slice a2 p.r.args.length c2] 34)).alloc (.cells #[.string ⟨#[]⟩, .slice none 0 0, .string ⟨#[]⟩, .slice none 0 0] 34) = W at *
 obtain ⟨R, hR⟩ : ∃ R, R = w.heap.size + 1 := ⟨_, rfl⟩
 obtain ⟨Q, hQ⟩ : ∃ Q, Q = w.heap.size := ⟨_, rfl⟩
 rw [← hR] at hR2 ⊢
 rw [← hQ] at hP2 ⊢
 have HBd : Hid (Below w.heap.size w W.drew) := hB2.trans ((Below.refl _ W).drew)
 have HPd : Hid (Blk W.drew Q #[.string p.l.name, .slice a1 p.l.args.length c1, .string p.r.name, .slice a2 p.r.args.length c2] 34) := hP2.drewN 1
 have HRd : Hid (Blk W.drew R #[.string ⟨#[]⟩, .slice none 0 0, .string ⟨#[]⟩, .slice none 0 0] 34) := hR2.drewN 1
 have HZd : Hid (W.drew.heap.size = w.heap.size + 2) := hz2
 have HRQ : Hid (R = w.heap.size + 1 ∧ Q = w.heap.size) := ⟨hR, hQ⟩
 refine wp_region_held_drew (S := fun w' => Blk w' Q #[.string p.l.name, .slice a1 p.l.args.length c1, .string p.r.name, .slice a2 p.r.args.length c2] 34) (by kernel_rfl) HPd.out (fun hHeld => ?_)
 generalize W.drew = wd at *
 clear hB2 hP2 hR2 hz2 hR hQ
 have hNd := HN.out.later HBd.out
 have hTd := HT.out.on (HBd.out.mono hBw)
 refine tkq (v := ?_) 0 rfl ?_ ?_
 rotate_left
 ·intro w' hSw
  go_simp <;> with_reducible rfl
 try simp only [Act.put, sq]
 refine tkq (v := ?_) 1 rfl ?_ ?_
 rotate_left
 ·intro w' hSw
  have c0 := hSw.cell 0
  have c1 := hSw.cell 1
  have c2 := hSw.cell 2
  have c3 := hSw.cell 3
  go_simp <;> with_reducible rfl
 try simp only [Act.put, sq]
 refine tkq (v := ?_) 2 rfl ?_ ?_
 rotate_left
 ·intro w' hSw
  go_simp <;> with_reducible rfl
 try simp only [Act.put, sq]
 refine tkq (v := ?_) 4 rfl ?_ ?_
 rotate_left
 ·intro w' hSw
  go_simp <;> with_reducible rfl
 try simp only [Act.put, sq]
 refine tkq (v := ?_) 5 rfl ?_ ?_
 rotate_left
 ·intro w' hSw
  have c0 := hSw.cell 0
  have c1 := hSw.cell 1
  have c2 := hSw.cell 2
  have c3 := hSw.cell 3
  go_simp <;> with_reducible rfl
 try simp only [Act.put, sq]
 refine tkq (v := ?_) 6 rfl ?_ ?_
 rotate_left
 ·intro w' hSw
  go_simp <;> with_reducible rfl
 try simp only [Act.put, sq]
 refine rdq 3 rfl fun K hK => ?_
 go_simp
 go_at_call 70
 refine (rename1_any BT B r hBr p.l _ ns _ X ⟨a1, c1, rfl, HS1.out.later HBd.out⟩ HX.out hNd hTd (by omega)).mono ?_
 rintro e w5 ⟨b1, d1, rfl, hs5, hn5, hx5⟩
 have HS5 := hide hs5
 have HN5 := hide hn5
 have HX5 := hide hx5
 have hP5 := HPd.out.exq hx5 (by have := HRQ.out; omega)
 have HR5 := hide (HRd.out.exq hx5 (by have := HRQ.out; omega))
 have HP5 := hide hP5
 clear hs5 hn5 hx5 hP5
 go_simp
 refine hK.out _ _ (by exact HP5.out) (fun hHeld => ?_)
 clear hK K
 try simp only [Act.put, sq]
 refine rdq 7 rfl fun K hK => ?_
 go_simp
 go_at_call 70
 refine (rename1_any BT B r hBr p.r _ _ _ X ⟨a2, c2, rfl, (HS2.out.later HBd.out).exq HX5.out (fun b hb => HX.out b hb)⟩ HX.out HN5.out (hTd.on (HX5.out.below (by have := HZd.out; omega) (fun b hb => by omega))) (by have h9 := rkT_names id p.l ns; have := HSZ.out; omega)).mono ?_
 rintro e w6 ⟨b2, d2, rfl, hs6, hn6, hx6⟩
 have HN6 := hide hn6
 have hP6 := HP5.out.exq hx6 (by have := HRQ.out; omega)
 have HR6 := hide (HR5.out.exq hx6 (by have := HRQ.out; omega))
 have HP6 := hide hP6
 have hz5 := HX5.out.size
 have HA6 : Hid (Sl w6 (fun b => w.heap.size + 2 ≤ b) b1 (rkT (id) ns p.l).1.args) := (HS5.out.exq hx6 (fun b hb e => by have := HZd.out; omega)).mono fun b hb _ => by have := HZd.out; omega
 have HB6 : Hid (Sl w6 (fun b => w.heap.size + 2 ≤ b) b2 (rkT (id) (rkT (id) ns p.l).2 p.r).1.args) := hs6.mono fun b hb _ => by have := HZd.out; omega
 have HX6 : Hid (ExQ (fun b => b = r) w w6) := ((ExQ.ofBelow HBd.out).trans HX5.out).trans hx6
 clear hs6 hn6 hx6 hP6 hz5
 go_simp
 refine hK.out _ _ (by exact HP6.out) (fun hHeld => ?_)
 clear hK K
 try simp only [Act.put, sq]
 have q0 := HR6.out.cell 0
 have q1 := HR6.out.cell 1
 have q2 := HR6.out.cell 2
 have q3 := HR6.out.cell 3
 have qf := HR6.out.frozen
 have ql : R < w6.heap.size := HR6.out.lt
 have HK := hide (And.intro HRQ.out.1 HRQ.out.2)
 obtain ⟨y1, hy1⟩ : ∃ y1, y1 = (rkT (id) ns p.l).1 := ⟨_, rfl⟩
 obtain ⟨y2, hy2⟩ : ∃ y2, y2 = (rkT (id) (rkT (id) ns p.l).2 p.r).1 := ⟨_, rfl⟩
 rw [← hy1] at HA6 ⊢
 rw [← hy2] at HB6 ⊢
 have HY : Hid (rnP (id) ns p = (⟨y1, y2⟩, (rkT (id) (rkT (id) ns p.l).2 p.r).2)) := by unfold Hid rnP; rw [hy1, hy2]
 clear hy1 hy2
 refine tkq (v := ?_) 8 rfl ?_ ?_
 rotate_left
 ·intro w' hSw
  go_simp <;> with_reducible rfl
 try simp only [Act.put, sq]
 refine rdq 9 rfl fun K hK => ?_
 go_simp
 refine hK.out _ _ (by exact (((HP6.out.setOther _ _ (by have := HRQ.out; omega)).setOther _ _ (by have := HRQ.out; omega)).setOther _ _ (by have := HRQ.out; omega)).setOther _ _ (by have := HRQ.out; omega)) (fun hHeld => ?_)
 clear hK K
 try simp only [Act.put, sq]
 refine wpAnyH_done (by kernel_rfl) ?_ _
 go_wp2_with fail
 refine bodyPost_ret (v := .agg #[.string y1.name, .slice b1 y1.args.length d1, .string y2.name, .slice b2 y2.args.length d2]) (by simp [results, Tryz.results44, go_sem, World.cell?_setCell_same, World.cell?_setCell_other, q0, q1, q2, q3, ql]) rfl ?_
 have hk := HRQ.out
 rw [HY.out]
 refine ⟨b1, d1, b2, d2, rfl, (sl_set (sl_set (sl_set (sl_set HA6.out (by omega)) (by omega)) (by omega)) (by omega)).mono fun b hb _ => by omega, (sl_set (sl_set (sl_set (sl_set HB6.out (by omega)) (by omega)) (by omega)) (by omega)).mono fun b hb _ => by omega, nm_set (nm_set (nm_set (nm_set HN6.out (by omega) (by omega)) (by omega) (by omega)) (by omega) (by omega)) (by omega) (by omega), (((HX6.out.setNew (by omega) _ _).setNew (by omega) _ _).setNew (by omega) _ _).setNew (by omega) _ _⟩
set_option maxHeartbeats 4000000 in
theorem renamedO_any (BT B r Bn Bi i : Nat) (hBr : BT ≤ r) (hi9 : i ≤ 9) (hnr : Bn ≠ r) (hir : Bi ≠ r) (p : Pr) (a1 a2 : Option Addr) (c1 c2 : Nat) (ns : List ByteArray) (w : World) (X : Nat → Prop) (hs1 : Sl w X a1 p.l.args) (hs2 : Sl w X a2 p.r.args) (hX : ∀ b, X b → b ≠ r) (hN : NmAt w B r ns) (hO : OwB w B Bn Bi i) (hT : Tb BT w) (hsz : ns.length + sizeL [p.l] + sizeL [p.r] ≤ 100000) (hE1 : errL [p.l] = 0) (hE2 : errL [p.r] = 0) :
  Calls Tryz.prog 44 #[.agg #[.string p.l.name, .slice a1 p.l.args.length c1, .string p.r.name, .slice a2 p.r.args.length c2], .func (.func 42) #[] #[.pointer (some ⟨Bn, 0, none⟩), .pointer (some ⟨Bi, 0, none⟩)]] w fun e w' => RdP B r (rnP (kyI i) ns p) w e w' := by
 have HS1 := hide hs1
 have HS2 := hide hs2
 have HX := hide hX
 have HN := hide hN
 have HT := hide hT
 have hrl : r < w.heap.size := hN.map.lt
 have hBl : B < w.heap.size := hN.box.lt
 have hBw : BT ≤ w.heap.size := by omega
 have HO := hide hO
 have HSZ := hide hsz
 clear hs1 hs2 hX hN hT
 go_enter Tryz.func44, Tryz.ntmps44
 go_wp2_with fail
 have hB2 : Below w.heap.size w ((w.alloc (.cells #[.string p.l.name, .slice a1 p.l.args.length c1, .string p.r.name, .slice a2 p.r.args.length c2] 34)).alloc (.cells #[.string ⟨#[]⟩, .slice none 0 0, .string ⟨#[]⟩, .slice none 0 0] 34)) := ((Below.refl _ _).alloc (Nat.le_refl _) _).alloc (by simp) _
 have hP2 : Blk ((w.alloc (.cells #[.string p.l.name, .slice a1 p.l.args.length c1, .string p.r.name, .slice a2 p.r.args.length c2] 34)).alloc (.cells #[.string ⟨#[]⟩, .slice none 0 0, .string ⟨#[]⟩, .slice none 0 0] 34)) w.heap.size #[.string p.l.name, .slice a1 p.l.args.length c1, .string p.r.name, .slice a2 p.r.args.length c2] 34 := (Blk.new w _ _).alloc _
 have hR2 : Blk ((w.alloc (.cells #[.string p.l.name, .slice a1 p.l.args.length c1, .string p.r.name, .slice a2 p.r.args.length c2] 34)).alloc (.cells #[.string ⟨#[]⟩, .slice none 0 0, .string ⟨#[]⟩, .slice none 0 0] 34)) (w.heap.size + 1) #[.string ⟨#[]⟩, .slice none 0 0, .string ⟨#[]⟩, .slice none 0 0] 34 := by
  have h := Blk.new (w.alloc (.cells #[.string p.l.name, .slice a1 p.l.args.length c1, .string p.r.name, .slice a2 p.r.args.length c2] 34)) #[.string ⟨#[]⟩, .slice none 0 0, .string ⟨#[]⟩, .slice none 0 0] 34
  rw [World.size_alloc] at h
  exact h
 have hz2 : ((w.alloc (.cells #[.string p.l.name, .slice a1 p.l.args.length c1, .string p.r.name, .slice a2 p.r.args.length c2] 34)).alloc (.cells #[.string ⟨#[]⟩, .slice none 0 0, .string ⟨#[]⟩, .slice none 0 0] 34)).heap.size = w.heap.size + 2 := by simp
 generalize (w.alloc (.cells #[.string p.l.name, .slice a1 p.l.args.length c1, .string p.r.name, .slice a2 p.r.args.length c2] 34)).alloc (.cells #[.string ⟨#[]⟩, .slice none 0 0, .string ⟨#[]⟩, .slice none 0 0] 34) = W at *
 obtain ⟨R, hR⟩ : ∃ R, R = w.heap.size + 1 := ⟨_, rfl⟩
 obtain ⟨Q, hQ⟩ : ∃ Q, Q = w.heap.size := ⟨_, rfl⟩
 rw [← hR] at hR2 ⊢
 rw [← hQ] at hP2 ⊢
 have HBd : Hid (Below w.heap.size w W.drew) := hB2.trans ((Below.refl _ W).drew)
 have HPd : Hid (Blk W.drew Q #[.string p.l.name, .slice a1 p.l.args.length c1, .string p.r.name, .slice a2 p.r.args.length c2] 34) := hP2.drewN 1
 have HRd : Hid (Blk W.drew R #[.string ⟨#[]⟩, .slice none 0 0, .string ⟨#[]⟩, .slice none 0 0] 34) := hR2.drewN 1
 have HZd : Hid (W.drew.heap.size = w.heap.size + 2) := hz2
 have HRQ : Hid (R = w.heap.size + 1 ∧ Q = w.heap.size) := ⟨hR, hQ⟩
 refine wp_region_held_drew (S := fun w' => Blk w' Q #[.string p.l.name, .slice a1 p.l.args.length c1, .string p.r.name, .slice a2 p.r.args.length c2] 34) (by kernel_rfl) HPd.out (fun hHeld => ?_)
 generalize W.drew = wd at *
 clear hB2 hP2 hR2 hz2 hR hQ
 have hNd := HN.out.later HBd.out
 have hTd := HT.out.on (HBd.out.mono hBw)
 refine tkq (v := ?_) 0 rfl ?_ ?_
 rotate_left
 ·intro w' hSw
  go_simp <;> with_reducible rfl
 try simp only [Act.put, sq]
 refine tkq (v := ?_) 1 rfl ?_ ?_
 rotate_left
 ·intro w' hSw
  have c0 := hSw.cell 0
  have c1 := hSw.cell 1
  have c2 := hSw.cell 2
  have c3 := hSw.cell 3
  go_simp <;> with_reducible rfl
 try simp only [Act.put, sq]
 refine tkq (v := ?_) 2 rfl ?_ ?_
 rotate_left
 ·intro w' hSw
  go_simp <;> with_reducible rfl
 try simp only [Act.put, sq]
 refine tkq (v := ?_) 4 rfl ?_ ?_
 rotate_left
 ·intro w' hSw
  go_simp <;> with_reducible rfl
 try simp only [Act.put, sq]
 refine tkq (v := ?_) 5 rfl ?_ ?_
 rotate_left
 ·intro w' hSw
  have c0 := hSw.cell 0
  have c1 := hSw.cell 1
  have c2 := hSw.cell 2
  have c3 := hSw.cell 3
  go_simp <;> with_reducible rfl
 try simp only [Act.put, sq]
 refine tkq (v := ?_) 6 rfl ?_ ?_
 rotate_left
 ·intro w' hSw
  go_simp <;> with_reducible rfl
 try simp only [Act.put, sq]
 refine rdq 3 rfl fun K hK => ?_
 go_simp
 go_at_call 70
 refine (renameO_any BT B r Bn Bi i hBr hi9 hnr hir p.l _ ns _ X ⟨a1, c1, rfl, HS1.out.later HBd.out⟩ HX.out hNd (HO.out.later HBd.out) hTd (by omega) hE1).mono ?_
 rintro e w5 ⟨b1, d1, rfl, hs5, hn5, hx5⟩
 have HS5 := hide hs5
 have HN5 := hide hn5
 have HX5 := hide hx5
 have hP5 := HPd.out.exq hx5 (by have := HRQ.out; omega)
 have HR5 := hide (HRd.out.exq hx5 (by have := HRQ.out; omega))
 have HP5 := hide hP5
 clear hs5 hn5 hx5 hP5
 go_simp
 refine hK.out _ _ (by exact HP5.out) (fun hHeld => ?_)
 clear hK K
 try simp only [Act.put, sq]
 refine rdq 7 rfl fun K hK => ?_
 go_simp
 go_at_call 70
 refine (renameO_any BT B r Bn Bi i hBr hi9 hnr hir p.r _ _ _ X ⟨a2, c2, rfl, (HS2.out.later HBd.out).exq HX5.out (fun b hb => HX.out b hb)⟩ HX.out HN5.out ((HO.out.later HBd.out).exq HX5.out hnr hir) (hTd.on (HX5.out.below (by have := HZd.out; omega) (fun b hb => by omega))) (by have h9 := rkT_names (kyI i) p.l ns; have := HSZ.out; omega) hE2).mono ?_
 rintro e w6 ⟨b2, d2, rfl, hs6, hn6, hx6⟩
 have HN6 := hide hn6
 have hP6 := HP5.out.exq hx6 (by have := HRQ.out; omega)
 have HR6 := hide (HR5.out.exq hx6 (by have := HRQ.out; omega))
 have HP6 := hide hP6
 have hz5 := HX5.out.size
 have HA6 : Hid (Sl w6 (fun b => w.heap.size + 2 ≤ b) b1 (rkT (kyI i) ns p.l).1.args) := (HS5.out.exq hx6 (fun b hb e => by have := HZd.out; omega)).mono fun b hb _ => by have := HZd.out; omega
 have HB6 : Hid (Sl w6 (fun b => w.heap.size + 2 ≤ b) b2 (rkT (kyI i) (rkT (kyI i) ns p.l).2 p.r).1.args) := hs6.mono fun b hb _ => by have := HZd.out; omega
 have HX6 : Hid (ExQ (fun b => b = r) w w6) := ((ExQ.ofBelow HBd.out).trans HX5.out).trans hx6
 clear hs6 hn6 hx6 hP6 hz5
 go_simp
 refine hK.out _ _ (by exact HP6.out) (fun hHeld => ?_)
 clear hK K
 try simp only [Act.put, sq]
 have q0 := HR6.out.cell 0
 have q1 := HR6.out.cell 1
 have q2 := HR6.out.cell 2
 have q3 := HR6.out.cell 3
 have qf := HR6.out.frozen
 have ql : R < w6.heap.size := HR6.out.lt
 have HK := hide (And.intro HRQ.out.1 HRQ.out.2)
 obtain ⟨y1, hy1⟩ : ∃ y1, y1 = (rkT (kyI i) ns p.l).1 := ⟨_, rfl⟩
 obtain ⟨y2, hy2⟩ : ∃ y2, y2 = (rkT (kyI i) (rkT (kyI i) ns p.l).2 p.r).1 := ⟨_, rfl⟩
 rw [← hy1] at HA6 ⊢
 rw [← hy2] at HB6 ⊢
 have HY : Hid (rnP (kyI i) ns p = (⟨y1, y2⟩, (rkT (kyI i) (rkT (kyI i) ns p.l).2 p.r).2)) := by unfold Hid rnP; rw [hy1, hy2]
 clear hy1 hy2
 refine tkq (v := ?_) 8 rfl ?_ ?_
 rotate_left
 ·intro w' hSw
  go_simp <;> with_reducible rfl
 try simp only [Act.put, sq]
 refine rdq 9 rfl fun K hK => ?_
 go_simp
 refine hK.out _ _ (by exact (((HP6.out.setOther _ _ (by have := HRQ.out; omega)).setOther _ _ (by have := HRQ.out; omega)).setOther _ _ (by have := HRQ.out; omega)).setOther _ _ (by have := HRQ.out; omega)) (fun hHeld => ?_)
 clear hK K
 try simp only [Act.put, sq]
 refine wpAnyH_done (by kernel_rfl) ?_ _
 go_wp2_with fail
 refine bodyPost_ret (v := .agg #[.string y1.name, .slice b1 y1.args.length d1, .string y2.name, .slice b2 y2.args.length d2]) (by simp [results, Tryz.results44, go_sem, World.cell?_setCell_same, World.cell?_setCell_other, q0, q1, q2, q3, ql]) rfl ?_
 have hk := HRQ.out
 rw [HY.out]
 refine ⟨b1, d1, b2, d2, rfl, (sl_set (sl_set (sl_set (sl_set HA6.out (by omega)) (by omega)) (by omega)) (by omega)).mono fun b hb _ => by omega, (sl_set (sl_set (sl_set (sl_set HB6.out (by omega)) (by omega)) (by omega)) (by omega)).mono fun b hb _ => by omega, nm_set (nm_set (nm_set (nm_set HN6.out (by omega) (by omega)) (by omega) (by omega)) (by omega) (by omega)) (by omega) (by omega), (((HX6.out.setNew (by omega) _ _).setNew (by omega) _ _).setNew (by omega) _ _).setNew (by omega) _ _⟩
theorem isLike_any (x l : Tm) (a1 a2 : Option Addr) (c1 c2 : Nat) (w : World) :
  Calls Tryz.prog 21 #[.agg #[.string x.name, .slice a1 x.args.length c1], .agg #[.string l.name, .slice a2 l.args.length c2]] w fun e w' => e = .returned (.bool (likeB x l)) ∧ Below w.heap.size w w' := by
 have hb : Below w.heap.size w ((w.alloc (.cells #[.string x.name, .slice a1 x.args.length c1] 32)).alloc (.cells #[.string l.name, .slice a2 l.args.length c2] 32)) := ((Below.refl _ _).alloc (Nat.le_refl _) _).alloc (by simp) _
 cases hq : (x.name.toList == l.name.toList) with
 | false =>
  have HL : Hid (false = likeB x l) := by unfold Hid likeB; rw [hq]; rfl
  go_enter Tryz.func21, Tryz.ntmps21
  go_wp2_with fail
  go_ret
  exact ⟨ret_bool HL.out, hb⟩
 | true =>
  by_cases hn : x.args.length = l.args.length
  ·have HL : Hid (true = likeB x l) := by unfold Hid likeB; rw [hq]; simp [hn]
   have hn2 : ((x.args.length : Int) == (l.args.length : Int)) = true := by simp; omega
   generalize x.args.length = n1 at *
   generalize l.args.length = n2 at *
   clear hn
   go_enter Tryz.func21, Tryz.ntmps21
   go_wp2_with fail
   go_ret
   exact ⟨ret_bool HL.out, hb⟩
  ·have HL : Hid (false = likeB x l) := by unfold Hid likeB; rw [hq]; simp [hn]
   have hn2 : ((x.args.length : Int) == (l.args.length : Int)) = false := by simp; omega
   generalize x.args.length = n1 at *
   generalize l.args.length = n2 at *
   clear hn
   go_enter Tryz.func21, Tryz.ntmps21
   go_wp2_with fail
   go_ret
   exact ⟨ret_bool HL.out, hb⟩
def NmP (y : Pr) (w : World) (e : Ending) (w' : World) : Prop :=
 ∃ a1 c1 a2 c2, e = .returned (.agg #[.string y.l.name, .slice a1 y.l.args.length c1, .string y.r.name, .slice a2 y.r.args.length c2]) ∧ Sl w' (fun b => w.heap.size ≤ b) a1 y.l.args ∧ Sl w' (fun b => w.heap.size ≤ b) a2 y.r.args ∧ Below w.heap.size w w'
set_option maxHeartbeats 4000000 in
theorem named_any (BT : Nat) (p : Pr) (a1 a2 : Option Addr) (c1 c2 : Nat) (w : World) (X : Nat → Prop) (hs1 : Sl w X a1 p.l.args) (hs2 : Sl w X a2 p.r.args) (hT : Tb BT w) (hBw : BT ≤ w.heap.size) (hsz : sizeL [p.l] + sizeL [p.r] ≤ 100000) :
  Calls Tryz.prog 51 #[.agg #[.string p.l.name, .slice a1 p.l.args.length c1, .string p.r.name, .slice a2 p.r.args.length c2]] w fun e w' => NmP (nmP p) w e w' := by
 have HS1 := hide hs1
 have HS2 := hide hs2
 have HT := hide hT
 clear hs1 hs2 hT
 go_enter Tryz.func51, Tryz.ntmps51
 go_wp2_with fail
 have hB2 : Below w.heap.size w ((w.alloc (.cells #[.string p.l.name, .slice a1 p.l.args.length c1, .string p.r.name, .slice a2 p.r.args.length c2] 34)).alloc (.cells #[.string ⟨#[]⟩, .slice none 0 0, .string ⟨#[]⟩, .slice none 0 0] 34)) := ((Below.refl _ _).alloc (Nat.le_refl _) _).alloc (by simp) _
 have hP2 : Blk ((w.alloc (.cells #[.string p.l.name, .slice a1 p.l.args.length c1, .string p.r.name, .slice a2 p.r.args.length c2] 34)).alloc (.cells #[.string ⟨#[]⟩, .slice none 0 0, .string ⟨#[]⟩, .slice none 0 0] 34)) w.heap.size #[.string p.l.name, .slice a1 p.l.args.length c1, .string p.r.name, .slice a2 p.r.args.length c2] 34 := (Blk.new w _ _).alloc _
 have hR2 : Blk ((w.alloc (.cells #[.string p.l.name, .slice a1 p.l.args.length c1, .string p.r.name, .slice a2 p.r.args.length c2] 34)).alloc (.cells #[.string ⟨#[]⟩, .slice none 0 0, .string ⟨#[]⟩, .slice none 0 0] 34)) (w.heap.size + 1) #[.string ⟨#[]⟩, .slice none 0 0, .string ⟨#[]⟩, .slice none 0 0] 34 := by
  have h := Blk.new (w.alloc (.cells #[.string p.l.name, .slice a1 p.l.args.length c1, .string p.r.name, .slice a2 p.r.args.length c2] 34)) #[.string ⟨#[]⟩, .slice none 0 0, .string ⟨#[]⟩, .slice none 0 0] 34
  rw [World.size_alloc] at h
  exact h
 have hz2 : ((w.alloc (.cells #[.string p.l.name, .slice a1 p.l.args.length c1, .string p.r.name, .slice a2 p.r.args.length c2] 34)).alloc (.cells #[.string ⟨#[]⟩, .slice none 0 0, .string ⟨#[]⟩, .slice none 0 0] 34)).heap.size = w.heap.size + 2 := by simp
 generalize (w.alloc (.cells #[.string p.l.name, .slice a1 p.l.args.length c1, .string p.r.name, .slice a2 p.r.args.length c2] 34)).alloc (.cells #[.string ⟨#[]⟩, .slice none 0 0, .string ⟨#[]⟩, .slice none 0 0] 34) = W at *
 obtain ⟨R, hR⟩ : ∃ R, R = w.heap.size + 1 := ⟨_, rfl⟩
 obtain ⟨Q, hQ⟩ : ∃ Q, Q = w.heap.size := ⟨_, rfl⟩
 rw [← hR] at hR2 ⊢
 rw [← hQ] at hP2 ⊢
 have HBd : Hid (Below w.heap.size w W.drew) := hB2.trans ((Below.refl _ W).drew)
 have HPd : Hid (Blk W.drew Q #[.string p.l.name, .slice a1 p.l.args.length c1, .string p.r.name, .slice a2 p.r.args.length c2] 34) := hP2.drewN 1
 have HRd : Hid (Blk W.drew R #[.string ⟨#[]⟩, .slice none 0 0, .string ⟨#[]⟩, .slice none 0 0] 34) := hR2.drewN 1
 have HZd : Hid (W.drew.heap.size = w.heap.size + 2) := hz2
 have HRQ : Hid (R = w.heap.size + 1 ∧ Q = w.heap.size) := ⟨hR, hQ⟩
 refine wp_region_held_drew (S := fun w' => Blk w' Q #[.string p.l.name, .slice a1 p.l.args.length c1, .string p.r.name, .slice a2 p.r.args.length c2] 34) (by kernel_rfl) HPd.out (fun hHeld => ?_)
 generalize W.drew = wd at *
 clear hB2 hP2 hR2 hz2 hR hQ
 refine tkq (v := ?_) 0 rfl ?_ ?_
 rotate_left
 ·intro w' hSw
  have c0 := hSw.cell 0
  have c1 := hSw.cell 1
  have c2 := hSw.cell 2
  have c3 := hSw.cell 3
  go_simp <;> with_reducible rfl
 try simp only [Act.put, sq]
 refine rdq 1 rfl fun K hK => ?_
 go_simp
 go_at_call 41
 refine (newNamer_any _).mono ?_
 rintro e w5 ⟨B, r, rfl, hn5, hr5, hB5, hb5⟩
 have HN5 := hide hn5
 have HB5 := hide (HBd.out.trans (hb5.mono HBd.out.size))
 have HP5 := hide (HPd.out.below hb5 HPd.out.lt)
 have HR5 := hide (HRd.out.below hb5 HRd.out.lt)
 have HT5 := hide (HT.out.on (HB5.out.mono hBw))
 have HZ5 : Hid (w.heap.size + 2 ≤ r ∧ w.heap.size + 2 ≤ B ∧ w.heap.size + 2 ≤ w5.heap.size) := by have h1 := HZd.out; have h2 := hb5.size; unfold Hid; omega
 clear hn5 hr5 hB5 hb5
 go_simp
 refine hK.out _ _ (by exact HP5.out) (fun hHeld => ?_)
 clear hK K
 try simp only [Act.put, sq]
 refine rdq 2 rfl fun K hK => ?_
 go_simp
 go_at_call 44
 refine (renamedN_any BT B r (by have := HZ5.out; omega) p a1 a2 c1 c2 [] _ (fun b => X b ∧ b < w.heap.size) ((HS1.out.mono fun b h1 h2 => ⟨h1, h2⟩).later HB5.out) ((HS2.out.mono fun b h1 h2 => ⟨h1, h2⟩).later HB5.out) (fun b hb => by have := HZ5.out; omega) HN5.out HT5.out (by simp only [List.length_nil]; omega)).mono ?_
 rintro e w6 ⟨b1, d1, b2, d2, rfl, hs6, ht6, hn6, hx6⟩
 have HX6 := hide hx6
 have HP6 := hide (HP5.out.exq hx6 (by have := HRQ.out; have := HZ5.out; omega))
 have HR6 := hide (HR5.out.exq hx6 (by have := HRQ.out; have := HZ5.out; omega))
 have HA6 : Hid (Sl w6 (fun b => w.heap.size + 2 ≤ b) b1 (nmP p).l.args) := hs6.mono fun b hb _ => by have := HZ5.out; omega
 have HC6 : Hid (Sl w6 (fun b => w.heap.size + 2 ≤ b) b2 (nmP p).r.args) := ht6.mono fun b hb _ => by have := HZ5.out; omega
 have HB6 : Hid (Below w.heap.size w w6) := HB5.out.trans (hx6.below HB5.out.size (fun b hb => by have := HZ5.out; omega))
 clear hs6 ht6 hn6 hx6
 rw [show (rnP id [] p).1 = nmP p from rfl]
 obtain ⟨y, hy⟩ : ∃ y, y = nmP p := ⟨_, rfl⟩
 rw [← hy] at HA6 HC6 ⊢
 have HY := hide hy
 clear hy
 go_simp
 refine hK.out _ _ (by exact HP6.out) (fun hHeld => ?_)
 clear hK K
 try simp only [Act.put, sq]
 have q0 := HR6.out.cell 0
 have q1 := HR6.out.cell 1
 have q2 := HR6.out.cell 2
 have q3 := HR6.out.cell 3
 have qf := HR6.out.frozen
 have ql : R < w6.heap.size := HR6.out.lt
 refine rdq 3 rfl fun K hK => ?_
 go_simp
 refine hK.out _ _ (by exact (((HP6.out.setOther _ _ (by have := HRQ.out; omega)).setOther _ _ (by have := HRQ.out; omega)).setOther _ _ (by have := HRQ.out; omega)).setOther _ _ (by have := HRQ.out; omega)) (fun hHeld => ?_)
 clear hK K
 try simp only [Act.put, sq]
 refine wpAnyH_done (by kernel_rfl) ?_ _
 go_wp2_with fail
 refine bodyPost_ret (v := .agg #[.string y.l.name, .slice b1 y.l.args.length d1, .string y.r.name, .slice b2 y.r.args.length d2]) (by simp [results, Tryz.results51, go_sem, World.cell?_setCell_same, World.cell?_setCell_other, q0, q1, q2, q3, ql]) rfl ?_
 have hk := HRQ.out
 show NmP (nmP p) _ _ _
 rw [← HY.out]
 refine ⟨b1, d1, b2, d2, rfl, ?_, ?_, (((HB6.out.setCell (p := ⟨R, 0, none⟩) (by simp; omega) _).setCell (p := ⟨R, 1, none⟩) (by simp; omega) _).setCell (p := ⟨R, 2, none⟩) (by simp; omega) _).setCell (p := ⟨R, 3, none⟩) (by simp; omega) _⟩
 ·refine Sl.mono (X := fun b => w.heap.size + 2 ≤ b) ?_ (fun b hb _ => by omega)
  exact sl_set (sl_set (sl_set (sl_set HA6.out (by omega)) (by omega)) (by omega)) (by omega)
 ·refine Sl.mono (X := fun b => w.heap.size + 2 ≤ b) ?_ (fun b hb _ => by omega)
  exact sl_set (sl_set (sl_set (sl_set HC6.out (by omega)) (by omega)) (by omega)) (by omega)
end Go.Proofs.YtbnmlkaejdpigaaGreatDoor
