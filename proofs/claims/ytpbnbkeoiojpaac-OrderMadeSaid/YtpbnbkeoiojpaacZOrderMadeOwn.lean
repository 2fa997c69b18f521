/- Several texts in one. -/
import Derived.Test.YtpbnbkeoiojpaacW9
import Derived.Test.YtpbnbkeoiojpaacPutM
import Derived.Test.YtpbnbkeoiojpaacSlq
import Derived.Test.YtpbnbkeoiojpaacClt
import Derived.Deep.RegionHeld3
import Derived.Deep.DeepCutAuto
import Derived.Test.YtpbnbkeoiojpaacW10
import Derived.Test.YtpbnbkeoiojpaacTxt
import Derived.Test.YtpbnbkeoiojpaacW20
import Derived.Test.YtpbnbkeoiojpaacW17
import Derived.Test.YtpbnbkeoiojpaacShelf
import Derived.Test.YtpbnbkeoiojpaacW131
import Derived.Test.YtpbnbkeoiojpaacW135
import Derived.Deep.RegionHeld
import Derived.Test.YtpbnbkeoiojpaacW138
import Derived.Test.YtpbnbkeoiojpaacW6
import Derived.Test.YtpbnbkeoiojpaacW5
import Derived.Test.YtpbnbkeoiojpaacOr3
import Derived.Test.YtpbnbkeoiojpaacW90
/- Walks: a term with another one at a place that it has. -/
namespace Go.Proofs.Ytpbnbkeoiojpaac
open Go.RowKit
set_option linter.unusedSimpArgs false
set_option linter.unusedVariables false
set_option maxRecDepth 8000

theorem RowT.put {w : World} {X : Nat → Prop} {y : Tm} {a : Option Addr} {c : Nat} (hy : Sl w X a y.args) : ∀ {l : List Tm} {xs : List Value} (k : Nat), RowT w X l xs → k < l.length → RowT w X (l.set k y) ((xs.set (k * 2) (.string y.name)).set (k * 2 + 1) (.slice a y.args.length c))
  | [], xs, k, h, hk => by simp at hk
  | t :: l, xs, 0, h, _ => by
    obtain ⟨a', c', r, rfl, h1, h2⟩ := h
    exact ⟨a, c, r, by simp, hy, h2⟩
  | t :: l, xs, k + 1, h, hk => by
    obtain ⟨a', c', r, rfl, h1, h2⟩ := h
    refine ⟨a', c', (r.set (k * 2) (.string y.name)).set (k * 2 + 1) (.slice a y.args.length c), ?_, h1, RowT.put hy k h2 (by simpa using hk)⟩
    have e : (k + 1) * 2 = k * 2 + 1 + 1 := by omega
    rw [e]
    simp
theorem putL_set (f : Tm → Tm) : ∀ (l : List Tm) (j k : Nat) (h : k < l.length), putL f ((j + k : Nat) : Int) j l = l.set k (f l[k])
  | [], j, k, h => by simp at h
  | a :: r, j, 0, h => by
    simp only [Nat.add_zero, putL, if_true, List.set_cons_zero, List.getElem_cons_zero]
    have : ∀ (r : List Tm) (m : Nat), j < m → putL f (j : Int) m r = r := fun r => by
      induction r with
      | nil => intro m _; rfl
      | cons b r ih => intro m hm; rw [putL, if_neg (by omega), ih (m + 1) (by omega)]
    rw [this r (j + 1) (by omega)]
  | a :: r, j, k + 1, h => by
    rw [putL, if_neg (by omega)]
    have := putL_set f r (j + 1) k (by simpa using h)
    rw [show j + (k + 1) = j + 1 + k by omega, this]
    simp

theorem owns_mono {w : World} {N M e z n : Nat} {v : Value} {xs : List Value} (h : w.ownsRow N e z v n xs) (hM : M ≤ N) : w.ownsRow M e z v n xs :=
  ⟨h.1, h.2.imp id fun ⟨g, cap, cur, h1, h2, h3⟩ => ⟨g, cap, cur, h1, Nat.le_trans hM h2, h3⟩⟩
theorem ownsRow_put2 {w : World} {N e z n G cap O i j : Nat} {u u' : Value} {xs : List Value} (h : w.ownsRow N e z (.slice (some ⟨G, 0, none⟩) n cap) n xs) (hO : O ≠ G) : ((w.setCell ⟨O, i, none⟩ u).setCell ⟨O, j, none⟩ u').ownsRow N e z (.slice (some ⟨G, 0, none⟩) n cap) n xs := by
  obtain ⟨hl, h1⟩ := h
  refine ⟨hl, ?_⟩
  rcases h1 with h1 | ⟨g, cap', cur, hv, hg, hh, hr⟩
  · exact Or.inl h1
  · refine Or.inr ⟨g, cap', cur, hv, hg, ?_, hr⟩
    have e : g = G := by simp at hv; exact hv.1.symm
    rw [Below.heap_setCell _ _ _ _ (by simp; omega), Below.heap_setCell _ _ _ _ (by simp; omega)]
    exact hh
/-- What has been laid. -/
def KpM (W : World) (N : Nat) (s : ByteArray) (n : Nat) (xs : List Value) (o7 : Value) (wc : World) : Prop :=
  ∃ G O cap : Nat, o7 = .pointer (some ⟨O, 0, none⟩) ∧ N ≤ G ∧ N ≤ O ∧ G ≠ O ∧ Blk wc O #[.string s, .slice (some ⟨G, 0, none⟩) n cap] 25 ∧ wc.ownsRow N 25 2 (.slice (some ⟨G, 0, none⟩) n cap) n xs ∧ Below N W wc
theorem kpM_last {W w1 : World} {N n G cap : Nat} {s : ByteArray} {xs : List Value} (hN : W.heap.size = N) (hown : w1.ownsRow N 25 2 (.slice (some ⟨G, 0, none⟩) n cap) n xs) (hb : Below N W w1) :
    KpM W N s n xs (.pointer (some ⟨w1.heap.size, 0, none⟩)) (w1.alloc (.cells #[.string s, .slice (some ⟨G, 0, none⟩) n cap] 25)) := by
  have hl := hown.lt G rfl
  have hs := hb.size
  exact ⟨G, w1.heap.size, cap, rfl, hl.1, by omega, by omega, Blk.new _ _ _, hown.alloc _, hb.alloc (by omega) _⟩
theorem kpM_first {W w1 : World} {N n G cap O : Nat} {s : ByteArray} {xs : List Value} (hO : N ≤ O) (hB : Blk w1 O #[.string ⟨#[]⟩, .slice none 0 0] 25) (hGO : O < G) (hown : w1.ownsRow N 25 2 (.slice (some ⟨G, 0, none⟩) n cap) n xs) (hb : Below N W w1) :
    KpM W N s n xs (.pointer (some ⟨O, 0, none⟩)) ((w1.setCell ⟨O, 0, none⟩ (.string s)).setCell ⟨O, 1, none⟩ (.slice (some ⟨G, 0, none⟩) n cap)) := by
  have hl := hown.lt G rfl
  refine ⟨G, O, cap, rfl, hl.1, hO, by omega, ?_, ownsRow_put2 hown (by omega), (hb.setCell (by simpa using hO) _).setCell (by simpa using hO) _⟩
  have := (hB.set 0 (.string s)).set 1 (.slice (some ⟨G, 0, none⟩) n cap)
  simpa using this
theorem kput_fin {w w5 : World} {X : Nat → Prop} {l : List Tm} {k G R M T n9 c9 : Nat} {xs : List Value} {cur : Array Value} {s9 : ByteArray} {a9 : Option Addr} {y : Tm} (hX : ∀ b, X b → b < w.heap.size) (hk : k < l.length) (hl : l.length ≤ 9223372036854775807) (hrt : RowT w X l xs) (hcx : cur.toList.take (l.length * 2) = xs) (hG : w.heap.size ≤ G) (hGM : G < M) (hR : w.heap.size ≤ R) (hRG : R ≠ G) (hRM : R < M) (GB : Blk w5 G cur T) (hb : Below w.heap.size w w5)
    (ht : TV w5 (fun b => (X b ∧ b < M) ∨ M ≤ b) (.agg #[.string s9, .slice a9 n9 c9]) y) : ∀ wF : World, (∀ b, b ≠ R → wF.heap[b]? = ((w5.setCell ⟨G, k * 2, none⟩ (.string s9)).setCell ⟨G, k * 2 + 1, none⟩ (.slice a9 n9 c9)).heap[b]?) → Sl wF (fun b => X b ∨ w.heap.size ≤ b) (some ⟨G, 0, none⟩) (l.set k y) := by
  intro wF hF
  obtain ⟨a', c', e, hs9⟩ := ht
  simp at e
  obtain ⟨rfl, rfl, rfl, rfl⟩ := e
  have keep : ∀ b, b ≠ G → b ≠ R → wF.heap[b]? = w5.heap[b]? := fun b h1 h2 => by
    rw [hF b h2, Below.heap_setCell _ _ _ _ (by simpa using h1), Below.heap_setCell _ _ _ _ (by simpa using h1)]
  have h1 : RowT wF (fun b => X b ∨ w.heap.size ≤ b) l xs := hrt.imp fun a kk hs => (hs.kept fun b hb2 => by
    have := hX b hb2
    rw [keep b (by omega) (by omega), hb.block b this]).mono fun b hb2 _ => Or.inl hb2
  have h2 : Sl wF (fun b => X b ∨ w.heap.size ≤ b) a9 y.args := (hs9.kept fun b hb2 => by
    rcases hb2 with hb2 | hb2
    · have := hX b hb2.1
      exact keep b (by omega) (by omega)
    · exact keep b (by omega) (by omega)).mono fun b hb2 _ => by
    rcases hb2 with hb2 | hb2
    · exact Or.inl hb2.1
    · exact Or.inr (by omega)
  have h3 := RowT.put (c := c9) h2 k h1 hk
  have hBF : Blk wF G ((cur.setIfInBounds (k * 2) (.string y.name)).setIfInBounds (k * 2 + 1) (.slice a9 y.args.length c9)) T := by
    have h4 := (GB.set (k * 2) (.string y.name)).set (k * 2 + 1) (.slice a9 y.args.length c9)
    unfold Blk at *
    rw [hF G (fun e => hRG e.symm)]
    exact h4
  refine ⟨by simpa using hl, Or.inr ⟨G, 0, rfl, lies_of_rowT G (Or.inr hG) _ _ 0 h3 (fun _ _ h => h) fun j u hj => ?_⟩⟩
  rw [Nat.zero_add]
  refine (hBF.cell j).trans ?_
  rw [← hcx, ← List.take_set, ← List.take_set, List.getElem?_take] at hj
  split at hj
  · rw [← Array.getElem?_toList]
    simpa using hj
  · cases hj
set_option maxHeartbeats 4000000 in
theorem kput_any (x : Tm) (zs : List Int) : ∀ (t : Tm) (v p u : Value) (w : World) (X : Nat → Prop), TV w X v t → PV w X p zs → TV w X u x → (atT t zs).isSome = true → sizeL [t] ≤ 1000000 →
    Calls Try.prog 108 #[v, p, u] w fun e w' => ∃ v', e = .returned v' ∧ TV w' (fun b => (X b ∧ b < w.heap.size) ∨ w.heap.size ≤ b) v' (putT x zs t) ∧ Below w.heap.size w w' := by
  induction zs with
  | nil =>
    intro t v p u w X hv hp hu hat hsm
    obtain ⟨a, c, rfl, hs⟩ := hv
    obtain ⟨ax, cx, rfl, hsx⟩ := hu
    obtain ⟨pa, pc, rfl, hzl, hz⟩ := hp
    have HU := hide hsx
    go_enter Try.func108, Try.ntmps108
    go_wp2_with fail
    refine bodyPost_ret (v := .agg #[.string x.name, .slice ax x.args.length cx]) (by simp [results, Try.results108, go_sem]) rfl ⟨_, rfl, ?_, ?_⟩
    · exact ⟨ax, cx, by simp [putT], (HU.out.mono (Y := fun b => (X b ∧ b < w.heap.size) ∨ w.heap.size ≤ b) fun b h1 h2 => Or.inl ⟨h1, h2⟩).later (below3 _ _ _)⟩
    · exact below3 _ _ _
  | cons z zs ih =>
    intro t v p u w X0 hv0 hp0 hu0 hat hsm
    have IH := hide ih
    clear ih
    obtain ⟨X, hX, hXX, hv, hp, hu⟩ : ∃ X : Nat → Prop, (∀ b, X b → b < w.heap.size) ∧ (∀ b, X b → X0 b) ∧ TV w X v t ∧ PV w X p (z :: zs) ∧ TV w X u x := ⟨fun b => X0 b ∧ b < w.heap.size, fun _ h => h.2, fun _ h => h.1, hv0.mono fun b h1 h2 => ⟨h1, h2⟩, hp0.mono fun b h1 h2 => ⟨h1, h2⟩, hu0.mono fun b h1 h2 => ⟨h1, h2⟩⟩
    clear hv0 hp0 hu0
    obtain ⟨a, c, rfl, hs⟩ := hv
    obtain ⟨ax, cx, rfl, hsx⟩ := hu
    have HU := hide (show TV w X (.agg #[.string x.name, .slice ax x.args.length cx]) x from ⟨ax, cx, rfl, hsx⟩)
    clear hsx
    obtain ⟨pa, pc, rfl, hzl, hz⟩ := hp
    obtain ⟨b, o, rfl, hxb, hcell⟩ := hz.resolve_left (fun h => by cases h)
    have h0 := hcell 0 (by simp)
    simp only [Nat.add_zero, List.getElem_cons_zero] at h0
    have hzl' : zs.length + 1 ≤ 9223372036854775807 ∧ zs.length + 1 ≤ pc := by simpa using hzl
    obtain ⟨hzl1, hzl2⟩ := hzl'
    obtain ⟨s, l⟩ := t
    have hz1 : sizeL [(⟨s, l⟩ : Tm)] = 1 + sizeL l := by simp [sizeL]
    rw [hz1] at hsm
    clear hz1
    have hlen := sizeL_len l
    rw [atT] at hat
    split at hat
    case isFalse => cases hat
    case isTrue hzk =>
    obtain ⟨k, rfl⟩ : ∃ k : Nat, z = (k : Int) := ⟨z.toNat, by omega⟩
    have hk : k < l.length := by simpa using hzk.2
    have HAT : Hid ((atT l[k] zs).isSome = true) := hide (by simpa using hat)
    obtain ⟨sa, HSA, HT⟩ : ∃ sa : Option Addr, Hid ((if pc = 1 then some (⟨b, o, none⟩ : Addr) else some ⟨b, o + 1, none⟩) = sa) ∧ Hid (PV w X (.slice sa zs.length (pc - 1)) zs) := by
      by_cases h1 : pc = 1
      · refine ⟨_, rfl, ?_⟩
        have : zs = [] := List.length_eq_zero_iff.1 (by omega)
        subst this
        exact ⟨_, _, rfl, by simp, Or.inl rfl⟩
      · refine ⟨_, rfl, ?_⟩
        rw [if_neg h1]
        exact PV.tail ⟨hzl1, hzl2⟩ hxb hcell
    simp only [List.length_cons] at *
    clear hcell hzl hz hat hzk
    go_enter Try.func108, Try.ntmps108
    go_upto_region 3 with fail
    have hB3 : Below w.heap.size w (((w.alloc (.cells #[.string s, .slice a l.length c] 25)).alloc (.cells #[.string x.name, .slice ax x.args.length cx] 25)).alloc (.cells #[.string ⟨#[]⟩, .slice none 0 0] 25)) := below3 _ _ _
    have hz3 : (((w.alloc (.cells #[.string s, .slice a l.length c] 25)).alloc (.cells #[.string x.name, .slice ax x.args.length cx] 25)).alloc (.cells #[.string ⟨#[]⟩, .slice none 0 0] 25)).heap.size = w.heap.size + 3 := by simp
    obtain ⟨ba, oa, rfl, hlies⟩ := hs.2.resolve_left (fun e => by rw [e] at hk; simp at hk)
    obtain ⟨xs, hrt, hxc⟩ := rowT_of_lies l ba oa hlies
    have HRT := hide hrt
    have hbal : ba < w.heap.size := hX _ (lies_get _ _ _ hlies 0 (by omega)).1
    have CL : Hid (∀ w', Below w.heap.size w w' → Calls Try.prog 126 #[.slice (some ⟨ba, oa, none⟩) l.length c] w' fun e w'' => ∃ G cap, e = .returned (.slice (some ⟨G, 0, none⟩) l.length cap) ∧ w''.ownsRow w'.heap.size 25 2 (.slice (some ⟨G, 0, none⟩) l.length cap) l.length xs ∧ Below w'.heap.size w' w'') := fun w' hb => by
      refine (cloneT_any ba oa l.length c xs w' hrt.len (by omega) (fun j u hj => (hb.cell (p := ⟨ba, oa + j, none⟩) hbal).trans (hxc j u hj)) hrt.one).mono ?_
      rintro e w'' ⟨v', rfl, ho, hne, hb2⟩
      rcases ho.2 with ⟨h1, _⟩ | ⟨g, cap, cur, hv, _⟩
      · exact absurd h1 hne
      · subst hv
        exact ⟨g, cap, rfl, ho, hb2⟩
    go_cut [7] (fun o7 wc => KpM (((w.alloc (.cells #[.string s, .slice (some ⟨ba, oa, none⟩) l.length c] 25)).alloc (.cells #[.string x.name, .slice ax x.args.length cx] 25)).alloc (.cells #[.string ⟨#[]⟩, .slice none 0 0] 25)) (w.heap.size + 3) s l.length xs o7 wc)
    case first =>
      have T3 : Blk (((w.alloc (.cells #[.string s, .slice (some ⟨ba, oa, none⟩) l.length c] 25)).alloc (.cells #[.string x.name, .slice ax x.args.length cx] 25)).alloc (.cells #[.string ⟨#[]⟩, .slice none 0 0] 25)) w.heap.size #[.string s, .slice (some ⟨ba, oa, none⟩) l.length c] 25 := ((Blk.new w _ _).alloc _).alloc _
      have HB3 := hide hB3
      generalize (((w.alloc (.cells #[.string s, .slice (some ⟨ba, oa, none⟩) l.length c] 25)).alloc (.cells #[.string x.name, .slice ax x.args.length cx] 25)).alloc (.cells #[.string ⟨#[]⟩, .slice none 0 0] 25)) = W at *
      have t0 : W.cell? ⟨w.heap.size, 0, none⟩ = some (.string s) := T3.cell 0
      have t1 : W.cell? ⟨w.heap.size, 1, none⟩ = some (.slice (some ⟨ba, oa, none⟩) l.length c) := T3.cell 1
      have HS0 := hide (And.intro t0 t1)
      have KP : Hid (∀ w', Below (w.heap.size + 3) W w' → w'.cell? ⟨w.heap.size, 0, none⟩ = some (.string s) ∧ w'.cell? ⟨w.heap.size, 1, none⟩ = some (.slice (some ⟨ba, oa, none⟩) l.length c)) := fun w' hb => ⟨(hb.cell (p := ⟨w.heap.size, 0, none⟩) (by simp)).trans t0, (hb.cell (p := ⟨w.heap.size, 1, none⟩) (by simp)).trans t1⟩
      have HD : Hid (Below (w.heap.size + 3) W W.drew) := (Below.refl _ _).drew
      have HA : Hid (∀ o, Below (w.heap.size + 3) W (W.drew.alloc o)) := fun o => ((Below.refl _ _).drew).alloc (by simp; omega) o
      have CL2 : Hid (∀ w', Below (w.heap.size + 3) W w' → Calls Try.prog 126 #[.slice (some ⟨ba, oa, none⟩) l.length c] w' fun e w'' => ∃ G cap, e = .returned (.slice (some ⟨G, 0, none⟩) l.length cap) ∧ w''.ownsRow w'.heap.size 25 2 (.slice (some ⟨G, 0, none⟩) l.length cap) l.length xs ∧ Below w'.heap.size w' w'' ∧ Below (w.heap.size + 3) W w'') := fun w' hb => (CL.out w' (HB3.out.trans (hb.mono (by omega)))).mono fun e w'' ⟨G, cap, h1, h2, h3⟩ => ⟨G, cap, h1, h2, h3, hb.trans (h3.mono (by have := hb.size; omega))⟩
      have HZ3 := hide hz3
      have nW : w.heap.size ≠ W.heap.size := by omega
      clear hz3
      go_region_held3 (fun w' => w'.cell? ⟨w.heap.size, 0, none⟩ = some (.string s) ∧ w'.cell? ⟨w.heap.size, 1, none⟩ = some (.slice (some ⟨ba, oa, none⟩) l.length c)) (first | exact hS | exact HS0.out | exact KP.out _ (HA.out _) | exact ⟨set2_keep hS.1 nW, set2_keep hS.2 nW⟩ | go_keep)
        (first
          | (go_at_call 126;
              first
                | (refine (CL2.out _ (by first | exact Below.refl _ _ | exact HD.out)).mono ?_; rintro e w5 ⟨G, cap, rfl, ho5, hb5, hB5⟩; have hS := KP.out _ hB5)
                | (refine (CL2.out _ (by exact HA.out (.cells #[.string ⟨#[]⟩, .slice none 0 0] 25))).mono ?_; rintro e w5 ⟨G, cap, rfl, ho5, hb5, hB5⟩; have hS := KP.out _ hB5; have QB : Blk w5 W.heap.size #[.string ⟨#[]⟩, .slice none 0 0] 25 := (Blk.new W.drew _ _).below hb5 (by simp); have q0 : w5.cell? ⟨W.heap.size, 0, none⟩ = some (.string ⟨#[]⟩) := QB.cell 0; have q1 : w5.cell? ⟨W.heap.size, 1, none⟩ = some (.slice none 0 0) := QB.cell 1; have qf := QB.frozen)))
      all_goals have hGl := ho5.lt G rfl
      all_goals go_wp2_with fail
      all_goals go_meet
      all_goals first
        | exact kpM_last (by exact HZ3.out) (owns_mono ho5 (by have := HZ3.out; simp; omega)) hB5
        | (have hz3 := HZ3.out; have e : W.heap.size = w.heap.size + 3 := hz3; exact kpM_first (by omega) QB (by have := hGl.1; simp at this; omega) (owns_mono ho5 (by simp; omega)) hB5)
    case rest =>
      obtain ⟨G, O, cap, rfl, hG3, hO3, hGO, hBO, hown, hbw⟩ := hcut
      have T3 : Blk (((w.alloc (.cells #[.string s, .slice (some ⟨ba, oa, none⟩) l.length c] 25)).alloc (.cells #[.string x.name, .slice ax x.args.length cx] 25)).alloc (.cells #[.string ⟨#[]⟩, .slice none 0 0] 25)) w.heap.size #[.string s, .slice (some ⟨ba, oa, none⟩) l.length c] 25 := ((Blk.new w _ _).alloc _).alloc _
      have X3 : Blk (((w.alloc (.cells #[.string s, .slice (some ⟨ba, oa, none⟩) l.length c] 25)).alloc (.cells #[.string x.name, .slice ax x.args.length cx] 25)).alloc (.cells #[.string ⟨#[]⟩, .slice none 0 0] 25)) (w.heap.size + 1) #[.string x.name, .slice ax x.args.length cx] 25 := by
        have := (Blk.new (w.alloc (.cells #[.string s, .slice (some ⟨ba, oa, none⟩) l.length c] 25)) #[.string x.name, .slice ax x.args.length cx] 25).alloc (.cells #[.string ⟨#[]⟩, .slice none 0 0] 25)
        rw [World.size_alloc] at this
        exact this
      have hbW : Below w.heap.size w wc := hB3.trans (hbw.mono (by omega))
      have c01 : wc.cell? ⟨w.heap.size, 1, none⟩ = some (.slice (some ⟨ba, oa, none⟩) l.length c) := (hbw.cell (p := ⟨w.heap.size, 1, none⟩) (by simp)).trans (T3.cell 1)
      have cz : wc.cell? ⟨b, o, none⟩ = some (.int .i64 (k : Int)) := (hbW.cell (p := ⟨b, o, none⟩) (by simpa using hX b hxb)).trans h0
      have hkl : (k : Int) < (l.length : Int) := by omega
      have x0 : wc.cell? ⟨w.heap.size + 1, 0, none⟩ = some (.string x.name) := (hbw.cell (p := ⟨w.heap.size + 1, 0, none⟩) (by simp)).trans (X3.cell 0)
      have x1 : wc.cell? ⟨w.heap.size + 1, 1, none⟩ = some (.slice ax x.args.length cx) := (hbw.cell (p := ⟨w.heap.size + 1, 1, none⟩) (by simp)).trans (X3.cell 1)
      obtain ⟨b1, o1, a', c', hae, d0, d1, hx⟩ := hs.get hbW (fun b hb _ => hX b hb) k hk
      have eba : b1 = ba ∧ o1 = oa := by simp at hae; exact ⟨hae.1.symm, hae.2.symm⟩
      obtain ⟨rfl, rfl⟩ := eba
      have o1' : wc.cell? ⟨O, 1, none⟩ = some (.slice (some ⟨G, 0, none⟩) l.length cap) := hBO.cell 1
      have HX := hide hx
      have hszk : sizeL [l[k]] ≤ 1000000 := by
        have := sizeL_take l k hk; have := sizeL_take_le l (k + 1); omega
      have hslq : ∀ w' : World, Sem.run Try.prog (Instr.slice 34 (.slice (some ⟨b, o, none⟩) (zs.length + 1) pc) (some (.int .i64 1)) none none) w' = .ok (.slice sa zs.length (pc - 1)) w' := fun w' => by
        rw [slice_tail_run b o zs.length pc hzl2 w', HSA.out]
      have hnG : ∀ b, b < w.heap.size + 3 → b ≠ G := fun b hb => by omega
      have hlen9 := hs.1
      have hput : putT x ((k : Int) :: zs) ⟨s, l⟩ = ⟨s, l.set k (putT x zs l[k])⟩ := by
        have := putL_set (putT x zs) l 0 k hk
        rw [Nat.zero_add] at this
        rw [putT, this]
      have PU : Hid (∀ w', Below wc.heap.size wc w' → Calls Try.prog 108 #[.agg #[.string l[k].name, .slice a' l[k].args.length c'], .slice sa zs.length (pc - 1), .agg #[.string x.name, .slice ax x.args.length cx]] w' fun e w'' => ∃ s9 a9 n9 c9, e = .returned (.agg #[.string s9, .slice a9 n9 c9]) ∧ TV w'' (fun b => (X b ∧ b < w'.heap.size) ∨ w'.heap.size ≤ b) (.agg #[.string s9, .slice a9 n9 c9]) (putT x zs l[k]) ∧ Below wc.heap.size wc w'') := fun w' hb => by
        refine (IH.out l[k] _ _ _ w' X (HX.out.later hb) ((HT.out.later hbW).later hb) ((HU.out.later hbW).later hb) HAT.out hszk).mono ?_
        rintro e w'' ⟨v', rfl, ht, hb2⟩
        obtain ⟨a9, c9, rfl, hs9⟩ := ht
        exact ⟨_, a9, _, c9, rfl, ⟨a9, c9, rfl, hs9⟩, hb.trans (hb2.mono hb.size)⟩
      have hcs6 : wc.cell? ⟨O, 1, none⟩ = some (.slice (some ⟨G, 0, none⟩) l.length cap) ∧ wc.cell? ⟨w.heap.size, 1, none⟩ = some (.slice (some ⟨b1, o1, none⟩) l.length c) ∧ wc.cell? ⟨b1, o1 + k * 2, none⟩ = some (.string l[k].name) ∧ wc.cell? ⟨b1, o1 + k * 2 + 1, none⟩ = some (.slice a' l[k].args.length c') ∧ wc.cell? ⟨w.heap.size + 1, 0, none⟩ = some (.string x.name) ∧ wc.cell? ⟨w.heap.size + 1, 1, none⟩ = some (.slice ax x.args.length cx) := ⟨o1', c01, d0, d1, x0, x1⟩
      have HS0 := hide hcs6
      have hOl : O < wc.heap.size := hBO.lt
      have hszc : w.heap.size + 3 ≤ wc.heap.size := by have := hbw.size; omega
      have KP : Hid (∀ w', Below wc.heap.size wc w' → w'.cell? ⟨O, 1, none⟩ = some (.slice (some ⟨G, 0, none⟩) l.length cap) ∧ w'.cell? ⟨w.heap.size, 1, none⟩ = some (.slice (some ⟨b1, o1, none⟩) l.length c) ∧ w'.cell? ⟨b1, o1 + k * 2, none⟩ = some (.string l[k].name) ∧ w'.cell? ⟨b1, o1 + k * 2 + 1, none⟩ = some (.slice a' l[k].args.length c') ∧ w'.cell? ⟨w.heap.size + 1, 0, none⟩ = some (.string x.name) ∧ w'.cell? ⟨w.heap.size + 1, 1, none⟩ = some (.slice ax x.args.length cx)) := fun w' hb => ⟨(hb.cell (p := ⟨O, 1, none⟩) hOl).trans o1', (hb.cell (p := ⟨w.heap.size, 1, none⟩) (by simp; omega)).trans c01, (hb.cell (p := ⟨b1, o1 + k * 2, none⟩) (by simp; omega)).trans d0, (hb.cell (p := ⟨b1, o1 + k * 2 + 1, none⟩) (by simp; omega)).trans d1, (hb.cell (p := ⟨w.heap.size + 1, 0, none⟩) (by simp; omega)).trans x0, (hb.cell (p := ⟨w.heap.size + 1, 1, none⟩) (by simp; omega)).trans x1⟩
      obtain ⟨cur, hGb, hcur, hcx, hcap⟩ : ∃ cur : Array Value, Blk wc G cur 25 ∧ cur.size = cap * 2 ∧ cur.toList.take (l.length * 2) = xs ∧ l.length ≤ cap := by
        rcases hown.2 with ⟨h1, _⟩ | ⟨g, cap', cur, hv, _, hh, hnc, _, hz, ht⟩
        · cases h1
        · simp at hv
          obtain ⟨rfl, rfl⟩ := hv
          exact ⟨cur, hh, hz, ht, hnc⟩
      have HGB := hide hGb
      obtain ⟨y0, hy0⟩ : ∃ y, cur[k * 2]? = some y := ⟨_, Array.getElem?_eq_getElem (by omega)⟩
      obtain ⟨y1, hy1⟩ : ∃ y, cur[k * 2 + 1]? = some y := ⟨_, Array.getElem?_eq_getElem (by omega)⟩
      have nO : O ≠ G := fun e => hGO e.symm
      have n1 : w.heap.size ≠ G := by omega
      have n2 : b1 ≠ G := by omega
      have n3 : w.heap.size + 1 ≠ G := by omega
      have n4 : w.heap.size + 1 + 1 ≠ G := by omega
      have hRc : Blk wc (w.heap.size + 1 + 1) #[.string ⟨#[]⟩, .slice none 0 0] 25 := by
        have h1 := Blk.new ((w.alloc (.cells #[.string s, .slice (some ⟨b1, o1, none⟩) l.length c] 25)).alloc (.cells #[.string x.name, .slice ax x.args.length cx] 25)) #[.string ⟨#[]⟩, .slice none 0 0] 25
        rw [World.size_alloc, World.size_alloc] at h1
        unfold Blk at *
        rw [hbw.block _ (by omega)]
        exact h1
      have hGl : G < wc.heap.size := hGb.lt
      clear o1' c01 d0 d1 x0 x1 hcs6
      go_wp2_with fail
      go_region_held3 (fun w' => w'.cell? ⟨O, 1, none⟩ = some (.slice (some ⟨G, 0, none⟩) l.length cap) ∧ w'.cell? ⟨w.heap.size, 1, none⟩ = some (.slice (some ⟨b1, o1, none⟩) l.length c) ∧ w'.cell? ⟨b1, o1 + k * 2, none⟩ = some (.string l[k].name) ∧ w'.cell? ⟨b1, o1 + k * 2 + 1, none⟩ = some (.slice a' l[k].args.length c') ∧ w'.cell? ⟨w.heap.size + 1, 0, none⟩ = some (.string x.name) ∧ w'.cell? ⟨w.heap.size + 1, 1, none⟩ = some (.slice ax x.args.length cx)) (first | exact hS | exact HS0.out | exact ⟨set2_keep hS.1 nO, set2_keep hS.2.1 n1, set2_keep hS.2.2.1 n2, set2_keep hS.2.2.2.1 n2, set2_keep hS.2.2.2.2.1 n3, set2_keep hS.2.2.2.2.2 n3⟩ | go_keep)
        (first
          | (go_at_call 108; refine (PU.out _ (by first | exact Below.refl _ _ | exact (Below.refl _ _).drew)).mono ?_; rintro e w5 ⟨s9, a9, n9, c9, rfl, ht5, hb5⟩; have hS := KP.out _ hb5; have GB := HGB.out.below hb5 hGl; have gf := GB.frozen; have g0 : w5.cell? ⟨G, k * 2, none⟩ = some y0 := (GB.cell (k * 2)).trans hy0; have g1 : w5.cell? ⟨G, k * 2 + 1, none⟩ = some y1 := (GB.cell (k * 2 + 1)).trans hy1))
      all_goals
        have OB := (hBO.below hb5 hOl)
        have OB9 := (OB.setOther (k * 2) (.string s9) nO).setOther (k * 2 + 1) (.slice a9 n9 c9) nO
        have GB9 := (GB.set (k * 2) (.string s9)).set (k * 2 + 1) (.slice a9 n9 c9)
        have hR5 := ((hRc.below hb5 (by omega)).setOther (k * 2) (.string s9) n4).setOther (k * 2 + 1) (.slice a9 n9 c9) n4
        have hb9 : Below w.heap.size w ((w5.setCell ⟨G, k * 2, none⟩ (.string s9)).setCell ⟨G, k * 2 + 1, none⟩ (.slice a9 n9 c9)) := ((hbW.trans (hb5.mono (by omega))).setCell (p := ⟨G, k * 2, none⟩) (by simp; omega) _).setCell (p := ⟨G, k * 2 + 1, none⟩) (by simp; omega) _
        have HFIN := hide (kput_fin (R := w.heap.size + 1 + 1) hX hk hlen9 HRT.out hcx (by omega) (by exact hGl) (by omega) n4 (by have := hszc; simp; omega) GB (hbW.trans (hb5.mono (by omega))) ht5)
        have hGx9 := hb5.size
        generalize ((w5.setCell ⟨G, k * 2, none⟩ (.string s9)).setCell ⟨G, k * 2 + 1, none⟩ (.slice a9 n9 c9)) = w9 at *
        have u0 : w9.cell? ⟨O, 0, none⟩ = some (.string s) := OB9.cell 0
        have u1 : w9.cell? ⟨O, 1, none⟩ = some (.slice (some ⟨G, 0, none⟩) l.length cap) := OB9.cell 1
        have r20 : w9.cell? ⟨w.heap.size + 1 + 1, 0, none⟩ = some (.string ⟨#[]⟩) := hR5.cell 0
        have r21 : w9.cell? ⟨w.heap.size + 1 + 1, 1, none⟩ = some (.slice none 0 0) := hR5.cell 1
        have rf := hR5.frozen
        go_wp2_with fail
        refine bodyPost_ret (v := .agg #[.string s, .slice (some ⟨G, 0, none⟩) l.length cap]) (by simp [results, Try.results108, go_sem, r20, r21, World.cell?_setCell_same, World.cell?_setCell_other]) rfl ⟨_, rfl, ?_, ?_⟩
        · refine ⟨some ⟨G, 0, none⟩, cap, ?_, ?_⟩
          · rw [hput]; simp
          · rw [hput]
            exact (HFIN.out _ (fun b hb => by rw [Below.heap_setCell _ _ _ _ (by simpa using hb), Below.heap_setCell _ _ _ _ (by simpa using hb)])).mono fun b hb _ => hb.imp (fun h => ⟨hXX b h, hX b h⟩) id
        · exact (hb9.setCell (by simp; omega) _).setCell (by simp; omega) _
#print axioms kput_any
end Go.Proofs.Ytpbnbkeoiojpaac

/- Walks: a term with another one at a place, as the document says. -/
namespace Go.Proofs.Ytpbnbkeoiojpaac
open Go.RowKit
set_option linter.unusedSimpArgs false
set_option linter.unusedVariables false
set_option maxRecDepth 8000

/-- What a round that appends does: the row at block M holds what is appended to. -/
theorem put_step {w wr w1 w3 : World} {M T : Nat} {Y : Nat → Prop} {u : Value} {L : List Tm} {t : Tm} {xs : List Value} {o2 : Obj} {s s' : ByteArray} {a1 : Option Addr} {n1 c1 g cap n : Nat} (hn : L.length = n) (hrow : Row wr (M + 1) T Y u L xs) (hb : Below w.heap.size w wr) (hM : w.heap.size ≤ M) (hY : ∀ b, Y b → b < w.heap.size)
    (h2 : Blk wr M #[.string s, u] T) (hsz : M + 1 ≤ wr.heap.size)
    (hb1 : Below wr.heap.size wr w1) (ht : TV w1 (fun b => Y b ∨ wr.heap.size ≤ b) (.agg #[.string s', .slice a1 n1 c1]) t)
    (hown : w3.ownsRow (M + 1) T 2 (.slice (some ⟨g, 0, none⟩) (n + 1) cap) (n + 1) (xs ++ [.string s', .slice a1 n1 c1])) (hg : (w1.alloc o2).grownBy w3 u.ownBlock) (hat : u.ownBlock = some g ∨ g = (w1.alloc o2).heap.size) :
    let w4 := w3.setCell ⟨M, 1, none⟩ (.slice (some ⟨g, 0, none⟩) (n + 1) cap)
    Row w4 (M + 1) T Y (.slice (some ⟨g, 0, none⟩) (n + 1) cap) (L ++ [t]) (xs ++ [.string s', .slice a1 n1 c1]) ∧ Below w.heap.size w w4 ∧ (∀ b cs, b < M → Blk wr b cs T → Blk w4 b cs T) ∧ Blk w4 M #[.string s, .slice (some ⟨g, 0, none⟩) (n + 1) cap] T ∧ M + 1 ≤ w4.heap.size := by
  intro w4
  subst hn
  have hlt' := hrow.own.lt
  have hs1 := hb1.size
  have hsg := hg.size
  simp at hsg
  have hp := hrow.push (w1 := w1) (w2 := w1.alloc o2) (w3 := w3) hsz (fun b h => by have := hY b h; omega) hb1 ht o2 rfl hown hg hat
  have hw3 : Below w.heap.size w w3 := ((hb.trans (hb1.mono hb.size)).alloc (by have := hb.size; omega) o2).grown hg (by have := hb.size; simp; omega) (fun j hj => by have := (hlt' j hj).1; omega)
  have hA : Below w.heap.size w w4 := hw3.setCell (p := ⟨M, 1, none⟩) hM _
  have hbk : ∀ b cs, b < M + 1 → Blk wr b cs T → Blk w3 b cs T := fun b cs hb h => ((h.below hb1 h.lt).alloc o2).grown hg (hrow.ne hb)
  refine ⟨hp.setCell (by omega) (fun h => by have := hY _ h; omega) _, hA, fun b cs hb h => (hbk b cs (by omega) h).setOther _ _ (by omega), (hbk _ _ (by omega) h2).set 1 _, by simp [w4, World.setCell]; omega⟩

theorem put_blk {wr w1 w3 : World} {o2 : Obj} {M T : Nat} {Y : Nat → Prop} {u : Value} {L : List Tm} {xs : List Value} {b : Nat} {cs : Array Value} (hrow : Row wr (M + 1) T Y u L xs) (h : Blk wr b cs T) (hb1 : Below wr.heap.size wr w1) (hg : (w1.alloc o2).grownBy w3 u.ownBlock) (hM : b < M + 1) : Blk w3 b cs T :=
  ((h.below hb1 h.lt).alloc o2).grown hg (hrow.ne hM)

theorem own_later {w w' : World} {N T size : Nat} {v : Value} {n : Nat} {xs : List Value} (h : w.ownsRow N T size v n xs) (hb : Below w.heap.size w w') : w'.ownsRow N T size v n xs :=
  h.kept (w' := w') (row := none) ⟨hb.os, hb.tape, hb.output, hb.size, fun j hj _ => hb.block j hj⟩ (by rcases Option.eq_none_or_eq_some (Value.ownBlock v) with h | ⟨x, h⟩; exact Or.inl h; exact Or.inr (by rw [h]; simp))

/-- What holds at each round's head of putting at a place. -/
def PutInv (w : World) (X : Nat → Prop) (x : Tm) (zs : List Int) (z : Int) (s : ByteArray) (l : List Tm) (a : Option Addr) (c : Nat) (ax : Option Addr) (cx : Nat) (i : Value) (wr : World) : Prop :=
  ∃ (k : Nat) (q : Value) (xs : List Value), k ≤ l.length ∧ i = .int .i64 k ∧ Row wr (w.heap.size + 1 + 1 + 1 + 1) 25 X q ((putL (putT x zs) z 0 l).take k) xs ∧ Below w.heap.size w wr ∧ Blk wr w.heap.size #[.string s, .slice a l.length c] 25 ∧ Blk wr (w.heap.size + 1) #[.string x.name, .slice ax x.args.length cx] 25 ∧ Blk wr (w.heap.size + 1 + 1) #[.string ⟨#[]⟩, .slice none 0 0] 25 ∧ Blk wr (w.heap.size + 1 + 1 + 1) #[.string s, q] 25 ∧ w.heap.size + 1 + 1 + 1 + 1 ≤ wr.heap.size

theorem two_one (s : ByteArray) (a : Option Addr) (n c : Nat) : ∀ u ∈ [Value.string s, .slice a n c], u.oneCell' = true := fun x hx => by
  simp at hx; rcases hx with rfl | rfl <;> rfl

theorem drew_below {wr w1 : World} (hb1 : Below wr.drew.heap.size wr.drew w1) : Below wr.heap.size wr w1 := (below_drewN (Below.refl _ _) 1).trans hb1

set_option maxHeartbeats 4000000 in
theorem putOf_any (x : Tm) (zs : List Int) : ∀ (t : Tm) (v p u : Value) (w : World) (X : Nat → Prop), TV w X v t → PV w X p zs → TV w X u x → sizeL [t] ≤ 1000000 →
    Calls Try.prog 56 #[v, p, u] w fun e w' => ∃ v', e = .returned v' ∧ TV w' (fun b => X b ∨ w.heap.size ≤ b) v' (putT x zs t) ∧ Below w.heap.size w w' := by
  induction zs with
  | nil =>
    intro t v p u w X hv hp hu hsm
    obtain ⟨a, c, rfl, hs⟩ := hv
    obtain ⟨ax, cx, rfl, hsx⟩ := hu
    obtain ⟨pa, pc, rfl, hzl, hz⟩ := hp
    go_enter Try.func56, Try.ntmps56
    go_wp2_with fail
    refine bodyPost_ret (v := .agg #[.string x.name, .slice ax x.args.length cx]) (by simp [results, Try.results56, go_sem]) rfl ⟨_, rfl, ?_, below3 _ _ _⟩
    exact ⟨ax, cx, by simp [putT], ((hsx.later (below3 _ _ _)).mono fun b h _ => Or.inl h)⟩
  | cons z zs ih =>
    intro t v p u w X0 hv0 hp0 hu0 hsm
    have IH := hide ih
    clear ih
    obtain ⟨X, hX, hXX, hv, hp, hu⟩ : ∃ X : Nat → Prop, (∀ b, X b → b < w.heap.size) ∧ (∀ b, X b → X0 b) ∧ TV w X v t ∧ PV w X p (z :: zs) ∧ TV w X u x := ⟨fun b => X0 b ∧ b < w.heap.size, fun _ h => h.2, fun _ h => h.1, hv0.mono fun b h1 h2 => ⟨h1, h2⟩, hp0.mono fun b h1 h2 => ⟨h1, h2⟩, hu0.mono fun b h1 h2 => ⟨h1, h2⟩⟩
    clear hv0 hp0 hu0
    obtain ⟨a, c, rfl, hs⟩ := hv
    obtain ⟨ax, cx, rfl, hsx⟩ := hu
    have HU := hide (show TV w X (.agg #[.string x.name, .slice ax x.args.length cx]) x from ⟨ax, cx, rfl, hsx⟩)
    clear hsx
    obtain ⟨pa, pc, rfl, hzl, hz⟩ := hp
    obtain ⟨b, o, rfl, hxb, hcell⟩ := hz.resolve_left (fun h => by cases h)
    have h0 := hcell 0 (by simp)
    simp only [Nat.add_zero, List.getElem_cons_zero] at h0
    have htl := hs.1
    have hzl' : zs.length + 1 ≤ 9223372036854775807 ∧ zs.length + 1 ≤ pc := by simpa using hzl
    obtain ⟨hzl1, hzl2⟩ := hzl'
    obtain ⟨s, l⟩ := t
    have hz1 : sizeL [(⟨s, l⟩ : Tm)] = 1 + sizeL l := by simp [sizeL]
    rw [hz1] at hsm
    clear hz1
    have hlen := sizeL_len l
    obtain ⟨i0, hi, hz0, hz1, hz2⟩ := info_parts Try.infoTerm
    obtain ⟨sa, HSA, HT⟩ : ∃ sa : Option Addr, Hid ((if pc = 1 then some (⟨b, o, none⟩ : Addr) else some ⟨b, o + 1, none⟩) = sa) ∧ Hid (PV w X (.slice sa zs.length (pc - 1)) zs) := by
      by_cases h1 : pc = 1
      · refine ⟨_, rfl, ?_⟩
        have : zs = [] := List.length_eq_zero_iff.1 (by omega)
        subst this
        exact ⟨_, _, rfl, by simp, Or.inl rfl⟩
      · refine ⟨_, rfl, ?_⟩
        rw [if_neg h1]
        exact PV.tail ⟨hzl1, hzl2⟩ hxb hcell
    simp only [List.length_cons] at *
    clear hcell hzl hz
    go_enter Try.func56, Try.ntmps56
    go_wp2_with fail
    go_loopw [8] (fun i wr => PutInv w X x zs z s l a c ax cx i wr) (fun i wr => l.length - (intOf i).toNat)
    case atStart =>
      unfold PutInv
      refine ⟨0, .slice none 0 0, [], Nat.zero_le _, rfl, Row.start _ _ _ _, below4 _ _ _ _, ?_, ?_, ?_, ?_, by simp⟩
      · exact (((Blk.new w _ _).alloc _).alloc _).alloc _
      · have := ((Blk.new (w.alloc (.cells #[.string s, .slice a l.length c] 25)) #[.string x.name, .slice ax x.args.length cx] 25).alloc (.cells #[.string ⟨#[]⟩, .slice none 0 0] 25)).alloc (.cells #[.string s, .slice none 0 0] 25)
        simpa using this
      · have := (Blk.new ((w.alloc (.cells #[.string s, .slice a l.length c] 25)).alloc (.cells #[.string x.name, .slice ax x.args.length cx] 25)) #[.string ⟨#[]⟩, .slice none 0 0] 25).alloc (.cells #[.string s, .slice none 0 0] 25)
        simpa using this
      · have := Blk.new (((w.alloc (.cells #[.string s, .slice a l.length c] 25)).alloc (.cells #[.string x.name, .slice ax x.args.length cx] 25)).alloc (.cells #[.string ⟨#[]⟩, .slice none 0 0] 25)) #[.string s, .slice none 0 0] 25
        simpa using this
    case round =>
      obtain ⟨k, q, xs, hk, rfl, hrow, hb, hbl0, hbl1, hbl2, hbl3, hsz⟩ := hrel
      have HROW := hide hrow
      have HB := hide hb
      have HBL0 := hide hbl0
      have HBL1 := hide hbl1
      have HBL2 := hide hbl2
      have HBL3 := hide hbl3
      have c01 : wr.cell? ⟨w.heap.size, 1, none⟩ = some (.slice a l.length c) := hbl0.cell 1
      have c10 : wr.cell? ⟨w.heap.size + 1, 0, none⟩ = some (.string x.name) := hbl1.cell 0
      have c11 : wr.cell? ⟨w.heap.size + 1, 1, none⟩ = some (.slice ax x.args.length cx) := hbl1.cell 1
      have c30 : wr.cell? ⟨w.heap.size + 1 + 1 + 1, 0, none⟩ = some (.string s) := hbl3.cell 0
      have c31 : wr.cell? ⟨w.heap.size + 1 + 1 + 1, 1, none⟩ = some q := hbl3.cell 1
      have c31a : ∀ o, (wr.alloc o).cell? ⟨w.heap.size + 1 + 1 + 1, 1, none⟩ = some q := fun o => (hbl3.alloc o).cell 1
      have czw := cell_later hb h0
      by_cases hlt : k < l.length
      · obtain ⟨b1, o1, a', c', rfl, d0, d1, hx⟩ := hs.get hb (fun _ _ h => h) k hlt
        have HX := hide hx
        have HPL := hide (putL_take (putT x zs) z l k hlt)
        have hkl : ((putL (putT x zs) z 0 l).take k).length = k := by rw [List.length_take, putL_length]; omega
        have HKL := hide hkl
        have HOWN : Hid (wr.ownsRow (w.heap.size + 1 + 1 + 1 + 1) 25 2 q k xs) := by have := hrow.own; rw [hkl] at this; exact this
        have hszk : sizeL [l[k]] ≤ 1000000 := by
          have := sizeL_take l k hlt; have := sizeL_take_le l (k + 1); omega
        clear hbl0 hbl1 hbl2 hbl3 hb hx hrow hkl
        by_cases hkz : (k : Int) = z
        · have HKZ := hide hkz
          have hkz' : ((k : Int) == z) = true := by simpa using hkz
          clear hkz
          have HT' : Hid (PV wr.drew X (.slice sa zs.length (pc - 1)) zs) := HT.out.later (HB.out.drew)
          have HU' : Hid (TV wr.drew X (.agg #[.string x.name, .slice ax x.args.length cx]) x) := HU.out.later (HB.out.drew)
          have hle1 : (1 : Int) ≤ (zs.length : Int) + 1 := by omega
          have hslq : ∀ w' : World, Sem.run Try.prog (Instr.slice 34 (.slice (some ⟨b, o, none⟩) (zs.length + 1) pc) (some (.int .i64 1)) none none) w' = .ok (.slice sa zs.length (pc - 1)) w' := fun w' => by
            rw [slice_tail_run b o zs.length pc hzl2 w', HSA.out]
          go_wp2_with fail
          go_region_law (first
            | (refine step_append_lies _ rfl _ _ 23 rfl (w.heap.size + 1 + 1 + 1 + 1) 25 i0 _ 2 40 Try.underlying23 hi hz0 hz1 hz2 rfl (by decide) q k xs rfl (by exact (own_later HOWN.out (drew_below hb1)).alloc _) ⟨w1.heap.size, 0, none⟩ 1 1 [.string s9, .slice a9 n9 c9] rfl rfl (by exact cell_two_new _ _ _ _) (two_one _ _ _ _) (by decide) (by unfold maxLen; omega) (by omega) (by have := hb1.size; simp at this ⊢; omega) _ rfl ?_; intro g cap w3 hown3 hgrow3 hat3 hlt3; have hB3 := hide (put_blk HROW.out HBL3.out (drew_below hb1) hgrow3 (Nat.lt_succ_self _)); have hc5 : w3.cell? ⟨w.heap.size + 1 + 1 + 1, 1, none⟩ = some q := hB3.out.cell 1; have hf5 := hB3.out.frozen 1)
            | (go_simp; go_at_call 56; refine (IH.out _ _ _ _ _ X (by exact HX.out.later (below_drewN (Below.refl _ _) 1)) (by exact HT'.out) (by exact HU'.out) hszk).mono ?_; rintro e w1 ⟨v1, rfl, ht1, hb1⟩; obtain ⟨a9, c9, rfl, hs9⟩ := ht1; generalize hs9n : (putT x _ l[k]).name = s9; generalize hs9l : (putT x _ l[k]).args.length = n9; have hc3 : ∀ o, (w1.alloc o).cell? ⟨w.heap.size + 1 + 1 + 1, 1, none⟩ = some q := fun o => ((HBL3.out.below (drew_below hb1) HBL3.out.lt).alloc o).cell 1; have hc4 : w1.cell? ⟨w.heap.size + 1 + 1 + 1, 1, none⟩ = some q := (HBL3.out.below (drew_below hb1) HBL3.out.lt).cell 1))
          all_goals
            have HFIN := hide (put_step HKL.out HROW.out HB.out (by omega) hX HBL3.out hsz (drew_below hb1) (show TV w1 _ (.agg #[.string s9, .slice a9 n9 c9]) _ from ⟨a9, c9, by rw [hs9n, hs9l], hs9⟩) hown3 hgrow3 hat3)
            clear hown3 hgrow3 hat3
            go_wp2_with fail
            go_roundw
            case rel =>
              obtain ⟨r1, r2, r3, r4, r5⟩ := HFIN.out
              unfold PutInv
              refine ⟨k + 1, _, xs ++ [.string s9, .slice a9 n9 c9], by omega, by go_num, ?_, r2, r3 _ _ (by omega) HBL0.out, r3 _ _ (by omega) HBL1.out, r3 _ _ (by omega) HBL2.out, r4, r5⟩
              rw [HPL.out, if_pos HKZ.out]
              exact r1
            case measure => simp [intOf]; omega
        · have hkz' : ((k : Int) == z) = false := by simpa using hkz
          have HKZ := hide hkz
          clear hkz
          go_wp2_with fail
          go_region_law (first
            | (refine step_append_lies _ rfl _ _ 23 rfl (w.heap.size + 1 + 1 + 1 + 1) 25 i0 _ 2 40 Try.underlying23 hi hz0 hz1 hz2 rfl (by decide) q k xs rfl (by exact (own_later HOWN.out (below_drewN (Below.refl _ _) 1)).alloc _) ⟨wr.heap.size, 0, none⟩ 1 1 [.string l[k].name, .slice a' l[k].args.length c'] rfl rfl (by exact cell_two_new _ _ _ _) (two_one _ _ _ _) (by decide) (by unfold maxLen; omega) (by omega) (by simp; omega) _ rfl ?_; intro g cap w3 hown3 hgrow3 hat3 hlt3; have hB3 := hide (put_blk HROW.out HBL3.out (below_drewN (Below.refl _ _) 1) hgrow3 (Nat.lt_succ_self _)); have hc5 : w3.cell? ⟨w.heap.size + 1 + 1 + 1, 1, none⟩ = some q := hB3.out.cell 1; have hf5 := hB3.out.frozen 1))
          all_goals
            have HFIN := hide (put_step HKL.out HROW.out HB.out (by omega) hX HBL3.out hsz (below_drewN (Below.refl _ _) 1) ((HX.out.later (below_drewN (Below.refl _ _) 1)).mono fun b h _ => Or.inl h) hown3 hgrow3 hat3)
            clear hown3 hgrow3 hat3
            go_wp2_with fail
            go_roundw
            case rel =>
              obtain ⟨r1, r2, r3, r4, r5⟩ := HFIN.out
              unfold PutInv
              refine ⟨k + 1, _, xs ++ [.string l[k].name, .slice a' l[k].args.length c'], by omega, by go_num, ?_, r2, r3 _ _ (by omega) HBL0.out, r3 _ _ (by omega) HBL1.out, r3 _ _ (by omega) HBL2.out, r4, r5⟩
              rw [HPL.out, if_neg HKZ.out]
              exact r1
            case measure => simp [intOf]; omega
      · have htk : (putL (putT x zs) z 0 l).take k = putL (putT x zs) z 0 l := List.take_of_length_le (by rw [putL_length]; omega)
        have r20 : wr.cell? ⟨w.heap.size + 1 + 1, 0, none⟩ = some (.string ⟨#[]⟩) := hbl2.cell 0
        have r21 : wr.cell? ⟨w.heap.size + 1 + 1, 1, none⟩ = some (.slice none 0 0) := hbl2.cell 1
        have rf := hbl2.frozen
        obtain ⟨a9, c9, hu9, hsl9⟩ := hrow.sl
        rw [htk, putL_length] at hu9
        rw [htk] at hsl9
        have HSL := hide hsl9
        subst hu9
        clear hsl9 htk hbl0 hbl1 hbl2 hbl3 hrow hb
        go_wp2_with fail
        refine bodyPost_ret (v := .agg #[.string s, .slice a9 l.length c9]) (by simp [results, Try.results56, go_sem, r20, r21, World.cell?_setCell_same, World.cell?_setCell_other]) rfl ⟨_, rfl, ?_, ?_⟩
        · refine ⟨a9, c9, by simp [putT, putL_length], ?_⟩
          have hk9 : Sl wr (fun b => X b ∨ w.heap.size + 1 + 1 + 1 + 1 ≤ b) a9 (putL (putT x zs) z 0 l) := HSL.out
          have hk8 : Sl wr (fun b => X0 b ∨ w.heap.size ≤ b) a9 (putT x (z :: zs) ⟨s, l⟩).args := by
            refine hk9.mono fun b hb _ => ?_
            rcases hb with hb | hb
            · exact Or.inl (hXX b hb)
            · exact Or.inr (by omega)
          have hk7 : Sl wr (fun b => (X b ∨ w.heap.size + 1 + 1 + 1 + 1 ≤ b)) a9 (putT x (z :: zs) ⟨s, l⟩).args := hk9
          refine (hk7.kept fun b hb => ?_).mono fun b hb _ => ?_
          · have hne : b ≠ w.heap.size + 1 + 1 := by
              rcases hb with hb | hb
              · have := hX b hb; omega
              · omega
            rw [Below.heap_setCell _ _ _ _ (by simpa using hne), Below.heap_setCell _ _ _ _ (by simpa using hne)]
          · rcases hb with hb | hb
            · exact Or.inl (hXX b hb)
            · exact Or.inr (by omega)
        · exact (HB.out.setCell (by simp; omega) _).setCell (by simp; omega) _
#print axioms putOf_any
end Go.Proofs.Ytpbnbkeoiojpaac

/- Walks: two answers that are terms. -/
namespace Go.Proofs.Ytpbnbkeoiojpaac
open Go.RowKit
set_option linter.unusedSimpArgs false
set_option linter.unusedVariables false

set_option maxHeartbeats 1000000 in
theorem term2_ok (t : Tm) (v u : Value) (w : World) (X Y : Nat → Prop) (hv : TV w X v t) (hu : TV w Y u t) :
    Calls Try.prog 33 #[v, .int .i64 0, u, .int .i64 0] w fun e w' => e = .returned (.bool true) ∧ Below w.heap.size w w' := by
  obtain ⟨a, c, rfl, hs⟩ := hv
  obtain ⟨a2, c2, rfl, hs2⟩ := hu
  have HV := hide (show TV w X (.agg #[.string t.name, .slice a t.args.length c]) t from ⟨a, c, rfl, hs⟩)
  have HU := hide (show TV w Y (.agg #[.string t.name, .slice a2 t.args.length c2]) t from ⟨a2, c2, rfl, hs2⟩)
  clear hs hs2
  go_enter Try.func33, Try.ntmps33
  go_wp2_with fail
  refine (same_any t _ _ _ X Y (by exact HV.out.later (below2 _ _)) (by exact HU.out.later (below2 _ _))).mono ?_
  rintro e w1 ⟨rfl, hb1⟩
  go_wp2_with fail
  go_ret
  exact ⟨rfl, (below2 _ _).trans (hb1.mono (by simp; omega))⟩

set_option maxHeartbeats 1000000 in
theorem term2_err (f : Int) (u : Value) (s2 : ByteArray) (a2 : Option Addr) (n2 c2 : Nat) (hu : u = .agg #[.string s2, .slice a2 n2 c2]) (w : World) (hf : f ≠ 0) :
    Calls Try.prog 33 #[zeroT, .int .i64 f, u, .int .i64 f] w fun e w' => e = .returned (.bool true) ∧ Below w.heap.size w w' := by
  subst hu
  unfold zeroT
  have hf' : (f == 0) = false := by simpa using hf
  go_enter Try.func33, Try.ntmps33
  go_wp2_with fail
  go_ret
  exact ⟨rfl, below2 _ _⟩
#print axioms term2_ok
end Go.Proofs.Ytpbnbkeoiojpaac


/- Walks: Put, and the law on it. -/
namespace Go.Proofs.Ytpbnbkeoiojpaac
open Go.RowKit
set_option linter.unusedSimpArgs false
set_option linter.unusedVariables false
set_option maxRecDepth 8000

/-- What is wrong with putting. -/
def putE (t : Tm) (zs : List Int) (x : Tm) : Int := if twoE t x = 0 then (if (atT t zs).isSome = true then 0 else 10) else twoE t x

theorem may_size {t : Tm} (h : mayE t = 0) : sizeL [t] ≤ 1000000 := by
  unfold mayE at h
  split at h
  · omega
  · omega

theorem may_le {t : Tm} (h : mayE t = 0) : sizeL [t] ≤ 400 := by
  unfold mayE at h
  split at h
  · omega
  · omega
theorem size_set : ∀ (l : List Tm) (k : Nat) (h : k < l.length) (y : Tm), sizeL (l.set k y) + sizeL [l[k]] = sizeL l + sizeL [y]
  | [], k, h, y => by simp at h
  | ⟨s, a⟩ :: l, 0, h, ⟨s', a'⟩ => by simp [sizeL]; omega
  | ⟨s, a⟩ :: l, k + 1, h, y => by
    have := size_set l k (by simpa using h) y
    simp only [List.set_cons_succ, List.getElem_cons_succ]
    have e1 : sizeL (⟨s, a⟩ :: l.set k y) = 1 + sizeL a + sizeL (l.set k y) := by simp [sizeL]
    have e2 : sizeL (⟨s, a⟩ :: l) = 1 + sizeL a + sizeL l := by simp [sizeL]
    omega
theorem putT_size (x : Tm) : ∀ (zs : List Int) (t : Tm), (atT t zs).isSome = true → sizeL [putT x zs t] ≤ sizeL [t] + sizeL [x]
  | [], t, _ => by simp [putT]
  | z :: zs, ⟨s, l⟩, h => by
    rw [atT] at h
    split at h
    case isFalse => cases h
    case isTrue hz =>
    obtain ⟨k, rfl⟩ : ∃ k : Nat, z = (k : Int) := ⟨z.toNat, by omega⟩
    have hk : k < l.length := by simpa using hz.2
    have ih := putT_size x zs l[k] (by simpa using h)
    have h1 := putL_set (putT x zs) l 0 k hk
    rw [Nat.zero_add] at h1
    rw [putT, h1]
    have h2 := size_set l k hk (putT x zs l[k])
    have e1 : sizeL [(⟨s, l.set k (putT x zs l[k])⟩ : Tm)] = 1 + sizeL (l.set k (putT x zs l[k])) := by simp [sizeL]
    have e2 : sizeL [(⟨s, l⟩ : Tm)] = 1 + sizeL l := by simp [sizeL]
    simp only [e1, e2]
    omega
theorem two_left {t x : Tm} (h : mayE t = 0) : twoE t x = mayE x := by simp [twoE, h]
theorem two_bad {t x : Tm} (h : mayE t ≠ 0) : twoE t x = mayE t := by simp [twoE, h]

theorem blks3 (w : World) (c1 c2 c3 : Array Value) (T : Nat) :
    Blk (((w.alloc (.cells c1 T)).alloc (.cells c2 T)).alloc (.cells c3 T)) w.heap.size c1 T ∧ Blk (((w.alloc (.cells c1 T)).alloc (.cells c2 T)).alloc (.cells c3 T)) (w.heap.size + 1) c2 T ∧ Blk (((w.alloc (.cells c1 T)).alloc (.cells c2 T)).alloc (.cells c3 T)) (w.heap.size + 1 + 1) c3 T := by
  refine ⟨(((Blk.new w c1 T).alloc _).alloc _), ?_, ?_⟩
  · have := ((Blk.new (w.alloc (.cells c1 T)) c2 T).alloc (.cells c3 T))
    simp at this; exact this
  · have := (Blk.new ((w.alloc (.cells c1 T)).alloc (.cells c2 T)) c3 T)
    simp at this; exact this

end Go.Proofs.Ytpbnbkeoiojpaac

/- Walks: the text of a term, as the program writes it. -/
namespace Go.Proofs.Ytpbnbkeoiojpaac
open Go.RowKit
set_option linter.unusedSimpArgs false
set_option linter.unusedVariables false
set_option maxRecDepth 8000

theorem TV.bfr {w w' : World} {X : Nat → Prop} {v q q' : Value} {t : Tm} {b : Nat} (h : TV w X v t) (hf : BFr w w' b q q') (hX : ∀ x, X x → x ≠ b ∧ some x ≠ q.ownBlock) : TV w' X v t := by
  have h1 : TV w (fun x => X x ∧ x < w.heap.size) v t := h.mono fun b h1 h2 => ⟨h1, h2⟩
  have h2 : TV w' (fun x => X x ∧ x < w.heap.size) v t := h1.kept fun x hx => hf.2.2.2.2.1 x hx.2 (hX x hx.1).1 (hX x hx.1).2
  exact h2.mono fun b hx _ => hx.1
theorem Sl.bfr {w w' : World} {X : Nat → Prop} {a : Option Addr} {q q' : Value} {l : List Tm} {b : Nat} (h : Sl w X a l) (hf : BFr w w' b q q') (hX : ∀ x, X x → x ≠ b ∧ some x ≠ q.ownBlock) : Sl w' X a l := by
  have h1 : Sl w (fun x => X x ∧ x < w.heap.size) a l := h.mono fun b h1 h2 => ⟨h1, h2⟩
  have h2 : Sl w' (fun x => X x ∧ x < w.heap.size) a l := h1.kept fun x hx => hf.2.2.2.2.1 x hx.2 (hX x hx.1).1 (hX x hx.1).2
  exact h2.mono fun b hx _ => hx.1
theorem Bld.alloc {w : World} {B b : Nat} {bs : List Value} {v : Value} (h : Bld w B b bs v) (o : Obj) : Bld (w.alloc o) B b bs v := by
  obtain ⟨hB, ⟨p, hp, hb⟩, hown⟩ := h
  exact ⟨hB, ⟨p, hp, by rw [Below.heap_alloc _ _ _ (bd_lt hb)]; exact hb⟩, hown.alloc o⟩
theorem Bld.lt {w : World} {B b : Nat} {bs : List Value} {v : Value} (h : Bld w B b bs v) : b < w.heap.size := by
  obtain ⟨_, ⟨p, _, hb⟩, _⟩ := h
  exact bd_lt hb
theorem Bld.old {w : World} {B b : Nat} {bs : List Value} {v : Value} (h : Bld w B b bs v) {x : Nat} (hx : x < B) : x ≠ b ∧ some x ≠ v.ownBlock := by
  refine ⟨by have := h.1; omega, fun e => ?_⟩
  have := (h.2.2.lt x e.symm).1; omega
theorem Blk.bfr {w w' : World} {b k T : Nat} {q q' : Value} {cs : Array Value} (h : Blk w k cs T) (hf : BFr w w' b q q') (hk : k ≠ b) (hq : some k ≠ q.ownBlock) : Blk w' k cs T := by
  unfold Blk at *; rw [hf.2.2.2.2.1 k (Blk.lt h) hk hq]; exact h

def bytesV (l : List UInt8) : List Value := l.map fun b => Value.int .u8 b.toNat
theorem bytesV_len (l : List UInt8) : (bytesV l).length = l.length := by simp [bytesV]
theorem bytesV_str (pre : List UInt8) (s : ByteArray) : bytesV pre ++ Lib.strCells s = bytesV (pre ++ s.data.toList) := by simp [bytesV, Lib.strCells]
theorem bytesV_one (pre : List UInt8) (c : UInt8) : bytesV pre ++ [.int .u8 c.toNat] = bytesV (pre ++ [c]) := by simp [bytesV]

/-- The new box is none of the Builder's. -/
theorem Bld.box {w : World} {B b : Nat} {bs : List Value} {v : Value} (h : Bld w B b bs v) : w.heap.size ≠ b ∧ some w.heap.size ≠ v.ownBlock := by
  refine ⟨by have := h.lt; omega, fun e => ?_⟩
  have := (h.2.2.lt _ e.symm).2; omega

theorem own_box {w wr : World} {b : Nat} {q0 q : Value} {o : Obj} (h : some w.heap.size ≠ q0.ownBlock) (hf : BFr (w.alloc o) wr b q0 q) : some w.heap.size ≠ q.ownBlock := fun e => by
  rcases hf.2.2.2.2.2 _ e.symm with h1 | h1
  · exact h h1.symm
  · simp at h1; omega

/-- What holds at each round's head of writing. -/
def WrInv (w : World) (B b : Nat) (v0 : Value) (pre : List UInt8) (s : ByteArray) (l : List Tm) (i : Value) (wr : World) : Prop :=
  ∃ (k : Nat) (q : Value), k ≤ l.length ∧ i = .int .i64 k ∧ Bld wr B b (bytesV (pre ++ s.data.toList ++ 40 :: txtL (l.take k))) q ∧ BFr w wr b v0 q

theorem wr_take0 (pre : List UInt8) (s : ByteArray) (l : List Tm) : pre ++ s.data.toList ++ ([40] : List UInt8) = pre ++ s.data.toList ++ 40 :: txtL (l.take 0) := by simp [txtL]
theorem wr_take1 (pre : List UInt8) (s : ByteArray) (l : List Tm) (h : 0 < l.length) : pre ++ s.data.toList ++ 40 :: txtL (l.take 0) ++ txtL [l[0]'h] = pre ++ s.data.toList ++ 40 :: txtL (l.take (0 + 1)) := by
  rw [List.take_succ_eq_append_getElem h]; simp [txtL]
theorem wr_takeS (pre : List UInt8) (s : ByteArray) (l : List Tm) (k : Nat) (hk : 0 < k) (h : k < l.length) : pre ++ s.data.toList ++ 40 :: txtL (l.take k) ++ ([44] : List UInt8) ++ txtL [l[k]] = pre ++ s.data.toList ++ 40 :: txtL (l.take (k + 1)) := by
  have h1 : l.take k ≠ [] := by
    intro e
    have h3 := congrArg List.length e
    rw [List.length_take] at h3
    simp only [List.length_nil] at h3
    omega
  rw [List.take_succ_eq_append_getElem h, txtL_append _ _ h1 (by simp)]; simp
theorem wr_end (pre : List UInt8) (s : ByteArray) (l : List Tm) (h : l ≠ []) : pre ++ s.data.toList ++ 40 :: txtL l ++ ([41] : List UInt8) = pre ++ txtL [(⟨s, l⟩ : Tm)] := by
  rw [txtL_one, if_neg (by simpa using h)]; simp
theorem wr_len (pre : List UInt8) (s : ByteArray) (l : List Tm) (k : Nat) (h : l ≠ []) (hk : k ≤ l.length) : (pre ++ s.data.toList ++ 40 :: txtL (l.take k)).length ≤ pre.length + (txtL [(⟨s, l⟩ : Tm)]).length := by
  by_cases h0 : k = 0
  · subst h0
    rw [txtL_one, if_neg (by simpa using h)]
    simp [txtL]
  · have h1 := txtTo_len s l k hk
    unfold txtTo at h1
    rw [if_neg h0] at h1
    simp only [List.length_append] at *
    omega

set_option maxHeartbeats 2000000 in
theorem write_any (t : Tm) : ∀ (v q0 : Value) (pre : List UInt8) (B b : Nat) (w : World) (X : Nat → Prop), TV w X v t → (∀ x, X x → x < B) → Bld w B b (bytesV pre) q0 → B ≤ w.heap.size → pre.length + (txtL [t]).length ≤ 900000000 →
    Calls Try.prog 130 #[.pointer (some ⟨b, 0, none⟩), v] w fun e w' => e = .returned (.tuple #[]) ∧ ∃ q, Bld w' B b (bytesV (pre ++ txtL [t])) q ∧ BFr w w' b q0 q := by
  induction t using Tm.ind with
  | h s l ih =>
    intro v q0 pre B b w X hv hX hbd hB hsm
    have IH := hide ih
    clear ih
    obtain ⟨a, c, rfl, hs⟩ := hv
    have hl := hs.1
    have hsz : s.size ≤ (txtL [(⟨s, l⟩ : Tm)]).length := by
      rw [txtL_one]; have h2 : s.data.toList.length = s.size := by rw [Array.length_toList]; rfl
      simp only [List.length_append]; omega
    have HBD := hide hbd
    have hbox := hbd.box
    clear hbd
    go_enter Try.func130, Try.ntmps130
    go_wp2_with fail
    refine (writeString_any B b _ q0 s _ (by exact HBD.out.alloc _) (by rw [bytesV_len]; omega) (by simp; omega)).mono ?_
    rintro e w1 ⟨rfl, q1, hbd1, hfr1⟩
    rw [bytesV_str] at hbd1
    have K1 := hide ((Blk.new w #[.string s, .slice a l.length c] 25).bfr hfr1 hbox.1 hbox.2)
    have HFR1 := hide hfr1
    have HW0 := hide (BFr.of_below ((Below.refl w.heap.size w).alloc (Nat.le_refl _) (.cells #[.string s, .slice a l.length c] 25)) b q0)
    have c1 : w1.cell? ⟨w.heap.size, 1, none⟩ = some (.slice a l.length c) := K1.out.cell 1
    have HBD1 := hide hbd1
    clear hfr1 hbd1
    by_cases hn : l = []
    · subst hn
      have HE := hide (txt_nil s)
      go_wp2_with fail
      refine bodyPost_ret (v := .tuple #[]) (by simp [results, Try.results130, go_sem]) rfl ?_
      exact ⟨rfl, q1, by rw [HE.out]; exact HBD1.out, HW0.out.trans HFR1.out⟩
    · have hlp : 0 < l.length := List.length_pos_iff.2 hn
      have hlp' : (((l.length : Nat) : Int) == 0) = false := by simp; omega
      have HN := hide hn
      have hw0 := wr_len pre s l 0 hn (Nat.zero_le _)
      have hp1 : (bytesV (pre ++ s.data.toList)).length ≤ 900000000 := by rw [bytesV_len]; simp only [List.length_append, List.length_cons] at hw0 ⊢; omega
      clear hn hw0
      go_wp2_with fail
      refine (writeByte_any B b _ q1 40 _ (by exact HBD1.out) (by omega) (by have := HFR1.out.2.2.2.1; simp at this; omega)).mono ?_
      rintro e w2 ⟨rfl, q2, hbd2, hfr2⟩
      have hbd2' : Bld w2 B b (bytesV (pre ++ s.data.toList ++ 40 :: txtL (l.take 0))) q2 := by
        have h3 := bytesV_one (pre ++ s.data.toList) 40
        rw [← wr_take0, ← h3]; exact hbd2
      have HBD2 := hide hbd2'
      have HFR2 := hide (HFR1.out.trans hfr2)
      have K2 := hide (K1.out.bfr hfr2 hbox.1 (own_box hbox.2 HFR1.out))
      have c2 : w2.cell? ⟨w.heap.size, 1, none⟩ = some (.slice a l.length c) := K2.out.cell 1
      clear hbd2 hbd2' hfr2 c1
      go_wp2_with fail
      go_loopw [19] (fun i wr => WrInv (w.alloc (.cells #[.string s, .slice a l.length c] 25)) B b q0 pre s l i wr) (fun i wr => l.length - (intOf i).toNat)
      case atStart => exact ⟨0, q2, Nat.zero_le _, rfl, HBD2.out, HFR2.out⟩
      case round =>
        obtain ⟨k, q, hk, rfl, hbdk, hfrk⟩ := hrel
        have HBK := hide hbdk
        have HFK := hide hfrk
        have hwl := wr_len pre s l k HN.out hk
        have hBr : B ≤ wr.heap.size := by have := hfrk.2.2.2.1; simp at this; omega
        by_cases hlt : k < l.length
        · have hsr := (hs.later ((Below.refl w.heap.size w).alloc (Nat.le_refl _) (.cells #[.string s, .slice a l.length c] 25))).bfr hfrk (fun x hx => HBD.out.old (hX x hx))
          obtain ⟨bx, o, a', c', rfl, d0, d1, hx⟩ := hsr.get (Below.refl wr.heap.size wr) (fun _ _ h => h) k hlt
          have HX := hide hx
          have hwl2 := wr_len pre s l (k + 1) HN.out (by omega)
          clear hbdk hfrk hsr hx
          by_cases hk0 : k = 0
          · subst hk0
            simp only [Nat.zero_mul, Nat.add_zero] at d0 d1
            have HE := hide (wr_take1 pre s l hlt)
            have hln : (pre ++ s.data.toList ++ 40 :: txtL (l.take 0)).length + (txtL [l[0]]).length ≤ 900000000 := by
              rw [← HE.out] at hwl2; simp only [List.length_append] at hwl2 ⊢; omega
            clear hwl hwl2
            go_wp2_with fail
            refine (IH.out _ (List.getElem_mem hlt) _ q _ B b _ X (by exact HX.out.alloc _) hX (by exact HBK.out.alloc _) (by simp; omega) hln).mono ?_
            rintro e w5 ⟨rfl, q5, hbd5, hfr5⟩
            have HBD5 := hide hbd5
            have HFR5 := hide (HFK.out.trans ((BFr.of_below ((Below.refl wr.heap.size wr).alloc (Nat.le_refl _) _) b q).trans hfr5))
            clear hbd5 hfr5
            go_wp2_with fail
            go_roundw
            case rel => exact ⟨0 + 1, q5, by omega, by go_num, by rw [← HE.out]; exact HBD5.out, HFR5.out⟩
            case measure => simp [intOf]; omega
          · have hkp : 0 < k := by omega
            have HE := hide (wr_takeS pre s l k hkp hlt)
            have hln : (pre ++ s.data.toList ++ 40 :: txtL (l.take k) ++ ([44] : List UInt8)).length + (txtL [l[k]]).length ≤ 900000000 := by
              rw [← HE.out] at hwl2; simp only [List.length_append] at hwl2 ⊢; omega
            have hbk : (bytesV (pre ++ s.data.toList ++ 40 :: txtL (l.take k))).length ≤ 1000000000 := by rw [bytesV_len]; omega
            clear hwl hwl2 hk0
            go_wp2_with fail
            refine (writeByte_any B b _ q 44 _ (by exact HBK.out.alloc _) hbk (by simp; omega)).mono ?_
            rintro e w4 ⟨rfl, q4, hbd4, hfr4⟩
            have hbd4' : Bld w4 B b (bytesV (pre ++ s.data.toList ++ 40 :: txtL (l.take k) ++ ([44] : List UInt8))) q4 := by
              have h3 := bytesV_one (pre ++ s.data.toList ++ 40 :: txtL (l.take k)) 44
              rw [← h3]; exact hbd4
            have HX4 := hide ((HX.out.alloc (.cells #[.string l[k].name, .slice a' l[k].args.length c'] 25)).bfr hfr4 (fun x hx => HBK.out.old (hX x hx)))
            have hb4 := HBK.out.box
            have K4 := hide ((Blk.new wr #[.string l[k].name, .slice a' l[k].args.length c'] 25).bfr hfr4 hb4.1 hb4.2)
            have e0 : w4.cell? ⟨wr.heap.size, 0, none⟩ = some (.string l[k].name) := K4.out.cell 0
            have e1 : w4.cell? ⟨wr.heap.size, 1, none⟩ = some (.slice a' l[k].args.length c') := K4.out.cell 1
            have hB4 : B ≤ w4.heap.size := by have := hfr4.2.2.2.1; simp at this; omega
            have HBD4 := hide hbd4'
            have HFR4 := hide (HFK.out.trans ((BFr.of_below ((Below.refl wr.heap.size wr).alloc (Nat.le_refl _) _) b q).trans hfr4))
            clear hbd4 hbd4' hfr4 hb4
            go_wp2_with fail
            refine (IH.out _ (List.getElem_mem hlt) _ q4 _ B b _ X (by exact HX4.out) hX (by exact HBD4.out) hB4 hln).mono ?_
            rintro e w5 ⟨rfl, q5, hbd5, hfr5⟩
            have HBD5 := hide hbd5
            have HFR5 := hide (HFR4.out.trans hfr5)
            clear hbd5 hfr5
            go_wp2_with fail
            go_roundw
            case rel => exact ⟨k + 1, q5, by omega, by go_num, by rw [← HE.out]; exact HBD5.out, HFR5.out⟩
            case measure => simp [intOf]; omega
        · have htk : l.take k = l := List.take_of_length_le (by omega)
          have hbk : (bytesV (pre ++ s.data.toList ++ 40 :: txtL (l.take k))).length ≤ 1000000000 := by rw [bytesV_len]; omega
          rw [htk] at hbdk hbk
          have HBE := hide hbdk
          have HE := hide (wr_end pre s l HN.out)
          clear hbdk hfrk hwl htk
          go_wp2_with fail
          refine (writeByte_any B b _ q 41 _ (by exact HBE.out) hbk hBr).mono ?_
          rintro e w4 ⟨rfl, q4, hbd4, hfr4⟩
          have hbd4' : Bld w4 B b (bytesV (pre ++ txtL [(⟨s, l⟩ : Tm)])) q4 := by
            have h3 := bytesV_one (pre ++ s.data.toList ++ 40 :: txtL l) 41
            rw [← HE.out, ← h3]; exact hbd4
          have HBD4 := hide hbd4'
          have HFR4 := hide (HW0.out.trans (HFK.out.trans hfr4))
          clear hbd4 hbd4' hfr4
          go_wp2_with fail
          go_end0
          exact ⟨rfl, q4, HBD4.out, HFR4.out⟩
#print axioms write_any
end Go.Proofs.Ytpbnbkeoiojpaac

/- Walks: the variables of a term, as the program gathers them. -/
namespace Go.Proofs.Ytpbnbkeoiojpaac
open Go.RowKit
set_option linter.unusedSimpArgs false
set_option linter.unusedVariables false

theorem Sl.grown {w w' : World} {X : Nat → Prop} {a : Option Addr} {l : List Tm} {r : Option Nat} (h : Sl w X a l) (hg : w.grownBy w' r) (hX : ∀ b, X b → some b ≠ r) : Sl w' X a l := by
  have h1 : Sl w (fun b => X b ∧ b < w.heap.size) a l := h.mono fun b h1 h2 => ⟨h1, h2⟩
  have h2 : Sl w' (fun b => X b ∧ b < w.heap.size) a l := h1.kept fun b hx => hg.block b hx.2 (hX b hx.1)
  exact h2.mono fun b hx _ => hx.1

theorem err_name {s : ByteArray} {l : List Tm} (h : errL [(⟨s, l⟩ : Tm)] = 0) : nameB s = true ∧ errL l = 0 := by
  simp only [errL] at h
  split at h
  · refine ⟨by assumption, ?_⟩
    split at h
    · exact absurd h (by decide)
    · split at h
      · assumption
      · exact h
  · exact absurd h (by decide)

theorem err_mem {l : List Tm} (h : errL l = 0) (k : Nat) (hk : k < l.length) : errL [l[k]] = 0 := by
  induction l generalizing k with
  | nil => simp at hk
  | cons t r ih =>
    rw [errL_cons] at h
    by_cases h0 : errL [t] = 0
    · rw [if_pos h0] at h
      cases k with
      | zero => exact h0
      | succ k => exact ih h k (by simpa using hk)
    · rw [if_neg h0] at h; exact absurd h h0

theorem NamesAt.lv {w0 w1 : World} {B : Nat} {q0 q1 : Value} {acc1 : List ByteArray} (h : NamesAt w0 B q0 acc1 q1 w1) : LV Value.string w1 (fun b => B ≤ b) q1 acc1 := LV.of_own h.1

theorem NamesAt.refl {w : World} {B : Nat} {q : Value} {acc : List ByteArray} (h : w.ownsRow B 9 1 q acc.length (acc.map Value.string)) : NamesAt w B q acc q w :=
  ⟨h, grown_of_below (Below.refl _ _) _, fun _ h => Or.inl h⟩

theorem names_append {w : World} {B : Nat} {q : Value} {acc : List ByteArray} (s : ByteArray) (h : w.ownsRow B 9 1 q acc.length (acc.map Value.string)) (hB : B ≤ w.heap.size) (hn : acc.length ≤ 3000000) (A : Nat) (hA : w.heap.size = A) :
    ∃ q2 w3, (Builtin.append_ #[22, 22] 22 #[q, .slice (some ⟨A, 0, none⟩) 1 1]).run Try.prog (w.alloc (.cells #[.string s] 9)) = .ok q2 w3 ∧ NamesAt w B q (acc ++ [s]) q2 w3 := by
  subst hA
  obtain ⟨i0, hi, hz0, hz1, hz2⟩ := info_parts Try.infoStr
  obtain ⟨g, cap, w3, hr, ho, hg, hat, hlt⟩ := run_append_lies (P := Try.prog) (w := w.alloc (.cells #[.string s] 9)) 22 22 B 9 i0 _ 1 16 Try.underlying22 hi hz0 hz1 hz2 rfl (by decide) q acc.length (acc.map Value.string) (h.alloc _)
    ⟨w.heap.size, 0, none⟩ 1 1 [.string s] rfl (cell_one_new _ _ _) (fun x hx => by simp at hx; subst hx; rfl) (by decide) (by unfold maxLen; omega) (by omega) (by simp; omega) _ rfl
  refine ⟨_, w3, hr, by simpa using ho, ?_, fun k hk => ?_⟩
  · exact grown_trans (grown_of_below ((Below.refl _ _).alloc (Nat.le_refl _) _) q.ownBlock) hg (fun k hk => Or.inl hk)
  · simp [Value.ownBlock] at hk
    subst hk
    rcases hat with e | e
    · exact Or.inl e
    · right; simp at e; omega

theorem names_start {w : World} {B : Nat} {q : Value} {acc : List ByteArray} (h : w.ownsRow B 9 1 q acc.length (acc.map Value.string)) (o : Obj) : NamesAt w B q acc q (w.alloc o) := (NamesAt.refl h).below ((Below.refl _ _).alloc (Nat.le_refl _) o)

/-- The row behind the box of the parameter. -/
theorem names_boxed {w w3 : World} {B : Nat} {q q2 : Value} {acc acc2 : List ByteArray} {o : Obj} (h : w.ownsRow B 9 1 q acc.length (acc.map Value.string)) (h2 : NamesAt (w.alloc o) B q acc2 q2 w3) : NamesAt w B q acc2 q2 w3 := (names_start h o).step h2

set_option maxHeartbeats 1000000 in
theorem addNames_any (t : Tm) : ∀ (q v : Value) (acc : List ByteArray) (w : World) (X : Nat → Prop) (B : Nat), TV w X v t → (∀ b, X b → b < B) → B ≤ w.heap.size → w.ownsRow B 9 1 q acc.length (acc.map Value.string) → errL [t] = 0 → acc.length + sizeL [t] ≤ 2000000 →
    Calls Try.prog 109 #[q, v] w fun e w' => ∃ q', e = .returned q' ∧ NamesAt w B q (varsP acc (preL [t])) q' w' := by
  induction t using Tm.ind with
  | h s l ih =>
    intro q v acc w X B hv hX hB hown herr hsm
    have IH := hide ih
    clear ih
    obtain ⟨a, c, rfl, hs⟩ := hv
    have hl := hs.1
    obtain ⟨hn, hel⟩ := err_name herr
    have hpos := name_pos hn
    have HEL := hide hel
    have hz : sizeL [(⟨s, l⟩ : Tm)] = 1 + sizeL l := by simp [sizeL]
    rw [hz] at hsm
    have HP : Hid (varsP acc (preL [(⟨s, l⟩ : Tm)]) = varsP (addV acc s) (preL l)) := by simp [Hid, preL, varsP]
    have HOWN := hide hown
    clear hz hn hel herr hown
    cases hvb : varB s with
    | false =>
      have HN := hide (addV_no (acc := acc) hvb)
      have HVB := hide hvb
      clear hvb
      go_enter Try.func109, Try.ntmps109
      go_wp2_with (go_at_call 47; refine (isVariable_any _ _ hpos).mono ?_; rintro e w' ⟨rfl, rfl⟩; rw [HVB.out])
      go_loopw [0, 25] (fun q' i wr => ∃ k : Nat, k ≤ l.length ∧ i = .int .i64 k ∧ NamesAt w B q (varsP (addV acc s) (preL (l.take k))) q' wr) (fun q' i wr => l.length - (intOf i).toNat)
      case atStart => exact ⟨0, Nat.zero_le _, rfl, by simp only [List.take_zero]; rw [HN.out]; simpa [preL, varsP] using names_start HOWN.out _⟩
      case round =>
        obtain ⟨k, hk, rfl, hna⟩ := hrel
        have HNA := hide hna
        have hlen := varsP_len (preL (l.take k)) (addV acc s)
        rw [preL_length] at hlen
        have hadd := addV_len acc s
        have hBr : B ≤ wr.heap.size := Nat.le_trans hB hna.2.1.size
        by_cases hlt : k < l.length
        · have hst := sizeL_take l k hlt
          have hst2 := sizeL_take_le l (k + 1)
          have hsr := hs.grown hna.2.1 (fun b hb e => by have h1 := hX b hb; have h2 := (HOWN.out.lt b e.symm).1; omega)
          obtain ⟨b, o, a', c', rfl, d0, d1, hx⟩ := hsr.get (Below.refl wr.heap.size wr) (fun _ _ h => h) k hlt
          have HX := hide hx
          have HT : Hid (varsP (addV acc s) (preL (l.take (k + 1))) = varsP (varsP (addV acc s) (preL (l.take k))) (preL [l[k]])) := by unfold Hid; rw [preL_take l k hlt, varsP_append]
          have HSM : Hid ((varsP (addV acc s) (preL (l.take k))).length + sizeL [l[k]] ≤ 2000000) := by unfold Hid; omega
          clear hna hsr hx hlen hadd hst hst2
          go_wp2_with fail
          refine (IH.out _ (List.getElem_mem hlt) _ _ _ _ X B (by exact HX.out.alloc _) hX (by simp; omega) (by exact HNA.out.1.alloc _) (err_mem HEL.out k hlt) HSM.out).mono ?_
          rintro e w5 ⟨q5, rfl, hna5⟩
          have HFIN := hide ((HNA.out.below ((Below.refl _ _).alloc (Nat.le_refl _) _)).step hna5)
          clear hna5
          go_wp2_with fail
          go_roundw
          case rel => exact ⟨k + 1, by omega, by go_num, by rw [HT.out]; exact HFIN.out⟩
          case measure => simp [intOf]; omega
        · have htk : l.take k = l := List.take_of_length_le (by omega)
          rw [htk] at hna
          have HNB := hide hna
          clear hna hlen hadd
          go_wp2_with fail
          go_ret
          exact ⟨_, rfl, by rw [HP.out]; exact HNB.out⟩
    | true =>
      have HVB := hide hvb
      cases hin : inB s acc with
      | true =>
        have HN := hide (addV_in hvb hin)
        have HIN := hide hin
        clear hvb hin
        go_enter Try.func109, Try.ntmps109
        go_wp2_with (first | (go_at_call 47; refine (isVariable_any _ _ hpos).mono ?_; rintro e w' ⟨rfl, rfl⟩; rw [HVB.out]) | (go_at_call 48; refine (contains_any _ _ _ _ _ (LV.of_own (HOWN.out.alloc _))).mono ?_; rintro e w' ⟨rfl, rfl⟩; rw [HIN.out]))
        go_loopw [0, 25] (fun q' i wr => ∃ k : Nat, k ≤ l.length ∧ i = .int .i64 k ∧ NamesAt w B q (varsP (addV acc s) (preL (l.take k))) q' wr) (fun q' i wr => l.length - (intOf i).toNat)
        case atStart => exact ⟨0, Nat.zero_le _, rfl, by simp only [List.take_zero]; rw [HN.out]; simpa [preL, varsP] using names_start HOWN.out _⟩
        case round =>
          obtain ⟨k, hk, rfl, hna⟩ := hrel
          have HNA := hide hna
          have hlen := varsP_len (preL (l.take k)) (addV acc s)
          rw [preL_length] at hlen
          have hadd := addV_len acc s
          have hBr : B ≤ wr.heap.size := Nat.le_trans hB hna.2.1.size
          by_cases hlt : k < l.length
          · have hst := sizeL_take l k hlt
            have hst2 := sizeL_take_le l (k + 1)
            have hsr := hs.grown hna.2.1 (fun b hb e => by have h1 := hX b hb; have h2 := (HOWN.out.lt b e.symm).1; omega)
            obtain ⟨b, o, a', c', rfl, d0, d1, hx⟩ := hsr.get (Below.refl wr.heap.size wr) (fun _ _ h => h) k hlt
            have HX := hide hx
            have HT : Hid (varsP (addV acc s) (preL (l.take (k + 1))) = varsP (varsP (addV acc s) (preL (l.take k))) (preL [l[k]])) := by unfold Hid; rw [preL_take l k hlt, varsP_append]
            have HSM : Hid ((varsP (addV acc s) (preL (l.take k))).length + sizeL [l[k]] ≤ 2000000) := by unfold Hid; omega
            clear hna hsr hx hlen hadd hst hst2
            go_wp2_with fail
            refine (IH.out _ (List.getElem_mem hlt) _ _ _ _ X B (by exact HX.out.alloc _) hX (by simp; omega) (by exact HNA.out.1.alloc _) (err_mem HEL.out k hlt) HSM.out).mono ?_
            rintro e w5 ⟨q5, rfl, hna5⟩
            have HFIN := hide ((HNA.out.below ((Below.refl _ _).alloc (Nat.le_refl _) _)).step hna5)
            clear hna5
            go_wp2_with fail
            go_roundw
            case rel => exact ⟨k + 1, by omega, by go_num, by rw [HT.out]; exact HFIN.out⟩
            case measure => simp [intOf]; omega
          · have htk : l.take k = l := List.take_of_length_le (by omega)
            rw [htk] at hna
            have HNB := hide hna
            clear hna hlen hadd
            go_wp2_with fail
            go_ret
            exact ⟨_, rfl, by rw [HP.out]; exact HNB.out⟩
      | false =>
        have HN := hide (addV_yes hvb hin)
        have HIN := hide hin
        clear hvb hin
        obtain ⟨q2, w3, hr2, hna2⟩ := names_append (w := w.alloc (.cells #[.string s, .slice a l.length c] 25)) (B := B) s (HOWN.out.alloc _) (by simp; omega) (by omega) (w.heap.size + 1) (by simp)
        have HR := hide hr2
        have hbox : Blk w3 w.heap.size #[.string s, .slice a l.length c] 25 := (Blk.new w _ _).grown hna2.2.1 (fun e => by have := (HOWN.out.lt _ e.symm).2; omega)
        have hbx1 : w3.cell? ⟨w.heap.size, 1, none⟩ = some (.slice a l.length c) := hbox.cell 1
        have HNA2 := hide (names_boxed HOWN.out hna2)
        clear hr2 hna2 hbox
        go_enter Try.func109, Try.ntmps109
        go_wp2_with (first | (go_at_call 47; refine (isVariable_any _ _ hpos).mono ?_; rintro e w' ⟨rfl, rfl⟩; rw [HVB.out]) | (go_at_call 48; refine (contains_any _ _ _ _ _ (LV.of_own (HOWN.out.alloc _))).mono ?_; rintro e w' ⟨rfl, rfl⟩; rw [HIN.out]) | (at_builtin; refine wpList_append_eq rfl _ _ _ _ rfl rfl rfl HR.out ?_))
        go_loopw [0, 25] (fun q' i wr => ∃ k : Nat, k ≤ l.length ∧ i = .int .i64 k ∧ NamesAt w B q (varsP (addV acc s) (preL (l.take k))) q' wr) (fun q' i wr => l.length - (intOf i).toNat)
        case atStart => exact ⟨0, Nat.zero_le _, rfl, by simp only [List.take_zero]; rw [HN.out]; simpa [preL, varsP] using HNA2.out⟩
        case round =>
          obtain ⟨k, hk, rfl, hna⟩ := hrel
          have HNA := hide hna
          have hlen := varsP_len (preL (l.take k)) (addV acc s)
          rw [preL_length] at hlen
          have hadd := addV_len acc s
          have hBr : B ≤ wr.heap.size := Nat.le_trans hB hna.2.1.size
          by_cases hlt : k < l.length
          · have hst := sizeL_take l k hlt
            have hst2 := sizeL_take_le l (k + 1)
            have hsr := hs.grown hna.2.1 (fun b hb e => by have h1 := hX b hb; have h2 := (HOWN.out.lt b e.symm).1; omega)
            obtain ⟨b, o, a', c', rfl, d0, d1, hx⟩ := hsr.get (Below.refl wr.heap.size wr) (fun _ _ h => h) k hlt
            have HX := hide hx
            have HT : Hid (varsP (addV acc s) (preL (l.take (k + 1))) = varsP (varsP (addV acc s) (preL (l.take k))) (preL [l[k]])) := by unfold Hid; rw [preL_take l k hlt, varsP_append]
            have HSM : Hid ((varsP (addV acc s) (preL (l.take k))).length + sizeL [l[k]] ≤ 2000000) := by unfold Hid; omega
            clear hna hsr hx hlen hadd hst hst2
            go_wp2_with fail
            refine (IH.out _ (List.getElem_mem hlt) _ _ _ _ X B (by exact HX.out.alloc _) hX (by simp; omega) (by exact HNA.out.1.alloc _) (err_mem HEL.out k hlt) HSM.out).mono ?_
            rintro e w5 ⟨q5, rfl, hna5⟩
            have HFIN := hide ((HNA.out.below ((Below.refl _ _).alloc (Nat.le_refl _) _)).step hna5)
            clear hna5
            go_wp2_with fail
            go_roundw
            case rel => exact ⟨k + 1, by omega, by go_num, by rw [HT.out]; exact HFIN.out⟩
            case measure => simp [intOf]; omega
          · have htk : l.take k = l := List.take_of_length_le (by omega)
            rw [htk] at hna
            have HNB := hide hna
            clear hna hlen hadd
            go_wp2_with fail
            go_ret
            exact ⟨_, rfl, by rw [HP.out]; exact HNB.out⟩
#print axioms addNames_any

set_option maxHeartbeats 1000000 in
theorem namesOf_any (t : Tm) (v : Value) (w : World) (X : Nat → Prop) (hv : TV w X v t) :
    Calls Try.prog 84 #[v] w fun e w' => ∃ v', e = .returned (.tuple #[v', .int .i64 (mayE t)]) ∧ (mayE t = 0 → LV Value.string w' (fun b => w.heap.size ≤ b) v' (varsP [] (preL [t]))) ∧ (mayE t ≠ 0 → v' = .slice none 0 0) ∧ Below w.heap.size w w' := by
  obtain ⟨X', hX, hv'⟩ : ∃ X' : Nat → Prop, (∀ b, X' b → b < w.heap.size) ∧ TV w X' v t := ⟨fun b => X b ∧ b < w.heap.size, fun _ h => h.2, hv.mono fun b h1 h2 => ⟨h1, h2⟩⟩
  clear hv
  obtain ⟨a, c, rfl, hs⟩ := hv'
  have HV := hide (show TV w X' (.agg #[.string t.name, .slice a t.args.length c]) t from ⟨a, c, rfl, hs⟩)
  clear hs
  go_enter Try.func84, Try.ntmps84
  go_wp2_with fail
  refine (check_any t _ _ X' (by exact HV.out.alloc _)).mono ?_
  rintro e w1 ⟨rfl, hb1⟩
  have hbk := (Blk.new w #[.string t.name, .slice a t.args.length c] 25).below hb1 (by simp)
  have c0 : w1.cell? ⟨w.heap.size, 0, none⟩ = some (.string t.name) := hbk.cell 0
  have c1 : w1.cell? ⟨w.heap.size, 1, none⟩ = some (.slice a t.args.length c) := hbk.cell 1
  have HB := hide (((Below.refl w.heap.size w).alloc (Nat.le_refl _) (.cells #[.string t.name, .slice a t.args.length c] 25)).trans (hb1.mono (by simp)))
  clear hb1 hbk
  by_cases h : mayE t = 0
  · have HM := hide h
    have HE : Hid (errL [t] = 0 ∧ sizeL [t] ≤ 200) := by
      unfold mayE at h
      split at h
      · exact absurd h (by decide)
      · exact ⟨h, by omega⟩
    rw [h]
    clear h
    go_wp2_with fail
    refine (addNames_any t _ _ [] _ X' w1.heap.size (by exact HV.out.later HB.out) (fun b hb => by have := hX b hb; have := HB.out.size; omega) (Nat.le_refl _) (World.ownsRow_nil _ _ _ _) HE.out.1 (by have := HE.out.2; simp; omega)).mono ?_
    rintro e w2 ⟨q2, rfl, hna⟩
    have HNA := hide hna
    clear hna
    go_wp2_with fail
    go_ret2
    refine ⟨q2, by rw [HM.out]; rfl, fun _ => ?_, fun h => absurd HM.out h, ?_⟩
    · exact HNA.out.lv.mono fun b hb _ => Nat.le_trans HB.out.size hb
    · exact HB.out.trans ⟨HNA.out.2.1.os, HNA.out.2.1.tape, HNA.out.2.1.output, HNA.out.2.1.size, fun k hk => HNA.out.2.1.block k (Nat.lt_of_lt_of_le hk HB.out.size) (by simp [Value.ownBlock])⟩
  · have h' : (mayE t == 0) = false := by simpa using h
    have HM := hide h
    clear h
    go_wp2_with fail
    go_ret2
    exact ⟨_, rfl, fun h => absurd h HM.out, fun _ => rfl, HB.out⟩
#print axioms namesOf_any
end Go.Proofs.Ytpbnbkeoiojpaac


/- Walks: Text. -/
namespace Go.Proofs.Ytpbnbkeoiojpaac
open Go.RowKit
set_option linter.unusedSimpArgs false
set_option linter.unusedVariables false
set_option maxRecDepth 8000

theorem name_le {s : ByteArray} (h : nameB s = true) : s.size ≤ 8 := by
  simp [nameB] at h; omega

/-- A text is not long. -/
theorem txt_len (l : List Tm) (h : errL l = 0) : (txtL l).length ≤ 11 * sizeL l := by
  induction l using Tm.indL with
  | h0 => simp [txtL]
  | h s l r ihl ihr =>
    rw [errL_cons] at h
    by_cases h0 : errL [(⟨s, l⟩ : Tm)] = 0
    · rw [if_pos h0] at h
      obtain ⟨hn, hl⟩ := err_name h0
      have h1 := ihl hl
      have h2 := ihr h
      have h3 := name_le hn
      have h4 : s.data.toList.length = s.size := by rw [Array.length_toList]; rfl
      simp only [txtL, sizeL, List.length_append]
      split <;> split <;> simp only [List.length_nil, List.length_cons, List.length_append] <;> omega
    · rw [if_neg h0] at h; exact absurd h h0

theorem bytes_cells (l : List UInt8) : bytesV l = Lib.byteCells l := rfl

set_option maxHeartbeats 1000000 in
theorem ktext_any (t : Tm) (v : Value) (w : World) (X : Nat → Prop) (hv : TV w X v t) (hlen : (txtL [t]).length ≤ 1000000) :
    Calls Try.prog 115 #[v] w fun e w' => e = .returned (.string ⟨(txtL [t]).toArray⟩) ∧ Below w.heap.size w w' := by
  obtain ⟨X', hX, hv'⟩ : ∃ X' : Nat → Prop, (∀ b, X' b → b < w.heap.size) ∧ TV w X' v t := ⟨fun b => X b ∧ b < w.heap.size, fun _ h => h.2, hv.mono fun b h1 h2 => ⟨h1, h2⟩⟩
  clear hv
  obtain ⟨a, c, rfl, hs⟩ := hv'
  have HV := hide (show TV w X' (.agg #[.string t.name, .slice a t.args.length c]) t from ⟨a, c, rfl, hs⟩)
  clear hs
  generalize hR : (.string ⟨(txtL [t]).toArray⟩ : Value) = R
  have HR := hide hR
  clear hR
  have K1 := hide (Blk.new w #[.string t.name, .slice a t.args.length c] 25)
  have HB := hide ((Below.refl w.heap.size w).alloc (Nat.le_refl _) (.cells #[.string t.name, .slice a t.args.length c] 25))
  have c0 : ∀ o, ((w.alloc (.cells #[.string t.name, .slice a t.args.length c] 25)).alloc o).cell? ⟨w.heap.size, 0, none⟩ = some (.string t.name) := fun o => (K1.out.alloc o).cell 0
  have c1 : ∀ o, ((w.alloc (.cells #[.string t.name, .slice a t.args.length c] 25)).alloc o).cell? ⟨w.heap.size, 1, none⟩ = some (.slice a t.args.length c) := fun o => (K1.out.alloc o).cell 1
  have HBD : Hid (Bld ((w.alloc (.cells #[.string t.name, .slice a t.args.length c] 25)).alloc (.cells #[.pointer none, .slice none 0 0] 175)) (w.heap.size + 1) (w.heap.size + 1) (bytesV []) (.slice none 0 0)) := ⟨Nat.le_refl _, ⟨_, Or.inl rfl, by have h := heap_alloc_new (w.alloc (.cells #[.string t.name, .slice a t.args.length c] 25)) (.cells #[.pointer none, .slice none 0 0] 175); simpa using h⟩, World.ownsRow_nil _ _ _ _⟩
  go_enter Try.func115, Try.ntmps115
  go_wp2_with fail
  have hz1 : (w.alloc (.cells #[.string t.name, .slice a t.args.length c] 25)).heap.size = w.heap.size + 1 := by simp
  generalize (w.alloc (.cells #[.string t.name, .slice a t.args.length c] 25)) = w1 at *
  rw [← hz1] at HBD ⊢
  clear hz1
  refine (write_any t _ _ [] w1.heap.size w1.heap.size _ X' (by exact (HV.out.later HB.out).alloc _) (fun b hb => by have := hX b hb; have := HB.out.size; omega) (by exact HBD.out) (by simp) (by simp; omega)).mono ?_
  rintro e w3 ⟨rfl, q3, hbd3, hfr3⟩
  have HISB : Hid (Lib.IsBuilder 175 5 w1.heap.size w1.heap.size (Lib.byteCells (txtL [t])) w3) := by
    have h1 : Bld w3 w1.heap.size w1.heap.size (Lib.byteCells (txtL [t])) q3 := by simpa [bytes_cells] using hbd3
    have hne := bd_ne h1
    obtain ⟨g1, ⟨p, hp, hb⟩, hown⟩ := h1
    rcases hp with rfl | rfl
    · exact Or.inl ⟨g1, q3, hb, hown, hne⟩
    · exact Or.inr ⟨g1, q3, hb, hown, hne⟩
  have hsz3 : w1.heap.size ≤ w3.heap.size := by have := hfr3.2.2.2.1; simp at this; omega
  have HB3 : Hid (Below w.heap.size w w3) := by
    refine HB.out.trans ⟨hfr3.1, hfr3.2.1, hfr3.2.2.1, hsz3, fun k hk => ?_⟩
    have hk1 : k < w1.heap.size := Nat.lt_of_lt_of_le hk HB.out.size
    rw [hfr3.2.2.2.2.1 k (by simp; omega) (by omega) (by simp [Value.ownBlock]), Below.heap_alloc _ _ _ hk1]
  clear hbd3 hfr3 c0 c1
  go_wp2_with fail
  refine (Try.Builder_String_any w1.heap.size w1.heap.size (txtL [t]) _ HISB.out hsz3).mono ?_
  rintro e w4 ⟨rfl, hb4⟩
  go_wp2_with fail
  go_ret
  exact ⟨by rw [← HR.out]; rfl, HB3.out.trans (hb4.mono HB.out.size)⟩

end Go.Proofs.Ytpbnbkeoiojpaac

/- Walks: terms get numbers. -/
namespace Go.Proofs.Ytpbnbkeoiojpaac
open Go.RowKit
set_option linter.unusedSimpArgs false
set_option linter.unusedVariables false
set_option maxRecDepth 8000

theorem Try.infoItem : (Try.prog.info? 100).map (fun i => (i.zero, i.size, i.bytes)) = some (some (.agg #[.string ByteArray.empty, .slice none 0 0, .int .i64 0, .int .i64 0]), 4, 56) := by kernel_rfl
theorem cell_4new (w : World) (c0 c1 c2 c3 : Value) (T : Nat) : ∀ j u, [c0, c1, c2, c3][j]? = some u → (w.alloc (.cells #[c0, c1, c2, c3] T)).cell? ((⟨w.heap.size, 0, none⟩ : Addr).add j) = some u :=
  World.news_of_block (cs := #[c0, c1, c2, c3]) (heap_alloc_new w _)
/-- One appended to a row of numbered terms. -/
theorem items_append {w : World} {N : Nat} {S : List Tm} {v : Value} {l : List Tm} {xs : List Value} (h : IRow w N 100 S v l xs) (hN : N ≤ w.heap.size) {M : Nat} (hNM : N ≤ M) {t : Tm} {a : Option Addr} {c : Nat} (hM : ∀ b, some b = v.ownBlock → b < M)
    (ht : IV w (fun b => M ≤ b) S (.agg #[.string t.name, .slice a t.args.length c, .int .i64 (numT t S), .int .i64 (sizeL [t])]) t) (hn : l.length ≤ 1000000) (A : Nat) (hA : w.heap.size = A) :
    ∃ g cap w3 xs2, (Builtin.append_ #[98, 98] 98 #[v, .slice (some ⟨A, 0, none⟩) 1 1]).run Try.prog (w.alloc (.cells #[.string t.name, .slice a t.args.length c, .int .i64 (numT t S), .int .i64 (sizeL [t])] 100)) = .ok (.slice (some ⟨g, 0, none⟩) (l.length + 1) cap) w3 ∧ IRow w3 N 100 S (.slice (some ⟨g, 0, none⟩) (l.length + 1) cap) (l ++ [t]) xs2 ∧
      (w.alloc (.cells #[.string t.name, .slice a t.args.length c, .int .i64 (numT t S), .int .i64 (sizeL [t])] 100)).grownBy w3 v.ownBlock ∧ (v.ownBlock = some g ∨ w.heap.size ≤ g) := by
  subst hA
  obtain ⟨i0, hi, hz0, hz1, hz2⟩ := info_parts Try.infoItem
  obtain ⟨g, cap, w3, hr, ho, hg, hat, hlt⟩ := run_append_lies (P := Try.prog) (w := w.alloc (.cells #[.string t.name, .slice a t.args.length c, .int .i64 (numT t S), .int .i64 (sizeL [t])] 100)) 98 98 N 100 i0 _ 4 56 Try.underlying98 hi hz0 hz1 hz2 rfl (by decide) v l.length xs (h.own.alloc _)
    ⟨w.heap.size, 0, none⟩ 1 1 [.string t.name, .slice a t.args.length c, .int .i64 (numT t S), .int .i64 (sizeL [t])] rfl (cell_4new _ _ _ _ _ _) (fun y hy => by simp at hy; rcases hy with rfl | rfl | rfl | rfl <;> rfl) (by decide) (by unfold maxLen; omega) (by omega) (by simp; omega) _ rfl
  refine ⟨g, cap, w3, _, hr, h.push hNM hM ht _ rfl ho hg hat, hg, ?_⟩
  rcases hat with h1 | h1
  · exact Or.inl h1
  · right; simp at h1; omega
theorem map_len {w : World} {r : Nat} {L : List (ByteArray × Value)} (h : MapAt w r L) {P : Program} {T kt et ty : TypeId} (hm : P.underlying T = some (.map kt et)) : (Builtin.len_ #[T] ty #[.map (some r)]).run P w = .ok (.int .i64 L.length) w := by
  obtain ⟨es, clk, hb, he, _⟩ := h
  have : es.size = L.length := by simpa using congrArg List.length he
  simp [Builtin.len_, run_underlying hm, MapKept.run_getObj_map hb, goInt, Result.andThen, this]
/-- So many of those below have got numbers. -/
def NumInv (r B O : Nat) (t : Tm) (a : Option Addr) (c : Nat) (S1 : List Tm) (w : World) (i : Value) (wr : World) : Prop :=
  ∃ (k : Nat) (R0 S2 : List Tm) (vr : Value) (xs : List Value), k ≤ t.args.length ∧ i = .int .i64 (k : Int) ∧ ((∃ R, S2 = S1 ++ R) ∧ S2.length ≤ S1.length + sizeL (t.args.take k)) ∧ (∀ x ∈ S2, errL [x] = 0) ∧ Blk wr O #[.string t.name, vr, .int .i64 (numT t S1), .int .i64 (1 + sizeL (t.args.take k))] 100 ∧
    IRow wr (O + 1) 100 S2 vr (t.args.take k) xs ∧ MapAt wr r (numL 0 S2) ∧ Blk wr B #[.string t.name, .slice a t.args.length c] 25 ∧ Blk wr (B + 1) #[.string ⟨#[]⟩, .slice none 0 0, .int .i64 0, .int .i64 0] 100 ∧ Ex r w wr

set_option maxHeartbeats 4000000 in
theorem number_any (t : Tm) : ∀ (S : List Tm) (r : Nat) (v : Value) (w : World) (X : Nat → Prop), errL [t] = 0 → sizeL [t] ≤ 20000 → (∀ x ∈ S, errL [x] = 0) → MapAt w r (numL 0 S) → TV w X v t → (∀ b, X b → b ≠ r) →
    Calls Try.prog 94 #[v, .map (some r)] w fun e w' => ∃ S' v', e = .returned v' ∧ ((∃ R, S' = S ++ R) ∧ S'.length ≤ S.length + sizeL [t]) ∧ (∀ x ∈ S', errL [x] = 0) ∧ MapAt w' r (numL 0 S') ∧ IV w' (fun b => w.heap.size ≤ b) S' v' t ∧ Ex r w w' := by
  induction t using Tm.ind with
  | h s l ih =>
    intro S r v w X he hsz hS hM hv hXr
    obtain ⟨a, c, rfl, hs⟩ := hv
    have IH := hide ih
    have HS := hide hs
    have hl := hs.1
    have hrl := hM.lt
    have hr2 : r < w.heap.size := hrl
    have HERR : Hid (∀ k (h : k < l.length), errL [l[k]] = 0) := fun k h => err_mem (errL_parts0 he) k h
    have hszl : sizeL [(⟨s, l⟩ : Tm)] = 1 + sizeL l := by simp [sizeL]
    have HSL : Hid (sizeL l + 1 ≤ 20000) := by unfold Hid; omega
    have HSZ : Hid (∀ k (h : k < l.length), sizeL [l[k]] ≤ sizeL l) := fun k h => by
      have := size_arg (t := ⟨s, l⟩) (List.getElem_mem h)
      omega
    have HTX := hide (txt_len [(⟨s, l⟩ : Tm)] he)
    have HE := hide he
    have HT := hide (show TV w X (.agg #[.string s, .slice a l.length c]) (⟨s, l⟩ : Tm) from ⟨a, c, rfl, hs⟩)
    have HMP := hide hM
    have ESS := hide hS
    clear ih hs hM hS
    go_enter Try.func94, Try.ntmps94
    go_wp2_with fail
    refine (ktext_any (⟨s, l⟩ : Tm) _ _ X (by exact (HT.out.alloc _).alloc _) (by have := HTX.out; omega)).mono ?_
    rintro e w1 ⟨rfl, hb1⟩
    have B1 : Hid (Below w.heap.size w w1) := ((((Below.refl w.heap.size w).alloc (Nat.le_refl _) (.cells #[.string s, .slice a l.length c] 25)).alloc (by simp) (.cells #[.string ⟨#[]⟩, .slice none 0 0, .int .i64 0, .int .i64 0] 100)).trans (hb1.mono (by simp; omega)))
    have KT : Hid (Blk w1 w.heap.size #[.string s, .slice a l.length c] 25) := ((Blk.new w _ _).alloc _).below hb1 (by simp; omega)
    have KQ : Hid (Blk w1 (w.heap.size + 1) #[.string ⟨#[]⟩, .slice none 0 0, .int .i64 0, .int .i64 0] 100) := by
      have h := Blk.new (w.alloc (.cells #[.string s, .slice a l.length c] 25)) #[.string ⟨#[]⟩, .slice none 0 0, .int .i64 0, .int .i64 0] 100
      have e : (w.alloc (.cells #[.string s, .slice a l.length c] 25)).heap.size = w.heap.size + 1 := by simp
      rw [e] at h
      exact h.below hb1 (by simp)
    have M1 := hide (HMP.out.below B1.out hrl)
    have E1 : Hid (Ex r w w1) := ⟨B1.out.os, B1.out.tape, B1.out.output, B1.out.size, fun k hk _ => B1.out.block k hk⟩
    clear hb1 HMP
    have hget := numL_get HE.out S 0 ESS.out
    have hz := Try.zeroValue3 w1
    by_cases hin : numT (⟨s, l⟩ : Tm) S < S.length
    · rw [if_pos hin] at hget
      have hlook : (Instr.lookup 92 (.map (some r)) (.string ⟨(txtL [(⟨s, l⟩ : Tm)]).toArray⟩) true).run Try.prog w1 = .ok (.tuple #[.int .i64 (numT (⟨s, l⟩ : Tm) S), .bool true]) w1 := by
        rw [run_look (P := Try.prog) Try.underlying92 Try.underlying9 hz M1.out _]
        rw [show (⟨(txtL [(⟨s, l⟩ : Tm)]).toArray⟩ : ByteArray) = txtB ⟨s, l⟩ from rfl, hget]
        simp
      clear hget hz
      obtain ⟨S1, hS1⟩ : ∃ S1, S1 = S := ⟨S, rfl⟩
      obtain ⟨w2, hw2⟩ : ∃ w2, w2 = w1 := ⟨w1, rfl⟩
      obtain ⟨NN, hNN⟩ : ∃ NN : Int, NN = numT (⟨s, l⟩ : Tm) S := ⟨_, rfl⟩
      rw [← hNN, ← hw2] at hlook
      have HNN : Hid ((numT (⟨s, l⟩ : Tm) S1 : Int) = NN) := by unfold Hid; rw [hS1, hNN]
      have MEM : Hid ((⟨s, l⟩ : Tm) ∈ S1) := by unfold Hid; rw [hS1]; exact numT_lt.1 hin
      have GS : Hid ((∃ R, S1 = S ++ R) ∧ S1.length ≤ S.length + 1) := ⟨⟨[], by rw [hS1]; simp⟩, by rw [hS1]; omega⟩
      have ES : Hid (∀ x ∈ S1, errL [x] = 0) := by unfold Hid; rw [hS1]; exact ESS.out
      have M2 : Hid (MapAt w2 r (numL 0 S1)) := by unfold Hid; rw [hS1, hw2]; exact M1.out
      have K2 : Hid (Blk w2 w.heap.size #[.string s, .slice a l.length c] 25) := by unfold Hid; rw [hw2]; exact KT.out
      have KR : Hid (Blk w2 (w.heap.size + 1) #[.string ⟨#[]⟩, .slice none 0 0, .int .i64 0, .int .i64 0] 100) := by unfold Hid; rw [hw2]; exact KQ.out
      have E2 : Hid (Ex r w w2) := by unfold Hid; rw [hw2]; exact E1.out
      clear M1 KT KQ E1 B1 hS1 hNN hin
      subst hw2
      have Q0 : ∀ o, (w2.alloc o).cell? ⟨w.heap.size, 0, none⟩ = some (.string s) := fun o => (K2.out.alloc o).cell 0
      have Q1 : ∀ o, (w2.alloc o).cell? ⟨w.heap.size, 1, none⟩ = some (.slice a l.length c) := fun o => (K2.out.alloc o).cell 1
      have Q2 : w2.cell? ⟨w.heap.size, 0, none⟩ = some (.string s) := K2.out.cell 0
      have Q3 : w2.cell? ⟨w.heap.size, 1, none⟩ = some (.slice a l.length c) := K2.out.cell 1
      go_wp2_with fail
      have HINV0 : Hid (NumInv r w.heap.size w2.heap.size (⟨s, l⟩ : Tm) a c S1 w (.int .i64 0) (w2.alloc (.cells #[.string s, .slice none 0 0, .int .i64 NN, .int .i64 1] 100))) := by
        refine ⟨0, [], S1, .slice none 0 0, [], Nat.zero_le _, rfl, ⟨⟨[], by simp⟩, by simp⟩, ES.out, by have h := Blk.new w2 #[.string s, .slice none 0 0, .int .i64 NN, .int .i64 1] 100; simpa [HNN.out, sizeL] using h, IRow.start _ _ _ _, M2.out.kept (Below.heap_alloc _ _ _ M2.out.lt), K2.out.alloc _, KR.out.alloc _, E2.out.alloc _⟩
      generalize w2.alloc (.cells #[.string s, .slice none 0 0, .int .i64 NN, .int .i64 1] 100) = w3 at *
      clear Q0 Q1 Q2 Q3
      have hO : w.heap.size + 2 ≤ w2.heap.size := by have := KR.out.lt; omega
      go_loopw [34] (fun i wr => NumInv r w.heap.size w2.heap.size (⟨s, l⟩ : Tm) a c S1 w i wr) (fun i wr => l.length - (intOf i).toNat)
      case atStart => exact HINV0.out
      case round =>
        clear HINV0
        obtain ⟨k, R0, S2, vr, xs, hk, rfl, ⟨⟨R, hS2⟩, hSz⟩, hES, hO1, hrow, hM, hT, hRb, hE⟩ := hrel
        have XO := hide hO1
        have XROW := hide hrow
        have XM := hide hM
        have XT := hide hT
        have XR := hide hRb
        have XE := hide hE
        have XES := hide hES
        have c1 : wr.cell? ⟨w.heap.size, 1, none⟩ = some (.slice a l.length c) := hT.cell 1
        by_cases hlt : k < l.length
        · have hlt2 : (k : Int) < (l.length : Int) := by omega
          have hSlk : Sl wr X a l := HS.out.exq (ExQ.ofEx (Q := fun b => b = r) hE rfl) (fun b hb => hXr b hb)
          obtain ⟨b, o, a', c', rfl, d0, d1, hx⟩ := hSlk.get (Below.refl _ _) (fun _ _ h => h) k hlt
          have HX := hide hx
          clear hx hSlk hO1 hrow hM hT hRb hE hES
          go_wp2_with fail
          refine (IH.out l[k] (List.getElem_mem hlt) S2 r _ _ X (HERR.out k hlt) (by have := HSZ.out k hlt; omega) XES.out (XM.out.kept (Below.heap_alloc _ _ _ XM.out.lt)) (by exact HX.out.alloc _) hXr).mono ?_
          rintro e w4 ⟨S3, v3, rfl, ⟨⟨R3, hS3⟩, hSz3⟩, hES3, hM3, hIV, hE3⟩
          obtain ⟨hmem3, a3, c3, rfl, hsl3⟩ := hIV
          have hOw : w2.heap.size < wr.heap.size := XO.out.lt
          have hE4 : Ex r wr w4 := ((Ex.refl r wr).alloc _).trans hE3
          have hrO : r ≠ w2.heap.size := by have := hr2; omega
          have hwz := hE4.size
          have hwz3 : wr.heap.size + 1 ≤ w4.heap.size := by have := hE3.size; simpa using this
          have HS3 := hide hS3
          have HS2 := hide hS2
          clear hS2
          have YO := hide (XO.out.ex hE4 (fun e => hrO e.symm))
          have YT := hide (XT.out.ex hE4 (by omega))
          have YR := hide (XR.out.ex hE4 (by omega))
          have YE := hide (XE.out.trans hE4)
          have YM := hide hM3
          have YES := hide hES3
          have YI : Hid (IV w4 (fun b => wr.heap.size + 1 ≤ b) S3 (.agg #[.string l[k].name, .slice a3 l[k].args.length c3, .int .i64 (numT l[k] S3), .int .i64 (sizeL [l[k]])]) l[k]) := ⟨hmem3, a3, c3, rfl, hsl3.mono fun b hb _ => by simp at hb; omega⟩
          have YROW : Hid (IRow w4 (w2.heap.size + 1) 100 S3 vr (l.take k) xs) := by
            unfold Hid
            rw [HS3.out]
            exact (XROW.out.kept (fun b hb1 hb2 => hE4.block b hb2 (by omega)) hwz hE4.os hE4.tape hE4.output).more R3
          clear hM3 hES3 hsl3 hE3 hE4 hS3
          have hlk : (l.take k).length = k := by simp; omega
          have hl2 : l.length ≤ 20000 := by have := sizeL_len l; have := HSL.out; omega
          have hvlt : ∀ b, some b = vr.ownBlock → b < wr.heap.size + 1 := fun b hb => by have := (XROW.out.own.lt b hb.symm).2; omega
          obtain ⟨g5, cap5, w5, xs5, hrun, hrow5, hg5, hvb5⟩ := items_append (t := l[k]) (a := a3) (c := c3) (YROW.out.kept (w' := w4.alloc (.cells #[.string l[k].name, .slice a3 l[k].args.length c3, .int .i64 (numT l[k] S3), .int .i64 (sizeL [l[k]])] 100)) (fun b _ hb => Below.heap_alloc _ _ _ hb) (by simp) rfl rfl rfl) (by simp; omega) (M := wr.heap.size + 1) (by omega) hvlt (YI.out.alloc _) (by omega) (w4.heap.size + 1) (by simp)
          rw [hlk] at hrun hrow5
          have HRUN := hide hrun
          have ZO : Blk w5 w2.heap.size #[.string s, vr, .int .i64 (numT (⟨s, l⟩ : Tm) S1), .int .i64 (1 + sizeL (l.take k))] 100 := ((YO.out.alloc _).alloc _).grown hg5 (YROW.out.ne (by omega))
          have ZX : Blk w5 w4.heap.size #[.string l[k].name, .slice a3 l[k].args.length c3, .int .i64 (numT l[k] S3), .int .i64 (sizeL [l[k]])] 100 := ((Blk.new w4 _ _).alloc _).grown hg5 (fun e => by have := hvlt _ e; omega)
          have z0 : w5.cell? ⟨w2.heap.size, 1, none⟩ = some vr := ZO.cell 1
          have z1 : w5.cell? ⟨w2.heap.size, 3, none⟩ = some (.int .i64 (1 + sizeL (l.take k))) := ZO.cell 3
          have z2 : w5.cell? ⟨w4.heap.size, 3, none⟩ = some (.int .i64 (sizeL [l[k]])) := ZX.cell 3
          have zf := ZO.frozen
          have hst := sizeL_take l k hlt
          have hsb : sizeL (l.take (k + 1)) ≤ 20000 := by have h1 := sizeL_append (l.take (k + 1)) (l.drop (k + 1)); rw [List.take_append_drop] at h1; have := HSL.out; omega
          have y1 : ∀ o, (w4.alloc o).cell? ⟨w2.heap.size, 1, none⟩ = some vr := fun o => (YO.out.alloc o).cell 1
          have YS : sizeL [l[k]] ≤ 20000 := by omega
          have HFIN : Hid (NumInv r w.heap.size w2.heap.size (⟨s, l⟩ : Tm) (some ⟨b, o, none⟩) c S1 w (.int .i64 ((k + 1 : Nat) : Int)) ((w5.setCell ⟨w2.heap.size, 1, none⟩ (.slice (some ⟨g5, 0, none⟩) (k + 1) cap5)).setCell ⟨w2.heap.size, 3, none⟩ (.int .i64 (1 + (sizeL (l.take k) : Int) + (sizeL [l[k]] : Int))))) := by
            have hgs := hg5.size
            refine ⟨k + 1, R0, S3, (.slice (some ⟨g5, 0, none⟩) (k + 1) cap5), xs5, by show k + 1 ≤ l.length; omega, rfl, ⟨⟨R ++ R3, by rw [HS3.out, HS2.out, List.append_assoc]⟩, by show S3.length ≤ S1.length + sizeL (l.take (k + 1)); omega⟩, YES.out, ?_, ?_, ?_, ?_, ?_, ?_⟩
            · have := (ZO.set 1 (.slice (some ⟨g5, 0, none⟩) (k + 1) cap5)).set 3 (.int .i64 (1 + (sizeL (l.take k) : Int) + (sizeL [l[k]] : Int)))
              simpa [hst, Int.add_assoc] using this
            · have e : l.take (k + 1) = l.take k ++ [l[k]] := List.take_succ_eq_append_getElem hlt
              rw [e]
              exact (hrow5.setCell (by omega) _).setCell (by omega) _
            · have hMl := YM.out.lt
              refine YM.out.kept ?_
              rw [Below.heap_setCell _ _ _ _ (by simpa using hrO), Below.heap_setCell _ _ _ _ (by simpa using hrO), hg5.block r (by simp; omega) (fun e => by have := (YROW.out.own.lt r e.symm).1; omega), Below.heap_alloc _ _ _ (by simp; omega), Below.heap_alloc _ _ _ hMl]
            · exact ((((YT.out.alloc _).alloc _).grown hg5 (YROW.out.ne (by omega))).setOther _ _ (by omega)).setOther _ _ (by omega)
            · exact ((((YR.out.alloc _).alloc _).grown hg5 (YROW.out.ne (by omega))).setOther _ _ (by omega)).setOther _ _ (by omega)
            · exact ((((YE.out.alloc _).alloc _).grown hg5 (fun j hj => by have := (YROW.out.own.lt j hj).1; omega)).setNew (by omega) _ _).setNew (by omega) _ _
          have hsk : sizeL (l.take k) ≤ 20000 := by omega
          clear hrun hrow5 hg5 hvb5 ZX hst
          have y3 : ∀ v, (w5.setCell ⟨w2.heap.size, 1, none⟩ v).cell? ⟨w2.heap.size, 3, none⟩ = some (.int .i64 (1 + sizeL (l.take k))) := fun v => by rw [World.cell?_setCell_other _ _ _ _ (by simp)]; exact z1
          have y4 : ∀ v, (w5.setCell ⟨w2.heap.size, 1, none⟩ v).cell? ⟨w4.heap.size, 3, none⟩ = some (.int .i64 (sizeL [l[k]])) := fun v => by rw [World.cell?_setCell_other _ _ _ _ (by simp)]; exact z2
          have zf2 := fun v => (ZO.set 1 v).frozen
          go_wp2_with (at_builtin; refine wpList_append_eq rfl _ _ _ _ rfl rfl rfl HRUN.out ?_)
          go_roundw
          case rel =>
            have h := HFIN.out
            have e : ((k + 1 : Nat) : Int) = (k : Int) + 1 := by omega
            rw [e] at h
            exact h
          case measure => simp [intOf]; omega
        · have htk : l.take k = l := List.take_of_length_le (by omega)
          rw [htk] at hO1 hrow
          obtain ⟨a9, c9, hv9, hs9⟩ := hrow.sl
          subst hv9
          have p0 := hO1.cell 0
          have p1 := hO1.cell 1
          have p2 := hO1.cell 2
          have p3 := hO1.cell 3
          have r0 := hRb.cell 0
          have r1 := hRb.cell 1
          have r2 := hRb.cell 2
          have r3 := hRb.cell 3
          have rf := hRb.frozen
          simp only [List.getElem?_toArray, List.getElem?_cons_zero, List.getElem?_cons_succ] at p0 p1 p2 p3 r0 r1 r2 r3
          have HS9 := hide hs9
          have HZN : Hid (sizeL [(⟨s, l⟩ : Tm)] = 1 + sizeL l) := by unfold Hid; simp [sizeL]
          have HSZ2 : Hid (S2.length ≤ S1.length + sizeL l) := by unfold Hid; simpa [htk] using hSz
          have HZ : Hid ((1 : Int) + sizeL l = sizeL [(⟨s, l⟩ : Tm)]) := by unfold Hid; simp [sizeL]
          have HN : Hid (numT (⟨s, l⟩ : Tm) S1 = numT (⟨s, l⟩ : Tm) S2) := by unfold Hid; rw [hS2, numT_more R MEM.out]
          have HMM : Hid ((⟨s, l⟩ : Tm) ∈ S2) := by unfold Hid; rw [hS2]; exact List.mem_append_left _ MEM.out
          clear hs9 htk hO1 hrow hM hT hRb hE hES
          go_wp2_with fail
          refine bodyPost_ret (v := .agg #[.string s, .slice a9 l.length c9, .int .i64 (numT (⟨s, l⟩ : Tm) S1), .int .i64 (1 + sizeL l)]) (by simp [results, Try.results94, go_sem, World.cell?_setCell_same, World.cell?_setCell_other, r0, r1, r2, r3]) rfl ?_
          refine ⟨S2, _, rfl, ?_, XES.out, ?_, ?_, ?_⟩
          · obtain ⟨⟨R1, hR1⟩, hR2⟩ := GS.out
            refine ⟨⟨R1 ++ R, by rw [hS2, hR1, List.append_assoc]⟩, ?_⟩
            have := HZN.out
            have h3 : S2.length ≤ S1.length + sizeL l := HSZ2.out
            omega
          · refine XM.out.kept ?_
            have hne : r ≠ w.heap.size + 1 := by omega
            rw [Below.heap_setCell _ _ _ _ (by simpa using hne), Below.heap_setCell _ _ _ _ (by simpa using hne), Below.heap_setCell _ _ _ _ (by simpa using hne), Below.heap_setCell _ _ _ _ (by simpa using hne)]
          · refine ⟨HMM.out, a9, c9, by rw [HZ.out, HN.out], ?_⟩
            refine (HS9.out.kept fun b hb => ?_).mono fun b hb _ => by omega
            have hne : b ≠ w.heap.size + 1 := by omega
            rw [Below.heap_setCell _ _ _ _ (by simpa using hne), Below.heap_setCell _ _ _ _ (by simpa using hne), Below.heap_setCell _ _ _ _ (by simpa using hne), Below.heap_setCell _ _ _ _ (by simpa using hne)]
          · exact (((XE.out.setNew (by omega) _ _).setNew (by omega) _ _).setNew (by omega) _ _).setNew (by omega) _ _
    · rw [if_neg hin] at hget
      have hlook : (Instr.lookup 92 (.map (some r)) (.string ⟨(txtL [(⟨s, l⟩ : Tm)]).toArray⟩) true).run Try.prog w1 = .ok (.tuple #[.int .i64 0, .bool false]) w1 := by
        rw [run_look (P := Try.prog) Try.underlying92 Try.underlying9 hz M1.out _]
        rw [show (⟨(txtL [(⟨s, l⟩ : Tm)]).toArray⟩ : ByteArray) = txtB ⟨s, l⟩ from rfl, hget]
        simp
      have hlen : (Builtin.len_ #[92] 3 #[.map (some r)]).run Try.prog w1 = .ok (.int .i64 (S.length : Int)) w1 := by
        rw [map_len M1.out Try.underlying92, numL_len]
      obtain ⟨w2, hrun2, hM2, hz2, ho2, ht2, hu2, hk2⟩ := run_put (P := Try.prog) Try.underlying92 Try.underlying9 M1.out (txtB ⟨s, l⟩) (.int .i64 (S.length : Int)) hget
      have hrun2' : (Instr.mapUpdate 92 (.map (some r)) (.string ⟨(txtL [(⟨s, l⟩ : Tm)]).toArray⟩) (.int .i64 (S.length : Int))).run Try.prog w1 = .ok () w2 := hrun2
      have hnl : numT (⟨s, l⟩ : Tm) S = S.length := by have := numT_le (⟨s, l⟩ : Tm) S; omega
      obtain ⟨NN, hNN⟩ : ∃ NN : Int, NN = S.length := ⟨_, rfl⟩
      rw [← hNN] at hlen hrun2'
      obtain ⟨S1, hS1⟩ : ∃ S1, S1 = S ++ [(⟨s, l⟩ : Tm)] := ⟨_, rfl⟩
      have hsee : seeT S (⟨s, l⟩ : Tm) = S1 := by rw [hS1]; unfold seeT; rw [if_neg hin]
      have HNN : Hid ((numT (⟨s, l⟩ : Tm) S1 : Int) = NN) := by unfold Hid; rw [← hsee, see_num, hnl, hNN]
      have MEM : Hid ((⟨s, l⟩ : Tm) ∈ S1) := by unfold Hid; rw [hS1]; simp
      have GS : Hid ((∃ R, S1 = S ++ R) ∧ S1.length ≤ S.length + 1) := ⟨⟨_, hS1⟩, by rw [hS1]; simp⟩
      have ES : Hid (∀ x ∈ S1, errL [x] = 0) := by
        unfold Hid
        rw [hS1]
        intro x hx
        rw [List.mem_append] at hx
        rcases hx with hx | hx
        · exact ESS.out x hx
        · have e : x = ⟨s, l⟩ := by simpa using hx
          rw [e]; exact HE.out
      have M2 : Hid (MapAt w2 r (numL 0 S1)) := by
        unfold Hid
        rw [hS1, numL_push]
        simpa using hM2
      have E2 : Hid (Ex r w w2) := ⟨ho2.trans E1.out.os, ht2.trans E1.out.tape, hu2.trans E1.out.output, by rw [hz2]; exact E1.out.size, fun k hk hn => (hk2 k hn).trans (E1.out.block k hk hn)⟩
      have K2 : Hid (Blk w2 w.heap.size #[.string s, .slice a l.length c] 25) := (hk2 _ (by omega)).trans KT.out
      have KR : Hid (Blk w2 (w.heap.size + 1) #[.string ⟨#[]⟩, .slice none 0 0, .int .i64 0, .int .i64 0] 100) := (hk2 _ (by omega)).trans KQ.out
      clear M1 KT KQ E1 B1 hS1 hNN hin hM2 hz2 ho2 ht2 hu2 hk2 hget hz hnl hsee hrun2
      have Q0 : ∀ o, (w2.alloc o).cell? ⟨w.heap.size, 0, none⟩ = some (.string s) := fun o => (K2.out.alloc o).cell 0
      have Q1 : ∀ o, (w2.alloc o).cell? ⟨w.heap.size, 1, none⟩ = some (.slice a l.length c) := fun o => (K2.out.alloc o).cell 1
      have Q2 : w2.cell? ⟨w.heap.size, 0, none⟩ = some (.string s) := K2.out.cell 0
      have Q3 : w2.cell? ⟨w.heap.size, 1, none⟩ = some (.slice a l.length c) := K2.out.cell 1
      go_wp2_with fail
      have HINV0 : Hid (NumInv r w.heap.size w2.heap.size (⟨s, l⟩ : Tm) a c S1 w (.int .i64 0) (w2.alloc (.cells #[.string s, .slice none 0 0, .int .i64 NN, .int .i64 1] 100))) := by
        refine ⟨0, [], S1, .slice none 0 0, [], Nat.zero_le _, rfl, ⟨⟨[], by simp⟩, by simp⟩, ES.out, by have h := Blk.new w2 #[.string s, .slice none 0 0, .int .i64 NN, .int .i64 1] 100; simpa [HNN.out, sizeL] using h, IRow.start _ _ _ _, M2.out.kept (Below.heap_alloc _ _ _ M2.out.lt), K2.out.alloc _, KR.out.alloc _, E2.out.alloc _⟩
      generalize w2.alloc (.cells #[.string s, .slice none 0 0, .int .i64 NN, .int .i64 1] 100) = w3 at *
      clear Q0 Q1 Q2 Q3
      have hO : w.heap.size + 2 ≤ w2.heap.size := by have := KR.out.lt; omega
      go_loopw [34] (fun i wr => NumInv r w.heap.size w2.heap.size (⟨s, l⟩ : Tm) a c S1 w i wr) (fun i wr => l.length - (intOf i).toNat)
      case atStart => exact HINV0.out
      case round =>
        clear HINV0
        obtain ⟨k, R0, S2, vr, xs, hk, rfl, ⟨⟨R, hS2⟩, hSz⟩, hES, hO1, hrow, hM, hT, hRb, hE⟩ := hrel
        have XO := hide hO1
        have XROW := hide hrow
        have XM := hide hM
        have XT := hide hT
        have XR := hide hRb
        have XE := hide hE
        have XES := hide hES
        have c1 : wr.cell? ⟨w.heap.size, 1, none⟩ = some (.slice a l.length c) := hT.cell 1
        by_cases hlt : k < l.length
        · have hlt2 : (k : Int) < (l.length : Int) := by omega
          have hSlk : Sl wr X a l := HS.out.exq (ExQ.ofEx (Q := fun b => b = r) hE rfl) (fun b hb => hXr b hb)
          obtain ⟨b, o, a', c', rfl, d0, d1, hx⟩ := hSlk.get (Below.refl _ _) (fun _ _ h => h) k hlt
          have HX := hide hx
          clear hx hSlk hO1 hrow hM hT hRb hE hES
          go_wp2_with fail
          refine (IH.out l[k] (List.getElem_mem hlt) S2 r _ _ X (HERR.out k hlt) (by have := HSZ.out k hlt; omega) XES.out (XM.out.kept (Below.heap_alloc _ _ _ XM.out.lt)) (by exact HX.out.alloc _) hXr).mono ?_
          rintro e w4 ⟨S3, v3, rfl, ⟨⟨R3, hS3⟩, hSz3⟩, hES3, hM3, hIV, hE3⟩
          obtain ⟨hmem3, a3, c3, rfl, hsl3⟩ := hIV
          have hOw : w2.heap.size < wr.heap.size := XO.out.lt
          have hE4 : Ex r wr w4 := ((Ex.refl r wr).alloc _).trans hE3
          have hrO : r ≠ w2.heap.size := by have := hr2; omega
          have hwz := hE4.size
          have hwz3 : wr.heap.size + 1 ≤ w4.heap.size := by have := hE3.size; simpa using this
          have HS3 := hide hS3
          have HS2 := hide hS2
          clear hS2
          have YO := hide (XO.out.ex hE4 (fun e => hrO e.symm))
          have YT := hide (XT.out.ex hE4 (by omega))
          have YR := hide (XR.out.ex hE4 (by omega))
          have YE := hide (XE.out.trans hE4)
          have YM := hide hM3
          have YES := hide hES3
          have YI : Hid (IV w4 (fun b => wr.heap.size + 1 ≤ b) S3 (.agg #[.string l[k].name, .slice a3 l[k].args.length c3, .int .i64 (numT l[k] S3), .int .i64 (sizeL [l[k]])]) l[k]) := ⟨hmem3, a3, c3, rfl, hsl3.mono fun b hb _ => by simp at hb; omega⟩
          have YROW : Hid (IRow w4 (w2.heap.size + 1) 100 S3 vr (l.take k) xs) := by
            unfold Hid
            rw [HS3.out]
            exact (XROW.out.kept (fun b hb1 hb2 => hE4.block b hb2 (by omega)) hwz hE4.os hE4.tape hE4.output).more R3
          clear hM3 hES3 hsl3 hE3 hE4 hS3
          have hlk : (l.take k).length = k := by simp; omega
          have hl2 : l.length ≤ 20000 := by have := sizeL_len l; have := HSL.out; omega
          have hvlt : ∀ b, some b = vr.ownBlock → b < wr.heap.size + 1 := fun b hb => by have := (XROW.out.own.lt b hb.symm).2; omega
          obtain ⟨g5, cap5, w5, xs5, hrun, hrow5, hg5, hvb5⟩ := items_append (t := l[k]) (a := a3) (c := c3) (YROW.out.kept (w' := w4.alloc (.cells #[.string l[k].name, .slice a3 l[k].args.length c3, .int .i64 (numT l[k] S3), .int .i64 (sizeL [l[k]])] 100)) (fun b _ hb => Below.heap_alloc _ _ _ hb) (by simp) rfl rfl rfl) (by simp; omega) (M := wr.heap.size + 1) (by omega) hvlt (YI.out.alloc _) (by omega) (w4.heap.size + 1) (by simp)
          rw [hlk] at hrun hrow5
          have HRUN := hide hrun
          have ZO : Blk w5 w2.heap.size #[.string s, vr, .int .i64 (numT (⟨s, l⟩ : Tm) S1), .int .i64 (1 + sizeL (l.take k))] 100 := ((YO.out.alloc _).alloc _).grown hg5 (YROW.out.ne (by omega))
          have ZX : Blk w5 w4.heap.size #[.string l[k].name, .slice a3 l[k].args.length c3, .int .i64 (numT l[k] S3), .int .i64 (sizeL [l[k]])] 100 := ((Blk.new w4 _ _).alloc _).grown hg5 (fun e => by have := hvlt _ e; omega)
          have z0 : w5.cell? ⟨w2.heap.size, 1, none⟩ = some vr := ZO.cell 1
          have z1 : w5.cell? ⟨w2.heap.size, 3, none⟩ = some (.int .i64 (1 + sizeL (l.take k))) := ZO.cell 3
          have z2 : w5.cell? ⟨w4.heap.size, 3, none⟩ = some (.int .i64 (sizeL [l[k]])) := ZX.cell 3
          have zf := ZO.frozen
          have hst := sizeL_take l k hlt
          have hsb : sizeL (l.take (k + 1)) ≤ 20000 := by have h1 := sizeL_append (l.take (k + 1)) (l.drop (k + 1)); rw [List.take_append_drop] at h1; have := HSL.out; omega
          have y1 : ∀ o, (w4.alloc o).cell? ⟨w2.heap.size, 1, none⟩ = some vr := fun o => (YO.out.alloc o).cell 1
          have YS : sizeL [l[k]] ≤ 20000 := by omega
          have HFIN : Hid (NumInv r w.heap.size w2.heap.size (⟨s, l⟩ : Tm) (some ⟨b, o, none⟩) c S1 w (.int .i64 ((k + 1 : Nat) : Int)) ((w5.setCell ⟨w2.heap.size, 1, none⟩ (.slice (some ⟨g5, 0, none⟩) (k + 1) cap5)).setCell ⟨w2.heap.size, 3, none⟩ (.int .i64 (1 + (sizeL (l.take k) : Int) + (sizeL [l[k]] : Int))))) := by
            have hgs := hg5.size
            refine ⟨k + 1, R0, S3, (.slice (some ⟨g5, 0, none⟩) (k + 1) cap5), xs5, by show k + 1 ≤ l.length; omega, rfl, ⟨⟨R ++ R3, by rw [HS3.out, HS2.out, List.append_assoc]⟩, by show S3.length ≤ S1.length + sizeL (l.take (k + 1)); omega⟩, YES.out, ?_, ?_, ?_, ?_, ?_, ?_⟩
            · have := (ZO.set 1 (.slice (some ⟨g5, 0, none⟩) (k + 1) cap5)).set 3 (.int .i64 (1 + (sizeL (l.take k) : Int) + (sizeL [l[k]] : Int)))
              simpa [hst, Int.add_assoc] using this
            · have e : l.take (k + 1) = l.take k ++ [l[k]] := List.take_succ_eq_append_getElem hlt
              rw [e]
              exact (hrow5.setCell (by omega) _).setCell (by omega) _
            · have hMl := YM.out.lt
              refine YM.out.kept ?_
              rw [Below.heap_setCell _ _ _ _ (by simpa using hrO), Below.heap_setCell _ _ _ _ (by simpa using hrO), hg5.block r (by simp; omega) (fun e => by have := (YROW.out.own.lt r e.symm).1; omega), Below.heap_alloc _ _ _ (by simp; omega), Below.heap_alloc _ _ _ hMl]
            · exact ((((YT.out.alloc _).alloc _).grown hg5 (YROW.out.ne (by omega))).setOther _ _ (by omega)).setOther _ _ (by omega)
            · exact ((((YR.out.alloc _).alloc _).grown hg5 (YROW.out.ne (by omega))).setOther _ _ (by omega)).setOther _ _ (by omega)
            · exact ((((YE.out.alloc _).alloc _).grown hg5 (fun j hj => by have := (YROW.out.own.lt j hj).1; omega)).setNew (by omega) _ _).setNew (by omega) _ _
          have hsk : sizeL (l.take k) ≤ 20000 := by omega
          clear hrun hrow5 hg5 hvb5 ZX hst
          have y3 : ∀ v, (w5.setCell ⟨w2.heap.size, 1, none⟩ v).cell? ⟨w2.heap.size, 3, none⟩ = some (.int .i64 (1 + sizeL (l.take k))) := fun v => by rw [World.cell?_setCell_other _ _ _ _ (by simp)]; exact z1
          have y4 : ∀ v, (w5.setCell ⟨w2.heap.size, 1, none⟩ v).cell? ⟨w4.heap.size, 3, none⟩ = some (.int .i64 (sizeL [l[k]])) := fun v => by rw [World.cell?_setCell_other _ _ _ _ (by simp)]; exact z2
          have zf2 := fun v => (ZO.set 1 v).frozen
          go_wp2_with (at_builtin; refine wpList_append_eq rfl _ _ _ _ rfl rfl rfl HRUN.out ?_)
          go_roundw
          case rel =>
            have h := HFIN.out
            have e : ((k + 1 : Nat) : Int) = (k : Int) + 1 := by omega
            rw [e] at h
            exact h
          case measure => simp [intOf]; omega
        · have htk : l.take k = l := List.take_of_length_le (by omega)
          rw [htk] at hO1 hrow
          obtain ⟨a9, c9, hv9, hs9⟩ := hrow.sl
          subst hv9
          have p0 := hO1.cell 0
          have p1 := hO1.cell 1
          have p2 := hO1.cell 2
          have p3 := hO1.cell 3
          have r0 := hRb.cell 0
          have r1 := hRb.cell 1
          have r2 := hRb.cell 2
          have r3 := hRb.cell 3
          have rf := hRb.frozen
          simp only [List.getElem?_toArray, List.getElem?_cons_zero, List.getElem?_cons_succ] at p0 p1 p2 p3 r0 r1 r2 r3
          have HS9 := hide hs9
          have HZN : Hid (sizeL [(⟨s, l⟩ : Tm)] = 1 + sizeL l) := by unfold Hid; simp [sizeL]
          have HSZ2 : Hid (S2.length ≤ S1.length + sizeL l) := by unfold Hid; simpa [htk] using hSz
          have HZ : Hid ((1 : Int) + sizeL l = sizeL [(⟨s, l⟩ : Tm)]) := by unfold Hid; simp [sizeL]
          have HN : Hid (numT (⟨s, l⟩ : Tm) S1 = numT (⟨s, l⟩ : Tm) S2) := by unfold Hid; rw [hS2, numT_more R MEM.out]
          have HMM : Hid ((⟨s, l⟩ : Tm) ∈ S2) := by unfold Hid; rw [hS2]; exact List.mem_append_left _ MEM.out
          clear hs9 htk hO1 hrow hM hT hRb hE hES
          go_wp2_with fail
          refine bodyPost_ret (v := .agg #[.string s, .slice a9 l.length c9, .int .i64 (numT (⟨s, l⟩ : Tm) S1), .int .i64 (1 + sizeL l)]) (by simp [results, Try.results94, go_sem, World.cell?_setCell_same, World.cell?_setCell_other, r0, r1, r2, r3]) rfl ?_
          refine ⟨S2, _, rfl, ?_, XES.out, ?_, ?_, ?_⟩
          · obtain ⟨⟨R1, hR1⟩, hR2⟩ := GS.out
            refine ⟨⟨R1 ++ R, by rw [hS2, hR1, List.append_assoc]⟩, ?_⟩
            have := HZN.out
            have h3 : S2.length ≤ S1.length + sizeL l := HSZ2.out
            omega
          · refine XM.out.kept ?_
            have hne : r ≠ w.heap.size + 1 := by omega
            rw [Below.heap_setCell _ _ _ _ (by simpa using hne), Below.heap_setCell _ _ _ _ (by simpa using hne), Below.heap_setCell _ _ _ _ (by simpa using hne), Below.heap_setCell _ _ _ _ (by simpa using hne)]
          · refine ⟨HMM.out, a9, c9, by rw [HZ.out, HN.out], ?_⟩
            refine (HS9.out.kept fun b hb => ?_).mono fun b hb _ => by omega
            have hne : b ≠ w.heap.size + 1 := by omega
            rw [Below.heap_setCell _ _ _ _ (by simpa using hne), Below.heap_setCell _ _ _ _ (by simpa using hne), Below.heap_setCell _ _ _ _ (by simpa using hne), Below.heap_setCell _ _ _ _ (by simpa using hne)]
          · exact (((XE.out.setNew (by omega) _ _).setNew (by omega) _ _).setNew (by omega) _ _).setNew (by omega) _ _
#print axioms number_any
end Go.Proofs.Ytpbnbkeoiojpaac

/- Walks: two terms get numbers; above by paths. -/
namespace Go.Proofs.Ytpbnbkeoiojpaac
open Go.RowKit
open Go.WideMaps
set_option linter.unusedSimpArgs false
set_option linter.unusedVariables false
set_option maxRecDepth 8000

def NbS (a b : Tm) (aa : Option Addr) (ca : Nat) (ab : Option Addr) (cb : Nat) (w w' : World) : Prop :=
  Blk w' w.heap.size #[.string a.name, .slice aa a.args.length ca] 25 ∧ Blk w' (w.heap.size + 1) #[.string b.name, .slice ab b.args.length cb] 25 ∧ Ex (w.heap.size + 4) w w'
theorem NbS.step {a b : Tm} {aa ab : Option Addr} {ca cb : Nat} {w w1 w2 : World} (h : NbS a b aa ca ab cb w w1) (hE : Ex (w.heap.size + 4) w1 w2) : NbS a b aa ca ab cb w w2 := ⟨h.1.ex hE (by omega), h.2.1.ex hE (by omega), h.2.2.trans hE⟩
theorem NbS.set {a b : Tm} {aa ab : Option Addr} {ca cb : Nat} {w w1 : World} (h : NbS a b aa ca ab cb w w1) {k : Nat} (hk : w.heap.size + 2 ≤ k) (i : Nat) (v : Value) : NbS a b aa ca ab cb w (w1.setCell ⟨k, i, none⟩ v) := ⟨h.1.setOther i v (by omega), h.2.1.setOther i v (by omega), h.2.2.setNew (by omega) i v⟩
theorem nb_fin {S S0 : List Tm} {a b : Tm} {vx vy : Value} {e : Ending} {w w5 w' : World} (hB : Below w.heap.size w w5) (hq : ExQ (fun b => b = w.heap.size + 2 ∨ b = w.heap.size + 3) w5 w') (he : e = .returned (.tuple #[vx, vy])) (hS : S.length ≤ sizeL [a] + sizeL [b]) (hx : IV w5 (fun b => w.heap.size + 5 ≤ b) S vx a) (hy : IV w5 (fun b => w.heap.size + 5 ≤ b) S vy b) :
    ∃ S vx vy, e = .returned (.tuple #[vx, vy]) ∧ S.length ≤ sizeL [a] + sizeL [b] ∧ IV w' (fun b => w.heap.size ≤ b) S vx a ∧ IV w' (fun b => w.heap.size ≤ b) S vy b ∧ Below w.heap.size w w' := by
  have hz := hB.size
  have key : ∀ v x, IV w5 (fun b => w.heap.size + 5 ≤ b) S v x → IV w' (fun b => w.heap.size ≤ b) S v x := fun v x h =>
    ((h.mono (Y := fun b => w.heap.size + 5 ≤ b ∧ b < w5.heap.size) fun b h1 h2 => ⟨h1, h2⟩).kept fun b hb => hq.block b hb.2 (fun h => by have := hb.1; rcases h with h | h <;> omega)).mono fun b hb _ => by have := hb.1; omega
  exact ⟨S, vx, vy, he, hS, key _ _ hx, key _ _ hy, hB.trans (hq.below hB.size fun b hb => by rcases hb with h | h <;> omega)⟩

set_option maxHeartbeats 4000000 in
theorem numbered_any (a b : Tm) (va vb : Value) (w : World) (X : Nat → Prop) (ea : errL [a] = 0) (eb : errL [b] = 0) (za : sizeL [a] ≤ 20000) (zb : sizeL [b] ≤ 20000) (ha : TV w X va a) (hb : TV w X vb b) :
    Calls Try.prog 70 #[va, vb] w fun e w' => ∃ S vx vy, e = .returned (.tuple #[vx, vy]) ∧ S.length ≤ sizeL [a] + sizeL [b] ∧ IV w' (fun b => w.heap.size ≤ b) S vx a ∧ IV w' (fun b => w.heap.size ≤ b) S vy b ∧ Below w.heap.size w w' := by
  have HA := hide (ha.mono (Y := fun b => X b ∧ b < w.heap.size) fun b h1 h2 => ⟨h1, h2⟩)
  have HB := hide (hb.mono (Y := fun b => X b ∧ b < w.heap.size) fun b h1 h2 => ⟨h1, h2⟩)
  obtain ⟨aa, ca, rfl, hsa⟩ := ha
  obtain ⟨ab, cb, rfl, hsb⟩ := hb
  clear hsa hsb
  have HEA := hide ea
  have HEB := hide eb
  clear ea eb
  have hmm := @run_makeMap Try.prog
  have N0 : Hid (NbS a b aa ca ab cb w (((((w.alloc (.cells #[.string a.name, .slice aa a.args.length ca] 25)).alloc (.cells #[.string b.name, .slice ab b.args.length cb] 25)).alloc (.cells #[.string ⟨#[]⟩, .slice none 0 0, .int .i64 0, .int .i64 0] 100)).alloc (.cells #[.string ⟨#[]⟩, .slice none 0 0, .int .i64 0, .int .i64 0] 100)).alloc (.map #[] 0)).drew ∧ Blk (((((w.alloc (.cells #[.string a.name, .slice aa a.args.length ca] 25)).alloc (.cells #[.string b.name, .slice ab b.args.length cb] 25)).alloc (.cells #[.string ⟨#[]⟩, .slice none 0 0, .int .i64 0, .int .i64 0] 100)).alloc (.cells #[.string ⟨#[]⟩, .slice none 0 0, .int .i64 0, .int .i64 0] 100)).alloc (.map #[] 0)).drew (w.heap.size + 2) #[.string ⟨#[]⟩, .slice none 0 0, .int .i64 0, .int .i64 0] 100 ∧ Blk (((((w.alloc (.cells #[.string a.name, .slice aa a.args.length ca] 25)).alloc (.cells #[.string b.name, .slice ab b.args.length cb] 25)).alloc (.cells #[.string ⟨#[]⟩, .slice none 0 0, .int .i64 0, .int .i64 0] 100)).alloc (.cells #[.string ⟨#[]⟩, .slice none 0 0, .int .i64 0, .int .i64 0] 100)).alloc (.map #[] 0)).drew (w.heap.size + 3) #[.string ⟨#[]⟩, .slice none 0 0, .int .i64 0, .int .i64 0] 100 ∧ MapAt (((((w.alloc (.cells #[.string a.name, .slice aa a.args.length ca] 25)).alloc (.cells #[.string b.name, .slice ab b.args.length cb] 25)).alloc (.cells #[.string ⟨#[]⟩, .slice none 0 0, .int .i64 0, .int .i64 0] 100)).alloc (.cells #[.string ⟨#[]⟩, .slice none 0 0, .int .i64 0, .int .i64 0] 100)).alloc (.map #[] 0)).drew (w.heap.size + 4) (numL 0 []) ∧ Below w.heap.size w (((((w.alloc (.cells #[.string a.name, .slice aa a.args.length ca] 25)).alloc (.cells #[.string b.name, .slice ab b.args.length cb] 25)).alloc (.cells #[.string ⟨#[]⟩, .slice none 0 0, .int .i64 0, .int .i64 0] 100)).alloc (.cells #[.string ⟨#[]⟩, .slice none 0 0, .int .i64 0, .int .i64 0] 100)).alloc (.map #[] 0)).drew) := by
    have k1 := Blk.new w #[.string a.name, .slice aa a.args.length ca] 25
    have e1 : (w.alloc (.cells #[.string a.name, .slice aa a.args.length ca] 25)).heap.size = w.heap.size + 1 := by simp
    have b1 := (Below.refl w.heap.size w).alloc (Nat.le_refl _) (.cells #[.string a.name, .slice aa a.args.length ca] 25)
    generalize (w.alloc (.cells #[.string a.name, .slice aa a.args.length ca] 25)) = w1 at *
    have k2 := Blk.new w1 #[.string b.name, .slice ab b.args.length cb] 25
    have b2 := b1.alloc b1.size (.cells #[.string b.name, .slice ab b.args.length cb] 25)
    have k1' := k1.alloc (.cells #[.string b.name, .slice ab b.args.length cb] 25)
    have e2 : (w1.alloc (.cells #[.string b.name, .slice ab b.args.length cb] 25)).heap.size = w.heap.size + 2 := by simp [e1]
    generalize w1.alloc (.cells #[.string b.name, .slice ab b.args.length cb] 25) = w2 at *
    have k3 := Blk.new w2 #[.string ⟨#[]⟩, .slice none 0 0, .int .i64 0, .int .i64 0] 100
    have b3 := b2.alloc b2.size (.cells #[.string ⟨#[]⟩, .slice none 0 0, .int .i64 0, .int .i64 0] 100)
    have k2' := k2.alloc (.cells #[.string ⟨#[]⟩, .slice none 0 0, .int .i64 0, .int .i64 0] 100)
    have k1'' := k1'.alloc (.cells #[.string ⟨#[]⟩, .slice none 0 0, .int .i64 0, .int .i64 0] 100)
    have e3 : (w2.alloc (.cells #[.string ⟨#[]⟩, .slice none 0 0, .int .i64 0, .int .i64 0] 100)).heap.size = w.heap.size + 3 := by simp [e2]
    generalize w2.alloc (.cells #[.string ⟨#[]⟩, .slice none 0 0, .int .i64 0, .int .i64 0] 100) = w3 at *
    have k4 := Blk.new w3 #[.string ⟨#[]⟩, .slice none 0 0, .int .i64 0, .int .i64 0] 100
    have b4 := b3.alloc b3.size (.cells #[.string ⟨#[]⟩, .slice none 0 0, .int .i64 0, .int .i64 0] 100)
    have k3' := k3.alloc (.cells #[.string ⟨#[]⟩, .slice none 0 0, .int .i64 0, .int .i64 0] 100)
    have k2'' := k2'.alloc (.cells #[.string ⟨#[]⟩, .slice none 0 0, .int .i64 0, .int .i64 0] 100)
    have k1t := k1''.alloc (.cells #[.string ⟨#[]⟩, .slice none 0 0, .int .i64 0, .int .i64 0] 100)
    have e4 : (w3.alloc (.cells #[.string ⟨#[]⟩, .slice none 0 0, .int .i64 0, .int .i64 0] 100)).heap.size = w.heap.size + 4 := by simp [e3]
    generalize w3.alloc (.cells #[.string ⟨#[]⟩, .slice none 0 0, .int .i64 0, .int .i64 0] 100) = w4 at *
    have m5 := MapAt.new w4
    rw [e1] at k2''
    rw [e2] at k3'
    rw [e3] at k4
    rw [e4] at m5
    have b5 := b4.alloc b4.size (.map #[] 0)
    exact ⟨⟨k1t.alloc _, k2''.alloc _, ⟨b5.os, b5.tape, b5.output, b5.size, fun k hk _ => b5.block k hk⟩⟩, k3'.alloc _, k4.alloc _, m5, below_drewN b5 1⟩
  go_enter Try.func70, Try.ntmps70
  go_wp2_with fail
  refine wp_region_held_drew (S := NbS a b aa ca ab cb w) (by kernel_rfl) N0.out.1 (fun hHeld => ?_)
  refine wpAnyH_take (i := 0) (v := ?_) rfl (by kernel_rfl) (by kernel_rfl) (by kernel_rfl) (fun _ _ _ h => h) (Or.inl ⟨by rfl, ?_⟩) (by assumption) ?_
  rotate_left
  · intro w' hSw
    have t0 := hSw.1.cell 0
    have t1 := hSw.1.cell 1
    have u0 := hSw.2.1.cell 0
    have u1 := hSw.2.1.cell 1
    simp only [List.getElem?_toArray, List.getElem?_cons_zero, List.getElem?_cons_succ] at t0 t1 u0 u1
    go_simp <;> with_reducible rfl
  try simp only [Act.put, List.setIfInBounds_toArray, List.set_cons_zero, List.set_cons_succ, List.getElem_toArray, List.getElem_cons_succ, List.getElem_cons_zero]
  refine wpAnyH_take (i := 1) (v := ?_) rfl (by kernel_rfl) (by kernel_rfl) (by kernel_rfl) (fun _ _ _ h => h) (Or.inl ⟨by rfl, ?_⟩) (by assumption) ?_
  rotate_left
  · intro w' hSw
    have t0 := hSw.1.cell 0
    have t1 := hSw.1.cell 1
    have u0 := hSw.2.1.cell 0
    have u1 := hSw.2.1.cell 1
    simp only [List.getElem?_toArray, List.getElem?_cons_zero, List.getElem?_cons_succ] at t0 t1 u0 u1
    go_simp <;> with_reducible rfl
  try simp only [Act.put, List.setIfInBounds_toArray, List.set_cons_zero, List.set_cons_succ, List.getElem_toArray, List.getElem_cons_succ, List.getElem_cons_zero]
  refine wpAnyH_take (i := 3) (v := ?_) rfl (by kernel_rfl) (by kernel_rfl) (by kernel_rfl) (fun _ _ _ h => h) (Or.inl ⟨by rfl, ?_⟩) (by assumption) ?_
  rotate_left
  · intro w' hSw
    have t0 := hSw.1.cell 0
    have t1 := hSw.1.cell 1
    have u0 := hSw.2.1.cell 0
    have u1 := hSw.2.1.cell 1
    simp only [List.getElem?_toArray, List.getElem?_cons_zero, List.getElem?_cons_succ] at t0 t1 u0 u1
    go_simp <;> with_reducible rfl
  try simp only [Act.put, List.setIfInBounds_toArray, List.set_cons_zero, List.set_cons_succ, List.getElem_toArray, List.getElem_cons_succ, List.getElem_cons_zero]
  refine wpAnyH_take (i := 4) (v := ?_) rfl (by kernel_rfl) (by kernel_rfl) (by kernel_rfl) (fun _ _ _ h => h) (Or.inl ⟨by rfl, ?_⟩) (by assumption) ?_
  rotate_left
  · intro w' hSw
    have t0 := hSw.1.cell 0
    have t1 := hSw.1.cell 1
    have u0 := hSw.2.1.cell 0
    have u1 := hSw.2.1.cell 1
    simp only [List.getElem?_toArray, List.getElem?_cons_zero, List.getElem?_cons_succ] at t0 t1 u0 u1
    go_simp <;> with_reducible rfl
  try simp only [Act.put, List.setIfInBounds_toArray, List.set_cons_zero, List.set_cons_succ, List.getElem_toArray, List.getElem_cons_succ, List.getElem_cons_zero]

  have e5 : w.heap.size + 1 + 1 + 1 + 1 = w.heap.size + 4 := rfl
  rw [e5]
  clear e5 hmm
  generalize (((((w.alloc (.cells #[.string a.name, .slice aa a.args.length ca] 25)).alloc (.cells #[.string b.name, .slice ab b.args.length cb] 25)).alloc (.cells #[.string ⟨#[]⟩, .slice none 0 0, .int .i64 0, .int .i64 0] 100)).alloc (.cells #[.string ⟨#[]⟩, .slice none 0 0, .int .i64 0, .int .i64 0] 100)).alloc (.map #[] 0)).drew = w5 at *
  refine wpAnyH_ready (rs := [2]) (by kernel_rfl) (by simp) ?_
  refine AllReadyH.cons rfl (fun K hK => ?_) AllReadyH.nil
  go_simp
  go_at_call 94
  refine (number_any a [] (w.heap.size + 4) _ _ (fun b => X b ∧ b < w.heap.size) HEA.out za (by simp) N0.out.2.2.2.1 (by exact HA.out.later N0.out.2.2.2.2) (fun b hb => by have := hb.2; omega)).mono ?_
  rintro e w6 ⟨S1, v1, rfl, ⟨⟨R1, hR1⟩, hz1⟩, hes1, hm1, hiv1, hex1⟩
  have N1 := hide (N0.out.1.step hex1)
  have R2 := hide (N0.out.2.1.ex hex1 (by omega))
  have R3 := hide (N0.out.2.2.1.ex hex1 (by omega))
  have HB6 : Hid (Below w.heap.size w w6) := ⟨hex1.os.trans N0.out.2.2.2.2.os, hex1.tape.trans N0.out.2.2.2.2.tape, hex1.output.trans N0.out.2.2.2.2.output, Nat.le_trans N0.out.2.2.2.2.size hex1.size, fun k hk => (hex1.block k (by have := N0.out.2.2.2.2.size; omega) (by omega)).trans (N0.out.2.2.2.2.block k hk)⟩
  have hz5 : w.heap.size + 5 ≤ w5.heap.size := by have := N0.out.2.2.2.1.lt; omega
  have HI1 := hide (hiv1.mono (Y := fun b => w.heap.size + 5 ≤ b) fun b hb _ => by omega)
  have HM1 := hide hm1
  have HZ1 := hide hz1
  have HES1 := hide hes1
  have HEX1 := hide hex1
  obtain ⟨_, a1, c1, rfl, _⟩ := hiv1
  clear hm1 hex1 hes1 hR1 hz1
  go_simp
  refine hK.out _ _ (by exact N1.out) (fun hHeld => ?_)
  clear hK K
  try simp only [Act.put, List.setIfInBounds_toArray, List.set_cons_zero, List.set_cons_succ, List.getElem_toArray, List.getElem_cons_succ, List.getElem_cons_zero]
  refine wpAnyH_ready (rs := [5]) (by kernel_rfl) (by simp) ?_
  refine AllReadyH.cons rfl (fun K hK => ?_) AllReadyH.nil
  go_simp
  go_at_call 94
  refine (number_any b S1 (w.heap.size + 4) _ _ (fun b => X b ∧ b < w.heap.size) HEB.out zb HES1.out HM1.out (by exact HB.out.later HB6.out) (fun b hb => by have := hb.2; omega)).mono ?_
  rintro e w7 ⟨S2, v2, rfl, ⟨⟨R2', hR2⟩, hz2⟩, hes2, hm2, hiv2, hex2⟩
  have N2 := hide (N1.out.step hex2)
  have Q2 := hide (R2.out.ex hex2 (by omega))
  have Q3 := hide (R3.out.ex hex2 (by omega))
  have HB7 : Hid (Below w.heap.size w w7) := ⟨hex2.os.trans HB6.out.os, hex2.tape.trans HB6.out.tape, hex2.output.trans HB6.out.output, Nat.le_trans HB6.out.size hex2.size, fun k hk => (hex2.block k (by have := HB6.out.size; omega) (by omega)).trans (HB6.out.block k hk)⟩
  have HZ2 : Hid (S2.length ≤ sizeL [a] + sizeL [b]) := by have := HZ1.out; unfold Hid; simp at this; omega
  have HI2 := hide (hiv2.mono (Y := fun b => w.heap.size + 5 ≤ b) fun b hb _ => by have := HEX1.out.size; omega)
  have hmem1 := HI1.out.1
  have hnn : numT a S1 = numT a S2 := by rw [hR2, numT_more R2' hmem1]
  have HI1' : Hid (IV w7 (fun b => w.heap.size + 5 ≤ b) S2 (.agg #[.string a.name, .slice a1 a.args.length c1, .int .i64 (numT a S2), .int .i64 (sizeL [a])]) a) := by
    have h := (HI1.out.ex hex2 (fun b hb => by omega)).more R2'
    rw [← hR2, hnn] at h
    exact h
  obtain ⟨_, a2, c2, rfl, _⟩ := hiv2
  rw [hnn]
  clear hm2 hex2 hes2 hR2 hz2 HI1 HM1 HES1 R2 R3 N1 HB6 hnn hmem1
  go_simp
  refine hK.out _ _ (by exact N2.out) (fun hHeld => ?_)
  clear hK K
  try simp only [Act.put, List.setIfInBounds_toArray, List.set_cons_zero, List.set_cons_succ, List.getElem_toArray, List.getElem_cons_succ, List.getElem_cons_zero]
  have r0 := Q2.out.cell 0
  have r1 := Q2.out.cell 1
  have r2 := Q2.out.cell 2
  have r3 := Q2.out.cell 3
  have rf := Q2.out.frozen
  have s0 := Q3.out.cell 0
  have s1 := Q3.out.cell 1
  have s2 := Q3.out.cell 2
  have s3 := Q3.out.cell 3
  have sf := Q3.out.frozen
  simp only [List.getElem?_toArray, List.getElem?_cons_zero, List.getElem?_cons_succ] at r0 r1 r2 r3 s0 s1 s2 s3
  refine wpAnyH_ready (rs := [6]) (by kernel_rfl) (by simp) ?_
  refine AllReadyH.cons rfl (fun K hK => ?_) AllReadyH.nil
  go_simp
  refine hK.out _ _ (by exact (((N2.out.set (by omega) _ _).set (by omega) _ _).set (by omega) _ _).set (by omega) _ _) (fun hHeld => ?_)
  clear hK K
  try simp only [Act.put, List.setIfInBounds_toArray, List.set_cons_zero, List.set_cons_succ, List.getElem_toArray, List.getElem_cons_succ, List.getElem_cons_zero]
  refine wpAnyH_ready (rs := [7]) (by kernel_rfl) (by simp) ?_
  refine AllReadyH.cons rfl (fun K hK => ?_) AllReadyH.nil
  go_simp
  refine hK.out _ _ (by exact (((hHeld.set (by omega) _ _).set (by omega) _ _).set (by omega) _ _).set (by omega) _ _) (fun hHeld => ?_)
  clear hK K
  try simp only [Act.put, List.setIfInBounds_toArray, List.set_cons_zero, List.set_cons_succ, List.getElem_toArray, List.getElem_cons_succ, List.getElem_cons_zero]
  refine wpAnyH_done (by kernel_rfl) ?_ _
  go_wp2_with fail
  refine bodyPost_ret (v := .tuple #[.agg #[.string a.name, .slice a1 a.args.length c1, .int .i64 (numT a S2), .int .i64 (sizeL [a])], .agg #[.string b.name, .slice a2 b.args.length c2, .int .i64 (numT b S2), .int .i64 (sizeL [b])]]) (by simp [results, Try.results70, go_sem, World.cell?_setCell_same, World.cell?_setCell_other, r0, r1, r2, r3, s0, s1, s2, s3]) rfl ?_
  refine nb_fin (S0 := []) HB7.out ?_ rfl HZ2.out HI1'.out HI2.out
  iterate 8 refine ExQ.set ?_ (by simp) _ _
  exact ExQ.refl _ _
#print axioms numbered_any
end Go.Proofs.Ytpbnbkeoiojpaac

/- Walks: which term is above another one by weights. -/
namespace Go.Proofs.Ytpbnbkeoiojpaac
open Go.RowKit
set_option linter.unusedSimpArgs false
set_option linter.unusedVariables false
set_option maxRecDepth 8000

structure HvW (S : List Tm) (a b : Tm) (aa : Option Addr) (ca : Nat) (ab : Option Addr) (cb : Nat) (w wr : World) : Prop where
  k1 : Blk wr w.heap.size #[.string a.name, .slice aa a.args.length ca, .int .i64 (numT a S), .int .i64 (sizeL [a])] 100
  k2 : Blk wr (w.heap.size + 1) #[.string b.name, .slice ab b.args.length cb, .int .i64 (numT b S), .int .i64 (sizeL [b])] 100
  bl : Below w.heap.size w wr
theorem HvW.later {S : List Tm} {a b : Tm} {aa ab : Option Addr} {ca cb : Nat} {w w1 w2 : World} (h : HvW S a b aa ca ab cb w w1) (hb : Below w1.heap.size w1 w2) : HvW S a b aa ca ab cb w w2 := ⟨h.k1.below hb h.k1.lt, h.k2.below hb h.k2.lt, h.bl.trans (hb.mono h.bl.size)⟩
theorem HvW.start (S : List Tm) (a b : Tm) (aa : Option Addr) (ca : Nat) (ab : Option Addr) (cb : Nat) (w : World) : HvW S a b aa ca ab cb w ((w.alloc (.cells #[.string a.name, .slice aa a.args.length ca, .int .i64 (numT a S), .int .i64 (sizeL [a])] 100)).alloc (.cells #[.string b.name, .slice ab b.args.length cb, .int .i64 (numT b S), .int .i64 (sizeL [b])] 100)) := by
  have k1 := Blk.new w #[.string a.name, .slice aa a.args.length ca, .int .i64 (numT a S), .int .i64 (sizeL [a])] 100
  have e1 : (w.alloc (.cells #[.string a.name, .slice aa a.args.length ca, .int .i64 (numT a S), .int .i64 (sizeL [a])] 100)).heap.size = w.heap.size + 1 := by simp
  have b1 := (Below.refl w.heap.size w).alloc (Nat.le_refl _) (.cells #[.string a.name, .slice aa a.args.length ca, .int .i64 (numT a S), .int .i64 (sizeL [a])] 100)
  generalize (w.alloc (.cells #[.string a.name, .slice aa a.args.length ca, .int .i64 (numT a S), .int .i64 (sizeL [a])] 100)) = w1 at *
  have k2 := Blk.new w1 #[.string b.name, .slice ab b.args.length cb, .int .i64 (numT b S), .int .i64 (sizeL [b])] 100
  rw [e1] at k2
  exact ⟨k1.alloc _, k2, b1.alloc b1.size _⟩

set_option maxHeartbeats 4000000 in
theorem heavier_any (row : List ByteArray) (S : List Tm) (rk : Nat) : ∀ (N : Nat) (a b : Tm) (va vb : Value) (w : World) (X : Nat → Prop), sizeL [a] ≤ N → sizeL [a] ≤ 20000 → sizeL [b] ≤ 20000 → MapAt w rk (rkL 0 row) → IV w X S va a → IV w X S vb b →
    Calls Try.prog 72 #[.map (some rk), va, vb] w fun e w' => e = .returned (.bool (weightB row a b)) ∧ Below w.heap.size w w'
  | 0 => fun a b va vb w X hN _ _ _ _ _ => by have := size_pos a; omega
  | N + 1 => by
    intro a b va vb w X hN za zb hM ha hb
    have IH := hide (heavier_any row S rk N)
    have HA := hide ha
    have HB := hide hb
    obtain ⟨_, aa, ca, rfl, hsa⟩ := ha
    obtain ⟨_, ab, cb, rfl, hsb⟩ := hb
    have HM := hide hM
    have HWB := hide (weightB_eq row a b)
    clear hsa hsb hM
    have A2 := hide (HvW.start S a b aa ca ab cb w)
    go_enter Try.func72, Try.ntmps72
    go_wp2_with fail
    generalize ((w.alloc (.cells #[.string a.name, .slice aa a.args.length ca, .int .i64 (numT a S), .int .i64 (sizeL [a])] 100)).alloc (.cells #[.string b.name, .slice ab b.args.length cb, .int .i64 (numT b S), .int .i64 (sizeL [b])] 100)) = w2 at *
    refine (hasAllOf_any S a b _ _ _ X za zb (by exact HA.out.later A2.out.bl) (by exact HB.out.later A2.out.bl)).mono ?_
    rintro e w3 ⟨rfl, hb3⟩
    have A3 := hide (A2.out.later hb3)
    clear hb3 A2
    have r0 : w3.cell? ⟨w.heap.size, 0, none⟩ = some (.string a.name) := A3.out.k1.cell 0
    have r1 : w3.cell? ⟨w.heap.size, 1, none⟩ = some (.slice aa a.args.length ca) := A3.out.k1.cell 1
    have r2 : w3.cell? ⟨w.heap.size, 2, none⟩ = some (.int .i64 (numT a S)) := A3.out.k1.cell 2
    have r3 : w3.cell? ⟨w.heap.size, 3, none⟩ = some (.int .i64 (sizeL [a])) := A3.out.k1.cell 3
    have s0 : w3.cell? ⟨w.heap.size + 1, 0, none⟩ = some (.string b.name) := A3.out.k2.cell 0
    have s1 : w3.cell? ⟨w.heap.size + 1, 1, none⟩ = some (.slice ab b.args.length cb) := A3.out.k2.cell 1
    have s2 : w3.cell? ⟨w.heap.size + 1, 2, none⟩ = some (.int .i64 (numT b S)) := A3.out.k2.cell 2
    have s3 : w3.cell? ⟨w.heap.size + 1, 3, none⟩ = some (.int .i64 (sizeL [b])) := A3.out.k2.cell 3
    cases hal : hasAll a b with
    | false =>
      have HR : Hid (weightB row a b = false) := by unfold Hid; rw [HWB.out, if_pos hal]
      clear hal
      go_wp2_with fail
      go_ret
      exact ⟨by rw [HR.out]; rfl, A3.out.bl⟩
    | true =>
      have HAL := hide hal
      clear hal
      by_cases hz : sizeL [a] = sizeL [b]
      · have hz1 : ((sizeL [a] : Int) != (sizeL [b] : Int)) = false := by rw [hz]; simp
        have HZ := hide hz
        clear hz
        go_wp2_with fail
        refine (itemVar_any S a _ _ X (by exact HA.out.later A3.out.bl)).mono ?_
        rintro e w4 ⟨rfl, hb4⟩
        have A4 := hide (A3.out.later hb4)
        clear hb4 A3
        clear r0 r1 r2 r3 s0 s1 s2 s3
        have r0 : w4.cell? ⟨w.heap.size, 0, none⟩ = some (.string a.name) := A4.out.k1.cell 0
        have r1 : w4.cell? ⟨w.heap.size, 1, none⟩ = some (.slice aa a.args.length ca) := A4.out.k1.cell 1
        have r2 : w4.cell? ⟨w.heap.size, 2, none⟩ = some (.int .i64 (numT a S)) := A4.out.k1.cell 2
        have r3 : w4.cell? ⟨w.heap.size, 3, none⟩ = some (.int .i64 (sizeL [a])) := A4.out.k1.cell 3
        have s0 : w4.cell? ⟨w.heap.size + 1, 0, none⟩ = some (.string b.name) := A4.out.k2.cell 0
        have s1 : w4.cell? ⟨w.heap.size + 1, 1, none⟩ = some (.slice ab b.args.length cb) := A4.out.k2.cell 1
        have s2 : w4.cell? ⟨w.heap.size + 1, 2, none⟩ = some (.int .i64 (numT b S)) := A4.out.k2.cell 2
        have s3 : w4.cell? ⟨w.heap.size + 1, 3, none⟩ = some (.int .i64 (sizeL [b])) := A4.out.k2.cell 3
        cases hva : varB a.name with
        | true =>
          have HR : Hid (weightB row a b = false) := by unfold Hid; rw [HWB.out, if_neg (by rw [HAL.out]; simp), if_neg (by rw [HZ.out]; simp), if_pos hva]
          clear hva
          go_wp2_with fail
          go_ret
          exact ⟨by rw [HR.out]; rfl, A4.out.bl⟩
        | false =>
          have HVA := hide hva
          clear hva
          go_wp2_with fail
          refine (itemVar_any S b _ _ X (by exact HB.out.later A4.out.bl)).mono ?_
          rintro e w5 ⟨rfl, hb5⟩
          have A5 := hide (A4.out.later hb5)
          clear hb5 A4
          clear r0 r1 r2 r3 s0 s1 s2 s3
          have r0 : w5.cell? ⟨w.heap.size, 0, none⟩ = some (.string a.name) := A5.out.k1.cell 0
          have r1 : w5.cell? ⟨w.heap.size, 1, none⟩ = some (.slice aa a.args.length ca) := A5.out.k1.cell 1
          have r2 : w5.cell? ⟨w.heap.size, 2, none⟩ = some (.int .i64 (numT a S)) := A5.out.k1.cell 2
          have r3 : w5.cell? ⟨w.heap.size, 3, none⟩ = some (.int .i64 (sizeL [a])) := A5.out.k1.cell 3
          have s0 : w5.cell? ⟨w.heap.size + 1, 0, none⟩ = some (.string b.name) := A5.out.k2.cell 0
          have s1 : w5.cell? ⟨w.heap.size + 1, 1, none⟩ = some (.slice ab b.args.length cb) := A5.out.k2.cell 1
          have s2 : w5.cell? ⟨w.heap.size + 1, 2, none⟩ = some (.int .i64 (numT b S)) := A5.out.k2.cell 2
          have s3 : w5.cell? ⟨w.heap.size + 1, 3, none⟩ = some (.int .i64 (sizeL [b])) := A5.out.k2.cell 3
          cases hvb : varB b.name with
          | true =>
            have HR : Hid (weightB row a b = false) := by unfold Hid; rw [HWB.out, if_neg (by rw [HAL.out]; simp), if_neg (by rw [HZ.out]; simp), if_neg (by rw [HVA.out]; simp), if_pos hvb]
            clear hvb
            go_wp2_with fail
            go_ret
            exact ⟨by rw [HR.out]; rfl, A5.out.bl⟩
          | false =>
            have HEAD : Hid (weightB row a b = if gtS row a b = true then true else if gtS row b a = true then false else match unl a.args b.args with | none => false | some (x, y) => weightB row x y) := by
              unfold Hid
              rw [HWB.out, if_neg (by rw [HAL.out]; simp), if_neg (by rw [HZ.out]; simp), if_neg (by rw [HVA.out]; simp), if_neg (by rw [hvb]; simp)]
              cases unl a.args b.args with
              | none => rfl
              | some p => rfl
            clear hvb HWB HAL HZ HVA
            go_wp2_with fail
            refine (compareR_any row S a b rk _ _ _ X (HM.out.below A5.out.bl HM.out.lt) (by exact HA.out.later A5.out.bl) (by exact HB.out.later A5.out.bl)).mono ?_
            rintro e w6 ⟨rfl, hb6⟩
            have A6 := hide (A5.out.later hb6)
            clear hb6 A5
            clear r0 r1 r2 r3 s0 s1 s2 s3
            have r0 : w6.cell? ⟨w.heap.size, 0, none⟩ = some (.string a.name) := A6.out.k1.cell 0
            have r1 : w6.cell? ⟨w.heap.size, 1, none⟩ = some (.slice aa a.args.length ca) := A6.out.k1.cell 1
            have r2 : w6.cell? ⟨w.heap.size, 2, none⟩ = some (.int .i64 (numT a S)) := A6.out.k1.cell 2
            have r3 : w6.cell? ⟨w.heap.size, 3, none⟩ = some (.int .i64 (sizeL [a])) := A6.out.k1.cell 3
            have s0 : w6.cell? ⟨w.heap.size + 1, 0, none⟩ = some (.string b.name) := A6.out.k2.cell 0
            have s1 : w6.cell? ⟨w.heap.size + 1, 1, none⟩ = some (.slice ab b.args.length cb) := A6.out.k2.cell 1
            have s2 : w6.cell? ⟨w.heap.size + 1, 2, none⟩ = some (.int .i64 (numT b S)) := A6.out.k2.cell 2
            have s3 : w6.cell? ⟨w.heap.size + 1, 3, none⟩ = some (.int .i64 (sizeL [b])) := A6.out.k2.cell 3
            rcases cmpS_cases row a b with ⟨g1, hc⟩ | ⟨g1, hc⟩ | ⟨g1, g2, hc⟩
            · have HR : Hid (weightB row a b = true) := by unfold Hid; rw [HEAD.out, if_pos g1]
              rw [hc]
              clear g1 hc
              go_wp2_with fail
              go_ret
              exact ⟨by rw [HR.out]; rfl, A6.out.bl⟩
            · have HR : Hid (weightB row a b = false) := by unfold Hid; rw [HEAD.out, if_neg (by rw [gtS_asymm g1]; simp), if_pos g1]
              rw [hc]
              clear g1 hc
              go_wp2_with fail
              go_ret
              exact ⟨by rw [HR.out]; rfl, A6.out.bl⟩
            · have HLAST : Hid (weightB row a b = match unl a.args b.args with | none => false | some (x, y) => weightB row x y) := by unfold Hid; rw [HEAD.out, if_neg (by rw [g1]; simp), if_neg (by rw [g2]; simp)]
              have HLEN := hide (gtS_same g1 g2).2
              rw [hc]
              clear g1 g2 hc HEAD
              go_wp2_with fail
              refine (firstUnlike_any S a b HLEN.out _ _ _ X (by exact HA.out.later A6.out.bl) (by exact HB.out.later A6.out.bl)).mono ?_
              rintro e w7 ⟨hb7, hcase⟩
              have A7 := hide (A6.out.later hb7)
              clear hb7 A6
              clear r0 r1 r2 r3 s0 s1 s2 s3
              rcases hcase with ⟨x, y, vx, vy, hu, rfl, hvx, hvy⟩ | ⟨hu, rfl⟩
              · have HVX := hide hvx
                have HVY := hide hvy
                obtain ⟨_, ax, cx, rfl, _⟩ := hvx
                obtain ⟨_, ay, cy, rfl, _⟩ := hvy
                obtain ⟨mx, my⟩ := unl_mem hu
                have sx := size_arg mx
                have sy := size_arg my
                have HU := hide hu
                clear hu mx my
                go_wp2_with fail
                refine (IH.out x y _ _ _ X (by omega) (by omega) (by omega) (by exact ((HM.out.below A7.out.bl HM.out.lt).kept (Below.heap_alloc _ _ _ (by have := A7.out.bl.size; have := HM.out.lt; omega))).kept (Below.heap_alloc _ _ _ (by have := A7.out.bl.size; have := HM.out.lt; simp; omega))) (by exact (HVX.out.alloc _).alloc _) (by exact (HVY.out.alloc _).alloc _)).mono ?_
                rintro e wA ⟨rfl, hbA⟩
                have HBA := hide (((A7.out.bl.alloc A7.out.bl.size _).alloc (by have := A7.out.bl.size; simp; omega) _).trans (hbA.mono (by have := A7.out.bl.size; simp; omega)))
                have HR : Hid (weightB row a b = weightB row x y) := by unfold Hid; rw [HLAST.out, HU.out]
                clear hbA
                go_wp2_with fail
                go_ret
                exact ⟨by rw [HR.out]; rfl, HBA.out⟩
              · have HR : Hid (weightB row a b = false) := by unfold Hid; rw [HLAST.out, hu]
                go_wp2_with fail
                go_ret
                exact ⟨by rw [HR.out]; rfl, (A7.out.bl.alloc A7.out.bl.size _).alloc (by have := A7.out.bl.size; simp; omega) _⟩
      · have hz1 : ((sizeL [a] : Int) != (sizeL [b] : Int)) = true := by rw [bne_iff_ne]; omega
        have HR : Hid (weightB row a b = decide (sizeL [b] < sizeL [a])) := by unfold Hid; rw [HWB.out, if_neg (by rw [HAL.out]; simp), if_pos hz]
        go_wp2_with fail
        go_ret
        refine ⟨?_, A3.out.bl⟩
        rw [HR.out]
        by_cases hg : sizeL [b] < sizeL [a]
        · have : (sizeL [b] : Int) < (sizeL [a] : Int) := by omega
          simp [hg, this]
        · have : ¬ (sizeL [b] : Int) < (sizeL [a] : Int) := by omega
          simp [hg, this]
#print axioms heavier_any
end Go.Proofs.Ytpbnbkeoiojpaac

/- Walks: above by paths, as it is asked for. -/
namespace Go.Proofs.Ytpbnbkeoiojpaac
open Go.RowKit
open Go.WideMaps
set_option linter.unusedSimpArgs false
set_option linter.unusedVariables false
set_option maxRecDepth 8000

set_option maxHeartbeats 4000000 in
theorem aPath_any (row : List ByteArray) (ho : OnceN row) (a b : Tm) (u va vb : Value) (w : World) (X : Nat → Prop) (ea : errL [a] = 0) (eb : errL [b] = 0) (za : sizeL [a] ≤ 20000) (zb : sizeL [b] ≤ 20000) (hu : LV Value.string w X u row) (ha : TV w X va a) (hb : TV w X vb b) :
    Calls Try.prog 44 #[u, va, vb] w fun e w' => e = .returned (.bool (pathB row a b)) ∧ Below w.heap.size w w' := by
  have HA := hide ha
  have HB := hide hb
  have HU := hide hu
  obtain ⟨aa, ca, rfl, hsa⟩ := ha
  obtain ⟨ab, cb, rfl, hsb⟩ := hb
  clear hsa hsb hu
  have HEA := hide ea
  have HEB := hide eb
  have HO := hide ho
  clear ea eb ho
  have hmm := @run_makeMap Try.prog
  have B2 : Hid (Below w.heap.size w ((w.alloc (.cells #[.string a.name, .slice aa a.args.length ca] 25)).alloc (.cells #[.string b.name, .slice ab b.args.length cb] 25))) := ((Below.refl w.heap.size w).alloc (Nat.le_refl _) _).alloc (by simp) _
  have K1 : Hid (Blk ((w.alloc (.cells #[.string a.name, .slice aa a.args.length ca] 25)).alloc (.cells #[.string b.name, .slice ab b.args.length cb] 25)) w.heap.size #[.string a.name, .slice aa a.args.length ca] 25) := (Blk.new w _ _).alloc _
  have K2 : Hid (Blk ((w.alloc (.cells #[.string a.name, .slice aa a.args.length ca] 25)).alloc (.cells #[.string b.name, .slice ab b.args.length cb] 25)) (w.heap.size + 1) #[.string b.name, .slice ab b.args.length cb] 25) := by
    have h := Blk.new (w.alloc (.cells #[.string a.name, .slice aa a.args.length ca] 25)) #[.string b.name, .slice ab b.args.length cb] 25
    have e : (w.alloc (.cells #[.string a.name, .slice aa a.args.length ca] 25)).heap.size = w.heap.size + 1 := by simp
    rw [e] at h
    exact h
  go_enter Try.func44, Try.ntmps44
  go_wp2_with fail
  generalize ((w.alloc (.cells #[.string a.name, .slice aa a.args.length ca] 25)).alloc (.cells #[.string b.name, .slice ab b.args.length cb] 25)) = w2 at *
  refine (ranksOf_any row HO.out _ _ X (by exact HU.out.later B2.out)).mono ?_
  rintro e w3 ⟨rfl, hM3, hb3⟩
  have B3 := hide (B2.out.trans (hb3.mono B2.out.size))
  have M3 := hide hM3
  have K13 := hide (K1.out.below hb3 K1.out.lt)
  have K23 := hide (K2.out.below hb3 K2.out.lt)
  have hl3 := hM3.lt
  clear hM3 hb3 K1 K2
  have t0 : ∀ o o', ((w3.alloc o).alloc o').cell? ⟨w.heap.size, 0, none⟩ = some (.string a.name) := fun o o' => ((K13.out.alloc o).alloc o').cell 0
  have t1 : ∀ o o', ((w3.alloc o).alloc o').cell? ⟨w.heap.size, 1, none⟩ = some (.slice aa a.args.length ca) := fun o o' => ((K13.out.alloc o).alloc o').cell 1
  have u0 : ∀ o o', ((w3.alloc o).alloc o').cell? ⟨w.heap.size + 1, 0, none⟩ = some (.string b.name) := fun o o' => ((K23.out.alloc o).alloc o').cell 0
  have u1 : ∀ o o', ((w3.alloc o).alloc o').cell? ⟨w.heap.size + 1, 1, none⟩ = some (.slice ab b.args.length cb) := fun o o' => ((K23.out.alloc o).alloc o').cell 1
  go_wp2_with fail
  have M5 : Hid (MapAt ((w3.alloc (.map #[] 0)).alloc (.cells #[.map (some w2.heap.size), .map (some w3.heap.size)] 97)) w2.heap.size (rkL 0 row)) := (M3.out.kept (Below.heap_alloc _ _ _ hl3)).kept (Below.heap_alloc _ _ _ (by simp; omega))
  have P5 : Hid (∀ S, MapP ((w3.alloc (.map #[] 0)).alloc (.cells #[.map (some w2.heap.size), .map (some w3.heap.size)] 97)) w3.heap.size (AskQ row S)) := fun S => (MapP.new w3 (AskQ row S)).kept (Below.heap_alloc _ _ _ (by simp))
  have B5 : Hid (Below w.heap.size w ((w3.alloc (.map #[] 0)).alloc (.cells #[.map (some w2.heap.size), .map (some w3.heap.size)] 97))) := (B3.out.alloc B3.out.size _).alloc (by have := B3.out.size; simp; omega) _
  have K5 : Hid (Blk ((w3.alloc (.map #[] 0)).alloc (.cells #[.map (some w2.heap.size), .map (some w3.heap.size)] 97)) (w3.heap.size + 1) #[.map (some w2.heap.size), .map (some w3.heap.size)] 97) := by
    have h := Blk.new (w3.alloc (.map #[] 0)) #[.map (some w2.heap.size), .map (some w3.heap.size)] 97
    have e : (w3.alloc (.map #[] 0)).heap.size = w3.heap.size + 1 := by simp
    rw [e] at h
    exact h
  generalize (w3.alloc (.map #[] 0)).alloc (.cells #[.map (some w2.heap.size), .map (some w3.heap.size)] 97) = w5 at *
  refine (numbered_any a b _ _ _ X HEA.out HEB.out za zb (by exact HA.out.later B5.out) (by exact HB.out.later B5.out)).mono ?_
  rintro e w6 ⟨S, vx, vy, rfl, hS, hvx, hvy, hb6⟩
  have HVX := hide hvx
  have HVY := hide hvy
  obtain ⟨_, ax, cx, rfl, _⟩ := hvx
  obtain ⟨_, ay, cy, rfl, _⟩ := hvy
  have B6 := hide (B5.out.trans (hb6.mono B5.out.size))
  have hl5 := K5.out.lt
  have P6 : Hid (PS row S w2.heap.size w3.heap.size w6) := ⟨M5.out.below hb6 M5.out.lt, (P5.out S).below hb6 (P5.out S).lt, by omega⟩
  have K6 := K5.out.below hb6 hl5
  have q0 : ∀ o o', ((w6.alloc o).alloc o').cell? ⟨w3.heap.size + 1, 0, none⟩ = some (.map (some w2.heap.size)) := fun o o' => ((K6.alloc o).alloc o').cell 0
  have q1 : ∀ o o', ((w6.alloc o).alloc o').cell? ⟨w3.heap.size + 1, 1, none⟩ = some (.map (some w3.heap.size)) := fun o o' => ((K6.alloc o).alloc o').cell 1
  have hSl : S.length < 9000000000000000000 := by omega
  clear hb6 t0 t1 u0 u1
  go_wp2_with fail
  refine (above_any row S w2.heap.size w3.heap.size hSl (sizeL [a] + sizeL [b]) a b _ _ _ (fun b => w5.heap.size ≤ b) (Nat.le_refl _) (fun b hb => by omega) ((P6.out.alloc _).alloc _) (by exact (HVX.out.alloc _).alloc _) (by exact (HVY.out.alloc _).alloc _)).mono ?_
  rintro e w7 ⟨rfl, _, hE7⟩
  have HB7 : Hid (Below w.heap.size w w7) := by
    have h1 := (B6.out.alloc B6.out.size (.cells #[.string a.name, .slice ax a.args.length cx, .int .i64 (numT a S), .int .i64 (sizeL [a])] 100)).alloc (by have := B6.out.size; simp; omega) (.cells #[.string b.name, .slice ay b.args.length cy, .int .i64 (numT b S), .int .i64 (sizeL [b])] 100)
    exact ⟨hE7.os.trans h1.os, hE7.tape.trans h1.tape, hE7.output.trans h1.output, Nat.le_trans h1.size hE7.size, fun k hk => (hE7.block k (by have := h1.size; omega) (by have := B3.out.size; omega)).trans (h1.block k hk)⟩
  clear hE7
  go_wp2_with fail
  go_ret
  exact ⟨rfl, HB7.out⟩
#print axioms aPath_any
end Go.Proofs.Ytpbnbkeoiojpaac

/- Walks: above by weights, as it is asked for. -/
namespace Go.Proofs.Ytpbnbkeoiojpaac
open Go.RowKit
set_option linter.unusedSimpArgs false
set_option linter.unusedVariables false
set_option maxRecDepth 8000

def WtS (S : List Tm) (a b : Tm) (ax : Option Addr) (cx : Nat) (ay : Option Addr) (cy : Nat) (w w6 w' : World) : Prop :=
  Blk w' w6.heap.size #[.string a.name, .slice ax a.args.length cx, .int .i64 (numT a S), .int .i64 (sizeL [a])] 100 ∧ Blk w' (w6.heap.size + 1) #[.string b.name, .slice ay b.args.length cy, .int .i64 (numT b S), .int .i64 (sizeL [b])] 100 ∧ Below w.heap.size w w'
theorem WtS.later {S : List Tm} {a b : Tm} {ax ay : Option Addr} {cx cy : Nat} {w w6 w1 w2 : World} (h : WtS S a b ax cx ay cy w w6 w1) (hb : Below w1.heap.size w1 w2) : WtS S a b ax cx ay cy w w6 w2 := ⟨h.1.below hb h.1.lt, h.2.1.below hb h.2.1.lt, h.2.2.trans (hb.mono h.2.2.size)⟩
set_option maxHeartbeats 4000000 in
theorem aWeight_any (row : List ByteArray) (ho : OnceN row) (a b : Tm) (u va vb : Value) (w : World) (X : Nat → Prop) (ea : errL [a] = 0) (eb : errL [b] = 0) (za : sizeL [a] ≤ 20000) (zb : sizeL [b] ≤ 20000) (hu : LV Value.string w X u row) (ha : TV w X va a) (hb : TV w X vb b) :
    Calls Try.prog 45 #[u, va, vb] w fun e w' => e = .returned (.bool (weightB row a b)) ∧ Below w.heap.size w w' := by
  have HA := hide ha
  have HB := hide hb
  have HU := hide hu
  obtain ⟨aa, ca, rfl, hsa⟩ := ha
  obtain ⟨ab, cb, rfl, hsb⟩ := hb
  clear hsa hsb hu
  have HEA := hide ea
  have HEB := hide eb
  have HO := hide ho
  clear ea eb ho
  have B2 : Hid (Below w.heap.size w ((w.alloc (.cells #[.string a.name, .slice aa a.args.length ca] 25)).alloc (.cells #[.string b.name, .slice ab b.args.length cb] 25))) := ((Below.refl w.heap.size w).alloc (Nat.le_refl _) _).alloc (by simp) _
  go_enter Try.func45, Try.ntmps45
  go_wp2_with fail
  generalize ((w.alloc (.cells #[.string a.name, .slice aa a.args.length ca] 25)).alloc (.cells #[.string b.name, .slice ab b.args.length cb] 25)) = w2 at *
  refine (numbered_any a b _ _ _ X HEA.out HEB.out za zb (by exact HA.out.later B2.out) (by exact HB.out.later B2.out)).mono ?_
  rintro e w6 ⟨S, vx, vy, rfl, hS, hvx, hvy, hb6⟩
  have HVX := hide hvx
  have HVY := hide hvy
  obtain ⟨_, ax, cx, rfl, _⟩ := hvx
  obtain ⟨_, ay, cy, rfl, _⟩ := hvy
  have B6 := hide (B2.out.trans (hb6.mono B2.out.size))
  clear hb6
  have N0 : Hid (WtS S a b ax cx ay cy w w6 ((w6.alloc (.cells #[.string a.name, .slice ax a.args.length cx, .int .i64 (numT a S), .int .i64 (sizeL [a])] 100)).alloc (.cells #[.string b.name, .slice ay b.args.length cy, .int .i64 (numT b S), .int .i64 (sizeL [b])] 100)).drew) := by
    have k1 := (Blk.new w6 #[.string a.name, .slice ax a.args.length cx, .int .i64 (numT a S), .int .i64 (sizeL [a])] 100).alloc (.cells #[.string b.name, .slice ay b.args.length cy, .int .i64 (numT b S), .int .i64 (sizeL [b])] 100)
    have k2 := Blk.new (w6.alloc (.cells #[.string a.name, .slice ax a.args.length cx, .int .i64 (numT a S), .int .i64 (sizeL [a])] 100)) #[.string b.name, .slice ay b.args.length cy, .int .i64 (numT b S), .int .i64 (sizeL [b])] 100
    have e1 : (w6.alloc (.cells #[.string a.name, .slice ax a.args.length cx, .int .i64 (numT a S), .int .i64 (sizeL [a])] 100)).heap.size = w6.heap.size + 1 := by simp
    rw [e1] at k2
    exact ⟨k1, k2, below_drewN ((B6.out.alloc B6.out.size _).alloc (by have := B6.out.size; simp; omega) _) 1⟩
  have X0 : Hid (IV ((w6.alloc (.cells #[.string a.name, .slice ax a.args.length cx, .int .i64 (numT a S), .int .i64 (sizeL [a])] 100)).alloc (.cells #[.string b.name, .slice ay b.args.length cy, .int .i64 (numT b S), .int .i64 (sizeL [b])] 100)).drew (fun b => w2.heap.size ≤ b) S (.agg #[.string a.name, .slice ax a.args.length cx, .int .i64 (numT a S), .int .i64 (sizeL [a])]) a ∧ IV ((w6.alloc (.cells #[.string a.name, .slice ax a.args.length cx, .int .i64 (numT a S), .int .i64 (sizeL [a])] 100)).alloc (.cells #[.string b.name, .slice ay b.args.length cy, .int .i64 (numT b S), .int .i64 (sizeL [b])] 100)).drew (fun b => w2.heap.size ≤ b) S (.agg #[.string b.name, .slice ay b.args.length cy, .int .i64 (numT b S), .int .i64 (sizeL [b])]) b) := ⟨((HVX.out.alloc _).alloc _).kept (fun _ _ => rfl), ((HVY.out.alloc _).alloc _).kept (fun _ _ => rfl)⟩
  go_wp2_with fail
  refine wp_region_held_drew (S := WtS S a b ax cx ay cy w w6) (by kernel_rfl) N0.out (fun hHeld => ?_)
  refine wpAnyH_take (i := 0) (v := ?_) rfl (by kernel_rfl) (by kernel_rfl) (by kernel_rfl) (fun _ _ _ h => h) (Or.inl ⟨by rfl, ?_⟩) (by assumption) ?_
  rotate_left
  · intro w' hSw
    have t0 := hSw.1.cell 0
    have t1 := hSw.1.cell 1
    have t2 := hSw.1.cell 2
    have t3 := hSw.1.cell 3
    have u0 := hSw.2.1.cell 0
    have u1 := hSw.2.1.cell 1
    have u2 := hSw.2.1.cell 2
    have u3 := hSw.2.1.cell 3
    simp only [List.getElem?_toArray, List.getElem?_cons_zero, List.getElem?_cons_succ] at t0 t1 t2 t3 u0 u1 u2 u3
    go_simp <;> with_reducible rfl
  try simp only [Act.put, List.setIfInBounds_toArray, List.set_cons_zero, List.set_cons_succ, List.getElem_toArray, List.getElem_cons_succ, List.getElem_cons_zero]
  refine wpAnyH_take (i := 2) (v := ?_) rfl (by kernel_rfl) (by kernel_rfl) (by kernel_rfl) (fun _ _ _ h => h) (Or.inl ⟨by rfl, ?_⟩) (by assumption) ?_
  rotate_left
  · intro w' hSw
    have t0 := hSw.1.cell 0
    have t1 := hSw.1.cell 1
    have t2 := hSw.1.cell 2
    have t3 := hSw.1.cell 3
    have u0 := hSw.2.1.cell 0
    have u1 := hSw.2.1.cell 1
    have u2 := hSw.2.1.cell 2
    have u3 := hSw.2.1.cell 3
    simp only [List.getElem?_toArray, List.getElem?_cons_zero, List.getElem?_cons_succ] at t0 t1 t2 t3 u0 u1 u2 u3
    go_simp <;> with_reducible rfl
  try simp only [Act.put, List.setIfInBounds_toArray, List.set_cons_zero, List.set_cons_succ, List.getElem_toArray, List.getElem_cons_succ, List.getElem_cons_zero]
  refine wpAnyH_take (i := 3) (v := ?_) rfl (by kernel_rfl) (by kernel_rfl) (by kernel_rfl) (fun _ _ _ h => h) (Or.inl ⟨by rfl, ?_⟩) (by assumption) ?_
  rotate_left
  · intro w' hSw
    have t0 := hSw.1.cell 0
    have t1 := hSw.1.cell 1
    have t2 := hSw.1.cell 2
    have t3 := hSw.1.cell 3
    have u0 := hSw.2.1.cell 0
    have u1 := hSw.2.1.cell 1
    have u2 := hSw.2.1.cell 2
    have u3 := hSw.2.1.cell 3
    simp only [List.getElem?_toArray, List.getElem?_cons_zero, List.getElem?_cons_succ] at t0 t1 t2 t3 u0 u1 u2 u3
    go_simp <;> with_reducible rfl
  try simp only [Act.put, List.setIfInBounds_toArray, List.set_cons_zero, List.set_cons_succ, List.getElem_toArray, List.getElem_cons_succ, List.getElem_cons_zero]

  generalize ((w6.alloc (.cells #[.string a.name, .slice ax a.args.length cx, .int .i64 (numT a S), .int .i64 (sizeL [a])] 100)).alloc (.cells #[.string b.name, .slice ay b.args.length cy, .int .i64 (numT b S), .int .i64 (sizeL [b])] 100)).drew = w7 at *
  refine wpAnyH_ready (rs := [1]) (by kernel_rfl) (by simp) ?_
  refine AllReadyH.cons rfl (fun K hK => ?_) AllReadyH.nil
  go_simp
  go_at_call 69
  refine (ranksOf_any row HO.out _ _ X (by exact HU.out.later N0.out.2.2)).mono ?_
  rintro e w8 ⟨rfl, hM8, hb8⟩
  have M8 := hide hM8
  have N8 := hide (N0.out.later hb8)
  have X8 := hide (And.intro (X0.out.1.later hb8) (X0.out.2.later hb8))
  clear hM8 hb8
  go_simp
  refine hK.out _ _ (by exact N8.out) (fun hHeld => ?_)
  clear hK K
  try simp only [Act.put, List.setIfInBounds_toArray, List.set_cons_zero, List.set_cons_succ, List.getElem_toArray, List.getElem_cons_succ, List.getElem_cons_zero]
  refine wpAnyH_ready (rs := [4]) (by kernel_rfl) (by simp) ?_
  refine AllReadyH.cons rfl (fun K hK => ?_) AllReadyH.nil
  go_simp
  go_at_call 72
  refine (heavier_any row S w7.heap.size (sizeL [a]) a b _ _ _ _ (Nat.le_refl _) za zb M8.out (by exact X8.out.1) (by exact X8.out.2)).mono ?_
  rintro e w9 ⟨rfl, hb9⟩
  have N9 := hide (N8.out.later hb9)
  clear hb9
  go_simp
  refine hK.out _ _ (by exact N9.out) (fun hHeld => ?_)
  clear hK K
  try simp only [Act.put, List.setIfInBounds_toArray, List.set_cons_zero, List.set_cons_succ, List.getElem_toArray, List.getElem_cons_succ, List.getElem_cons_zero]
  refine wpAnyH_take (i := 5) (v := ?_) rfl (by kernel_rfl) (by kernel_rfl) (by kernel_rfl) (fun _ _ _ h => h) (Or.inl ⟨by rfl, ?_⟩) (by assumption) ?_
  rotate_left
  · intro w' hSw
    go_simp <;> with_reducible rfl
  try simp only [Act.put, List.setIfInBounds_toArray, List.set_cons_zero, List.set_cons_succ, List.getElem_toArray, List.getElem_cons_succ, List.getElem_cons_zero]
  refine wpAnyH_done (by kernel_rfl) ?_ _
  go_wp2_with fail
  go_ret
  exact ⟨rfl, N9.out.2.2⟩
#print axioms aWeight_any

/-- What is wrong with a row at a place. -/
def rowAt (row : List ByteArray) (k : Nat) : Int := if nameB (row.getD k ⟨#[]⟩) = false ∨ varB (row.getD k ⟨#[]⟩) = true then 1 else if inB (row.getD k ⟨#[]⟩) (row.take k) = true then 4 else 0
/-- What is wrong with a row. -/
def rowE (row : List ByteArray) : Int := if 40 < row.length then 3 else orI ((List.range row.length).map (rowAt row))
theorem rowAt_get {row : List ByteArray} {k : Nat} (h : k < row.length) : rowAt row k = if nameB row[k] = false ∨ varB row[k] = true then 1 else if inB row[k] (row.take k) = true then 4 else 0 := by
  have e : row.getD k ⟨#[]⟩ = row[k] := by simp [List.getD, h]
  unfold rowAt
  rw [e]
theorem rows_take {row : List ByteArray} {k : Nat} (h : k < row.length) (h0 : ∀ j < k, rowAt row j = 0) (hz : rowAt row k ≠ 0) : orI ((List.range row.length).map (rowAt row)) = rowAt row k := by
  have hl : k < ((List.range row.length).map (rowAt row)).length := by simpa using h
  have hg : ((List.range row.length).map (rowAt row))[k] = rowAt row k := by simp
  rw [← hg]
  refine orI_take hl (fun z hz' => ?_) (by rw [hg]; exact hz)
  rw [List.mem_iff_getElem] at hz'
  obtain ⟨j, hj, rfl⟩ := hz'
  simp at hj ⊢
  exact h0 j (by omega)
theorem rows_none {row : List ByteArray} (h0 : ∀ j < row.length, rowAt row j = 0) : orI ((List.range row.length).map (rowAt row)) = 0 := by
  refine orI_none fun z hz => ?_
  rw [List.mem_map] at hz
  obtain ⟨j, hj, rfl⟩ := hz
  exact h0 j (by simpa using hj)
theorem rowE_once {row : List ByteArray} (h : rowE row = 0) : OnceN row := by
  intro k hk hm
  unfold rowE at h
  split at h
  · cases h
  · have key : ∀ j, j < row.length → rowAt row j = 0 := by
      intro j
      induction j using Nat.strongRecOn with
      | ind j ih =>
        intro hj
        apply Classical.byContradiction
        intro hne
        rw [rows_take hj (fun i hi => ih i hi (by omega)) hne] at h
        exact hne h
    have h1 := key k hk
    rw [rowAt_get hk] at h1
    have hin : inB row[k] (row.take k) = true := by
      unfold inB
      rw [List.any_eq_true]
      exact ⟨_, hm, by simp⟩
    rw [hin] at h1
    split at h1
    · cases h1
    · simp at h1
theorem LV.take {α : Type} {f : α → Value} {w : World} {X : Nat → Prop} {a : Option Addr} {n c : Nat} {l : List α} (h : LV f w X (.slice a n c) l) (k : Nat) (hk : k ≤ l.length) : LV f w X (.slice a k c) (l.take k) := by
  obtain ⟨a2, c2, e, ⟨h1, h2⟩, h3⟩ := h
  simp at e
  obtain ⟨rfl, rfl, rfl⟩ := e
  have hl : (l.take k).length = k := by simp; omega
  refine ⟨a, c, by rw [hl], ⟨by omega, by omega⟩, ?_⟩
  rcases h3 with h3 | ⟨b, o, e, hx, h3⟩
  · exact Or.inl (by rw [h3]; simp)
  · exact Or.inr ⟨b, o, e, hx, fun i hi => by rw [List.getElem_take]; exact h3 i (by simp at hi; omega)⟩

def RcInv (row : List ByteArray) (w : World) (i : Value) (wr : World) : Prop := ∃ k n : Nat, k ≤ row.length ∧ i = .int .i64 (k : Int) ∧ wr = w.drewN n ∧ ∀ j < k, rowAt row j = 0
set_option maxHeartbeats 4000000 in
theorem oCheck_any (row : List ByteArray) (u : Value) (w : World) (X : Nat → Prop) (hu : LV Value.string w X u row) :
    Calls Try.prog 15 #[u] w fun e w' => e = .returned (.int .i64 (rowE row)) ∧ Below w.heap.size w w' := by
  have HU := hide hu
  obtain ⟨a, c, rfl, ⟨hl, hlc⟩, hu⟩ := hu
  by_cases h40 : 40 < row.length
  · have h40i : (40 : Int) < (row.length : Int) := by omega
    have HR : Hid (rowE row = 3) := by unfold Hid rowE; rw [if_pos h40]
    go_enter Try.func15, Try.ntmps15
    go_wp2_with fail
    go_ret
    exact ⟨by rw [HR.out]; rfl, Below.refl _ _⟩
  · have h40i : ¬ (40 : Int) < (row.length : Int) := by omega
    have HE : Hid (rowE row = orI ((List.range row.length).map (rowAt row))) := by unfold Hid rowE; rw [if_neg h40]
    go_enter Try.func15, Try.ntmps15
    go_wp2_with fail
    go_loopw [10] (fun i wr => RcInv row w i wr) (fun i wr => row.length - (intOf i).toNat)
    case atStart => exact ⟨0, 0, Nat.zero_le _, rfl, rfl, fun j h => by omega⟩
    case round =>
      obtain ⟨k, n, hk, rfl, hwr, h0⟩ := hrel
      have H0 := hide h0
      have HWR := hide hwr
      by_cases hlt : k < row.length
      · obtain ⟨b, o, rfl, hX, hc⟩ := hu.resolve_left (fun h => by rw [h] at hlt; simp at hlt)
        have d0 : wr.cell? ⟨b, o + k, none⟩ = some (.string row[k]) := by rw [hwr]; exact hc k hlt
        have hlti : (k : Int) < (row.length : Int) := by omega
        have hkc : (k : Int) ≤ (c : Int) := by omega
        have HRA := hide (rowAt_get hlt)
        have HLT := hide (HU.out.take k (by omega))
        have HI0 : Hid (LV Value.string wr X (.slice (some ⟨b, o, none⟩) k c) (row.take k)) := by unfold Hid; rw [hwr]; exact HLT.out
        have HIN := hide (fun (n : Nat) => show LV Value.string (wr.drewN n) X (.slice (some ⟨b, o, none⟩) k c) (row.take k) from HI0.out)
        clear h0 hc hwr
        cases hn : nameB row[k] with
        | false =>
          have HR : Hid (rowE row = 1) := by unfold Hid; rw [HE.out, rows_take hlt H0.out (by rw [HRA.out, if_pos (Or.inl hn)]; decide), HRA.out, if_pos (Or.inl hn)]
          go_wp2_with (go_at_call 46; refine (isName_any _ _).mono ?_; rintro e w' ⟨rfl, rfl⟩; rw [hn])
          go_ret
          exact ⟨by rw [HR.out]; rfl, by rw [HWR.out]; exact below_drewN (Below.refl _ _) _⟩
        | true =>
          cases hv : varB row[k] with
          | true =>
            have HR : Hid (rowE row = 1) := by unfold Hid; rw [HE.out, rows_take hlt H0.out (by rw [HRA.out, if_pos (Or.inr hv)]; decide), HRA.out, if_pos (Or.inr hv)]
            go_wp2_with (first | (go_at_call 46; refine (isName_any _ _).mono ?_; rintro e w' ⟨rfl, rfl⟩; rw [hn]) | (go_at_call 47; refine (isVariable_all _ _).mono ?_; rintro e w' ⟨rfl, rfl⟩; rw [hv]))
            go_ret
            exact ⟨by rw [HR.out]; rfl, by rw [HWR.out]; exact below_drewN (Below.refl _ _) _⟩
          | false =>
            have hno : ¬ (nameB row[k] = false ∨ varB row[k] = true) := by rw [hn, hv]; simp
            cases hi : inB row[k] (row.take k) with
            | true =>
              have HR : Hid (rowE row = 4) := by unfold Hid; rw [HE.out, rows_take hlt H0.out (by rw [HRA.out, if_neg hno, if_pos hi]; decide), HRA.out, if_neg hno, if_pos hi]
              go_wp2_with (first | (go_at_call 46; refine (isName_any _ _).mono ?_; rintro e w' ⟨rfl, rfl⟩; rw [hn]) | (go_at_call 47; refine (isVariable_all _ _).mono ?_; rintro e w' ⟨rfl, rfl⟩; rw [hv]) | (go_at_call 48; refine (contains_any _ _ _ _ X HI0.out).mono ?_; rintro e w' ⟨rfl, rfl⟩; rw [hi]))
              go_ret
              exact ⟨by rw [HR.out]; rfl, by rw [HWR.out]; exact below_drewN (Below.refl _ _) _⟩
            | false =>
              have HZ : Hid (rowAt row k = 0) := by unfold Hid; rw [HRA.out, if_neg hno, if_neg (by rw [hi]; simp)]
              go_wp2_with (first | (go_at_call 46; refine (isName_any _ _).mono ?_; rintro e w' ⟨rfl, rfl⟩; rw [hn]) | (go_at_call 47; refine (isVariable_all _ _).mono ?_; rintro e w' ⟨rfl, rfl⟩; rw [hv]) | (go_at_call 48; refine (contains_any _ _ _ _ X HI0.out).mono ?_; rintro e w' ⟨rfl, rfl⟩; rw [hi]))
              go_roundw
              case rel =>
                refine ⟨k + 1, _, by omega, by go_num, HWR.out, fun j hj => ?_⟩
                by_cases e : j = k
                · subst e; exact HZ.out
                · exact H0.out j (by omega)
              case measure => simp [intOf]; omega
      · have hkk : k = row.length := by omega
        clear hwr
        have HR : Hid (rowE row = 0) := by unfold Hid; rw [HE.out]; exact rows_none (by rw [← hkk]; exact H0.out)
        go_wp2_with fail
        go_ret
        exact ⟨by rw [HR.out]; rfl, by rw [HWR.out]; exact below_drewN (Below.refl _ _) _⟩
#print axioms oCheck_any
set_option maxHeartbeats 4000000 in
theorem rowMay_any (row : List ByteArray) (u : Value) (w : World) (X : Nat → Prop) (hu : LV Value.string w X u row) :
    Calls Try.prog 8 #[u] w fun e w' => e = .returned (.int .i64 (rowE row)) ∧ Below w.heap.size w w' := by
  have HU := hide hu
  obtain ⟨a, c, rfl, ⟨hl, hlc⟩, hu⟩ := hu
  by_cases h40 : 40 < row.length
  · have h40i : (40 : Int) < (row.length : Int) := by omega
    have HR : Hid (rowE row = 3) := by unfold Hid rowE; rw [if_pos h40]
    go_enter Try.func8, Try.ntmps8
    go_wp2_with fail
    go_ret
    exact ⟨by rw [HR.out]; rfl, Below.refl _ _⟩
  · have h40i : ¬ (40 : Int) < (row.length : Int) := by omega
    have HE : Hid (rowE row = orI ((List.range row.length).map (rowAt row))) := by unfold Hid rowE; rw [if_neg h40]
    go_enter Try.func8, Try.ntmps8
    go_wp2_with fail
    go_loopw [3] (fun i wr => RcInv row w i wr) (fun i wr => row.length - (intOf i).toNat)
    case atStart => exact ⟨0, 0, Nat.zero_le _, rfl, rfl, fun j h => by omega⟩
    case round =>
      obtain ⟨k, n, hk, rfl, hwr, h0⟩ := hrel
      have H0 := hide h0
      have HWR := hide hwr
      by_cases hlt : k < row.length
      · obtain ⟨b, o, rfl, hX, hc⟩ := hu.resolve_left (fun h => by rw [h] at hlt; simp at hlt)
        have d0 : wr.cell? ⟨b, o + k, none⟩ = some (.string row[k]) := by rw [hwr]; exact hc k hlt
        have hlti : (k : Int) < (row.length : Int) := by omega
        have hkc : (k : Int) ≤ (c : Int) := by omega
        have HRA := hide (rowAt_get hlt)
        have HLT := hide (HU.out.take k (by omega))
        have HI0 : Hid (LV Value.string wr X (.slice (some ⟨b, o, none⟩) k c) (row.take k)) := by unfold Hid; rw [hwr]; exact HLT.out
        have HIN := hide (fun (n : Nat) => show LV Value.string (wr.drewN n) X (.slice (some ⟨b, o, none⟩) k c) (row.take k) from HI0.out)
        clear h0 hc hwr
        cases hn : nameB row[k] with
        | false =>
          have HR : Hid (rowE row = 1) := by unfold Hid; rw [HE.out, rows_take hlt H0.out (by rw [HRA.out, if_pos (Or.inl hn)]; decide), HRA.out, if_pos (Or.inl hn)]
          go_wp2_with (go_at_call 34; refine (isNameR_any _ _).mono ?_; rintro e w' ⟨rfl, rfl⟩; rw [hn])
          go_ret
          exact ⟨by rw [HR.out]; rfl, by first | (rw [HWR.out]; exact below_drewN (Below.refl _ _) _) | (rw [HWR.out, World.drewN_drewN]; exact below_drewN (Below.refl _ _) _)⟩
        | true =>
          cases hv : varB row[k] with
          | true =>
            have HR : Hid (rowE row = 1) := by unfold Hid; rw [HE.out, rows_take hlt H0.out (by rw [HRA.out, if_pos (Or.inr hv)]; decide), HRA.out, if_pos (Or.inr hv)]
            go_wp2_with (first | (go_at_call 34; refine (isNameR_any _ _).mono ?_; rintro e w' ⟨rfl, rfl⟩; rw [hn]) | (go_at_call 35; refine (isVarR_any _ _).mono ?_; rintro e w' ⟨rfl, rfl⟩; rw [hv]))
            go_ret
            exact ⟨by rw [HR.out]; rfl, by first | (rw [HWR.out]; exact below_drewN (Below.refl _ _) _) | (rw [HWR.out, World.drewN_drewN]; exact below_drewN (Below.refl _ _) _)⟩
          | false =>
            have hno : ¬ (nameB row[k] = false ∨ varB row[k] = true) := by rw [hn, hv]; simp
            cases hi : inB row[k] (row.take k) with
            | true =>
              have HR : Hid (rowE row = 4) := by unfold Hid; rw [HE.out, rows_take hlt H0.out (by rw [HRA.out, if_neg hno, if_pos hi]; decide), HRA.out, if_neg hno, if_pos hi]
              have HAW : Hid (∀ m, Calls Try.prog 36 #[.string row[k], .slice (some ⟨b, o, none⟩) k c] (wr.drewN m) fun e w' => e = .returned (.bool true) ∧ w' = wr.drewN m) := fun m => by
                have h := in_any row[k] (row.take k) _ (wr.drewN m) X (HIN.out m)
                rw [hi] at h
                exact h
              go_wp2_with (first | (go_at_call 34; refine (isNameR_any _ _).mono ?_; rintro e w' ⟨rfl, rfl⟩; rw [hn]) | (go_at_call 35; refine (isVarR_any _ _).mono ?_; rintro e w' ⟨rfl, rfl⟩; rw [hv]))
              go_quiet ((go_at_call 36; refine Calls.quiet_of_same (HAW.out _)))
              go_wp2_with fail
              go_ret
              exact ⟨by rw [HR.out]; rfl, by first | (rw [HWR.out]; exact below_drewN (Below.refl _ _) _) | (rw [HWR.out, World.drewN_drewN]; exact below_drewN (Below.refl _ _) _)⟩
            | false =>
              have HZ : Hid (rowAt row k = 0) := by unfold Hid; rw [HRA.out, if_neg hno, if_neg (by rw [hi]; simp)]
              have HAW : Hid (∀ m, Calls Try.prog 36 #[.string row[k], .slice (some ⟨b, o, none⟩) k c] (wr.drewN m) fun e w' => e = .returned (.bool false) ∧ w' = wr.drewN m) := fun m => by
                have h := in_any row[k] (row.take k) _ (wr.drewN m) X (HIN.out m)
                rw [hi] at h
                exact h
              go_wp2_with (first | (go_at_call 34; refine (isNameR_any _ _).mono ?_; rintro e w' ⟨rfl, rfl⟩; rw [hn]) | (go_at_call 35; refine (isVarR_any _ _).mono ?_; rintro e w' ⟨rfl, rfl⟩; rw [hv]))
              go_quiet ((go_at_call 36; refine Calls.quiet_of_same (HAW.out _)))
              go_wp2_with fail
              go_roundw
              case rel =>
                refine ⟨k + 1, _, by omega, by go_num, by rw [HWR.out, World.drewN_drewN], fun j hj => ?_⟩
                by_cases e : j = k
                · subst e; exact HZ.out
                · exact H0.out j (by omega)
              case measure => simp [intOf]; omega
      · have hkk : k = row.length := by omega
        clear hwr
        have HR : Hid (rowE row = 0) := by unfold Hid; rw [HE.out]; exact rows_none (by rw [← hkk]; exact H0.out)
        go_wp2_with fail
        go_ret
        exact ⟨by rw [HR.out]; rfl, by first | (rw [HWR.out]; exact below_drewN (Below.refl _ _) _) | (rw [HWR.out, World.drewN_drewN]; exact below_drewN (Below.refl _ _) _)⟩
#print axioms rowMay_any
end Go.Proofs.Ytpbnbkeoiojpaac

/- Walks: the face of package order. -/
namespace Go.Proofs.Ytpbnbkeoiojpaac
open Go.RowKit
set_option linter.unusedSimpArgs false
set_option linter.unusedVariables false
set_option maxRecDepth 8000

/-- What is wrong, first with the row, then with the terms. -/
def ordE (row : List ByteArray) (a b : Tm) : Int := if rowE row = 0 then twoE a b else rowE row
theorem ordE_zero {row : List ByteArray} {a b : Tm} (h : ordE row a b = 0) : rowE row = 0 ∧ mayE a = 0 ∧ mayE b = 0 := by
  unfold ordE at h
  split at h
  · rename_i h0
    unfold twoE at h
    split at h
    · rename_i h1
      exact ⟨h0, h1, h⟩
    · rename_i h1; exact absurd h h1
  · rename_i h0; exact absurd h h0
theorem mayE_zero {t : Tm} (h : mayE t = 0) : errL [t] = 0 ∧ sizeL [t] ≤ 200 := by
  unfold mayE at h
  split at h
  · exact absurd h (by decide)
  · exact ⟨h, by omega⟩
structure TwW (a b : Tm) (aa : Option Addr) (ca : Nat) (ab : Option Addr) (cb : Nat) (w wr : World) : Prop where
  k1 : Blk wr w.heap.size #[.string a.name, .slice aa a.args.length ca] 25
  k2 : Blk wr (w.heap.size + 1) #[.string b.name, .slice ab b.args.length cb] 25
  bl : Below w.heap.size w wr
theorem TwW.later {a b : Tm} {aa ab : Option Addr} {ca cb : Nat} {w w1 w2 : World} (h : TwW a b aa ca ab cb w w1) (hb : Below w1.heap.size w1 w2) : TwW a b aa ca ab cb w w2 := ⟨h.k1.below hb h.k1.lt, h.k2.below hb h.k2.lt, h.bl.trans (hb.mono h.bl.size)⟩
theorem TwW.start (a b : Tm) (aa : Option Addr) (ca : Nat) (ab : Option Addr) (cb : Nat) (w : World) : TwW a b aa ca ab cb w ((w.alloc (.cells #[.string a.name, .slice aa a.args.length ca] 25)).alloc (.cells #[.string b.name, .slice ab b.args.length cb] 25)) := by
  have k1 := Blk.new w #[.string a.name, .slice aa a.args.length ca] 25
  have e1 : (w.alloc (.cells #[.string a.name, .slice aa a.args.length ca] 25)).heap.size = w.heap.size + 1 := by simp
  have b1 := (Below.refl w.heap.size w).alloc (Nat.le_refl _) (.cells #[.string a.name, .slice aa a.args.length ca] 25)
  generalize (w.alloc (.cells #[.string a.name, .slice aa a.args.length ca] 25)) = w1 at *
  have k2 := Blk.new w1 #[.string b.name, .slice ab b.args.length cb] 25
  rw [e1] at k2
  exact ⟨k1.alloc _, k2, b1.alloc b1.size _⟩

set_option maxHeartbeats 2000000 in
theorem checkAll_any (row : List ByteArray) (a b : Tm) (u va vb : Value) (w : World) (X : Nat → Prop) (hu : LV Value.string w X u row) (ha : TV w X va a) (hb : TV w X vb b) :
    Calls Try.prog 43 #[u, va, vb] w fun e w' => e = .returned (.int .i64 (ordE row a b)) ∧ Below w.heap.size w w' := by
  have HA := hide ha
  have HB := hide hb
  have HU := hide hu
  obtain ⟨aa, ca, rfl, hsa⟩ := ha
  obtain ⟨ab, cb, rfl, hsb⟩ := hb
  clear hsa hsb hu
  have A2 := hide (TwW.start a b aa ca ab cb w)
  go_enter Try.func43, Try.ntmps43
  go_wp2_with fail
  generalize ((w.alloc (.cells #[.string a.name, .slice aa a.args.length ca] 25)).alloc (.cells #[.string b.name, .slice ab b.args.length cb] 25)) = w2 at *
  refine (oCheck_any row _ _ X (by exact HU.out.later A2.out.bl)).mono ?_
  rintro e w3 ⟨rfl, hb3⟩
  have A3 := hide (A2.out.later hb3)
  clear hb3 A2
  have r0 : w3.cell? ⟨w.heap.size, 0, none⟩ = some (.string a.name) := A3.out.k1.cell 0
  have r1 : w3.cell? ⟨w.heap.size, 1, none⟩ = some (.slice aa a.args.length ca) := A3.out.k1.cell 1
  by_cases h0 : rowE row = 0
  · have HE : Hid (ordE row a b = twoE a b) := by unfold Hid ordE; rw [if_pos h0]
    rw [h0]
    clear h0
    go_wp2_with fail
    refine (check_any a _ _ X (by exact HA.out.later A3.out.bl)).mono ?_
    rintro e w4 ⟨rfl, hb4⟩
    have A4 := hide (A3.out.later hb4)
    clear hb4 A3 r0 r1
    have s0 : w4.cell? ⟨w.heap.size + 1, 0, none⟩ = some (.string b.name) := A4.out.k2.cell 0
    have s1 : w4.cell? ⟨w.heap.size + 1, 1, none⟩ = some (.slice ab b.args.length cb) := A4.out.k2.cell 1
    by_cases h1 : mayE a = 0
    · have HE2 : Hid (ordE row a b = mayE b) := by unfold Hid; rw [HE.out]; unfold twoE; rw [if_pos h1]
      rw [h1]
      clear h1
      go_wp2_with fail
      refine (check_any b _ _ X (by exact HB.out.later A4.out.bl)).mono ?_
      rintro e w5 ⟨rfl, hb5⟩
      have A5 := hide (A4.out.later hb5)
      clear hb5 A4 s0 s1
      go_wp2_with fail
      go_ret
      exact ⟨by rw [HE2.out]; rfl, A5.out.bl⟩
    · have HE2 : Hid (ordE row a b = mayE a) := by unfold Hid; rw [HE.out]; unfold twoE; rw [if_neg h1]
      have h1' : (mayE a == 0) = false := by simpa using h1
      go_wp2_with fail
      go_ret
      exact ⟨by rw [HE2.out]; rfl, A4.out.bl⟩
  · have HE : Hid (ordE row a b = rowE row) := by unfold Hid ordE; rw [if_neg h0]
    have h0' : (rowE row == 0) = false := by simpa using h0
    go_wp2_with fail
    go_ret
    exact ⟨by rw [HE.out]; rfl, A3.out.bl⟩

set_option maxHeartbeats 2000000 in
theorem oPath_any (row : List ByteArray) (a b : Tm) (u va vb : Value) (w : World) (X : Nat → Prop) (hu : LV Value.string w X u row) (ha : TV w X va a) (hb : TV w X vb b) :
    Calls Try.prog 13 #[u, va, vb] w fun e w' => e = .returned (.tuple #[.bool (decide (ordE row a b = 0) && pathB row a b), .int .i64 (ordE row a b)]) ∧ Below w.heap.size w w' := by
  have HA := hide ha
  have HB := hide hb
  have HU := hide hu
  obtain ⟨aa, ca, rfl, hsa⟩ := ha
  obtain ⟨ab, cb, rfl, hsb⟩ := hb
  clear hsa hsb hu
  have A2 := hide (TwW.start a b aa ca ab cb w)
  go_enter Try.func13, Try.ntmps13
  go_wp2_with fail
  generalize ((w.alloc (.cells #[.string a.name, .slice aa a.args.length ca] 25)).alloc (.cells #[.string b.name, .slice ab b.args.length cb] 25)) = w2 at *
  refine (checkAll_any row a b _ _ _ _ X (by exact HU.out.later A2.out.bl) (by exact HA.out.later A2.out.bl) (by exact HB.out.later A2.out.bl)).mono ?_
  rintro e w3 ⟨rfl, hb3⟩
  have A3 := hide (A2.out.later hb3)
  clear hb3 A2
  have r0 : w3.cell? ⟨w.heap.size, 0, none⟩ = some (.string a.name) := A3.out.k1.cell 0
  have r1 : w3.cell? ⟨w.heap.size, 1, none⟩ = some (.slice aa a.args.length ca) := A3.out.k1.cell 1
  have s0 : w3.cell? ⟨w.heap.size + 1, 0, none⟩ = some (.string b.name) := A3.out.k2.cell 0
  have s1 : w3.cell? ⟨w.heap.size + 1, 1, none⟩ = some (.slice ab b.args.length cb) := A3.out.k2.cell 1
  by_cases h0 : ordE row a b = 0
  · have HR : Hid ((decide (ordE row a b = 0) && pathB row a b) = pathB row a b ∧ ordE row a b = 0) := by unfold Hid; rw [h0]; simp
    obtain ⟨e1, e2, e3⟩ := ordE_zero h0
    have HO := hide (rowE_once e1)
    have HA0 := hide (mayE_zero e2)
    have HB0 := hide (mayE_zero e3)
    rw [h0]
    clear h0 e1 e2 e3
    go_wp2_with fail
    refine (aPath_any row HO.out a b _ _ _ _ X HA0.out.1 HB0.out.1 (by have := HA0.out.2; omega) (by have := HB0.out.2; omega) (by exact HU.out.later A3.out.bl) (by exact HA.out.later A3.out.bl) (by exact HB.out.later A3.out.bl)).mono ?_
    rintro e w4 ⟨rfl, hb4⟩
    have A4 := hide (A3.out.later hb4)
    clear hb4 A3 r0 r1 s0 s1
    go_wp2_with fail
    go_ret2
    exact ⟨by rw [HR.out.1, HR.out.2]; rfl, A4.out.bl⟩
  · have HR : Hid ((decide (ordE row a b = 0) && pathB row a b) = false) := by unfold Hid; simp [h0]
    have h0' : (ordE row a b == 0) = false := by simpa using h0
    go_wp2_with fail
    go_ret2
    exact ⟨by rw [HR.out]; rfl, A3.out.bl⟩
#print axioms oPath_any

set_option maxHeartbeats 2000000 in
theorem oWeight_any (row : List ByteArray) (a b : Tm) (u va vb : Value) (w : World) (X : Nat → Prop) (hu : LV Value.string w X u row) (ha : TV w X va a) (hb : TV w X vb b) :
    Calls Try.prog 14 #[u, va, vb] w fun e w' => e = .returned (.tuple #[.bool (decide (ordE row a b = 0) && weightB row a b), .int .i64 (ordE row a b)]) ∧ Below w.heap.size w w' := by
  have HA := hide ha
  have HB := hide hb
  have HU := hide hu
  obtain ⟨aa, ca, rfl, hsa⟩ := ha
  obtain ⟨ab, cb, rfl, hsb⟩ := hb
  clear hsa hsb hu
  have A2 := hide (TwW.start a b aa ca ab cb w)
  go_enter Try.func14, Try.ntmps14
  go_wp2_with fail
  generalize ((w.alloc (.cells #[.string a.name, .slice aa a.args.length ca] 25)).alloc (.cells #[.string b.name, .slice ab b.args.length cb] 25)) = w2 at *
  refine (checkAll_any row a b _ _ _ _ X (by exact HU.out.later A2.out.bl) (by exact HA.out.later A2.out.bl) (by exact HB.out.later A2.out.bl)).mono ?_
  rintro e w3 ⟨rfl, hb3⟩
  have A3 := hide (A2.out.later hb3)
  clear hb3 A2
  have r0 : w3.cell? ⟨w.heap.size, 0, none⟩ = some (.string a.name) := A3.out.k1.cell 0
  have r1 : w3.cell? ⟨w.heap.size, 1, none⟩ = some (.slice aa a.args.length ca) := A3.out.k1.cell 1
  have s0 : w3.cell? ⟨w.heap.size + 1, 0, none⟩ = some (.string b.name) := A3.out.k2.cell 0
  have s1 : w3.cell? ⟨w.heap.size + 1, 1, none⟩ = some (.slice ab b.args.length cb) := A3.out.k2.cell 1
  by_cases h0 : ordE row a b = 0
  · have HR : Hid ((decide (ordE row a b = 0) && weightB row a b) = weightB row a b ∧ ordE row a b = 0) := by unfold Hid; rw [h0]; simp
    obtain ⟨e1, e2, e3⟩ := ordE_zero h0
    have HO := hide (rowE_once e1)
    have HA0 := hide (mayE_zero e2)
    have HB0 := hide (mayE_zero e3)
    rw [h0]
    clear h0 e1 e2 e3
    go_wp2_with fail
    refine (aWeight_any row HO.out a b _ _ _ _ X HA0.out.1 HB0.out.1 (by have := HA0.out.2; omega) (by have := HB0.out.2; omega) (by exact HU.out.later A3.out.bl) (by exact HA.out.later A3.out.bl) (by exact HB.out.later A3.out.bl)).mono ?_
    rintro e w4 ⟨rfl, hb4⟩
    have A4 := hide (A3.out.later hb4)
    clear hb4 A3 r0 r1 s0 s1
    go_wp2_with fail
    go_ret2
    exact ⟨by rw [HR.out.1, HR.out.2]; rfl, A4.out.bl⟩
  · have HR : Hid ((decide (ordE row a b = 0) && weightB row a b) = false) := by unfold Hid; simp [h0]
    have h0' : (ordE row a b == 0) = false := by simpa using h0
    go_wp2_with fail
    go_ret2
    exact ⟨by rw [HR.out]; rfl, A3.out.bl⟩
#print axioms oWeight_any
end Go.Proofs.Ytpbnbkeoiojpaac

/- Walks: the document's ranks, symbols, and how often a name stands. -/
namespace Go.Proofs.Ytpbnbkeoiojpaac
open Go.RowKit
set_option linter.unusedSimpArgs false
set_option linter.unusedVariables false
set_option maxRecDepth 8000

theorem rank_at {s : ByteArray} : ∀ {row : List ByteArray} {k : Nat} (h : k < row.length), s ∉ row.take k → row[k] = s → rankN s row = k + 1
  | x :: row, 0, _, _, e => by
    have e' : x = s := e
    rw [rankN, if_pos e']
  | x :: row, k + 1, h, hn, e => by
    rw [List.take_succ_cons, List.mem_cons, not_or] at hn
    rw [rankN, if_neg fun e' => hn.1 e'.symm, rank_at (k := k) (by simpa using h) hn.2 (by simpa using e)]
set_option maxHeartbeats 1000000 in
theorem rank_any (row : List ByteArray) (s : ByteArray) (u : Value) (w : World) (X : Nat → Prop) (hu : LV Value.string w X u row) :
    Calls Try.prog 67 #[u, .string s] w fun e w' => e = .returned (.int .i64 ((rankN s row : Int) - 1)) ∧ w' = w := by
  obtain ⟨a, c, rfl, ⟨hl, _⟩, h1⟩ := hu
  go_enter Try.func67, Try.ntmps67
  go_wp2_with fail
  go_loop [5] (fun i => ∃ k : Nat, k ≤ row.length ∧ i = .int .i64 k ∧ s ∉ row.take k) (fun i => row.length - (intOf i).toNat)
  case atStart => exact ⟨0, Nat.zero_le _, rfl, by simp⟩
  case round =>
    obtain ⟨k, hk, rfl, ha⟩ := hrel
    have HA := hide ha
    clear ha
    by_cases hlt : k < row.length
    · obtain ⟨b, o, rfl, _, hc⟩ := h1.resolve_left (fun h => by rw [h] at hlt; simp at hlt)
      have d1 := hc k hlt
      clear hc h1
      by_cases he : row[k] = s
      · have HQ := hide (rank_at hlt HA.out he)
        have hq := bytes_yes he
        go_wp2_with fail
        go_ret
        exact ⟨ret_int (by rw [HQ.out]; omega), rfl⟩
      · have hq := bytes_no he
        have HQ : Hid (s ∉ row.take (k + 1)) := by
          unfold Hid
          rw [List.take_succ_eq_append_getElem hlt, List.mem_append, not_or]
          exact ⟨HA.out, by simpa using fun e => he e.symm⟩
        go_wp2_with fail
        go_round
        case rel => exact ⟨k + 1, by omega, by go_num, HQ.out⟩
        case measure => simp [intOf]; omega
    · have htk : row.take k = row := List.take_of_length_le (by omega)
      have HF : Hid (rankN s row = 0) := by unfold Hid; refine rank_none ?_; have h := HA.out; rw [htk] at h; exact h
      go_wp2_with fail
      go_ret
      exact ⟨ret_int (by rw [HF.out]; rfl), rfl⟩

theorem ltB_def (a b : ByteArray) : ltB a b = Op.bytesLess a.toList b.toList := rfl
set_option maxHeartbeats 2000000 in
theorem greater_any (row : List ByteArray) (a b : Tm) (u va vb : Value) (w : World) (X : Nat → Prop) (hrl : row.length ≤ 1000) (hu : LV Value.string w X u row) (ha : TV w X va a) (hb : TV w X vb b) :
    Calls Try.prog 42 #[u, va, vb] w fun e w' => e = .returned (.bool (gtS row a b)) ∧ Below w.heap.size w w' := by
  have HU := hide hu
  obtain ⟨aa, ca, rfl, hsa⟩ := ha
  obtain ⟨ab, cb, rfl, hsb⟩ := hb
  have hla := hsa.1
  have hlb := hsb.1
  clear hsa hsb hu
  have A2 := hide (TwW.start a b aa ca ab cb w)
  have rka := rank_le a.name row
  have rkb := rank_le b.name row
  have HG : Hid (gtS row a b = if rankN a.name row ≠ rankN b.name row then decide (rankN b.name row < rankN a.name row) else if a.name ≠ b.name then ltB b.name a.name else decide (b.args.length < a.args.length)) := rfl
  go_enter Try.func42, Try.ntmps42
  go_wp2_with fail
  generalize ((w.alloc (.cells #[.string a.name, .slice aa a.args.length ca] 25)).alloc (.cells #[.string b.name, .slice ab b.args.length cb] 25)) = w2 at *
  refine (rank_any row a.name _ _ X (by exact HU.out.later A2.out.bl)).mono ?_
  rintro e w3 ⟨rfl, rfl⟩
  have r0 : w3.cell? ⟨w.heap.size, 0, none⟩ = some (.string a.name) := A2.out.k1.cell 0
  have r1 : w3.cell? ⟨w.heap.size, 1, none⟩ = some (.slice aa a.args.length ca) := A2.out.k1.cell 1
  have s0 : w3.cell? ⟨w.heap.size + 1, 0, none⟩ = some (.string b.name) := A2.out.k2.cell 0
  have s1 : w3.cell? ⟨w.heap.size + 1, 1, none⟩ = some (.slice ab b.args.length cb) := A2.out.k2.cell 1
  go_wp2_with fail
  refine (rank_any row b.name _ _ X (by exact HU.out.later A2.out.bl)).mono ?_
  rintro e w4 ⟨rfl, rfl⟩
  by_cases hr : rankN a.name row = rankN b.name row
  · have hr1 : ((rankN a.name row : Int) - 1 != (rankN b.name row : Int) - 1) = false := by rw [hr]; simp
    by_cases hn : a.name = b.name
    · have hq := bytes_yes hn
      have HR : Hid (gtS row a b = decide (b.args.length < a.args.length)) := by unfold Hid; rw [HG.out, if_neg (by simpa using hr), if_neg (by simpa using hn)]
      go_wp2_with fail
      go_ret
      refine ⟨?_, A2.out.bl⟩
      rw [HR.out]
      by_cases hg : b.args.length < a.args.length
      · have : (b.args.length : Int) < (a.args.length : Int) := by omega
        simp [hg, this]
      · have : ¬ (b.args.length : Int) < (a.args.length : Int) := by omega
        simp [hg, this]
    · have hq := bytes_no hn
      have HR : Hid (gtS row a b = ltB b.name a.name) := by unfold Hid; rw [HG.out, if_neg (by simpa using hr), if_pos hn]
      go_wp2_with fail
      go_ret
      refine ⟨?_, A2.out.bl⟩
      have hgg : (!Op.bytesLess a.name.toList b.name.toList) = Op.bytesLess b.name.toList a.name.toList := by
        rw [← ltB_def, ← ltB_def]
        cases h1 : ltB a.name b.name with
        | true => rw [ltB_asymm h1]; rfl
        | false =>
          cases h2 : ltB b.name a.name with
          | true => rfl
          | false => exact absurd (ltB_conn h1 h2) hn
      rw [HR.out, ltB_def, ← hgg]
      rfl
  · have hr1 : ((rankN a.name row : Int) - 1 != (rankN b.name row : Int) - 1) = true := by rw [bne_iff_ne]; omega
    have HR : Hid (gtS row a b = decide (rankN b.name row < rankN a.name row)) := by unfold Hid; rw [HG.out, if_pos hr]
    go_wp2_with fail
    go_ret
    refine ⟨?_, A2.out.bl⟩
    rw [HR.out]
    by_cases hg : rankN b.name row < rankN a.name row
    · have : (rankN b.name row : Int) - 1 < (rankN a.name row : Int) - 1 := by omega
      simp [hg, this]
    · have : ¬ (rankN b.name row : Int) - 1 < (rankN a.name row : Int) - 1 := by omega
      simp [hg, this]

/-- The knots' names, counted. -/
def OfInv (w : World) (t : Tm) (v : ByteArray) (n i : Value) (wr : World) : Prop := ∃ k q : Nat, k ≤ (preL [t]).length ∧ i = .int .i64 (k : Int) ∧ n = .int .i64 ((((preL [t]).take k).filter fun x => decide (x.name = v)).length : Int) ∧ wr = w.drewN q
theorem oft_take (v : ByteArray) (l : List Tm) (k : Nat) (h : k < l.length) : ((l.take (k + 1)).filter fun x => decide (x.name = v)).length = ((l.take k).filter fun x => decide (x.name = v)).length + if l[k].name = v then 1 else 0 := by
  rw [List.take_succ_eq_append_getElem h, List.filter_append, List.length_append]
  by_cases e : l[k].name = v
  · simp [e]
  · simp [e]
set_option maxHeartbeats 2000000 in
theorem often_any (t : Tm) (s : ByteArray) (v : Value) (w : World) (X : Nat → Prop) (hz : sizeL [t] ≤ 20000) (hv : TV w X v t) :
    Calls Try.prog 41 #[v, .string s] w fun e w' => e = .returned (.int .i64 (oftL s [t] : Int)) ∧ Below w.heap.size w w' := by
  have HV := hide hv
  obtain ⟨a, c, rfl, hs⟩ := hv
  clear hs
  go_enter Try.func41, Try.ntmps41
  go_wp2_with fail
  refine (knots_any t _ _ X (by exact HV.out.alloc _) (by omega)).mono ?_
  rintro e w1 ⟨v1, xs, rfl, hown, hrow, hb1⟩
  have B1 := hide (((Below.refl w.heap.size w).alloc (Nat.le_refl _) (.cells #[.string t.name, .slice a t.args.length c] 25)).trans (hb1.mono (by simp)))
  have hpos := size_pos t
  obtain ⟨g, cap, rfl, hg, hglt, hc⟩ := owned_val hown hpos
  have HROW := hide hrow
  have HC := hide hc
  have hpl := preL_len0 [t]
  clear hown hrow hc hb1
  go_wp2_with fail
  go_loopw [6, 7] (fun n i wr => OfInv w1 t s n i wr) (fun n i wr => sizeL [t] - (intOf i).toNat)
  case atStart => exact ⟨0, 0, Nat.zero_le _, rfl, by simp, rfl⟩
  case round =>
    obtain ⟨k, q, hk, rfl, rfl, rfl⟩ := hrel
    by_cases hlt : k < (preL [t]).length
    · have hlti : (k : Int) < (sizeL [t] : Int) := by omega
      obtain ⟨d0, _⟩ := HROW.out.get k hlt
      have d1 : w1.cell? ⟨g, k * 2, none⟩ = some (.string (preL [t])[k].name) := HC.out _ _ d0
      have hot := oft_take s (preL [t]) k hlt
      have hle : ((preL [t]).take k |>.filter fun x => decide (x.name = s)).length ≤ k := by
        have := List.length_filter_le (fun x : Tm => decide (x.name = s)) ((preL [t]).take k)
        simp at this ⊢
        omega
      have HOT := hide hot
      clear hot d0
      generalize ((preL [t]).take k |>.filter fun x => decide (x.name = s)).length = nn at *
      by_cases he : (preL [t])[k].name = s
      · have hq := bytes_yes he
        have HO : Hid ((((preL [t]).take (k + 1)).filter fun x => decide (x.name = s)).length = nn + 1) := by unfold Hid; rw [HOT.out, if_pos he]
        clear he
        go_wp2_with fail
        go_roundw
        case rel => exact ⟨k + 1, _, by omega, by go_num, by rw [HO.out]; go_num, rfl⟩
        case measure => simp [intOf]; omega
      · have hq := bytes_no he
        have HO : Hid ((((preL [t]).take (k + 1)).filter fun x => decide (x.name = s)).length = nn) := by unfold Hid; rw [HOT.out, if_neg he]; rfl
        clear he
        go_wp2_with fail
        go_roundw
        case rel => exact ⟨k + 1, _, by omega, by go_num, by rw [HO.out], rfl⟩
        case measure => simp [intOf]; omega
    · have htk : (preL [t]).take k = preL [t] := List.take_of_length_le (by omega)
      have HR : Hid ((((preL [t]).take k).filter fun x => decide (x.name = s)).length = oftL s [t]) := by unfold Hid; rw [htk]; rfl
      go_wp2_with fail
      go_ret
      exact ⟨ret_int (by rw [HR.out]), below_drewN B1.out _⟩
#print axioms rank_any
#print axioms greater_any
#print axioms often_any
end Go.Proofs.Ytpbnbkeoiojpaac

/- Walks: of each knot the number behind all within it, as the document counts. -/
namespace Go.Proofs.Ytpbnbkeoiojpaac
open Go.RowKit
set_option linter.unusedSimpArgs false
set_option linter.unusedVariables false
set_option maxRecDepth 8000

theorem infoI4 : (Try.prog.info? 3).map (fun i => (i.zero, i.size, i.bytes)) = some (some (.int .i64 0), 1, 8) := by kernel_rfl
theorem ints_append {w : World} {B : Nat} {q : Value} {acc : List Int} (z : Int) (h : w.ownsRow B 3 1 q acc.length (acc.map fun z => .int .i64 z)) (hB : B ≤ w.heap.size) (hn : acc.length ≤ 1000000) (A : Nat) (hA : w.heap.size = A) :
    ∃ g cap w3, (Builtin.append_ #[34, 34] 34 #[q, .slice (some ⟨A, 0, none⟩) 1 1]).run Try.prog (w.alloc (.cells #[.int .i64 z] 3)) = .ok (.slice (some ⟨g, 0, none⟩) (acc.length + 1) cap) w3 ∧ w3.ownsRow B 3 1 (.slice (some ⟨g, 0, none⟩) (acc.length + 1) cap) (acc ++ [z]).length ((acc ++ [z]).map fun z => .int .i64 z) ∧ (w.alloc (.cells #[.int .i64 z] 3)).grownBy w3 q.ownBlock := by
  subst hA
  obtain ⟨i0, hi, hz0, hz1, hz2⟩ := info_parts infoI4
  obtain ⟨g, cap, w3, hr, ho, hg, hat, hlt⟩ := run_append_lies (P := Try.prog) (w := w.alloc (.cells #[.int .i64 z] 3)) 34 34 B 3 i0 _ 1 8 Try.underlying34 hi hz0 hz1 hz2 rfl (by decide) q acc.length (acc.map fun z => .int .i64 z) (h.alloc _)
    ⟨w.heap.size, 0, none⟩ 1 1 [.int .i64 z] rfl (World.news_of_block (cs := #[.int .i64 z]) (heap_alloc_new w _)) (fun x hx => by simp at hx; subst hx; rfl) (by decide) (by unfold maxLen; omega) (by omega) (by simp; omega) _ rfl
  exact ⟨g, cap, w3, hr, by simpa using ho, hg⟩
/-- The j-th ends there. -/
def endAt (t : Tm) (j : Nat) : Int := (j : Int) + (sizeL [(preL [t]).getD j ⟨⟨#[]⟩, []⟩] : Int)
def endK (t : Tm) (k : Nat) : List Int := (List.range k).map (endAt t)
theorem endK_len (t : Tm) (k : Nat) : (endK t k).length = k := by simp [endK]
theorem endK_push (t : Tm) (k : Nat) : endK t (k + 1) = endK t k ++ [endAt t k] := by simp [endK, List.range_succ]
theorem endK_get (t : Tm) (n k : Nat) (h : k < n) : (endK t n)[k]'(by rw [endK_len]; exact h) = endAt t k := by simp [endK]
theorem endAt_get {t : Tm} {j : Nat} (h : j < (preL [t]).length) : endAt t j = (j : Int) + (sizeL [(preL [t])[j]] : Int) := by
  unfold endAt
  have e : (preL [t]).getD j ⟨⟨#[]⟩, []⟩ = (preL [t])[j] := by simp [List.getD, h]
  rw [e]
def EnInv (t : Tm) (w w1 : World) (u i : Value) (wr : World) : Prop := ∃ k : Nat, k ≤ sizeL [t] ∧ i = .int .i64 (k : Int) ∧ wr.ownsRow w1.heap.size 3 1 u (endK t k).length ((endK t k).map fun z => .int .i64 z) ∧ Below w1.heap.size w1 wr
set_option maxHeartbeats 2000000 in
theorem ends_any (t : Tm) (v : Value) (w : World) (X : Nat → Prop) (hz : sizeL [t] ≤ 20000) (hv : TV w X v t) :
    Calls Try.prog 38 #[v] w fun e w' => ∃ u, e = .returned u ∧ LV (fun z => .int .i64 z) w' (fun b => w.heap.size ≤ b) u (endK t (sizeL [t])) ∧ Below w.heap.size w w' := by
  have HV := hide (hv.mono (Y := fun b => X b ∧ b < w.heap.size) fun b h1 h2 => ⟨h1, h2⟩)
  obtain ⟨a, c, rfl, hs⟩ := hv
  clear hs
  go_enter Try.func38, Try.ntmps38
  go_wp2_with fail
  refine (knots_any t _ _ _ (by exact HV.out.alloc _) (by omega)).mono ?_
  rintro e w1 ⟨v1, xs, rfl, hown, hrow, hb1⟩
  have B1 := hide (((Below.refl w.heap.size w).alloc (Nat.le_refl _) (.cells #[.string t.name, .slice a t.args.length c] 25)).trans (hb1.mono (by simp)))
  have hpos := size_pos t
  obtain ⟨g, cap, rfl, hg, hglt, hc⟩ := owned_val hown hpos
  have HROW : Hid (RowT w1 (fun b => X b ∧ b < w.heap.size) (preL [t]) xs) := hrow.imp fun a l h => h.later hb1
  have HC := hide hc
  have hpl := preL_len0 [t]
  clear hown hrow hc hb1
  go_wp2_with fail
  go_loopw [4, 5] (fun u i wr => EnInv t w w1 u i wr) (fun u i wr => sizeL [t] - (intOf i).toNat)
  case atStart => exact ⟨0, Nat.zero_le _, rfl, World.ownsRow_nil _ _ _ _, Below.refl _ _⟩
  case round =>
    obtain ⟨k, hk, rfl, hown, hb⟩ := hrel
    have HOWN := hide hown
    have HB := hide hb
    by_cases hlt : k < sizeL [t]
    · have hlti : (k : Int) < (sizeL [t] : Int) := by omega
      have hlp : k < (preL [t]).length := by omega
      obtain ⟨d0, a', c', d1, hs⟩ := HROW.out.get k hlp
      have e0 : wr.cell? ⟨g, k * 2, none⟩ = some (.string (preL [t])[k].name) := (hb.cell (p := ⟨g, k * 2, none⟩) hglt).trans (HC.out _ _ d0)
      have e1 : wr.cell? ⟨g, k * 2 + 1, none⟩ = some (.slice a' (preL [t])[k].args.length c') := (hb.cell (p := ⟨g, k * 2 + 1, none⟩) hglt).trans (HC.out _ _ d1)
      have HS := hide (hs.later hb)
      have hsz : sizeL [(preL [t])[k]] ≤ sizeL [t] := by
        have := kid_end [t] k _ (List.getElem?_eq_getElem hlp)
        omega
      have HEK : Hid (endK t (k + 1) = endK t k ++ [(k : Int) + (sizeL [(preL [t])[k]] : Int)]) := by unfold Hid; rw [endK_push, endAt_get hlp]
      generalize (preL [t])[k] = x at *
      clear hs d0 d1 hown hb
      go_wp2_with fail
      refine (knots_any x _ _ _ ⟨a', c', rfl, HS.out⟩ (by omega)).mono ?_
      rintro e w2 ⟨v2, xs2, rfl, hown2, _, hb2⟩
      obtain ⟨g2, cap2, rfl, _, _, _⟩ := owned_val hown2 (size_pos x)
      have OW2 := HOWN.out.kept (w' := w2) (row := none) ⟨hb2.os, hb2.tape, hb2.output, hb2.size, fun j hj _ => hb2.block j hj⟩ (by rcases Option.eq_none_or_eq_some (Value.ownBlock u4) with h | ⟨x, h⟩; exact Or.inl h; exact Or.inr (by rw [h]; simp))
      have B2 := hide (HB.out.trans (hb2.mono HB.out.size))
      have hekl := endK_len t k
      obtain ⟨g5, cap5, w5, hrun, hown5, hg5⟩ := ints_append ((k : Int) + (sizeL [x] : Int)) OW2 B2.out.size (by omega) _ rfl
      rw [hekl] at hrun hown5
      have HRUN := hide hrun
      have HOWN5 := hide hown5
      have HB5 : Hid (Below w1.heap.size w1 w5) := (B2.out.alloc B2.out.size _).grown hg5 (by have := B2.out.size; simp; omega) (fun j hj => (OW2.lt j hj).1)
      clear hrun hown5 hg5 OW2 hb2 hown2
      go_wp2_with (at_builtin; refine wpList_append_eq rfl _ _ _ _ rfl rfl rfl HRUN.out ?_)
      go_roundw
      case rel => exact ⟨k + 1, by omega, by go_num, by rw [HEK.out]; exact HOWN5.out, HB5.out⟩
      case measure => simp [intOf]; omega
    · have hkk : k = sizeL [t] := by omega
      subst hkk
      have HL := hide (LV.of_own HOWN.out)
      go_wp2_with fail
      go_ret
      exact ⟨_, rfl, HL.out.mono (fun b hb _ => by have := B1.out.size; omega), B1.out.trans (HB.out.mono B1.out.size)⟩
#print axioms ends_any
end Go.Proofs.Ytpbnbkeoiojpaac

/- Walks: above by weights, as the document says. -/
namespace Go.Proofs.Ytpbnbkeoiojpaac
open Go.RowKit
set_option linter.unusedSimpArgs false
set_option linter.unusedVariables false
set_option maxRecDepth 8000

theorem all_inO {p : ByteArray → Bool} {s : ByteArray} {acc : List ByteArray} (h : inB s acc = true) : (acc.all p && p s) = acc.all p := by
  cases hp : acc.all p with
  | false => rfl
  | true =>
    unfold inB at h
    rw [List.any_eq_true] at h
    obtain ⟨y, hy, e⟩ := h
    have e2 : y = s := bytes_inj (by simpa using e)
    rw [Bool.true_and, ← e2]
    exact List.all_eq_true.1 hp y hy
theorem varsP_allO (p : ByteArray → Bool) : ∀ (ks : List Tm) (acc : List ByteArray), (varsP acc ks).all p = (acc.all p && ks.all fun k => !varB k.name || p k.name)
  | [], acc => by simp [varsP]
  | k :: r, acc => by
    have e : varsP acc (k :: r) = varsP (addV acc k.name) r := rfl
    rw [e, varsP_allO p r, List.all_cons]
    cases hv : varB k.name with
    | false => rw [addV_no hv]; simp
    | true =>
      cases hi : inB k.name acc with
      | false => rw [addV_yes hv hi, List.all_append]; simp [Bool.and_assoc]
      | true =>
        rw [addV_in hv hi]
        have h := all_inO (p := p) hi
        rw [← h]
        simp [Bool.and_assoc]
theorem hasAll_vars (a b : Tm) : hasAll a b = (varsP [] (preL [b])).all fun v => decide (oftL v [b] ≤ oftL v [a]) := by
  rw [varsP_allO]
  rfl
def WvInv (a b : Tm) (aa : Option Addr) (ca : Nat) (ab : Option Addr) (cb : Nat) (w w3 : World) (i : Value) (wr : World) : Prop :=
  ∃ k : Nat, k ≤ (varsP [] (preL [b])).length ∧ i = .int .i64 (k : Int) ∧ (((varsP [] (preL [b])).take k).all fun v => decide (oftL v [b] ≤ oftL v [a])) = true ∧ TwW a b aa ca ab cb w wr ∧ Below w3.heap.size w3 wr
def WuInv (a b : Tm) (aa : Option Addr) (ca : Nat) (ab : Option Addr) (cb : Nat) (w : World) (i : Value) (wr : World) : Prop :=
  ∃ k : Nat, k ≤ a.args.length ∧ i = .int .i64 (k : Int) ∧ (∀ j (h1 : j < k) (h2 : j < a.args.length) (h3 : j < b.args.length), a.args[j] = b.args[j]) ∧ TwW a b aa ca ab cb w wr

set_option maxHeartbeats 3000000 in
theorem weightOf_any (row : List ByteArray) (hrl : row.length ≤ 1000) : ∀ (N : Nat) (a b : Tm) (u va vb : Value) (w : World) (X : Nat → Prop), sizeL [a] ≤ N → sizeL [a] ≤ 20000 → sizeL [b] ≤ 20000 → LV Value.string w X u row → TV w X va a → TV w X vb b →
    Calls Try.prog 12 #[u, va, vb] w fun e w' => e = .returned (.bool (weightB row a b)) ∧ Below w.heap.size w w'
  | 0 => fun a b u va vb w X hN _ _ _ _ _ => by have := size_pos a; omega
  | N + 1 => by
    intro a b u va vb w X hN za zb hu ha hb
    have IH := hide (weightOf_any row hrl N)
    have HA := hide ha
    have HB := hide hb
    have HU := hide hu
    obtain ⟨aa, ca, rfl, hsa⟩ := ha
    obtain ⟨ab, cb, rfl, hsb⟩ := hb
    have HSA := hide hsa
    have HSB := hide hsb
    have hla := hsa.1
    have hlb := hsb.1
    have HWB := hide (weightB_eq row a b)
    have HHV := hide (hasAll_vars a b)
    clear hsa hsb hu
    have A2 := hide (TwW.start a b aa ca ab cb w)
    go_enter Try.func12, Try.ntmps12
    go_wp2_with fail
    generalize ((w.alloc (.cells #[.string a.name, .slice aa a.args.length ca] 25)).alloc (.cells #[.string b.name, .slice ab b.args.length cb] 25)) = w2 at *
    refine (varsOf_any b _ _ X (by exact HB.out.later A2.out.bl) (by omega)).mono ?_
    rintro e w3 ⟨vv, rfl, hlv, hb3⟩
    have A3 := hide (A2.out.later hb3)
    have HLV := hide hlv
    obtain ⟨av, cv, rfl, ⟨hlv1, _⟩, hlv2⟩ := hlv
    have HLV2 := hide hlv2
    clear hb3 A2 hlv2
    go_wp2_with fail
    go_loopw [8] (fun i wr => WvInv a b aa ca ab cb w w3 i wr) (fun i wr => (varsP [] (preL [b])).length - (intOf i).toNat)
    case atStart => exact ⟨0, Nat.zero_le _, rfl, by simp, A3.out, Below.refl _ _⟩
    case round =>
      obtain ⟨k, hk, rfl, hall, hTw, hb9⟩ := hrel
      have HALL := hide hall
      have HTW := hide hTw
      have HB9 := hide hb9
      clear hall hb9
      by_cases hlt : k < (varsP [] (preL [b])).length
      · have hlti : (k : Int) < ((varsP [] (preL [b])).length : Int) := by omega
        obtain ⟨bv, ov, rfl, _, hc⟩ := HLV2.out.resolve_left (fun h => by rw [h] at hlt; simp at hlt)
        have HD : Hid (∀ w', Below w3.heap.size w3 w' → w'.cell? ⟨bv, ov + k, none⟩ = some (.string (varsP [] (preL [b]))[k])) := fun w' hb => (hb.cell (p := ⟨bv, ov + k, none⟩) (cell_lt (hc k hlt))).trans (hc k hlt)
        clear hc
        have HS0 : Hid ((fun w' => TwW a b aa ca ab cb w w' ∧ Below w3.heap.size w3 w') wr.drew) := ⟨hTw.later (below_drewN (Below.refl _ _) 1), below_drewN HB9.out 1⟩
        go_wp2_with fail
        refine wp_region_held_drew (S := fun w' => TwW a b aa ca ab cb w w' ∧ Below w3.heap.size w3 w') (by kernel_rfl) HS0.out (fun hHeld => ?_)
        refine wpAnyH_take (i := 0) (v := ?_) rfl (by kernel_rfl) (by kernel_rfl) (by kernel_rfl) (fun _ _ _ h => h) (Or.inl ⟨by rfl, ?_⟩) (by assumption) ?_
        rotate_left
        · intro w' hSw
          have r0 : w'.cell? ⟨w.heap.size, 0, none⟩ = some (.string a.name) := hSw.1.k1.cell 0
          have r1 : w'.cell? ⟨w.heap.size, 1, none⟩ = some (.slice aa a.args.length ca) := hSw.1.k1.cell 1
          have s0 : w'.cell? ⟨w.heap.size + 1, 0, none⟩ = some (.string b.name) := hSw.1.k2.cell 0
          have s1 : w'.cell? ⟨w.heap.size + 1, 1, none⟩ = some (.slice ab b.args.length cb) := hSw.1.k2.cell 1
          have t0 := HD.out w' hSw.2
          go_simp <;> with_reducible rfl
        try simp only [Act.put, List.setIfInBounds_toArray, List.set_cons_zero, List.set_cons_succ, List.getElem_toArray, List.getElem_cons_succ, List.getElem_cons_zero]
        refine wpAnyH_take (i := 1) (v := ?_) rfl (by kernel_rfl) (by kernel_rfl) (by kernel_rfl) (fun _ _ _ h => h) (Or.inl ⟨by rfl, ?_⟩) (by assumption) ?_
        rotate_left
        · intro w' hSw
          have r0 : w'.cell? ⟨w.heap.size, 0, none⟩ = some (.string a.name) := hSw.1.k1.cell 0
          have r1 : w'.cell? ⟨w.heap.size, 1, none⟩ = some (.slice aa a.args.length ca) := hSw.1.k1.cell 1
          have s0 : w'.cell? ⟨w.heap.size + 1, 0, none⟩ = some (.string b.name) := hSw.1.k2.cell 0
          have s1 : w'.cell? ⟨w.heap.size + 1, 1, none⟩ = some (.slice ab b.args.length cb) := hSw.1.k2.cell 1
          have t0 := HD.out w' hSw.2
          go_simp <;> with_reducible rfl
        try simp only [Act.put, List.setIfInBounds_toArray, List.set_cons_zero, List.set_cons_succ, List.getElem_toArray, List.getElem_cons_succ, List.getElem_cons_zero]
        refine wpAnyH_take (i := 2) (v := ?_) rfl (by kernel_rfl) (by kernel_rfl) (by kernel_rfl) (fun _ _ _ h => h) (Or.inl ⟨by rfl, ?_⟩) (by assumption) ?_
        rotate_left
        · intro w' hSw
          have r0 : w'.cell? ⟨w.heap.size, 0, none⟩ = some (.string a.name) := hSw.1.k1.cell 0
          have r1 : w'.cell? ⟨w.heap.size, 1, none⟩ = some (.slice aa a.args.length ca) := hSw.1.k1.cell 1
          have s0 : w'.cell? ⟨w.heap.size + 1, 0, none⟩ = some (.string b.name) := hSw.1.k2.cell 0
          have s1 : w'.cell? ⟨w.heap.size + 1, 1, none⟩ = some (.slice ab b.args.length cb) := hSw.1.k2.cell 1
          have t0 := HD.out w' hSw.2
          go_simp <;> with_reducible rfl
        try simp only [Act.put, List.setIfInBounds_toArray, List.set_cons_zero, List.set_cons_succ, List.getElem_toArray, List.getElem_cons_succ, List.getElem_cons_zero]
        refine wpAnyH_take (i := 3) (v := ?_) rfl (by kernel_rfl) (by kernel_rfl) (by kernel_rfl) (fun _ _ _ h => h) (Or.inl ⟨by rfl, ?_⟩) (by assumption) ?_
        rotate_left
        · intro w' hSw
          have r0 : w'.cell? ⟨w.heap.size, 0, none⟩ = some (.string a.name) := hSw.1.k1.cell 0
          have r1 : w'.cell? ⟨w.heap.size, 1, none⟩ = some (.slice aa a.args.length ca) := hSw.1.k1.cell 1
          have s0 : w'.cell? ⟨w.heap.size + 1, 0, none⟩ = some (.string b.name) := hSw.1.k2.cell 0
          have s1 : w'.cell? ⟨w.heap.size + 1, 1, none⟩ = some (.slice ab b.args.length cb) := hSw.1.k2.cell 1
          have t0 := HD.out w' hSw.2
          go_simp <;> with_reducible rfl
        try simp only [Act.put, List.setIfInBounds_toArray, List.set_cons_zero, List.set_cons_succ, List.getElem_toArray, List.getElem_cons_succ, List.getElem_cons_zero]
        refine wpAnyH_take (i := 4) (v := ?_) rfl (by kernel_rfl) (by kernel_rfl) (by kernel_rfl) (fun _ _ _ h => h) (Or.inl ⟨by rfl, ?_⟩) (by assumption) ?_
        rotate_left
        · intro w' hSw
          have r0 : w'.cell? ⟨w.heap.size, 0, none⟩ = some (.string a.name) := hSw.1.k1.cell 0
          have r1 : w'.cell? ⟨w.heap.size, 1, none⟩ = some (.slice aa a.args.length ca) := hSw.1.k1.cell 1
          have s0 : w'.cell? ⟨w.heap.size + 1, 0, none⟩ = some (.string b.name) := hSw.1.k2.cell 0
          have s1 : w'.cell? ⟨w.heap.size + 1, 1, none⟩ = some (.slice ab b.args.length cb) := hSw.1.k2.cell 1
          have t0 := HD.out w' hSw.2
          go_simp <;> with_reducible rfl
        try simp only [Act.put, List.setIfInBounds_toArray, List.set_cons_zero, List.set_cons_succ, List.getElem_toArray, List.getElem_cons_succ, List.getElem_cons_zero]
        refine wpAnyH_take (i := 6) (v := ?_) rfl (by kernel_rfl) (by kernel_rfl) (by kernel_rfl) (fun _ _ _ h => h) (Or.inl ⟨by rfl, ?_⟩) (by assumption) ?_
        rotate_left
        · intro w' hSw
          have r0 : w'.cell? ⟨w.heap.size, 0, none⟩ = some (.string a.name) := hSw.1.k1.cell 0
          have r1 : w'.cell? ⟨w.heap.size, 1, none⟩ = some (.slice aa a.args.length ca) := hSw.1.k1.cell 1
          have s0 : w'.cell? ⟨w.heap.size + 1, 0, none⟩ = some (.string b.name) := hSw.1.k2.cell 0
          have s1 : w'.cell? ⟨w.heap.size + 1, 1, none⟩ = some (.slice ab b.args.length cb) := hSw.1.k2.cell 1
          have t0 := HD.out w' hSw.2
          go_simp <;> with_reducible rfl
        try simp only [Act.put, List.setIfInBounds_toArray, List.set_cons_zero, List.set_cons_succ, List.getElem_toArray, List.getElem_cons_succ, List.getElem_cons_zero]
        refine wpAnyH_take (i := 7) (v := ?_) rfl (by kernel_rfl) (by kernel_rfl) (by kernel_rfl) (fun _ _ _ h => h) (Or.inl ⟨by rfl, ?_⟩) (by assumption) ?_
        rotate_left
        · intro w' hSw
          have r0 : w'.cell? ⟨w.heap.size, 0, none⟩ = some (.string a.name) := hSw.1.k1.cell 0
          have r1 : w'.cell? ⟨w.heap.size, 1, none⟩ = some (.slice aa a.args.length ca) := hSw.1.k1.cell 1
          have s0 : w'.cell? ⟨w.heap.size + 1, 0, none⟩ = some (.string b.name) := hSw.1.k2.cell 0
          have s1 : w'.cell? ⟨w.heap.size + 1, 1, none⟩ = some (.slice ab b.args.length cb) := hSw.1.k2.cell 1
          have t0 := HD.out w' hSw.2
          go_simp <;> with_reducible rfl
        try simp only [Act.put, List.setIfInBounds_toArray, List.set_cons_zero, List.set_cons_succ, List.getElem_toArray, List.getElem_cons_succ, List.getElem_cons_zero]
        refine wpAnyH_take (i := 8) (v := ?_) rfl (by kernel_rfl) (by kernel_rfl) (by kernel_rfl) (fun _ _ _ h => h) (Or.inl ⟨by rfl, ?_⟩) (by assumption) ?_
        rotate_left
        · intro w' hSw
          have r0 : w'.cell? ⟨w.heap.size, 0, none⟩ = some (.string a.name) := hSw.1.k1.cell 0
          have r1 : w'.cell? ⟨w.heap.size, 1, none⟩ = some (.slice aa a.args.length ca) := hSw.1.k1.cell 1
          have s0 : w'.cell? ⟨w.heap.size + 1, 0, none⟩ = some (.string b.name) := hSw.1.k2.cell 0
          have s1 : w'.cell? ⟨w.heap.size + 1, 1, none⟩ = some (.slice ab b.args.length cb) := hSw.1.k2.cell 1
          have t0 := HD.out w' hSw.2
          go_simp <;> with_reducible rfl
        try simp only [Act.put, List.setIfInBounds_toArray, List.set_cons_zero, List.set_cons_succ, List.getElem_toArray, List.getElem_cons_succ, List.getElem_cons_zero]
        refine wpAnyH_take (i := 9) (v := ?_) rfl (by kernel_rfl) (by kernel_rfl) (by kernel_rfl) (fun _ _ _ h => h) (Or.inl ⟨by rfl, ?_⟩) (by assumption) ?_
        rotate_left
        · intro w' hSw
          have r0 : w'.cell? ⟨w.heap.size, 0, none⟩ = some (.string a.name) := hSw.1.k1.cell 0
          have r1 : w'.cell? ⟨w.heap.size, 1, none⟩ = some (.slice aa a.args.length ca) := hSw.1.k1.cell 1
          have s0 : w'.cell? ⟨w.heap.size + 1, 0, none⟩ = some (.string b.name) := hSw.1.k2.cell 0
          have s1 : w'.cell? ⟨w.heap.size + 1, 1, none⟩ = some (.slice ab b.args.length cb) := hSw.1.k2.cell 1
          have t0 := HD.out w' hSw.2
          go_simp <;> with_reducible rfl
        try simp only [Act.put, List.setIfInBounds_toArray, List.set_cons_zero, List.set_cons_succ, List.getElem_toArray, List.getElem_cons_succ, List.getElem_cons_zero]
        refine wpAnyH_take (i := 10) (v := ?_) rfl (by kernel_rfl) (by kernel_rfl) (by kernel_rfl) (fun _ _ _ h => h) (Or.inl ⟨by rfl, ?_⟩) (by assumption) ?_
        rotate_left
        · intro w' hSw
          have r0 : w'.cell? ⟨w.heap.size, 0, none⟩ = some (.string a.name) := hSw.1.k1.cell 0
          have r1 : w'.cell? ⟨w.heap.size, 1, none⟩ = some (.slice aa a.args.length ca) := hSw.1.k1.cell 1
          have s0 : w'.cell? ⟨w.heap.size + 1, 0, none⟩ = some (.string b.name) := hSw.1.k2.cell 0
          have s1 : w'.cell? ⟨w.heap.size + 1, 1, none⟩ = some (.slice ab b.args.length cb) := hSw.1.k2.cell 1
          have t0 := HD.out w' hSw.2
          go_simp <;> with_reducible rfl
        try simp only [Act.put, List.setIfInBounds_toArray, List.set_cons_zero, List.set_cons_succ, List.getElem_toArray, List.getElem_cons_succ, List.getElem_cons_zero]

        generalize hxx : (varsP [] (preL [b]))[k] = x at *
        have HXX := hide hxx
        clear hxx
        refine wpAnyH_ready (rs := [5]) (by kernel_rfl) (by simp) ?_
        refine AllReadyH.cons rfl (fun K hK => ?_) AllReadyH.nil
        go_simp
        go_at_call 41
        refine (often_any b x _ _ X zb (by exact HB.out.later hHeld.1.bl)).mono ?_
        rintro e w5 ⟨rfl, hb5⟩
        have H5 := hide (And.intro (hHeld.1.later hb5) (hHeld.2.trans (hb5.mono hHeld.2.size)))
        clear hb5
        go_simp
        refine hK.out _ _ (by exact H5.out) (fun hHeld => ?_)
        clear hK K
        try simp only [Act.put, List.setIfInBounds_toArray, List.set_cons_zero, List.set_cons_succ, List.getElem_toArray, List.getElem_cons_succ, List.getElem_cons_zero]
        refine wpAnyH_ready (rs := [11]) (by kernel_rfl) (by simp) ?_
        refine AllReadyH.cons rfl (fun K hK => ?_) AllReadyH.nil
        go_simp
        go_at_call 41
        refine (often_any a x _ _ X za (by exact HA.out.later H5.out.1.bl)).mono ?_
        rintro e w6 ⟨rfl, hb6⟩
        have H6 := hide (And.intro (H5.out.1.later hb6) (H5.out.2.trans (hb6.mono H5.out.2.size)))
        clear hb6
        go_simp
        refine hK.out _ _ (by exact H6.out) (fun hHeld => ?_)
        clear hK K
        try simp only [Act.put, List.setIfInBounds_toArray, List.set_cons_zero, List.set_cons_succ, List.getElem_toArray, List.getElem_cons_succ, List.getElem_cons_zero]
        refine wpAnyH_take (i := 12) (v := ?_) rfl (by kernel_rfl) (by kernel_rfl) (by kernel_rfl) (fun _ _ _ h => h) (Or.inl ⟨by rfl, ?_⟩) (by assumption) ?_
        rotate_left
        · intro w' hSw
          go_simp <;> with_reducible rfl
        try simp only [Act.put, List.setIfInBounds_toArray, List.set_cons_zero, List.set_cons_succ, List.getElem_toArray, List.getElem_cons_succ, List.getElem_cons_zero]

        refine wpAnyH_done (by kernel_rfl) ?_ _
        have hoa := oft_le x [a]
        have hob := oft_le x [b]
        by_cases hg : oftL x [a] < oftL x [b]
        · have hgi : ((oftL x [a] : Nat) : Int) < ((oftL x [b] : Nat) : Int) := by omega
          have HR : Hid (weightB row a b = false) := by
            unfold Hid
            rw [HWB.out, if_pos]
            rw [HHV.out]
            exact (all_take hlt HALL.out).1 (by rw [HXX.out]; simp; omega)
          go_wp2_with fail
          go_ret
          exact ⟨by rw [HR.out]; rfl, H6.out.1.bl⟩
        · have hgi : ¬ ((oftL x [a] : Nat) : Int) < ((oftL x [b] : Nat) : Int) := by omega
          have HR := hide ((all_take hlt HALL.out).2 (by rw [HXX.out]; simp; omega))
          go_wp2_with fail
          go_roundw
          case rel => exact ⟨k + 1, by omega, by go_num, HR.out, H6.out.1, H6.out.2⟩
          case measure => simp [intOf]; omega
      · have htk : (varsP [] (preL [b])).take k = varsP [] (preL [b]) := List.take_of_length_le (by omega)
        have HAL : Hid (hasAll a b = true) := by unfold Hid; rw [HHV.out]; have h := HALL.out; rw [htk] at h; exact h
        clear htk HALL HHV HLV HLV2 hk hTw
        have r0 : wr.cell? ⟨w.heap.size, 0, none⟩ = some (.string a.name) := HTW.out.k1.cell 0
        have r1 : wr.cell? ⟨w.heap.size, 1, none⟩ = some (.slice aa a.args.length ca) := HTW.out.k1.cell 1
        have s0 : wr.cell? ⟨w.heap.size + 1, 0, none⟩ = some (.string b.name) := HTW.out.k2.cell 0
        have s1 : wr.cell? ⟨w.heap.size + 1, 1, none⟩ = some (.slice ab b.args.length cb) := HTW.out.k2.cell 1
        go_wp2_with fail
        refine (knots_any a _ _ X (by exact HA.out.later HTW.out.bl) (by omega)).mono ?_
        rintro e w5 ⟨v5, xs5, rfl, hown5, _, hb5⟩
        obtain ⟨g5, cap5, rfl, _, _, _⟩ := owned_val hown5 (size_pos a)
        have A5 := hide (HTW.out.later hb5)
        clear hb5 hown5 HTW
        clear r0 r1 s0 s1
        have r0 : w5.cell? ⟨w.heap.size, 0, none⟩ = some (.string a.name) := A5.out.k1.cell 0
        have r1 : w5.cell? ⟨w.heap.size, 1, none⟩ = some (.slice aa a.args.length ca) := A5.out.k1.cell 1
        have s0 : w5.cell? ⟨w.heap.size + 1, 0, none⟩ = some (.string b.name) := A5.out.k2.cell 0
        have s1 : w5.cell? ⟨w.heap.size + 1, 1, none⟩ = some (.slice ab b.args.length cb) := A5.out.k2.cell 1
        go_wp2_with fail
        refine (knots_any b _ _ X (by exact HB.out.later A5.out.bl) (by omega)).mono ?_
        rintro e w6 ⟨v6, xs6, rfl, hown6, _, hb6⟩
        obtain ⟨g6, cap6, rfl, _, _, _⟩ := owned_val hown6 (size_pos b)
        have A6 := hide (A5.out.later hb6)
        clear hb6 hown6 A5
        clear r0 r1 s0 s1
        have r0 : w6.cell? ⟨w.heap.size, 0, none⟩ = some (.string a.name) := A6.out.k1.cell 0
        have r1 : w6.cell? ⟨w.heap.size, 1, none⟩ = some (.slice aa a.args.length ca) := A6.out.k1.cell 1
        have s0 : w6.cell? ⟨w.heap.size + 1, 0, none⟩ = some (.string b.name) := A6.out.k2.cell 0
        have s1 : w6.cell? ⟨w.heap.size + 1, 1, none⟩ = some (.slice ab b.args.length cb) := A6.out.k2.cell 1
        by_cases hz : sizeL [a] = sizeL [b]
        · have hz1 : ((sizeL [a] : Int) != (sizeL [b] : Int)) = false := by rw [hz]; simp
          cases hva : varB a.name with
          | true =>
            have HR : Hid (weightB row a b = false) := by unfold Hid; rw [HWB.out, if_neg (by rw [HAL.out]; simp), if_neg (by rw [hz]; simp), if_pos hva]
            clear hz
            go_wp2_with (go_at_call 35; refine (isVarR_any _ _).mono ?_; rintro e w' ⟨rfl, rfl⟩; rw [hva])
            go_ret
            exact ⟨by rw [HR.out]; rfl, A6.out.bl⟩
          | false =>
            cases hvb : varB b.name with
            | true =>
              have HR : Hid (weightB row a b = false) := by unfold Hid; rw [HWB.out, if_neg (by rw [HAL.out]; simp), if_neg (by rw [hz]; simp), if_neg (by rw [hva]; simp), if_pos hvb]
              clear hz
              go_wp2_with (go_at_call 35; refine (isVarR_any _ _).mono ?_; rintro e w' ⟨rfl, rfl⟩; first | rw [hva] | rw [hvb])
              go_ret
              exact ⟨by rw [HR.out]; rfl, A6.out.bl⟩
            | false =>
              have HEAD : Hid (weightB row a b = if gtS row a b = true then true else if gtS row b a = true then false else match unl a.args b.args with | none => false | some (x, y) => weightB row x y) := by
                unfold Hid
                rw [HWB.out, if_neg (by rw [HAL.out]; simp), if_neg (by rw [hz]; simp), if_neg (by rw [hva]; simp), if_neg (by rw [hvb]; simp)]
                cases unl a.args b.args with
                | none => rfl
                | some p => rfl
              have HZ := hide hz
              clear hz HWB
              go_wp2_with (go_at_call 35; refine (isVarR_any _ _).mono ?_; rintro e w' ⟨rfl, rfl⟩; first | rw [hva] | rw [hvb])
              refine (greater_any row a b _ _ _ _ X hrl (by exact HU.out.later A6.out.bl) (by exact HA.out.later A6.out.bl) (by exact HB.out.later A6.out.bl)).mono ?_
              rintro e w7 ⟨rfl, hb7⟩
              have A7 := hide (A6.out.later hb7)
              clear hb7 A6
              clear r0 r1 s0 s1
              have r0 : w7.cell? ⟨w.heap.size, 0, none⟩ = some (.string a.name) := A7.out.k1.cell 0
              have r1 : w7.cell? ⟨w.heap.size, 1, none⟩ = some (.slice aa a.args.length ca) := A7.out.k1.cell 1
              have s0 : w7.cell? ⟨w.heap.size + 1, 0, none⟩ = some (.string b.name) := A7.out.k2.cell 0
              have s1 : w7.cell? ⟨w.heap.size + 1, 1, none⟩ = some (.slice ab b.args.length cb) := A7.out.k2.cell 1
              cases g1 : gtS row a b with
              | true =>
                have HR : Hid (weightB row a b = true) := by unfold Hid; rw [HEAD.out, if_pos g1]
                go_wp2_with fail
                refine (greater_any row a b _ _ _ _ X hrl (by exact HU.out.later A7.out.bl) (by exact HA.out.later A7.out.bl) (by exact HB.out.later A7.out.bl)).mono ?_
                rintro e w8 ⟨rfl, hb8⟩
                have A8 := hide (A7.out.later hb8)
                clear hb8 A7
                clear r0 r1 s0 s1
                rw [g1]
                go_wp2_with fail
                go_ret
                exact ⟨by rw [HR.out]; rfl, A8.out.bl⟩
              | false =>
                have G1 := hide g1
                clear g1
                go_wp2_with fail
                refine (greater_any row b a _ _ _ _ X hrl (by exact HU.out.later A7.out.bl) (by exact HB.out.later A7.out.bl) (by exact HA.out.later A7.out.bl)).mono ?_
                rintro e w8 ⟨rfl, hb8⟩
                have A8 := hide (A7.out.later hb8)
                clear hb8 A7
                clear r0 r1 s0 s1
                have r0 : w8.cell? ⟨w.heap.size, 0, none⟩ = some (.string a.name) := A8.out.k1.cell 0
                have r1 : w8.cell? ⟨w.heap.size, 1, none⟩ = some (.slice aa a.args.length ca) := A8.out.k1.cell 1
                have s0 : w8.cell? ⟨w.heap.size + 1, 0, none⟩ = some (.string b.name) := A8.out.k2.cell 0
                have s1 : w8.cell? ⟨w.heap.size + 1, 1, none⟩ = some (.slice ab b.args.length cb) := A8.out.k2.cell 1
                cases g2 : gtS row b a with
                | true =>
                  have HR : Hid (weightB row a b = false) := by unfold Hid; rw [HEAD.out, if_neg (by rw [G1.out]; simp), if_pos g2]
                  clear g2
                  go_wp2_with fail
                  refine (greater_any row a b _ _ _ _ X hrl (by exact HU.out.later A8.out.bl) (by exact HA.out.later A8.out.bl) (by exact HB.out.later A8.out.bl)).mono ?_
                  rintro e w9 ⟨rfl, hb9⟩
                  have A9 := hide (A8.out.later hb9)
                  clear hb9 A8
                  clear r0 r1 s0 s1
                  rw [G1.out]
                  go_wp2_with fail
                  go_ret
                  exact ⟨by rw [HR.out]; rfl, A9.out.bl⟩
                | false =>
                  have HLEN := hide (gtS_same G1.out g2).2
                  have HLAST : Hid (weightB row a b = match unl a.args b.args with | none => false | some (x, y) => weightB row x y) := by unfold Hid; rw [HEAD.out, if_neg (by rw [G1.out]; simp), if_neg (by rw [g2]; simp)]
                  clear g2 HEAD G1
                  go_wp2_with fail
                  clear r0 r1 s0 s1
                  go_loopw [11] (fun i wr => WuInv a b aa ca ab cb w i wr) (fun i wr => a.args.length - (intOf i).toNat)
                  case atStart => exact ⟨0, Nat.zero_le _, rfl, fun j h => by omega, A8.out⟩
                  case round =>
                    clear A8
                    obtain ⟨k, hk, rfl, hall, hTw⟩ := hrel
                    have HALL := hide hall
                    have HTW := hide hTw
                    clear hall hTw
                    have r0 : wr.cell? ⟨w.heap.size, 0, none⟩ = some (.string a.name) := HTW.out.k1.cell 0
                    have r1 : wr.cell? ⟨w.heap.size, 1, none⟩ = some (.slice aa a.args.length ca) := HTW.out.k1.cell 1
                    have s0 : wr.cell? ⟨w.heap.size + 1, 0, none⟩ = some (.string b.name) := HTW.out.k2.cell 0
                    have s1 : wr.cell? ⟨w.heap.size + 1, 1, none⟩ = some (.slice ab b.args.length cb) := HTW.out.k2.cell 1
                    by_cases hlt : k < a.args.length
                    · have hlti : (k : Int) < (a.args.length : Int) := by omega
                      have hlt2 : k < b.args.length := by have := HLEN.out; omega
                      have hltj : (k : Int) < (b.args.length : Int) := by omega
                      obtain ⟨b1, o1, a1, c1, rfl, d10, d11, hx⟩ := HSA.out.get (Below.refl _ _) (fun _ _ h => h) k hlt
                      obtain ⟨b2, o2, a2, c2, rfl, d20, d21, hy⟩ := HSB.out.get (Below.refl _ _) (fun _ _ h => h) k hlt2
                      have HX := hide hx
                      have HY := hide hy
                      have HD : Hid (∀ w', Below w.heap.size w w' → w'.cell? ⟨b1, o1 + k * 2, none⟩ = some (.string a.args[k].name) ∧ w'.cell? ⟨b1, o1 + k * 2 + 1, none⟩ = some (.slice a1 a.args[k].args.length c1) ∧ w'.cell? ⟨b2, o2 + k * 2, none⟩ = some (.string b.args[k].name) ∧ w'.cell? ⟨b2, o2 + k * 2 + 1, none⟩ = some (.slice a2 b.args[k].args.length c2)) := fun w' hb =>
                        ⟨(hb.cell (p := ⟨b1, o1 + k * 2, none⟩) (cell_lt d10)).trans d10, (hb.cell (p := ⟨b1, o1 + k * 2 + 1, none⟩) (cell_lt d11)).trans d11, (hb.cell (p := ⟨b2, o2 + k * 2, none⟩) (cell_lt d20)).trans d20, (hb.cell (p := ⟨b2, o2 + k * 2 + 1, none⟩) (cell_lt d21)).trans d21⟩
                      clear hx hy d10 d11 d20 d21
                      have sx := size_arg (List.getElem_mem hlt)
                      have sy := size_arg (List.getElem_mem hlt2)
                      have HU1 : Hid (a.args[k] ≠ b.args[k] → unl a.args b.args = some (a.args[k], b.args[k])) := fun he => unl_from hlt hlt2 (fun j hj => HALL.out j hj (by omega) (by omega)) he
                      have HU2 : Hid (a.args[k] = b.args[k] → ∀ j (h1 : j < k + 1) (h2 : j < a.args.length) (h3 : j < b.args.length), a.args[j] = b.args[j]) := fun he j h1 h2 h3 => by
                        by_cases hj : j = k
                        · subst hj; exact he
                        · exact HALL.out j (by omega) h2 h3
                      generalize a.args[k] = x at *
                      generalize b.args[k] = y at *
                      have HS0 : Hid (TwW a b (some ⟨b1, o1, none⟩) ca (some ⟨b2, o2, none⟩) cb w wr.drew) := HTW.out.later (below_drewN (Below.refl _ _) 1)
                      go_wp2_with fail
                      refine wp_region_held_drew (S := TwW a b (some ⟨b1, o1, none⟩) ca (some ⟨b2, o2, none⟩) cb w) (by kernel_rfl) HS0.out (fun hHeld => ?_)
                      refine wpAnyH_take (i := 0) (v := ?_) rfl (by kernel_rfl) (by kernel_rfl) (by kernel_rfl) (fun _ _ _ h => h) (Or.inl ⟨by rfl, ?_⟩) (by assumption) ?_
                      rotate_left
                      · intro w' hSw
                        have r0 : w'.cell? ⟨w.heap.size, 0, none⟩ = some (.string a.name) := hSw.k1.cell 0
                        have r1 : w'.cell? ⟨w.heap.size, 1, none⟩ = some (.slice (some ⟨b1, o1, none⟩) a.args.length ca) := hSw.k1.cell 1
                        have s0 : w'.cell? ⟨w.heap.size + 1, 0, none⟩ = some (.string b.name) := hSw.k2.cell 0
                        have s1 : w'.cell? ⟨w.heap.size + 1, 1, none⟩ = some (.slice (some ⟨b2, o2, none⟩) b.args.length cb) := hSw.k2.cell 1
                        obtain ⟨t0, t1, t2, t3⟩ := HD.out w' hSw.bl
                        go_simp <;> with_reducible rfl
                      try simp only [Act.put, List.setIfInBounds_toArray, List.set_cons_zero, List.set_cons_succ, List.getElem_toArray, List.getElem_cons_succ, List.getElem_cons_zero]
                      refine wpAnyH_take (i := 1) (v := ?_) rfl (by kernel_rfl) (by kernel_rfl) (by kernel_rfl) (fun _ _ _ h => h) (Or.inl ⟨by rfl, ?_⟩) (by assumption) ?_
                      rotate_left
                      · intro w' hSw
                        have r0 : w'.cell? ⟨w.heap.size, 0, none⟩ = some (.string a.name) := hSw.k1.cell 0
                        have r1 : w'.cell? ⟨w.heap.size, 1, none⟩ = some (.slice (some ⟨b1, o1, none⟩) a.args.length ca) := hSw.k1.cell 1
                        have s0 : w'.cell? ⟨w.heap.size + 1, 0, none⟩ = some (.string b.name) := hSw.k2.cell 0
                        have s1 : w'.cell? ⟨w.heap.size + 1, 1, none⟩ = some (.slice (some ⟨b2, o2, none⟩) b.args.length cb) := hSw.k2.cell 1
                        obtain ⟨t0, t1, t2, t3⟩ := HD.out w' hSw.bl
                        go_simp <;> with_reducible rfl
                      try simp only [Act.put, List.setIfInBounds_toArray, List.set_cons_zero, List.set_cons_succ, List.getElem_toArray, List.getElem_cons_succ, List.getElem_cons_zero]
                      refine wpAnyH_take (i := 2) (v := ?_) rfl (by kernel_rfl) (by kernel_rfl) (by kernel_rfl) (fun _ _ _ h => h) (Or.inl ⟨by rfl, ?_⟩) (by assumption) ?_
                      rotate_left
                      · intro w' hSw
                        have r0 : w'.cell? ⟨w.heap.size, 0, none⟩ = some (.string a.name) := hSw.k1.cell 0
                        have r1 : w'.cell? ⟨w.heap.size, 1, none⟩ = some (.slice (some ⟨b1, o1, none⟩) a.args.length ca) := hSw.k1.cell 1
                        have s0 : w'.cell? ⟨w.heap.size + 1, 0, none⟩ = some (.string b.name) := hSw.k2.cell 0
                        have s1 : w'.cell? ⟨w.heap.size + 1, 1, none⟩ = some (.slice (some ⟨b2, o2, none⟩) b.args.length cb) := hSw.k2.cell 1
                        obtain ⟨t0, t1, t2, t3⟩ := HD.out w' hSw.bl
                        go_simp <;> with_reducible rfl
                      try simp only [Act.put, List.setIfInBounds_toArray, List.set_cons_zero, List.set_cons_succ, List.getElem_toArray, List.getElem_cons_succ, List.getElem_cons_zero]
                      refine wpAnyH_take (i := 3) (v := ?_) rfl (by kernel_rfl) (by kernel_rfl) (by kernel_rfl) (fun _ _ _ h => h) (Or.inl ⟨by rfl, ?_⟩) (by assumption) ?_
                      rotate_left
                      · intro w' hSw
                        have r0 : w'.cell? ⟨w.heap.size, 0, none⟩ = some (.string a.name) := hSw.k1.cell 0
                        have r1 : w'.cell? ⟨w.heap.size, 1, none⟩ = some (.slice (some ⟨b1, o1, none⟩) a.args.length ca) := hSw.k1.cell 1
                        have s0 : w'.cell? ⟨w.heap.size + 1, 0, none⟩ = some (.string b.name) := hSw.k2.cell 0
                        have s1 : w'.cell? ⟨w.heap.size + 1, 1, none⟩ = some (.slice (some ⟨b2, o2, none⟩) b.args.length cb) := hSw.k2.cell 1
                        obtain ⟨t0, t1, t2, t3⟩ := HD.out w' hSw.bl
                        go_simp <;> with_reducible rfl
                      try simp only [Act.put, List.setIfInBounds_toArray, List.set_cons_zero, List.set_cons_succ, List.getElem_toArray, List.getElem_cons_succ, List.getElem_cons_zero]
                      refine wpAnyH_take (i := 4) (v := ?_) rfl (by kernel_rfl) (by kernel_rfl) (by kernel_rfl) (fun _ _ _ h => h) (Or.inl ⟨by rfl, ?_⟩) (by assumption) ?_
                      rotate_left
                      · intro w' hSw
                        have r0 : w'.cell? ⟨w.heap.size, 0, none⟩ = some (.string a.name) := hSw.k1.cell 0
                        have r1 : w'.cell? ⟨w.heap.size, 1, none⟩ = some (.slice (some ⟨b1, o1, none⟩) a.args.length ca) := hSw.k1.cell 1
                        have s0 : w'.cell? ⟨w.heap.size + 1, 0, none⟩ = some (.string b.name) := hSw.k2.cell 0
                        have s1 : w'.cell? ⟨w.heap.size + 1, 1, none⟩ = some (.slice (some ⟨b2, o2, none⟩) b.args.length cb) := hSw.k2.cell 1
                        obtain ⟨t0, t1, t2, t3⟩ := HD.out w' hSw.bl
                        go_simp <;> with_reducible rfl
                      try simp only [Act.put, List.setIfInBounds_toArray, List.set_cons_zero, List.set_cons_succ, List.getElem_toArray, List.getElem_cons_succ, List.getElem_cons_zero]
                      refine wpAnyH_take (i := 5) (v := ?_) rfl (by kernel_rfl) (by kernel_rfl) (by kernel_rfl) (fun _ _ _ h => h) (Or.inl ⟨by rfl, ?_⟩) (by assumption) ?_
                      rotate_left
                      · intro w' hSw
                        have r0 : w'.cell? ⟨w.heap.size, 0, none⟩ = some (.string a.name) := hSw.k1.cell 0
                        have r1 : w'.cell? ⟨w.heap.size, 1, none⟩ = some (.slice (some ⟨b1, o1, none⟩) a.args.length ca) := hSw.k1.cell 1
                        have s0 : w'.cell? ⟨w.heap.size + 1, 0, none⟩ = some (.string b.name) := hSw.k2.cell 0
                        have s1 : w'.cell? ⟨w.heap.size + 1, 1, none⟩ = some (.slice (some ⟨b2, o2, none⟩) b.args.length cb) := hSw.k2.cell 1
                        obtain ⟨t0, t1, t2, t3⟩ := HD.out w' hSw.bl
                        go_simp <;> with_reducible rfl
                      try simp only [Act.put, List.setIfInBounds_toArray, List.set_cons_zero, List.set_cons_succ, List.getElem_toArray, List.getElem_cons_succ, List.getElem_cons_zero]
                      refine wpAnyH_take (i := 6) (v := ?_) rfl (by kernel_rfl) (by kernel_rfl) (by kernel_rfl) (fun _ _ _ h => h) (Or.inl ⟨by rfl, ?_⟩) (by assumption) ?_
                      rotate_left
                      · intro w' hSw
                        have r0 : w'.cell? ⟨w.heap.size, 0, none⟩ = some (.string a.name) := hSw.k1.cell 0
                        have r1 : w'.cell? ⟨w.heap.size, 1, none⟩ = some (.slice (some ⟨b1, o1, none⟩) a.args.length ca) := hSw.k1.cell 1
                        have s0 : w'.cell? ⟨w.heap.size + 1, 0, none⟩ = some (.string b.name) := hSw.k2.cell 0
                        have s1 : w'.cell? ⟨w.heap.size + 1, 1, none⟩ = some (.slice (some ⟨b2, o2, none⟩) b.args.length cb) := hSw.k2.cell 1
                        obtain ⟨t0, t1, t2, t3⟩ := HD.out w' hSw.bl
                        go_simp <;> with_reducible rfl
                      try simp only [Act.put, List.setIfInBounds_toArray, List.set_cons_zero, List.set_cons_succ, List.getElem_toArray, List.getElem_cons_succ, List.getElem_cons_zero]
                      refine wpAnyH_take (i := 7) (v := ?_) rfl (by kernel_rfl) (by kernel_rfl) (by kernel_rfl) (fun _ _ _ h => h) (Or.inl ⟨by rfl, ?_⟩) (by assumption) ?_
                      rotate_left
                      · intro w' hSw
                        have r0 : w'.cell? ⟨w.heap.size, 0, none⟩ = some (.string a.name) := hSw.k1.cell 0
                        have r1 : w'.cell? ⟨w.heap.size, 1, none⟩ = some (.slice (some ⟨b1, o1, none⟩) a.args.length ca) := hSw.k1.cell 1
                        have s0 : w'.cell? ⟨w.heap.size + 1, 0, none⟩ = some (.string b.name) := hSw.k2.cell 0
                        have s1 : w'.cell? ⟨w.heap.size + 1, 1, none⟩ = some (.slice (some ⟨b2, o2, none⟩) b.args.length cb) := hSw.k2.cell 1
                        obtain ⟨t0, t1, t2, t3⟩ := HD.out w' hSw.bl
                        go_simp <;> with_reducible rfl
                      try simp only [Act.put, List.setIfInBounds_toArray, List.set_cons_zero, List.set_cons_succ, List.getElem_toArray, List.getElem_cons_succ, List.getElem_cons_zero]
                      refine wpAnyH_take (i := 8) (v := ?_) rfl (by kernel_rfl) (by kernel_rfl) (by kernel_rfl) (fun _ _ _ h => h) (Or.inl ⟨by rfl, ?_⟩) (by assumption) ?_
                      rotate_left
                      · intro w' hSw
                        have r0 : w'.cell? ⟨w.heap.size, 0, none⟩ = some (.string a.name) := hSw.k1.cell 0
                        have r1 : w'.cell? ⟨w.heap.size, 1, none⟩ = some (.slice (some ⟨b1, o1, none⟩) a.args.length ca) := hSw.k1.cell 1
                        have s0 : w'.cell? ⟨w.heap.size + 1, 0, none⟩ = some (.string b.name) := hSw.k2.cell 0
                        have s1 : w'.cell? ⟨w.heap.size + 1, 1, none⟩ = some (.slice (some ⟨b2, o2, none⟩) b.args.length cb) := hSw.k2.cell 1
                        obtain ⟨t0, t1, t2, t3⟩ := HD.out w' hSw.bl
                        go_simp <;> with_reducible rfl
                      try simp only [Act.put, List.setIfInBounds_toArray, List.set_cons_zero, List.set_cons_succ, List.getElem_toArray, List.getElem_cons_succ, List.getElem_cons_zero]
                      refine wpAnyH_take (i := 9) (v := ?_) rfl (by kernel_rfl) (by kernel_rfl) (by kernel_rfl) (fun _ _ _ h => h) (Or.inl ⟨by rfl, ?_⟩) (by assumption) ?_
                      rotate_left
                      · intro w' hSw
                        have r0 : w'.cell? ⟨w.heap.size, 0, none⟩ = some (.string a.name) := hSw.k1.cell 0
                        have r1 : w'.cell? ⟨w.heap.size, 1, none⟩ = some (.slice (some ⟨b1, o1, none⟩) a.args.length ca) := hSw.k1.cell 1
                        have s0 : w'.cell? ⟨w.heap.size + 1, 0, none⟩ = some (.string b.name) := hSw.k2.cell 0
                        have s1 : w'.cell? ⟨w.heap.size + 1, 1, none⟩ = some (.slice (some ⟨b2, o2, none⟩) b.args.length cb) := hSw.k2.cell 1
                        obtain ⟨t0, t1, t2, t3⟩ := HD.out w' hSw.bl
                        go_simp <;> with_reducible rfl
                      try simp only [Act.put, List.setIfInBounds_toArray, List.set_cons_zero, List.set_cons_succ, List.getElem_toArray, List.getElem_cons_succ, List.getElem_cons_zero]
                      refine wpAnyH_ready (rs := [10]) (by kernel_rfl) (by simp) ?_
                      refine AllReadyH.cons rfl (fun K hK => ?_) AllReadyH.nil
                      go_simp
                      go_at_call 27
                      refine (sameR_all x y _ _ _ X X (by exact HX.out.later hHeld.bl) (by exact HY.out.later hHeld.bl)).mono ?_
                      rintro e w5 ⟨rfl, hb5⟩
                      have H5 := hide (hHeld.later hb5)
                      clear hb5
                      go_simp
                      refine hK.out _ _ (by exact H5.out) (fun hHeld => ?_)
                      clear hK K
                      try simp only [Act.put, List.setIfInBounds_toArray, List.set_cons_zero, List.set_cons_succ, List.getElem_toArray, List.getElem_cons_succ, List.getElem_cons_zero]
                      refine wpAnyH_take (i := 11) (v := ?_) rfl (by kernel_rfl) (by kernel_rfl) (by kernel_rfl) (fun _ _ _ h => h) (Or.inl ⟨by rfl, ?_⟩) (by assumption) ?_
                      rotate_left
                      · intro w' hSw
                        go_simp <;> with_reducible rfl
                      try simp only [Act.put, List.setIfInBounds_toArray, List.set_cons_zero, List.set_cons_succ, List.getElem_toArray, List.getElem_cons_succ, List.getElem_cons_zero]

                      refine wpAnyH_done (by kernel_rfl) ?_ _
                      clear r0 r1 s0 s1
                      by_cases he : x = y
                      · have hs : sameB x y = true := sameB_iff.2 he
                        rw [hs]
                        have HREL := hide (HU2.out he)
                        clear he hs
                        go_wp2_with fail
                        go_roundw
                        case rel => exact ⟨k + 1, by omega, by go_num, HREL.out, H5.out⟩
                        case measure => simp [intOf]; omega
                      · have hs : sameB x y = false := by
                          cases h : sameB x y with
                          | false => rfl
                          | true => exact absurd (sameB_iff.1 h) he
                        rw [hs]
                        have HR : Hid (weightB row a b = weightB row x y) := by unfold Hid; rw [HLAST.out, HU1.out he]
                        clear he hs
                        have HS1 : Hid (TwW a b (some ⟨b1, o1, none⟩) ca (some ⟨b2, o2, none⟩) cb w w5.drew) := H5.out.later (below_drewN (Below.refl _ _) 1)
                        go_wp2_with fail
                        refine wp_region_held_drew (S := TwW a b (some ⟨b1, o1, none⟩) ca (some ⟨b2, o2, none⟩) cb w) (by kernel_rfl) HS1.out (fun hHeld => ?_)
                        refine wpAnyH_take (i := 0) (v := ?_) rfl (by kernel_rfl) (by kernel_rfl) (by kernel_rfl) (fun _ _ _ h => h) (Or.inl ⟨by rfl, ?_⟩) (by assumption) ?_
                        rotate_left
                        · intro w' hSw
                          have r0 : w'.cell? ⟨w.heap.size, 0, none⟩ = some (.string a.name) := hSw.k1.cell 0
                          have r1 : w'.cell? ⟨w.heap.size, 1, none⟩ = some (.slice (some ⟨b1, o1, none⟩) a.args.length ca) := hSw.k1.cell 1
                          have s0 : w'.cell? ⟨w.heap.size + 1, 0, none⟩ = some (.string b.name) := hSw.k2.cell 0
                          have s1 : w'.cell? ⟨w.heap.size + 1, 1, none⟩ = some (.slice (some ⟨b2, o2, none⟩) b.args.length cb) := hSw.k2.cell 1
                          obtain ⟨t0, t1, t2, t3⟩ := HD.out w' hSw.bl
                          go_simp <;> with_reducible rfl
                        try simp only [Act.put, List.setIfInBounds_toArray, List.set_cons_zero, List.set_cons_succ, List.getElem_toArray, List.getElem_cons_succ, List.getElem_cons_zero]
                        refine wpAnyH_take (i := 1) (v := ?_) rfl (by kernel_rfl) (by kernel_rfl) (by kernel_rfl) (fun _ _ _ h => h) (Or.inl ⟨by rfl, ?_⟩) (by assumption) ?_
                        rotate_left
                        · intro w' hSw
                          have r0 : w'.cell? ⟨w.heap.size, 0, none⟩ = some (.string a.name) := hSw.k1.cell 0
                          have r1 : w'.cell? ⟨w.heap.size, 1, none⟩ = some (.slice (some ⟨b1, o1, none⟩) a.args.length ca) := hSw.k1.cell 1
                          have s0 : w'.cell? ⟨w.heap.size + 1, 0, none⟩ = some (.string b.name) := hSw.k2.cell 0
                          have s1 : w'.cell? ⟨w.heap.size + 1, 1, none⟩ = some (.slice (some ⟨b2, o2, none⟩) b.args.length cb) := hSw.k2.cell 1
                          obtain ⟨t0, t1, t2, t3⟩ := HD.out w' hSw.bl
                          go_simp <;> with_reducible rfl
                        try simp only [Act.put, List.setIfInBounds_toArray, List.set_cons_zero, List.set_cons_succ, List.getElem_toArray, List.getElem_cons_succ, List.getElem_cons_zero]
                        refine wpAnyH_take (i := 2) (v := ?_) rfl (by kernel_rfl) (by kernel_rfl) (by kernel_rfl) (fun _ _ _ h => h) (Or.inl ⟨by rfl, ?_⟩) (by assumption) ?_
                        rotate_left
                        · intro w' hSw
                          have r0 : w'.cell? ⟨w.heap.size, 0, none⟩ = some (.string a.name) := hSw.k1.cell 0
                          have r1 : w'.cell? ⟨w.heap.size, 1, none⟩ = some (.slice (some ⟨b1, o1, none⟩) a.args.length ca) := hSw.k1.cell 1
                          have s0 : w'.cell? ⟨w.heap.size + 1, 0, none⟩ = some (.string b.name) := hSw.k2.cell 0
                          have s1 : w'.cell? ⟨w.heap.size + 1, 1, none⟩ = some (.slice (some ⟨b2, o2, none⟩) b.args.length cb) := hSw.k2.cell 1
                          obtain ⟨t0, t1, t2, t3⟩ := HD.out w' hSw.bl
                          go_simp <;> with_reducible rfl
                        try simp only [Act.put, List.setIfInBounds_toArray, List.set_cons_zero, List.set_cons_succ, List.getElem_toArray, List.getElem_cons_succ, List.getElem_cons_zero]
                        refine wpAnyH_take (i := 3) (v := ?_) rfl (by kernel_rfl) (by kernel_rfl) (by kernel_rfl) (fun _ _ _ h => h) (Or.inl ⟨by rfl, ?_⟩) (by assumption) ?_
                        rotate_left
                        · intro w' hSw
                          have r0 : w'.cell? ⟨w.heap.size, 0, none⟩ = some (.string a.name) := hSw.k1.cell 0
                          have r1 : w'.cell? ⟨w.heap.size, 1, none⟩ = some (.slice (some ⟨b1, o1, none⟩) a.args.length ca) := hSw.k1.cell 1
                          have s0 : w'.cell? ⟨w.heap.size + 1, 0, none⟩ = some (.string b.name) := hSw.k2.cell 0
                          have s1 : w'.cell? ⟨w.heap.size + 1, 1, none⟩ = some (.slice (some ⟨b2, o2, none⟩) b.args.length cb) := hSw.k2.cell 1
                          obtain ⟨t0, t1, t2, t3⟩ := HD.out w' hSw.bl
                          go_simp <;> with_reducible rfl
                        try simp only [Act.put, List.setIfInBounds_toArray, List.set_cons_zero, List.set_cons_succ, List.getElem_toArray, List.getElem_cons_succ, List.getElem_cons_zero]
                        refine wpAnyH_take (i := 4) (v := ?_) rfl (by kernel_rfl) (by kernel_rfl) (by kernel_rfl) (fun _ _ _ h => h) (Or.inl ⟨by rfl, ?_⟩) (by assumption) ?_
                        rotate_left
                        · intro w' hSw
                          have r0 : w'.cell? ⟨w.heap.size, 0, none⟩ = some (.string a.name) := hSw.k1.cell 0
                          have r1 : w'.cell? ⟨w.heap.size, 1, none⟩ = some (.slice (some ⟨b1, o1, none⟩) a.args.length ca) := hSw.k1.cell 1
                          have s0 : w'.cell? ⟨w.heap.size + 1, 0, none⟩ = some (.string b.name) := hSw.k2.cell 0
                          have s1 : w'.cell? ⟨w.heap.size + 1, 1, none⟩ = some (.slice (some ⟨b2, o2, none⟩) b.args.length cb) := hSw.k2.cell 1
                          obtain ⟨t0, t1, t2, t3⟩ := HD.out w' hSw.bl
                          go_simp <;> with_reducible rfl
                        try simp only [Act.put, List.setIfInBounds_toArray, List.set_cons_zero, List.set_cons_succ, List.getElem_toArray, List.getElem_cons_succ, List.getElem_cons_zero]
                        refine wpAnyH_take (i := 5) (v := ?_) rfl (by kernel_rfl) (by kernel_rfl) (by kernel_rfl) (fun _ _ _ h => h) (Or.inl ⟨by rfl, ?_⟩) (by assumption) ?_
                        rotate_left
                        · intro w' hSw
                          have r0 : w'.cell? ⟨w.heap.size, 0, none⟩ = some (.string a.name) := hSw.k1.cell 0
                          have r1 : w'.cell? ⟨w.heap.size, 1, none⟩ = some (.slice (some ⟨b1, o1, none⟩) a.args.length ca) := hSw.k1.cell 1
                          have s0 : w'.cell? ⟨w.heap.size + 1, 0, none⟩ = some (.string b.name) := hSw.k2.cell 0
                          have s1 : w'.cell? ⟨w.heap.size + 1, 1, none⟩ = some (.slice (some ⟨b2, o2, none⟩) b.args.length cb) := hSw.k2.cell 1
                          obtain ⟨t0, t1, t2, t3⟩ := HD.out w' hSw.bl
                          go_simp <;> with_reducible rfl
                        try simp only [Act.put, List.setIfInBounds_toArray, List.set_cons_zero, List.set_cons_succ, List.getElem_toArray, List.getElem_cons_succ, List.getElem_cons_zero]
                        refine wpAnyH_take (i := 6) (v := ?_) rfl (by kernel_rfl) (by kernel_rfl) (by kernel_rfl) (fun _ _ _ h => h) (Or.inl ⟨by rfl, ?_⟩) (by assumption) ?_
                        rotate_left
                        · intro w' hSw
                          have r0 : w'.cell? ⟨w.heap.size, 0, none⟩ = some (.string a.name) := hSw.k1.cell 0
                          have r1 : w'.cell? ⟨w.heap.size, 1, none⟩ = some (.slice (some ⟨b1, o1, none⟩) a.args.length ca) := hSw.k1.cell 1
                          have s0 : w'.cell? ⟨w.heap.size + 1, 0, none⟩ = some (.string b.name) := hSw.k2.cell 0
                          have s1 : w'.cell? ⟨w.heap.size + 1, 1, none⟩ = some (.slice (some ⟨b2, o2, none⟩) b.args.length cb) := hSw.k2.cell 1
                          obtain ⟨t0, t1, t2, t3⟩ := HD.out w' hSw.bl
                          go_simp <;> with_reducible rfl
                        try simp only [Act.put, List.setIfInBounds_toArray, List.set_cons_zero, List.set_cons_succ, List.getElem_toArray, List.getElem_cons_succ, List.getElem_cons_zero]
                        refine wpAnyH_take (i := 7) (v := ?_) rfl (by kernel_rfl) (by kernel_rfl) (by kernel_rfl) (fun _ _ _ h => h) (Or.inl ⟨by rfl, ?_⟩) (by assumption) ?_
                        rotate_left
                        · intro w' hSw
                          have r0 : w'.cell? ⟨w.heap.size, 0, none⟩ = some (.string a.name) := hSw.k1.cell 0
                          have r1 : w'.cell? ⟨w.heap.size, 1, none⟩ = some (.slice (some ⟨b1, o1, none⟩) a.args.length ca) := hSw.k1.cell 1
                          have s0 : w'.cell? ⟨w.heap.size + 1, 0, none⟩ = some (.string b.name) := hSw.k2.cell 0
                          have s1 : w'.cell? ⟨w.heap.size + 1, 1, none⟩ = some (.slice (some ⟨b2, o2, none⟩) b.args.length cb) := hSw.k2.cell 1
                          obtain ⟨t0, t1, t2, t3⟩ := HD.out w' hSw.bl
                          go_simp <;> with_reducible rfl
                        try simp only [Act.put, List.setIfInBounds_toArray, List.set_cons_zero, List.set_cons_succ, List.getElem_toArray, List.getElem_cons_succ, List.getElem_cons_zero]
                        refine wpAnyH_take (i := 8) (v := ?_) rfl (by kernel_rfl) (by kernel_rfl) (by kernel_rfl) (fun _ _ _ h => h) (Or.inl ⟨by rfl, ?_⟩) (by assumption) ?_
                        rotate_left
                        · intro w' hSw
                          have r0 : w'.cell? ⟨w.heap.size, 0, none⟩ = some (.string a.name) := hSw.k1.cell 0
                          have r1 : w'.cell? ⟨w.heap.size, 1, none⟩ = some (.slice (some ⟨b1, o1, none⟩) a.args.length ca) := hSw.k1.cell 1
                          have s0 : w'.cell? ⟨w.heap.size + 1, 0, none⟩ = some (.string b.name) := hSw.k2.cell 0
                          have s1 : w'.cell? ⟨w.heap.size + 1, 1, none⟩ = some (.slice (some ⟨b2, o2, none⟩) b.args.length cb) := hSw.k2.cell 1
                          obtain ⟨t0, t1, t2, t3⟩ := HD.out w' hSw.bl
                          go_simp <;> with_reducible rfl
                        try simp only [Act.put, List.setIfInBounds_toArray, List.set_cons_zero, List.set_cons_succ, List.getElem_toArray, List.getElem_cons_succ, List.getElem_cons_zero]
                        refine wpAnyH_take (i := 9) (v := ?_) rfl (by kernel_rfl) (by kernel_rfl) (by kernel_rfl) (fun _ _ _ h => h) (Or.inl ⟨by rfl, ?_⟩) (by assumption) ?_
                        rotate_left
                        · intro w' hSw
                          have r0 : w'.cell? ⟨w.heap.size, 0, none⟩ = some (.string a.name) := hSw.k1.cell 0
                          have r1 : w'.cell? ⟨w.heap.size, 1, none⟩ = some (.slice (some ⟨b1, o1, none⟩) a.args.length ca) := hSw.k1.cell 1
                          have s0 : w'.cell? ⟨w.heap.size + 1, 0, none⟩ = some (.string b.name) := hSw.k2.cell 0
                          have s1 : w'.cell? ⟨w.heap.size + 1, 1, none⟩ = some (.slice (some ⟨b2, o2, none⟩) b.args.length cb) := hSw.k2.cell 1
                          obtain ⟨t0, t1, t2, t3⟩ := HD.out w' hSw.bl
                          go_simp <;> with_reducible rfl
                        try simp only [Act.put, List.setIfInBounds_toArray, List.set_cons_zero, List.set_cons_succ, List.getElem_toArray, List.getElem_cons_succ, List.getElem_cons_zero]
                        refine wpAnyH_take (i := 10) (v := ?_) rfl (by kernel_rfl) (by kernel_rfl) (by kernel_rfl) (fun _ _ _ h => h) (Or.inl ⟨by rfl, ?_⟩) (by assumption) ?_
                        rotate_left
                        · intro w' hSw
                          have r0 : w'.cell? ⟨w.heap.size, 0, none⟩ = some (.string a.name) := hSw.k1.cell 0
                          have r1 : w'.cell? ⟨w.heap.size, 1, none⟩ = some (.slice (some ⟨b1, o1, none⟩) a.args.length ca) := hSw.k1.cell 1
                          have s0 : w'.cell? ⟨w.heap.size + 1, 0, none⟩ = some (.string b.name) := hSw.k2.cell 0
                          have s1 : w'.cell? ⟨w.heap.size + 1, 1, none⟩ = some (.slice (some ⟨b2, o2, none⟩) b.args.length cb) := hSw.k2.cell 1
                          obtain ⟨t0, t1, t2, t3⟩ := HD.out w' hSw.bl
                          go_simp <;> with_reducible rfl
                        try simp only [Act.put, List.setIfInBounds_toArray, List.set_cons_zero, List.set_cons_succ, List.getElem_toArray, List.getElem_cons_succ, List.getElem_cons_zero]
                        refine wpAnyH_ready (rs := [11]) (by kernel_rfl) (by simp) ?_
                        refine AllReadyH.cons rfl (fun K hK => ?_) AllReadyH.nil
                        go_simp
                        go_at_call 12
                        refine (IH.out x y _ _ _ _ X (by omega) (by omega) (by omega) (by exact HU.out.later hHeld.bl) (by exact HX.out.later hHeld.bl) (by exact HY.out.later hHeld.bl)).mono ?_
                        rintro e w6 ⟨rfl, hb6⟩
                        have H6 := hide (hHeld.later hb6)
                        clear hb6
                        go_simp
                        refine hK.out _ _ (by exact H6.out) (fun hHeld => ?_)
                        clear hK K
                        try simp only [Act.put, List.setIfInBounds_toArray, List.set_cons_zero, List.set_cons_succ, List.getElem_toArray, List.getElem_cons_succ, List.getElem_cons_zero]
                        refine wpAnyH_take (i := 12) (v := ?_) rfl (by kernel_rfl) (by kernel_rfl) (by kernel_rfl) (fun _ _ _ h => h) (Or.inl ⟨by rfl, ?_⟩) (by assumption) ?_
                        rotate_left
                        · intro w' hSw
                          go_simp <;> with_reducible rfl
                        try simp only [Act.put, List.setIfInBounds_toArray, List.set_cons_zero, List.set_cons_succ, List.getElem_toArray, List.getElem_cons_succ, List.getElem_cons_zero]

                        refine wpAnyH_done (by kernel_rfl) ?_ _
                        go_wp2_with fail
                        go_ret
                        exact ⟨by rw [HR.out]; rfl, H6.out.bl⟩
                    · have HR : Hid (weightB row a b = false) := by
                        unfold Hid
                        rw [HLAST.out, unl_all HLEN.out fun j h1 h2 => HALL.out j (by omega) h1 h2]
                      go_wp2_with fail
                      go_ret
                      exact ⟨by rw [HR.out]; rfl, HTW.out.bl⟩
        · have hz1 : ((sizeL [a] : Int) != (sizeL [b] : Int)) = true := by rw [bne_iff_ne]; omega
          have HR : Hid (weightB row a b = decide (sizeL [b] < sizeL [a])) := by unfold Hid; rw [HWB.out, if_neg (by rw [HAL.out]; simp), if_pos hz]
          go_wp2_with fail
          go_ret
          refine ⟨?_, A6.out.bl⟩
          rw [HR.out]
          by_cases hg : sizeL [b] < sizeL [a]
          · have : (sizeL [b] : Int) < (sizeL [a] : Int) := by omega
            simp [hg, this]
          · have : ¬ (sizeL [b] : Int) < (sizeL [a] : Int) := by omega
            simp [hg, this]
#print axioms weightOf_any
end Go.Proofs.Ytpbnbkeoiojpaac
