/- Walks: a copy of a term with a copy of another one at a place. -/
import Derived.Test.YtndebgcjhodkfaiW9
import Derived.Test.YtndebgcjhodkfaiPutM
import Derived.Test.YtndebgcjhodkfaiSlq
import Derived.Deep.RegionHeld3
import Derived.Deep.DeepCutAuto
namespace Go.Proofs.Ytndebgcjhodkfai
open Go.RowKit
set_option linter.unusedSimpArgs false
set_option linter.unusedVariables false
set_option maxRecDepth 8000

theorem make_run (n : Nat) (hn : n ≤ 1000000) (w' : World) : Sem.run Try.prog (Instr.makeSlice 23 (.int .i64 (n : Int)) (.int .i64 (n : Int))) w' = .ok (.slice (some ⟨w'.heap.size, 0, none⟩) n n) (w'.alloc (.cells (madeCells #[.string ⟨#[]⟩, .slice none 0 0] (n * 2)) 25)) := by
  obtain ⟨i0, hi, hz0, hz1, hz2⟩ := info_parts Try.infoTerm
  have := run_make (P := Try.prog) (w := w') 23 25 i0 _ Try.underlying23 hi hz0 .i64 .i64 n n (by omega) (by omega) (by rw [hz2]; omega) (by omega)
  rw [this, hz1]
  simp [Value.cells]
  rfl

/-- What holds at each round's head. -/
def RepInv (w : World) (x : Tm) (zs : List Int) (z : Int) (s : ByteArray) (l : List Tm) (ax : Option Addr) (cx G O : Nat) (i : Value) (wr : World) : Prop :=
  ∃ (k : Nat) (cs : Array Value), k ≤ l.length ∧ i = .int .i64 k ∧ Blk wr G cs 25 ∧ cs.size = l.length * 2 ∧ RowT wr (fun b => w.heap.size + 5 ≤ b) ((putL (putT x zs) z 0 l).take k) (cs.toList.take (k * 2)) ∧ Below w.heap.size w wr ∧
    Blk wr (w.heap.size + 1) #[.string x.name, .slice ax x.args.length cx] 25 ∧ Blk wr (w.heap.size + 1 + 1) #[.string ⟨#[]⟩, .slice none 0 0] 25 ∧ Blk wr O #[.string s, .slice (some ⟨G, 0, none⟩) l.length l.length] 25 ∧ w.heap.size + 5 ≤ wr.heap.size

theorem list_set2 {α : Type} (l : List α) (i : Nat) (x y : α) (h : i + 1 < l.length) : ((l.set i x).set (i + 1) y).take (i + 2) = l.take i ++ [x, y] := by
  apply List.ext_getElem
  · simp; omega
  · intro j h1 h2
    simp only [List.getElem_take, List.getElem_set]
    simp at h1
    by_cases e1 : j = i + 1
    · subst e1
      rw [if_pos rfl, List.getElem_append_right (by simp; omega)]
      have hm : min i l.length = i := by omega
      simp [hm]
    · rw [if_neg (by omega)]
      by_cases e2 : j = i
      · subst e2
        rw [if_pos rfl, List.getElem_append_right (by simp; omega)]
        have hm : min j l.length = j := by omega
        simp [hm]
      · rw [if_neg (by omega), List.getElem_append_left (by simp; omega)]
        simp

theorem rep_step {w wr w1 : World} {T : Nat} {L : List Tm} {cs : Array Value} {s9 : ByteArray} {a9 : Option Addr} {n9 c9 G k n : Nat} {t : Tm} (hG : Blk wr G cs T) (hcs : cs.size = n * 2) (hk : k < n) (hrow : RowT wr (fun b => w.heap.size + 5 ≤ b) L (cs.toList.take (k * 2))) (hb : Below w.heap.size w wr)
    (hsz : w.heap.size + 5 ≤ wr.heap.size) (hG3 : w.heap.size + 3 ≤ G) (hG5 : G < w.heap.size + 5) (hb1 : Below wr.heap.size wr w1) (ht : TV w1 (fun b => wr.heap.size ≤ b) (.agg #[.string s9, .slice a9 n9 c9]) t) :
    let w4 := (w1.setCell ⟨G, k * 2, none⟩ (.string s9)).setCell ⟨G, k * 2 + 1, none⟩ (.slice a9 n9 c9)
    let cs' := (cs.setIfInBounds (k * 2) (.string s9)).setIfInBounds (k * 2 + 1) (.slice a9 n9 c9)
    Blk w4 G cs' T ∧ cs'.size = n * 2 ∧ RowT w4 (fun b => w.heap.size + 5 ≤ b) (L ++ [t]) (cs'.toList.take ((k + 1) * 2)) ∧ Below w.heap.size w w4 ∧ (∀ b ds, b ≠ G → Blk wr b ds T → Blk w4 b ds T) ∧ w.heap.size + 5 ≤ w4.heap.size := by
  intro w4 cs'
  have hs1 := hb1.size
  have hG1 := hG.below hb1 hG.lt
  have hkeep : ∀ b, b ≠ G → w4.heap[b]? = w1.heap[b]? := fun b hb => by
    show ((w1.setCell _ _).setCell _ _).heap[b]? = _
    rw [Below.heap_setCell _ _ _ _ (by simpa using hb), Below.heap_setCell _ _ _ _ (by simpa using hb)]
  refine ⟨(hG1.set _ _).set _ _, by simp [cs', hcs], ?_, ?_, fun b ds hne h => by unfold Blk; rw [hkeep b hne]; exact h.below hb1 h.lt, by simp [w4, World.setCell]; omega⟩
  · have e : cs'.toList.take ((k + 1) * 2) = cs.toList.take (k * 2) ++ [.string s9, .slice a9 n9 c9] := by
      have := list_set2 cs.toList (k * 2) (.string s9) (.slice a9 n9 c9) (by simp; omega)
      simp only [cs', Array.toList_setIfInBounds]
      rw [show (k + 1) * 2 = k * 2 + 2 by omega]
      exact this
    rw [e]
    refine RowT.append (hrow.imp fun a k hs => ?_) ?_
    · have h1 : Sl w1 (fun b => w.heap.size + 5 ≤ b) a k := hs.later hb1
      exact h1.kept fun b hb => hkeep b (by omega)
    · obtain ⟨a2, c2, e2, hs⟩ := ht
      simp at e2
      obtain ⟨rfl, rfl, rfl, rfl⟩ := e2
      refine ⟨a9, c9, [], rfl, ?_, rfl⟩
      have h1 : Sl w1 (fun b => w.heap.size + 5 ≤ b) a9 t.args := hs.mono fun b hb _ => by omega
      exact h1.kept fun b hb => hkeep b (by omega)
  · exact ((hb.trans (hb1.mono hb.size)).setCell (p := ⟨G, k * 2, none⟩) (by simp; omega) _).setCell (p := ⟨G, k * 2 + 1, none⟩) (by simp; omega) _

theorem held5 {w : World} {K i j : Nat} {u u' v1 v2 v3 v4 v5 : Value} {p1 p2 p3 p4 p5 : Addr} (h : w.cell? p1 = some v1 ∧ w.cell? p2 = some v2 ∧ w.cell? p3 = some v3 ∧ w.cell? p4 = some v4 ∧ w.cell? p5 = some v5) (h1 : p1.block ≠ K) (h2 : p2.block ≠ K) (h3 : p3.block ≠ K) (h4 : p4.block ≠ K) (h5 : p5.block ≠ K) :
    ((w.setCell ⟨K, i, none⟩ u).setCell ⟨K, j, none⟩ u').cell? p1 = some v1 ∧ ((w.setCell ⟨K, i, none⟩ u).setCell ⟨K, j, none⟩ u').cell? p2 = some v2 ∧ ((w.setCell ⟨K, i, none⟩ u).setCell ⟨K, j, none⟩ u').cell? p3 = some v3 ∧ ((w.setCell ⟨K, i, none⟩ u).setCell ⟨K, j, none⟩ u').cell? p4 = some v4 ∧ ((w.setCell ⟨K, i, none⟩ u).setCell ⟨K, j, none⟩ u').cell? p5 = some v5 :=
  ⟨set2_keep h.1 h1, set2_keep h.2.1 h2, set2_keep h.2.2.1 h3, set2_keep h.2.2.2.1 h4, set2_keep h.2.2.2.2 h5⟩

theorem later5 {w w' : World} {v1 v2 v3 v4 v5 : Value} {p1 p2 p3 p4 p5 : Addr} (hb : Below w.heap.size w w') (h : w.cell? p1 = some v1 ∧ w.cell? p2 = some v2 ∧ w.cell? p3 = some v3 ∧ w.cell? p4 = some v4 ∧ w.cell? p5 = some v5) :
    w'.cell? p1 = some v1 ∧ w'.cell? p2 = some v2 ∧ w'.cell? p3 = some v3 ∧ w'.cell? p4 = some v4 ∧ w'.cell? p5 = some v5 :=
  ⟨cell_later hb h.1, cell_later hb h.2.1, cell_later hb h.2.2.1, cell_later hb h.2.2.2.1, cell_later hb h.2.2.2.2⟩

theorem drew_below' {wr w1 : World} (hb1 : Below wr.drew.heap.size wr.drew w1) : Below wr.heap.size wr w1 := (below_drewN (Below.refl _ _) 1).trans hb1
theorem alloc_drew_below {wr w1 : World} {o : Obj} (hb1 : Below (wr.alloc o).drew.heap.size (wr.alloc o).drew w1) : Below wr.heap.size wr w1 := ((Below.refl _ _).alloc (Nat.le_refl _) o).trans ((drew_below' hb1).mono (by simp))

/-- What has been laid ahead of the rounds. -/
def RepMade (w : World) (x : Tm) (s : ByteArray) (l : List Tm) (a : Option Addr) (c : Nat) (ax : Option Addr) (cx : Nat) (o7 : Value) (wc : World) : Prop :=
  ∃ G O : Nat, o7 = .pointer (some ⟨O, 0, none⟩) ∧ w.heap.size + 3 ≤ G ∧ G < w.heap.size + 5 ∧ w.heap.size + 3 ≤ O ∧ O < w.heap.size + 5 ∧ G ≠ O ∧ Blk wc w.heap.size #[.string s, .slice a l.length c] 25 ∧ Blk wc (w.heap.size + 1) #[.string x.name, .slice ax x.args.length cx] 25 ∧
    Blk wc (w.heap.size + 1 + 1) #[.string ⟨#[]⟩, .slice none 0 0] 25 ∧ Blk wc G (madeCells #[.string ⟨#[]⟩, .slice none 0 0] (l.length * 2)) 25 ∧ Blk wc O #[.string s, .slice (some ⟨G, 0, none⟩) l.length l.length] 25 ∧ Below w.heap.size w wc ∧ w.heap.size + 5 ≤ wc.heap.size

theorem blks5 (w : World) (c1 c2 c3 c4 c5 : Array Value) (T : Nat) :
    let W := (((((w.alloc (.cells c1 T)).alloc (.cells c2 T)).alloc (.cells c3 T)).alloc (.cells c4 T)).alloc (.cells c5 T)).drew
    Blk W w.heap.size c1 T ∧ Blk W (w.heap.size + 1) c2 T ∧ Blk W (w.heap.size + 1 + 1) c3 T ∧ Blk W (w.heap.size + 1 + 1 + 1) c4 T ∧ Blk W (w.heap.size + 1 + 1 + 1 + 1) c5 T ∧ Below w.heap.size w W ∧ w.heap.size + 5 ≤ W.heap.size := by
  intro W
  refine ⟨((((Blk.new w c1 T).alloc _).alloc _).alloc _).alloc _, ?_, ?_, ?_, ?_, ((below4 _ _ _ _).alloc (by simp; omega) _).drew, by simp [W]⟩
  · have := ((((Blk.new (w.alloc (.cells c1 T)) c2 T).alloc (.cells c3 T)).alloc (.cells c4 T)).alloc (.cells c5 T))
    simp at this; exact this
  · have := (((Blk.new ((w.alloc (.cells c1 T)).alloc (.cells c2 T)) c3 T).alloc (.cells c4 T)).alloc (.cells c5 T))
    simp at this; exact this
  · have := ((Blk.new (((w.alloc (.cells c1 T)).alloc (.cells c2 T)).alloc (.cells c3 T)) c4 T).alloc (.cells c5 T))
    simp at this; exact this
  · have := (Blk.new ((((w.alloc (.cells c1 T)).alloc (.cells c2 T)).alloc (.cells c3 T)).alloc (.cells c4 T)) c5 T)
    simp at this; exact this

theorem repMade1 (w : World) (x : Tm) (s : ByteArray) (l : List Tm) (a : Option Addr) (c : Nat) (ax : Option Addr) (cx : Nat) :
    RepMade w x s l a c ax cx (.pointer (some ⟨w.heap.size + 1 + 1 + 1 + 1, 0, none⟩)) (((((w.alloc (.cells #[.string s, .slice a l.length c] 25)).alloc (.cells #[.string x.name, .slice ax x.args.length cx] 25)).alloc (.cells #[.string ⟨#[]⟩, .slice none 0 0] 25)).alloc (.cells (madeCells #[.string ⟨#[]⟩, .slice none 0 0] (l.length * 2)) 25)).alloc (.cells #[.string s, .slice (some ⟨w.heap.size + 1 + 1 + 1, 0, none⟩) l.length l.length] 25)).drew := by
  obtain ⟨h1, h2, h3, h4, h5, h6, h7⟩ := blks5 w #[.string s, .slice a l.length c] #[.string x.name, .slice ax x.args.length cx] #[.string ⟨#[]⟩, .slice none 0 0] (madeCells #[.string ⟨#[]⟩, .slice none 0 0] (l.length * 2)) #[.string s, .slice (some ⟨w.heap.size + 1 + 1 + 1, 0, none⟩) l.length l.length] 25
  exact ⟨_, _, rfl, by omega, by omega, by omega, by omega, by omega, h1, h2, h3, h4, h5, h6, h7⟩

theorem repMade2 (w : World) (x : Tm) (s : ByteArray) (l : List Tm) (a : Option Addr) (c : Nat) (ax : Option Addr) (cx : Nat) :
    RepMade w x s l a c ax cx (.pointer (some ⟨w.heap.size + 1 + 1 + 1, 0, none⟩)) (((((w.alloc (.cells #[.string s, .slice a l.length c] 25)).alloc (.cells #[.string x.name, .slice ax x.args.length cx] 25)).alloc (.cells #[.string ⟨#[]⟩, .slice none 0 0] 25)).alloc (.cells #[.string s, .slice (some ⟨w.heap.size + 1 + 1 + 1 + 1, 0, none⟩) l.length l.length] 25)).alloc (.cells (madeCells #[.string ⟨#[]⟩, .slice none 0 0] (l.length * 2)) 25)).drew := by
  obtain ⟨h1, h2, h3, h4, h5, h6, h7⟩ := blks5 w #[.string s, .slice a l.length c] #[.string x.name, .slice ax x.args.length cx] #[.string ⟨#[]⟩, .slice none 0 0] #[.string s, .slice (some ⟨w.heap.size + 1 + 1 + 1 + 1, 0, none⟩) l.length l.length] (madeCells #[.string ⟨#[]⟩, .slice none 0 0] (l.length * 2)) 25
  exact ⟨_, _, rfl, by omega, by omega, by omega, by omega, by omega, h1, h2, h3, h5, h4, h6, h7⟩

set_option maxHeartbeats 4000000 in
theorem replace_any (x : Tm) (hxs : sizeL [x] ≤ 1000000) (zs : List Int) : ∀ (t : Tm) (v p u : Value) (w : World) (X : Nat → Prop), TV w X v t → PV w X p zs → TV w X u x → sizeL [t] ≤ 1000000 →
    Calls Try.prog 28 #[v, p, u] w fun e w' => ∃ v', e = .returned v' ∧ TV w' (fun b => w.heap.size ≤ b) v' (putT x zs t) ∧ Below w.heap.size w w' := by
  induction zs with
  | nil =>
    intro t v p u w X hv hp hu hsm
    obtain ⟨a, c, rfl, hs⟩ := hv
    obtain ⟨ax, cx, rfl, hsx⟩ := hu
    obtain ⟨pa, pc, rfl, hzl, hz⟩ := hp
    have HU := hide (show TV w X (.agg #[.string x.name, .slice ax x.args.length cx]) x from ⟨ax, cx, rfl, hsx⟩)
    go_enter Try.func28, Try.ntmps28
    go_wp2_with fail
    refine (copyOf_any x _ _ X (by exact HU.out.later (below3 _ _ _)) hxs).mono ?_
    rintro e w1 ⟨v1, rfl, ht1, hb1⟩
    obtain ⟨a9, c9, rfl, hs9⟩ := ht1
    have hr : Blk w1 (w.heap.size + 1 + 1) #[.string ⟨#[]⟩, .slice none 0 0] 25 := by
      have := (Blk.new ((w.alloc (.cells #[.string t.name, .slice a t.args.length c] 25)).alloc (.cells #[.string x.name, .slice ax x.args.length cx] 25)) #[.string ⟨#[]⟩, .slice none 0 0] 25).below hb1 (by simp)
      simpa using this
    have r20 : w1.cell? ⟨w.heap.size + 1 + 1, 0, none⟩ = some (.string ⟨#[]⟩) := hr.cell 0
    have r21 : w1.cell? ⟨w.heap.size + 1 + 1, 1, none⟩ = some (.slice none 0 0) := hr.cell 1
    have rf := hr.frozen
    go_wp2_with fail
    refine bodyPost_ret (v := .agg #[.string x.name, .slice a9 x.args.length c9]) (by simp [results, Try.results28, go_sem, r20, r21, World.cell?_setCell_same, World.cell?_setCell_other]) rfl ⟨_, rfl, ?_, ?_⟩
    · refine ⟨a9, c9, by simp [putT], ?_⟩
      have : Sl w1 (fun b => w.heap.size + 3 ≤ b) a9 x.args := hs9.mono fun b h _ => by simpa using h
      exact (this.kept fun b hb => by rw [Below.heap_setCell _ _ _ _ (by simp; omega), Below.heap_setCell _ _ _ _ (by simp; omega)]).mono fun b hb _ => by omega
    · exact (((below3 _ _ _).trans (hb1.mono (by simp; omega))).setCell (by simp; omega) _).setCell (by simp; omega) _
  | cons z zs ih =>
    intro t v p u w X0 hv0 hp0 hu0 hsm
    have IH := hide ih
    clear ih
    obtain ⟨X, hX, hXX, hv, hp, hu⟩ : ∃ X : Nat → Prop, (∀ b, X b → b < w.heap.size) ∧ (∀ b, X b → X0 b) ∧ TV w X v t ∧ PV w X p (z :: zs) ∧ TV w X u x := ⟨fun b => X0 b ∧ b < w.heap.size, fun _ h => h.2, fun _ h => h.1, hv0.mono fun b h1 h2 => ⟨h1, h2⟩, hp0.mono fun b h1 h2 => ⟨h1, h2⟩, hu0.mono fun b h1 h2 => ⟨h1, h2⟩⟩
    clear hv0 hp0 hu0
    obtain ⟨a, c, rfl, hs⟩ := hv
    obtain ⟨ax, cx, rfl, hsx⟩ := hu
    have HU := hide (show TV w X (.agg #[.string x.name, .slice ax x.args.length cx]) x from ⟨ax, cx, rfl, hsx⟩)
    clear hsx
    obtain ⟨pa, pc, rfl, hzl, hz⟩ := hp
    obtain ⟨b, o, rfl, hxb, hcell⟩ := hz.resolve_left (fun h => by cases h)
    have h0 := hcell 0 (by simp)
    simp only [Nat.add_zero, List.getElem_cons_zero] at h0
    have htl := hs.1
    have hzl' : zs.length + 1 ≤ 9223372036854775807 ∧ zs.length + 1 ≤ pc := by simpa using hzl
    obtain ⟨hzl1, hzl2⟩ := hzl'
    obtain ⟨s, l⟩ := t
    have hz1 : sizeL [(⟨s, l⟩ : Tm)] = 1 + sizeL l := by simp [sizeL]
    rw [hz1] at hsm
    clear hz1
    have hlen := sizeL_len l
    have hmk := make_run l.length (by omega)
    obtain ⟨sa, HSA, HT⟩ : ∃ sa : Option Addr, Hid ((if pc = 1 then some (⟨b, o, none⟩ : Addr) else some ⟨b, o + 1, none⟩) = sa) ∧ Hid (PV w X (.slice sa zs.length (pc - 1)) zs) := by
      by_cases h1 : pc = 1
      · refine ⟨_, rfl, ?_⟩
        have : zs = [] := List.length_eq_zero_iff.1 (by omega)
        subst this
        exact ⟨_, _, rfl, by simp, Or.inl rfl⟩
      · refine ⟨_, rfl, ?_⟩
        rw [if_neg h1]
        exact PV.tail ⟨hzl1, hzl2⟩ hxb hcell
    simp only [List.length_cons] at *
    clear hcell hzl hz
    go_enter Try.func28, Try.ntmps28
    go_upto_region 3 with fail
    go_cut [7] (fun o7 wc => RepMade w x s l a c ax cx o7 wc)
    case first =>
      go_region
      all_goals go_wp2_with fail
      all_goals go_meet
      all_goals first | exact repMade1 _ _ _ _ _ _ _ _ | exact repMade2 _ _ _ _ _ _ _ _
    case rest =>
      obtain ⟨G, O, rfl, hG3, hG5, hO3, hO5, hGO, hB0, hB1, hB2, hBG, hBO, hbw, hszw⟩ := hcut
      have c01 : wc.cell? ⟨w.heap.size, 1, none⟩ = some (.slice a l.length c) := hB0.cell 1
      go_wp2_with fail
      go_loopw [25] (fun i wr => RepInv w x zs z s l ax cx G O i wr) (fun i wr => l.length - (intOf i).toNat)
      case atStart =>
        unfold RepInv
        exact ⟨0, _, Nat.zero_le _, rfl, hBG, by simp [size_madeCells], by simp [RowT], hbw, hB1, hB2, hBO, hszw⟩
      case round =>
        obtain ⟨k, cs, hk, rfl, hG, hcs, hrow, hb, hbl1, hbl2, hblO, hsz⟩ := hrel
        by_cases hlt : k < l.length
        · obtain ⟨b1, o1, a', c', rfl, d0, d1, hx⟩ := hs.get hb (fun _ _ h => h) k hlt
          have HX := hide hx
          have HPL := hide (putL_take (putT x zs) z l k hlt)
          have hszk : sizeL [l[k]] ≤ 1000000 := by
            have := sizeL_take l k hlt; have := sizeL_take_le l (k + 1); omega
          have czw : ∀ o', (wr.alloc o').cell? ⟨b, o, none⟩ = some (.int .i64 z) := fun o' => cell_later (hb.alloc hb.size o') h0
          have HG := hide hG
          have HROW := hide hrow
          have HB := hide hb
          have HB1 := hide hbl1
          have HB2 := hide hbl2
          have HBO := hide hblO
          have HS0 : ∀ (y0 y1 : Value), Hid ((wr.alloc (.cells #[y0, y1] 25)).cell? ⟨O, 1, none⟩ = some (.slice (some ⟨G, 0, none⟩) l.length l.length) ∧ (wr.alloc (.cells #[y0, y1] 25)).cell? ⟨wr.heap.size, 0, none⟩ = some y0 ∧ (wr.alloc (.cells #[y0, y1] 25)).cell? ⟨wr.heap.size, 1, none⟩ = some y1 ∧ (wr.alloc (.cells #[y0, y1] 25)).cell? ⟨w.heap.size + 1, 0, none⟩ = some (.string x.name) ∧ (wr.alloc (.cells #[y0, y1] 25)).cell? ⟨w.heap.size + 1, 1, none⟩ = some (.slice ax x.args.length cx)) := fun y0 y1 =>
            ⟨(hblO.alloc _).cell 1, (Blk.new wr #[y0, y1] 25).cell 0, (Blk.new wr #[y0, y1] 25).cell 1, (hbl1.alloc _).cell 0, (hbl1.alloc _).cell 1⟩
          have hg0' : ∃ y, cs[k * 2]? = some y := ⟨_, Array.getElem?_eq_getElem (by omega)⟩
          have hg1' : ∃ y, cs[k * 2 + 1]? = some y := ⟨_, Array.getElem?_eq_getElem (by omega)⟩
          obtain ⟨y0, hy0⟩ := hg0'
          obtain ⟨y1, hy1⟩ := hg1'
          have HY0 := hide hy0
          have HY1 := hide hy1
          clear hG hrow hb hbl1 hbl2 hblO hx hy0 hy1
          by_cases hkz : (k : Int) = z
          · have HKZ := hide hkz
            have hkz' : ((k : Int) == z) = true := by simpa using hkz
            clear hkz
            have HT' : ∀ o', Hid (PV (wr.alloc o').drew X (.slice sa zs.length (pc - 1)) zs) := fun o' => HT.out.later ((HB.out.alloc HB.out.size o').drew)
            have HU' : ∀ o', Hid (TV (wr.alloc o').drew X (.agg #[.string x.name, .slice ax x.args.length cx]) x) := fun o' => HU.out.later ((HB.out.alloc HB.out.size o').drew)
            have hle1 : (1 : Int) ≤ (zs.length : Int) + 1 := by omega
            have hslq : ∀ w' : World, Sem.run Try.prog (Instr.slice 22 (.slice (some ⟨b, o, none⟩) (zs.length + 1) pc) (some (.int .i64 1)) none none) w' = .ok (.slice sa zs.length (pc - 1)) w' := fun w' => by
              rw [slice_tail_run b o zs.length pc hzl2 w', HSA.out]
            go_wp2_with fail
            go_region_held3 (fun w' => w'.cell? ⟨O, 1, none⟩ = some (.slice (some ⟨G, 0, none⟩) l.length l.length) ∧ w'.cell? ⟨wr.heap.size, 0, none⟩ = some (.string l[k].name) ∧ w'.cell? ⟨wr.heap.size, 1, none⟩ = some (.slice a' l[k].args.length c') ∧ w'.cell? ⟨w.heap.size + 1, 0, none⟩ = some (.string x.name) ∧ w'.cell? ⟨w.heap.size + 1, 1, none⟩ = some (.slice ax x.args.length cx)) (first | exact (HS0 _ _).out | exact hS1 | exact held5 hS1 (by simp; omega) (by simp; omega) (by simp; omega) (by simp; omega) (by simp; omega))
              ((go_at_call 28; refine (IH.out _ _ _ _ _ X (by exact (HX.out.alloc _).later (below_drewN (Below.refl _ _) 1)) (by exact (HT' _).out) (by exact (HU' _).out) hszk).mono ?_; rintro e w1 ⟨v1, rfl, ht1, hb1⟩; obtain ⟨a9, c9, rfl, hs9⟩ := ht1; generalize hs9n : (putT x _ l[k]).name = s9; generalize hs9l : (putT x _ l[k]).args.length = n9; have hb1' := alloc_drew_below hb1; have hS1 := later5 (drew_below' hb1) (HS0 _ _).out; have hg0 := (HG.out.below hb1' HG.out.lt).cell (k * 2); have hg1 := (HG.out.below hb1' HG.out.lt).cell (k * 2 + 1); rw [HY0.out] at hg0; rw [HY1.out] at hg1; have hgf := (HG.out.below hb1' HG.out.lt).frozen))
            have HFIN := hide (rep_step HG.out hcs hlt HROW.out HB.out hsz hG3 hG5 (alloc_drew_below hb1) ((show TV w1 _ (.agg #[.string s9, .slice a9 n9 c9]) _ from ⟨a9, c9, by rw [hs9n, hs9l], hs9⟩).mono fun b hb _ => by have hbb : (wr.alloc (.cells #[.string l[k].name, .slice a' l[k].args.length c'] 25)).drew.heap.size ≤ b := hb; simp at hbb; omega))
            clear hS1 hg0 hg1
            go_wp2_with fail
            go_roundw
            case rel =>
              obtain ⟨r1, r2, r3, r4, r5, r6⟩ := HFIN.out
              unfold RepInv
              refine ⟨k + 1, _, by omega, by go_num, r1, r2, ?_, r4, r5 _ _ (by omega) HB1.out, r5 _ _ (by omega) HB2.out, r5 _ _ (by omega) HBO.out, r6⟩
              rw [HPL.out, if_pos HKZ.out]
              exact r3
            case measure => simp [intOf]; omega
          · have hkz' : ((k : Int) == z) = false := by simpa using hkz
            have HKZ := hide hkz
            clear hkz
            go_wp2_with fail
            go_region_held3 (fun w' => w'.cell? ⟨O, 1, none⟩ = some (.slice (some ⟨G, 0, none⟩) l.length l.length) ∧ w'.cell? ⟨wr.heap.size, 0, none⟩ = some (.string l[k].name) ∧ w'.cell? ⟨wr.heap.size, 1, none⟩ = some (.slice a' l[k].args.length c') ∧ w'.cell? ⟨w.heap.size + 1, 0, none⟩ = some (.string x.name) ∧ w'.cell? ⟨w.heap.size + 1, 1, none⟩ = some (.slice ax x.args.length cx)) (first | exact (HS0 _ _).out | exact hS1 | exact held5 hS1 (by simp; omega) (by simp; omega) (by simp; omega) (by simp; omega) (by simp; omega))
              ((go_at_call 27; refine (copyOf_any _ _ _ X (by exact (HX.out.alloc _).later (below_drewN (Below.refl _ _) 1)) hszk).mono ?_; rintro e w1 ⟨v1, rfl, ht1, hb1⟩; obtain ⟨a9, c9, rfl, hs9⟩ := ht1; have hb1' := alloc_drew_below hb1; have hS1 := later5 (drew_below' hb1) (HS0 _ _).out; have hg0 := (HG.out.below hb1' HG.out.lt).cell (k * 2); have hg1 := (HG.out.below hb1' HG.out.lt).cell (k * 2 + 1); rw [HY0.out] at hg0; rw [HY1.out] at hg1; have hgf := (HG.out.below hb1' HG.out.lt).frozen))
            have HFIN := hide (rep_step HG.out hcs hlt HROW.out HB.out hsz hG3 hG5 (alloc_drew_below hb1) ((show TV w1 _ (.agg #[.string l[k].name, .slice a9 l[k].args.length c9]) l[k] from ⟨a9, c9, rfl, hs9⟩).mono fun b hb _ => by have hbb : (wr.alloc (.cells #[.string l[k].name, .slice a' l[k].args.length c'] 25)).drew.heap.size ≤ b := hb; simp at hbb; omega))
            clear hS1 hg0 hg1
            go_wp2_with fail
            go_roundw
            case rel =>
              obtain ⟨r1, r2, r3, r4, r5, r6⟩ := HFIN.out
              unfold RepInv
              refine ⟨k + 1, _, by omega, by go_num, r1, r2, ?_, r4, r5 _ _ (by omega) HB1.out, r5 _ _ (by omega) HB2.out, r5 _ _ (by omega) HBO.out, r6⟩
              rw [HPL.out, if_neg HKZ.out]
              exact r3
            case measure => simp [intOf]; omega
        · have htk : (putL (putT x zs) z 0 l).take k = putL (putT x zs) z 0 l := List.take_of_length_le (by rw [putL_length]; omega)
          have hke : k = l.length := by omega
          have r20 : wr.cell? ⟨w.heap.size + 1 + 1, 0, none⟩ = some (.string ⟨#[]⟩) := hbl2.cell 0
          have r21 : wr.cell? ⟨w.heap.size + 1 + 1, 1, none⟩ = some (.slice none 0 0) := hbl2.cell 1
          have rf := hbl2.frozen
          have q0 : wr.cell? ⟨O, 0, none⟩ = some (.string s) := hblO.cell 0
          have q1 : wr.cell? ⟨O, 1, none⟩ = some (.slice (some ⟨G, 0, none⟩) l.length l.length) := hblO.cell 1
          have h9 : cs.toList.take (k * 2) = cs.toList := List.take_of_length_le (by simp; omega)
          rw [htk, h9] at hrow
          have HROW := hide hrow
          have HG := hide hG
          have HB := hide hb
          clear h9 htk hbl1 hbl2 hblO hrow hb hG
          go_wp2_with fail
          refine bodyPost_ret (v := .agg #[.string s, .slice (some ⟨G, 0, none⟩) l.length l.length]) (by simp [results, Try.results28, go_sem, r20, r21, World.cell?_setCell_same, World.cell?_setCell_other]) rfl ⟨_, rfl, ?_, ?_⟩
          · refine ⟨_, _, by simp [putT, putL_length]; exact ⟨rfl, rfl⟩, ?_⟩
            refine ⟨by simp [putT, putL_length]; omega, Or.inr ⟨G, 0, rfl, ?_⟩⟩
            have hk9 : ∀ b, b ≠ w.heap.size + 1 + 1 → ((wr.setCell ⟨w.heap.size + 1 + 1, 0, none⟩ (.string s)).setCell ⟨w.heap.size + 1 + 1, 1, none⟩ (.slice (some ⟨G, 0, none⟩) l.length l.length)).heap[b]? = wr.heap[b]? := fun b hb => by
              rw [Below.heap_setCell _ _ _ _ (by simpa using hb), Below.heap_setCell _ _ _ _ (by simpa using hb)]
            refine lies_of_rowT G (by omega) _ cs.toList 0 HROW.out (fun a' k' hs' => (hs'.kept fun b hb => hk9 b (by omega)).mono fun b hb _ => by omega) (fun j u hj => ?_)
            rw [World.cell?_of_block (hk9 G (by omega)), Nat.zero_add, HG.out.cell j]
            simpa using hj
          · exact (HB.out.setCell (by simp; omega) _).setCell (by simp; omega) _
#print axioms replace_any
end Go.Proofs.Ytndebgcjhodkfai
