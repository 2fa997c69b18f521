/- Several texts in one. -/
import Derived.Test.YtgppbciofhoigabZUnifyMadeOwn
import Derived.Deep.RegionHeld3
import Derived.Test.YtgppbciofhoigabW6
import Derived.Test.YtgppbciofhoigabBmE
import Derived.Test.YtgppbciofhoigabW9
import Derived.Test.YtgppbciofhoigabW82
import Derived.Test.YtgppbciofhoigabW17
import Derived.Deep.LoopGhost
import Derived.Test.YtgppbciofhoigabW8
import Derived.Test.YtgppbciofhoigabPrr
import Derived.Test.YtgppbciofhoigabBnd
import Derived.Test.YtgppbciofhoigabU3
import Derived.Test.YtgppbciofhoigabW112
import Derived.Test.YtgppbciofhoigabRows
import Derived.Test.YtgppbciofhoigabW7
import Derived.ProofKit
import Derived.Test.YtgppbciofhoigabW28
/- Walks: a term with bindings in it, as the document says. -/
namespace Go.Proofs.Ytgppbciofhoigab
open Go.RowKit
set_option linter.unusedSimpArgs false
set_option linter.unusedVariables false
set_option maxRecDepth 8000

def OnPost (w : World) (X : Nat → Prop) (t : Tm) (e : Ending) (w' : World) : Prop :=
  ∃ a c, e = .returned (.agg #[.string t.name, .slice a t.args.length c]) ∧ Sl w' (fun b => (X b ∧ b < w.heap.size) ∨ w.heap.size ≤ b) a t.args ∧ Below w.heap.size w w'

/-- What is held while a knot's next term is made. -/
def OnS (w : World) (b o : Nat) (s : ByteArray) (a : Option Addr) (n c : Nat) (s1 : ByteArray) (v1 : Value) (w' : World) : Prop :=
  Blk w' w.heap.size #[.string s, .slice a n c] 29 ∧ w'.cell? ⟨b, o, none⟩ = some (.string s1) ∧ w'.cell? ⟨b, o + 1, none⟩ = some v1
theorem cell_same {w w' : World} {b i : Nat} {v : Value} (hb : w'.heap[b]? = w.heap[b]?) (h : w.cell? ⟨b, i, none⟩ = some v) : w'.cell? ⟨b, i, none⟩ = some v := by simpa [World.cell?, hb] using h
theorem OnS.below {w wr w1 : World} {b o n c : Nat} {s s1 : ByteArray} {a : Option Addr} {v1 : Value} (h : OnS w b o s a n c s1 v1 wr) (hb : Below wr.heap.size wr w1) (hlt : w.heap.size < wr.heap.size ∧ b < wr.heap.size) : OnS w b o s a n c s1 v1 w1 :=
  ⟨h.1.below hb hlt.1, cell_same (hb.block b hlt.2) h.2.1, cell_same (hb.block b hlt.2) h.2.2⟩
theorem OnS.alloc {w wr : World} {b o n c : Nat} {s s1 : ByteArray} {a : Option Addr} {v1 : Value} (h : OnS w b o s a n c s1 v1 wr) (x : Obj) : OnS w b o s a n c s1 v1 (wr.alloc x) :=
  ⟨h.1.alloc x, cell_same (Below.heap_alloc _ _ _ (cell_lt h.2.1)) h.2.1, cell_same (Below.heap_alloc _ _ _ (cell_lt h.2.1)) h.2.2⟩
theorem OnS.grown {w wr w3 : World} {b o n c : Nat} {s s1 : ByteArray} {a : Option Addr} {v1 : Value} {row : Option Nat} (h : OnS w b o s a n c s1 v1 wr) (hg : wr.grownBy w3 row) (hne : ∀ j, j ≤ w.heap.size → some j ≠ row) (hb : b < w.heap.size) (_ : True) : OnS w b o s a n c s1 v1 w3 :=
  ⟨h.1.grown hg (hne _ (Nat.le_refl _)), cell_same (hg.block b (cell_lt h.2.1) (hne b (by omega))) h.2.1, cell_same (hg.block b (cell_lt h.2.1) (hne b (by omega))) h.2.2⟩
theorem OnS.set {w wr : World} {b o n c : Nat} {s s1 : ByteArray} {a : Option Addr} {v1 : Value} {O i : Nat} (h : OnS w b o s a n c s1 v1 wr) (v : Value) (_ : True) (hO : w.heap.size ≠ O) (hb : b ≠ O) : OnS w b o s a n c s1 v1 (wr.setCell ⟨O, i, none⟩ v) :=
  ⟨h.1.setOther _ _ hO, cell_same (Below.heap_setCell _ _ _ _ (by simpa using hb)) h.2.1, cell_same (Below.heap_setCell _ _ _ _ (by simpa using hb)) h.2.2⟩
theorem hxb {w : World} {X : Nat → Prop} {b o : Nat} {l : List Tm} (h : Sl w X (some ⟨b, o, none⟩) l) (hl : 0 < l.length) : b < w.heap.size := by
  obtain ⟨_, h⟩ := h
  rcases h with rfl | ⟨b', o', e, h⟩
  · simp at hl
  · simp at e
    obtain ⟨rfl, rfl⟩ := e
    exact cell_lt (lies_get l b o h 0 hl).2.1

/-- What is laid ahead of the rounds. -/
def OnSet (w : World) (Y : Nat → Prop) (O : Nat) (s : ByteArray) (a : Option Addr) (n c : Nat) (u : Value) (L : List Tm) (wr : World) : Prop :=
  ∃ xs, Row wr (O + 1) 29 Y u L xs ∧ Below w.heap.size w wr ∧ Blk wr w.heap.size #[.string s, .slice a n c] 29 ∧ Blk wr (w.heap.size + 1) #[.string ⟨#[]⟩, .slice none 0 0] 29 ∧ Blk wr O #[.string s, u] 29 ∧ O < wr.heap.size
def OnInv (w : World) (Y : Nat → Prop) (O : Nat) (s : ByteArray) (a : Option Addr) (c : Nat) (ls : List Bd) (l : List Tm) (i : Value) (wr : World) : Prop :=
  ∃ (k : Nat) (u : Value), k ≤ l.length ∧ i = .int .i64 (k : Int) ∧ OnSet w Y O s a l.length c u (onL ls (l.take k)) wr

theorem on_step {w wr w1 w3 : World} {Y : Nat → Prop} {O n c : Nat} {u : Value} {L : List Tm} {xs : List Value} {o2 : Obj} {s s' : ByteArray} {a a1 : Option Addr} {n1 c1 g cap : Nat} {t : Tm} (hO : w.heap.size + 2 ≤ O) (hY : ∀ b, Y b → b < w.heap.size)
    (hrow : Row wr (O + 1) 29 Y u L xs) (hx : Below w.heap.size w wr) (hT : Blk wr w.heap.size #[.string s, .slice a n c] 29) (hR : Blk wr (w.heap.size + 1) #[.string ⟨#[]⟩, .slice none 0 0] 29) (hOb : Blk wr O #[.string s, u] 29)
    (he1 : Below wr.heap.size wr w1) (ht : TV w1 (fun b => Y b ∨ wr.heap.size ≤ b) (.agg #[.string s', .slice a1 n1 c1]) t)
    (hown : w3.ownsRow (O + 1) 29 2 (.slice (some ⟨g, 0, none⟩) (L.length + 1) cap) (L.length + 1) (xs ++ [.string s', .slice a1 n1 c1])) (hg : (w1.alloc o2).grownBy w3 u.ownBlock) (hat : u.ownBlock = some g ∨ g = (w1.alloc o2).heap.size) :
    OnSet w Y O s a n c (.slice (some ⟨g, 0, none⟩) (L.length + 1) cap) (L ++ [t]) (w3.setCell ⟨O, 1, none⟩ (.slice (some ⟨g, 0, none⟩) (L.length + 1) cap)) := by
  have hlt' := hrow.own.lt
  have hOl := hOb.lt
  have hp := hrow.push (w1 := w1) (w2 := w1.alloc o2) (w3 := w3) (by omega) (fun b h => by have := hY b h; omega) he1 ht o2 rfl hown hg hat
  have hne : ∀ b, b < O + 1 → some b ≠ u.ownBlock := fun b hb e => by have := (hlt' b e.symm).1; omega
  have hs1 := he1.size
  have hsx := hx.size
  have hx3 : Below w.heap.size w w3 := ((hx.trans (he1.mono (by omega))).alloc (by omega) o2).grown hg (by simp; omega) (fun k hk => by have := (hlt' k hk).1; omega)
  have hs3 := hg.size
  simp at hs3
  refine ⟨_, hp.setCell (by omega) (fun h => by have := hY _ h; omega) _, hx3.setCell (p := ⟨O, 1, none⟩) (by simp; omega) _, ?_, ?_, ?_, by simp [World.setCell]; omega⟩
  · exact (((hT.below he1 (by omega)).alloc o2).grown hg (hne _ (by omega))).setOther _ _ (by omega)
  · exact (((hR.below he1 (by omega)).alloc o2).grown hg (hne _ (by omega))).setOther _ _ (by omega)
  · exact (((hOb.below he1 (by omega)).alloc o2).grown hg (hne _ (by omega))).set 1 _

set_option maxHeartbeats 2000000 in
theorem on_any (ls : List Bd) (t : Tm) : ∀ (u v : Value) (w : World) (X : Nat → Prop), BV w X u ls → TV w X v t → sizeL [t] ≤ 1000000 →
    Calls Try.prog 53 #[u, v] w fun e w' => OnPost w X (onT ls t) e w' := by
  induction t using Tm.ind with
  | h s l ih =>
    intro u v w X hu hv hsm
    obtain ⟨a, c, rfl, hs⟩ := hv
    have IH := hide ih
    have HU := hide hu
    have HS := hide hs
    have hl := hs.1
    have hz : sizeL [(⟨s, l⟩ : Tm)] = 1 + sizeL l := by simp [sizeL]
    rw [hz] at hsm
    have hlen := sizeL_len l
    clear ih hu hs hz
    obtain ⟨i0, hi0, hz0, hz1, hz2⟩ := info_parts Try.infoTerm
    go_enter Try.func53, Try.ntmps53
    go_wp2_with fail
    refine (for_any ls s u _ (fun b => X b ∧ b < w.heap.size) (by exact ((HU.out.mono fun b h1 h2 => ⟨h1, h2⟩).alloc _).alloc _)).mono ?_
    rintro e w1 ⟨hb1, hcase⟩
    have T1 := hide (((Blk.new w #[.string s, .slice a l.length c] 29).alloc (.cells #[.string ⟨#[]⟩, .slice none 0 0] 29)).below hb1 (by simp; omega))
    have R1 : Hid (Blk w1 (w.heap.size + 1) #[.string ⟨#[]⟩, .slice none 0 0] 29) := by
      have h := (Blk.new (w.alloc (.cells #[.string s, .slice a l.length c] 29)) #[.string ⟨#[]⟩, .slice none 0 0] 29).below hb1 (by simp)
      unfold Hid
      simpa using h
    have B1 := hide ((((Below.refl w.heap.size w).alloc (Nat.le_refl _) (.cells #[.string s, .slice a l.length c] 29)).alloc (by simp) (.cells #[.string ⟨#[]⟩, .slice none 0 0] 29)).trans (hb1.mono (by simp; omega)))
    have hlt1 : w.heap.size < w1.heap.size := T1.out.lt
    have hlt1' : w.heap.size + 1 < w1.heap.size := R1.out.lt
    clear hb1
    have t0 : ∀ o, (w1.alloc o).cell? ⟨w.heap.size, 0, none⟩ = some (.string s) := fun o => (T1.out.alloc o).cell 0
    have t1 : ∀ o, (w1.alloc o).cell? ⟨w.heap.size, 1, none⟩ = some (.slice a l.length c) := fun o => (T1.out.alloc o).cell 1
    rcases hcase with ⟨x, ax, cx, hf, rfl, hsx⟩ | ⟨hf, rfl⟩
    · by_cases hl0 : l = []
      · subst hl0
        have HF := hide (onT_some hf)
        have SX := hide hsx
        clear hf hsx
        have r0 : w1.cell? ⟨w.heap.size + 1, 0, none⟩ = some (.string ⟨#[]⟩) := R1.out.cell 0
        have r1 : w1.cell? ⟨w.heap.size + 1, 1, none⟩ = some (.slice none 0 0) := R1.out.cell 1
        have rf := R1.out.frozen
        go_wp2_with fail
        refine bodyPost_ret (v := .agg #[.string x.name, .slice ax x.args.length cx]) (by simp [results, Try.results53, go_sem, World.cell?_setCell_same, World.cell?_setCell_other, r0, r1, hlt1', World.cell?_alloc_old]) rfl ?_
        rw [HF.out]
        refine ⟨ax, cx, rfl, ?_, ((B1.out.setCell (by simp) _).setCell (by simp) _).alloc (by have := B1.out.size; simpa [World.setCell] using this) _⟩
        refine ((SX.out.mono (Y := fun b => X b ∧ b < w.heap.size) fun b h1 _ => h1.1).kept fun b hb => ?_).mono fun b hb _ => Or.inl hb
        rw [Below.heap_alloc _ _ _ (by simp [World.setCell]; omega), Below.heap_setCell _ _ _ _ (by simp; omega), Below.heap_setCell _ _ _ _ (by simp; omega)]
      · have HD : Hid (onT ls ⟨s, l⟩ = ⟨s, onL ls l⟩) := onT_deep (Or.inl hl0)
        have hlp : ((l.length : Int) == 0) = false := beq_eq_false_iff_ne.2 (by have := List.length_pos_iff.2 hl0; omega)
        clear hf hsx
        go_wp2_with fail
        have T3 := hide ((T1.out.alloc (.cells #[.string x.name, .slice ax x.args.length cx] 29)).alloc (.cells #[.string s, .slice none 0 0] 29))
        have R3 := hide ((R1.out.alloc (.cells #[.string x.name, .slice ax x.args.length cx] 29)).alloc (.cells #[.string s, .slice none 0 0] 29))
        have O3 := hide (Blk.new (w1.alloc (.cells #[.string x.name, .slice ax x.args.length cx] 29)) #[.string s, .slice none 0 0] 29)
        have B3 := hide ((B1.out.alloc B1.out.size (.cells #[.string x.name, .slice ax x.args.length cx] 29)).alloc (by have := B1.out.size; simp; omega) (.cells #[.string s, .slice none 0 0] 29))
        have HO3 := hide (O3.out.lt)
        have hO : w.heap.size + 2 ≤ (w1.alloc (.cells #[.string x.name, .slice ax x.args.length cx] 29)).heap.size := by have := R1.out.lt; simp; omega
        have eO : (w1.alloc (.cells #[.string x.name, .slice ax x.args.length cx] 29)).heap.size = w1.heap.size + 1 := by simp
        rw [eO] at O3 HO3 hO
        clear eO
        generalize (w1.alloc (.cells #[.string x.name, .slice ax x.args.length cx] 29)).alloc (.cells #[.string s, .slice none 0 0] 29) = w3 at *
        generalize w1.heap.size + 1 = O at *
        clear t0 t1
        have hY : ∀ b, (X b ∧ b < w.heap.size) → b < w.heap.size := fun b h => h.2
        go_loopw [8] (fun i wr => OnInv w (fun b => X b ∧ b < w.heap.size) O s a c ls l i wr) (fun i wr => l.length - (intOf i).toNat)
        case atStart => exact ⟨0, .slice none 0 0, Nat.zero_le _, rfl, [], by have h := Row.start w3 (O + 1) 29 (fun b => X b ∧ b < w.heap.size); simpa [onL] using h, B3.out, T3.out, R3.out, O3.out, HO3.out⟩
        case round =>
          obtain ⟨k, u9, hk, rfl, xs, hrow, hbb, hT, hR, hOb, hOl⟩ := hrel
          have XW := hide hrow
          have XE := hide hbb
          have XT := hide hT
          have XR := hide hR
          have XO := hide hOb
          clear hrow hbb hT hR hOb
          have c0 : wr.cell? ⟨w.heap.size, 0, none⟩ = some (.string s) := XT.out.cell 0
          have c1 : wr.cell? ⟨w.heap.size, 1, none⟩ = some (.slice a l.length c) := XT.out.cell 1
          have o0 : wr.cell? ⟨O, 0, none⟩ = some (.string s) := XO.out.cell 0
          have o1 : wr.cell? ⟨O, 1, none⟩ = some u9 := XO.out.cell 1
          by_cases hlt : k < l.length
          · obtain ⟨b, o, a', c', rfl, d0, d1, hx⟩ := (HS.out.mono (Y := fun b => X b ∧ b < w.heap.size) fun b h1 h2 => ⟨h1, h2⟩).get XE.out (fun b h _ => h.2) k hlt
            have HX := hide hx
            have hXb : b < w.heap.size := hxb HS.out (Nat.lt_of_le_of_lt (Nat.zero_le k) hlt)
            have hszk : sizeL [l[k]] ≤ 1000000 := by
              have := sizeL_take l k hlt
              have := sizeL_take_le l (k + 1)
              omega
            have hOL : (onL ls (l.take k)).length = k := by rw [onL_length]; simp; omega
            have IHQ : Hid (Calls Try.prog 53 #[u, .agg #[.string l[k].name, .slice a' l[k].args.length c']] wr.drew fun e w'' => ∃ a1 c1, e = .returned (.agg #[.string (onT ls l[k]).name, .slice a1 (onT ls l[k]).args.length c1]) ∧ Sl w'' (fun b => (X b ∧ b < w.heap.size) ∨ wr.heap.size ≤ b) a1 (onT ls l[k]).args ∧ Below wr.heap.size wr w'') := (IH.out l[k] (List.getElem_mem hlt) u _ wr.drew (fun b => X b ∧ b < w.heap.size) ((HU.out.mono fun b h1 h2 => ⟨h1, h2⟩).later (XE.out.drew)) (HX.out.later ((Below.refl wr.heap.size wr).drew)) hszk).mono fun e w'' hp => by
              obtain ⟨a1, c1, h1, h2, h3⟩ := hp
              exact ⟨a1, c1, h1, h2.mono (fun b hb _ => hb.imp (fun h => h.1) id), ((Below.refl wr.heap.size wr).drew).trans h3⟩
            have HN1 : Hid (∀ a1 c1, ∀ x ∈ [Value.string (onT ls l[k]).name, Value.slice a1 (onT ls l[k]).args.length c1], x.oneCell' = true) := fun a1 c1 x hx => by simp at hx; rcases hx with rfl | rfl <;> rfl
            have HL1 : Hid ((onL ls (l.take k)).length + 1 ≤ maxLen ∧ ((onL ls (l.take k)).length + 1) * 40 ≤ 140737488355328) := ⟨by rw [hOL]; unfold maxLen; omega, by rw [hOL]; omega⟩
            clear hOL
            have HBW : Hid (w.heap.size < wr.heap.size ∧ b < wr.heap.size) := ⟨XT.out.lt, by have := XT.out.lt; omega⟩
            have HS8 : Hid (OnS w b (o + k * 2) s (some ⟨b, o, none⟩) l.length c l[k].name (.slice a' l[k].args.length c') wr) := ⟨XT.out, d0, d1⟩
            go_wp2_with fail
            refine wp_region_held_drew (S := OnS w b (o + k * 2) s (some ⟨b, o, none⟩) l.length c l[k].name (.slice a' l[k].args.length c')) (by kernel_rfl) (by exact HS8.out) (fun hHeld => ?_)
            refine wpAnyH_take (i := 0) (v := ?_) rfl (by kernel_rfl) (by kernel_rfl) (by kernel_rfl) (fun _ _ _ h => h) (Or.inl ⟨by rfl, ?_⟩) (by assumption) ?_
            rotate_left
            · intro w' hSw
              go_simp <;> with_reducible rfl
            try simp only [Act.put, List.setIfInBounds_toArray, List.set_cons_zero, List.set_cons_succ, List.getElem_toArray, List.getElem_cons_succ, List.getElem_cons_zero]
            refine wpAnyH_take (i := 2) (v := ?_) rfl (by kernel_rfl) (by kernel_rfl) (by kernel_rfl) (fun _ _ _ h => h) (Or.inl ⟨by rfl, ?_⟩) (by assumption) ?_
            rotate_left
            · intro w' hSw
              go_simp <;> with_reducible rfl
            try simp only [Act.put, List.setIfInBounds_toArray, List.set_cons_zero, List.set_cons_succ, List.getElem_toArray, List.getElem_cons_succ, List.getElem_cons_zero]
            refine wpAnyH_take (i := 3) (v := ?_) rfl (by kernel_rfl) (by kernel_rfl) (by kernel_rfl) (fun _ _ _ h => h) (Or.inl ⟨by rfl, ?_⟩) (by assumption) ?_
            rotate_left
            · intro w' hSw
              go_simp <;> with_reducible rfl
            try simp only [Act.put, List.setIfInBounds_toArray, List.set_cons_zero, List.set_cons_succ, List.getElem_toArray, List.getElem_cons_succ, List.getElem_cons_zero]
            refine wpAnyH_take (i := 5) (v := ?_) rfl (by kernel_rfl) (by kernel_rfl) (by kernel_rfl) (fun _ _ _ h => h) (Or.inl ⟨by rfl, ?_⟩) (by assumption) ?_
            rotate_left
            · intro w' hSw
              go_simp <;> with_reducible rfl
            try simp only [Act.put, List.setIfInBounds_toArray, List.set_cons_zero, List.set_cons_succ, List.getElem_toArray, List.getElem_cons_succ, List.getElem_cons_zero]
            refine wpAnyH_take (i := 4) (v := ?_) rfl (by kernel_rfl) (by kernel_rfl) (by kernel_rfl) (fun _ _ _ h => h) (Or.inl ⟨by rfl, ?_⟩) (by assumption) ?_
            rotate_left
            · intro w' hSw
              have k1 : w'.cell? ⟨w.heap.size, 1, none⟩ = some (.slice (some ⟨b, o, none⟩) l.length c) := hSw.1.cell 1
              go_simp <;> with_reducible rfl
            try simp only [Act.put, List.setIfInBounds_toArray, List.set_cons_zero, List.set_cons_succ, List.getElem_toArray, List.getElem_cons_succ, List.getElem_cons_zero]
            refine wpAnyH_take (i := 6) (v := ?_) rfl (by kernel_rfl) (by kernel_rfl) (by kernel_rfl) (fun _ _ _ h => h) (Or.inl ⟨by rfl, ?_⟩) (by assumption) ?_
            rotate_left
            · intro w' hSw
              go_simp <;> with_reducible rfl
            try simp only [Act.put, List.setIfInBounds_toArray, List.set_cons_zero, List.set_cons_succ, List.getElem_toArray, List.getElem_cons_succ, List.getElem_cons_zero]
            refine wpAnyH_take (i := 7) (v := ?_) rfl (by kernel_rfl) (by kernel_rfl) (by kernel_rfl) (fun _ _ _ h => h) (Or.inl ⟨by rfl, ?_⟩) (by assumption) ?_
            rotate_left
            · intro w' hSw
              have k2 := hSw.2.1
              have k3 := hSw.2.2
              go_simp <;> with_reducible rfl
            try simp only [Act.put, List.setIfInBounds_toArray, List.set_cons_zero, List.set_cons_succ, List.getElem_toArray, List.getElem_cons_succ, List.getElem_cons_zero]
            refine wpAnyH_ready (rs := [1, 8]) (by kernel_rfl) (by simp) ?_
            refine AllReadyH.cons rfl (fun K hK => ?_) (AllReadyH.cons rfl (fun K hK => ?_) AllReadyH.nil)
            · go_simp
              refine hK.out _ _ (by exact hHeld) (fun hHeld => ?_)
              clear hK K
              try simp only [Act.put, List.setIfInBounds_toArray, List.set_cons_zero, List.set_cons_succ, List.getElem_toArray, List.getElem_cons_succ, List.getElem_cons_zero]
              refine wpAnyH_ready (rs := [8]) (by kernel_rfl) (by simp) ?_
              refine AllReadyH.cons rfl (fun K hK => ?_) AllReadyH.nil
              · go_simp
                go_at_call 53
                refine IHQ.out.mono ?_
                rintro e w1 ⟨a1, c1, rfl, hs1, hb1⟩
                have hc3 : ∀ o, (w1.alloc o).cell? ⟨O, 1, none⟩ = some u9 := fun o => ((XO.out.below hb1 hOl).alloc o).cell 1
                have hc4 : w1.cell? ⟨O, 1, none⟩ = some u9 := (XO.out.below hb1 hOl).cell 1
                go_simp
                refine hK.out _ _ (by exact OnS.below HS8.out hb1 HBW.out) (fun hHeld => ?_)
                clear hK K
                try simp only [Act.put, List.setIfInBounds_toArray, List.set_cons_zero, List.set_cons_succ, List.getElem_toArray, List.getElem_cons_succ, List.getElem_cons_zero]
                refine wpAnyH_ready (rs := [9]) (by kernel_rfl) (by simp) ?_
                refine AllReadyH.cons rfl (fun K hK => ?_) AllReadyH.nil
                · go_simp
                  refine hK.out _ _ (by exact hHeld.alloc _) (fun hHeld => ?_)
                  clear hK K
                  try simp only [Act.put, List.setIfInBounds_toArray, List.set_cons_zero, List.set_cons_succ, List.getElem_toArray, List.getElem_cons_succ, List.getElem_cons_zero]
                  refine wpAnyH_ready (rs := [10]) (by kernel_rfl) (by simp) ?_
                  refine AllReadyH.cons rfl (fun K hK => ?_) AllReadyH.nil
                  · refine step_append_lies _ rfl _ _ 27 rfl (O + 1) 29 i0 _ 2 40 Try.underlying27 hi0 hz0 hz1 hz2 rfl (by decide) u9 (onL ls (l.take k)).length xs rfl (by exact (XW.out.below hb1).own.alloc _) ⟨w1.heap.size, 0, none⟩ 1 1 [.string (onT ls l[k]).name, .slice a1 (onT ls l[k]).args.length c1] rfl rfl (cell_two_new _ _ _ _) (HN1.out a1 c1) (by decide) HL1.out.1 HL1.out.2 (by have := hb1.size; simp; omega) _ rfl ?_
                    intro g cap w3 hown3 hgrow3 hat3 hlt3
                    have hB3 := hide (((XO.out.below hb1 hOl).alloc _).grown hgrow3 (XW.out.ne (Nat.lt_succ_self _)))
                    have hc5 : w3.cell? ⟨O, 1, none⟩ = some u9 := hB3.out.cell 1
                    have hf5 := hB3.out.frozen 1
                    have HFIN := hide (on_step (c := c) (n := l.length) (a := some ⟨b, o, none⟩) hO hY XW.out XE.out XT.out XR.out XO.out hb1 ⟨a1, c1, rfl, hs1⟩ hown3 hgrow3 hat3)
                    refine hK.out _ _ (by exact OnS.grown hHeld hgrow3 (fun j hj => XW.out.ne (by omega)) hXb trivial) (fun hHeld => ?_)
                    clear hK K
                    try simp only [Act.put, List.setIfInBounds_toArray, List.set_cons_zero, List.set_cons_succ, List.getElem_toArray, List.getElem_cons_succ, List.getElem_cons_zero]
                    refine wpAnyH_take (i := 11) (v := ?_) rfl (by kernel_rfl) (by kernel_rfl) (by kernel_rfl) (fun _ _ _ h => h) (Or.inl ⟨by rfl, ?_⟩) (by assumption) ?_
                    rotate_left
                    · intro w' hSw
                      go_simp <;> with_reducible rfl
                    try simp only [Act.put, List.setIfInBounds_toArray, List.set_cons_zero, List.set_cons_succ, List.getElem_toArray, List.getElem_cons_succ, List.getElem_cons_zero]
                    refine wpAnyH_ready (rs := [12]) (by kernel_rfl) (by simp) ?_
                    refine AllReadyH.cons rfl (fun K hK => ?_) AllReadyH.nil
                    · go_simp
                      refine hK.out _ _ (by exact OnS.set hHeld _ trivial (by omega) (by omega)) (fun hHeld => ?_)
                      clear hK K
                      try simp only [Act.put, List.setIfInBounds_toArray, List.set_cons_zero, List.set_cons_succ, List.getElem_toArray, List.getElem_cons_succ, List.getElem_cons_zero]
                      refine wpAnyH_done (by kernel_rfl) ?_ _
                      clear hc3 hc4 hc5 hf5 hown3 hgrow3 hat3 hlt3 hB3 hHeld
                      go_wp2_with fail
                      go_roundw
                      case rel =>
                        refine ⟨k + 1, .slice (some ⟨g, 0, none⟩) ((onL ls (l.take k)).length + 1) cap, by omega, by go_num, ?_⟩
                        rw [onL_take ls l k hlt]
                        exact HFIN.out
                      case measure => simp [intOf]; omega
            · go_simp
              go_at_call 53
              refine IHQ.out.mono ?_
              rintro e w1 ⟨a1, c1, rfl, hs1, hb1⟩
              have hc3 : ∀ o, (w1.alloc o).cell? ⟨O, 1, none⟩ = some u9 := fun o => ((XO.out.below hb1 hOl).alloc o).cell 1
              have hc4 : w1.cell? ⟨O, 1, none⟩ = some u9 := (XO.out.below hb1 hOl).cell 1
              go_simp
              refine hK.out _ _ (by exact OnS.below HS8.out hb1 HBW.out) (fun hHeld => ?_)
              clear hK K
              try simp only [Act.put, List.setIfInBounds_toArray, List.set_cons_zero, List.set_cons_succ, List.getElem_toArray, List.getElem_cons_succ, List.getElem_cons_zero]
              refine wpAnyH_ready (rs := [1, 9]) (by kernel_rfl) (by simp) ?_
              refine AllReadyH.cons rfl (fun K hK => ?_) (AllReadyH.cons rfl (fun K hK => ?_) AllReadyH.nil)
              · go_simp
                refine hK.out _ _ (by exact hHeld) (fun hHeld => ?_)
                clear hK K
                try simp only [Act.put, List.setIfInBounds_toArray, List.set_cons_zero, List.set_cons_succ, List.getElem_toArray, List.getElem_cons_succ, List.getElem_cons_zero]
                refine wpAnyH_ready (rs := [9]) (by kernel_rfl) (by simp) ?_
                refine AllReadyH.cons rfl (fun K hK => ?_) AllReadyH.nil
                · go_simp
                  refine hK.out _ _ (by exact hHeld.alloc _) (fun hHeld => ?_)
                  clear hK K
                  try simp only [Act.put, List.setIfInBounds_toArray, List.set_cons_zero, List.set_cons_succ, List.getElem_toArray, List.getElem_cons_succ, List.getElem_cons_zero]
                  refine wpAnyH_ready (rs := [10]) (by kernel_rfl) (by simp) ?_
                  refine AllReadyH.cons rfl (fun K hK => ?_) AllReadyH.nil
                  · refine step_append_lies _ rfl _ _ 27 rfl (O + 1) 29 i0 _ 2 40 Try.underlying27 hi0 hz0 hz1 hz2 rfl (by decide) u9 (onL ls (l.take k)).length xs rfl (by exact (XW.out.below hb1).own.alloc _) ⟨w1.heap.size, 0, none⟩ 1 1 [.string (onT ls l[k]).name, .slice a1 (onT ls l[k]).args.length c1] rfl rfl (cell_two_new _ _ _ _) (HN1.out a1 c1) (by decide) HL1.out.1 HL1.out.2 (by have := hb1.size; simp; omega) _ rfl ?_
                    intro g cap w3 hown3 hgrow3 hat3 hlt3
                    have hB3 := hide (((XO.out.below hb1 hOl).alloc _).grown hgrow3 (XW.out.ne (Nat.lt_succ_self _)))
                    have hc5 : w3.cell? ⟨O, 1, none⟩ = some u9 := hB3.out.cell 1
                    have hf5 := hB3.out.frozen 1
                    have HFIN := hide (on_step (c := c) (n := l.length) (a := some ⟨b, o, none⟩) hO hY XW.out XE.out XT.out XR.out XO.out hb1 ⟨a1, c1, rfl, hs1⟩ hown3 hgrow3 hat3)
                    refine hK.out _ _ (by exact OnS.grown hHeld hgrow3 (fun j hj => XW.out.ne (by omega)) hXb trivial) (fun hHeld => ?_)
                    clear hK K
                    try simp only [Act.put, List.setIfInBounds_toArray, List.set_cons_zero, List.set_cons_succ, List.getElem_toArray, List.getElem_cons_succ, List.getElem_cons_zero]
                    refine wpAnyH_take (i := 11) (v := ?_) rfl (by kernel_rfl) (by kernel_rfl) (by kernel_rfl) (fun _ _ _ h => h) (Or.inl ⟨by rfl, ?_⟩) (by assumption) ?_
                    rotate_left
                    · intro w' hSw
                      go_simp <;> with_reducible rfl
                    try simp only [Act.put, List.setIfInBounds_toArray, List.set_cons_zero, List.set_cons_succ, List.getElem_toArray, List.getElem_cons_succ, List.getElem_cons_zero]
                    refine wpAnyH_ready (rs := [12]) (by kernel_rfl) (by simp) ?_
                    refine AllReadyH.cons rfl (fun K hK => ?_) AllReadyH.nil
                    · go_simp
                      refine hK.out _ _ (by exact OnS.set hHeld _ trivial (by omega) (by omega)) (fun hHeld => ?_)
                      clear hK K
                      try simp only [Act.put, List.setIfInBounds_toArray, List.set_cons_zero, List.set_cons_succ, List.getElem_toArray, List.getElem_cons_succ, List.getElem_cons_zero]
                      refine wpAnyH_done (by kernel_rfl) ?_ _
                      clear hc3 hc4 hc5 hf5 hown3 hgrow3 hat3 hlt3 hB3 hHeld
                      go_wp2_with fail
                      go_roundw
                      case rel =>
                        refine ⟨k + 1, .slice (some ⟨g, 0, none⟩) ((onL ls (l.take k)).length + 1) cap, by omega, by go_num, ?_⟩
                        rw [onL_take ls l k hlt]
                        exact HFIN.out
                      case measure => simp [intOf]; omega
              · go_simp
                refine hK.out _ _ (by exact hHeld.alloc _) (fun hHeld => ?_)
                clear hK K
                try simp only [Act.put, List.setIfInBounds_toArray, List.set_cons_zero, List.set_cons_succ, List.getElem_toArray, List.getElem_cons_succ, List.getElem_cons_zero]
                refine wpAnyH_ready (rs := [1]) (by kernel_rfl) (by simp) ?_
                refine AllReadyH.cons rfl (fun K hK => ?_) AllReadyH.nil
                · go_simp
                  refine hK.out _ _ (by exact hHeld) (fun hHeld => ?_)
                  clear hK K
                  try simp only [Act.put, List.setIfInBounds_toArray, List.set_cons_zero, List.set_cons_succ, List.getElem_toArray, List.getElem_cons_succ, List.getElem_cons_zero]
                  refine wpAnyH_ready (rs := [10]) (by kernel_rfl) (by simp) ?_
                  refine AllReadyH.cons rfl (fun K hK => ?_) AllReadyH.nil
                  · refine step_append_lies _ rfl _ _ 27 rfl (O + 1) 29 i0 _ 2 40 Try.underlying27 hi0 hz0 hz1 hz2 rfl (by decide) u9 (onL ls (l.take k)).length xs rfl (by exact (XW.out.below hb1).own.alloc _) ⟨w1.heap.size, 0, none⟩ 1 1 [.string (onT ls l[k]).name, .slice a1 (onT ls l[k]).args.length c1] rfl rfl (cell_two_new _ _ _ _) (HN1.out a1 c1) (by decide) HL1.out.1 HL1.out.2 (by have := hb1.size; simp; omega) _ rfl ?_
                    intro g cap w3 hown3 hgrow3 hat3 hlt3
                    have hB3 := hide (((XO.out.below hb1 hOl).alloc _).grown hgrow3 (XW.out.ne (Nat.lt_succ_self _)))
                    have hc5 : w3.cell? ⟨O, 1, none⟩ = some u9 := hB3.out.cell 1
                    have hf5 := hB3.out.frozen 1
                    have HFIN := hide (on_step (c := c) (n := l.length) (a := some ⟨b, o, none⟩) hO hY XW.out XE.out XT.out XR.out XO.out hb1 ⟨a1, c1, rfl, hs1⟩ hown3 hgrow3 hat3)
                    refine hK.out _ _ (by exact OnS.grown hHeld hgrow3 (fun j hj => XW.out.ne (by omega)) hXb trivial) (fun hHeld => ?_)
                    clear hK K
                    try simp only [Act.put, List.setIfInBounds_toArray, List.set_cons_zero, List.set_cons_succ, List.getElem_toArray, List.getElem_cons_succ, List.getElem_cons_zero]
                    refine wpAnyH_take (i := 11) (v := ?_) rfl (by kernel_rfl) (by kernel_rfl) (by kernel_rfl) (fun _ _ _ h => h) (Or.inl ⟨by rfl, ?_⟩) (by assumption) ?_
                    rotate_left
                    · intro w' hSw
                      go_simp <;> with_reducible rfl
                    try simp only [Act.put, List.setIfInBounds_toArray, List.set_cons_zero, List.set_cons_succ, List.getElem_toArray, List.getElem_cons_succ, List.getElem_cons_zero]
                    refine wpAnyH_ready (rs := [12]) (by kernel_rfl) (by simp) ?_
                    refine AllReadyH.cons rfl (fun K hK => ?_) AllReadyH.nil
                    · go_simp
                      refine hK.out _ _ (by exact OnS.set hHeld _ trivial (by omega) (by omega)) (fun hHeld => ?_)
                      clear hK K
                      try simp only [Act.put, List.setIfInBounds_toArray, List.set_cons_zero, List.set_cons_succ, List.getElem_toArray, List.getElem_cons_succ, List.getElem_cons_zero]
                      refine wpAnyH_done (by kernel_rfl) ?_ _
                      clear hc3 hc4 hc5 hf5 hown3 hgrow3 hat3 hlt3 hB3 hHeld
                      go_wp2_with fail
                      go_roundw
                      case rel =>
                        refine ⟨k + 1, .slice (some ⟨g, 0, none⟩) ((onL ls (l.take k)).length + 1) cap, by omega, by go_num, ?_⟩
                        rw [onL_take ls l k hlt]
                        exact HFIN.out
                      case measure => simp [intOf]; omega
          · have htk : l.take k = l := List.take_of_length_le (by omega)
            rw [htk] at XW
            obtain ⟨a9, c9, hu9, hsl9⟩ := XW.out.sl
            subst hu9
            have S9 := hide hsl9
            have r0 : wr.cell? ⟨w.heap.size + 1, 0, none⟩ = some (.string ⟨#[]⟩) := XR.out.cell 0
            have r1 : wr.cell? ⟨w.heap.size + 1, 1, none⟩ = some (.slice none 0 0) := XR.out.cell 1
            have rf := XR.out.frozen
            clear hsl9 htk
            go_wp2_with fail
            refine bodyPost_ret (v := .agg #[.string s, .slice a9 (onL ls l).length c9]) (by simp [results, Try.results53, go_sem, World.cell?_setCell_same, World.cell?_setCell_other, r0, r1]) rfl ?_
            rw [HD.out]
            refine ⟨a9, c9, rfl, (S9.out.kept fun b hb => ?_).mono fun b hb _ => hb.imp id (fun h => by omega), (XE.out.setCell (by simp) _).setCell (by simp) _⟩
            have hbne : b ≠ w.heap.size + 1 := by
              rcases hb with h | h
              · have := h.2; omega
              · omega
            rw [Below.heap_setCell _ _ _ _ (by simpa using hbne), Below.heap_setCell _ _ _ _ (by simpa using hbne)]
    · have HD : Hid (onT ls ⟨s, l⟩ = ⟨s, onL ls l⟩) := onT_deep (Or.inr hf)
      clear hf
      go_wp2_with fail
      have T3 := hide ((T1.out.alloc (.cells #[.string ⟨#[]⟩, .slice none 0 0] 29)).alloc (.cells #[.string s, .slice none 0 0] 29))
      have R3 := hide ((R1.out.alloc (.cells #[.string ⟨#[]⟩, .slice none 0 0] 29)).alloc (.cells #[.string s, .slice none 0 0] 29))
      have O3 := hide (Blk.new (w1.alloc (.cells #[.string ⟨#[]⟩, .slice none 0 0] 29)) #[.string s, .slice none 0 0] 29)
      have B3 := hide ((B1.out.alloc B1.out.size (.cells #[.string ⟨#[]⟩, .slice none 0 0] 29)).alloc (by have := B1.out.size; simp; omega) (.cells #[.string s, .slice none 0 0] 29))
      have HO3 := hide (O3.out.lt)
      have hO : w.heap.size + 2 ≤ (w1.alloc (.cells #[.string ⟨#[]⟩, .slice none 0 0] 29)).heap.size := by have := R1.out.lt; simp; omega
      have eO : (w1.alloc (.cells #[.string ⟨#[]⟩, .slice none 0 0] 29)).heap.size = w1.heap.size + 1 := by simp
      rw [eO] at O3 HO3 hO
      clear eO
      generalize (w1.alloc (.cells #[.string ⟨#[]⟩, .slice none 0 0] 29)).alloc (.cells #[.string s, .slice none 0 0] 29) = w3 at *
      generalize w1.heap.size + 1 = O at *
      clear t0 t1
      have hY : ∀ b, (X b ∧ b < w.heap.size) → b < w.heap.size := fun b h => h.2
      go_loopw [8] (fun i wr => OnInv w (fun b => X b ∧ b < w.heap.size) O s a c ls l i wr) (fun i wr => l.length - (intOf i).toNat)
      case atStart => exact ⟨0, .slice none 0 0, Nat.zero_le _, rfl, [], by have h := Row.start w3 (O + 1) 29 (fun b => X b ∧ b < w.heap.size); simpa [onL] using h, B3.out, T3.out, R3.out, O3.out, HO3.out⟩
      case round =>
        obtain ⟨k, u9, hk, rfl, xs, hrow, hbb, hT, hR, hOb, hOl⟩ := hrel
        have XW := hide hrow
        have XE := hide hbb
        have XT := hide hT
        have XR := hide hR
        have XO := hide hOb
        clear hrow hbb hT hR hOb
        have c0 : wr.cell? ⟨w.heap.size, 0, none⟩ = some (.string s) := XT.out.cell 0
        have c1 : wr.cell? ⟨w.heap.size, 1, none⟩ = some (.slice a l.length c) := XT.out.cell 1
        have o0 : wr.cell? ⟨O, 0, none⟩ = some (.string s) := XO.out.cell 0
        have o1 : wr.cell? ⟨O, 1, none⟩ = some u9 := XO.out.cell 1
        by_cases hlt : k < l.length
        · obtain ⟨b, o, a', c', rfl, d0, d1, hx⟩ := (HS.out.mono (Y := fun b => X b ∧ b < w.heap.size) fun b h1 h2 => ⟨h1, h2⟩).get XE.out (fun b h _ => h.2) k hlt
          have HX := hide hx
          have hXb : b < w.heap.size := hxb HS.out (Nat.lt_of_le_of_lt (Nat.zero_le k) hlt)
          have hszk : sizeL [l[k]] ≤ 1000000 := by
            have := sizeL_take l k hlt
            have := sizeL_take_le l (k + 1)
            omega
          have hOL : (onL ls (l.take k)).length = k := by rw [onL_length]; simp; omega
          have IHQ : Hid (Calls Try.prog 53 #[u, .agg #[.string l[k].name, .slice a' l[k].args.length c']] wr.drew fun e w'' => ∃ a1 c1, e = .returned (.agg #[.string (onT ls l[k]).name, .slice a1 (onT ls l[k]).args.length c1]) ∧ Sl w'' (fun b => (X b ∧ b < w.heap.size) ∨ wr.heap.size ≤ b) a1 (onT ls l[k]).args ∧ Below wr.heap.size wr w'') := (IH.out l[k] (List.getElem_mem hlt) u _ wr.drew (fun b => X b ∧ b < w.heap.size) ((HU.out.mono fun b h1 h2 => ⟨h1, h2⟩).later (XE.out.drew)) (HX.out.later ((Below.refl wr.heap.size wr).drew)) hszk).mono fun e w'' hp => by
            obtain ⟨a1, c1, h1, h2, h3⟩ := hp
            exact ⟨a1, c1, h1, h2.mono (fun b hb _ => hb.imp (fun h => h.1) id), ((Below.refl wr.heap.size wr).drew).trans h3⟩
          have HN1 : Hid (∀ a1 c1, ∀ x ∈ [Value.string (onT ls l[k]).name, Value.slice a1 (onT ls l[k]).args.length c1], x.oneCell' = true) := fun a1 c1 x hx => by simp at hx; rcases hx with rfl | rfl <;> rfl
          have HL1 : Hid ((onL ls (l.take k)).length + 1 ≤ maxLen ∧ ((onL ls (l.take k)).length + 1) * 40 ≤ 140737488355328) := ⟨by rw [hOL]; unfold maxLen; omega, by rw [hOL]; omega⟩
          clear hOL
          have HBW : Hid (w.heap.size < wr.heap.size ∧ b < wr.heap.size) := ⟨XT.out.lt, by have := XT.out.lt; omega⟩
          have HS8 : Hid (OnS w b (o + k * 2) s (some ⟨b, o, none⟩) l.length c l[k].name (.slice a' l[k].args.length c') wr) := ⟨XT.out, d0, d1⟩
          go_wp2_with fail
          refine wp_region_held_drew (S := OnS w b (o + k * 2) s (some ⟨b, o, none⟩) l.length c l[k].name (.slice a' l[k].args.length c')) (by kernel_rfl) (by exact HS8.out) (fun hHeld => ?_)
          refine wpAnyH_take (i := 0) (v := ?_) rfl (by kernel_rfl) (by kernel_rfl) (by kernel_rfl) (fun _ _ _ h => h) (Or.inl ⟨by rfl, ?_⟩) (by assumption) ?_
          rotate_left
          · intro w' hSw
            go_simp <;> with_reducible rfl
          try simp only [Act.put, List.setIfInBounds_toArray, List.set_cons_zero, List.set_cons_succ, List.getElem_toArray, List.getElem_cons_succ, List.getElem_cons_zero]
          refine wpAnyH_take (i := 2) (v := ?_) rfl (by kernel_rfl) (by kernel_rfl) (by kernel_rfl) (fun _ _ _ h => h) (Or.inl ⟨by rfl, ?_⟩) (by assumption) ?_
          rotate_left
          · intro w' hSw
            go_simp <;> with_reducible rfl
          try simp only [Act.put, List.setIfInBounds_toArray, List.set_cons_zero, List.set_cons_succ, List.getElem_toArray, List.getElem_cons_succ, List.getElem_cons_zero]
          refine wpAnyH_take (i := 3) (v := ?_) rfl (by kernel_rfl) (by kernel_rfl) (by kernel_rfl) (fun _ _ _ h => h) (Or.inl ⟨by rfl, ?_⟩) (by assumption) ?_
          rotate_left
          · intro w' hSw
            go_simp <;> with_reducible rfl
          try simp only [Act.put, List.setIfInBounds_toArray, List.set_cons_zero, List.set_cons_succ, List.getElem_toArray, List.getElem_cons_succ, List.getElem_cons_zero]
          refine wpAnyH_take (i := 5) (v := ?_) rfl (by kernel_rfl) (by kernel_rfl) (by kernel_rfl) (fun _ _ _ h => h) (Or.inl ⟨by rfl, ?_⟩) (by assumption) ?_
          rotate_left
          · intro w' hSw
            go_simp <;> with_reducible rfl
          try simp only [Act.put, List.setIfInBounds_toArray, List.set_cons_zero, List.set_cons_succ, List.getElem_toArray, List.getElem_cons_succ, List.getElem_cons_zero]
          refine wpAnyH_take (i := 4) (v := ?_) rfl (by kernel_rfl) (by kernel_rfl) (by kernel_rfl) (fun _ _ _ h => h) (Or.inl ⟨by rfl, ?_⟩) (by assumption) ?_
          rotate_left
          · intro w' hSw
            have k1 : w'.cell? ⟨w.heap.size, 1, none⟩ = some (.slice (some ⟨b, o, none⟩) l.length c) := hSw.1.cell 1
            go_simp <;> with_reducible rfl
          try simp only [Act.put, List.setIfInBounds_toArray, List.set_cons_zero, List.set_cons_succ, List.getElem_toArray, List.getElem_cons_succ, List.getElem_cons_zero]
          refine wpAnyH_take (i := 6) (v := ?_) rfl (by kernel_rfl) (by kernel_rfl) (by kernel_rfl) (fun _ _ _ h => h) (Or.inl ⟨by rfl, ?_⟩) (by assumption) ?_
          rotate_left
          · intro w' hSw
            go_simp <;> with_reducible rfl
          try simp only [Act.put, List.setIfInBounds_toArray, List.set_cons_zero, List.set_cons_succ, List.getElem_toArray, List.getElem_cons_succ, List.getElem_cons_zero]
          refine wpAnyH_take (i := 7) (v := ?_) rfl (by kernel_rfl) (by kernel_rfl) (by kernel_rfl) (fun _ _ _ h => h) (Or.inl ⟨by rfl, ?_⟩) (by assumption) ?_
          rotate_left
          · intro w' hSw
            have k2 := hSw.2.1
            have k3 := hSw.2.2
            go_simp <;> with_reducible rfl
          try simp only [Act.put, List.setIfInBounds_toArray, List.set_cons_zero, List.set_cons_succ, List.getElem_toArray, List.getElem_cons_succ, List.getElem_cons_zero]
          refine wpAnyH_ready (rs := [1, 8]) (by kernel_rfl) (by simp) ?_
          refine AllReadyH.cons rfl (fun K hK => ?_) (AllReadyH.cons rfl (fun K hK => ?_) AllReadyH.nil)
          · go_simp
            refine hK.out _ _ (by exact hHeld) (fun hHeld => ?_)
            clear hK K
            try simp only [Act.put, List.setIfInBounds_toArray, List.set_cons_zero, List.set_cons_succ, List.getElem_toArray, List.getElem_cons_succ, List.getElem_cons_zero]
            refine wpAnyH_ready (rs := [8]) (by kernel_rfl) (by simp) ?_
            refine AllReadyH.cons rfl (fun K hK => ?_) AllReadyH.nil
            · go_simp
              go_at_call 53
              refine IHQ.out.mono ?_
              rintro e w1 ⟨a1, c1, rfl, hs1, hb1⟩
              have hc3 : ∀ o, (w1.alloc o).cell? ⟨O, 1, none⟩ = some u9 := fun o => ((XO.out.below hb1 hOl).alloc o).cell 1
              have hc4 : w1.cell? ⟨O, 1, none⟩ = some u9 := (XO.out.below hb1 hOl).cell 1
              go_simp
              refine hK.out _ _ (by exact OnS.below HS8.out hb1 HBW.out) (fun hHeld => ?_)
              clear hK K
              try simp only [Act.put, List.setIfInBounds_toArray, List.set_cons_zero, List.set_cons_succ, List.getElem_toArray, List.getElem_cons_succ, List.getElem_cons_zero]
              refine wpAnyH_ready (rs := [9]) (by kernel_rfl) (by simp) ?_
              refine AllReadyH.cons rfl (fun K hK => ?_) AllReadyH.nil
              · go_simp
                refine hK.out _ _ (by exact hHeld.alloc _) (fun hHeld => ?_)
                clear hK K
                try simp only [Act.put, List.setIfInBounds_toArray, List.set_cons_zero, List.set_cons_succ, List.getElem_toArray, List.getElem_cons_succ, List.getElem_cons_zero]
                refine wpAnyH_ready (rs := [10]) (by kernel_rfl) (by simp) ?_
                refine AllReadyH.cons rfl (fun K hK => ?_) AllReadyH.nil
                · refine step_append_lies _ rfl _ _ 27 rfl (O + 1) 29 i0 _ 2 40 Try.underlying27 hi0 hz0 hz1 hz2 rfl (by decide) u9 (onL ls (l.take k)).length xs rfl (by exact (XW.out.below hb1).own.alloc _) ⟨w1.heap.size, 0, none⟩ 1 1 [.string (onT ls l[k]).name, .slice a1 (onT ls l[k]).args.length c1] rfl rfl (cell_two_new _ _ _ _) (HN1.out a1 c1) (by decide) HL1.out.1 HL1.out.2 (by have := hb1.size; simp; omega) _ rfl ?_
                  intro g cap w3 hown3 hgrow3 hat3 hlt3
                  have hB3 := hide (((XO.out.below hb1 hOl).alloc _).grown hgrow3 (XW.out.ne (Nat.lt_succ_self _)))
                  have hc5 : w3.cell? ⟨O, 1, none⟩ = some u9 := hB3.out.cell 1
                  have hf5 := hB3.out.frozen 1
                  have HFIN := hide (on_step (c := c) (n := l.length) (a := some ⟨b, o, none⟩) hO hY XW.out XE.out XT.out XR.out XO.out hb1 ⟨a1, c1, rfl, hs1⟩ hown3 hgrow3 hat3)
                  refine hK.out _ _ (by exact OnS.grown hHeld hgrow3 (fun j hj => XW.out.ne (by omega)) hXb trivial) (fun hHeld => ?_)
                  clear hK K
                  try simp only [Act.put, List.setIfInBounds_toArray, List.set_cons_zero, List.set_cons_succ, List.getElem_toArray, List.getElem_cons_succ, List.getElem_cons_zero]
                  refine wpAnyH_take (i := 11) (v := ?_) rfl (by kernel_rfl) (by kernel_rfl) (by kernel_rfl) (fun _ _ _ h => h) (Or.inl ⟨by rfl, ?_⟩) (by assumption) ?_
                  rotate_left
                  · intro w' hSw
                    go_simp <;> with_reducible rfl
                  try simp only [Act.put, List.setIfInBounds_toArray, List.set_cons_zero, List.set_cons_succ, List.getElem_toArray, List.getElem_cons_succ, List.getElem_cons_zero]
                  refine wpAnyH_ready (rs := [12]) (by kernel_rfl) (by simp) ?_
                  refine AllReadyH.cons rfl (fun K hK => ?_) AllReadyH.nil
                  · go_simp
                    refine hK.out _ _ (by exact OnS.set hHeld _ trivial (by omega) (by omega)) (fun hHeld => ?_)
                    clear hK K
                    try simp only [Act.put, List.setIfInBounds_toArray, List.set_cons_zero, List.set_cons_succ, List.getElem_toArray, List.getElem_cons_succ, List.getElem_cons_zero]
                    refine wpAnyH_done (by kernel_rfl) ?_ _
                    clear hc3 hc4 hc5 hf5 hown3 hgrow3 hat3 hlt3 hB3 hHeld
                    go_wp2_with fail
                    go_roundw
                    case rel =>
                      refine ⟨k + 1, .slice (some ⟨g, 0, none⟩) ((onL ls (l.take k)).length + 1) cap, by omega, by go_num, ?_⟩
                      rw [onL_take ls l k hlt]
                      exact HFIN.out
                    case measure => simp [intOf]; omega
          · go_simp
            go_at_call 53
            refine IHQ.out.mono ?_
            rintro e w1 ⟨a1, c1, rfl, hs1, hb1⟩
            have hc3 : ∀ o, (w1.alloc o).cell? ⟨O, 1, none⟩ = some u9 := fun o => ((XO.out.below hb1 hOl).alloc o).cell 1
            have hc4 : w1.cell? ⟨O, 1, none⟩ = some u9 := (XO.out.below hb1 hOl).cell 1
            go_simp
            refine hK.out _ _ (by exact OnS.below HS8.out hb1 HBW.out) (fun hHeld => ?_)
            clear hK K
            try simp only [Act.put, List.setIfInBounds_toArray, List.set_cons_zero, List.set_cons_succ, List.getElem_toArray, List.getElem_cons_succ, List.getElem_cons_zero]
            refine wpAnyH_ready (rs := [1, 9]) (by kernel_rfl) (by simp) ?_
            refine AllReadyH.cons rfl (fun K hK => ?_) (AllReadyH.cons rfl (fun K hK => ?_) AllReadyH.nil)
            · go_simp
              refine hK.out _ _ (by exact hHeld) (fun hHeld => ?_)
              clear hK K
              try simp only [Act.put, List.setIfInBounds_toArray, List.set_cons_zero, List.set_cons_succ, List.getElem_toArray, List.getElem_cons_succ, List.getElem_cons_zero]
              refine wpAnyH_ready (rs := [9]) (by kernel_rfl) (by simp) ?_
              refine AllReadyH.cons rfl (fun K hK => ?_) AllReadyH.nil
              · go_simp
                refine hK.out _ _ (by exact hHeld.alloc _) (fun hHeld => ?_)
                clear hK K
                try simp only [Act.put, List.setIfInBounds_toArray, List.set_cons_zero, List.set_cons_succ, List.getElem_toArray, List.getElem_cons_succ, List.getElem_cons_zero]
                refine wpAnyH_ready (rs := [10]) (by kernel_rfl) (by simp) ?_
                refine AllReadyH.cons rfl (fun K hK => ?_) AllReadyH.nil
                · refine step_append_lies _ rfl _ _ 27 rfl (O + 1) 29 i0 _ 2 40 Try.underlying27 hi0 hz0 hz1 hz2 rfl (by decide) u9 (onL ls (l.take k)).length xs rfl (by exact (XW.out.below hb1).own.alloc _) ⟨w1.heap.size, 0, none⟩ 1 1 [.string (onT ls l[k]).name, .slice a1 (onT ls l[k]).args.length c1] rfl rfl (cell_two_new _ _ _ _) (HN1.out a1 c1) (by decide) HL1.out.1 HL1.out.2 (by have := hb1.size; simp; omega) _ rfl ?_
                  intro g cap w3 hown3 hgrow3 hat3 hlt3
                  have hB3 := hide (((XO.out.below hb1 hOl).alloc _).grown hgrow3 (XW.out.ne (Nat.lt_succ_self _)))
                  have hc5 : w3.cell? ⟨O, 1, none⟩ = some u9 := hB3.out.cell 1
                  have hf5 := hB3.out.frozen 1
                  have HFIN := hide (on_step (c := c) (n := l.length) (a := some ⟨b, o, none⟩) hO hY XW.out XE.out XT.out XR.out XO.out hb1 ⟨a1, c1, rfl, hs1⟩ hown3 hgrow3 hat3)
                  refine hK.out _ _ (by exact OnS.grown hHeld hgrow3 (fun j hj => XW.out.ne (by omega)) hXb trivial) (fun hHeld => ?_)
                  clear hK K
                  try simp only [Act.put, List.setIfInBounds_toArray, List.set_cons_zero, List.set_cons_succ, List.getElem_toArray, List.getElem_cons_succ, List.getElem_cons_zero]
                  refine wpAnyH_take (i := 11) (v := ?_) rfl (by kernel_rfl) (by kernel_rfl) (by kernel_rfl) (fun _ _ _ h => h) (Or.inl ⟨by rfl, ?_⟩) (by assumption) ?_
                  rotate_left
                  · intro w' hSw
                    go_simp <;> with_reducible rfl
                  try simp only [Act.put, List.setIfInBounds_toArray, List.set_cons_zero, List.set_cons_succ, List.getElem_toArray, List.getElem_cons_succ, List.getElem_cons_zero]
                  refine wpAnyH_ready (rs := [12]) (by kernel_rfl) (by simp) ?_
                  refine AllReadyH.cons rfl (fun K hK => ?_) AllReadyH.nil
                  · go_simp
                    refine hK.out _ _ (by exact OnS.set hHeld _ trivial (by omega) (by omega)) (fun hHeld => ?_)
                    clear hK K
                    try simp only [Act.put, List.setIfInBounds_toArray, List.set_cons_zero, List.set_cons_succ, List.getElem_toArray, List.getElem_cons_succ, List.getElem_cons_zero]
                    refine wpAnyH_done (by kernel_rfl) ?_ _
                    clear hc3 hc4 hc5 hf5 hown3 hgrow3 hat3 hlt3 hB3 hHeld
                    go_wp2_with fail
                    go_roundw
                    case rel =>
                      refine ⟨k + 1, .slice (some ⟨g, 0, none⟩) ((onL ls (l.take k)).length + 1) cap, by omega, by go_num, ?_⟩
                      rw [onL_take ls l k hlt]
                      exact HFIN.out
                    case measure => simp [intOf]; omega
            · go_simp
              refine hK.out _ _ (by exact hHeld.alloc _) (fun hHeld => ?_)
              clear hK K
              try simp only [Act.put, List.setIfInBounds_toArray, List.set_cons_zero, List.set_cons_succ, List.getElem_toArray, List.getElem_cons_succ, List.getElem_cons_zero]
              refine wpAnyH_ready (rs := [1]) (by kernel_rfl) (by simp) ?_
              refine AllReadyH.cons rfl (fun K hK => ?_) AllReadyH.nil
              · go_simp
                refine hK.out _ _ (by exact hHeld) (fun hHeld => ?_)
                clear hK K
                try simp only [Act.put, List.setIfInBounds_toArray, List.set_cons_zero, List.set_cons_succ, List.getElem_toArray, List.getElem_cons_succ, List.getElem_cons_zero]
                refine wpAnyH_ready (rs := [10]) (by kernel_rfl) (by simp) ?_
                refine AllReadyH.cons rfl (fun K hK => ?_) AllReadyH.nil
                · refine step_append_lies _ rfl _ _ 27 rfl (O + 1) 29 i0 _ 2 40 Try.underlying27 hi0 hz0 hz1 hz2 rfl (by decide) u9 (onL ls (l.take k)).length xs rfl (by exact (XW.out.below hb1).own.alloc _) ⟨w1.heap.size, 0, none⟩ 1 1 [.string (onT ls l[k]).name, .slice a1 (onT ls l[k]).args.length c1] rfl rfl (cell_two_new _ _ _ _) (HN1.out a1 c1) (by decide) HL1.out.1 HL1.out.2 (by have := hb1.size; simp; omega) _ rfl ?_
                  intro g cap w3 hown3 hgrow3 hat3 hlt3
                  have hB3 := hide (((XO.out.below hb1 hOl).alloc _).grown hgrow3 (XW.out.ne (Nat.lt_succ_self _)))
                  have hc5 : w3.cell? ⟨O, 1, none⟩ = some u9 := hB3.out.cell 1
                  have hf5 := hB3.out.frozen 1
                  have HFIN := hide (on_step (c := c) (n := l.length) (a := some ⟨b, o, none⟩) hO hY XW.out XE.out XT.out XR.out XO.out hb1 ⟨a1, c1, rfl, hs1⟩ hown3 hgrow3 hat3)
                  refine hK.out _ _ (by exact OnS.grown hHeld hgrow3 (fun j hj => XW.out.ne (by omega)) hXb trivial) (fun hHeld => ?_)
                  clear hK K
                  try simp only [Act.put, List.setIfInBounds_toArray, List.set_cons_zero, List.set_cons_succ, List.getElem_toArray, List.getElem_cons_succ, List.getElem_cons_zero]
                  refine wpAnyH_take (i := 11) (v := ?_) rfl (by kernel_rfl) (by kernel_rfl) (by kernel_rfl) (fun _ _ _ h => h) (Or.inl ⟨by rfl, ?_⟩) (by assumption) ?_
                  rotate_left
                  · intro w' hSw
                    go_simp <;> with_reducible rfl
                  try simp only [Act.put, List.setIfInBounds_toArray, List.set_cons_zero, List.set_cons_succ, List.getElem_toArray, List.getElem_cons_succ, List.getElem_cons_zero]
                  refine wpAnyH_ready (rs := [12]) (by kernel_rfl) (by simp) ?_
                  refine AllReadyH.cons rfl (fun K hK => ?_) AllReadyH.nil
                  · go_simp
                    refine hK.out _ _ (by exact OnS.set hHeld _ trivial (by omega) (by omega)) (fun hHeld => ?_)
                    clear hK K
                    try simp only [Act.put, List.setIfInBounds_toArray, List.set_cons_zero, List.set_cons_succ, List.getElem_toArray, List.getElem_cons_succ, List.getElem_cons_zero]
                    refine wpAnyH_done (by kernel_rfl) ?_ _
                    clear hc3 hc4 hc5 hf5 hown3 hgrow3 hat3 hlt3 hB3 hHeld
                    go_wp2_with fail
                    go_roundw
                    case rel =>
                      refine ⟨k + 1, .slice (some ⟨g, 0, none⟩) ((onL ls (l.take k)).length + 1) cap, by omega, by go_num, ?_⟩
                      rw [onL_take ls l k hlt]
                      exact HFIN.out
                    case measure => simp [intOf]; omega
        · have htk : l.take k = l := List.take_of_length_le (by omega)
          rw [htk] at XW
          obtain ⟨a9, c9, hu9, hsl9⟩ := XW.out.sl
          subst hu9
          have S9 := hide hsl9
          have r0 : wr.cell? ⟨w.heap.size + 1, 0, none⟩ = some (.string ⟨#[]⟩) := XR.out.cell 0
          have r1 : wr.cell? ⟨w.heap.size + 1, 1, none⟩ = some (.slice none 0 0) := XR.out.cell 1
          have rf := XR.out.frozen
          clear hsl9 htk
          go_wp2_with fail
          refine bodyPost_ret (v := .agg #[.string s, .slice a9 (onL ls l).length c9]) (by simp [results, Try.results53, go_sem, World.cell?_setCell_same, World.cell?_setCell_other, r0, r1]) rfl ?_
          rw [HD.out]
          refine ⟨a9, c9, rfl, (S9.out.kept fun b hb => ?_).mono fun b hb _ => hb.imp id (fun h => by omega), (XE.out.setCell (by simp) _).setCell (by simp) _⟩
          have hbne : b ≠ w.heap.size + 1 := by
            rcases hb with h | h
            · have := h.2; omega
            · omega
          rw [Below.heap_setCell _ _ _ _ (by simpa using hbne), Below.heap_setCell _ _ _ _ (by simpa using hbne)]
#print axioms on_any
end Go.Proofs.Ytgppbciofhoigab

/- Walks: a term with bindings in it, if it isn't too great; whether bindings may be. -/
namespace Go.Proofs.Ytgppbciofhoigab
open Go.RowKit
set_option linter.unusedSimpArgs false
set_option linter.unusedVariables false
set_option maxRecDepth 8000

def OnAll (w : World) (X : Nat → Prop) (t : Tm) (e : Ending) (w' : World) : Prop :=
  Below w.heap.size w w' ∧ ((2000 < sizeL [t] ∧ e = .returned (.tuple #[.agg #[.string ⟨#[]⟩, .slice none 0 0], .bool false])) ∨ (sizeL [t] ≤ 2000 ∧ ∃ a c, e = .returned (.tuple #[.agg #[.string t.name, .slice a t.args.length c], .bool true]) ∧ Sl w' (fun b => (X b ∧ b < w.heap.size) ∨ w.heap.size ≤ b) a t.args))

set_option maxHeartbeats 1000000 in
theorem onAll_any (ls : List Bd) (t : Tm) (u v : Value) (w : World) (X : Nat → Prop) (hu : BV w X u ls) (hv : TV w X v t) (hsm : sizeL [t] ≤ 1000000) :
    Calls Try.prog 22 #[u, v] w fun e w' => OnAll w X (onT ls t) e w' := by
  obtain ⟨a, c, rfl, hs⟩ := hv
  have HU := hide (hu.mono (Y := fun b => X b ∧ b < w.heap.size) fun b h1 h2 => ⟨h1, h2⟩)
  have HS := hide (hs.mono (Y := fun b => X b ∧ b < w.heap.size) fun b h1 h2 => ⟨h1, h2⟩)
  clear hu hs
  go_enter Try.func22, Try.ntmps22
  go_wp2_with fail
  refine (grown_any ls t u _ 2000 _ (fun b => X b ∧ b < w.heap.size) (by exact (HU.out.alloc _).alloc _) (by exact ⟨a, c, rfl, (HS.out.later ((Below.refl _ _).alloc (Nat.le_refl _) _)).later ((Below.refl _ _).alloc (Nat.le_refl _) _)⟩) (by decide) (by decide)).mono ?_
  rintro e w1 ⟨rfl, hb1⟩
  have T1 := hide (((Blk.new w #[.string t.name, .slice a t.args.length c] 29).alloc (.cells #[.string ⟨#[]⟩, .slice none 0 0] 29)).below hb1 (by simp; omega))
  have R1 : Hid (Blk w1 (w.heap.size + 1) #[.string ⟨#[]⟩, .slice none 0 0] 29) := by
    have h := (Blk.new (w.alloc (.cells #[.string t.name, .slice a t.args.length c] 29)) #[.string ⟨#[]⟩, .slice none 0 0] 29).below hb1 (by simp)
    unfold Hid
    simpa using h
  have B1 := hide ((((Below.refl w.heap.size w).alloc (Nat.le_refl _) (.cells #[.string t.name, .slice a t.args.length c] 29)).alloc (by simp) (.cells #[.string ⟨#[]⟩, .slice none 0 0] 29)).trans (hb1.mono (by simp; omega)))
  clear hb1
  have t0 : w1.cell? ⟨w.heap.size, 0, none⟩ = some (.string t.name) := T1.out.cell 0
  have t1 : w1.cell? ⟨w.heap.size, 1, none⟩ = some (.slice a t.args.length c) := T1.out.cell 1
  have r0 : w1.cell? ⟨w.heap.size + 1, 0, none⟩ = some (.string ⟨#[]⟩) := R1.out.cell 0
  have r1 : w1.cell? ⟨w.heap.size + 1, 1, none⟩ = some (.slice none 0 0) := R1.out.cell 1
  have rf := R1.out.frozen
  by_cases hg : 2000 < sizeL [onT ls t]
  · have hmin : min (sizeL [onT ls t] : Int) (2000 + 1) = 2001 := by omega
    rw [hmin]
    go_wp2_with fail
    refine bodyPost_ret (v := .tuple #[.agg #[.string ⟨#[]⟩, .slice none 0 0], .bool false]) (by simp [results, Try.results22, go_sem, World.cell?_setCell_same, World.cell?_setCell_other, r0, r1]) rfl ?_
    exact ⟨(B1.out.setCell (by simp) _).setCell (by simp) _, Or.inl ⟨hg, rfl⟩⟩
  · have hmin : min (sizeL [onT ls t] : Int) (2000 + 1) = sizeL [onT ls t] := by omega
    rw [hmin]
    have hle : ¬ (2000 : Int) < (sizeL [onT ls t] : Int) := by omega
    clear hmin
    go_wp2_with fail
    refine (on_any ls t u _ _ (fun b => X b ∧ b < w.heap.size) (by exact HU.out.later B1.out) (by exact ⟨a, c, rfl, HS.out.later B1.out⟩) hsm).mono ?_
    rintro e w2 ⟨a2, c2, rfl, hs2, hb2⟩
    have R2 := hide (R1.out.below hb2 R1.out.lt)
    have B2 := hide (B1.out.trans (hb2.mono B1.out.size))
    have S2 := hide (hs2.mono (Y := fun b => (X b ∧ b < w.heap.size) ∨ w.heap.size + 2 ≤ b) fun b hb _ => hb.imp (fun h => h.1) (fun h => by have := R1.out.lt; omega))
    clear hb2 hs2 r0 r1 rf t0 t1
    have r0 : w2.cell? ⟨w.heap.size + 1, 0, none⟩ = some (.string ⟨#[]⟩) := R2.out.cell 0
    have r1 : w2.cell? ⟨w.heap.size + 1, 1, none⟩ = some (.slice none 0 0) := R2.out.cell 1
    have rf := R2.out.frozen
    go_wp2_with fail
    refine bodyPost_ret (v := .tuple #[.agg #[.string (onT ls t).name, .slice a2 (onT ls t).args.length c2], .bool true]) (by simp [results, Try.results22, go_sem, World.cell?_setCell_same, World.cell?_setCell_other, r0, r1]) rfl ?_
    refine ⟨(B2.out.setCell (by simp) _).setCell (by simp) _, Or.inr ⟨by omega, a2, c2, rfl, (S2.out.kept fun b hb => ?_).mono fun b hb _ => hb.imp id (fun h => by omega)⟩⟩
    have hbne : b ≠ w.heap.size + 1 := by
      rcases hb with h | h
      · have := h.2; omega
      · omega
    rw [Below.heap_setCell _ _ _ _ (by simpa using hbne), Below.heap_setCell _ _ _ _ (by simpa using hbne)]

#print axioms onAll_any
end Go.Proofs.Ytgppbciofhoigab

/- Walks: whether bindings may be, as the document says. -/
namespace Go.Proofs.Ytgppbciofhoigab
open Go.RowKit
set_option linter.unusedSimpArgs false
set_option linter.unusedVariables false
set_option maxRecDepth 8000

def BmInv (ls : List Bd) (w : World) (v : Value) (wr : World) : Prop := ∃ k : Nat, v = .int .i64 (k : Int) ∧ k ≤ ls.length ∧ bmT ls k = 0 ∧ Below w.heap.size w wr

theorem Below.drewN' {B : Nat} {a w : World} (h : Below B a w) (n : Nat) : Below B a (w.drewN n) := ⟨h.os, h.tape, h.output, h.size, h.block⟩

set_option maxHeartbeats 2000000 in
theorem bindsMay_any (ls : List Bd) (u : Value) (w : World) (X : Nat → Prop) (hu : BV w X u ls) :
    Calls Try.prog 32 #[u] w fun e w' => e = .returned (.int .i64 (bindsE ls)) ∧ Below w.heap.size w w' := by
  have HU := hide hu
  obtain ⟨a, c, rfl, hl, hu2⟩ := hu
  clear hu2
  go_enter Try.func32, Try.ntmps32
  by_cases h40 : 40 < ls.length
  · go_wp2_with fail
    go_ret
    exact ⟨ret_int (by unfold bindsE; rw [if_pos h40]), Below.refl _ _⟩
  · go_wp2_with fail
    go_loopw [3] (fun v wr => BmInv ls w v wr) (fun v wr => ls.length - (intOf v).toNat)
    case atStart => exact ⟨0, rfl, Nat.zero_le _, rfl, Below.refl _ _⟩
    case round =>
      obtain ⟨k, rfl, hk, hT, hb⟩ := hrel
      have HB := hide hb
      have HT := hide hT
      clear hT
      by_cases hlt : k < ls.length
      · obtain ⟨b, o, a', c', rfl, d0, d1, d2, hs⟩ := (HU.out.later hb).get k hlt
        have hlt2 : (k : Int) < (ls.length : Int) := by omega
        have HX := hide hs
        clear hb hs
        cases hn : nameB ls[k].nm with
        | false =>
          have HK := hide (bmK_name hlt (by rw [hn]; rfl))
          have HN := hide hn
          have HV := hide (rfl : varB ls[k].nm = varB ls[k].nm)
          clear hn
          generalize ls[k] = d at *
          go_wp2_with (first | (go_at_call 59; refine (isNameR_any _ _).mono ?_; rintro e w' ⟨rfl, rfl⟩; rw [HN.out]) | (go_at_call 54; refine (isVarR_any _ _).mono ?_; rintro e w' ⟨rfl, rfl⟩; rw [HV.out]))
          go_ret
          exact ⟨ret_int (bmT_err hlt h40 HT.out HK.out (by decide)).symm, HB.out⟩
        | true =>
          have HN := hide hn
          clear hn
          cases hv : varB ls[k].nm with
          | false =>
            have HK := hide (bmK_name hlt (by rw [HN.out, hv]; rfl))
            have HV := hide hv
            clear hv
            generalize ls[k] = d at *
            go_wp2_with (first | (go_at_call 59; refine (isNameR_any _ _).mono ?_; rintro e w' ⟨rfl, rfl⟩; rw [HN.out]) | (go_at_call 54; refine (isVarR_any _ _).mono ?_; rintro e w' ⟨rfl, rfl⟩; rw [HV.out]))
            go_ret
            exact ⟨ret_int (bmT_err hlt h40 HT.out HK.out (by decide)).symm, HB.out⟩
          | true =>
            have HV := hide hv
            clear hv
            by_cases hk0 : 0 < k
            · obtain ⟨j, rfl⟩ : ∃ j, k = j + 1 := ⟨k - 1, by omega⟩
              obtain ⟨b2, o2, a2, c2, e2, p0, p1, p2, hs2⟩ := (HU.out.later HB.out).get j (by omega)
              clear hs2
              simp at e2
              obtain ⟨rfl, rfl⟩ := e2
              have hj0 : (0 : Int) ≤ (j : Int) := by omega
              have hj1 : (j : Int) < (ls.length : Int) := by omega
              have hw1 : IntKind.i64.wrap ((j : Int) + 1 - 1) = (j : Int) := by rw [IntKind.wrap_i64]; omega
              have hw2 : IntKind.i64.wrap (j : Int) = (j : Int) := by rw [IntKind.wrap_i64]; omega
              cases hle : leB ls[j + 1].nm ls[j].nm with
              | true =>
                have HK := hide (bmK_order hlt (by rw [HN.out, HV.out]; rfl) hle)
                have hle2 : (Op.bytesLess ls[j + 1].nm.toList ls[j].nm.toList || ls[j + 1].nm.toList == ls[j].nm.toList) = true := hle
                clear hle
                generalize ls[j + 1] = d at *
                generalize ls[j] = d' at *
                go_wp2_with (first | (go_at_call 59; refine (isNameR_any _ _).mono ?_; rintro e w' ⟨rfl, rfl⟩; rw [HN.out]) | (go_at_call 54; refine (isVarR_any _ _).mono ?_; rintro e w' ⟨rfl, rfl⟩; rw [HV.out]))
                go_quiet (fail)
                go_wp2_with fail
                go_ret
                exact ⟨ret_int (bmT_err hlt h40 HT.out HK.out (by decide)).symm, below_drewN HB.out _⟩
              | false =>
                have HK := hide (bmK_may hlt (by rw [HN.out, HV.out]; rfl) hle)
                have hle2 : (Op.bytesLess ls[j + 1].nm.toList ls[j].nm.toList || ls[j + 1].nm.toList == ls[j].nm.toList) = false := hle
                clear hle
                generalize ls[j + 1] = d at *
                generalize ls[j] = d' at *
                go_wp2_with (first | (go_at_call 59; refine (isNameR_any _ _).mono ?_; rintro e w' ⟨rfl, rfl⟩; rw [HN.out]) | (go_at_call 54; refine (isVarR_any _ _).mono ?_; rintro e w' ⟨rfl, rfl⟩; rw [HV.out]))
                go_quiet (fail)
                go_wp2_with fail
                refine (termMay_any d.t _ _ X (by exact ⟨a', c', rfl, HX.out.kept fun _ _ => rfl⟩)).mono ?_
                rintro e w5 ⟨rfl, hb5⟩
                have HB5 := hide ((below_drewN HB.out _).trans (hb5.mono HB.out.size))
                clear hb5
                by_cases hm : mayE d.t = 0
                · have HM := hide hm
                  rw [hm]
                  clear hm
                  go_wp2_with fail
                  go_roundw
                  case rel => exact ⟨j + 1 + 1, by go_num, by omega, bmT_next HT.out (HK.out.trans HM.out), HB5.out⟩
                  case measure => simp [intOf]; omega
                · have hm2 : (mayE d.t == 0) = false := by simpa using hm
                  have HM := hide hm
                  clear hm
                  go_wp2_with fail
                  go_ret
                  exact ⟨ret_int (bmT_err hlt h40 HT.out HK.out HM.out).symm, HB5.out⟩
            · have hk00 : k = 0 := by omega
              subst hk00
              have HK := hide (bmK_first hlt (by rw [HN.out, HV.out]; rfl))
              have hkz : ¬ (0 : Int) < ((0 : Nat) : Int) := by simp
              simp only [Nat.zero_mul, Nat.add_zero] at d0 d1 d2
              generalize ls[0] = d at *
              go_wp2_with (first | (go_at_call 59; refine (isNameR_any _ _).mono ?_; rintro e w' ⟨rfl, rfl⟩; rw [HN.out]) | (go_at_call 54; refine (isVarR_any _ _).mono ?_; rintro e w' ⟨rfl, rfl⟩; rw [HV.out]))
              go_quiet (fail)
              go_wp2_with fail
              refine (termMay_any d.t _ _ X (by exact ⟨a', c', rfl, HX.out.kept fun _ _ => rfl⟩)).mono ?_
              rintro e w5 ⟨rfl, hb5⟩
              have HB5 := hide ((below_drewN HB.out _).trans (hb5.mono HB.out.size))
              clear hb5
              by_cases hm : mayE d.t = 0
              · have HM := hide hm
                rw [hm]
                clear hm
                go_wp2_with fail
                go_roundw
                case rel => exact ⟨1, by go_num, by omega, bmT_next HT.out (HK.out.trans HM.out), HB5.out⟩
                case measure => simp [intOf]; omega
              · have hm2 : (mayE d.t == 0) = false := by simpa using hm
                have HM := hide hm
                clear hm
                go_wp2_with fail
                go_ret
                exact ⟨ret_int (bmT_err hlt h40 HT.out HK.out HM.out).symm, HB5.out⟩
      · have hkl : k = ls.length := by omega
        go_wp2_with fail
        go_ret
        exact ⟨ret_int (by unfold bindsE; rw [if_neg h40, ← hkl]; exact HT.out.symm), HB.out⟩
#print axioms bindsMay_any
end Go.Proofs.Ytgppbciofhoigab

/- Walks: bindings sorted, as the document says. -/
namespace Go.Proofs.Ytgppbciofhoigab
open Go.RowKit
set_option linter.unusedSimpArgs false
set_option linter.unusedVariables false
set_option maxRecDepth 8000

theorem flat3_set (y : Bc) : ∀ (cs : List Bc) (i : Nat), i < cs.length → flat3 (cs.set i y) = (((flat3 cs).set (i * 3) (.string y.1.nm)).set (i * 3 + 1) (.string y.1.t.name)).set (i * 3 + 2) (.slice y.2.1 y.1.t.args.length y.2.2)
  | [], i, h => by simp at h
  | x :: r, 0, h => by simp [flat3, enc3]
  | x :: r, i + 1, h => by
    have ih := flat3_set y r i (by simpa using h)
    rw [List.set_cons_succ, flat3, flat3, ih]
    rw [show (i + 1) * 3 = i * 3 + 3 by omega, show i * 3 + 3 + 1 = (i * 3 + 1) + 3 by omega, show i * 3 + 3 + 2 = (i * 3 + 2) + 3 by omega]
    simp [enc3]
/-- The world with a binding stored in a row. -/
def put3 (w : World) (g i : Nat) (y : Bc) : World := (((w.setCell ⟨g, i * 3, none⟩ (.string y.1.nm)).setCell ⟨g, i * 3 + 1, none⟩ (.string y.1.t.name)).setCell ⟨g, i * 3 + 2, none⟩ (.slice y.2.1 y.1.t.args.length y.2.2))
theorem put3_block {w : World} {g i b : Nat} {y : Bc} (h : b ≠ g) : (put3 w g i y).heap[b]? = w.heap[b]? := by
  unfold put3
  rw [Below.heap_setCell _ _ _ _ (by simpa using h), Below.heap_setCell _ _ _ _ (by simpa using h), Below.heap_setCell _ _ _ _ (by simpa using h)]
theorem put3_size {w : World} {g i : Nat} {y : Bc} : (put3 w g i y).heap.size = w.heap.size := by simp [put3, World.setCell]
theorem put3_below {w0 w : World} {B g i : Nat} {y : Bc} (h : Below B w0 w) (hg : B ≤ g) : Below B w0 (put3 w g i y) := ((h.setCell (by exact hg) _).setCell (by exact hg) _).setCell (by exact hg) _
theorem Sl.put3 {w : World} {N g n cap i : Nat} {Y : Nat → Prop} {a : Option Addr} {l : List Tm} {y : Bc} (h : Sl w (fun b => Y b ∨ (N ≤ b ∧ some b ≠ (Value.slice (some ⟨g, 0, none⟩) n cap).ownBlock)) a l) (hY : ∀ b, Y b → b < N) (hg : N ≤ g) : Sl (put3 w g i y) (fun b => Y b ∨ (N ≤ b ∧ some b ≠ (Value.slice (some ⟨g, 0, none⟩) n cap).ownBlock)) a l :=
  h.kept fun b hb => put3_block (by
    rcases hb with hb | hb
    · have := hY b hb; omega
    · intro e; exact hb.2 (by simp [Value.ownBlock, e]))
theorem BRow.put {w : World} {N : Nat} {Y : Nat → Prop} {cs : List Bc} {g n cap : Nat} (h : BRow w N Y (.slice (some ⟨g, 0, none⟩) n cap) cs) (hY : ∀ b, Y b → b < N) (i : Nat) (hi : i < cs.length) (y : Bc) (hy : Sl w (fun b => Y b ∨ (N ≤ b ∧ some b ≠ (Value.slice (some ⟨g, 0, none⟩) n cap).ownBlock)) y.2.1 y.1.t.args) : BRow (put3 w g i y) N Y (.slice (some ⟨g, 0, none⟩) n cap) (cs.set i y) := by
  have hNg : N ≤ g := (h.own.lt g rfl).1
  refine ⟨?_, fun x hx => ?_⟩
  · rcases h.own.2 with ⟨e, _⟩ | ⟨g', cap', cur, e, hbase, hb, h1, h2, h3, h4⟩
    · cases e
    · simp at e
      obtain ⟨rfl, rfl, rfl⟩ := e
      have hB : Blk w g cur 55 := hb
      have hB' := ((hB.set (i * 3) (.string y.1.nm)).set (i * 3 + 1) (.string y.1.t.name)).set (i * 3 + 2) (.slice y.2.1 y.1.t.args.length y.2.2)
      refine ⟨flat3_length _, Or.inr ⟨g, cap, _, by simp, hbase, hB', by simpa using h1, h2, by simpa using h3, ?_⟩⟩
      rw [flat3_set y cs i hi, ← h4]
      simp [List.take_set]
  · rcases List.mem_or_eq_of_mem_set hx with h1 | h1
    · exact (h.row x h1).put3 hY hNg
    · rw [h1]; exact hy.put3 hY hNg
/-- Two of a row change places. -/
theorem BRow.swap {w : World} {N : Nat} {Y : Nat → Prop} {A B : List Bc} {x y : Bc} {g n cap : Nat} (h : BRow w N Y (.slice (some ⟨g, 0, none⟩) n cap) ((A ++ [y]) ++ x :: B)) (hY : ∀ b, Y b → b < N) : BRow (put3 (put3 w g (A.length + 1) y) g A.length x) N Y (.slice (some ⟨g, 0, none⟩) n cap) (A ++ x :: y :: B) := by
  have hNg : N ≤ g := (h.own.lt g rfl).1
  have h1 := h.put hY (A.length + 1) (by simp) y (h.row y (by simp))
  have h2 := h1.put hY A.length (by simp) x ((h.row x (by simp)).put3 hY hNg)
  have e : (((A ++ [y]) ++ x :: B).set (A.length + 1) y).set A.length x = A ++ x :: y :: B := by
    rw [List.set_append_right _ _ (by simp)]
    simp [List.set_append_right]
  rw [e] at h2
  exact h2

/-- None is ahead of one that stands ahead of it. -/
def Weak (l : List Bc) : Prop := l.Pairwise fun a b => ltB b.1.nm a.1.nm = false
theorem weak_ins {A B : List Bc} {x : Bc} (hw : Weak (A ++ B)) (hB : ∀ b ∈ B, ltB x.1.nm b.1.nm = true) (hA : ∀ a ∈ A, ltB x.1.nm a.1.nm = false) : Weak (A ++ x :: B) := by
  obtain ⟨h1, h2, h3⟩ := List.pairwise_append.1 hw
  refine List.pairwise_append.2 ⟨h1, List.pairwise_cons.2 ⟨fun b hb => ltB_asymm (hB b hb), h2⟩, fun a ha b hb => ?_⟩
  rcases List.mem_cons.1 hb with rfl | hb
  · exact hA a ha
  · exact h3 a ha b hb
theorem weak_last {A B : List Bc} {a x : Bc} (hw : Weak (A ++ [a] ++ B)) (h : ltB x.1.nm a.1.nm = false) : ∀ y ∈ A ++ [a], ltB x.1.nm y.1.nm = false := fun y hy => by
  rcases List.mem_append.1 hy with hy | hy
  · obtain ⟨h1, _⟩ := List.pairwise_append.1 hw
    exact ltB_ntrans h ((List.pairwise_append.1 h1).2.2 y hy a (by simp))
  · have e : y = a := by simpa using hy
    rw [e]; exact h

theorem BRow.atk {w : World} {N : Nat} {Y : Nat → Prop} {P Q : List Bc} {z : Bc} {g n cap : Nat} (h : BRow w N Y (.slice (some ⟨g, 0, none⟩) n cap) (P ++ z :: Q)) :
    w.cell? ⟨g, P.length * 3, none⟩ = some (.string z.1.nm) ∧ w.cell? ⟨g, P.length * 3 + 1, none⟩ = some (.string z.1.t.name) ∧ w.cell? ⟨g, P.length * 3 + 2, none⟩ = some (.slice z.2.1 z.1.t.args.length z.2.2) ∧ ∀ j, w.frozen? ⟨g, j, none⟩ = false := by
  obtain ⟨g', cap', e, _, _, hc⟩ := owned_val h.own (by simp only [List.length_append, List.length_cons]; omega)
  simp at e
  obtain ⟨rfl, _, rfl⟩ := e
  have hf : ∀ j, w.frozen? ⟨g, j, none⟩ = false := by
    rcases h.own.2 with ⟨e, _⟩ | ⟨g', cap', cur, e, _, hb, _⟩
    · cases e
    · simp at e
      obtain ⟨rfl, _, rfl⟩ := e
      intro j
      simp [World.frozen?, hb]
  have hg : ∀ j, j < 3 → (flat3 (P ++ z :: Q))[P.length * 3 + j]? = (enc3 z)[j]? := fun j hj => by
    rw [flat3_get _ P.length (by simp) j hj]
    simp
  exact ⟨hc _ _ (by have h0 := hg 0 (by decide); rw [Nat.add_zero] at h0; rw [h0]; rfl), hc _ _ (by rw [hg 1 (by decide)]; rfl), hc _ _ (by rw [hg 2 (by decide)]; rfl), hf⟩
theorem ins_perm {A B cs : List Bc} {x : Bc} {l : List Bd} (h : A ++ B = cs) (hp : (cs.map (·.1) ++ [x.1]).Perm l) : ((A ++ x :: B).map (·.1)).Perm l := by
  refine List.Perm.trans ?_ hp
  have h1 : (A ++ x :: B).Perm (cs ++ [x]) := by
    rw [← h]
    exact List.perm_middle.trans (List.perm_append_singleton x (A ++ B)).symm
  simpa using h1.map (·.1)

/-- What is known in the outer loop. -/
def SoInv (w : World) (Y : Nat → Prop) (ls : List Bd) (u v : Value) (wr : World) : Prop :=
  ∃ (k : Nat) (cs : List Bc), v = .int .i64 (k : Int) ∧ k ≤ ls.length ∧ BRow wr w.heap.size Y u cs ∧ (cs.map (·.1)).Perm (ls.take k) ∧ Weak cs ∧ Below w.heap.size w wr
/-- What is known in the inner loop. -/
def SiInv (w : World) (Y : Nat → Prop) (cs : List Bc) (x : Bc) (g cap : Nat) (v : Value) (wr : World) : Prop :=
  ∃ (A B : List Bc), v = .int .i64 (A.length : Int) ∧ A ++ B = cs ∧ (∀ b ∈ B, ltB x.1.nm b.1.nm = true) ∧ BRow wr w.heap.size Y (.slice (some ⟨g, 0, none⟩) (cs.length + 1) cap) (A ++ x :: B) ∧ Below w.heap.size w wr

set_option maxHeartbeats 2000000 in
theorem sorted_any (ls : List Bd) (u : Value) (w : World) (X : Nat → Prop) (hu : BV w X u ls) (hn : ls.length ≤ 1000000) :
    Calls Try.prog 44 #[u] w fun e w' => ∃ (v : Value) (cs : List Bc), e = .returned v ∧ BRow w' w.heap.size (fun b => X b ∧ b < w.heap.size) v cs ∧ (cs.map (·.1)).Perm ls ∧ Weak cs ∧ Below w.heap.size w w' := by
  have HU := hide (hu.mono (Y := fun b => X b ∧ b < w.heap.size) fun b h1 h2 => ⟨h1, h2⟩)
  obtain ⟨a, c, rfl, hl, hu2⟩ := hu
  clear hu2
  go_enter Try.func44, Try.ntmps44
  go_wp2_with fail
  go_loopw [3, 4] (fun u v wr => SoInv w (fun b => X b ∧ b < w.heap.size) ls u v wr) (fun u v wr => ls.length - (intOf v).toNat)
  case atStart => exact ⟨0, [], rfl, Nat.zero_le _, BRow.start _ _ _, by simp, List.Pairwise.nil, Below.refl _ _⟩
  case round =>
    obtain ⟨k, cs, rfl, hk, hrow, hperm, hweak, hb⟩ := hrel
    have HROW := hide hrow
    have HP := hide hperm
    have HW := hide hweak
    have HB := hide hb
    clear hrow hperm hweak
    by_cases hlt : k < ls.length
    · obtain ⟨b, o, a', c', rfl, d0, d1, d2, hs⟩ := (HU.out.later hb).get k hlt
      have hlt2 : (k : Int) < (ls.length : Int) := by omega
      have HS := hide hs
      have HP1 : Hid ((cs.map (·.1) ++ [ls[k]]).Perm (ls.take (k + 1))) := by
        unfold Hid
        rw [List.take_succ_eq_append_getElem hlt]
        exact HP.out.append_right _
      have hLC : cs.length ≤ 1000000 := by have := HP.out.length_eq; simp at this; omega
      clear hb hs
      generalize ls[k] = d at *
      obtain ⟨v2, w2, hrun, hB2, hg2⟩ := binds_append HROW.out HB.out.size (fun b h => h.2) (Below.refl wr.heap.size wr) (d, a', c') (HS.out.mono fun b h _ => Or.inl h) hLC wr.heap.size rfl
      obtain ⟨g, cap, rfl, hNg, hgl⟩ := hB2.own.form (by simp)
      have HRUN := hide hrun
      have HB2 := hide hB2
      have HBW : Hid (Below w.heap.size w w2) := (HB.out.alloc HB.out.size _).grown hg2 (by have := HB.out.size; simp; omega) (fun j hj => by have := (HROW.out.own.lt j hj).1; omega)
      have hlen2 : (cs ++ [(d, a', c')]).length = cs.length + 1 := by simp
      rw [hlen2] at HB2 HRUN
      clear hrun hB2 hg2
      have hgw : w.heap.size ≤ g := hNg
      go_wp2_with (at_builtin; refine wpList_append_eq rfl _ _ _ _ rfl rfl rfl HRUN.out ?_)
      go_loopw [5] (fun v wr => SiInv w (fun b => X b ∧ b < w.heap.size) cs (d, a', c') g cap v wr) (fun v wr => (intOf v).toNat)
      case atStart =>
        exact ⟨cs, [], by go_num, by simp, by simp, HB2.out, HBW.out⟩
      case round =>
        obtain ⟨A, B, rfl, hAB, hBx, hrow, hb⟩ := hrel
        have HROW3 := hide hrow
        have HB3 := hide hb
        have HBX := hide hBx
        have HAB := hide hAB
        have HLA : Hid (A.length + B.length = cs.length) := by have := congrArg List.length hAB; unfold Hid; simpa using this
        clear hBx hAB
        rcases List.eq_nil_or_concat A with rfl | ⟨A', y, hAe⟩
        · clear hrow hb
          go_wp2_with fail
          go_quiet (fail)
          go_wp2_with fail
          go_roundw
          case rel => exact ⟨k + 1, [] ++ (d, a', c') :: B, by go_num, by omega, HROW3.out.below (below_drewN (Below.refl _ _) _), ins_perm HAB.out HP1.out, weak_ins (by rw [HAB.out]; exact HW.out) HBX.out (by simp), below_drewN HB3.out _⟩
          case measure => simp [intOf]; omega
        · rw [List.concat_eq_append] at hAe
          subst hAe
          have hlen : (A' ++ [y]).length = A'.length + 1 := by simp
          have hm1 : A'.length + 1 < cs.length + 1 := by have := HLA.out; simp at this; omega
          have e1 : (A' ++ [y]) ++ (d, a', c') :: B = A' ++ y :: (d, a', c') :: B := by simp
          obtain ⟨x0, x1, x2, xf⟩ := hrow.atk
          rw [e1] at hrow
          obtain ⟨y0, y1, y2, _⟩ := hrow.atk
          simp only [List.length_append, List.length_cons, List.length_nil, Nat.zero_add] at x0 x1 x2 ⊢
          clear hrow hb hlen e1
          generalize hmA : A'.length = m at *
          have HMA := hide hmA
          clear hmA
          have hj0 : (0 : Int) ≤ (m : Int) := by omega
          have hw1 : IntKind.i64.wrap ((m : Int) + 1 - 1) = (m : Int) := by rw [IntKind.wrap_i64]; omega
          have hw2 : IntKind.i64.wrap (m : Int) = (m : Int) := by rw [IntKind.wrap_i64]; omega
          cases hlt3 : Op.bytesLess d.nm.toList y.1.nm.toList with
          | true =>
            have HLT := hide hlt3
            go_wp2_with fail
            go_quiet (fail)
            have HROW5 := hide (HROW3.out.below (below_drewN (Below.refl wr.heap.size wr) nq))
            have HB5 := hide (below_drewN HB3.out nq)
            have x0' : (wr.drewN nq).cell? ⟨g, (m + 1) * 3, none⟩ = some (.string d.nm) := x0
            have x1' : (wr.drewN nq).cell? ⟨g, (m + 1) * 3 + 1, none⟩ = some (.string d.t.name) := x1
            have x2' : (wr.drewN nq).cell? ⟨g, (m + 1) * 3 + 2, none⟩ = some (.slice a' d.t.args.length c') := x2
            have y0' : (wr.drewN nq).cell? ⟨g, m * 3, none⟩ = some (.string y.1.nm) := y0
            have y1' : (wr.drewN nq).cell? ⟨g, m * 3 + 1, none⟩ = some (.string y.1.t.name) := y1
            have y2' : (wr.drewN nq).cell? ⟨g, m * 3 + 2, none⟩ = some (.slice y.2.1 y.1.t.args.length y.2.2) := y2
            have xf' : ∀ j, (wr.drewN nq).frozen? ⟨g, j, none⟩ = false := xf
            have hg5 : g < (wr.drewN nq).heap.size := cell_lt x0'
            clear x0 x1 x2 y0 y1 y2 xf hlt3
            generalize wr.drewN nq = w5 at *
            go_wp2_with fail
            go_roundw
            case rel =>
              have hr := (HROW5.out.swap fun b h => h.2).below ((Below.refl _ _).alloc (Nat.le_refl _) (.cells #[.string d.nm, .string d.t.name, .slice a' d.t.args.length c'] 55))
              rw [HMA.out] at hr
              have hbb := (put3_below (i := m) (y := (d, a', c')) (put3_below (i := m + 1) (y := y) HB5.out hgw) hgw).alloc (by rw [put3_size, put3_size]; exact HB5.out.size) (.cells #[.string d.nm, .string d.t.name, .slice a' d.t.args.length c'] 55)
              simp only [put3] at hr hbb
              refine ⟨A', y :: B, by rw [HMA.out], by have := HAB.out; simpa using this, fun b hb => ?_, hr, hbb⟩
              rcases List.mem_cons.1 hb with rfl | hb
              · exact HLT.out
              · exact HBX.out b hb
            case measure => simp [intOf]
          | false =>
            have HLT := hide hlt3
            go_wp2_with fail
            go_quiet (fail)
            go_wp2_with fail
            go_roundw
            case rel => exact ⟨k + 1, (A' ++ [y]) ++ (d, a', c') :: B, by go_num, by omega, HROW3.out.below (below_drewN (Below.refl _ _) _), ins_perm HAB.out HP1.out, weak_ins (by rw [HAB.out]; exact HW.out) HBX.out (weak_last (by rw [HAB.out]; exact HW.out) HLT.out), below_drewN HB3.out _⟩
            case measure => simp [intOf]; omega
    · go_wp2_with fail
      go_ret
      exact ⟨u3, cs, rfl, HROW.out, by have h := HP.out; rwa [List.take_of_length_le (by omega)] at h, HW.out, HB.out⟩
#print axioms sorted_any
end Go.Proofs.Ytgppbciofhoigab

/- Walks: UnifyOf. -/
namespace Go.Proofs.Ytgppbciofhoigab
open Go.RowKit
set_option linter.unusedSimpArgs false
set_option linter.unusedVariables false
set_option maxRecDepth 8000

def OaC (X : Nat → Prop) (t : Tm) (s1 : ByteArray) (a1 : Option Addr) (n1 c1 : Nat) (okb : Bool) (w w' : World) : Prop :=
  (okb = false ∧ 2000 < sizeL [t]) ∨ (okb = true ∧ sizeL [t] ≤ 2000 ∧ s1 = t.name ∧ n1 = t.args.length ∧ Sl w' (fun b => (X b ∧ b < w.heap.size) ∨ w.heap.size ≤ b) a1 t.args)
theorem onAll_at (X : Nat → Prop) (ls : List Bd) (t : Tm) (u : Value) (a : Option Addr) (c : Nat) (w : World) (hu : BV w X u ls) (hs : Sl w X a t.args) (hsm : sizeL [t] ≤ 1000000) :
    Calls Try.prog 22 #[u, .agg #[.string t.name, .slice a t.args.length c]] w fun e w' => ∃ s1 a1 n1 c1 okb, e = .returned (.tuple #[.agg #[.string s1, .slice a1 n1 c1], .bool okb]) ∧ Below w.heap.size w w' ∧ OaC X (onT ls t) s1 a1 n1 c1 okb w w' := by
  refine (onAll_any ls t u _ w X hu ⟨a, c, rfl, hs⟩ hsm).mono ?_
  rintro e w1 ⟨hb1, ⟨h1, rfl⟩ | ⟨h1, a1, c1, rfl, hs1⟩⟩
  · exact ⟨_, _, _, _, _, rfl, hb1, Or.inl ⟨rfl, h1⟩⟩
  · exact ⟨_, _, _, _, _, rfl, hb1, Or.inr ⟨rfl, h1, rfl, rfl, hs1⟩⟩

def UoPost (w : World) (R : Int × List Bd) (e : Ending) (w' : World) : Prop :=
  Below w.heap.size w w' ∧ ((R.1 = 0 ∧ ∃ v, e = .returned (.tuple #[v, .int .i64 0]) ∧ BV w' (fun _ => True) v R.2) ∨ (R.1 ≠ 0 ∧ e = .returned (.tuple #[.slice none 0 0, .int .i64 R.1])))
def UoInv (V : List ByteArray) (w : World) (R : Int × List Bd) (g : Nat) (sv lv : Value) (wr : World) : Prop :=
  ∃ (h : List (ByteArray × Tm)) (l : List Pr), UI V h l ∧ grtB (sAt h) = false ∧ uRun true g (sAt h) l = some R ∧ BV wr (fun _ => True) sv (sAt h) ∧ QV wr (fun _ => True) lv l ∧ Below w.heap.size w wr
theorem uRun_next {lim : Bool} {g : Nat} {s : List Bd} {p : Pr} {l : List Pr} {R : Int × List Bd} (h : uRun lim g s (p :: l) = some R) : ∃ g', g = g' + 1 ∧ ((∃ e s', uPair lim s l (onT s p.l) (onT s p.r) = .stop e s' ∧ R = (e, s')) ∨ ∃ s' l', uPair lim s l (onT s p.l) (onT s p.r) = .go s' l' ∧ uRun lim g' s' l' = some R) := by
  cases g with
  | zero => cases h
  | succ g =>
    refine ⟨g, rfl, ?_⟩
    rw [uRun, uNext_cons] at h
    cases hn : uPair lim s l (onT s p.l) (onT s p.r) with
    | stop e s' => rw [hn] at h; cases h; exact Or.inl ⟨e, s', rfl, rfl⟩
    | go s' l' => rw [hn] at h; exact Or.inr ⟨s', l', rfl, h⟩
/-- What the run says of two sides. -/
theorem uRun_pair {lim : Bool} {g : Nat} {s : List Bd} {p : Pr} {l : List Pr} {R : Int × List Bd} {a b : Tm} (h : uRun lim g s (p :: l) = some R) (ha : onT s p.l = a) (hb : onT s p.r = b) : ∃ g', g = g' + 1 ∧ ((∃ e s', uPair lim s l a b = .stop e s' ∧ R = (e, s')) ∨ ∃ s' l', uPair lim s l a b = .go s' l' ∧ uRun lim g' s' l' = some R) := by
  subst ha; subst hb; exact uRun_next h

theorem grt_le {s : List Bd} (h : grtB s = false) {d : Bd} (hd : d ∈ s) : sizeL [d.t] ≤ 2000 := by
  unfold grtB at h
  rw [List.any_eq_false] at h
  have := h d hd
  simp at this
  exact this
theorem zip_len2 : ∀ {a b : List Tm}, a.length = b.length → (zipP a b).length = a.length
  | [], [], _ => rfl
  | [], _ :: _, h => by simp at h
  | _ :: _, [], h => by simp at h
  | t :: a, u :: b, h => by rw [zipP, List.length_cons, zip_len2 (by simpa using h), List.length_cons]
theorem zip_get2 : ∀ {a b : List Tm} (k : Nat) (h1 : k < a.length) (h2 : k < b.length) {h3 : k < (zipP a b).length}, (zipP a b)[k] = ⟨a[k], b[k]⟩
  | [], _, k, h, _, _ => by simp at h
  | _ :: _, [], k, _, h, _ => by simp at h
  | t :: a, u :: b, 0, _, _, _ => rfl
  | t :: a, u :: b, k + 1, h1, h2, h3 => by
    have := zip_get2 (a := a) (b := b) k (by simpa using h1) (by simpa using h2) (h3 := by simpa [zipP] using h3)
    simpa [zipP] using this
/-- What a round reads. -/
def FvD (A B b1 b2 p1 p2 o1 o2 n1 n2 : Nat) (tA tB : Tm) (y1 y2 : Option Addr) (k1 k2 d1 d2 : Nat) (w' : World) : Prop :=
  w'.cell? ⟨A, 1, none⟩ = some (.slice (some ⟨b1, o1, none⟩) n1 k1) ∧ w'.cell? ⟨b1, p1, none⟩ = some (.string tA.name) ∧ w'.cell? ⟨b1, p1 + 1, none⟩ = some (.slice y1 tA.args.length d1) ∧ w'.cell? ⟨B, 1, none⟩ = some (.slice (some ⟨b2, o2, none⟩) n2 k2) ∧ w'.cell? ⟨b2, p2, none⟩ = some (.string tB.name) ∧ w'.cell? ⟨b2, p2 + 1, none⟩ = some (.slice y2 tB.args.length d2)
/-- What is known while pairs are laid. -/
def UdInv (w4 : World) (lA lB : List Tm) (u i : Value) (wq : World) : Prop :=
  ∃ (k : Nat) (cs : List Pc), i = .int .i64 (k : Int) ∧ k ≤ lA.length ∧ QRow wq w4.heap.size (fun b => b < w4.heap.size) u cs ∧ cs.map (·.1) = (zipP lA lB).take k ∧ Below w4.heap.size w4 wq
theorem cons_eq2 {a b : Value} {l k : List Value} (h : a = b) (h2 : l = k) : a :: l = b :: k := by rw [h, h2]
theorem sAt_len : ∀ h : List (ByteArray × Tm), (sAt h).length = h.length := fun h => by
  obtain ⟨k, hk⟩ : ∃ k : List (ByteArray × Tm), k.reverse = h := ⟨h.reverse, List.reverse_reverse h⟩
  subst hk
  induction k with
  | nil => simp [sAt]
  | cons p r ih =>
    rw [List.reverse_cons, sAt_snoc]
    unfold addS
    rw [(srtB_perm _).length_eq]
    simp [ih]
theorem bv_one2 {w : World} {B : Nat} {n : ByteArray} {t : Tm} {a : Option Addr} {c T : Nat} (h : Blk w B #[.string n, .string t.name, .slice a t.args.length c] T) (hs : Sl w (fun _ => True) a t.args) : BV w (fun _ => True) (.slice (some ⟨B, 0, none⟩) 1 1) [⟨n, t⟩] := by
  refine ⟨some ⟨B, 0, none⟩, 1, rfl, by simp, Or.inr ⟨B, 0, rfl, trivial, fun i hi => ?_⟩⟩
  have e : i = 0 := by simp at hi; omega
  subst e
  exact ⟨h.cell 0, h.cell 1, a, c, h.cell 2, hs⟩
/-- What is known while a binding is put into the others. -/
def UbInv (w7 : World) (s : List Bd) (x : ByteArray) (t : Tm) (u i : Value) (wq : World) : Prop :=
  ∃ (k : Nat) (cs : List Bc), i = .int .i64 (k : Int) ∧ k ≤ s.length ∧ BRow wq w7.heap.size (fun b => b < w7.heap.size) u cs ∧ cs.map (·.1) = (s.take k).map (putB x t) ∧ (∀ d ∈ s.take k, sizeL [onT [⟨x, t⟩] d.t] ≤ 2000) ∧ Below w7.heap.size w7 wq

set_option maxHeartbeats 4000000 in
theorem unifyOf_any (V : List ByteArray) (hV : V.length ≤ 400000) (R : Int × List Bd) (N : Nat) (l0 : List Pr) (v : Value) (w : World) (X : Nat → Prop) (hv : QV w X v l0) (hU : UI V [] l0) (hR : uRun true N [] l0 = some R) :
    Calls Try.prog 25 #[v] w fun e w' => UoPost w R e w' := by
  have HV := hide (hv.mono (Y := fun _ => True) fun _ _ _ => trivial)
  have HR := hide hR
  have HU := hide hU
  clear hR hv hU
  go_enter Try.func25, Try.ntmps25
  go_wp2_with fail
  go_loopg [4, 0] N (fun g s l wr => UoInv V w R g s l wr)
  case atStart => exact ⟨[], l0, HU.out, by simp [sAt, grtB], HR.out, ⟨none, 0, rfl, by simp [sAt], Or.inl rfl⟩, HV.out, Below.refl _ _⟩
  case round =>
    obtain ⟨h, l, hU, hgr, hR, hBV, hQV, hb⟩ := hrel
    clear HR HU HV
    have HU := hide hU
    have HGR := hide hgr
    have HR := hide hR
    have HBV := hide hBV
    have HQV := hide hQV
    have HB := hide hb
    obtain ⟨qa, qc, rfl, hq2, hq3⟩ := hQV
    clear hR hBV hb hq3 hU hgr
    cases l with
    | nil =>
      have HRR : Hid (R = (0, sAt h)) := by
        have h1 := HR.out
        cases gk with
        | zero => cases h1
        | succ gk => rw [uRun] at h1; simp [uNext] at h1; exact h1.symm
      go_wp2_with fail
      refine bodyPost_ret (v := .tuple #[u4, .int .i64 0]) (by simp [results, Try.results25, go_sem]) rfl ?_
      exact ⟨HB.out, Or.inl ⟨by rw [HRR.out], u4, rfl, by rw [HRR.out]; exact HBV.out⟩⟩
    | cons p l =>
      have hz := HU.out.size p (by simp)
      obtain ⟨b, o, a1, c1, a2, c2, rfl, d0, d1, d2, d3, hs1, hs2⟩ := HQV.out.get 0 (by simp)
      simp only [List.getElem_cons_zero, Nat.zero_mul, Nat.add_zero, List.length_cons] at d0 d1 d2 d3 hs1 hs2 hq2
      obtain ⟨hq2a, hq2b⟩ := hq2
      have hbl : b < wr.heap.size := cell_lt d0
      have HS2 := hide hs2
      obtain ⟨ta, hta⟩ : ∃ ta, onT (sAt h) p.l = ta := ⟨_, rfl⟩
      obtain ⟨tb, htb⟩ : ∃ tb, onT (sAt h) p.r = tb := ⟨_, rfl⟩
      have HTA := hide hta
      have HTB := hide htb
      have OA := onAll_at (fun _ => True) (sAt h) p.l u4 a1 c1 wr HBV.out hs1 (by omega)
      rw [hta] at OA
      obtain ⟨g1, hg1, hrun⟩ := uRun_pair HR.out hta htb
      have HG1 := hide hg1
      have HRUN := hide hrun
      have HZ2 : Hid (sizeL [p.r] ≤ 1000000) := by unfold Hid; omega
      clear hs1 hs2 hta htb hg1 hrun HR hz
      go_wp2_with fail
      refine OA.mono ?_
      rintro e w1 ⟨s1, x1, n1, k1, ok1, rfl, hb1, hc1⟩
      have HB1 := hide hb1
      have hzr : wr.heap.size ≤ w1.heap.size := hb1.size
      have d2' : ∀ o', (w1.alloc o').cell? ⟨b, o + 2, none⟩ = some (.string p.r.name) := fun o' => cell_later (hb1.alloc hb1.size o') d2
      have d3' : ∀ o', (w1.alloc o').cell? ⟨b, o + 2 + 1, none⟩ = some (.slice a2 p.r.args.length c2) := fun o' => cell_later (hb1.alloc hb1.size o') d3
      clear hb1 d0 d1 d2 d3 OA
      rcases hc1 with ⟨rfl, hg⟩ | ⟨rfl, hg, rfl, rfl, hx1⟩
      · have HRR : Hid (R = (8, sAt h)) := by
          have e : uPair true (sAt h) l ta tb = .stop 8 (sAt h) := by unfold uPair; rw [if_pos (Or.inl hg)]
          rcases HRUN.out with ⟨e1, s', e2, e3⟩ | ⟨s', l', e2, _⟩
          · rw [e] at e2; cases e2; exact e3
          · rw [e] at e2; cases e2
        clear hg
        go_wp2_with fail
        refine bodyPost_ret (v := .tuple #[.slice none 0 0, .int .i64 8]) (by simp [results, Try.results25, go_sem]) rfl ?_
        exact ⟨(HB.out.trans (HB1.out.mono HB.out.size)).alloc (Nat.le_trans HB.out.size HB1.out.size) _, Or.inr ⟨by rw [HRR.out]; exact (by decide : (8 : Int) ≠ 0), by rw [HRR.out]⟩⟩
      · have HZA := hide hg
        have HX1 := hide (hx1.mono (Y := fun b => b < w1.heap.size) fun _ _ h => h)
        have BA := hide (Blk.new w1 #[.string ta.name, .slice x1 ta.args.length k1] 29)
        have HB1' := hide (HB1.out.alloc HB1.out.size (.cells #[.string ta.name, .slice x1 ta.args.length k1] 29))
        have HX1' := hide (HX1.out.later ((Below.refl _ _).alloc (Nat.le_refl _) (.cells #[.string ta.name, .slice x1 ta.args.length k1] 29)))
        have hzw : (w1.alloc (.cells #[.string ta.name, .slice x1 ta.args.length k1] 29)).heap.size = w1.heap.size + 1 := by simp
        clear hg hx1
        go_wp2_with fail
        generalize (w1.alloc (.cells #[.string ta.name, .slice x1 ta.args.length k1] 29)) = w2 at *
        have OB := onAll_at (fun _ => True) (sAt h) p.r u4 a2 c2 w2 (HBV.out.later HB1'.out) (HS2.out.later HB1'.out) HZ2.out
        rw [HTB.out] at OB
        refine OB.mono ?_
        clear OB
        rintro e w3 ⟨s2, x2, n2, k2, ok2, rfl, hb3, hc2⟩
        have HB3 := hide (HB1'.out.trans (hb3.mono HB1'.out.size))
        have BA3 := hide (BA.out.below hb3 (by omega))
        have HX3 := hide (HX1'.out.later hb3)
        have hz3 : w1.heap.size + 1 ≤ w3.heap.size := by have := hb3.size; omega
        clear hb3
        rcases hc2 with ⟨rfl, hg⟩ | ⟨rfl, hg, rfl, rfl, hx2⟩
        · have HRR : Hid (R = (8, sAt h)) := by
            have e : uPair true (sAt h) l ta tb = .stop 8 (sAt h) := by unfold uPair; rw [if_pos (Or.inr hg)]
            rcases HRUN.out with ⟨e1, s', e2, e3⟩ | ⟨s', l', e2, _⟩
            · rw [e] at e2; cases e2; exact e3
            · rw [e] at e2; cases e2
          clear hg
          go_wp2_with fail
          refine bodyPost_ret (v := .tuple #[.slice none 0 0, .int .i64 8]) (by simp [results, Try.results25, go_sem]) rfl ?_
          exact ⟨(HB.out.trans (HB3.out.mono HB.out.size)).alloc (Nat.le_trans HB.out.size HB3.out.size) _, Or.inr ⟨by rw [HRR.out]; exact (by decide : (8 : Int) ≠ 0), by rw [HRR.out]⟩⟩
        · have HZB := hide hg
          have HX2 := hide (hx2.mono (Y := fun _ => True) fun _ _ _ => trivial)
          have BB := hide (Blk.new w3 #[.string tb.name, .slice x2 tb.args.length k2] 29)
          have BA4 := hide (BA3.out.alloc (.cells #[.string tb.name, .slice x2 tb.args.length k2] 29))
          have HB4 := hide (HB3.out.alloc HB3.out.size (.cells #[.string tb.name, .slice x2 tb.args.length k2] 29))
          have HXA := hide (HX3.out.later ((Below.refl _ _).alloc (Nat.le_refl _) (.cells #[.string tb.name, .slice x2 tb.args.length k2] 29)))
          have HXB := hide (HX2.out.later ((Below.refl _ _).alloc (Nat.le_refl _) (.cells #[.string tb.name, .slice x2 tb.args.length k2] 29)))
          have hzw4 : (w3.alloc (.cells #[.string tb.name, .slice x2 tb.args.length k2] 29)).heap.size = w3.heap.size + 1 := by simp
          have HTL := hide (HQV.out.tail)
          obtain ⟨sa, HSA⟩ : ∃ sa : Option Addr, Hid ((if qc = 1 then some (⟨b, o, none⟩ : Addr) else some ⟨b, o + 4, none⟩) = sa) := ⟨_, rfl⟩
          have hslq : ∀ w' : World, Sem.run Try.prog (Instr.slice 45 (.slice (some ⟨b, o, none⟩) (l.length + 1) qc) (some (.int .i64 1)) none none) w' = .ok (.slice sa l.length (qc - 1)) w' := fun w' => by
            rw [pair_tail_run b o l.length qc hq2b w', HSA.out]
          rw [HSA.out] at HTL
          have hle1 : (1 : Int) ≤ (l.length : Int) + 1 := by omega
          clear hg hx2 HX3 BA3 HX2 HX1 HX1' BA HB1 HB1' HB3 d2' d3' hzw
          have ba0 : (w3.alloc (.cells #[.string tb.name, .slice x2 tb.args.length k2] 29)).cell? ⟨w1.heap.size, 0, none⟩ = some (.string ta.name) := BA4.out.cell 0
          cases hva : varB ta.name with
          | true =>
            have HVA := hide hva
            clear hva
            by_cases hnn : ta.name = tb.name
            · have hnb := bytes_yes hnn
              have HNN := hide hnn
              clear hnn
              have HSTEP : Hid (uRun true g1 (sAt h) l = some R) := by
                have e : uPair true (sAt h) l ta tb = .go (sAt h) l := by unfold uPair; rw [if_neg (by have := HZA.out; have := HZB.out; omega), if_pos HVA.out, if_pos HNN.out]
                rcases HRUN.out with ⟨e1, s', e2, e3⟩ | ⟨s', l', e2, e3⟩
                · rw [e] at e2; cases e2
                · rw [e] at e2; cases e2; exact e3
              go_wp2_with (go_at_call 54; refine (isVarR_any _ _).mono ?_; rintro e w' ⟨rfl, rfl⟩; rw [HVA.out])
              go_roundg g1
              case rel => exact ⟨h, l, HU.out.drop, HGR.out, HSTEP.out, HBV.out.later HB4.out, HTL.out.later HB4.out, HB.out.trans (HB4.out.mono HB.out.size)⟩
              case measure => have := HG1.out; omega
            · have hnb := bytes_no hnn
              have HNN := hide hnn
              clear hnn
              go_wp2_with (go_at_call 54; refine (isVarR_any _ _).mono ?_; rintro e w' ⟨rfl, rfl⟩; rw [HVA.out])
              have HUP : Hid (uPair true (sAt h) l ta tb = uBind true (sAt h) l ta.name tb) := by
                unfold Hid uPair
                rw [if_neg (by have := HZA.out; have := HZB.out; omega), if_pos HVA.out, if_neg HNN.out]
              have UIB : Hid (¬ inB ta.name (varsP [] (preL [tb])) = true → MayAdd (sAt h) ta.name tb ∧ UI V (h ++ [(ta.name, tb)]) l) := fun ho => HU.out.bindV HVA.out (Or.inl ⟨by rw [HTA.out], by rw [HTB.out]⟩) ho
              have HXT := HXB
              have HZT := HZB
              have A4 := BA4
              have B4 := BB
              have HAL : Hid (w1.heap.size < w3.heap.size) := by unfold Hid; omega
              generalize (w3.alloc (.cells #[.string tb.name, .slice x2 tb.args.length k2] 29)) = w4 at *
              clear HZA HZB HXA HXB BA4 BB ba0 HNN hnb
              have a0 : w4.cell? ⟨w1.heap.size, 0, none⟩ = some (.string ta.name) := A4.out.cell 0
              have b0 : w4.cell? ⟨w3.heap.size, 0, none⟩ = some (.string tb.name) := B4.out.cell 0
              have b1 : w4.cell? ⟨w3.heap.size, 1, none⟩ = some (.slice x2 tb.args.length k2) := B4.out.cell 1
              have VF : Hid (∀ w', Below w4.heap.size w4 w' → Calls Try.prog 56 #[.agg #[.string tb.name, .slice x2 tb.args.length k2]] w' fun e w'' => ∃ v', e = .returned v' ∧ LV Value.string w'' (fun _ => True) v' (varsP [] (preL [tb])) ∧ Below w4.heap.size w4 w'' ∧ (w''.cell? ⟨w1.heap.size, 0, none⟩ = some (.string ta.name) ∧ w''.cell? ⟨w3.heap.size, 0, none⟩ = some (.string tb.name) ∧ w''.cell? ⟨w3.heap.size, 1, none⟩ = some (.slice x2 tb.args.length k2))) := fun w' hb => by
                refine (varsOf_any tb _ w' _ ⟨_, _, rfl, HXT.out.later hb⟩ (by have := HZT.out; omega)).mono ?_
                rintro e w'' ⟨v', rfl, hl, hb2⟩
                have hb3 := hb.trans (hb2.mono hb.size)
                exact ⟨v', rfl, hl.mono (fun _ _ _ => trivial), hb3, cell_later hb3 a0, cell_later hb3 b0, cell_later hb3 b1⟩
              have HS0 := hide (And.intro a0 (And.intro b0 b1))
              go_region_held3 (fun w' => w'.cell? ⟨w1.heap.size, 0, none⟩ = some (.string ta.name) ∧ w'.cell? ⟨w3.heap.size, 0, none⟩ = some (.string tb.name) ∧ w'.cell? ⟨w3.heap.size, 1, none⟩ = some (.slice x2 tb.args.length k2)) (first | exact hS | exact HS0.out | go_keep)
                (first
                  | (go_at_call 56; refine (VF.out _ (by first | exact Below.refl _ _ | exact (Below.refl _ _).drew)).mono ?_; rintro e w5 ⟨v5, rfl, hl5, hb5, hS⟩)
                  | (go_at_call 55; refine (in_any _ _ _ _ (fun _ => True) (by first | exact hl5 | exact hl5.kept (fun _ _ => rfl))).mono ?_; rintro e w6 ⟨rfl, hw6⟩; have hS : w6.cell? ⟨w1.heap.size, 0, none⟩ = some (.string ta.name) ∧ w6.cell? ⟨w3.heap.size, 0, none⟩ = some (.string tb.name) ∧ w6.cell? ⟨w3.heap.size, 1, none⟩ = some (.slice x2 tb.args.length k2) := (by rw [hw6]; first | exact hS | go_keep)))
              rw [hw6] at hS
              clear hw6
              have HB6 := hide hb5
              have HS6 := hide hS
              obtain ⟨e0, e1, e2⟩ := hS
              have HXT6 := hide (HXT.out.later HB6.out)
              clear hl5 hb5 VF HS0 a0 b0 b1 hS HXT A4 B4
              cases hin : inB ta.name (varsP [] (preL [tb])) with
              | true =>
                have HRR : Hid (R = (6, sAt h)) := by
                  have e : uPair true (sAt h) l ta tb = .stop 6 (sAt h) := by rw [HUP.out]; unfold uBind; rw [if_pos hin]
                  rcases HRUN.out with ⟨e1, s', e2, e3⟩ | ⟨s', l', e2, _⟩
                  · rw [e] at e2; cases e2; exact e3
                  · rw [e] at e2; cases e2
                clear hin
                go_wp2_with fail
                refine bodyPost_ret (v := .tuple #[.slice none 0 0, .int .i64 6]) (by simp [results, Try.results25, go_sem]) rfl ?_
                exact ⟨HB.out.trans ((HB4.out.trans (HB6.out.mono HB4.out.size)).mono HB.out.size), Or.inr ⟨by rw [HRR.out]; exact (by decide : (6 : Int) ≠ 0), by rw [HRR.out]⟩⟩
              | false =>
                have HIN := hide hin
                obtain ⟨MAY, hUn⟩ := UIB.out (by rw [hin]; simp)
                have HMAY := hide MAY
                have HUN := hide hUn
                clear hin MAY hUn UIB
                have HB60 : Hid (Below wr.heap.size wr w5) := HB4.out.trans (HB6.out.mono HB4.out.size)
                obtain ⟨ua, uc, rfl, hul, hu5⟩ := HBV.out
                clear hu5
                have hsl : (sAt h).length ≤ 400000 := by rw [sAt_len]; have := HU.out.hlen; omega
                have O7 := hide (Blk.new w5 #[.string ta.name, .string tb.name, .slice x2 tb.args.length k2] 55)
                have HB7 := hide (HB60.out.alloc HB60.out.size (.cells #[.string ta.name, .string tb.name, .slice x2 tb.args.length k2] 55))
                have HX7 := hide (HXT6.out.later ((Below.refl _ _).alloc (Nat.le_refl _) (.cells #[.string ta.name, .string tb.name, .slice x2 tb.args.length k2] 55)))
                have hz7 : (w5.alloc (.cells #[.string ta.name, .string tb.name, .slice x2 tb.args.length k2] 55)).heap.size = w5.heap.size + 1 := by simp
                go_wp2_with fail
                generalize (w5.alloc (.cells #[.string ta.name, .string tb.name, .slice x2 tb.args.length k2] 55)) = w7 at *
                have HONE := hide ((bv_one2 O7.out HX7.out).mono (Y := fun b => b < w7.heap.size) fun _ _ h => h)
                have HBV7 := hide ((HBV.out.later HB7.out).mono (Y := fun b => b < w7.heap.size) fun _ _ h => h)
                have HQ7 := hide (HTL.out.later HB7.out)
                clear e0 e1 e2 HS6 HXT6 HB6 HB60
                go_loopw [9, 10] (fun u i wq => UbInv w7 (sAt h) ta.name tb u i wq) (fun u i wq => (sAt h).length - (intOf i).toNat)
                case atStart => exact ⟨0, [], rfl, Nat.zero_le _, BRow.start _ _ _, by simp, by simp, Below.refl _ _⟩
                case round =>
                  obtain ⟨k, cs, rfl, hk, hrow, hcs, hfu, hb⟩ := hrel
                  have HROW := hide hrow
                  have HCS := hide hcs
                  have HFU := hide hfu
                  have HBQ := hide hb
                  clear hrow hcs hfu
                  have hcl : cs.length ≤ 1000000 := by
                    have h1 := congrArg List.length HCS.out
                    simp at h1
                    omega
                  by_cases hlt : k < (sAt h).length
                  · obtain ⟨b', o', a', c', rfl, d0, d1, d2, hs⟩ := (HBV7.out.later hb).get k hlt
                    have hlt2 : (k : Int) < ((sAt h).length : Int) := by omega
                    have HS := hide hs
                    have HSK : Hid (sizeL [(sAt h)[k].t] ≤ 1000000) := by have := grt_le HGR.out (List.getElem_mem hlt); unfold Hid; omega
                    clear hb hs
                    have OE := onAll_at (fun b => b < w7.heap.size) [⟨ta.name, tb⟩] (sAt h)[k].t _ a' c' wr (HONE.out.later HBQ.out) HS.out HSK.out
                    have HTKM : Hid (((sAt h).take (k + 1)).map (putB ta.name tb) = ((sAt h).take k).map (putB ta.name tb) ++ [putB ta.name tb (sAt h)[k]]) := by
                      unfold Hid
                      rw [List.take_succ_eq_append_getElem hlt, List.map_append]; rfl
                    have HTKF : Hid (sizeL [onT [⟨ta.name, tb⟩] (sAt h)[k].t] ≤ 2000 → ∀ d ∈ (sAt h).take (k + 1), sizeL [onT [⟨ta.name, tb⟩] d.t] ≤ 2000) := fun hle d hd => by
                      rw [List.take_succ_eq_append_getElem hlt] at hd
                      rcases List.mem_append.1 hd with hd | hd
                      · exact HFU.out d hd
                      · have e : d = (sAt h)[k] := by simpa using hd
                        rw [e]; exact hle
                    have HBIG : Hid (2000 < sizeL [onT [⟨ta.name, tb⟩] (sAt h)[k].t] → grtB ((sAt h).map (putB ta.name tb)) = true) := fun hg => by
                      unfold grtB
                      rw [List.any_eq_true]
                      exact ⟨putB ta.name tb (sAt h)[k], List.mem_map.2 ⟨_, List.getElem_mem hlt, rfl⟩, decide_eq_true hg⟩
                    have hnm : (putB ta.name tb (sAt h)[k]).nm = (sAt h)[k].nm := rfl
                    have htt : (putB ta.name tb (sAt h)[k]).t = onT [⟨ta.name, tb⟩] (sAt h)[k].t := rfl
                    rw [← htt] at OE HTKF HBIG
                    rw [← hnm] at d0
                    generalize putB ta.name tb (sAt h)[k] = d8 at *
                    generalize (sAt h)[k].t = dt at *
                    go_wp2_with fail
                    refine OE.mono ?_
                    clear OE hnm htt
                    rintro e w8 ⟨s8, x8, n8, k8, ok8, rfl, hb8, hc8⟩
                    have HB8 := hide (HBQ.out.trans (hb8.mono HBQ.out.size))
                    have HROW8 := hide (HROW.out.below hb8)
                    have HBR8 := hide hb8
                    have d0' := cell_later hb8 d0
                    have hz8 := hb8.size
                    clear hb8 d0 d1 d2
                    rcases hc8 with ⟨rfl, hbig⟩ | ⟨rfl, hle, rfl, rfl, hsl8⟩
                    · have HRR : Hid (R = (8, sAt h)) := by
                        have e : uPair true (sAt h) l ta tb = .stop 8 (sAt h) := by rw [HUP.out]; unfold uBind; rw [if_neg (by rw [HIN.out]; simp), if_pos (by rw [HBIG.out hbig]; rfl)]
                        rcases HRUN.out with ⟨e1, s', e2, e3⟩ | ⟨s', l', e2, _⟩
                        · rw [e] at e2; cases e2; exact e3
                        · rw [e] at e2; cases e2
                      go_wp2_with fail
                      refine bodyPost_ret (v := .tuple #[.slice none 0 0, .int .i64 8]) (by simp [results, Try.results25, go_sem]) rfl ?_
                      have hz := HB7.out.size
                      exact ⟨(HB.out.trans ((HB7.out.trans (HB8.out.mono HB7.out.size)).mono HB.out.size)).alloc (Nat.le_trans HB.out.size (Nat.le_trans HB7.out.size HB8.out.size)) _, Or.inr ⟨by rw [HRR.out]; exact (by decide : (8 : Int) ≠ 0), by rw [HRR.out]⟩⟩
                    · have HSL := hide hsl8
                      have HFU1 := hide (HTKF.out hle)
                      clear hsl8 HTKF HBIG
                      go_wp2_with fail
                      have P9 := hide (Blk.new w8 #[.string d8.t.name, .slice x8 d8.t.args.length k8] 29)
                      have hbA : Below w8.heap.size w8 (w8.alloc (.cells #[.string d8.t.name, .slice x8 d8.t.args.length k8] 29)) := (Below.refl _ _).alloc (Nat.le_refl _) _
                      have HB9 := hide (HB8.out.trans (hbA.mono HB8.out.size))
                      have HROW9 := hide (HROW8.out.below hbA)
                      have HBR9 := hide (HBR8.out.trans (hbA.mono HBR8.out.size))
                      have HSL9 := hide (HSL.out.later hbA)
                      have d3 := cell_later hbA d0'
                      have q0 := P9.out.cell 0
                      have q1 := P9.out.cell 1
                      clear hbA d0' P9
                      generalize w8.alloc (.cells #[.string d8.t.name, .slice x8 d8.t.args.length k8] 29) = w9 at *
                      generalize w8.heap.size = P at *
                      obtain ⟨i0, hi, hz0, hzz1, hzz2⟩ := info_parts Try.infoBind
                      go_region_law (refine step_append_lies _ rfl _ _ 23 rfl w7.heap.size 55 i0 _ 3 56 Try.underlying23 hi hz0 hzz1 hzz2 rfl (by decide) u9 cs.length (flat3 cs) rfl (by exact (HROW9.out.below (below_drewN (Below.refl _ _) 1)).own.alloc _) ⟨w9.heap.size, 0, none⟩ 1 1 (enc3 (d8, x8, k8)) rfl rfl (cell_three_new _ _ _ _ _) (fun x hx => by simp [enc3] at hx; rcases hx with rfl | rfl | rfl <;> rfl) (by decide) (by unfold maxLen; omega) (by omega) (by have := HB9.out.size; simp; omega) _ rfl ?_; intro g cap wA hownA hgrowA hatA hltA)
                      all_goals
                        have HRA := hide (HROW.out.push (w1 := w9.drew) (x := (d8, x8, k8)) HBQ.out.size (fun b h => h) (below_drewN HBR9.out 1) ((HSL9.out.later (below_drewN (Below.refl _ _) 1)).mono fun b hb _ => by rcases hb with hb | hb; exact Or.inl hb.1; exact Or.inr (by omega)) _ rfl hownA hgrowA hatA)
                        have HBA : Hid (Below w7.heap.size w7 wA) := ((below_drewN HB9.out 1).alloc (by have := HB9.out.size; simp; omega) _).grown hgrowA (by have := HB9.out.size; simp; omega) (fun j hj => by have := (HROW9.out.own.lt j hj).1; omega)
                        clear hownA hgrowA hatA hltA
                        go_wp2_with fail
                        go_roundw
                        case rel => exact ⟨k + 1, cs ++ [(d8, x8, k8)], by go_num, by omega, HRA.out, by rw [HTKM.out, List.map_append, HCS.out]; rfl, HFU1.out, HBA.out⟩
                        case measure => simp [intOf]; omega
                  · have htk : (sAt h).take k = sAt h := List.take_of_length_le (by omega)
                    rw [htk] at HCS HFU
                    have r0 : wr.cell? ⟨w5.heap.size, 0, none⟩ = some (.string ta.name) := cell_later HBQ.out (O7.out.cell 0)
                    have r1 : wr.cell? ⟨w5.heap.size, 1, none⟩ = some (.string tb.name) := cell_later HBQ.out (O7.out.cell 1)
                    have r2 : wr.cell? ⟨w5.heap.size, 2, none⟩ = some (.slice x2 tb.args.length k2) := cell_later HBQ.out (O7.out.cell 2)
                    obtain ⟨v10, w10, hrun10, hR10, hg10⟩ := binds_append HROW.out HBQ.out.size (fun _ h => h) (Below.refl _ _) (⟨ta.name, tb⟩, x2, k2) ((HX7.out.mono (Y := fun b => b < w7.heap.size) fun _ _ h => h).later HBQ.out |>.mono fun b hb _ => Or.inl hb) hcl wr.heap.size rfl
                    have HRUN10 := hide hrun10
                    have HB10 : Hid (Below w7.heap.size w7 w10) := (HBQ.out.alloc HBQ.out.size _).grown hg10 (by have := HBQ.out.size; simp; omega) (fun j hj => (HROW.out.own.lt j hj).1)
                    have hls : ((cs ++ [((⟨ta.name, tb⟩ : Bd), x2, k2)]).map (·.1)) = (sAt h).map (putB ta.name tb) ++ [⟨ta.name, tb⟩] := by rw [List.map_append, HCS.out]; rfl
                    have hbv10 := hR10.bv
                    rw [hls] at hbv10
                    have SRT := sorted_any ((sAt h).map (putB ta.name tb) ++ [⟨ta.name, tb⟩]) v10 w10 _ hbv10 (by simp; omega)
                    have HNX : Hid (uRun true g1 (sAt (h ++ [(ta.name, tb)])) l = some R ∧ grtB (sAt (h ++ [(ta.name, tb)])) = false) := by
                      have hg : grtB ((sAt h).map (putB ta.name tb)) = false := by
                        unfold grtB
                        rw [List.any_eq_false]
                        intro d hd
                        obtain ⟨d', hd', rfl⟩ := List.mem_map.1 hd
                        have := HFU.out d' hd'
                        intro hc
                        have h2 : 2000 < sizeL [onT [⟨ta.name, tb⟩] d'.t] := of_decide_eq_true hc
                        omega
                      have e : uPair true (sAt h) l ta tb = .go (addS (sAt h) ta.name tb) l := by rw [HUP.out]; unfold uBind; rw [if_neg (by rw [HIN.out]; simp), if_neg (by rw [hg]; simp)]; rfl
                      have hz := HZT.out
                      refine ⟨?_, ?_⟩
                      · rw [sAt_snoc]
                        rcases HRUN.out with ⟨e1, s', e2, e3⟩ | ⟨s', l', e2, e3⟩
                        · rw [e] at e2; cases e2
                        · rw [e] at e2; cases e2; exact e3
                      · rw [sAt_snoc]
                        unfold addS
                        rw [grtB_new, hg]
                        simpa using hz
                    clear hrun10 hR10 hg10 hls hbv10 htk hb
                    go_wp2_with (at_builtin; refine wpList_append_eq rfl _ _ _ _ rfl rfl rfl HRUN10.out ?_)
                    refine SRT.mono ?_
                    clear SRT
                    rintro e w11 ⟨v11, cs11, rfl, hR11, hp11, hw11, hb11⟩
                    have HBV11 : Hid (BV w11 (fun _ => True) v11 (sAt (h ++ [(ta.name, tb)]))) := by
                      unfold Hid
                      rw [sAt_snoc]
                      have ap := add_apart (t := tb) HU.out.good.all.1 HMAY.out.2.1
                      have e : cs11.map (·.1) = addS (sAt h) ta.name tb := sortedB_unique (hp11.trans (srtB_perm _).symm) (sortedB_of (ap.perm hp11) (List.pairwise_map.2 hw11)) (srtB_sorted _ ap)
                      rw [← e]
                      exact hR11.bv.mono fun _ _ _ => trivial
                    have HB11 := hide (HB10.out.trans (hb11.mono HB10.out.size))
                    clear hR11 hp11 hw11 hb11
                    go_wp2_with fail
                    go_roundg g1
                    case rel => exact ⟨h ++ [(ta.name, tb)], l, HUN.out, HNX.out.2, HNX.out.1, HBV11.out, HQ7.out.later HB11.out, HB.out.trans ((HB7.out.trans (HB11.out.mono HB7.out.size)).mono HB.out.size)⟩
                    case measure => have := HG1.out; omega
          | false =>
            have HVA := hide hva
            clear hva
            have hAB : w1.heap.size ≠ w3.heap.size := by omega
            have a0 : (w3.alloc (.cells #[.string tb.name, .slice x2 tb.args.length k2] 29)).cell? ⟨w1.heap.size, 0, none⟩ = some (.string ta.name) := BA4.out.cell 0
            have a1' : (w3.alloc (.cells #[.string tb.name, .slice x2 tb.args.length k2] 29)).cell? ⟨w1.heap.size, 1, none⟩ = some (.slice x1 ta.args.length k1) := BA4.out.cell 1
            have b0 : (w3.alloc (.cells #[.string tb.name, .slice x2 tb.args.length k2] 29)).cell? ⟨w3.heap.size, 0, none⟩ = some (.string tb.name) := BB.out.cell 0
            have b1' : (w3.alloc (.cells #[.string tb.name, .slice x2 tb.args.length k2] 29)).cell? ⟨w3.heap.size, 1, none⟩ = some (.slice x2 tb.args.length k2) := BB.out.cell 1
            cases hvb : varB tb.name with
            | true =>
              have HVB := hide hvb
              clear hvb
              have fa0 : (w3.alloc (.cells #[.string tb.name, .slice x2 tb.args.length k2] 29)).frozen? ⟨w1.heap.size, 0, none⟩ = false := BA4.out.frozen 0
              have S1 := BA4.out.set 0 (.string tb.name)
              have fa1 : ((w3.alloc (.cells #[.string tb.name, .slice x2 tb.args.length k2] 29)).setCell ⟨w1.heap.size, 0, none⟩ (.string tb.name)).frozen? ⟨w1.heap.size, 1, none⟩ = false := S1.frozen 1
              have S2 := S1.set 1 (.slice x2 tb.args.length k2)
              have T2 := (BB.out.setOther 0 (.string tb.name) hAB.symm).setOther 1 (.slice x2 tb.args.length k2) hAB.symm
              have fb0 : (((w3.alloc (.cells #[.string tb.name, .slice x2 tb.args.length k2] 29)).setCell ⟨w1.heap.size, 0, none⟩ (.string tb.name)).setCell ⟨w1.heap.size, 1, none⟩ (.slice x2 tb.args.length k2)).frozen? ⟨w3.heap.size, 0, none⟩ = false := T2.frozen 0
              have T3 := T2.set 0 (.string ta.name)
              have fb1 : ((((w3.alloc (.cells #[.string tb.name, .slice x2 tb.args.length k2] 29)).setCell ⟨w1.heap.size, 0, none⟩ (.string tb.name)).setCell ⟨w1.heap.size, 1, none⟩ (.slice x2 tb.args.length k2)).setCell ⟨w3.heap.size, 0, none⟩ (.string ta.name)).frozen? ⟨w3.heap.size, 1, none⟩ = false := T3.frozen 1
              have T4 := T3.set 1 (.slice x1 ta.args.length k1)
              have S4 := (S2.setOther 0 (.string ta.name) hAB).setOther 1 (.slice x1 ta.args.length k1) hAB
              have hkS : ∀ b, b ≠ w1.heap.size → b ≠ w3.heap.size → (((((w3.alloc (.cells #[.string tb.name, .slice x2 tb.args.length k2] 29)).setCell ⟨w1.heap.size, 0, none⟩ (.string tb.name)).setCell ⟨w1.heap.size, 1, none⟩ (.slice x2 tb.args.length k2)).setCell ⟨w3.heap.size, 0, none⟩ (.string ta.name)).setCell ⟨w3.heap.size, 1, none⟩ (.slice x1 ta.args.length k1)).heap[b]? = (w3.alloc (.cells #[.string tb.name, .slice x2 tb.args.length k2] 29)).heap[b]? := fun b h1 h2 => by
                rw [Below.heap_setCell _ _ _ _ (by simpa using h2), Below.heap_setCell _ _ _ _ (by simpa using h2), Below.heap_setCell _ _ _ _ (by simpa using h1), Below.heap_setCell _ _ _ _ (by simpa using h1)]
              have A4 : Hid (Blk (((((w3.alloc (.cells #[.string tb.name, .slice x2 tb.args.length k2] 29)).setCell ⟨w1.heap.size, 0, none⟩ (.string tb.name)).setCell ⟨w1.heap.size, 1, none⟩ (.slice x2 tb.args.length k2)).setCell ⟨w3.heap.size, 0, none⟩ (.string ta.name)).setCell ⟨w3.heap.size, 1, none⟩ (.slice x1 ta.args.length k1)) w1.heap.size #[.string tb.name, .slice x2 tb.args.length k2] 29) := hide (by simpa using S4)
              have B4 : Hid (Blk (((((w3.alloc (.cells #[.string tb.name, .slice x2 tb.args.length k2] 29)).setCell ⟨w1.heap.size, 0, none⟩ (.string tb.name)).setCell ⟨w1.heap.size, 1, none⟩ (.slice x2 tb.args.length k2)).setCell ⟨w3.heap.size, 0, none⟩ (.string ta.name)).setCell ⟨w3.heap.size, 1, none⟩ (.slice x1 ta.args.length k1)) w3.heap.size #[.string ta.name, .slice x1 ta.args.length k1] 29) := hide (by simpa using T4)
              have HXT : Hid (Sl (((((w3.alloc (.cells #[.string tb.name, .slice x2 tb.args.length k2] 29)).setCell ⟨w1.heap.size, 0, none⟩ (.string tb.name)).setCell ⟨w1.heap.size, 1, none⟩ (.slice x2 tb.args.length k2)).setCell ⟨w3.heap.size, 0, none⟩ (.string ta.name)).setCell ⟨w3.heap.size, 1, none⟩ (.slice x1 ta.args.length k1)) (fun _ => True) x1 ta.args) := (HXA.out.kept fun b hb => hkS b (by omega) (by omega)).mono fun _ _ _ => trivial
              have HB4' : Hid (Below wr.heap.size wr (((((w3.alloc (.cells #[.string tb.name, .slice x2 tb.args.length k2] 29)).setCell ⟨w1.heap.size, 0, none⟩ (.string tb.name)).setCell ⟨w1.heap.size, 1, none⟩ (.slice x2 tb.args.length k2)).setCell ⟨w3.heap.size, 0, none⟩ (.string ta.name)).setCell ⟨w3.heap.size, 1, none⟩ (.slice x1 ta.args.length k1))) := ⟨HB4.out.os, HB4.out.tape, HB4.out.output, by have := HB4.out.size; simpa [World.setCell] using this, fun b hb => (hkS b (by omega) (by omega)).trans (HB4.out.block b hb)⟩
              have hzw4' : (((((w3.alloc (.cells #[.string tb.name, .slice x2 tb.args.length k2] 29)).setCell ⟨w1.heap.size, 0, none⟩ (.string tb.name)).setCell ⟨w1.heap.size, 1, none⟩ (.slice x2 tb.args.length k2)).setCell ⟨w3.heap.size, 0, none⟩ (.string ta.name)).setCell ⟨w3.heap.size, 1, none⟩ (.slice x1 ta.args.length k1)).heap.size = w3.heap.size + 1 := by simp [World.setCell]
              have HUP : Hid (uPair true (sAt h) l ta tb = uBind true (sAt h) l tb.name ta) := by
                unfold Hid uPair
                rw [if_neg (by have := HZA.out; have := HZB.out; omega), if_neg (by rw [HVA.out]; simp), if_pos HVB.out]
              have UIB : Hid (¬ inB tb.name (varsP [] (preL [ta])) = true → MayAdd (sAt h) tb.name ta ∧ UI V (h ++ [(tb.name, ta)]) l) := fun ho => HU.out.bindV HVB.out (Or.inr ⟨by rw [HTB.out], by rw [HTA.out]⟩) ho
              have HZT := HZA
              have HAL : Hid (w1.heap.size < w3.heap.size) := by unfold Hid; omega
              clear S1 S2 S4 T2 T3 T4 hkS HZA HZB HXA HXB
              go_wp2_with (go_at_call 54; refine (isVarR_any _ _).mono ?_; rintro e w' ⟨rfl, rfl⟩; (first | rw [HVA.out] | rw [HVB.out]))
              clear HB4 hzw4 BA4 BB ba0 a0 a1' b0 b1' fa0 fa1 fb0 fb1
              generalize (((((w3.alloc (.cells #[.string tb.name, .slice x2 tb.args.length k2] 29)).setCell ⟨w1.heap.size, 0, none⟩ (.string tb.name)).setCell ⟨w1.heap.size, 1, none⟩ (.slice x2 tb.args.length k2)).setCell ⟨w3.heap.size, 0, none⟩ (.string ta.name)).setCell ⟨w3.heap.size, 1, none⟩ (.slice x1 ta.args.length k1)) = w4 at *
              have HB4 := HB4'
              clear HB4' hzw4'
              have a0 : w4.cell? ⟨w1.heap.size, 0, none⟩ = some (.string tb.name) := A4.out.cell 0
              have b0 : w4.cell? ⟨w3.heap.size, 0, none⟩ = some (.string ta.name) := B4.out.cell 0
              have b1 : w4.cell? ⟨w3.heap.size, 1, none⟩ = some (.slice x1 ta.args.length k1) := B4.out.cell 1
              have VF : Hid (∀ w', Below w4.heap.size w4 w' → Calls Try.prog 56 #[.agg #[.string ta.name, .slice x1 ta.args.length k1]] w' fun e w'' => ∃ v', e = .returned v' ∧ LV Value.string w'' (fun _ => True) v' (varsP [] (preL [ta])) ∧ Below w4.heap.size w4 w'' ∧ (w''.cell? ⟨w1.heap.size, 0, none⟩ = some (.string tb.name) ∧ w''.cell? ⟨w3.heap.size, 0, none⟩ = some (.string ta.name) ∧ w''.cell? ⟨w3.heap.size, 1, none⟩ = some (.slice x1 ta.args.length k1))) := fun w' hb => by
                refine (varsOf_any ta _ w' _ ⟨_, _, rfl, HXT.out.later hb⟩ (by have := HZT.out; omega)).mono ?_
                rintro e w'' ⟨v', rfl, hl, hb2⟩
                have hb3 := hb.trans (hb2.mono hb.size)
                exact ⟨v', rfl, hl.mono (fun _ _ _ => trivial), hb3, cell_later hb3 a0, cell_later hb3 b0, cell_later hb3 b1⟩
              have HS0 := hide (And.intro a0 (And.intro b0 b1))
              go_region_held3 (fun w' => w'.cell? ⟨w1.heap.size, 0, none⟩ = some (.string tb.name) ∧ w'.cell? ⟨w3.heap.size, 0, none⟩ = some (.string ta.name) ∧ w'.cell? ⟨w3.heap.size, 1, none⟩ = some (.slice x1 ta.args.length k1)) (first | exact hS | exact HS0.out | go_keep)
                (first
                  | (go_at_call 56; refine (VF.out _ (by first | exact Below.refl _ _ | exact (Below.refl _ _).drew)).mono ?_; rintro e w5 ⟨v5, rfl, hl5, hb5, hS⟩)
                  | (go_at_call 55; refine (in_any _ _ _ _ (fun _ => True) (by first | exact hl5 | exact hl5.kept (fun _ _ => rfl))).mono ?_; rintro e w6 ⟨rfl, hw6⟩; have hS : w6.cell? ⟨w1.heap.size, 0, none⟩ = some (.string tb.name) ∧ w6.cell? ⟨w3.heap.size, 0, none⟩ = some (.string ta.name) ∧ w6.cell? ⟨w3.heap.size, 1, none⟩ = some (.slice x1 ta.args.length k1) := (by rw [hw6]; first | exact hS | go_keep)))
              rw [hw6] at hS
              clear hw6
              have HB6 := hide hb5
              have HS6 := hide hS
              obtain ⟨e0, e1, e2⟩ := hS
              have HXT6 := hide (HXT.out.later HB6.out)
              clear hl5 hb5 VF HS0 a0 b0 b1 hS HXT A4 B4
              cases hin : inB tb.name (varsP [] (preL [ta])) with
              | true =>
                have HRR : Hid (R = (6, sAt h)) := by
                  have e : uPair true (sAt h) l ta tb = .stop 6 (sAt h) := by rw [HUP.out]; unfold uBind; rw [if_pos hin]
                  rcases HRUN.out with ⟨e1, s', e2, e3⟩ | ⟨s', l', e2, _⟩
                  · rw [e] at e2; cases e2; exact e3
                  · rw [e] at e2; cases e2
                clear hin
                go_wp2_with fail
                refine bodyPost_ret (v := .tuple #[.slice none 0 0, .int .i64 6]) (by simp [results, Try.results25, go_sem]) rfl ?_
                exact ⟨HB.out.trans ((HB4.out.trans (HB6.out.mono HB4.out.size)).mono HB.out.size), Or.inr ⟨by rw [HRR.out]; exact (by decide : (6 : Int) ≠ 0), by rw [HRR.out]⟩⟩
              | false =>
                have HIN := hide hin
                obtain ⟨MAY, hUn⟩ := UIB.out (by rw [hin]; simp)
                have HMAY := hide MAY
                have HUN := hide hUn
                clear hin MAY hUn UIB
                have HB60 : Hid (Below wr.heap.size wr w5) := HB4.out.trans (HB6.out.mono HB4.out.size)
                obtain ⟨ua, uc, rfl, hul, hu5⟩ := HBV.out
                clear hu5
                have hsl : (sAt h).length ≤ 400000 := by rw [sAt_len]; have := HU.out.hlen; omega
                have O7 := hide (Blk.new w5 #[.string tb.name, .string ta.name, .slice x1 ta.args.length k1] 55)
                have HB7 := hide (HB60.out.alloc HB60.out.size (.cells #[.string tb.name, .string ta.name, .slice x1 ta.args.length k1] 55))
                have HX7 := hide (HXT6.out.later ((Below.refl _ _).alloc (Nat.le_refl _) (.cells #[.string tb.name, .string ta.name, .slice x1 ta.args.length k1] 55)))
                have hz7 : (w5.alloc (.cells #[.string tb.name, .string ta.name, .slice x1 ta.args.length k1] 55)).heap.size = w5.heap.size + 1 := by simp
                go_wp2_with fail
                generalize (w5.alloc (.cells #[.string tb.name, .string ta.name, .slice x1 ta.args.length k1] 55)) = w7 at *
                have HONE := hide ((bv_one2 O7.out HX7.out).mono (Y := fun b => b < w7.heap.size) fun _ _ h => h)
                have HBV7 := hide ((HBV.out.later HB7.out).mono (Y := fun b => b < w7.heap.size) fun _ _ h => h)
                have HQ7 := hide (HTL.out.later HB7.out)
                clear e0 e1 e2 HS6 HXT6 HB6 HB60
                go_loopw [9, 10] (fun u i wq => UbInv w7 (sAt h) tb.name ta u i wq) (fun u i wq => (sAt h).length - (intOf i).toNat)
                case atStart => exact ⟨0, [], rfl, Nat.zero_le _, BRow.start _ _ _, by simp, by simp, Below.refl _ _⟩
                case round =>
                  obtain ⟨k, cs, rfl, hk, hrow, hcs, hfu, hb⟩ := hrel
                  have HROW := hide hrow
                  have HCS := hide hcs
                  have HFU := hide hfu
                  have HBQ := hide hb
                  clear hrow hcs hfu
                  have hcl : cs.length ≤ 1000000 := by
                    have h1 := congrArg List.length HCS.out
                    simp at h1
                    omega
                  by_cases hlt : k < (sAt h).length
                  · obtain ⟨b', o', a', c', rfl, d0, d1, d2, hs⟩ := (HBV7.out.later hb).get k hlt
                    have hlt2 : (k : Int) < ((sAt h).length : Int) := by omega
                    have HS := hide hs
                    have HSK : Hid (sizeL [(sAt h)[k].t] ≤ 1000000) := by have := grt_le HGR.out (List.getElem_mem hlt); unfold Hid; omega
                    clear hb hs
                    have OE := onAll_at (fun b => b < w7.heap.size) [⟨tb.name, ta⟩] (sAt h)[k].t _ a' c' wr (HONE.out.later HBQ.out) HS.out HSK.out
                    have HTKM : Hid (((sAt h).take (k + 1)).map (putB tb.name ta) = ((sAt h).take k).map (putB tb.name ta) ++ [putB tb.name ta (sAt h)[k]]) := by
                      unfold Hid
                      rw [List.take_succ_eq_append_getElem hlt, List.map_append]; rfl
                    have HTKF : Hid (sizeL [onT [⟨tb.name, ta⟩] (sAt h)[k].t] ≤ 2000 → ∀ d ∈ (sAt h).take (k + 1), sizeL [onT [⟨tb.name, ta⟩] d.t] ≤ 2000) := fun hle d hd => by
                      rw [List.take_succ_eq_append_getElem hlt] at hd
                      rcases List.mem_append.1 hd with hd | hd
                      · exact HFU.out d hd
                      · have e : d = (sAt h)[k] := by simpa using hd
                        rw [e]; exact hle
                    have HBIG : Hid (2000 < sizeL [onT [⟨tb.name, ta⟩] (sAt h)[k].t] → grtB ((sAt h).map (putB tb.name ta)) = true) := fun hg => by
                      unfold grtB
                      rw [List.any_eq_true]
                      exact ⟨putB tb.name ta (sAt h)[k], List.mem_map.2 ⟨_, List.getElem_mem hlt, rfl⟩, decide_eq_true hg⟩
                    have hnm : (putB tb.name ta (sAt h)[k]).nm = (sAt h)[k].nm := rfl
                    have htt : (putB tb.name ta (sAt h)[k]).t = onT [⟨tb.name, ta⟩] (sAt h)[k].t := rfl
                    rw [← htt] at OE HTKF HBIG
                    rw [← hnm] at d0
                    generalize putB tb.name ta (sAt h)[k] = d8 at *
                    generalize (sAt h)[k].t = dt at *
                    go_wp2_with fail
                    refine OE.mono ?_
                    clear OE hnm htt
                    rintro e w8 ⟨s8, x8, n8, k8, ok8, rfl, hb8, hc8⟩
                    have HB8 := hide (HBQ.out.trans (hb8.mono HBQ.out.size))
                    have HROW8 := hide (HROW.out.below hb8)
                    have HBR8 := hide hb8
                    have d0' := cell_later hb8 d0
                    have hz8 := hb8.size
                    clear hb8 d0 d1 d2
                    rcases hc8 with ⟨rfl, hbig⟩ | ⟨rfl, hle, rfl, rfl, hsl8⟩
                    · have HRR : Hid (R = (8, sAt h)) := by
                        have e : uPair true (sAt h) l ta tb = .stop 8 (sAt h) := by rw [HUP.out]; unfold uBind; rw [if_neg (by rw [HIN.out]; simp), if_pos (by rw [HBIG.out hbig]; rfl)]
                        rcases HRUN.out with ⟨e1, s', e2, e3⟩ | ⟨s', l', e2, _⟩
                        · rw [e] at e2; cases e2; exact e3
                        · rw [e] at e2; cases e2
                      go_wp2_with fail
                      refine bodyPost_ret (v := .tuple #[.slice none 0 0, .int .i64 8]) (by simp [results, Try.results25, go_sem]) rfl ?_
                      have hz := HB7.out.size
                      exact ⟨(HB.out.trans ((HB7.out.trans (HB8.out.mono HB7.out.size)).mono HB.out.size)).alloc (Nat.le_trans HB.out.size (Nat.le_trans HB7.out.size HB8.out.size)) _, Or.inr ⟨by rw [HRR.out]; exact (by decide : (8 : Int) ≠ 0), by rw [HRR.out]⟩⟩
                    · have HSL := hide hsl8
                      have HFU1 := hide (HTKF.out hle)
                      clear hsl8 HTKF HBIG
                      go_wp2_with fail
                      have P9 := hide (Blk.new w8 #[.string d8.t.name, .slice x8 d8.t.args.length k8] 29)
                      have hbA : Below w8.heap.size w8 (w8.alloc (.cells #[.string d8.t.name, .slice x8 d8.t.args.length k8] 29)) := (Below.refl _ _).alloc (Nat.le_refl _) _
                      have HB9 := hide (HB8.out.trans (hbA.mono HB8.out.size))
                      have HROW9 := hide (HROW8.out.below hbA)
                      have HBR9 := hide (HBR8.out.trans (hbA.mono HBR8.out.size))
                      have HSL9 := hide (HSL.out.later hbA)
                      have d3 := cell_later hbA d0'
                      have q0 := P9.out.cell 0
                      have q1 := P9.out.cell 1
                      clear hbA d0' P9
                      generalize w8.alloc (.cells #[.string d8.t.name, .slice x8 d8.t.args.length k8] 29) = w9 at *
                      generalize w8.heap.size = P at *
                      obtain ⟨i0, hi, hz0, hzz1, hzz2⟩ := info_parts Try.infoBind
                      go_region_law (refine step_append_lies _ rfl _ _ 23 rfl w7.heap.size 55 i0 _ 3 56 Try.underlying23 hi hz0 hzz1 hzz2 rfl (by decide) u9 cs.length (flat3 cs) rfl (by exact (HROW9.out.below (below_drewN (Below.refl _ _) 1)).own.alloc _) ⟨w9.heap.size, 0, none⟩ 1 1 (enc3 (d8, x8, k8)) rfl rfl (cell_three_new _ _ _ _ _) (fun x hx => by simp [enc3] at hx; rcases hx with rfl | rfl | rfl <;> rfl) (by decide) (by unfold maxLen; omega) (by omega) (by have := HB9.out.size; simp; omega) _ rfl ?_; intro g cap wA hownA hgrowA hatA hltA)
                      all_goals
                        have HRA := hide (HROW.out.push (w1 := w9.drew) (x := (d8, x8, k8)) HBQ.out.size (fun b h => h) (below_drewN HBR9.out 1) ((HSL9.out.later (below_drewN (Below.refl _ _) 1)).mono fun b hb _ => by rcases hb with hb | hb; exact Or.inl hb.1; exact Or.inr (by omega)) _ rfl hownA hgrowA hatA)
                        have HBA : Hid (Below w7.heap.size w7 wA) := ((below_drewN HB9.out 1).alloc (by have := HB9.out.size; simp; omega) _).grown hgrowA (by have := HB9.out.size; simp; omega) (fun j hj => by have := (HROW9.out.own.lt j hj).1; omega)
                        clear hownA hgrowA hatA hltA
                        go_wp2_with fail
                        go_roundw
                        case rel => exact ⟨k + 1, cs ++ [(d8, x8, k8)], by go_num, by omega, HRA.out, by rw [HTKM.out, List.map_append, HCS.out]; rfl, HFU1.out, HBA.out⟩
                        case measure => simp [intOf]; omega
                  · have htk : (sAt h).take k = sAt h := List.take_of_length_le (by omega)
                    rw [htk] at HCS HFU
                    have r0 : wr.cell? ⟨w5.heap.size, 0, none⟩ = some (.string tb.name) := cell_later HBQ.out (O7.out.cell 0)
                    have r1 : wr.cell? ⟨w5.heap.size, 1, none⟩ = some (.string ta.name) := cell_later HBQ.out (O7.out.cell 1)
                    have r2 : wr.cell? ⟨w5.heap.size, 2, none⟩ = some (.slice x1 ta.args.length k1) := cell_later HBQ.out (O7.out.cell 2)
                    obtain ⟨v10, w10, hrun10, hR10, hg10⟩ := binds_append HROW.out HBQ.out.size (fun _ h => h) (Below.refl _ _) (⟨tb.name, ta⟩, x1, k1) ((HX7.out.mono (Y := fun b => b < w7.heap.size) fun _ _ h => h).later HBQ.out |>.mono fun b hb _ => Or.inl hb) hcl wr.heap.size rfl
                    have HRUN10 := hide hrun10
                    have HB10 : Hid (Below w7.heap.size w7 w10) := (HBQ.out.alloc HBQ.out.size _).grown hg10 (by have := HBQ.out.size; simp; omega) (fun j hj => (HROW.out.own.lt j hj).1)
                    have hls : ((cs ++ [((⟨tb.name, ta⟩ : Bd), x1, k1)]).map (·.1)) = (sAt h).map (putB tb.name ta) ++ [⟨tb.name, ta⟩] := by rw [List.map_append, HCS.out]; rfl
                    have hbv10 := hR10.bv
                    rw [hls] at hbv10
                    have SRT := sorted_any ((sAt h).map (putB tb.name ta) ++ [⟨tb.name, ta⟩]) v10 w10 _ hbv10 (by simp; omega)
                    have HNX : Hid (uRun true g1 (sAt (h ++ [(tb.name, ta)])) l = some R ∧ grtB (sAt (h ++ [(tb.name, ta)])) = false) := by
                      have hg : grtB ((sAt h).map (putB tb.name ta)) = false := by
                        unfold grtB
                        rw [List.any_eq_false]
                        intro d hd
                        obtain ⟨d', hd', rfl⟩ := List.mem_map.1 hd
                        have := HFU.out d' hd'
                        intro hc
                        have h2 : 2000 < sizeL [onT [⟨tb.name, ta⟩] d'.t] := of_decide_eq_true hc
                        omega
                      have e : uPair true (sAt h) l ta tb = .go (addS (sAt h) tb.name ta) l := by rw [HUP.out]; unfold uBind; rw [if_neg (by rw [HIN.out]; simp), if_neg (by rw [hg]; simp)]; rfl
                      have hz := HZT.out
                      refine ⟨?_, ?_⟩
                      · rw [sAt_snoc]
                        rcases HRUN.out with ⟨e1, s', e2, e3⟩ | ⟨s', l', e2, e3⟩
                        · rw [e] at e2; cases e2
                        · rw [e] at e2; cases e2; exact e3
                      · rw [sAt_snoc]
                        unfold addS
                        rw [grtB_new, hg]
                        simpa using hz
                    clear hrun10 hR10 hg10 hls hbv10 htk hb
                    go_wp2_with (at_builtin; refine wpList_append_eq rfl _ _ _ _ rfl rfl rfl HRUN10.out ?_)
                    refine SRT.mono ?_
                    clear SRT
                    rintro e w11 ⟨v11, cs11, rfl, hR11, hp11, hw11, hb11⟩
                    have HBV11 : Hid (BV w11 (fun _ => True) v11 (sAt (h ++ [(tb.name, ta)]))) := by
                      unfold Hid
                      rw [sAt_snoc]
                      have ap := add_apart (t := ta) HU.out.good.all.1 HMAY.out.2.1
                      have e : cs11.map (·.1) = addS (sAt h) tb.name ta := sortedB_unique (hp11.trans (srtB_perm _).symm) (sortedB_of (ap.perm hp11) (List.pairwise_map.2 hw11)) (srtB_sorted _ ap)
                      rw [← e]
                      exact hR11.bv.mono fun _ _ _ => trivial
                    have HB11 := hide (HB10.out.trans (hb11.mono HB10.out.size))
                    clear hR11 hp11 hw11 hb11
                    go_wp2_with fail
                    go_roundg g1
                    case rel => exact ⟨h ++ [(tb.name, ta)], l, HUN.out, HNX.out.2, HNX.out.1, HBV11.out, HQ7.out.later HB11.out, HB.out.trans ((HB7.out.trans (HB11.out.mono HB7.out.size)).mono HB.out.size)⟩
                    case measure => have := HG1.out; omega
            | false =>
              have HVB := hide hvb
              clear hvb
              have HUP : Hid (uPair true (sAt h) l ta tb = if ta.name = tb.name ∧ ta.args.length = tb.args.length then .go (sAt h) (zipP ta.args tb.args ++ l) else .stop 5 (sAt h)) := by
                unfold Hid uPair
                rw [if_neg (by have := HZA.out; have := HZB.out; omega), if_neg (by rw [HVA.out]; simp), if_neg (by rw [HVB.out]; simp)]
              have CL : Hid (¬ (ta.name = tb.name ∧ ta.args.length = tb.args.length) → R = (5, sAt h)) := fun hn => by
                have e : uPair true (sAt h) l ta tb = .stop 5 (sAt h) := by rw [HUP.out, if_neg hn]
                rcases HRUN.out with ⟨e1, s', e2, e3⟩ | ⟨s', l', e2, _⟩
                · rw [e] at e2; cases e2; exact e3
                · rw [e] at e2; cases e2
              by_cases hnn : ta.name = tb.name
              · have hnb := bytes_yes hnn
                by_cases hll : ta.args.length = tb.args.length
                · have hlb : ((ta.args.length : Int) == (tb.args.length : Int)) = true := by simp [hll]
                  have HLL := hide hll
                  have HNN := hide hnn
                  have HDEEP := hide (HU.out.deep (by rw [HTA.out]; exact HZA.out) (by rw [HTB.out]; exact HZB.out) (by rw [HTA.out, HTB.out]; exact hll)).1
                  rw [HTA.out, HTB.out] at HDEEP
                  have HSTEP : Hid (uRun true g1 (sAt h) (zipP ta.args tb.args ++ l) = some R) := by
                    have e : uPair true (sAt h) l ta tb = .go (sAt h) (zipP ta.args tb.args ++ l) := by rw [HUP.out, if_pos ⟨hnn, hll⟩]
                    rcases HRUN.out with ⟨e1, s', e2, e3⟩ | ⟨s', l', e2, e3⟩
                    · rw [e] at e2; cases e2
                    · rw [e] at e2; cases e2; exact e3
                  have hla : ta.args.length ≤ 2000 := by
                    have h1 := sizeL_len ta.args
                    have h2 := size_sub ta
                    have h3 := HZA.out
                    omega
                  have hlq : l.length ≤ 900000000 := by have h1 := HU.out.llen; simp at h1; omega
                  have HXB2 := hide (HXB.out.mono (Y := fun b => b < (w3.alloc (.cells #[.string tb.name, .slice x2 tb.args.length k2] 29)).heap.size) fun _ _ h => h)
                  have HXA2 := hide (HXA.out.mono (Y := fun b => b < (w3.alloc (.cells #[.string tb.name, .slice x2 tb.args.length k2] 29)).heap.size) fun _ _ h => h)
                  have HQS := hide ((HTL.out.later HB4.out).mono (Y := fun b => b < (w3.alloc (.cells #[.string tb.name, .slice x2 tb.args.length k2] 29)).heap.size) fun _ _ h => h)
                  clear hll hnn CL HXA HXB
                  go_wp2_with (go_at_call 54; refine (isVarR_any _ _).mono ?_; rintro e w' ⟨rfl, rfl⟩; (first | rw [HVA.out] | rw [HVB.out]))
                  generalize (w3.alloc (.cells #[.string tb.name, .slice x2 tb.args.length k2] 29)) = wS at *
                  go_loopw [13, 14] (fun u i wq => UdInv wS ta.args tb.args u i wq) (fun u i wq => ta.args.length - (intOf i).toNat)
                  case atStart => exact ⟨0, [], rfl, Nat.zero_le _, QRow.start _ _ _, by simp, Below.refl _ _⟩
                  case round =>
                    obtain ⟨k, cs, rfl, hk, hrow, hcs, hb⟩ := hrel
                    have HROW := hide hrow
                    have HCS := hide hcs
                    have HBQ := hide hb
                    have hcl : cs.length ≤ 1000000 := by
                      have h1 := congrArg List.length hcs
                      simp at h1
                      omega
                    have e1 : wr.cell? ⟨w1.heap.size, 1, none⟩ = some (.slice x1 ta.args.length k1) := cell_later hb a1'
                    have e2 : wr.cell? ⟨w3.heap.size, 1, none⟩ = some (.slice x2 tb.args.length k2) := cell_later hb b1'
                    clear hrow hcs hb
                    by_cases hlt : k < ta.args.length
                    · have hlt2 : (k : Int) < (ta.args.length : Int) := by omega
                      have hltb : k < tb.args.length := by have := HLL.out; omega
                      have hlt3 : (k : Int) < (tb.args.length : Int) := by omega
                      obtain ⟨b1, o1, y1, d1, hx1e, p0, p1, hy1⟩ := HXA2.out.get (Below.refl _ _) (fun _ _ h => h) k hlt
                      obtain ⟨b2, o2, y2, d2, hx2e, r0, r1, hy2⟩ := HXB2.out.get (Below.refl _ _) (fun _ _ h => h) k hltb
                      subst hx1e
                      subst hx2e
                      have P0 := hide p0
                      have P1 := hide p1
                      have R0 := hide r0
                      have R1 := hide r1
                      clear p0 p1 r0 r1
                      obtain ⟨av, cv, ev, hsy1⟩ := hy1
                      simp at ev
                      obtain ⟨rfl, rfl⟩ := ev
                      obtain ⟨av, cv, ev, hsy2⟩ := hy2
                      simp at ev
                      obtain ⟨rfl, rfl⟩ := ev
                      have HY1 := hide (hsy1.later HBQ.out)
                      have HY2 := hide (hsy2.later HBQ.out)
                      have HZK : Hid ((zipP ta.args tb.args).take (k + 1) = (zipP ta.args tb.args).take k ++ [⟨ta.args[k], tb.args[k]⟩]) := by
                        unfold Hid
                        rw [List.take_succ_eq_append_getElem (by rw [zip_len2 HLL.out]; exact hlt), zip_get2 k hlt hltb]
                      clear hsy1 hsy2
                      generalize ta.args[k] = tA at *
                      generalize tb.args[k] = tB at *
                      obtain ⟨i0, hi, hz0, hzz1, hzz2⟩ := info_parts Try.infoPair
                      have KG : Hid (∀ W : World, Below wS.heap.size wS W → FvD w1.heap.size w3.heap.size b1 b2 (o1 + k * 2) (o2 + k * 2) o1 o2 ta.args.length tb.args.length tA tB y1 y2 k1 k2 d1 d2 W) := fun W hW => ⟨cell_later hW a1', cell_later hW P0.out, cell_later hW P1.out, cell_later hW b1', cell_later hW R0.out, cell_later hW R1.out⟩
                      have hS0 : FvD w1.heap.size w3.heap.size b1 b2 (o1 + k * 2) (o2 + k * 2) o1 o2 ta.args.length tb.args.length tA tB y1 y2 k1 k2 d1 d2 wr.drew := KG.out _ (below_drewN HBQ.out 1)
                      have HSA : Hid (∀ o, FvD w1.heap.size w3.heap.size b1 b2 (o1 + k * 2) (o2 + k * 2) o1 o2 ta.args.length tb.args.length tA tB y1 y2 k1 k2 d1 d2 (wr.drew.alloc o)) := fun o => KG.out _ ((below_drewN HBQ.out 1).alloc (by have := HBQ.out.size; simp; omega) o)
                      have HOWN := hide (HROW.out.below (below_drewN (Below.refl _ _) 1)).own
                      go_wp2_with fail
                      refine wp_region_held_drew (S := FvD w1.heap.size w3.heap.size b1 b2 (o1 + k * 2) (o2 + k * 2) o1 o2 ta.args.length tb.args.length tA tB y1 y2 k1 k2 d1 d2) (by kernel_rfl) hS0 (fun hHeld => ?_)
                      clear hS0
                      refine wpAnyH_take (i := 0) (v := ?_) rfl (by kernel_rfl) (by kernel_rfl) (by kernel_rfl) (fun _ _ _ h => h) (Or.inl ⟨by rfl, ?_⟩) (by assumption) ?_
                      rotate_left
                      · intro w' hSw
                        obtain ⟨j1, j2, j3, j4, j5, j6⟩ := hSw
                        go_simp <;> with_reducible rfl
                      try simp only [Act.put, List.setIfInBounds_toArray, List.set_cons_zero, List.set_cons_succ, List.getElem_toArray, List.getElem_cons_succ, List.getElem_cons_zero]
                      refine wpAnyH_take (i := 1) (v := ?_) rfl (by kernel_rfl) (by kernel_rfl) (by kernel_rfl) (fun _ _ _ h => h) (Or.inl ⟨by rfl, ?_⟩) (by assumption) ?_
                      rotate_left
                      · intro w' hSw
                        obtain ⟨j1, j2, j3, j4, j5, j6⟩ := hSw
                        go_simp <;> with_reducible rfl
                      try simp only [Act.put, List.setIfInBounds_toArray, List.set_cons_zero, List.set_cons_succ, List.getElem_toArray, List.getElem_cons_succ, List.getElem_cons_zero]
                      refine wpAnyH_take (i := 2) (v := ?_) rfl (by kernel_rfl) (by kernel_rfl) (by kernel_rfl) (fun _ _ _ h => h) (Or.inl ⟨by rfl, ?_⟩) (by assumption) ?_
                      rotate_left
                      · intro w' hSw
                        obtain ⟨j1, j2, j3, j4, j5, j6⟩ := hSw
                        go_simp <;> with_reducible rfl
                      try simp only [Act.put, List.setIfInBounds_toArray, List.set_cons_zero, List.set_cons_succ, List.getElem_toArray, List.getElem_cons_succ, List.getElem_cons_zero]
                      refine wpAnyH_take (i := 3) (v := ?_) rfl (by kernel_rfl) (by kernel_rfl) (by kernel_rfl) (fun _ _ _ h => h) (Or.inl ⟨by rfl, ?_⟩) (by assumption) ?_
                      rotate_left
                      · intro w' hSw
                        obtain ⟨j1, j2, j3, j4, j5, j6⟩ := hSw
                        go_simp <;> with_reducible rfl
                      try simp only [Act.put, List.setIfInBounds_toArray, List.set_cons_zero, List.set_cons_succ, List.getElem_toArray, List.getElem_cons_succ, List.getElem_cons_zero]
                      refine wpAnyH_take (i := 4) (v := ?_) rfl (by kernel_rfl) (by kernel_rfl) (by kernel_rfl) (fun _ _ _ h => h) (Or.inl ⟨by rfl, ?_⟩) (by assumption) ?_
                      rotate_left
                      · intro w' hSw
                        obtain ⟨j1, j2, j3, j4, j5, j6⟩ := hSw
                        go_simp <;> with_reducible rfl
                      try simp only [Act.put, List.setIfInBounds_toArray, List.set_cons_zero, List.set_cons_succ, List.getElem_toArray, List.getElem_cons_succ, List.getElem_cons_zero]
                      refine wpAnyH_take (i := 5) (v := ?_) rfl (by kernel_rfl) (by kernel_rfl) (by kernel_rfl) (fun _ _ _ h => h) (Or.inl ⟨by rfl, ?_⟩) (by assumption) ?_
                      rotate_left
                      · intro w' hSw
                        obtain ⟨j1, j2, j3, j4, j5, j6⟩ := hSw
                        go_simp <;> with_reducible rfl
                      try simp only [Act.put, List.setIfInBounds_toArray, List.set_cons_zero, List.set_cons_succ, List.getElem_toArray, List.getElem_cons_succ, List.getElem_cons_zero]
                      refine wpAnyH_take (i := 6) (v := ?_) rfl (by kernel_rfl) (by kernel_rfl) (by kernel_rfl) (fun _ _ _ h => h) (Or.inl ⟨by rfl, ?_⟩) (by assumption) ?_
                      rotate_left
                      · intro w' hSw
                        obtain ⟨j1, j2, j3, j4, j5, j6⟩ := hSw
                        go_simp <;> with_reducible rfl
                      try simp only [Act.put, List.setIfInBounds_toArray, List.set_cons_zero, List.set_cons_succ, List.getElem_toArray, List.getElem_cons_succ, List.getElem_cons_zero]
                      refine wpAnyH_take (i := 7) (v := ?_) rfl (by kernel_rfl) (by kernel_rfl) (by kernel_rfl) (fun _ _ _ h => h) (Or.inl ⟨by rfl, ?_⟩) (by assumption) ?_
                      rotate_left
                      · intro w' hSw
                        obtain ⟨j1, j2, j3, j4, j5, j6⟩ := hSw
                        go_simp <;> with_reducible rfl
                      try simp only [Act.put, List.setIfInBounds_toArray, List.set_cons_zero, List.set_cons_succ, List.getElem_toArray, List.getElem_cons_succ, List.getElem_cons_zero]
                      refine wpAnyH_take (i := 8) (v := ?_) rfl (by kernel_rfl) (by kernel_rfl) (by kernel_rfl) (fun _ _ _ h => h) (Or.inl ⟨by rfl, ?_⟩) (by assumption) ?_
                      rotate_left
                      · intro w' hSw
                        obtain ⟨j1, j2, j3, j4, j5, j6⟩ := hSw
                        go_simp <;> with_reducible rfl
                      try simp only [Act.put, List.setIfInBounds_toArray, List.set_cons_zero, List.set_cons_succ, List.getElem_toArray, List.getElem_cons_succ, List.getElem_cons_zero]
                      refine wpAnyH_take (i := 9) (v := ?_) rfl (by kernel_rfl) (by kernel_rfl) (by kernel_rfl) (fun _ _ _ h => h) (Or.inl ⟨by rfl, ?_⟩) (by assumption) ?_
                      rotate_left
                      · intro w' hSw
                        obtain ⟨j1, j2, j3, j4, j5, j6⟩ := hSw
                        go_simp <;> with_reducible rfl
                      try simp only [Act.put, List.setIfInBounds_toArray, List.set_cons_zero, List.set_cons_succ, List.getElem_toArray, List.getElem_cons_succ, List.getElem_cons_zero]
                      refine wpAnyH_take (i := 10) (v := ?_) rfl (by kernel_rfl) (by kernel_rfl) (by kernel_rfl) (fun _ _ _ h => h) (Or.inl ⟨by rfl, ?_⟩) (by assumption) ?_
                      rotate_left
                      · intro w' hSw
                        obtain ⟨j1, j2, j3, j4, j5, j6⟩ := hSw
                        go_simp <;> with_reducible rfl
                      try simp only [Act.put, List.setIfInBounds_toArray, List.set_cons_zero, List.set_cons_succ, List.getElem_toArray, List.getElem_cons_succ, List.getElem_cons_zero]
                      refine wpAnyH_take (i := 11) (v := ?_) rfl (by kernel_rfl) (by kernel_rfl) (by kernel_rfl) (fun _ _ _ h => h) (Or.inl ⟨by rfl, ?_⟩) (by assumption) ?_
                      rotate_left
                      · intro w' hSw
                        obtain ⟨j1, j2, j3, j4, j5, j6⟩ := hSw
                        go_simp <;> with_reducible rfl
                      try simp only [Act.put, List.setIfInBounds_toArray, List.set_cons_zero, List.set_cons_succ, List.getElem_toArray, List.getElem_cons_succ, List.getElem_cons_zero]
                      refine wpAnyH_ready (rs := [12]) (by kernel_rfl) (by simp) ?_
                      refine AllReadyH.cons rfl (fun K hK => ?_) AllReadyH.nil
                      go_simp
                      refine hK.out _ _ (by exact HSA.out _) (fun hHeld => ?_)
                      clear hK K
                      try simp only [Act.put, List.setIfInBounds_toArray, List.set_cons_zero, List.set_cons_succ, List.getElem_toArray, List.getElem_cons_succ, List.getElem_cons_zero]
                      refine wpAnyH_ready (rs := [13]) (by kernel_rfl) (by simp) ?_
                      refine AllReadyH.cons rfl (fun K hK => ?_) AllReadyH.nil
                      refine step_append_lies _ rfl _ _ 45 rfl wS.heap.size 80 i0 _ 4 80 Try.underlying45 hi hz0 hzz1 hzz2 rfl (by decide) u13 cs.length (flat4 cs) rfl (by exact HOWN.out.alloc _) ⟨wr.heap.size, 0, none⟩ 1 1 [.string tA.name, .slice y1 tA.args.length d1, .string tB.name, .slice y2 tB.args.length d2] rfl rfl (by exact cell_four_new _ _ _ _ _ _) (fun x hx => by simp at hx; rcases hx with rfl | rfl | rfl | rfl <;> rfl) (by decide) (by unfold maxLen; omega) (by omega) (by have := HBQ.out.size; simp; omega) _ rfl ?_
                      intro g cap wA hownA hgrowA hatA hltA
                      have HRA := hide (HROW.out.push (w1 := wr.drew) (x := (⟨tA, tB⟩, (y1, d1), (y2, d2))) HBQ.out.size (fun b h => h) (below_drewN (Below.refl _ _) 1) ⟨(HY1.out.later (below_drewN (Below.refl _ _) 1)).mono fun b hb _ => Or.inl hb, (HY2.out.later (below_drewN (Below.refl _ _) 1)).mono fun b hb _ => Or.inl hb⟩ _ rfl hownA hgrowA hatA)
                      have HBA : Hid (Below wS.heap.size wS wA) := ((below_drewN HBQ.out 1).alloc (by have := HBQ.out.size; simp; omega) _).grown hgrowA (by have := HBQ.out.size; simp; omega) (fun j hj => by have := (HROW.out.own.lt j hj).1; omega)
                      refine hK.out _ _ (by exact KG.out _ HBA.out) (fun hHeld => ?_)
                      clear hownA hgrowA hatA hltA
                      clear hK K
                      try simp only [Act.put, List.setIfInBounds_toArray, List.set_cons_zero, List.set_cons_succ, List.getElem_toArray, List.getElem_cons_succ, List.getElem_cons_zero]
                      refine wpAnyH_take (i := 14) (v := ?_) rfl (by kernel_rfl) (by kernel_rfl) (by kernel_rfl) (fun _ _ _ h => h) (Or.inl ⟨by rfl, ?_⟩) (by assumption) ?_
                      rotate_left
                      · intro w' hSw
                        obtain ⟨j1, j2, j3, j4, j5, j6⟩ := hSw
                        go_simp <;> with_reducible rfl
                      try simp only [Act.put, List.setIfInBounds_toArray, List.set_cons_zero, List.set_cons_succ, List.getElem_toArray, List.getElem_cons_succ, List.getElem_cons_zero]
                      refine wpAnyH_done (by kernel_rfl) ?_ _
                      clear hHeld
                      go_wp2_with fail
                      refine ⟨⟨?z0, ?z1, ?z2, ?z3, ?z4, ?z5, ?z6, ?z7, ?z8, ?z9, ?z10, ?z11, ?z12, ?z13, ?z14, ?z15, ?z16, ?z17, ?z18, ?z19, ?z20, ?z21, ?z22, ?rel, ?fr⟩, ?measure⟩
                      case fr =>
                        refine congrArg (fun t => Act.mk t []) (congrArg List.toArray ?_)
                        repeat' (refine cons_eq2 ?_ ?_)
                        all_goals (try rfl)
                        all_goals simp [HLL.out]
                      case rel => exact ⟨k + 1, cs ++ [(⟨tA, tB⟩, (y1, d1), (y2, d2))], by go_num, by omega, HRA.out, by rw [HZK.out, List.map_append, HCS.out]; rfl, HBA.out⟩
                      case measure => simp [intOf]; omega
                    · have htk : (zipP ta.args tb.args).take k = zipP ta.args tb.args := List.take_of_length_le (by rw [zip_len2 HLL.out]; omega)
                      rw [htk] at HCS
                      obtain ⟨v10, w10, hrun10, hq10, hg10⟩ := pairs_spread HROW.out HBQ.out.size (fun _ h => h) (HQS.out.later HBQ.out) (by omega)
                      have HRUN10 := hide hrun10
                      have HB10 : Hid (Below wS.heap.size wS w10) := HBQ.out.grown hg10 (by have := HBQ.out.size; omega) (fun j hj => (HROW.out.own.lt j hj).1)
                      have HQ10 : Hid (QV w10 (fun _ => True) v10 (zipP ta.args tb.args ++ l)) := by
                        unfold Hid
                        rw [← HCS.out]
                        exact hq10.mono fun _ _ _ => trivial
                      clear hrun10 hq10 hg10 htk
                      go_wp2_with (at_builtin; refine wpList_append_eq rfl _ _ _ _ rfl rfl rfl HRUN10.out ?_)
                      go_roundg g1
                      case rel => exact ⟨h, zipP ta.args tb.args ++ l, HDEEP.out, HGR.out, HSTEP.out, HBV.out.later (HB4.out.trans (HB10.out.mono HB4.out.size)), HQ10.out, HB.out.trans ((HB4.out.trans (HB10.out.mono HB4.out.size)).mono HB.out.size)⟩
                      case measure => have := HG1.out; omega
                · have hlb : ((ta.args.length : Int) == (tb.args.length : Int)) = false := beq_eq_false_iff_ne.2 (by omega)
                  have HRR := hide (CL.out fun hh => hll hh.2)
                  clear hll hnn
                  go_wp2_with (go_at_call 54; refine (isVarR_any _ _).mono ?_; rintro e w' ⟨rfl, rfl⟩; (first | rw [HVA.out] | rw [HVB.out]))
                  refine bodyPost_ret (v := .tuple #[.slice none 0 0, .int .i64 5]) (by simp [results, Try.results25, go_sem]) rfl ?_
                  exact ⟨HB.out.trans (HB4.out.mono HB.out.size), Or.inr ⟨by rw [HRR.out]; exact (by decide : (5 : Int) ≠ 0), by rw [HRR.out]⟩⟩
              · have hnb := bytes_no hnn
                have HRR := hide (CL.out fun hh => hnn hh.1)
                clear hnn
                go_wp2_with (go_at_call 54; refine (isVarR_any _ _).mono ?_; rintro e w' ⟨rfl, rfl⟩; (first | rw [HVA.out] | rw [HVB.out]))
                refine bodyPost_ret (v := .tuple #[.slice none 0 0, .int .i64 5]) (by simp [results, Try.results25, go_sem]) rfl ?_
                exact ⟨HB.out.trans (HB4.out.mono HB.out.size), Or.inr ⟨by rw [HRR.out]; exact (by decide : (5 : Int) ≠ 0), by rw [HRR.out]⟩⟩
#print axioms unifyOf_any
end Go.Proofs.Ytgppbciofhoigab

/- Walks: two terms that are the same. -/
namespace Go.Proofs.Ytgppbciofhoigab
open Go.RowKit
set_option linter.unusedSimpArgs false
set_option linter.unusedVariables false

theorem same_cells {w w1 : World} {n : Nat} {p1 p2 p3 p4 p5 p6 : Addr} {v1 v2 v3 v4 v5 v6 : Value} (hb : Below (w.drewN n).heap.size (w.drewN n) w1)
    (h : w.cell? p1 = some v1 ∧ w.cell? p2 = some v2 ∧ w.cell? p3 = some v3 ∧ w.cell? p4 = some v4 ∧ w.cell? p5 = some v5 ∧ w.cell? p6 = some v6) :
    w1.cell? p1 = some v1 ∧ w1.cell? p2 = some v2 ∧ w1.cell? p3 = some v3 ∧ w1.cell? p4 = some v4 ∧ w1.cell? p5 = some v5 ∧ w1.cell? p6 = some v6 := by
  have hb' : Below w.heap.size w w1 := (below_drewN (Below.refl _ _) n).trans (hb.mono (by simp))
  exact ⟨cell_later hb' h.1, cell_later hb' h.2.1, cell_later hb' h.2.2.1, cell_later hb' h.2.2.2.1, cell_later hb' h.2.2.2.2.1, cell_later hb' h.2.2.2.2.2⟩

set_option maxHeartbeats 1000000 in
theorem same_any (t : Tm) : ∀ (v u : Value) (w : World) (X Y : Nat → Prop), TV w X v t → TV w Y u t →
    Calls Try.prog 51 #[v, u] w fun e w' => e = .returned (.bool true) ∧ Below w.heap.size w w' := by
  induction t using Tm.ind with
  | h s l ih =>
    intro v u w X Y hv hu
    have IH := hide ih
    clear ih
    obtain ⟨a, c, rfl, hs⟩ := hv
    obtain ⟨a2, c2, rfl, hs2⟩ := hu
    have hl := hs.1
    go_enter Try.func51, Try.ntmps51
    go_wp2_with fail
    go_loopw [5] (fun i wr => ∃ (k : Nat), k ≤ l.length ∧ i = .int .i64 k ∧ Below w.heap.size w wr ∧ wr.cell? ⟨w.heap.size, 1, none⟩ = some (.slice a l.length c) ∧ wr.cell? ⟨w.heap.size + 1, 1, none⟩ = some (.slice a2 l.length c2) ∧ w.heap.size + 2 ≤ wr.heap.size) (fun i wr => l.length - (intOf i).toNat)
    case atStart => exact ⟨0, Nat.zero_le _, rfl, below2 _ _, by simp, by simp, by simp⟩
    case round =>
      obtain ⟨k, hk, rfl, hb, hc1, hc2, hsz⟩ := hrel
      by_cases hlt : k < l.length
      · obtain ⟨b, o, a', c', rfl, d0, d1, hx⟩ := hs.get hb (fun _ _ h => h) k hlt
        obtain ⟨b2, o2, a2', c2', rfl, e0, e1, hx2⟩ := hs2.get hb (fun _ _ h => h) k hlt
        have HX := hide hx
        have HX2 := hide hx2
        have HB := hide hb
        have HS0 := hide (And.intro hc1 (And.intro hc2 (And.intro d0 (And.intro d1 (And.intro e0 e1)))))
        clear hx hx2 hb
        go_wp2_with fail
        go_region_held3 (fun w' => w'.cell? ⟨w.heap.size, 1, none⟩ = some (.slice (some ⟨b, o, none⟩) l.length c) ∧ w'.cell? ⟨w.heap.size + 1, 1, none⟩ = some (.slice (some ⟨b2, o2, none⟩) l.length c2) ∧ w'.cell? ⟨b, o + k * 2, none⟩ = some (.string l[k].name) ∧ w'.cell? ⟨b, o + k * 2 + 1, none⟩ = some (.slice a' l[k].args.length c') ∧ w'.cell? ⟨b2, o2 + k * 2, none⟩ = some (.string l[k].name) ∧ w'.cell? ⟨b2, o2 + k * 2 + 1, none⟩ = some (.slice a2' l[k].args.length c2')) (first | exact HS0.out | exact hS1)
          ((go_at_call 51; refine (IH.out _ (List.getElem_mem hlt) _ _ _ X Y (by exact HX.out.later (below_drewN (Below.refl _ _) 1)) (by exact HX2.out.later (below_drewN (Below.refl _ _) 1))).mono ?_; rintro e w1 ⟨rfl, hb1⟩; have hS1 := same_cells (n := 1) hb1 HS0.out))
        go_wp2_with fail
        go_roundw
        case rel => exact ⟨k + 1, by omega, by go_num, (HB.out.trans (below_drewN (Below.refl _ _) 1)).trans (hb1.mono (by simp; omega)), hS1.1, hS1.2.1, by have := hb1.size; simp at this; omega⟩
        case measure => simp [intOf]; omega
      · go_wp2_with fail
        go_ret
        exact ⟨rfl, hb⟩
#print axioms same_any
end Go.Proofs.Ytgppbciofhoigab

/- Walks: pairs of which nothing is said; whether pairs may be. -/
namespace Go.Proofs.Ytgppbciofhoigab
open Go.RowKit
set_option linter.unusedSimpArgs false
set_option linter.unusedVariables false
set_option maxRecDepth 8000

def hugeQ1 (p : Pr) : Bool := decide (3000 < sizeL [p.l]) || decide (3000 < sizeL [p.r])
def hugeQL (l : List Pr) : Bool := l.any hugeQ1
def hugeQ (ls : List Pr) : Bool := hugeQL ls || decide (100 < ls.length)
theorem hugeQL_take {l : List Pr} {k : Nat} (h : k < l.length) : hugeQL (l.take (k + 1)) = (hugeQL (l.take k) || hugeQ1 l[k]) := by
  unfold hugeQL; rw [List.take_succ_eq_append_getElem h, List.any_append]; simp
theorem hugeQL_yes {l : List Pr} {k : Nat} (h : k < l.length) (h0 : hugeQ1 l[k] = true) : hugeQ l = true := by
  have e : hugeQL l = true := by
    unfold hugeQL
    rw [List.any_eq_true]
    exact ⟨l[k], List.getElem_mem h, h0⟩
  unfold hugeQ
  rw [e]; rfl
theorem hugeQ_no {ls : List Pr} (h : hugeQ ls = false) : ls.length ≤ 100 ∧ ∀ d ∈ ls, sizeL [d.l] ≤ 3000 ∧ sizeL [d.r] ≤ 3000 := by
  unfold hugeQ hugeQL hugeQ1 at h
  simp only [Bool.or_eq_false_iff, List.any_eq_false, decide_eq_true_eq, decide_eq_false_iff_not, Bool.or_eq_true] at h
  exact ⟨by omega, fun d hd => by have := h.1 d hd; omega⟩
def HqInv (ls : List Pr) (w : World) (v : Value) (wr : World) : Prop := ∃ k : Nat, v = .int .i64 (k : Int) ∧ k ≤ ls.length ∧ hugeQL (ls.take k) = false ∧ Below w.heap.size w wr

set_option maxHeartbeats 1000000 in
theorem hugePairs_any (ls : List Pr) (u : Value) (w : World) (X : Nat → Prop) (hu : QV w X u ls) :
    Calls Try.prog 23 #[u] w fun e w' => e = .returned (.bool (hugeQ ls)) ∧ Below w.heap.size w w' := by
  have HU := hide (hu.mono (Y := fun b => X b ∧ b < w.heap.size) fun b h1 h2 => ⟨h1, h2⟩)
  obtain ⟨a, c, rfl, hl, hu2⟩ := hu
  clear hu2
  go_enter Try.func23, Try.ntmps23
  go_wp2_with fail
  go_loopw [3] (fun v wr => HqInv ls w v wr) (fun v wr => ls.length - (intOf v).toNat)
  case atStart => exact ⟨0, rfl, Nat.zero_le _, rfl, Below.refl _ _⟩
  case round =>
    obtain ⟨k, rfl, hk, hT, hb⟩ := hrel
    have HB := hide hb
    have HT := hide hT
    clear hT
    by_cases hlt : k < ls.length
    · obtain ⟨b, o, a1, c1, a2, c2, rfl, d0, d1, d2, d3, hs1, hs2⟩ := (HU.out.later hb).get k hlt
      have hlt2 : (k : Int) < (ls.length : Int) := by omega
      have HX1 := hide hs1
      have HX2 := hide hs2
      have HY := hide (hugeQL_yes hlt)
      have HN := hide (hugeQL_take hlt)
      clear hs1 hs2 hb
      generalize ls[k] = d at *
      go_wp2_with fail
      refine (huge_any d.l _ _ _ ⟨a1, c1, rfl, HX1.out⟩).mono ?_
      rintro e w1 ⟨rfl, hb1⟩
      have HB1 := hide (HB.out.trans (hb1.mono HB.out.size))
      have HX3 := hide (HX2.out.later hb1)
      have d2' := cell_later hb1 d2
      have d3' := cell_later hb1 d3
      clear hb1
      cases hq : decide (3000 < sizeL [d.l]) with
      | true =>
        have HF := hide (HY.out (by unfold hugeQ1; rw [hq]; rfl))
        clear hq
        go_wp2_with fail
        go_ret
        exact ⟨ret_bool HF.out.symm, HB1.out⟩
      | false =>
        have HQ := hide hq
        clear hq
        go_wp2_with fail
        refine (huge_any d.r _ _ _ ⟨a2, c2, rfl, HX3.out⟩).mono ?_
        rintro e w2 ⟨rfl, hb2⟩
        have HB2 := hide (HB1.out.trans (hb2.mono HB1.out.size))
        clear hb2
        cases hq : decide (3000 < sizeL [d.r]) with
        | true =>
          have HF := hide (HY.out (by unfold hugeQ1; rw [hq]; simp))
          clear hq
          go_wp2_with fail
          go_ret
          exact ⟨ret_bool HF.out.symm, HB2.out⟩
        | false =>
          have HF : Hid (hugeQL (ls.take (k + 1)) = false) := by unfold Hid; rw [HN.out, HT.out]; unfold hugeQ1; rw [HQ.out, hq]; rfl
          clear hq
          go_wp2_with fail
          go_roundw
          case rel => exact ⟨k + 1, by go_num, by omega, HF.out, HB2.out⟩
          case measure => simp [intOf]; omega
    · have HF : Hid (decide (100 < ls.length) = hugeQ ls) := by
        have h := HT.out
        rw [List.take_of_length_le (by omega)] at h
        unfold Hid hugeQ
        rw [h]; rfl
      go_wp2_with fail
      go_ret
      exact ⟨ret_bool (by rw [← HF.out, Bool.eq_iff_iff]; simp; omega), HB.out⟩

def PmInv (ls : List Pr) (w : World) (v : Value) (wr : World) : Prop := ∃ k : Nat, v = .int .i64 (k : Int) ∧ k ≤ ls.length ∧ pmT ls k = 0 ∧ Below w.heap.size w wr

set_option maxHeartbeats 1000000 in
theorem pairsMay_any (ls : List Pr) (u : Value) (w : World) (X : Nat → Prop) (hu : QV w X u ls) :
    Calls Try.prog 24 #[u] w fun e w' => e = .returned (.int .i64 (pairsE ls)) ∧ Below w.heap.size w w' := by
  have HU := hide (hu.mono (Y := fun b => X b ∧ b < w.heap.size) fun b h1 h2 => ⟨h1, h2⟩)
  obtain ⟨a, c, rfl, hl, hu2⟩ := hu
  clear hu2
  go_enter Try.func24, Try.ntmps24
  by_cases h40 : 40 < ls.length
  · go_wp2_with fail
    go_ret
    exact ⟨ret_int (by unfold pairsE; rw [if_pos h40]), Below.refl _ _⟩
  · go_wp2_with fail
    go_loopw [3] (fun v wr => PmInv ls w v wr) (fun v wr => ls.length - (intOf v).toNat)
    case atStart => exact ⟨0, rfl, Nat.zero_le _, rfl, Below.refl _ _⟩
    case round =>
      obtain ⟨k, rfl, hk, hT, hb⟩ := hrel
      have HB := hide hb
      have HT := hide hT
      clear hT
      by_cases hlt : k < ls.length
      · obtain ⟨b, o, a1, c1, a2, c2, rfl, d0, d1, d2, d3, hs1, hs2⟩ := (HU.out.later hb).get k hlt
        have hlt2 : (k : Int) < (ls.length : Int) := by omega
        have HX1 := hide hs1
        have HX2 := hide hs2
        have HY := hide (pmT_err hlt h40 HT.out)
        have HN := hide (pmT_next hlt HT.out)
        clear hs1 hs2 hb
        generalize ls[k] = d at *
        go_wp2_with fail
        have HS0 := hide (And.intro d0 (And.intro d1 (And.intro d2 d3)))
        have TM : Hid (∀ w', Below wr.heap.size wr w' → Calls Try.prog 14 #[.agg #[.string d.l.name, .slice a1 d.l.args.length c1], .agg #[.string d.r.name, .slice a2 d.r.args.length c2]] w' fun e w'' => e = .returned (.int .i64 (twoE d.l d.r)) ∧ Below w.heap.size w w'' ∧ (w''.cell? ⟨b, o + k * 4, none⟩ = some (.string d.l.name) ∧ w''.cell? ⟨b, o + k * 4 + 1, none⟩ = some (.slice a1 d.l.args.length c1) ∧ w''.cell? ⟨b, o + k * 4 + 2, none⟩ = some (.string d.r.name) ∧ w''.cell? ⟨b, o + k * 4 + 3, none⟩ = some (.slice a2 d.r.args.length c2))) := fun w' hb => by
          refine (twoMay_any d.l d.r _ _ w' _ ⟨_, _, rfl, HX1.out.later hb⟩ ⟨_, _, rfl, HX2.out.later hb⟩).mono ?_
          rintro e w'' ⟨rfl, hb2⟩
          have hb3 := hb.trans (hb2.mono hb.size)
          exact ⟨rfl, HB.out.trans (hb3.mono HB.out.size), cell_later hb3 d0, cell_later hb3 d1, cell_later hb3 d2, cell_later hb3 d3⟩
        go_region_held3 (fun w' => w'.cell? ⟨b, o + k * 4, none⟩ = some (.string d.l.name) ∧ w'.cell? ⟨b, o + k * 4 + 1, none⟩ = some (.slice a1 d.l.args.length c1) ∧ w'.cell? ⟨b, o + k * 4 + 2, none⟩ = some (.string d.r.name) ∧ w'.cell? ⟨b, o + k * 4 + 3, none⟩ = some (.slice a2 d.r.args.length c2)) (first | exact hS | exact HS0.out | go_keep)
          (first
            | (go_at_call 14; refine (TM.out _ (by first | exact Below.refl _ _ | exact (Below.refl _ _).drew)).mono ?_; rintro e w5 ⟨rfl, hb5, hS⟩))
        have HB5 := hide hb5
        clear hb5 hS TM HX1 HX2 HS0 d0 d1 d2 d3
        by_cases hm : twoE d.l d.r = 0
        · rw [hm] at HN
          rw [hm]
          clear hm
          go_wp2_with fail
          go_roundw
          case rel => exact ⟨k + 1, by go_num, by omega, HN.out, HB5.out⟩
          case measure => simp [intOf]; omega
        · have hm2 : (twoE d.l d.r == 0) = false := by simpa using hm
          have HM := hide hm
          clear hm
          go_wp2_with fail
          go_ret
          exact ⟨ret_int (HY.out HM.out).symm, HB5.out⟩
      · have hkl : k = ls.length := by omega
        go_wp2_with fail
        go_ret
        exact ⟨ret_int (by unfold pairsE; rw [if_neg h40, ← hkl]; exact HT.out.symm), HB.out⟩

theorem twoE_fst {a b : Tm} (h : mayE a ≠ 0) : twoE a b = mayE a := by unfold twoE; rw [if_neg h]
theorem twoE_snd {a b : Tm} (h : mayE a = 0) : twoE a b = mayE b := by unfold twoE; rw [if_pos h]
set_option maxHeartbeats 1000000 in
theorem ucheck_any (ls : List Pr) (u : Value) (w : World) (X : Nat → Prop) (hu : QV w X u ls) :
    Calls Try.prog 27 #[u] w fun e w' => e = .returned (.int .i64 (pairsE ls)) ∧ Below w.heap.size w w' := by
  have HU := hide (hu.mono (Y := fun b => X b ∧ b < w.heap.size) fun b h1 h2 => ⟨h1, h2⟩)
  obtain ⟨a, c, rfl, hl, hu2⟩ := hu
  clear hu2
  go_enter Try.func27, Try.ntmps27
  by_cases h40 : 40 < ls.length
  · go_wp2_with fail
    go_ret
    exact ⟨ret_int (by unfold pairsE; rw [if_pos h40]), Below.refl _ _⟩
  · go_wp2_with fail
    go_loopw [12] (fun v wr => PmInv ls w v wr) (fun v wr => ls.length - (intOf v).toNat)
    case atStart => exact ⟨0, rfl, Nat.zero_le _, rfl, Below.refl _ _⟩
    case round =>
      obtain ⟨k, rfl, hk, hT, hb⟩ := hrel
      have HB := hide hb
      have HT := hide hT
      clear hT
      by_cases hlt : k < ls.length
      · obtain ⟨b, o, a1, c1, a2, c2, rfl, d0, d1, d2, d3, hs1, hs2⟩ := (HU.out.later hb).get k hlt
        have hlt2 : (k : Int) < (ls.length : Int) := by omega
        have hbA : Below wr.heap.size wr (wr.alloc (.cells #[.string ls[k].l.name, .slice a1 ls[k].l.args.length c1, .string ls[k].r.name, .slice a2 ls[k].r.args.length c2] 80)) := (Below.refl _ _).alloc (Nat.le_refl _) _
        have HX1 := hide (hs1.later hbA)
        have HX2 := hide (hs2.later hbA)
        have P1 := hide (Blk.new wr #[.string ls[k].l.name, .slice a1 ls[k].l.args.length c1, .string ls[k].r.name, .slice a2 ls[k].r.args.length c2] 80)
        have HB1 := hide (hb.trans (hbA.mono hb.size))
        have HY := hide (pmT_err hlt h40 HT.out)
        have HN := hide (pmT_next hlt HT.out)
        clear hs1 hs2 hb hbA
        generalize ls[k] = d at *
        go_wp2_with fail
        generalize wr.alloc (.cells #[.string d.l.name, .slice a1 d.l.args.length c1, .string d.r.name, .slice a2 d.r.args.length c2] 80) = w1 at *
        generalize wr.heap.size = P at *
        refine (check_any d.l _ _ _ ⟨a1, c1, rfl, HX1.out⟩).mono ?_
        rintro e w2 ⟨rfl, hb2⟩
        have HX3 := hide (HX2.out.later hb2)
        have HB2 := hide (HB1.out.trans (hb2.mono HB1.out.size))
        have p2 := cell_later hb2 (P1.out.cell 2)
        have p3 := cell_later hb2 (P1.out.cell 3)
        clear hb2
        by_cases hm : mayE d.l = 0
        · have HM := hide (twoE_snd (b := d.r) hm)
          rw [hm]
          clear hm
          go_wp2_with fail
          refine (check_any d.r _ _ _ ⟨a2, c2, rfl, HX3.out⟩).mono ?_
          rintro e w3 ⟨rfl, hb3⟩
          have HB3 := hide (HB2.out.trans (hb3.mono HB2.out.size))
          clear hb3
          by_cases hm : mayE d.r = 0
          · have HF : Hid (pmT ls (k + 1) = 0) := by unfold Hid; rw [HN.out, HM.out, hm]
            rw [hm]
            clear hm
            go_wp2_with fail
            go_roundw
            case rel => exact ⟨k + 1, by go_num, by omega, HF.out, HB3.out⟩
            case measure => simp [intOf]; omega
          · have hm2 : (mayE d.r == 0) = false := by simpa using hm
            have HF : Hid (pairsE ls = mayE d.r) := by unfold Hid; rw [HY.out (by rw [HM.out]; exact hm), HM.out]
            clear hm
            go_wp2_with fail
            go_ret
            exact ⟨ret_int HF.out.symm, HB3.out⟩
        · have hm2 : (mayE d.l == 0) = false := by simpa using hm
          have HF : Hid (pairsE ls = mayE d.l) := by unfold Hid; rw [HY.out (by rw [twoE_fst hm]; exact hm), twoE_fst hm]
          clear hm
          go_wp2_with fail
          go_ret
          exact ⟨ret_int HF.out.symm, HB2.out⟩
      · have hkl : k = ls.length := by omega
        go_wp2_with fail
        go_ret
        exact ⟨ret_int (by unfold pairsE; rw [if_neg h40, ← hkl]; exact HT.out.symm), HB.out⟩
#print axioms ucheck_any
#print axioms hugePairs_any
#print axioms pairsMay_any
end Go.Proofs.Ytgppbciofhoigab

/- Walks: two answers that are terms. -/
namespace Go.Proofs.Ytgppbciofhoigab
open Go.RowKit
set_option linter.unusedSimpArgs false
set_option linter.unusedVariables false

set_option maxHeartbeats 1000000 in
theorem term2_ok (t : Tm) (v u : Value) (w : World) (X Y : Nat → Prop) (hv : TV w X v t) (hu : TV w Y u t) :
    Calls Try.prog 38 #[v, .int .i64 0, u, .int .i64 0] w fun e w' => e = .returned (.bool true) ∧ Below w.heap.size w w' := by
  obtain ⟨a, c, rfl, hs⟩ := hv
  obtain ⟨a2, c2, rfl, hs2⟩ := hu
  have HV := hide (show TV w X (.agg #[.string t.name, .slice a t.args.length c]) t from ⟨a, c, rfl, hs⟩)
  have HU := hide (show TV w Y (.agg #[.string t.name, .slice a2 t.args.length c2]) t from ⟨a2, c2, rfl, hs2⟩)
  clear hs hs2
  go_enter Try.func38, Try.ntmps38
  go_wp2_with fail
  refine (same_any t _ _ _ X Y (by exact HV.out.later (below2 _ _)) (by exact HU.out.later (below2 _ _))).mono ?_
  rintro e w1 ⟨rfl, hb1⟩
  go_wp2_with fail
  go_ret
  exact ⟨rfl, (below2 _ _).trans (hb1.mono (by simp; omega))⟩

set_option maxHeartbeats 1000000 in
theorem term2_err (f : Int) (u : Value) (s2 : ByteArray) (a2 : Option Addr) (n2 c2 : Nat) (hu : u = .agg #[.string s2, .slice a2 n2 c2]) (w : World) (hf : f ≠ 0) :
    Calls Try.prog 38 #[zeroT, .int .i64 f, u, .int .i64 f] w fun e w' => e = .returned (.bool true) ∧ Below w.heap.size w w' := by
  subst hu
  unfold zeroT
  have hf' : (f == 0) = false := by simpa using hf
  go_enter Try.func38, Try.ntmps38
  go_wp2_with fail
  go_ret
  exact ⟨rfl, below2 _ _⟩
#print axioms term2_ok
end Go.Proofs.Ytgppbciofhoigab

/- Walks: bindings that are the same; two answers that are bindings. -/
namespace Go.Proofs.Ytgppbciofhoigab
open Go.RowKit
set_option linter.unusedSimpArgs false
set_option linter.unusedVariables false
set_option maxRecDepth 8000

def SmbInv (ls : List Bd) (w : World) (v : Value) (wr : World) : Prop := ∃ k : Nat, v = .int .i64 (k : Int) ∧ k ≤ ls.length ∧ Below w.heap.size w wr

set_option maxHeartbeats 1000000 in
theorem sameBinds_any (ls : List Bd) (u v : Value) (w : World) (X Y : Nat → Prop) (hu : BV w X u ls) (hv : BV w Y v ls) :
    Calls Try.prog 21 #[u, v] w fun e w' => e = .returned (.bool true) ∧ Below w.heap.size w w' := by
  have HU := hide hu
  have HV := hide hv
  obtain ⟨a, c, rfl, hl, _⟩ := hu
  obtain ⟨a2, c2, rfl, hl2, _⟩ := hv
  go_enter Try.func21, Try.ntmps21
  go_wp2_with fail
  go_loopw [5] (fun v wr => SmbInv ls w v wr) (fun v wr => ls.length - (intOf v).toNat)
  case atStart => exact ⟨0, rfl, Nat.zero_le _, Below.refl _ _⟩
  case round =>
    obtain ⟨k, rfl, hk, hb⟩ := hrel
    have HB := hide hb
    by_cases hlt : k < ls.length
    · obtain ⟨b, o, a', c', rfl, d0, d1, d2, hs⟩ := (HU.out.later hb).get k hlt
      obtain ⟨b2, o2, a2', c2', rfl, e0, e1, e2, hs2⟩ := (HV.out.later hb).get k hlt
      have HX := hide hs
      have HX2 := hide hs2
      have HS0 := hide (And.intro d0 (And.intro d1 (And.intro d2 (And.intro e0 (And.intro e1 e2)))))
      clear hb hs hs2
      generalize ls[k] = d at *
      have hbb : (d.nm.toList == d.nm.toList) = true := by simp
      go_wp2_with fail
      go_region_held3 (fun w' => w'.cell? ⟨b, o + k * 3, none⟩ = some (.string d.nm) ∧ w'.cell? ⟨b, o + k * 3 + 1, none⟩ = some (.string d.t.name) ∧ w'.cell? ⟨b, o + k * 3 + 2, none⟩ = some (.slice a' d.t.args.length c') ∧ w'.cell? ⟨b2, o2 + k * 3, none⟩ = some (.string d.nm) ∧ w'.cell? ⟨b2, o2 + k * 3 + 1, none⟩ = some (.string d.t.name) ∧ w'.cell? ⟨b2, o2 + k * 3 + 2, none⟩ = some (.slice a2' d.t.args.length c2')) (first | exact HS0.out | exact hS1 | go_keep)
        ((go_at_call 51; refine (same_any d.t _ _ _ X Y (by exact ⟨_, _, rfl, HX.out.later (below_drewN (Below.refl _ _) 1)⟩) (by exact ⟨_, _, rfl, HX2.out.later (below_drewN (Below.refl _ _) 1)⟩)).mono ?_; rintro e w1 ⟨rfl, hb1⟩; have hS1 := same_cells (n := 1) hb1 HS0.out))
      have HB1 := hide ((below_drewN HB.out 1).trans (hb1.mono (by have := HB.out.size; simp; omega)))
      clear hb1
      go_wp2_with fail
      go_roundw
      case rel => exact ⟨k + 1, by go_num, by omega, HB1.out⟩
      case measure => simp [intOf]; omega
    · go_wp2_with fail
      go_ret
      exact ⟨rfl, HB.out⟩

theorem binds2_err (e : Int) (c : Nat) (v : Value) (w : World) (he : e ≠ 0) :
    Calls Try.prog 28 #[.slice none 0 c, .int .i64 e, v, .int .i64 e] w fun r w' => r = .returned (.bool true) ∧ w' = w := by
  have h1 : (e == 0) = false := by simpa using he
  clear he
  go_enter Try.func28, Try.ntmps28
  go_wp2_with fail
  go_ret
  exact ⟨rfl, rfl⟩
theorem binds2_ok (ls : List Bd) (u v : Value) (w : World) (X Y : Nat → Prop) (hu : BV w X u ls) (hv : BV w Y v ls) :
    Calls Try.prog 28 #[u, .int .i64 0, v, .int .i64 0] w fun r w' => r = .returned (.bool true) ∧ Below w.heap.size w w' := by
  have HC := hide (sameBinds_any ls u v w X Y hu hv)
  clear hu hv
  go_enter Try.func28, Try.ntmps28
  go_wp2_with (go_at_call 21; refine HC.out.mono ?_; rintro e w' ⟨rfl, hb⟩)
  go_ret
  exact ⟨rfl, hb⟩
#print axioms sameBinds_any
#print axioms binds2_err
#print axioms binds2_ok
end Go.Proofs.Ytgppbciofhoigab

/- Walks: Unify, and what the law says of it. -/
namespace Go.Proofs.Ytgppbciofhoigab
open Go.RowKit
set_option linter.unusedSimpArgs false
set_option linter.unusedVariables false
set_option maxRecDepth 8000

theorem may_parts {t : Tm} (h : mayE t = 0) : errL [t] = 0 ∧ sizeL [t] ≤ 2000 := by
  unfold mayE at h
  split at h
  · cases h
  · exact ⟨h, by omega⟩
theorem flat_size : ∀ (l : List Pr), (∀ p ∈ l, sizeL [p.l] ≤ 2000 ∧ sizeL [p.r] ≤ 2000) → sizeL (flatP l) ≤ 4000 * l.length
  | [], _ => by simp [flatP, sizeL]
  | p :: l, h => by
    have h1 := h p (by simp)
    have h2 := flat_size l fun q hq => h q (by simp [hq])
    have e1 := size_cons p.l (p.r :: flatP l)
    have e2 := size_cons p.r (flatP l)
    rw [flatP]
    simp only [List.length_cons]
    omega
theorem flat_err : ∀ (l : List Pr), (∀ p ∈ l, errL [p.l] = 0 ∧ errL [p.r] = 0) → errL (flatP l) = 0
  | [], _ => by simp [flatP, errL]
  | p :: l, h => by
    rw [flatP]
    exact err_two.2 ⟨(h p (by simp)).1, err_two.2 ⟨(h p (by simp)).2, flat_err l fun q hq => h q (by simp [hq])⟩⟩
/-- What may be, begins so. -/
theorem pairs_start {ls : List Pr} (h : pairsE ls = 0) : errL (flatP ls) = 0 ∧ ls.length ≤ 40 ∧ UI ((preL (onL [] (flatP ls))).map (·.name)) [] ls ∧ ((preL (onL [] (flatP ls))).map (·.name)).length ≤ 400000 := by
  have h1 := pairsE_all h
  have h2 := pairsE_len h
  have he : errL (flatP ls) = 0 := flat_err ls fun p hp => ⟨(may_parts (h1 p hp).1).1, (may_parts (h1 p hp).2).1⟩
  have hs : ∀ p ∈ ls, sizeL [p.l] ≤ 2000 ∧ sizeL [p.r] ≤ 2000 := fun p hp => ⟨(may_parts (h1 p hp).1).2, (may_parts (h1 p hp).2).2⟩
  refine ⟨he, h2, UI.start he hs h2, ?_⟩
  rw [List.length_map, preL_length, onL_id _ (by simp)]
  have := flat_size ls hs
  omega
theorem solve_any {ls : List Pr} (hp : pairsE ls = 0) (R : Int × List Bd) (g0 : Nat) (hrun : uRun false g0 [] ls = some R) (u : Value) (w : World) (X : Nat → Prop) (hu : QV w X u ls) :
    Calls Try.prog 57 #[u] w fun e w' => SoPost R w e w' := by
  obtain ⟨he, hl, hU, hV⟩ := pairs_start hp
  obtain ⟨a, c, rfl, _, hc⟩ := hu.mono (Y := fun b => b < w.heap.size) fun _ _ h => h
  rcases hc with rfl | ⟨b, o, rfl, hb, hcell⟩
  · exact callsIn_wide.1 (solve_in (hide sortedKeys) 6 (by omega) 0 0 a [] c (Or.inl rfl) (by simp) _ hV hU R g0 hrun w (Nat.zero_le _) (Or.inl rfl) (fun j u h => by simp [flat4] at h) (by simp))
  · obtain ⟨xs, hx1, hx2, hx3⟩ := pairs_cells ls b o hcell
    subst hx1
    have hl2 : xs.length ≤ 40 := by simpa using hl
    have := solve_in (hide sortedKeys) 6 (by omega) b o (some ⟨b, o, none⟩) xs c (Or.inr rfl) hl2 _ hV hU R g0 hrun w (Nat.le_of_lt hb) (Or.inr hb) hx2 hx3
    rw [List.length_map]
    exact callsIn_wide.1 this
def UnPost (ls : List Pr) (R : Int × List Bd) (w : World) (e : Ending) (w' : World) : Prop :=
  (pairsE ls ≠ 0 ∧ Below w.heap.size w w' ∧ e = .returned (.tuple #[.slice none 0 0, .int .i64 (pairsE ls)])) ∨ (pairsE ls = 0 ∧ SoPost R w e w')
theorem unify_any (ls : List Pr) (R : Int × List Bd) (g0 : Nat) (hrun : pairsE ls = 0 → uRun false g0 [] ls = some R) (u : Value) (w : World) (X : Nat → Prop) (hu : QV w X u ls) :
    Calls Try.prog 26 #[u] w fun e w' => UnPost ls R w e w' := by
  have HU := hide hu
  have HR := hide hrun
  clear hu hrun
  by_cases hp : pairsE ls = 0
  · have HP := hide hp
    go_enter Try.func26, Try.ntmps26
    go_wp2_with (go_at_call 27; refine (ucheck_any ls u w X HU.out).mono ?_; rintro e w1 ⟨rfl, hb1⟩; rw [HP.out]; have HB1 := hide hb1; clear hb1)
    refine (solve_any HP.out R g0 (HR.out HP.out) u w1 X (HU.out.later HB1.out)).mono ?_
    rintro e w2 ⟨hb2, hc⟩
    have HB2 := hide (HB1.out.trans (hb2.mono HB1.out.size))
    have HC := hide hc
    clear hb2 hc
    rcases HC.out with ⟨h1, rfl⟩ | ⟨h1, h2, rfl⟩ | ⟨h1, h2, v, rfl, h3⟩
    · go_wp2_with fail
      refine bodyPost_ret (v := .tuple #[.slice none 0 0, .int .i64 8]) (by simp [results, Try.results26, go_sem]) rfl ?_
      exact Or.inr ⟨HP.out, HB2.out, Or.inl ⟨h1, rfl⟩⟩
    · go_wp2_with fail
      refine bodyPost_ret (v := .tuple #[.slice none 0 0, .int .i64 R.1]) (by simp [results, Try.results26, go_sem]) rfl ?_
      exact Or.inr ⟨HP.out, HB2.out, Or.inr (Or.inl ⟨h1, h2, rfl⟩)⟩
    · have H3 := hide h3
      clear h3
      go_wp2_with fail
      refine bodyPost_ret (v := .tuple #[v, .int .i64 0]) (by simp [results, Try.results26, go_sem]) rfl ?_
      exact Or.inr ⟨HP.out, HB2.out, Or.inr (Or.inr ⟨h1, h2, v, rfl, H3.out.mono fun b hb _ => Nat.le_trans HB1.out.size hb⟩)⟩
  · have hpb : (pairsE ls == 0) = false := beq_eq_false_iff_ne.2 hp
    have HP := hide hp
    clear hp
    go_enter Try.func26, Try.ntmps26
    go_wp2_with (go_at_call 27; refine (ucheck_any ls u w X HU.out).mono ?_; rintro e w1 ⟨rfl, hb1⟩; have HB1 := hide hb1; clear hb1)
    refine bodyPost_ret (v := .tuple #[.slice none 0 0, .int .i64 (pairsE ls)]) (by simp [results, Try.results26, go_sem]) rfl ?_
    exact Or.inl ⟨HP.out, HB1.out, rfl⟩

/-- Both sides answer the same. -/
theorem two_runs {ls : List Pr} (hp : pairsE ls = 0) : ∃ (g : Nat) (R R' : Int × List Bd), uRun false g [] ls = some R ∧ uRun true g [] ls = some R' ∧ (grtB R.2 = true → R'.1 = 8) ∧ (grtB R.2 = false → R' = R) := by
  obtain ⟨n, r, hr⟩ := u_ends0 ls (pairs_start hp).1
  obtain ⟨e, sf⟩ := r
  obtain ⟨e', sf', h1, h2, h3⟩ := uRun_lim n [] ls e sf hr (by simp [grtB])
  refine ⟨n, (e, sf), (e', sf'), hr, h1, h2, fun hg => ?_⟩
  obtain ⟨rfl, rfl⟩ := h3 hg
  rfl

theorem unify_bad (ls : List Pr) (hp : pairsE ls ≠ 0) (u : Value) (w : World) (X : Nat → Prop) (hu : QV w X u ls) :
    Calls Try.prog 26 #[u] w fun e w' => e = .returned (.tuple #[.slice none 0 0, .int .i64 (pairsE ls)]) ∧ Below w.heap.size w w' := by
  refine (unify_any ls (0, []) 0 (fun h => absurd h hp) u w X hu).mono ?_
  rintro e w' (⟨_, hb, rfl⟩ | ⟨h, _⟩)
  · exact ⟨rfl, hb⟩
  · exact absurd h hp
theorem unify_great (ls : List Pr) (hp : pairsE ls = 0) (R : Int × List Bd) (g : Nat) (hR : uRun false g [] ls = some R) (hg : grtB R.2 = true) (u : Value) (w : World) (X : Nat → Prop) (hu : QV w X u ls) :
    Calls Try.prog 26 #[u] w fun e w' => e = .returned (.tuple #[.slice none 0 0, .int .i64 8]) ∧ Below w.heap.size w w' := by
  refine (unify_any ls R g (fun _ => hR) u w X hu).mono ?_
  rintro e w' (⟨h, _⟩ | ⟨_, hb, ⟨_, rfl⟩ | ⟨h, _⟩ | ⟨h, _⟩⟩)
  · exact absurd hp h
  · exact ⟨rfl, hb⟩
  · rw [hg] at h; cases h
  · rw [hg] at h; cases h
theorem unify_none (ls : List Pr) (hp : pairsE ls = 0) (R : Int × List Bd) (g : Nat) (hR : uRun false g [] ls = some R) (hg : grtB R.2 = false) (h0 : R.1 ≠ 0) (u : Value) (w : World) (X : Nat → Prop) (hu : QV w X u ls) :
    Calls Try.prog 26 #[u] w fun e w' => e = .returned (.tuple #[.slice none 0 0, .int .i64 R.1]) ∧ Below w.heap.size w w' := by
  refine (unify_any ls R g (fun _ => hR) u w X hu).mono ?_
  rintro e w' (⟨h, _⟩ | ⟨_, hb, ⟨h, _⟩ | ⟨_, _, rfl⟩ | ⟨_, h, _⟩⟩)
  · exact absurd hp h
  · rw [hg] at h; cases h
  · exact ⟨rfl, hb⟩
  · exact absurd h h0
theorem unify_some (ls : List Pr) (hp : pairsE ls = 0) (R : Int × List Bd) (g : Nat) (hR : uRun false g [] ls = some R) (hg : grtB R.2 = false) (h0 : R.1 = 0) (u : Value) (w : World) (X : Nat → Prop) (hu : QV w X u ls) :
    Calls Try.prog 26 #[u] w fun e w' => ∃ v, e = .returned (.tuple #[v, .int .i64 0]) ∧ BV w' (fun b => w.heap.size ≤ b) v R.2 ∧ Below w.heap.size w w' := by
  refine (unify_any ls R g (fun _ => hR) u w X hu).mono ?_
  rintro e w' (⟨h, _⟩ | ⟨_, hb, ⟨h, _⟩ | ⟨_, h, _⟩ | ⟨_, _, v, rfl, hv⟩⟩)
  · exact absurd hp h
  · rw [hg] at h; cases h
  · exact absurd h0 h
  · exact ⟨v, rfl, hv, hb⟩
theorem unifyOf_none {V : List ByteArray} (hV : V.length ≤ 400000) {R : Int × List Bd} {N : Nat} {ls : List Pr} (hU : UI V [] ls) (hR : uRun true N [] ls = some R) (h0 : R.1 ≠ 0) (v : Value) (w : World) (X : Nat → Prop) (hv : QV w X v ls) :
    Calls Try.prog 25 #[v] w fun e w' => e = .returned (.tuple #[.slice none 0 0, .int .i64 R.1]) ∧ Below w.heap.size w w' := by
  refine (unifyOf_any V hV R N ls v w X hv hU hR).mono ?_
  rintro e w' ⟨hb, ⟨h, _⟩ | ⟨_, rfl⟩⟩
  · exact absurd h h0
  · exact ⟨rfl, hb⟩
theorem unifyOf_some {V : List ByteArray} (hV : V.length ≤ 400000) {R : Int × List Bd} {N : Nat} {ls : List Pr} (hU : UI V [] ls) (hR : uRun true N [] ls = some R) (h0 : R.1 = 0) (v : Value) (w : World) (X : Nat → Prop) (hv : QV w X v ls) :
    Calls Try.prog 25 #[v] w fun e w' => ∃ v', e = .returned (.tuple #[v', .int .i64 0]) ∧ BV w' (fun _ => True) v' R.2 ∧ Below w.heap.size w w' := by
  refine (unifyOf_any V hV R N ls v w X hv hU hR).mono ?_
  rintro e w' ⟨hb, ⟨_, v', rfl, hv'⟩ | ⟨h, _⟩⟩
  · exact ⟨v', rfl, hv', hb⟩
  · exact absurd h0 h

set_option maxHeartbeats 2000000 in
theorem unifySays_any (ls : List Pr) (u : Value) (w : World) (X : Nat → Prop) (hu : QV w X u ls) :
    Calls Try.prog 6 #[u] w fun e w' => e = .returned (.bool true) ∧ Below w.heap.size w w' := by
  have HU := hide hu
  clear hu
  cases hq : hugeQ ls with
  | true =>
    have HQ := hide hq
    clear hq
    go_enter Try.func6, Try.ntmps6
    go_wp2_with (go_at_call 23; refine (hugePairs_any ls u w X HU.out).mono ?_; rintro e w1 ⟨rfl, hb1⟩; rw [HQ.out]; have HB1 := hide hb1; clear hb1)
    go_ret
    exact ⟨rfl, HB1.out⟩
  | false =>
    have HQ := hide hq
    clear hq
    by_cases hp : pairsE ls = 0
    · have HP := hide hp
      obtain ⟨g, R, R', hR, hR', hg8, hgs⟩ := two_runs hp
      obtain ⟨he, hl, hUI, hV⟩ := pairs_start hp
      have HR := hide hR
      have HR' := hide hR'
      have HUI := hide hUI
      have HV := hide hV
      have H8 := hide hg8
      have HGS := hide hgs
      clear hp hR hR' hg8 hgs hUI hV he hl
      cases hg : grtB R.2 with
      | true =>
        have HG := hide hg
        have E8 := hide (H8.out hg)
        have UO : Hid (∀ w2, QV w2 X u ls → Calls Try.prog 25 #[u] w2 fun e w' => e = .returned (.tuple #[.slice none 0 0, .int .i64 8]) ∧ Below w2.heap.size w2 w') := fun w2 h2 => by
          have h1 := unifyOf_none HV.out HUI.out HR'.out (by rw [E8.out]; decide) u w2 X h2
          rw [E8.out] at h1
          exact h1
        clear hg
        go_enter Try.func6, Try.ntmps6
        go_wp2_with (first
          | (go_at_call 23; refine (hugePairs_any ls u w X HU.out).mono ?_; rintro e w1 ⟨rfl, hb1⟩; rw [HQ.out]; have HB1 := hide hb1; clear hb1)
          | (go_at_call 24; refine (pairsMay_any ls u w1 X (HU.out.later HB1.out)).mono ?_; rintro e w2 ⟨rfl, hb2⟩; rw [HP.out]; have HB2 := hide (HB1.out.trans (hb2.mono HB1.out.size)); clear hb2)
          | (go_at_call 25; refine (UO.out w2 (HU.out.later HB2.out)).mono ?_; rintro e w3 ⟨rfl, hb3⟩; have HB3 := hide (HB2.out.trans (hb3.mono HB2.out.size)); clear hb3)
          | (go_at_call 26; refine (unify_great ls HP.out R g HR.out HG.out u w3 X (HU.out.later HB3.out)).mono ?_; rintro e w4 ⟨rfl, hb4⟩; have HB4 := hide (HB3.out.trans (hb4.mono HB3.out.size)); clear hb4)
          | (go_at_call 27; refine (ucheck_any ls u w4 X (HU.out.later HB4.out)).mono ?_; rintro e w5 ⟨rfl, hb5⟩; rw [HP.out]; have HB5 := hide (HB4.out.trans (hb5.mono HB4.out.size)); clear hb5)
          | (go_at_call 28; refine (binds2_err 8 0 _ _ (by decide)).mono ?_; rintro e w6 ⟨rfl, rfl⟩))
        go_ret
        exact ⟨by simp, HB5.out⟩
      | false =>
        have HG := hide hg
        have ER := HGS.out hg
        subst ER
        clear hg
        by_cases h0 : R'.1 = 0
        · have H0 := hide h0
          clear h0
          go_enter Try.func6, Try.ntmps6
          go_wp2_with (first
            | (go_at_call 23; refine (hugePairs_any ls u w X HU.out).mono ?_; rintro e w1 ⟨rfl, hb1⟩; rw [HQ.out]; have HB1 := hide hb1; clear hb1)
            | (go_at_call 24; refine (pairsMay_any ls u w1 X (HU.out.later HB1.out)).mono ?_; rintro e w2 ⟨rfl, hb2⟩; rw [HP.out]; have HB2 := hide (HB1.out.trans (hb2.mono HB1.out.size)); clear hb2)
            | (go_at_call 25; refine (unifyOf_some HV.out HUI.out HR'.out H0.out u w2 X (HU.out.later HB2.out)).mono ?_; rintro e w3 ⟨v3, rfl, hv3, hb3⟩; have HV3 := hide hv3; have HB3 := hide (HB2.out.trans (hb3.mono HB2.out.size)); clear hb3 hv3)
            | (go_at_call 26; refine (unify_some ls HP.out _ g HR.out HG.out H0.out u w3 X (HU.out.later HB3.out)).mono ?_; rintro e w4 ⟨v4, rfl, hv4, hb4⟩; have HV4 := hide hv4; have HV34 := hide (HV3.out.later hb4); have HB4 := hide (HB3.out.trans (hb4.mono HB3.out.size)); clear hb4 hv4)
            | (go_at_call 27; refine (ucheck_any ls u w4 X (HU.out.later HB4.out)).mono ?_; rintro e w5 ⟨rfl, hb5⟩; rw [HP.out]; have HV45 := hide (HV4.out.later hb5); have HV35 := hide (HV34.out.later hb5); have HB5 := hide (HB4.out.trans (hb5.mono HB4.out.size)); clear hb5)
            | (go_at_call 28; refine (binds2_ok _ _ _ w5 _ _ HV45.out HV35.out).mono ?_; rintro e w6 ⟨rfl, hb6⟩; have HB6 := hide (HB5.out.trans (hb6.mono HB5.out.size)); clear hb6))
          go_ret
          exact ⟨by simp, HB6.out⟩
        · have H0 := hide h0
          clear h0
          go_enter Try.func6, Try.ntmps6
          go_wp2_with (first
            | (go_at_call 23; refine (hugePairs_any ls u w X HU.out).mono ?_; rintro e w1 ⟨rfl, hb1⟩; rw [HQ.out]; have HB1 := hide hb1; clear hb1)
            | (go_at_call 24; refine (pairsMay_any ls u w1 X (HU.out.later HB1.out)).mono ?_; rintro e w2 ⟨rfl, hb2⟩; rw [HP.out]; have HB2 := hide (HB1.out.trans (hb2.mono HB1.out.size)); clear hb2)
            | (go_at_call 25; refine (unifyOf_none HV.out HUI.out HR'.out H0.out u w2 X (HU.out.later HB2.out)).mono ?_; rintro e w3 ⟨rfl, hb3⟩; have HB3 := hide (HB2.out.trans (hb3.mono HB2.out.size)); clear hb3)
            | (go_at_call 26; refine (unify_none ls HP.out _ g HR.out HG.out H0.out u w3 X (HU.out.later HB3.out)).mono ?_; rintro e w4 ⟨rfl, hb4⟩; have HB4 := hide (HB3.out.trans (hb4.mono HB3.out.size)); clear hb4)
            | (go_at_call 27; refine (ucheck_any ls u w4 X (HU.out.later HB4.out)).mono ?_; rintro e w5 ⟨rfl, hb5⟩; rw [HP.out]; have HB5 := hide (HB4.out.trans (hb5.mono HB4.out.size)); clear hb5)
            | (go_at_call 28; refine (binds2_err _ 0 _ _ H0.out).mono ?_; rintro e w6 ⟨rfl, rfl⟩))
          go_ret
          exact ⟨by simp, HB5.out⟩
    · have hpb : (pairsE ls == 0) = false := beq_eq_false_iff_ne.2 hp
      have HP := hide hp
      clear hp
      go_enter Try.func6, Try.ntmps6
      go_wp2_with (first
        | (go_at_call 23; refine (hugePairs_any ls u w X HU.out).mono ?_; rintro e w1 ⟨rfl, hb1⟩; rw [HQ.out]; have HB1 := hide hb1; clear hb1)
        | (go_at_call 24; refine (pairsMay_any ls u w1 X (HU.out.later HB1.out)).mono ?_; rintro e w2 ⟨rfl, hb2⟩; have HB2 := hide (HB1.out.trans (hb2.mono HB1.out.size)); clear hb2)
        | (go_at_call 26; refine (unify_bad ls HP.out u w2 X (HU.out.later HB2.out)).mono ?_; rintro e w4 ⟨rfl, hb4⟩; have HB4 := hide (HB2.out.trans (hb4.mono HB2.out.size)); clear hb4)
        | (go_at_call 27; refine (ucheck_any ls u w4 X (HU.out.later HB4.out)).mono ?_; rintro e w5 ⟨rfl, hb5⟩; have HB5 := hide (HB4.out.trans (hb5.mono HB4.out.size)); clear hb5)
        | (go_at_call 28; refine (binds2_err _ 0 _ _ HP.out).mono ?_; rintro e w6 ⟨rfl, rfl⟩))
      go_ret
      exact ⟨by simp, HB5.out⟩
#print axioms unifySays_any
end Go.Proofs.Ytgppbciofhoigab

/- Walks: UnifyMade. -/
namespace Go.Proofs.Ytgppbciofhoigab
open Go.RowKit
set_option linter.unusedSimpArgs false
set_option linter.unusedVariables false
set_option maxRecDepth 8000

set_option maxHeartbeats 1000000 in
theorem unifyMade_any (zs : List Int) (hr : ∀ z ∈ zs, Rng z) (y y2 : Int) (hy : Rng y) (hy2 : Rng y2) (u : Value) (w : World) (X : Nat → Prop) (hu : PV w X u zs) :
    Calls Try.prog 7 #[u, .int .i64 y, .int .i64 y2] w fun e w' => e = .returned (.bool true) ∧ Below w.heap.size w w' := by
  have HU := hide hu
  obtain ⟨a, c, rfl, hlc, hu2⟩ := hu
  clear hu2
  by_cases h256 : 256 < zs.length
  · go_enter Try.func7, Try.ntmps7
    go_wp2_with fail
    go_ret
    exact ⟨rfl, Below.refl _ _⟩
  · have PF : Hid (∀ (k1 k2 : Nat), k1 < 4 → k2 < 12 → Calls Try.prog 29 #[.slice a zs.length c, .int .i64 (k1 : Int), .int .i64 (1 + (k2 : Int)), .int .i64 4] w fun e w' => ∃ v ls, e = .returned v ∧ QV w' (fun _ => True) v ls ∧ Below w.heap.size w w') := fun k1 k2 h1 h2 => by
      have h := pairsFrom_any 4 (by decide) (by decide) zs hr (by omega) (1 + k2) k1 _ w X HU.out (by omega) (by omega)
      have e : ((1 + k2 : Nat) : Int) = 1 + (k2 : Int) := by omega
      rw [e] at h
      refine h.mono ?_
      rintro e w' ⟨v, ls, rfl, hv, _, _, hb⟩
      exact ⟨v, ls, rfl, hv.mono fun _ _ _ => trivial, hb⟩
    have PF2 : Hid (∀ (k1 k2 : Nat), k1 < 4 → k2 < 12 → Calls Try.prog 29 #[.slice a zs.length c, .int .i64 (k1 : Int), .int .i64 ((k2 : Int) + 1), .int .i64 4] w fun e w' => ∃ v ls, e = .returned v ∧ QV w' (fun _ => True) v ls ∧ Below w.heap.size w w') := fun k1 k2 h1 h2 => by
      have h := PF.out k1 k2 h1 h2
      rw [Int.add_comm] at h
      exact h
    go_enter Try.func7, Try.ntmps7
    go_wp2_with fail
    refine (pick_any _ 4 (by decide) (by decide) hy _).mono ?_
    rintro e w1 ⟨k1, rfl, hk1, rfl⟩
    go_wp2_with fail
    refine (pick_any _ 12 (by decide) (by decide) hy2 _).mono ?_
    rintro e w1 ⟨k2, rfl, hk2, rfl⟩
    go_wp2_with fail
    refine (by first | exact PF.out k1 k2 hk1 hk2 | exact PF2.out k1 k2 hk1 hk2 : Calls Try.prog 29 _ _ _).mono ?_
    rintro e w2 ⟨v2, ls, rfl, hv2, hb2⟩
    have B2 := hide hb2
    have V2 := hide hv2
    clear hb2 hv2
    go_wp2_with fail
    refine (unifySays_any ls _ w2 _ V2.out).mono ?_
    rintro e w3 ⟨rfl, hb3⟩
    have B3 := hide (B2.out.trans (hb3.mono B2.out.size))
    clear hb3
    go_wp2_with fail
    go_ret
    exact ⟨rfl, B3.out⟩
#print axioms unifyMade_any
end Go.Proofs.Ytgppbciofhoigab

/- Terms and lists of numbers as they are read before the call. -/
namespace Go.Proofs.Ytgppbciofhoigab
open Go.ChangeShapes Go.WideShapes Go.ChangeAt Go.RowKit
set_option linter.unusedSimpArgs false
set_option linter.unusedVariables false
set_option maxRecDepth 8000

theorem Try.cellsTerm : Try.prog.cellsOf 29 = 2 := by kernel_rfl
theorem Try.cellsStr : Try.prog.cellsOf 9 = 1 := by kernel_rfl
theorem Try.cellsSl : Try.prog.cellsOf 27 = 1 := by kernel_rfl
theorem Try.cellsInt : Try.prog.cellsOf 3 = 1 := by kernel_rfl

theorem cells2 {w : World} {a : Addr} {cs : List Value} (h : w.cells? 0 a 2 = some cs) : ∃ c0 c1, cs = [c0, c1] ∧ w.cell? a = some c0 ∧ w.cell? (a.add 1) = some c1 := by
  have e : (List.range 2) = [0, 1] := rfl
  simp only [World.cells?, Nat.zero_le, if_true, e] at h
  simp only [List.mapM_cons, List.mapM_nil, Option.bind_eq_bind, Option.bind_eq_some_iff, Option.pure_def] at h
  obtain ⟨c0, h0, r, ⟨c1, h1, r2, h2, h3⟩, h4⟩ := h
  simp only [Option.some.injEq] at h2 h3 h4
  subst h2; subst h3; subst h4
  exact ⟨c0, c1, rfl, by simpa [Addr.add] using h0, h1⟩

theorem cells1 {w : World} {a : Addr} {cs : List Value} (h : w.cells? 0 a 1 = some cs) : ∃ c0, cs = [c0] ∧ w.cell? a = some c0 := by
  have e : (List.range 1) = [0] := rfl
  simp only [World.cells?, Nat.zero_le, if_true, e] at h
  simp only [List.mapM_cons, List.mapM_nil, Option.bind_eq_bind, Option.bind_eq_some_iff, Option.pure_def] at h
  obtain ⟨c0, h0, r, h1, h2⟩ := h
  simp only [Option.some.injEq] at h1 h2
  subst h1; subst h2
  exact ⟨c0, rfl, by simpa [Addr.add] using h0⟩

theorem open_term {H : Type} {enc : TypeId × Value → H} {w : World} {sp : Nat → Bool} {held : Bool} : ∀ (fuel : Nat) (cs : List Value) (x : DataW H × List MemPlace), DataW.trod enc Try.prog w 0 sp held fuel 29 cs = some x →
    ∃ (t : Tm) (a : Option Addr) (c : Nat), cs = [.string t.name, .slice a t.args.length c] ∧ Sl w (fun _ => True) a t.args := by
  intro fuel
  induction fuel using Nat.strongRecOn with
  | ind fuel ih =>
    intro cs x h
    obtain ⟨xs, n, hfu, hx, hl, hxl, hf⟩ := DataW.trod_struct Try.underlying29 h
    have f0 := hf 0 _ rfl
    have f1 := hf 1 _ rfl
    rw [Try.cellsTerm] at hl
    match cs, hl with
    | [c0, c1], _ =>
      match xs, hxl with
      | [y0, y1], _ =>
        simp [Try.cellsStr, Try.cellsSl] at f0 f1
        obtain ⟨s, e0, _, hs⟩ := DataW.trod_string Try.underlying9 f0
        simp at e0
        subst e0
        rcases DataW.trod_slice Try.underlying27 f1 with ⟨e1, _⟩ | ⟨a, len, cap, elems, rest, n2, hn2, e1, _, hb, hlc, hcm, hel, helem, _⟩
        · simp at e1
          subst e1
          exact ⟨⟨s, []⟩, none, 0, rfl, by simp, Or.inl rfl⟩
        · simp at e1
          subst e1
          unfold maxLen at hcm
          rw [Try.cellsTerm] at helem
          have key : ∀ i, ∃ t : Tm, i < len → ∃ a' c', w.cell? (a.add (i * 2)) = some (.string t.name) ∧ w.cell? ((a.add (i * 2)).add 1) = some (.slice a' t.args.length c') ∧ Sl w (fun _ => True) a' t.args := by
            intro i
            by_cases hi : i < len
            · have h1 := helem i hi
              have hie : i < elems.length := by omega
              rw [List.getElem?_eq_getElem hie, Option.bind_eq_some_iff] at h1
              obtain ⟨cs', h2, h3⟩ := h1
              obtain ⟨d0, d1, rfl, g0, g1⟩ := cells2 h2
              obtain ⟨t, a', c', e3, hsl⟩ := ih n2 (by omega) _ _ h3
              simp at e3
              obtain ⟨rfl, rfl⟩ := e3
              exact ⟨t, fun _ => ⟨a', c', g0, g1, hsl⟩⟩
            · exact ⟨⟨s, []⟩, fun h => absurd h hi⟩
          obtain ⟨T, hT⟩ := Classical.skolem.1 key
          refine ⟨⟨s, (List.range len).map T⟩, some a, cap, by simp, by simp; omega, ?_⟩
          by_cases h0 : len = 0
          · subst h0; exact Or.inl rfl
          · right
            obtain ⟨b, o, sp⟩ := a
            obtain ⟨a0, c0, g0, _, _⟩ := hT 0 (by omega)
            have hsp : sp = none := by simpa [Addr.add] using World.cell?_spot g0
            subst hsp
            refine ⟨b, o, rfl, lies_mk _ _ _ fun i hi => ?_⟩
            simp at hi
            obtain ⟨a', c', g0, g1, hsl⟩ := hT i hi
            refine ⟨trivial, ?_, a', c', ?_, ?_⟩
            · simp only [List.getElem_map, List.getElem_range]
              by_cases h00 : i = 0
              · subst h00; simpa [Addr.add] using g0
              · have : i * 2 ≠ 0 := by omega
                simpa [Addr.add, this] using g0
            · simp only [List.getElem_map, List.getElem_range]
              by_cases h00 : i = 0
              · subst h00; simpa [Addr.add] using g1
              · have : i * 2 ≠ 0 := by omega
                simpa [Addr.add, this] using g1
            · simpa using hsl

theorem open_tv {H : Type} {enc : TypeId × Value → H} {w : World} {sp : Nat → Bool} {held : Bool} {r : Reach} {b0 : Nat} {v : Value} {d : DataW H} {p : List MemPlace} (hv : Value.okWide Try.prog w r b0 29 v) (h : DataW.Trod enc Try.prog w 0 sp held 29 v d p) : ∃ t, TV w (fun _ => True) v t := by
  obtain ⟨cs, rfl, hsz⟩ := okWide_struct Try.underlying29 hv
  obtain ⟨fuel, hf⟩ := h
  obtain ⟨t, a, c, e, hs⟩ := open_term fuel _ _ hf
  refine ⟨t, a, c, ?_, hs⟩
  simp [Value.cells] at e
  congr 1
  apply Array.ext'
  simpa using e

theorem open_pv {H : Type} {enc : TypeId × Value → H} {w : World} {sp : Nat → Bool} {held : Bool} {r : Reach} {b0 : Nat} {v : Value} {d : DataW H} {p : List MemPlace} (hv : Value.okWide Try.prog w r b0 22 v) (h : DataW.Trod enc Try.prog w 0 sp held 22 v d p) : ∃ zs, PV w (fun _ => True) v zs := by
  obtain ⟨a0, len0, cap0, rfl⟩ := okWide_slice Try.underlying22 hv
  obtain ⟨fuel, hf⟩ := h
  rcases DataW.trod_slice Try.underlying22 hf with ⟨e1, _⟩ | ⟨a, len, cap, elems, rest, n2, hn2, e1, _, hb, hlc, hcm, hel, helem, _⟩
  · simp [Value.cells] at e1
    obtain ⟨rfl, rfl, rfl⟩ := e1
    exact ⟨[], none, 0, rfl, by simp, Or.inl rfl⟩
  · simp [Value.cells] at e1
    obtain ⟨rfl, rfl, rfl⟩ := e1
    unfold maxLen at hcm
    rw [Try.cellsInt] at helem
    have key : ∀ i, ∃ z : Int, i < len0 → w.cell? (a.add i) = some (.int .i64 z) := by
      intro i
      by_cases hi : i < len0
      · have h1 := helem i hi
        have hie : i < elems.length := by omega
        rw [List.getElem?_eq_getElem hie, Option.bind_eq_some_iff, Nat.mul_one] at h1
        obtain ⟨cs', h2, h3⟩ := h1
        obtain ⟨d0, rfl, g0⟩ := cells1 h2
        obtain ⟨z, e3, _⟩ := DataW.trod_int Try.underlying3 h3
        simp at e3
        subst e3
        exact ⟨z, fun _ => g0⟩
      · exact ⟨0, fun h => absurd h hi⟩
    obtain ⟨Z, hZ⟩ := Classical.skolem.1 key
    refine ⟨(List.range len0).map Z, some a, cap0, by simp, by simp; omega, ?_⟩
    by_cases h0 : len0 = 0
    · subst h0; exact Or.inl rfl
    · right
      obtain ⟨b, o, sp⟩ := a
      have g0 := hZ 0 (by omega)
      have hsp : sp = none := by simpa [Addr.add] using World.cell?_spot g0
      subst hsp
      refine ⟨b, o, rfl, trivial, fun i hi => ?_⟩
      simp at hi
      have g1 := hZ i hi
      simp only [List.getElem_map, List.getElem_range]
      by_cases h00 : i = 0
      · subst h00; simpa [Addr.add] using g1
      · simpa [Addr.add, h00] using g1
#print axioms open_tv
#print axioms open_pv
end Go.Proofs.Ytgppbciofhoigab

/- Lists of numbers as they are read before the call, with their bounds. -/
namespace Go.Proofs.Ytgppbciofhoigab
open Go.ChangeShapes Go.WideShapes Go.ChangeAt Go.RowKit
set_option linter.unusedSimpArgs false
set_option linter.unusedVariables false
set_option maxRecDepth 8000

theorem rng_wf {n : Int} (h : (Lit.int .i64 n).wf = true) : Rng n := by
  have h1 : IntKind.i64.min = -9223372036854775808 := by decide
  have h2 : IntKind.i64.max = 9223372036854775807 := by decide
  simp only [Lit.wf, h1, h2, Bool.and_eq_true, decide_eq_true_eq] at h
  exact h

theorem open_int {H : Type} {enc : TypeId × Value → H} {w : World} {sp : Nat → Bool} {held : Bool} {r : Reach} {b0 : Nat} {v : Value} {d : DataW H} {p : List MemPlace} (hv : Value.okWide Try.prog w r b0 3 v) (h : DataW.Trod enc Try.prog w 0 sp held 3 v d p) : ∃ z, v = .int .i64 z ∧ Rng z := by
  obtain ⟨z, rfl⟩ := okWide_int Try.underlying3 hv
  obtain ⟨fuel, hf⟩ := h
  obtain ⟨z', e3, _, hwf⟩ := DataW.trod_int Try.underlying3 hf
  simp [Value.cells] at e3
  subst e3
  exact ⟨_, rfl, rng_wf hwf⟩

theorem open_pvr {H : Type} {enc : TypeId × Value → H} {w : World} {sp : Nat → Bool} {held : Bool} {r : Reach} {b0 : Nat} {v : Value} {d : DataW H} {p : List MemPlace} (hv : Value.okWide Try.prog w r b0 22 v) (h : DataW.Trod enc Try.prog w 0 sp held 22 v d p) : ∃ zs, PV w (fun _ => True) v zs ∧ ∀ z ∈ zs, Rng z := by
  obtain ⟨a0, len0, cap0, rfl⟩ := okWide_slice Try.underlying22 hv
  obtain ⟨fuel, hf⟩ := h
  rcases DataW.trod_slice Try.underlying22 hf with ⟨e1, _⟩ | ⟨a, len, cap, elems, rest, n2, hn2, e1, _, hb, hlc, hcm, hel, helem, _⟩
  · simp [Value.cells] at e1
    obtain ⟨rfl, rfl, rfl⟩ := e1
    exact ⟨[], ⟨none, 0, rfl, by simp, Or.inl rfl⟩, by simp⟩
  · simp [Value.cells] at e1
    obtain ⟨rfl, rfl, rfl⟩ := e1
    unfold maxLen at hcm
    rw [Try.cellsInt] at helem
    have key : ∀ i, ∃ z : Int, Rng z ∧ (i < len0 → w.cell? (a.add i) = some (.int .i64 z)) := by
      intro i
      by_cases hi : i < len0
      · have h1 := helem i hi
        have hie : i < elems.length := by omega
        rw [List.getElem?_eq_getElem hie, Option.bind_eq_some_iff, Nat.mul_one] at h1
        obtain ⟨cs', h2, h3⟩ := h1
        obtain ⟨d0, rfl, g0⟩ := cells1 h2
        obtain ⟨z, e3, _, hwf⟩ := DataW.trod_int Try.underlying3 h3
        simp at e3
        subst e3
        exact ⟨z, rng_wf hwf, fun _ => g0⟩
      · exact ⟨0, by unfold Rng; omega, fun h => absurd h hi⟩
    obtain ⟨Z, hZ⟩ := Classical.skolem.1 key
    refine ⟨(List.range len0).map Z, ⟨some a, cap0, by simp, by simp; omega, ?_⟩, fun z hz => by obtain ⟨i, _, rfl⟩ := List.mem_map.1 hz; exact (hZ i).1⟩
    by_cases h0 : len0 = 0
    · subst h0; exact Or.inl rfl
    · right
      obtain ⟨b, o, sp⟩ := a
      have g0 := (hZ 0).2 (by omega)
      have hsp : sp = none := by simpa [Addr.add] using World.cell?_spot g0
      subst hsp
      refine ⟨b, o, rfl, trivial, fun i hi => ?_⟩
      simp at hi
      have g1 := (hZ i).2 hi
      simp only [List.getElem_map, List.getElem_range]
      by_cases h00 : i = 0
      · subst h00; simpa [Addr.add] using g1
      · simpa [Addr.add, h00] using g1
#print axioms open_pvr
#print axioms open_int
end Go.Proofs.Ytgppbciofhoigab
