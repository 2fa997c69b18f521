/- Several texts in one. -/
import Derived.Test.YtpbnbkeoiojpaacZBOrderMadeOwn
import Derived.Deep.RegionHeld3
import Derived.Test.YtpbnbkeoiojpaacW6
import Derived.Test.YtpbnbkeoiojpaacZOrderMadeOwn
import Derived.Deep.RegionHeld
import Derived.Test.YtpbnbkeoiojpaacRows
import Derived.Test.YtpbnbkeoiojpaacW7
import Derived.ProofKit
/- Walks: a term with bindings in it, as the document says. -/
namespace Go.Proofs.Ytpbnbkeoiojpaac
open Go.RowKit
set_option linter.unusedSimpArgs false
set_option linter.unusedVariables false
set_option maxRecDepth 8000

def OnPost (w : World) (X : Nat → Prop) (t : Tm) (e : Ending) (w' : World) : Prop :=
  ∃ a c, e = .returned (.agg #[.string t.name, .slice a t.args.length c]) ∧ Sl w' (fun b => (X b ∧ b < w.heap.size) ∨ w.heap.size ≤ b) a t.args ∧ Below w.heap.size w w'

/-- What is held while a knot's next term is made. -/
def OnS (w : World) (b o : Nat) (s : ByteArray) (a : Option Addr) (n c : Nat) (s1 : ByteArray) (v1 : Value) (w' : World) : Prop :=
  Blk w' w.heap.size #[.string s, .slice a n c] 25 ∧ w'.cell? ⟨b, o, none⟩ = some (.string s1) ∧ w'.cell? ⟨b, o + 1, none⟩ = some v1
theorem cell_same {w w' : World} {b i : Nat} {v : Value} (hb : w'.heap[b]? = w.heap[b]?) (h : w.cell? ⟨b, i, none⟩ = some v) : w'.cell? ⟨b, i, none⟩ = some v := by simpa [World.cell?, hb] using h
theorem OnS.below {w wr w1 : World} {b o n c : Nat} {s s1 : ByteArray} {a : Option Addr} {v1 : Value} (h : OnS w b o s a n c s1 v1 wr) (hb : Below wr.heap.size wr w1) (hlt : w.heap.size < wr.heap.size ∧ b < wr.heap.size) : OnS w b o s a n c s1 v1 w1 :=
  ⟨h.1.below hb hlt.1, cell_same (hb.block b hlt.2) h.2.1, cell_same (hb.block b hlt.2) h.2.2⟩
theorem OnS.alloc {w wr : World} {b o n c : Nat} {s s1 : ByteArray} {a : Option Addr} {v1 : Value} (h : OnS w b o s a n c s1 v1 wr) (x : Obj) : OnS w b o s a n c s1 v1 (wr.alloc x) :=
  ⟨h.1.alloc x, cell_same (Below.heap_alloc _ _ _ (cell_lt h.2.1)) h.2.1, cell_same (Below.heap_alloc _ _ _ (cell_lt h.2.1)) h.2.2⟩
theorem OnS.grown {w wr w3 : World} {b o n c : Nat} {s s1 : ByteArray} {a : Option Addr} {v1 : Value} {row : Option Nat} (h : OnS w b o s a n c s1 v1 wr) (hg : wr.grownBy w3 row) (hne : ∀ j, j ≤ w.heap.size → some j ≠ row) (hb : b < w.heap.size) (_ : True) : OnS w b o s a n c s1 v1 w3 :=
  ⟨h.1.grown hg (hne _ (Nat.le_refl _)), cell_same (hg.block b (cell_lt h.2.1) (hne b (by omega))) h.2.1, cell_same (hg.block b (cell_lt h.2.1) (hne b (by omega))) h.2.2⟩
theorem OnS.set {w wr : World} {b o n c : Nat} {s s1 : ByteArray} {a : Option Addr} {v1 : Value} {O i : Nat} (h : OnS w b o s a n c s1 v1 wr) (v : Value) (_ : True) (hO : w.heap.size ≠ O) (hb : b ≠ O) : OnS w b o s a n c s1 v1 (wr.setCell ⟨O, i, none⟩ v) :=
  ⟨h.1.setOther _ _ hO, cell_same (Below.heap_setCell _ _ _ _ (by simpa using hb)) h.2.1, cell_same (Below.heap_setCell _ _ _ _ (by simpa using hb)) h.2.2⟩
theorem hxb {w : World} {X : Nat → Prop} {b o : Nat} {l : List Tm} (h : Sl w X (some ⟨b, o, none⟩) l) (hl : 0 < l.length) : b < w.heap.size := by
  obtain ⟨_, h⟩ := h
  rcases h with rfl | ⟨b', o', e, h⟩
  · simp at hl
  · simp at e
    obtain ⟨rfl, rfl⟩ := e
    exact cell_lt (lies_get l b o h 0 hl).2.1

/-- What is laid ahead of the rounds. -/
def OnSet (w : World) (Y : Nat → Prop) (O : Nat) (s : ByteArray) (a : Option Addr) (n c : Nat) (u : Value) (L : List Tm) (wr : World) : Prop :=
  ∃ xs, Row wr (O + 1) 25 Y u L xs ∧ Below w.heap.size w wr ∧ Blk wr w.heap.size #[.string s, .slice a n c] 25 ∧ Blk wr (w.heap.size + 1) #[.string ⟨#[]⟩, .slice none 0 0] 25 ∧ Blk wr O #[.string s, u] 25 ∧ O < wr.heap.size
def OnInv (w : World) (Y : Nat → Prop) (O : Nat) (s : ByteArray) (a : Option Addr) (c : Nat) (ls : List Bd) (l : List Tm) (i : Value) (wr : World) : Prop :=
  ∃ (k : Nat) (u : Value), k ≤ l.length ∧ i = .int .i64 (k : Int) ∧ OnSet w Y O s a l.length c u (onL ls (l.take k)) wr

theorem on_step {w wr w1 w3 : World} {Y : Nat → Prop} {O n c : Nat} {u : Value} {L : List Tm} {xs : List Value} {o2 : Obj} {s s' : ByteArray} {a a1 : Option Addr} {n1 c1 g cap : Nat} {t : Tm} (hO : w.heap.size + 2 ≤ O) (hY : ∀ b, Y b → b < w.heap.size)
    (hrow : Row wr (O + 1) 25 Y u L xs) (hx : Below w.heap.size w wr) (hT : Blk wr w.heap.size #[.string s, .slice a n c] 25) (hR : Blk wr (w.heap.size + 1) #[.string ⟨#[]⟩, .slice none 0 0] 25) (hOb : Blk wr O #[.string s, u] 25)
    (he1 : Below wr.heap.size wr w1) (ht : TV w1 (fun b => Y b ∨ wr.heap.size ≤ b) (.agg #[.string s', .slice a1 n1 c1]) t)
    (hown : w3.ownsRow (O + 1) 25 2 (.slice (some ⟨g, 0, none⟩) (L.length + 1) cap) (L.length + 1) (xs ++ [.string s', .slice a1 n1 c1])) (hg : (w1.alloc o2).grownBy w3 u.ownBlock) (hat : u.ownBlock = some g ∨ g = (w1.alloc o2).heap.size) :
    OnSet w Y O s a n c (.slice (some ⟨g, 0, none⟩) (L.length + 1) cap) (L ++ [t]) (w3.setCell ⟨O, 1, none⟩ (.slice (some ⟨g, 0, none⟩) (L.length + 1) cap)) := by
  have hlt' := hrow.own.lt
  have hOl := hOb.lt
  have hp := hrow.push (w1 := w1) (w2 := w1.alloc o2) (w3 := w3) (by omega) (fun b h => by have := hY b h; omega) he1 ht o2 rfl hown hg hat
  have hne : ∀ b, b < O + 1 → some b ≠ u.ownBlock := fun b hb e => by have := (hlt' b e.symm).1; omega
  have hs1 := he1.size
  have hsx := hx.size
  have hx3 : Below w.heap.size w w3 := ((hx.trans (he1.mono (by omega))).alloc (by omega) o2).grown hg (by simp; omega) (fun k hk => by have := (hlt' k hk).1; omega)
  have hs3 := hg.size
  simp at hs3
  refine ⟨_, hp.setCell (by omega) (fun h => by have := hY _ h; omega) _, hx3.setCell (p := ⟨O, 1, none⟩) (by simp; omega) _, ?_, ?_, ?_, by simp [World.setCell]; omega⟩
  · exact (((hT.below he1 (by omega)).alloc o2).grown hg (hne _ (by omega))).setOther _ _ (by omega)
  · exact (((hR.below he1 (by omega)).alloc o2).grown hg (hne _ (by omega))).setOther _ _ (by omega)
  · exact (((hOb.below he1 (by omega)).alloc o2).grown hg (hne _ (by omega))).set 1 _

set_option maxHeartbeats 2000000 in
theorem on_any (ls : List Bd) (t : Tm) : ∀ (u v : Value) (w : World) (X : Nat → Prop), BV w X u ls → TV w X v t → sizeL [t] ≤ 1000000 →
    Calls Try.prog 51 #[u, v] w fun e w' => OnPost w X (onT ls t) e w' := by
  induction t using Tm.ind with
  | h s l ih =>
    intro u v w X hu hv hsm
    obtain ⟨a, c, rfl, hs⟩ := hv
    have IH := hide ih
    have HU := hide hu
    have HS := hide hs
    have hl := hs.1
    have hz : sizeL [(⟨s, l⟩ : Tm)] = 1 + sizeL l := by simp [sizeL]
    rw [hz] at hsm
    have hlen := sizeL_len l
    clear ih hu hs hz
    obtain ⟨i0, hi0, hz0, hz1, hz2⟩ := info_parts Try.infoTerm
    go_enter Try.func51, Try.ntmps51
    go_wp2_with fail
    refine (for_any ls s u _ (fun b => X b ∧ b < w.heap.size) (by exact ((HU.out.mono fun b h1 h2 => ⟨h1, h2⟩).alloc _).alloc _)).mono ?_
    rintro e w1 ⟨hb1, hcase⟩
    have T1 := hide (((Blk.new w #[.string s, .slice a l.length c] 25).alloc (.cells #[.string ⟨#[]⟩, .slice none 0 0] 25)).below hb1 (by simp; omega))
    have R1 : Hid (Blk w1 (w.heap.size + 1) #[.string ⟨#[]⟩, .slice none 0 0] 25) := by
      have h := (Blk.new (w.alloc (.cells #[.string s, .slice a l.length c] 25)) #[.string ⟨#[]⟩, .slice none 0 0] 25).below hb1 (by simp)
      unfold Hid
      simpa using h
    have B1 := hide ((((Below.refl w.heap.size w).alloc (Nat.le_refl _) (.cells #[.string s, .slice a l.length c] 25)).alloc (by simp) (.cells #[.string ⟨#[]⟩, .slice none 0 0] 25)).trans (hb1.mono (by simp; omega)))
    have hlt1 : w.heap.size < w1.heap.size := T1.out.lt
    have hlt1' : w.heap.size + 1 < w1.heap.size := R1.out.lt
    clear hb1
    have t0 : ∀ o, (w1.alloc o).cell? ⟨w.heap.size, 0, none⟩ = some (.string s) := fun o => (T1.out.alloc o).cell 0
    have t1 : ∀ o, (w1.alloc o).cell? ⟨w.heap.size, 1, none⟩ = some (.slice a l.length c) := fun o => (T1.out.alloc o).cell 1
    rcases hcase with ⟨x, ax, cx, hf, rfl, hsx⟩ | ⟨hf, rfl⟩
    · by_cases hl0 : l = []
      · subst hl0
        have HF := hide (onT_some hf)
        have SX := hide hsx
        clear hf hsx
        have r0 : w1.cell? ⟨w.heap.size + 1, 0, none⟩ = some (.string ⟨#[]⟩) := R1.out.cell 0
        have r1 : w1.cell? ⟨w.heap.size + 1, 1, none⟩ = some (.slice none 0 0) := R1.out.cell 1
        have rf := R1.out.frozen
        go_wp2_with fail
        refine bodyPost_ret (v := .agg #[.string x.name, .slice ax x.args.length cx]) (by simp [results, Try.results51, go_sem, World.cell?_setCell_same, World.cell?_setCell_other, r0, r1, hlt1', World.cell?_alloc_old]) rfl ?_
        rw [HF.out]
        refine ⟨ax, cx, rfl, ?_, ((B1.out.setCell (by simp) _).setCell (by simp) _).alloc (by have := B1.out.size; simpa [World.setCell] using this) _⟩
        refine ((SX.out.mono (Y := fun b => X b ∧ b < w.heap.size) fun b h1 _ => h1.1).kept fun b hb => ?_).mono fun b hb _ => Or.inl hb
        rw [Below.heap_alloc _ _ _ (by simp [World.setCell]; omega), Below.heap_setCell _ _ _ _ (by simp; omega), Below.heap_setCell _ _ _ _ (by simp; omega)]
      · have HD : Hid (onT ls ⟨s, l⟩ = ⟨s, onL ls l⟩) := onT_deep (Or.inl hl0)
        have hlp : ((l.length : Int) == 0) = false := beq_eq_false_iff_ne.2 (by have := List.length_pos_iff.2 hl0; omega)
        clear hf hsx
        go_wp2_with fail
        have T3 := hide ((T1.out.alloc (.cells #[.string x.name, .slice ax x.args.length cx] 25)).alloc (.cells #[.string s, .slice none 0 0] 25))
        have R3 := hide ((R1.out.alloc (.cells #[.string x.name, .slice ax x.args.length cx] 25)).alloc (.cells #[.string s, .slice none 0 0] 25))
        have O3 := hide (Blk.new (w1.alloc (.cells #[.string x.name, .slice ax x.args.length cx] 25)) #[.string s, .slice none 0 0] 25)
        have B3 := hide ((B1.out.alloc B1.out.size (.cells #[.string x.name, .slice ax x.args.length cx] 25)).alloc (by have := B1.out.size; simp; omega) (.cells #[.string s, .slice none 0 0] 25))
        have HO3 := hide (O3.out.lt)
        have hO : w.heap.size + 2 ≤ (w1.alloc (.cells #[.string x.name, .slice ax x.args.length cx] 25)).heap.size := by have := R1.out.lt; simp; omega
        have eO : (w1.alloc (.cells #[.string x.name, .slice ax x.args.length cx] 25)).heap.size = w1.heap.size + 1 := by simp
        rw [eO] at O3 HO3 hO
        clear eO
        generalize (w1.alloc (.cells #[.string x.name, .slice ax x.args.length cx] 25)).alloc (.cells #[.string s, .slice none 0 0] 25) = w3 at *
        generalize w1.heap.size + 1 = O at *
        clear t0 t1
        have hY : ∀ b, (X b ∧ b < w.heap.size) → b < w.heap.size := fun b h => h.2
        go_loopw [8] (fun i wr => OnInv w (fun b => X b ∧ b < w.heap.size) O s a c ls l i wr) (fun i wr => l.length - (intOf i).toNat)
        case atStart => exact ⟨0, .slice none 0 0, Nat.zero_le _, rfl, [], by have h := Row.start w3 (O + 1) 25 (fun b => X b ∧ b < w.heap.size); simpa [onL] using h, B3.out, T3.out, R3.out, O3.out, HO3.out⟩
        case round =>
          obtain ⟨k, u9, hk, rfl, xs, hrow, hbb, hT, hR, hOb, hOl⟩ := hrel
          have XW := hide hrow
          have XE := hide hbb
          have XT := hide hT
          have XR := hide hR
          have XO := hide hOb
          clear hrow hbb hT hR hOb
          have c0 : wr.cell? ⟨w.heap.size, 0, none⟩ = some (.string s) := XT.out.cell 0
          have c1 : wr.cell? ⟨w.heap.size, 1, none⟩ = some (.slice a l.length c) := XT.out.cell 1
          have o0 : wr.cell? ⟨O, 0, none⟩ = some (.string s) := XO.out.cell 0
          have o1 : wr.cell? ⟨O, 1, none⟩ = some u9 := XO.out.cell 1
          by_cases hlt : k < l.length
          · obtain ⟨b, o, a', c', rfl, d0, d1, hx⟩ := (HS.out.mono (Y := fun b => X b ∧ b < w.heap.size) fun b h1 h2 => ⟨h1, h2⟩).get XE.out (fun b h _ => h.2) k hlt
            have HX := hide hx
            have hXb : b < w.heap.size := hxb HS.out (Nat.lt_of_le_of_lt (Nat.zero_le k) hlt)
            have hszk : sizeL [l[k]] ≤ 1000000 := by
              have := sizeL_take l k hlt
              have := sizeL_take_le l (k + 1)
              omega
            have hOL : (onL ls (l.take k)).length = k := by rw [onL_length]; simp; omega
            have IHQ : Hid (Calls Try.prog 51 #[u, .agg #[.string l[k].name, .slice a' l[k].args.length c']] wr.drew fun e w'' => ∃ a1 c1, e = .returned (.agg #[.string (onT ls l[k]).name, .slice a1 (onT ls l[k]).args.length c1]) ∧ Sl w'' (fun b => (X b ∧ b < w.heap.size) ∨ wr.heap.size ≤ b) a1 (onT ls l[k]).args ∧ Below wr.heap.size wr w'') := (IH.out l[k] (List.getElem_mem hlt) u _ wr.drew (fun b => X b ∧ b < w.heap.size) ((HU.out.mono fun b h1 h2 => ⟨h1, h2⟩).later (XE.out.drew)) (HX.out.later ((Below.refl wr.heap.size wr).drew)) hszk).mono fun e w'' hp => by
              obtain ⟨a1, c1, h1, h2, h3⟩ := hp
              exact ⟨a1, c1, h1, h2.mono (fun b hb _ => hb.imp (fun h => h.1) id), ((Below.refl wr.heap.size wr).drew).trans h3⟩
            have HN1 : Hid (∀ a1 c1, ∀ x ∈ [Value.string (onT ls l[k]).name, Value.slice a1 (onT ls l[k]).args.length c1], x.oneCell' = true) := fun a1 c1 x hx => by simp at hx; rcases hx with rfl | rfl <;> rfl
            have HL1 : Hid ((onL ls (l.take k)).length + 1 ≤ maxLen ∧ ((onL ls (l.take k)).length + 1) * 40 ≤ 140737488355328) := ⟨by rw [hOL]; unfold maxLen; omega, by rw [hOL]; omega⟩
            clear hOL
            have HBW : Hid (w.heap.size < wr.heap.size ∧ b < wr.heap.size) := ⟨XT.out.lt, by have := XT.out.lt; omega⟩
            have HS8 : Hid (OnS w b (o + k * 2) s (some ⟨b, o, none⟩) l.length c l[k].name (.slice a' l[k].args.length c') wr) := ⟨XT.out, d0, d1⟩
            go_wp2_with fail
            refine wp_region_held_drew (S := OnS w b (o + k * 2) s (some ⟨b, o, none⟩) l.length c l[k].name (.slice a' l[k].args.length c')) (by kernel_rfl) (by exact HS8.out) (fun hHeld => ?_)
            refine wpAnyH_take (i := 0) (v := ?_) rfl (by kernel_rfl) (by kernel_rfl) (by kernel_rfl) (fun _ _ _ h => h) (Or.inl ⟨by rfl, ?_⟩) (by assumption) ?_
            rotate_left
            · intro w' hSw
              go_simp <;> with_reducible rfl
            try simp only [Act.put, List.setIfInBounds_toArray, List.set_cons_zero, List.set_cons_succ, List.getElem_toArray, List.getElem_cons_succ, List.getElem_cons_zero]
            refine wpAnyH_take (i := 2) (v := ?_) rfl (by kernel_rfl) (by kernel_rfl) (by kernel_rfl) (fun _ _ _ h => h) (Or.inl ⟨by rfl, ?_⟩) (by assumption) ?_
            rotate_left
            · intro w' hSw
              go_simp <;> with_reducible rfl
            try simp only [Act.put, List.setIfInBounds_toArray, List.set_cons_zero, List.set_cons_succ, List.getElem_toArray, List.getElem_cons_succ, List.getElem_cons_zero]
            refine wpAnyH_take (i := 3) (v := ?_) rfl (by kernel_rfl) (by kernel_rfl) (by kernel_rfl) (fun _ _ _ h => h) (Or.inl ⟨by rfl, ?_⟩) (by assumption) ?_
            rotate_left
            · intro w' hSw
              go_simp <;> with_reducible rfl
            try simp only [Act.put, List.setIfInBounds_toArray, List.set_cons_zero, List.set_cons_succ, List.getElem_toArray, List.getElem_cons_succ, List.getElem_cons_zero]
            refine wpAnyH_take (i := 5) (v := ?_) rfl (by kernel_rfl) (by kernel_rfl) (by kernel_rfl) (fun _ _ _ h => h) (Or.inl ⟨by rfl, ?_⟩) (by assumption) ?_
            rotate_left
            · intro w' hSw
              go_simp <;> with_reducible rfl
            try simp only [Act.put, List.setIfInBounds_toArray, List.set_cons_zero, List.set_cons_succ, List.getElem_toArray, List.getElem_cons_succ, List.getElem_cons_zero]
            refine wpAnyH_take (i := 4) (v := ?_) rfl (by kernel_rfl) (by kernel_rfl) (by kernel_rfl) (fun _ _ _ h => h) (Or.inl ⟨by rfl, ?_⟩) (by assumption) ?_
            rotate_left
            · intro w' hSw
              have k1 : w'.cell? ⟨w.heap.size, 1, none⟩ = some (.slice (some ⟨b, o, none⟩) l.length c) := hSw.1.cell 1
              go_simp <;> with_reducible rfl
            try simp only [Act.put, List.setIfInBounds_toArray, List.set_cons_zero, List.set_cons_succ, List.getElem_toArray, List.getElem_cons_succ, List.getElem_cons_zero]
            refine wpAnyH_take (i := 6) (v := ?_) rfl (by kernel_rfl) (by kernel_rfl) (by kernel_rfl) (fun _ _ _ h => h) (Or.inl ⟨by rfl, ?_⟩) (by assumption) ?_
            rotate_left
            · intro w' hSw
              go_simp <;> with_reducible rfl
            try simp only [Act.put, List.setIfInBounds_toArray, List.set_cons_zero, List.set_cons_succ, List.getElem_toArray, List.getElem_cons_succ, List.getElem_cons_zero]
            refine wpAnyH_take (i := 7) (v := ?_) rfl (by kernel_rfl) (by kernel_rfl) (by kernel_rfl) (fun _ _ _ h => h) (Or.inl ⟨by rfl, ?_⟩) (by assumption) ?_
            rotate_left
            · intro w' hSw
              have k2 := hSw.2.1
              have k3 := hSw.2.2
              go_simp <;> with_reducible rfl
            try simp only [Act.put, List.setIfInBounds_toArray, List.set_cons_zero, List.set_cons_succ, List.getElem_toArray, List.getElem_cons_succ, List.getElem_cons_zero]
            refine wpAnyH_ready (rs := [1, 8]) (by kernel_rfl) (by simp) ?_
            refine AllReadyH.cons rfl (fun K hK => ?_) (AllReadyH.cons rfl (fun K hK => ?_) AllReadyH.nil)
            · go_simp
              refine hK.out _ _ (by exact hHeld) (fun hHeld => ?_)
              clear hK K
              try simp only [Act.put, List.setIfInBounds_toArray, List.set_cons_zero, List.set_cons_succ, List.getElem_toArray, List.getElem_cons_succ, List.getElem_cons_zero]
              refine wpAnyH_ready (rs := [8]) (by kernel_rfl) (by simp) ?_
              refine AllReadyH.cons rfl (fun K hK => ?_) AllReadyH.nil
              · go_simp
                go_at_call 51
                refine IHQ.out.mono ?_
                rintro e w1 ⟨a1, c1, rfl, hs1, hb1⟩
                have hc3 : ∀ o, (w1.alloc o).cell? ⟨O, 1, none⟩ = some u9 := fun o => ((XO.out.below hb1 hOl).alloc o).cell 1
                have hc4 : w1.cell? ⟨O, 1, none⟩ = some u9 := (XO.out.below hb1 hOl).cell 1
                go_simp
                refine hK.out _ _ (by exact OnS.below HS8.out hb1 HBW.out) (fun hHeld => ?_)
                clear hK K
                try simp only [Act.put, List.setIfInBounds_toArray, List.set_cons_zero, List.set_cons_succ, List.getElem_toArray, List.getElem_cons_succ, List.getElem_cons_zero]
                refine wpAnyH_ready (rs := [9]) (by kernel_rfl) (by simp) ?_
                refine AllReadyH.cons rfl (fun K hK => ?_) AllReadyH.nil
                · go_simp
                  refine hK.out _ _ (by exact hHeld.alloc _) (fun hHeld => ?_)
                  clear hK K
                  try simp only [Act.put, List.setIfInBounds_toArray, List.set_cons_zero, List.set_cons_succ, List.getElem_toArray, List.getElem_cons_succ, List.getElem_cons_zero]
                  refine wpAnyH_ready (rs := [10]) (by kernel_rfl) (by simp) ?_
                  refine AllReadyH.cons rfl (fun K hK => ?_) AllReadyH.nil
                  · refine step_append_lies _ rfl _ _ 23 rfl (O + 1) 25 i0 _ 2 40 Try.underlying23 hi0 hz0 hz1 hz2 rfl (by decide) u9 (onL ls (l.take k)).length xs rfl (by exact (XW.out.below hb1).own.alloc _) ⟨w1.heap.size, 0, none⟩ 1 1 [.string (onT ls l[k]).name, .slice a1 (onT ls l[k]).args.length c1] rfl rfl (cell_two_new _ _ _ _) (HN1.out a1 c1) (by decide) HL1.out.1 HL1.out.2 (by have := hb1.size; simp; omega) _ rfl ?_
                    intro g cap w3 hown3 hgrow3 hat3 hlt3
                    have hB3 := hide (((XO.out.below hb1 hOl).alloc _).grown hgrow3 (XW.out.ne (Nat.lt_succ_self _)))
                    have hc5 : w3.cell? ⟨O, 1, none⟩ = some u9 := hB3.out.cell 1
                    have hf5 := hB3.out.frozen 1
                    have HFIN := hide (on_step (c := c) (n := l.length) (a := some ⟨b, o, none⟩) hO hY XW.out XE.out XT.out XR.out XO.out hb1 ⟨a1, c1, rfl, hs1⟩ hown3 hgrow3 hat3)
                    refine hK.out _ _ (by exact OnS.grown hHeld hgrow3 (fun j hj => XW.out.ne (by omega)) hXb trivial) (fun hHeld => ?_)
                    clear hK K
                    try simp only [Act.put, List.setIfInBounds_toArray, List.set_cons_zero, List.set_cons_succ, List.getElem_toArray, List.getElem_cons_succ, List.getElem_cons_zero]
                    refine wpAnyH_take (i := 11) (v := ?_) rfl (by kernel_rfl) (by kernel_rfl) (by kernel_rfl) (fun _ _ _ h => h) (Or.inl ⟨by rfl, ?_⟩) (by assumption) ?_
                    rotate_left
                    · intro w' hSw
                      go_simp <;> with_reducible rfl
                    try simp only [Act.put, List.setIfInBounds_toArray, List.set_cons_zero, List.set_cons_succ, List.getElem_toArray, List.getElem_cons_succ, List.getElem_cons_zero]
                    refine wpAnyH_ready (rs := [12]) (by kernel_rfl) (by simp) ?_
                    refine AllReadyH.cons rfl (fun K hK => ?_) AllReadyH.nil
                    · go_simp
                      refine hK.out _ _ (by exact OnS.set hHeld _ trivial (by omega) (by omega)) (fun hHeld => ?_)
                      clear hK K
                      try simp only [Act.put, List.setIfInBounds_toArray, List.set_cons_zero, List.set_cons_succ, List.getElem_toArray, List.getElem_cons_succ, List.getElem_cons_zero]
                      refine wpAnyH_done (by kernel_rfl) ?_ _
                      clear hc3 hc4 hc5 hf5 hown3 hgrow3 hat3 hlt3 hB3 hHeld
                      go_wp2_with fail
                      go_roundw
                      case rel =>
                        refine ⟨k + 1, .slice (some ⟨g, 0, none⟩) ((onL ls (l.take k)).length + 1) cap, by omega, by go_num, ?_⟩
                        rw [onL_take ls l k hlt]
                        exact HFIN.out
                      case measure => simp [intOf]; omega
            · go_simp
              go_at_call 51
              refine IHQ.out.mono ?_
              rintro e w1 ⟨a1, c1, rfl, hs1, hb1⟩
              have hc3 : ∀ o, (w1.alloc o).cell? ⟨O, 1, none⟩ = some u9 := fun o => ((XO.out.below hb1 hOl).alloc o).cell 1
              have hc4 : w1.cell? ⟨O, 1, none⟩ = some u9 := (XO.out.below hb1 hOl).cell 1
              go_simp
              refine hK.out _ _ (by exact OnS.below HS8.out hb1 HBW.out) (fun hHeld => ?_)
              clear hK K
              try simp only [Act.put, List.setIfInBounds_toArray, List.set_cons_zero, List.set_cons_succ, List.getElem_toArray, List.getElem_cons_succ, List.getElem_cons_zero]
              refine wpAnyH_ready (rs := [1, 9]) (by kernel_rfl) (by simp) ?_
              refine AllReadyH.cons rfl (fun K hK => ?_) (AllReadyH.cons rfl (fun K hK => ?_) AllReadyH.nil)
              · go_simp
                refine hK.out _ _ (by exact hHeld) (fun hHeld => ?_)
                clear hK K
                try simp only [Act.put, List.setIfInBounds_toArray, List.set_cons_zero, List.set_cons_succ, List.getElem_toArray, List.getElem_cons_succ, List.getElem_cons_zero]
                refine wpAnyH_ready (rs := [9]) (by kernel_rfl) (by simp) ?_
                refine AllReadyH.cons rfl (fun K hK => ?_) AllReadyH.nil
                · go_simp
                  refine hK.out _ _ (by exact hHeld.alloc _) (fun hHeld => ?_)
                  clear hK K
                  try simp only [Act.put, List.setIfInBounds_toArray, List.set_cons_zero, List.set_cons_succ, List.getElem_toArray, List.getElem_cons_succ, List.getElem_cons_zero]
                  refine wpAnyH_ready (rs := [10]) (by kernel_rfl) (by simp) ?_
                  refine AllReadyH.cons rfl (fun K hK => ?_) AllReadyH.nil
                  · refine step_append_lies _ rfl _ _ 23 rfl (O + 1) 25 i0 _ 2 40 Try.underlying23 hi0 hz0 hz1 hz2 rfl (by decide) u9 (onL ls (l.take k)).length xs rfl (by exact (XW.out.below hb1).own.alloc _) ⟨w1.heap.size, 0, none⟩ 1 1 [.string (onT ls l[k]).name, .slice a1 (onT ls l[k]).args.length c1] rfl rfl (cell_two_new _ _ _ _) (HN1.out a1 c1) (by decide) HL1.out.1 HL1.out.2 (by have := hb1.size; simp; omega) _ rfl ?_
                    intro g cap w3 hown3 hgrow3 hat3 hlt3
                    have hB3 := hide (((XO.out.below hb1 hOl).alloc _).grown hgrow3 (XW.out.ne (Nat.lt_succ_self _)))
                    have hc5 : w3.cell? ⟨O, 1, none⟩ = some u9 := hB3.out.cell 1
                    have hf5 := hB3.out.frozen 1
                    have HFIN := hide (on_step (c := c) (n := l.length) (a := some ⟨b, o, none⟩) hO hY XW.out XE.out XT.out XR.out XO.out hb1 ⟨a1, c1, rfl, hs1⟩ hown3 hgrow3 hat3)
                    refine hK.out _ _ (by exact OnS.grown hHeld hgrow3 (fun j hj => XW.out.ne (by omega)) hXb trivial) (fun hHeld => ?_)
                    clear hK K
                    try simp only [Act.put, List.setIfInBounds_toArray, List.set_cons_zero, List.set_cons_succ, List.getElem_toArray, List.getElem_cons_succ, List.getElem_cons_zero]
                    refine wpAnyH_take (i := 11) (v := ?_) rfl (by kernel_rfl) (by kernel_rfl) (by kernel_rfl) (fun _ _ _ h => h) (Or.inl ⟨by rfl, ?_⟩) (by assumption) ?_
                    rotate_left
                    · intro w' hSw
                      go_simp <;> with_reducible rfl
                    try simp only [Act.put, List.setIfInBounds_toArray, List.set_cons_zero, List.set_cons_succ, List.getElem_toArray, List.getElem_cons_succ, List.getElem_cons_zero]
                    refine wpAnyH_ready (rs := [12]) (by kernel_rfl) (by simp) ?_
                    refine AllReadyH.cons rfl (fun K hK => ?_) AllReadyH.nil
                    · go_simp
                      refine hK.out _ _ (by exact OnS.set hHeld _ trivial (by omega) (by omega)) (fun hHeld => ?_)
                      clear hK K
                      try simp only [Act.put, List.setIfInBounds_toArray, List.set_cons_zero, List.set_cons_succ, List.getElem_toArray, List.getElem_cons_succ, List.getElem_cons_zero]
                      refine wpAnyH_done (by kernel_rfl) ?_ _
                      clear hc3 hc4 hc5 hf5 hown3 hgrow3 hat3 hlt3 hB3 hHeld
                      go_wp2_with fail
                      go_roundw
                      case rel =>
                        refine ⟨k + 1, .slice (some ⟨g, 0, none⟩) ((onL ls (l.take k)).length + 1) cap, by omega, by go_num, ?_⟩
                        rw [onL_take ls l k hlt]
                        exact HFIN.out
                      case measure => simp [intOf]; omega
              · go_simp
                refine hK.out _ _ (by exact hHeld.alloc _) (fun hHeld => ?_)
                clear hK K
                try simp only [Act.put, List.setIfInBounds_toArray, List.set_cons_zero, List.set_cons_succ, List.getElem_toArray, List.getElem_cons_succ, List.getElem_cons_zero]
                refine wpAnyH_ready (rs := [1]) (by kernel_rfl) (by simp) ?_
                refine AllReadyH.cons rfl (fun K hK => ?_) AllReadyH.nil
                · go_simp
                  refine hK.out _ _ (by exact hHeld) (fun hHeld => ?_)
                  clear hK K
                  try simp only [Act.put, List.setIfInBounds_toArray, List.set_cons_zero, List.set_cons_succ, List.getElem_toArray, List.getElem_cons_succ, List.getElem_cons_zero]
                  refine wpAnyH_ready (rs := [10]) (by kernel_rfl) (by simp) ?_
                  refine AllReadyH.cons rfl (fun K hK => ?_) AllReadyH.nil
                  · refine step_append_lies _ rfl _ _ 23 rfl (O + 1) 25 i0 _ 2 40 Try.underlying23 hi0 hz0 hz1 hz2 rfl (by decide) u9 (onL ls (l.take k)).length xs rfl (by exact (XW.out.below hb1).own.alloc _) ⟨w1.heap.size, 0, none⟩ 1 1 [.string (onT ls l[k]).name, .slice a1 (onT ls l[k]).args.length c1] rfl rfl (cell_two_new _ _ _ _) (HN1.out a1 c1) (by decide) HL1.out.1 HL1.out.2 (by have := hb1.size; simp; omega) _ rfl ?_
                    intro g cap w3 hown3 hgrow3 hat3 hlt3
                    have hB3 := hide (((XO.out.below hb1 hOl).alloc _).grown hgrow3 (XW.out.ne (Nat.lt_succ_self _)))
                    have hc5 : w3.cell? ⟨O, 1, none⟩ = some u9 := hB3.out.cell 1
                    have hf5 := hB3.out.frozen 1
                    have HFIN := hide (on_step (c := c) (n := l.length) (a := some ⟨b, o, none⟩) hO hY XW.out XE.out XT.out XR.out XO.out hb1 ⟨a1, c1, rfl, hs1⟩ hown3 hgrow3 hat3)
                    refine hK.out _ _ (by exact OnS.grown hHeld hgrow3 (fun j hj => XW.out.ne (by omega)) hXb trivial) (fun hHeld => ?_)
                    clear hK K
                    try simp only [Act.put, List.setIfInBounds_toArray, List.set_cons_zero, List.set_cons_succ, List.getElem_toArray, List.getElem_cons_succ, List.getElem_cons_zero]
                    refine wpAnyH_take (i := 11) (v := ?_) rfl (by kernel_rfl) (by kernel_rfl) (by kernel_rfl) (fun _ _ _ h => h) (Or.inl ⟨by rfl, ?_⟩) (by assumption) ?_
                    rotate_left
                    · intro w' hSw
                      go_simp <;> with_reducible rfl
                    try simp only [Act.put, List.setIfInBounds_toArray, List.set_cons_zero, List.set_cons_succ, List.getElem_toArray, List.getElem_cons_succ, List.getElem_cons_zero]
                    refine wpAnyH_ready (rs := [12]) (by kernel_rfl) (by simp) ?_
                    refine AllReadyH.cons rfl (fun K hK => ?_) AllReadyH.nil
                    · go_simp
                      refine hK.out _ _ (by exact OnS.set hHeld _ trivial (by omega) (by omega)) (fun hHeld => ?_)
                      clear hK K
                      try simp only [Act.put, List.setIfInBounds_toArray, List.set_cons_zero, List.set_cons_succ, List.getElem_toArray, List.getElem_cons_succ, List.getElem_cons_zero]
                      refine wpAnyH_done (by kernel_rfl) ?_ _
                      clear hc3 hc4 hc5 hf5 hown3 hgrow3 hat3 hlt3 hB3 hHeld
                      go_wp2_with fail
                      go_roundw
                      case rel =>
                        refine ⟨k + 1, .slice (some ⟨g, 0, none⟩) ((onL ls (l.take k)).length + 1) cap, by omega, by go_num, ?_⟩
                        rw [onL_take ls l k hlt]
                        exact HFIN.out
                      case measure => simp [intOf]; omega
          · have htk : l.take k = l := List.take_of_length_le (by omega)
            rw [htk] at XW
            obtain ⟨a9, c9, hu9, hsl9⟩ := XW.out.sl
            subst hu9
            have S9 := hide hsl9
            have r0 : wr.cell? ⟨w.heap.size + 1, 0, none⟩ = some (.string ⟨#[]⟩) := XR.out.cell 0
            have r1 : wr.cell? ⟨w.heap.size + 1, 1, none⟩ = some (.slice none 0 0) := XR.out.cell 1
            have rf := XR.out.frozen
            clear hsl9 htk
            go_wp2_with fail
            refine bodyPost_ret (v := .agg #[.string s, .slice a9 (onL ls l).length c9]) (by simp [results, Try.results51, go_sem, World.cell?_setCell_same, World.cell?_setCell_other, r0, r1]) rfl ?_
            rw [HD.out]
            refine ⟨a9, c9, rfl, (S9.out.kept fun b hb => ?_).mono fun b hb _ => hb.imp id (fun h => by omega), (XE.out.setCell (by simp) _).setCell (by simp) _⟩
            have hbne : b ≠ w.heap.size + 1 := by
              rcases hb with h | h
              · have := h.2; omega
              · omega
            rw [Below.heap_setCell _ _ _ _ (by simpa using hbne), Below.heap_setCell _ _ _ _ (by simpa using hbne)]
    · have HD : Hid (onT ls ⟨s, l⟩ = ⟨s, onL ls l⟩) := onT_deep (Or.inr hf)
      clear hf
      go_wp2_with fail
      have T3 := hide ((T1.out.alloc (.cells #[.string ⟨#[]⟩, .slice none 0 0] 25)).alloc (.cells #[.string s, .slice none 0 0] 25))
      have R3 := hide ((R1.out.alloc (.cells #[.string ⟨#[]⟩, .slice none 0 0] 25)).alloc (.cells #[.string s, .slice none 0 0] 25))
      have O3 := hide (Blk.new (w1.alloc (.cells #[.string ⟨#[]⟩, .slice none 0 0] 25)) #[.string s, .slice none 0 0] 25)
      have B3 := hide ((B1.out.alloc B1.out.size (.cells #[.string ⟨#[]⟩, .slice none 0 0] 25)).alloc (by have := B1.out.size; simp; omega) (.cells #[.string s, .slice none 0 0] 25))
      have HO3 := hide (O3.out.lt)
      have hO : w.heap.size + 2 ≤ (w1.alloc (.cells #[.string ⟨#[]⟩, .slice none 0 0] 25)).heap.size := by have := R1.out.lt; simp; omega
      have eO : (w1.alloc (.cells #[.string ⟨#[]⟩, .slice none 0 0] 25)).heap.size = w1.heap.size + 1 := by simp
      rw [eO] at O3 HO3 hO
      clear eO
      generalize (w1.alloc (.cells #[.string ⟨#[]⟩, .slice none 0 0] 25)).alloc (.cells #[.string s, .slice none 0 0] 25) = w3 at *
      generalize w1.heap.size + 1 = O at *
      clear t0 t1
      have hY : ∀ b, (X b ∧ b < w.heap.size) → b < w.heap.size := fun b h => h.2
      go_loopw [8] (fun i wr => OnInv w (fun b => X b ∧ b < w.heap.size) O s a c ls l i wr) (fun i wr => l.length - (intOf i).toNat)
      case atStart => exact ⟨0, .slice none 0 0, Nat.zero_le _, rfl, [], by have h := Row.start w3 (O + 1) 25 (fun b => X b ∧ b < w.heap.size); simpa [onL] using h, B3.out, T3.out, R3.out, O3.out, HO3.out⟩
      case round =>
        obtain ⟨k, u9, hk, rfl, xs, hrow, hbb, hT, hR, hOb, hOl⟩ := hrel
        have XW := hide hrow
        have XE := hide hbb
        have XT := hide hT
        have XR := hide hR
        have XO := hide hOb
        clear hrow hbb hT hR hOb
        have c0 : wr.cell? ⟨w.heap.size, 0, none⟩ = some (.string s) := XT.out.cell 0
        have c1 : wr.cell? ⟨w.heap.size, 1, none⟩ = some (.slice a l.length c) := XT.out.cell 1
        have o0 : wr.cell? ⟨O, 0, none⟩ = some (.string s) := XO.out.cell 0
        have o1 : wr.cell? ⟨O, 1, none⟩ = some u9 := XO.out.cell 1
        by_cases hlt : k < l.length
        · obtain ⟨b, o, a', c', rfl, d0, d1, hx⟩ := (HS.out.mono (Y := fun b => X b ∧ b < w.heap.size) fun b h1 h2 => ⟨h1, h2⟩).get XE.out (fun b h _ => h.2) k hlt
          have HX := hide hx
          have hXb : b < w.heap.size := hxb HS.out (Nat.lt_of_le_of_lt (Nat.zero_le k) hlt)
          have hszk : sizeL [l[k]] ≤ 1000000 := by
            have := sizeL_take l k hlt
            have := sizeL_take_le l (k + 1)
            omega
          have hOL : (onL ls (l.take k)).length = k := by rw [onL_length]; simp; omega
          have IHQ : Hid (Calls Try.prog 51 #[u, .agg #[.string l[k].name, .slice a' l[k].args.length c']] wr.drew fun e w'' => ∃ a1 c1, e = .returned (.agg #[.string (onT ls l[k]).name, .slice a1 (onT ls l[k]).args.length c1]) ∧ Sl w'' (fun b => (X b ∧ b < w.heap.size) ∨ wr.heap.size ≤ b) a1 (onT ls l[k]).args ∧ Below wr.heap.size wr w'') := (IH.out l[k] (List.getElem_mem hlt) u _ wr.drew (fun b => X b ∧ b < w.heap.size) ((HU.out.mono fun b h1 h2 => ⟨h1, h2⟩).later (XE.out.drew)) (HX.out.later ((Below.refl wr.heap.size wr).drew)) hszk).mono fun e w'' hp => by
            obtain ⟨a1, c1, h1, h2, h3⟩ := hp
            exact ⟨a1, c1, h1, h2.mono (fun b hb _ => hb.imp (fun h => h.1) id), ((Below.refl wr.heap.size wr).drew).trans h3⟩
          have HN1 : Hid (∀ a1 c1, ∀ x ∈ [Value.string (onT ls l[k]).name, Value.slice a1 (onT ls l[k]).args.length c1], x.oneCell' = true) := fun a1 c1 x hx => by simp at hx; rcases hx with rfl | rfl <;> rfl
          have HL1 : Hid ((onL ls (l.take k)).length + 1 ≤ maxLen ∧ ((onL ls (l.take k)).length + 1) * 40 ≤ 140737488355328) := ⟨by rw [hOL]; unfold maxLen; omega, by rw [hOL]; omega⟩
          clear hOL
          have HBW : Hid (w.heap.size < wr.heap.size ∧ b < wr.heap.size) := ⟨XT.out.lt, by have := XT.out.lt; omega⟩
          have HS8 : Hid (OnS w b (o + k * 2) s (some ⟨b, o, none⟩) l.length c l[k].name (.slice a' l[k].args.length c') wr) := ⟨XT.out, d0, d1⟩
          go_wp2_with fail
          refine wp_region_held_drew (S := OnS w b (o + k * 2) s (some ⟨b, o, none⟩) l.length c l[k].name (.slice a' l[k].args.length c')) (by kernel_rfl) (by exact HS8.out) (fun hHeld => ?_)
          refine wpAnyH_take (i := 0) (v := ?_) rfl (by kernel_rfl) (by kernel_rfl) (by kernel_rfl) (fun _ _ _ h => h) (Or.inl ⟨by rfl, ?_⟩) (by assumption) ?_
          rotate_left
          · intro w' hSw
            go_simp <;> with_reducible rfl
          try simp only [Act.put, List.setIfInBounds_toArray, List.set_cons_zero, List.set_cons_succ, List.getElem_toArray, List.getElem_cons_succ, List.getElem_cons_zero]
          refine wpAnyH_take (i := 2) (v := ?_) rfl (by kernel_rfl) (by kernel_rfl) (by kernel_rfl) (fun _ _ _ h => h) (Or.inl ⟨by rfl, ?_⟩) (by assumption) ?_
          rotate_left
          · intro w' hSw
            go_simp <;> with_reducible rfl
          try simp only [Act.put, List.setIfInBounds_toArray, List.set_cons_zero, List.set_cons_succ, List.getElem_toArray, List.getElem_cons_succ, List.getElem_cons_zero]
          refine wpAnyH_take (i := 3) (v := ?_) rfl (by kernel_rfl) (by kernel_rfl) (by kernel_rfl) (fun _ _ _ h => h) (Or.inl ⟨by rfl, ?_⟩) (by assumption) ?_
          rotate_left
          · intro w' hSw
            go_simp <;> with_reducible rfl
          try simp only [Act.put, List.setIfInBounds_toArray, List.set_cons_zero, List.set_cons_succ, List.getElem_toArray, List.getElem_cons_succ, List.getElem_cons_zero]
          refine wpAnyH_take (i := 5) (v := ?_) rfl (by kernel_rfl) (by kernel_rfl) (by kernel_rfl) (fun _ _ _ h => h) (Or.inl ⟨by rfl, ?_⟩) (by assumption) ?_
          rotate_left
          · intro w' hSw
            go_simp <;> with_reducible rfl
          try simp only [Act.put, List.setIfInBounds_toArray, List.set_cons_zero, List.set_cons_succ, List.getElem_toArray, List.getElem_cons_succ, List.getElem_cons_zero]
          refine wpAnyH_take (i := 4) (v := ?_) rfl (by kernel_rfl) (by kernel_rfl) (by kernel_rfl) (fun _ _ _ h => h) (Or.inl ⟨by rfl, ?_⟩) (by assumption) ?_
          rotate_left
          · intro w' hSw
            have k1 : w'.cell? ⟨w.heap.size, 1, none⟩ = some (.slice (some ⟨b, o, none⟩) l.length c) := hSw.1.cell 1
            go_simp <;> with_reducible rfl
          try simp only [Act.put, List.setIfInBounds_toArray, List.set_cons_zero, List.set_cons_succ, List.getElem_toArray, List.getElem_cons_succ, List.getElem_cons_zero]
          refine wpAnyH_take (i := 6) (v := ?_) rfl (by kernel_rfl) (by kernel_rfl) (by kernel_rfl) (fun _ _ _ h => h) (Or.inl ⟨by rfl, ?_⟩) (by assumption) ?_
          rotate_left
          · intro w' hSw
            go_simp <;> with_reducible rfl
          try simp only [Act.put, List.setIfInBounds_toArray, List.set_cons_zero, List.set_cons_succ, List.getElem_toArray, List.getElem_cons_succ, List.getElem_cons_zero]
          refine wpAnyH_take (i := 7) (v := ?_) rfl (by kernel_rfl) (by kernel_rfl) (by kernel_rfl) (fun _ _ _ h => h) (Or.inl ⟨by rfl, ?_⟩) (by assumption) ?_
          rotate_left
          · intro w' hSw
            have k2 := hSw.2.1
            have k3 := hSw.2.2
            go_simp <;> with_reducible rfl
          try simp only [Act.put, List.setIfInBounds_toArray, List.set_cons_zero, List.set_cons_succ, List.getElem_toArray, List.getElem_cons_succ, List.getElem_cons_zero]
          refine wpAnyH_ready (rs := [1, 8]) (by kernel_rfl) (by simp) ?_
          refine AllReadyH.cons rfl (fun K hK => ?_) (AllReadyH.cons rfl (fun K hK => ?_) AllReadyH.nil)
          · go_simp
            refine hK.out _ _ (by exact hHeld) (fun hHeld => ?_)
            clear hK K
            try simp only [Act.put, List.setIfInBounds_toArray, List.set_cons_zero, List.set_cons_succ, List.getElem_toArray, List.getElem_cons_succ, List.getElem_cons_zero]
            refine wpAnyH_ready (rs := [8]) (by kernel_rfl) (by simp) ?_
            refine AllReadyH.cons rfl (fun K hK => ?_) AllReadyH.nil
            · go_simp
              go_at_call 51
              refine IHQ.out.mono ?_
              rintro e w1 ⟨a1, c1, rfl, hs1, hb1⟩
              have hc3 : ∀ o, (w1.alloc o).cell? ⟨O, 1, none⟩ = some u9 := fun o => ((XO.out.below hb1 hOl).alloc o).cell 1
              have hc4 : w1.cell? ⟨O, 1, none⟩ = some u9 := (XO.out.below hb1 hOl).cell 1
              go_simp
              refine hK.out _ _ (by exact OnS.below HS8.out hb1 HBW.out) (fun hHeld => ?_)
              clear hK K
              try simp only [Act.put, List.setIfInBounds_toArray, List.set_cons_zero, List.set_cons_succ, List.getElem_toArray, List.getElem_cons_succ, List.getElem_cons_zero]
              refine wpAnyH_ready (rs := [9]) (by kernel_rfl) (by simp) ?_
              refine AllReadyH.cons rfl (fun K hK => ?_) AllReadyH.nil
              · go_simp
                refine hK.out _ _ (by exact hHeld.alloc _) (fun hHeld => ?_)
                clear hK K
                try simp only [Act.put, List.setIfInBounds_toArray, List.set_cons_zero, List.set_cons_succ, List.getElem_toArray, List.getElem_cons_succ, List.getElem_cons_zero]
                refine wpAnyH_ready (rs := [10]) (by kernel_rfl) (by simp) ?_
                refine AllReadyH.cons rfl (fun K hK => ?_) AllReadyH.nil
                · refine step_append_lies _ rfl _ _ 23 rfl (O + 1) 25 i0 _ 2 40 Try.underlying23 hi0 hz0 hz1 hz2 rfl (by decide) u9 (onL ls (l.take k)).length xs rfl (by exact (XW.out.below hb1).own.alloc _) ⟨w1.heap.size, 0, none⟩ 1 1 [.string (onT ls l[k]).name, .slice a1 (onT ls l[k]).args.length c1] rfl rfl (cell_two_new _ _ _ _) (HN1.out a1 c1) (by decide) HL1.out.1 HL1.out.2 (by have := hb1.size; simp; omega) _ rfl ?_
                  intro g cap w3 hown3 hgrow3 hat3 hlt3
                  have hB3 := hide (((XO.out.below hb1 hOl).alloc _).grown hgrow3 (XW.out.ne (Nat.lt_succ_self _)))
                  have hc5 : w3.cell? ⟨O, 1, none⟩ = some u9 := hB3.out.cell 1
                  have hf5 := hB3.out.frozen 1
                  have HFIN := hide (on_step (c := c) (n := l.length) (a := some ⟨b, o, none⟩) hO hY XW.out XE.out XT.out XR.out XO.out hb1 ⟨a1, c1, rfl, hs1⟩ hown3 hgrow3 hat3)
                  refine hK.out _ _ (by exact OnS.grown hHeld hgrow3 (fun j hj => XW.out.ne (by omega)) hXb trivial) (fun hHeld => ?_)
                  clear hK K
                  try simp only [Act.put, List.setIfInBounds_toArray, List.set_cons_zero, List.set_cons_succ, List.getElem_toArray, List.getElem_cons_succ, List.getElem_cons_zero]
                  refine wpAnyH_take (i := 11) (v := ?_) rfl (by kernel_rfl) (by kernel_rfl) (by kernel_rfl) (fun _ _ _ h => h) (Or.inl ⟨by rfl, ?_⟩) (by assumption) ?_
                  rotate_left
                  · intro w' hSw
                    go_simp <;> with_reducible rfl
                  try simp only [Act.put, List.setIfInBounds_toArray, List.set_cons_zero, List.set_cons_succ, List.getElem_toArray, List.getElem_cons_succ, List.getElem_cons_zero]
                  refine wpAnyH_ready (rs := [12]) (by kernel_rfl) (by simp) ?_
                  refine AllReadyH.cons rfl (fun K hK => ?_) AllReadyH.nil
                  · go_simp
                    refine hK.out _ _ (by exact OnS.set hHeld _ trivial (by omega) (by omega)) (fun hHeld => ?_)
                    clear hK K
                    try simp only [Act.put, List.setIfInBounds_toArray, List.set_cons_zero, List.set_cons_succ, List.getElem_toArray, List.getElem_cons_succ, List.getElem_cons_zero]
                    refine wpAnyH_done (by kernel_rfl) ?_ _
                    clear hc3 hc4 hc5 hf5 hown3 hgrow3 hat3 hlt3 hB3 hHeld
                    go_wp2_with fail
                    go_roundw
                    case rel =>
                      refine ⟨k + 1, .slice (some ⟨g, 0, none⟩) ((onL ls (l.take k)).length + 1) cap, by omega, by go_num, ?_⟩
                      rw [onL_take ls l k hlt]
                      exact HFIN.out
                    case measure => simp [intOf]; omega
          · go_simp
            go_at_call 51
            refine IHQ.out.mono ?_
            rintro e w1 ⟨a1, c1, rfl, hs1, hb1⟩
            have hc3 : ∀ o, (w1.alloc o).cell? ⟨O, 1, none⟩ = some u9 := fun o => ((XO.out.below hb1 hOl).alloc o).cell 1
            have hc4 : w1.cell? ⟨O, 1, none⟩ = some u9 := (XO.out.below hb1 hOl).cell 1
            go_simp
            refine hK.out _ _ (by exact OnS.below HS8.out hb1 HBW.out) (fun hHeld => ?_)
            clear hK K
            try simp only [Act.put, List.setIfInBounds_toArray, List.set_cons_zero, List.set_cons_succ, List.getElem_toArray, List.getElem_cons_succ, List.getElem_cons_zero]
            refine wpAnyH_ready (rs := [1, 9]) (by kernel_rfl) (by simp) ?_
            refine AllReadyH.cons rfl (fun K hK => ?_) (AllReadyH.cons rfl (fun K hK => ?_) AllReadyH.nil)
            · go_simp
              refine hK.out _ _ (by exact hHeld) (fun hHeld => ?_)
              clear hK K
              try simp only [Act.put, List.setIfInBounds_toArray, List.set_cons_zero, List.set_cons_succ, List.getElem_toArray, List.getElem_cons_succ, List.getElem_cons_zero]
              refine wpAnyH_ready (rs := [9]) (by kernel_rfl) (by simp) ?_
              refine AllReadyH.cons rfl (fun K hK => ?_) AllReadyH.nil
              · go_simp
                refine hK.out _ _ (by exact hHeld.alloc _) (fun hHeld => ?_)
                clear hK K
                try simp only [Act.put, List.setIfInBounds_toArray, List.set_cons_zero, List.set_cons_succ, List.getElem_toArray, List.getElem_cons_succ, List.getElem_cons_zero]
                refine wpAnyH_ready (rs := [10]) (by kernel_rfl) (by simp) ?_
                refine AllReadyH.cons rfl (fun K hK => ?_) AllReadyH.nil
                · refine step_append_lies _ rfl _ _ 23 rfl (O + 1) 25 i0 _ 2 40 Try.underlying23 hi0 hz0 hz1 hz2 rfl (by decide) u9 (onL ls (l.take k)).length xs rfl (by exact (XW.out.below hb1).own.alloc _) ⟨w1.heap.size, 0, none⟩ 1 1 [.string (onT ls l[k]).name, .slice a1 (onT ls l[k]).args.length c1] rfl rfl (cell_two_new _ _ _ _) (HN1.out a1 c1) (by decide) HL1.out.1 HL1.out.2 (by have := hb1.size; simp; omega) _ rfl ?_
                  intro g cap w3 hown3 hgrow3 hat3 hlt3
                  have hB3 := hide (((XO.out.below hb1 hOl).alloc _).grown hgrow3 (XW.out.ne (Nat.lt_succ_self _)))
                  have hc5 : w3.cell? ⟨O, 1, none⟩ = some u9 := hB3.out.cell 1
                  have hf5 := hB3.out.frozen 1
                  have HFIN := hide (on_step (c := c) (n := l.length) (a := some ⟨b, o, none⟩) hO hY XW.out XE.out XT.out XR.out XO.out hb1 ⟨a1, c1, rfl, hs1⟩ hown3 hgrow3 hat3)
                  refine hK.out _ _ (by exact OnS.grown hHeld hgrow3 (fun j hj => XW.out.ne (by omega)) hXb trivial) (fun hHeld => ?_)
                  clear hK K
                  try simp only [Act.put, List.setIfInBounds_toArray, List.set_cons_zero, List.set_cons_succ, List.getElem_toArray, List.getElem_cons_succ, List.getElem_cons_zero]
                  refine wpAnyH_take (i := 11) (v := ?_) rfl (by kernel_rfl) (by kernel_rfl) (by kernel_rfl) (fun _ _ _ h => h) (Or.inl ⟨by rfl, ?_⟩) (by assumption) ?_
                  rotate_left
                  · intro w' hSw
                    go_simp <;> with_reducible rfl
                  try simp only [Act.put, List.setIfInBounds_toArray, List.set_cons_zero, List.set_cons_succ, List.getElem_toArray, List.getElem_cons_succ, List.getElem_cons_zero]
                  refine wpAnyH_ready (rs := [12]) (by kernel_rfl) (by simp) ?_
                  refine AllReadyH.cons rfl (fun K hK => ?_) AllReadyH.nil
                  · go_simp
                    refine hK.out _ _ (by exact OnS.set hHeld _ trivial (by omega) (by omega)) (fun hHeld => ?_)
                    clear hK K
                    try simp only [Act.put, List.setIfInBounds_toArray, List.set_cons_zero, List.set_cons_succ, List.getElem_toArray, List.getElem_cons_succ, List.getElem_cons_zero]
                    refine wpAnyH_done (by kernel_rfl) ?_ _
                    clear hc3 hc4 hc5 hf5 hown3 hgrow3 hat3 hlt3 hB3 hHeld
                    go_wp2_with fail
                    go_roundw
                    case rel =>
                      refine ⟨k + 1, .slice (some ⟨g, 0, none⟩) ((onL ls (l.take k)).length + 1) cap, by omega, by go_num, ?_⟩
                      rw [onL_take ls l k hlt]
                      exact HFIN.out
                    case measure => simp [intOf]; omega
            · go_simp
              refine hK.out _ _ (by exact hHeld.alloc _) (fun hHeld => ?_)
              clear hK K
              try simp only [Act.put, List.setIfInBounds_toArray, List.set_cons_zero, List.set_cons_succ, List.getElem_toArray, List.getElem_cons_succ, List.getElem_cons_zero]
              refine wpAnyH_ready (rs := [1]) (by kernel_rfl) (by simp) ?_
              refine AllReadyH.cons rfl (fun K hK => ?_) AllReadyH.nil
              · go_simp
                refine hK.out _ _ (by exact hHeld) (fun hHeld => ?_)
                clear hK K
                try simp only [Act.put, List.setIfInBounds_toArray, List.set_cons_zero, List.set_cons_succ, List.getElem_toArray, List.getElem_cons_succ, List.getElem_cons_zero]
                refine wpAnyH_ready (rs := [10]) (by kernel_rfl) (by simp) ?_
                refine AllReadyH.cons rfl (fun K hK => ?_) AllReadyH.nil
                · refine step_append_lies _ rfl _ _ 23 rfl (O + 1) 25 i0 _ 2 40 Try.underlying23 hi0 hz0 hz1 hz2 rfl (by decide) u9 (onL ls (l.take k)).length xs rfl (by exact (XW.out.below hb1).own.alloc _) ⟨w1.heap.size, 0, none⟩ 1 1 [.string (onT ls l[k]).name, .slice a1 (onT ls l[k]).args.length c1] rfl rfl (cell_two_new _ _ _ _) (HN1.out a1 c1) (by decide) HL1.out.1 HL1.out.2 (by have := hb1.size; simp; omega) _ rfl ?_
                  intro g cap w3 hown3 hgrow3 hat3 hlt3
                  have hB3 := hide (((XO.out.below hb1 hOl).alloc _).grown hgrow3 (XW.out.ne (Nat.lt_succ_self _)))
                  have hc5 : w3.cell? ⟨O, 1, none⟩ = some u9 := hB3.out.cell 1
                  have hf5 := hB3.out.frozen 1
                  have HFIN := hide (on_step (c := c) (n := l.length) (a := some ⟨b, o, none⟩) hO hY XW.out XE.out XT.out XR.out XO.out hb1 ⟨a1, c1, rfl, hs1⟩ hown3 hgrow3 hat3)
                  refine hK.out _ _ (by exact OnS.grown hHeld hgrow3 (fun j hj => XW.out.ne (by omega)) hXb trivial) (fun hHeld => ?_)
                  clear hK K
                  try simp only [Act.put, List.setIfInBounds_toArray, List.set_cons_zero, List.set_cons_succ, List.getElem_toArray, List.getElem_cons_succ, List.getElem_cons_zero]
                  refine wpAnyH_take (i := 11) (v := ?_) rfl (by kernel_rfl) (by kernel_rfl) (by kernel_rfl) (fun _ _ _ h => h) (Or.inl ⟨by rfl, ?_⟩) (by assumption) ?_
                  rotate_left
                  · intro w' hSw
                    go_simp <;> with_reducible rfl
                  try simp only [Act.put, List.setIfInBounds_toArray, List.set_cons_zero, List.set_cons_succ, List.getElem_toArray, List.getElem_cons_succ, List.getElem_cons_zero]
                  refine wpAnyH_ready (rs := [12]) (by kernel_rfl) (by simp) ?_
                  refine AllReadyH.cons rfl (fun K hK => ?_) AllReadyH.nil
                  · go_simp
                    refine hK.out _ _ (by exact OnS.set hHeld _ trivial (by omega) (by omega)) (fun hHeld => ?_)
                    clear hK K
                    try simp only [Act.put, List.setIfInBounds_toArray, List.set_cons_zero, List.set_cons_succ, List.getElem_toArray, List.getElem_cons_succ, List.getElem_cons_zero]
                    refine wpAnyH_done (by kernel_rfl) ?_ _
                    clear hc3 hc4 hc5 hf5 hown3 hgrow3 hat3 hlt3 hB3 hHeld
                    go_wp2_with fail
                    go_roundw
                    case rel =>
                      refine ⟨k + 1, .slice (some ⟨g, 0, none⟩) ((onL ls (l.take k)).length + 1) cap, by omega, by go_num, ?_⟩
                      rw [onL_take ls l k hlt]
                      exact HFIN.out
                    case measure => simp [intOf]; omega
        · have htk : l.take k = l := List.take_of_length_le (by omega)
          rw [htk] at XW
          obtain ⟨a9, c9, hu9, hsl9⟩ := XW.out.sl
          subst hu9
          have S9 := hide hsl9
          have r0 : wr.cell? ⟨w.heap.size + 1, 0, none⟩ = some (.string ⟨#[]⟩) := XR.out.cell 0
          have r1 : wr.cell? ⟨w.heap.size + 1, 1, none⟩ = some (.slice none 0 0) := XR.out.cell 1
          have rf := XR.out.frozen
          clear hsl9 htk
          go_wp2_with fail
          refine bodyPost_ret (v := .agg #[.string s, .slice a9 (onL ls l).length c9]) (by simp [results, Try.results51, go_sem, World.cell?_setCell_same, World.cell?_setCell_other, r0, r1]) rfl ?_
          rw [HD.out]
          refine ⟨a9, c9, rfl, (S9.out.kept fun b hb => ?_).mono fun b hb _ => hb.imp id (fun h => by omega), (XE.out.setCell (by simp) _).setCell (by simp) _⟩
          have hbne : b ≠ w.heap.size + 1 := by
            rcases hb with h | h
            · have := h.2; omega
            · omega
          rw [Below.heap_setCell _ _ _ _ (by simpa using hbne), Below.heap_setCell _ _ _ _ (by simpa using hbne)]
#print axioms on_any
end Go.Proofs.Ytpbnbkeoiojpaac

/- Walks: a term with bindings in it, if it isn't too great; whether bindings may be. -/
namespace Go.Proofs.Ytpbnbkeoiojpaac
open Go.RowKit
set_option linter.unusedSimpArgs false
set_option linter.unusedVariables false
set_option maxRecDepth 8000

def OnAll (w : World) (X : Nat → Prop) (t : Tm) (e : Ending) (w' : World) : Prop :=
  Below w.heap.size w w' ∧ ((2000 < sizeL [t] ∧ e = .returned (.tuple #[.agg #[.string ⟨#[]⟩, .slice none 0 0], .bool false])) ∨ (sizeL [t] ≤ 2000 ∧ ∃ a c, e = .returned (.tuple #[.agg #[.string t.name, .slice a t.args.length c], .bool true]) ∧ Sl w' (fun b => (X b ∧ b < w.heap.size) ∨ w.heap.size ≤ b) a t.args))

set_option maxHeartbeats 1000000 in
theorem onAll_any (ls : List Bd) (t : Tm) (u v : Value) (w : World) (X : Nat → Prop) (hu : BV w X u ls) (hv : TV w X v t) (hsm : sizeL [t] ≤ 1000000) :
    Calls Try.prog 19 #[u, v] w fun e w' => OnAll w X (onT ls t) e w' := by
  obtain ⟨a, c, rfl, hs⟩ := hv
  have HU := hide (hu.mono (Y := fun b => X b ∧ b < w.heap.size) fun b h1 h2 => ⟨h1, h2⟩)
  have HS := hide (hs.mono (Y := fun b => X b ∧ b < w.heap.size) fun b h1 h2 => ⟨h1, h2⟩)
  clear hu hs
  go_enter Try.func19, Try.ntmps19
  go_wp2_with fail
  refine (grown_any ls t u _ 2000 _ (fun b => X b ∧ b < w.heap.size) (by exact (HU.out.alloc _).alloc _) (by exact ⟨a, c, rfl, (HS.out.later ((Below.refl _ _).alloc (Nat.le_refl _) _)).later ((Below.refl _ _).alloc (Nat.le_refl _) _)⟩) (by decide) (by decide)).mono ?_
  rintro e w1 ⟨rfl, hb1⟩
  have T1 := hide (((Blk.new w #[.string t.name, .slice a t.args.length c] 25).alloc (.cells #[.string ⟨#[]⟩, .slice none 0 0] 25)).below hb1 (by simp; omega))
  have R1 : Hid (Blk w1 (w.heap.size + 1) #[.string ⟨#[]⟩, .slice none 0 0] 25) := by
    have h := (Blk.new (w.alloc (.cells #[.string t.name, .slice a t.args.length c] 25)) #[.string ⟨#[]⟩, .slice none 0 0] 25).below hb1 (by simp)
    unfold Hid
    simpa using h
  have B1 := hide ((((Below.refl w.heap.size w).alloc (Nat.le_refl _) (.cells #[.string t.name, .slice a t.args.length c] 25)).alloc (by simp) (.cells #[.string ⟨#[]⟩, .slice none 0 0] 25)).trans (hb1.mono (by simp; omega)))
  clear hb1
  have t0 : w1.cell? ⟨w.heap.size, 0, none⟩ = some (.string t.name) := T1.out.cell 0
  have t1 : w1.cell? ⟨w.heap.size, 1, none⟩ = some (.slice a t.args.length c) := T1.out.cell 1
  have r0 : w1.cell? ⟨w.heap.size + 1, 0, none⟩ = some (.string ⟨#[]⟩) := R1.out.cell 0
  have r1 : w1.cell? ⟨w.heap.size + 1, 1, none⟩ = some (.slice none 0 0) := R1.out.cell 1
  have rf := R1.out.frozen
  by_cases hg : 2000 < sizeL [onT ls t]
  · have hmin : min (sizeL [onT ls t] : Int) (2000 + 1) = 2001 := by omega
    rw [hmin]
    go_wp2_with fail
    refine bodyPost_ret (v := .tuple #[.agg #[.string ⟨#[]⟩, .slice none 0 0], .bool false]) (by simp [results, Try.results19, go_sem, World.cell?_setCell_same, World.cell?_setCell_other, r0, r1]) rfl ?_
    exact ⟨(B1.out.setCell (by simp) _).setCell (by simp) _, Or.inl ⟨hg, rfl⟩⟩
  · have hmin : min (sizeL [onT ls t] : Int) (2000 + 1) = sizeL [onT ls t] := by omega
    rw [hmin]
    have hle : ¬ (2000 : Int) < (sizeL [onT ls t] : Int) := by omega
    clear hmin
    go_wp2_with fail
    refine (on_any ls t u _ _ (fun b => X b ∧ b < w.heap.size) (by exact HU.out.later B1.out) (by exact ⟨a, c, rfl, HS.out.later B1.out⟩) hsm).mono ?_
    rintro e w2 ⟨a2, c2, rfl, hs2, hb2⟩
    have R2 := hide (R1.out.below hb2 R1.out.lt)
    have B2 := hide (B1.out.trans (hb2.mono B1.out.size))
    have S2 := hide (hs2.mono (Y := fun b => (X b ∧ b < w.heap.size) ∨ w.heap.size + 2 ≤ b) fun b hb _ => hb.imp (fun h => h.1) (fun h => by have := R1.out.lt; omega))
    clear hb2 hs2 r0 r1 rf t0 t1
    have r0 : w2.cell? ⟨w.heap.size + 1, 0, none⟩ = some (.string ⟨#[]⟩) := R2.out.cell 0
    have r1 : w2.cell? ⟨w.heap.size + 1, 1, none⟩ = some (.slice none 0 0) := R2.out.cell 1
    have rf := R2.out.frozen
    go_wp2_with fail
    refine bodyPost_ret (v := .tuple #[.agg #[.string (onT ls t).name, .slice a2 (onT ls t).args.length c2], .bool true]) (by simp [results, Try.results19, go_sem, World.cell?_setCell_same, World.cell?_setCell_other, r0, r1]) rfl ?_
    refine ⟨(B2.out.setCell (by simp) _).setCell (by simp) _, Or.inr ⟨by omega, a2, c2, rfl, (S2.out.kept fun b hb => ?_).mono fun b hb _ => hb.imp id (fun h => by omega)⟩⟩
    have hbne : b ≠ w.heap.size + 1 := by
      rcases hb with h | h
      · have := h.2; omega
      · omega
    rw [Below.heap_setCell _ _ _ _ (by simpa using hbne), Below.heap_setCell _ _ _ _ (by simpa using hbne)]

#print axioms onAll_any
end Go.Proofs.Ytpbnbkeoiojpaac

/- Walks: one of some rows. -/
namespace Go.Proofs.Ytpbnbkeoiojpaac
open Go.RowKit
set_option linter.unusedSimpArgs false
set_option linter.unusedVariables false
set_option maxRecDepth 8000

def rowsSix : List (List ByteArray) := [[⟨#[97]⟩, ⟨#[98]⟩, ⟨#[99]⟩, ⟨#[104]⟩, ⟨#[107]⟩, ⟨#[102]⟩, ⟨#[103]⟩], [⟨#[103]⟩, ⟨#[102]⟩, ⟨#[107]⟩, ⟨#[104]⟩, ⟨#[99]⟩, ⟨#[98]⟩, ⟨#[97]⟩], [⟨#[102]⟩, ⟨#[104]⟩], [], [⟨#[101]⟩, ⟨#[102]⟩, ⟨#[105]⟩], [⟨#[99]⟩, ⟨#[97]⟩, ⟨#[107]⟩, ⟨#[104]⟩, ⟨#[103]⟩, ⟨#[102]⟩]]
/-- A row in a block of its own. -/
theorem lv_blk {α : Type} {f : α → Value} {w : World} {b T : Nat} {l : List α} {X : Nat → Prop} (h : Blk w b (l.map f).toArray T) (hX : X b) (hl : l.length ≤ 1000000) : LV f w X (.slice (some ⟨b, 0, none⟩) l.length l.length) l :=
  ⟨_, _, rfl, ⟨by omega, Nat.le_refl _⟩, Or.inr ⟨b, 0, rfl, hX, fun i hi => by rw [h.cell]; simp [hi]⟩⟩
theorem inB_mem {x : ByteArray} {l : List ByteArray} (h : inB x l = true) : x ∈ l := by
  unfold inB at h
  rw [List.any_eq_true] at h
  obtain ⟨y, hy, e⟩ := h
  have e2 : y = x := bytes_inj (by simpa using e)
  rw [← e2]; exact hy
theorem rowE_of {row : List ByteArray} (h40 : row.length ≤ 40) (hall : ∀ n ∈ row, nameB n = true ∧ varB n = false) (hnd : row.Nodup) : rowE row = 0 := by
  unfold rowE
  rw [if_neg (by omega)]
  refine rows_none fun j hj => ?_
  obtain ⟨h1, h2⟩ := hall _ (List.getElem_mem hj)
  rw [rowAt_get hj, if_neg (by rw [h1, h2]; simp), if_neg]
  intro hi
  have hm := inB_mem hi
  rw [List.mem_iff_getElem] at hm
  obtain ⟨i, hi1, hi2⟩ := hm
  rw [List.getElem_take] at hi2
  simp at hi1
  exact List.pairwise_iff_getElem.1 hnd i j (by omega) hj (by omega) hi2
theorem rowsSix_ok : ∀ row ∈ rowsSix, rowE row = 0 ∧ row.length ≤ 40 := by
  intro row h
  simp only [rowsSix, List.mem_cons, List.mem_nil_iff, or_false] at h
  rcases h with rfl | rfl | rfl | rfl | rfl | rfl <;> exact ⟨rowE_of (by decide) (by decide) (by decide), by decide⟩

set_option maxHeartbeats 4000000 in
theorem rowFrom_any (z : Int) (hz : -9223372036854775808 ≤ z ∧ z ≤ 9223372036854775807) (w : World) :
    Calls Try.prog 18 #[.int .i64 z] w fun e w' => ∃ row v, e = .returned v ∧ row ∈ rowsSix ∧ LV Value.string w' (fun b => w.heap.size ≤ b) v row ∧ Below w.heap.size w w' := by
  have HW : Hid (Blk ((((((w.alloc (.cells #[.string ⟨#[97]⟩, .string ⟨#[98]⟩, .string ⟨#[99]⟩, .string ⟨#[104]⟩, .string ⟨#[107]⟩, .string ⟨#[102]⟩, .string ⟨#[103]⟩] 9)).alloc (.cells #[.string ⟨#[103]⟩, .string ⟨#[102]⟩, .string ⟨#[107]⟩, .string ⟨#[104]⟩, .string ⟨#[99]⟩, .string ⟨#[98]⟩, .string ⟨#[97]⟩] 9)).alloc (.cells #[.string ⟨#[102]⟩, .string ⟨#[104]⟩] 9)).alloc (.cells #[.string ⟨#[101]⟩, .string ⟨#[102]⟩, .string ⟨#[105]⟩] 9)).alloc (.cells #[.string ⟨#[99]⟩, .string ⟨#[97]⟩, .string ⟨#[107]⟩, .string ⟨#[104]⟩, .string ⟨#[103]⟩, .string ⟨#[102]⟩] 9)).alloc (.cells #[.slice (some ⟨w.heap.size + 0, 0, none⟩) 7 7, .slice (some ⟨w.heap.size + 1, 0, none⟩) 7 7, .slice (some ⟨w.heap.size + 2, 0, none⟩) 2 2, .slice none 0 0, .slice (some ⟨w.heap.size + 3, 0, none⟩) 3 3, .slice (some ⟨w.heap.size + 4, 0, none⟩) 6 6] 22)) (w.heap.size + 0) #[.string ⟨#[97]⟩, .string ⟨#[98]⟩, .string ⟨#[99]⟩, .string ⟨#[104]⟩, .string ⟨#[107]⟩, .string ⟨#[102]⟩, .string ⟨#[103]⟩] 9 ∧ Blk ((((((w.alloc (.cells #[.string ⟨#[97]⟩, .string ⟨#[98]⟩, .string ⟨#[99]⟩, .string ⟨#[104]⟩, .string ⟨#[107]⟩, .string ⟨#[102]⟩, .string ⟨#[103]⟩] 9)).alloc (.cells #[.string ⟨#[103]⟩, .string ⟨#[102]⟩, .string ⟨#[107]⟩, .string ⟨#[104]⟩, .string ⟨#[99]⟩, .string ⟨#[98]⟩, .string ⟨#[97]⟩] 9)).alloc (.cells #[.string ⟨#[102]⟩, .string ⟨#[104]⟩] 9)).alloc (.cells #[.string ⟨#[101]⟩, .string ⟨#[102]⟩, .string ⟨#[105]⟩] 9)).alloc (.cells #[.string ⟨#[99]⟩, .string ⟨#[97]⟩, .string ⟨#[107]⟩, .string ⟨#[104]⟩, .string ⟨#[103]⟩, .string ⟨#[102]⟩] 9)).alloc (.cells #[.slice (some ⟨w.heap.size + 0, 0, none⟩) 7 7, .slice (some ⟨w.heap.size + 1, 0, none⟩) 7 7, .slice (some ⟨w.heap.size + 2, 0, none⟩) 2 2, .slice none 0 0, .slice (some ⟨w.heap.size + 3, 0, none⟩) 3 3, .slice (some ⟨w.heap.size + 4, 0, none⟩) 6 6] 22)) (w.heap.size + 1) #[.string ⟨#[103]⟩, .string ⟨#[102]⟩, .string ⟨#[107]⟩, .string ⟨#[104]⟩, .string ⟨#[99]⟩, .string ⟨#[98]⟩, .string ⟨#[97]⟩] 9 ∧ Blk ((((((w.alloc (.cells #[.string ⟨#[97]⟩, .string ⟨#[98]⟩, .string ⟨#[99]⟩, .string ⟨#[104]⟩, .string ⟨#[107]⟩, .string ⟨#[102]⟩, .string ⟨#[103]⟩] 9)).alloc (.cells #[.string ⟨#[103]⟩, .string ⟨#[102]⟩, .string ⟨#[107]⟩, .string ⟨#[104]⟩, .string ⟨#[99]⟩, .string ⟨#[98]⟩, .string ⟨#[97]⟩] 9)).alloc (.cells #[.string ⟨#[102]⟩, .string ⟨#[104]⟩] 9)).alloc (.cells #[.string ⟨#[101]⟩, .string ⟨#[102]⟩, .string ⟨#[105]⟩] 9)).alloc (.cells #[.string ⟨#[99]⟩, .string ⟨#[97]⟩, .string ⟨#[107]⟩, .string ⟨#[104]⟩, .string ⟨#[103]⟩, .string ⟨#[102]⟩] 9)).alloc (.cells #[.slice (some ⟨w.heap.size + 0, 0, none⟩) 7 7, .slice (some ⟨w.heap.size + 1, 0, none⟩) 7 7, .slice (some ⟨w.heap.size + 2, 0, none⟩) 2 2, .slice none 0 0, .slice (some ⟨w.heap.size + 3, 0, none⟩) 3 3, .slice (some ⟨w.heap.size + 4, 0, none⟩) 6 6] 22)) (w.heap.size + 2) #[.string ⟨#[102]⟩, .string ⟨#[104]⟩] 9 ∧ Blk ((((((w.alloc (.cells #[.string ⟨#[97]⟩, .string ⟨#[98]⟩, .string ⟨#[99]⟩, .string ⟨#[104]⟩, .string ⟨#[107]⟩, .string ⟨#[102]⟩, .string ⟨#[103]⟩] 9)).alloc (.cells #[.string ⟨#[103]⟩, .string ⟨#[102]⟩, .string ⟨#[107]⟩, .string ⟨#[104]⟩, .string ⟨#[99]⟩, .string ⟨#[98]⟩, .string ⟨#[97]⟩] 9)).alloc (.cells #[.string ⟨#[102]⟩, .string ⟨#[104]⟩] 9)).alloc (.cells #[.string ⟨#[101]⟩, .string ⟨#[102]⟩, .string ⟨#[105]⟩] 9)).alloc (.cells #[.string ⟨#[99]⟩, .string ⟨#[97]⟩, .string ⟨#[107]⟩, .string ⟨#[104]⟩, .string ⟨#[103]⟩, .string ⟨#[102]⟩] 9)).alloc (.cells #[.slice (some ⟨w.heap.size + 0, 0, none⟩) 7 7, .slice (some ⟨w.heap.size + 1, 0, none⟩) 7 7, .slice (some ⟨w.heap.size + 2, 0, none⟩) 2 2, .slice none 0 0, .slice (some ⟨w.heap.size + 3, 0, none⟩) 3 3, .slice (some ⟨w.heap.size + 4, 0, none⟩) 6 6] 22)) (w.heap.size + 3) #[.string ⟨#[101]⟩, .string ⟨#[102]⟩, .string ⟨#[105]⟩] 9 ∧ Blk ((((((w.alloc (.cells #[.string ⟨#[97]⟩, .string ⟨#[98]⟩, .string ⟨#[99]⟩, .string ⟨#[104]⟩, .string ⟨#[107]⟩, .string ⟨#[102]⟩, .string ⟨#[103]⟩] 9)).alloc (.cells #[.string ⟨#[103]⟩, .string ⟨#[102]⟩, .string ⟨#[107]⟩, .string ⟨#[104]⟩, .string ⟨#[99]⟩, .string ⟨#[98]⟩, .string ⟨#[97]⟩] 9)).alloc (.cells #[.string ⟨#[102]⟩, .string ⟨#[104]⟩] 9)).alloc (.cells #[.string ⟨#[101]⟩, .string ⟨#[102]⟩, .string ⟨#[105]⟩] 9)).alloc (.cells #[.string ⟨#[99]⟩, .string ⟨#[97]⟩, .string ⟨#[107]⟩, .string ⟨#[104]⟩, .string ⟨#[103]⟩, .string ⟨#[102]⟩] 9)).alloc (.cells #[.slice (some ⟨w.heap.size + 0, 0, none⟩) 7 7, .slice (some ⟨w.heap.size + 1, 0, none⟩) 7 7, .slice (some ⟨w.heap.size + 2, 0, none⟩) 2 2, .slice none 0 0, .slice (some ⟨w.heap.size + 3, 0, none⟩) 3 3, .slice (some ⟨w.heap.size + 4, 0, none⟩) 6 6] 22)) (w.heap.size + 4) #[.string ⟨#[99]⟩, .string ⟨#[97]⟩, .string ⟨#[107]⟩, .string ⟨#[104]⟩, .string ⟨#[103]⟩, .string ⟨#[102]⟩] 9 ∧ Blk ((((((w.alloc (.cells #[.string ⟨#[97]⟩, .string ⟨#[98]⟩, .string ⟨#[99]⟩, .string ⟨#[104]⟩, .string ⟨#[107]⟩, .string ⟨#[102]⟩, .string ⟨#[103]⟩] 9)).alloc (.cells #[.string ⟨#[103]⟩, .string ⟨#[102]⟩, .string ⟨#[107]⟩, .string ⟨#[104]⟩, .string ⟨#[99]⟩, .string ⟨#[98]⟩, .string ⟨#[97]⟩] 9)).alloc (.cells #[.string ⟨#[102]⟩, .string ⟨#[104]⟩] 9)).alloc (.cells #[.string ⟨#[101]⟩, .string ⟨#[102]⟩, .string ⟨#[105]⟩] 9)).alloc (.cells #[.string ⟨#[99]⟩, .string ⟨#[97]⟩, .string ⟨#[107]⟩, .string ⟨#[104]⟩, .string ⟨#[103]⟩, .string ⟨#[102]⟩] 9)).alloc (.cells #[.slice (some ⟨w.heap.size + 0, 0, none⟩) 7 7, .slice (some ⟨w.heap.size + 1, 0, none⟩) 7 7, .slice (some ⟨w.heap.size + 2, 0, none⟩) 2 2, .slice none 0 0, .slice (some ⟨w.heap.size + 3, 0, none⟩) 3 3, .slice (some ⟨w.heap.size + 4, 0, none⟩) 6 6] 22)) (w.heap.size + 5) #[.slice (some ⟨w.heap.size + 0, 0, none⟩) 7 7, .slice (some ⟨w.heap.size + 1, 0, none⟩) 7 7, .slice (some ⟨w.heap.size + 2, 0, none⟩) 2 2, .slice none 0 0, .slice (some ⟨w.heap.size + 3, 0, none⟩) 3 3, .slice (some ⟨w.heap.size + 4, 0, none⟩) 6 6] 22 ∧ Below w.heap.size w ((((((w.alloc (.cells #[.string ⟨#[97]⟩, .string ⟨#[98]⟩, .string ⟨#[99]⟩, .string ⟨#[104]⟩, .string ⟨#[107]⟩, .string ⟨#[102]⟩, .string ⟨#[103]⟩] 9)).alloc (.cells #[.string ⟨#[103]⟩, .string ⟨#[102]⟩, .string ⟨#[107]⟩, .string ⟨#[104]⟩, .string ⟨#[99]⟩, .string ⟨#[98]⟩, .string ⟨#[97]⟩] 9)).alloc (.cells #[.string ⟨#[102]⟩, .string ⟨#[104]⟩] 9)).alloc (.cells #[.string ⟨#[101]⟩, .string ⟨#[102]⟩, .string ⟨#[105]⟩] 9)).alloc (.cells #[.string ⟨#[99]⟩, .string ⟨#[97]⟩, .string ⟨#[107]⟩, .string ⟨#[104]⟩, .string ⟨#[103]⟩, .string ⟨#[102]⟩] 9)).alloc (.cells #[.slice (some ⟨w.heap.size + 0, 0, none⟩) 7 7, .slice (some ⟨w.heap.size + 1, 0, none⟩) 7 7, .slice (some ⟨w.heap.size + 2, 0, none⟩) 2 2, .slice none 0 0, .slice (some ⟨w.heap.size + 3, 0, none⟩) 3 3, .slice (some ⟨w.heap.size + 4, 0, none⟩) 6 6] 22))) := by
    have b0 := Below.refl w.heap.size w
    have k0 := Blk.new w #[.string ⟨#[97]⟩, .string ⟨#[98]⟩, .string ⟨#[99]⟩, .string ⟨#[104]⟩, .string ⟨#[107]⟩, .string ⟨#[102]⟩, .string ⟨#[103]⟩] 9
    have b1 := b0.alloc b0.size (.cells #[.string ⟨#[97]⟩, .string ⟨#[98]⟩, .string ⟨#[99]⟩, .string ⟨#[104]⟩, .string ⟨#[107]⟩, .string ⟨#[102]⟩, .string ⟨#[103]⟩] 9)
    have e0 : (w.alloc (.cells #[.string ⟨#[97]⟩, .string ⟨#[98]⟩, .string ⟨#[99]⟩, .string ⟨#[104]⟩, .string ⟨#[107]⟩, .string ⟨#[102]⟩, .string ⟨#[103]⟩] 9)).heap.size = w.heap.size + 1 := by simp
    generalize w.alloc (.cells #[.string ⟨#[97]⟩, .string ⟨#[98]⟩, .string ⟨#[99]⟩, .string ⟨#[104]⟩, .string ⟨#[107]⟩, .string ⟨#[102]⟩, .string ⟨#[103]⟩] 9) = u0 at *
    have k1 := Blk.new u0 #[.string ⟨#[103]⟩, .string ⟨#[102]⟩, .string ⟨#[107]⟩, .string ⟨#[104]⟩, .string ⟨#[99]⟩, .string ⟨#[98]⟩, .string ⟨#[97]⟩] 9
    have b2 := b1.alloc b1.size (.cells #[.string ⟨#[103]⟩, .string ⟨#[102]⟩, .string ⟨#[107]⟩, .string ⟨#[104]⟩, .string ⟨#[99]⟩, .string ⟨#[98]⟩, .string ⟨#[97]⟩] 9)
    replace k0 := k0.alloc (.cells #[.string ⟨#[103]⟩, .string ⟨#[102]⟩, .string ⟨#[107]⟩, .string ⟨#[104]⟩, .string ⟨#[99]⟩, .string ⟨#[98]⟩, .string ⟨#[97]⟩] 9)
    have e1 : (u0.alloc (.cells #[.string ⟨#[103]⟩, .string ⟨#[102]⟩, .string ⟨#[107]⟩, .string ⟨#[104]⟩, .string ⟨#[99]⟩, .string ⟨#[98]⟩, .string ⟨#[97]⟩] 9)).heap.size = w.heap.size + 2 := by simp [e0]
    rw [e0] at k1
    generalize u0.alloc (.cells #[.string ⟨#[103]⟩, .string ⟨#[102]⟩, .string ⟨#[107]⟩, .string ⟨#[104]⟩, .string ⟨#[99]⟩, .string ⟨#[98]⟩, .string ⟨#[97]⟩] 9) = u1 at *
    have k2 := Blk.new u1 #[.string ⟨#[102]⟩, .string ⟨#[104]⟩] 9
    have b3 := b2.alloc b2.size (.cells #[.string ⟨#[102]⟩, .string ⟨#[104]⟩] 9)
    replace k0 := k0.alloc (.cells #[.string ⟨#[102]⟩, .string ⟨#[104]⟩] 9)
    replace k1 := k1.alloc (.cells #[.string ⟨#[102]⟩, .string ⟨#[104]⟩] 9)
    have e2 : (u1.alloc (.cells #[.string ⟨#[102]⟩, .string ⟨#[104]⟩] 9)).heap.size = w.heap.size + 3 := by simp [e1]
    rw [e1] at k2
    generalize u1.alloc (.cells #[.string ⟨#[102]⟩, .string ⟨#[104]⟩] 9) = u2 at *
    have k3 := Blk.new u2 #[.string ⟨#[101]⟩, .string ⟨#[102]⟩, .string ⟨#[105]⟩] 9
    have b4 := b3.alloc b3.size (.cells #[.string ⟨#[101]⟩, .string ⟨#[102]⟩, .string ⟨#[105]⟩] 9)
    replace k0 := k0.alloc (.cells #[.string ⟨#[101]⟩, .string ⟨#[102]⟩, .string ⟨#[105]⟩] 9)
    replace k1 := k1.alloc (.cells #[.string ⟨#[101]⟩, .string ⟨#[102]⟩, .string ⟨#[105]⟩] 9)
    replace k2 := k2.alloc (.cells #[.string ⟨#[101]⟩, .string ⟨#[102]⟩, .string ⟨#[105]⟩] 9)
    have e3 : (u2.alloc (.cells #[.string ⟨#[101]⟩, .string ⟨#[102]⟩, .string ⟨#[105]⟩] 9)).heap.size = w.heap.size + 4 := by simp [e2]
    rw [e2] at k3
    generalize u2.alloc (.cells #[.string ⟨#[101]⟩, .string ⟨#[102]⟩, .string ⟨#[105]⟩] 9) = u3 at *
    have k4 := Blk.new u3 #[.string ⟨#[99]⟩, .string ⟨#[97]⟩, .string ⟨#[107]⟩, .string ⟨#[104]⟩, .string ⟨#[103]⟩, .string ⟨#[102]⟩] 9
    have b5 := b4.alloc b4.size (.cells #[.string ⟨#[99]⟩, .string ⟨#[97]⟩, .string ⟨#[107]⟩, .string ⟨#[104]⟩, .string ⟨#[103]⟩, .string ⟨#[102]⟩] 9)
    replace k0 := k0.alloc (.cells #[.string ⟨#[99]⟩, .string ⟨#[97]⟩, .string ⟨#[107]⟩, .string ⟨#[104]⟩, .string ⟨#[103]⟩, .string ⟨#[102]⟩] 9)
    replace k1 := k1.alloc (.cells #[.string ⟨#[99]⟩, .string ⟨#[97]⟩, .string ⟨#[107]⟩, .string ⟨#[104]⟩, .string ⟨#[103]⟩, .string ⟨#[102]⟩] 9)
    replace k2 := k2.alloc (.cells #[.string ⟨#[99]⟩, .string ⟨#[97]⟩, .string ⟨#[107]⟩, .string ⟨#[104]⟩, .string ⟨#[103]⟩, .string ⟨#[102]⟩] 9)
    replace k3 := k3.alloc (.cells #[.string ⟨#[99]⟩, .string ⟨#[97]⟩, .string ⟨#[107]⟩, .string ⟨#[104]⟩, .string ⟨#[103]⟩, .string ⟨#[102]⟩] 9)
    have e4 : (u3.alloc (.cells #[.string ⟨#[99]⟩, .string ⟨#[97]⟩, .string ⟨#[107]⟩, .string ⟨#[104]⟩, .string ⟨#[103]⟩, .string ⟨#[102]⟩] 9)).heap.size = w.heap.size + 5 := by simp [e3]
    rw [e3] at k4
    generalize u3.alloc (.cells #[.string ⟨#[99]⟩, .string ⟨#[97]⟩, .string ⟨#[107]⟩, .string ⟨#[104]⟩, .string ⟨#[103]⟩, .string ⟨#[102]⟩] 9) = u4 at *
    have k5 := Blk.new u4 #[.slice (some ⟨w.heap.size + 0, 0, none⟩) 7 7, .slice (some ⟨w.heap.size + 1, 0, none⟩) 7 7, .slice (some ⟨w.heap.size + 2, 0, none⟩) 2 2, .slice none 0 0, .slice (some ⟨w.heap.size + 3, 0, none⟩) 3 3, .slice (some ⟨w.heap.size + 4, 0, none⟩) 6 6] 22
    rw [e4] at k5
    exact ⟨k0.alloc _, k1.alloc _, k2.alloc _, k3.alloc _, k4.alloc _, k5, b5.alloc b5.size _⟩
  go_enter Try.func18, Try.ntmps18
  go_wp2_with fail
  generalize ((((((w.alloc (.cells #[.string ⟨#[97]⟩, .string ⟨#[98]⟩, .string ⟨#[99]⟩, .string ⟨#[104]⟩, .string ⟨#[107]⟩, .string ⟨#[102]⟩, .string ⟨#[103]⟩] 9)).alloc (.cells #[.string ⟨#[103]⟩, .string ⟨#[102]⟩, .string ⟨#[107]⟩, .string ⟨#[104]⟩, .string ⟨#[99]⟩, .string ⟨#[98]⟩, .string ⟨#[97]⟩] 9)).alloc (.cells #[.string ⟨#[102]⟩, .string ⟨#[104]⟩] 9)).alloc (.cells #[.string ⟨#[101]⟩, .string ⟨#[102]⟩, .string ⟨#[105]⟩] 9)).alloc (.cells #[.string ⟨#[99]⟩, .string ⟨#[97]⟩, .string ⟨#[107]⟩, .string ⟨#[104]⟩, .string ⟨#[103]⟩, .string ⟨#[102]⟩] 9)).alloc (.cells #[.slice (some ⟨w.heap.size + 0, 0, none⟩) 7 7, .slice (some ⟨w.heap.size + 1, 0, none⟩) 7 7, .slice (some ⟨w.heap.size + 2, 0, none⟩) 2 2, .slice none 0 0, .slice (some ⟨w.heap.size + 3, 0, none⟩) 3 3, .slice (some ⟨w.heap.size + 4, 0, none⟩) 6 6] 22)) = w6 at *
  obtain ⟨k0, k1, k2, k3, k4, k5, hb⟩ := HW.out
  have HB := hide hb
  have q0 := k5.cell 0
  have q1 := k5.cell 1
  have q2 := k5.cell 2
  have q3 := k5.cell 3
  have q4 := k5.cell 4
  have q5 := k5.cell 5
  simp only [List.getElem?_toArray, List.getElem?_cons_zero, List.getElem?_cons_succ] at q0 q1 q2 q3 q4 q5
  have L0 : Hid (LV Value.string w6 (fun b => w.heap.size ≤ b) (.slice (some ⟨w.heap.size + 0, 0, none⟩) 7 7) [⟨#[97]⟩, ⟨#[98]⟩, ⟨#[99]⟩, ⟨#[104]⟩, ⟨#[107]⟩, ⟨#[102]⟩, ⟨#[103]⟩]) := lv_blk (f := Value.string) (l := ([⟨#[97]⟩, ⟨#[98]⟩, ⟨#[99]⟩, ⟨#[104]⟩, ⟨#[107]⟩, ⟨#[102]⟩, ⟨#[103]⟩] : List ByteArray)) k0 (by omega) (by decide)
  have L1 : Hid (LV Value.string w6 (fun b => w.heap.size ≤ b) (.slice (some ⟨w.heap.size + 1, 0, none⟩) 7 7) [⟨#[103]⟩, ⟨#[102]⟩, ⟨#[107]⟩, ⟨#[104]⟩, ⟨#[99]⟩, ⟨#[98]⟩, ⟨#[97]⟩]) := lv_blk (f := Value.string) (l := ([⟨#[103]⟩, ⟨#[102]⟩, ⟨#[107]⟩, ⟨#[104]⟩, ⟨#[99]⟩, ⟨#[98]⟩, ⟨#[97]⟩] : List ByteArray)) k1 (by omega) (by decide)
  have L2 : Hid (LV Value.string w6 (fun b => w.heap.size ≤ b) (.slice (some ⟨w.heap.size + 2, 0, none⟩) 2 2) [⟨#[102]⟩, ⟨#[104]⟩]) := lv_blk (f := Value.string) (l := ([⟨#[102]⟩, ⟨#[104]⟩] : List ByteArray)) k2 (by omega) (by decide)
  have L3 : Hid (LV Value.string w6 (fun b => w.heap.size ≤ b) (.slice none 0 0) []) := ⟨none, 0, rfl, by simp, Or.inl rfl⟩
  have L4 : Hid (LV Value.string w6 (fun b => w.heap.size ≤ b) (.slice (some ⟨w.heap.size + 3, 0, none⟩) 3 3) [⟨#[101]⟩, ⟨#[102]⟩, ⟨#[105]⟩]) := lv_blk (f := Value.string) (l := ([⟨#[101]⟩, ⟨#[102]⟩, ⟨#[105]⟩] : List ByteArray)) k3 (by omega) (by decide)
  have L5 : Hid (LV Value.string w6 (fun b => w.heap.size ≤ b) (.slice (some ⟨w.heap.size + 4, 0, none⟩) 6 6) [⟨#[99]⟩, ⟨#[97]⟩, ⟨#[107]⟩, ⟨#[104]⟩, ⟨#[103]⟩, ⟨#[102]⟩]) := lv_blk (f := Value.string) (l := ([⟨#[99]⟩, ⟨#[97]⟩, ⟨#[107]⟩, ⟨#[104]⟩, ⟨#[103]⟩, ⟨#[102]⟩] : List ByteArray)) k4 (by omega) (by decide)
  clear k0 k1 k2 k3 k4 k5 hb HW
  refine (pick_any z 6 (by decide) (by decide) hz _).mono ?_
  rintro e w1 ⟨k, rfl, hk, rfl⟩
  match k, hk with
  | 0, _ =>
    go_wp2_with fail
    go_ret
    exact ⟨_, _, rfl, by simp [rowsSix], L0.out, HB.out⟩
  | 1, _ =>
    go_wp2_with fail
    go_ret
    exact ⟨_, _, rfl, by simp [rowsSix], L1.out, HB.out⟩
  | 2, _ =>
    go_wp2_with fail
    go_ret
    exact ⟨_, _, rfl, by simp [rowsSix], L2.out, HB.out⟩
  | 3, _ =>
    go_wp2_with fail
    go_ret
    exact ⟨_, _, rfl, by simp [rowsSix], L3.out, HB.out⟩
  | 4, _ =>
    go_wp2_with fail
    go_ret
    exact ⟨_, _, rfl, by simp [rowsSix], L4.out, HB.out⟩
  | 5, _ =>
    go_wp2_with fail
    go_ret
    exact ⟨_, _, rfl, by simp [rowsSix], L5.out, HB.out⟩
#print axioms rowsSix_ok
#print axioms rowFrom_any
end Go.Proofs.Ytpbnbkeoiojpaac

/- The law on orders of terms made of raw numbers: it answers true. -/
namespace Go.Proofs.Ytpbnbkeoiojpaac
open Go.RowKit
set_option linter.unusedSimpArgs false
set_option linter.unusedVariables false
set_option maxRecDepth 8000

/-- Two terms in boxes, and a row. -/
structure OmW (N P Q : Nat) (a b : Tm) (aa : Option Addr) (ca : Nat) (ab : Option Addr) (cb : Nat) (vr : Value) (row : List ByteArray) (w wr : World) : Prop where
  k1 : Blk wr P #[.string a.name, .slice aa a.args.length ca] 25
  k2 : Blk wr Q #[.string b.name, .slice ab b.args.length cb] 25
  s1 : Sl wr (fun c => c < N) aa a.args
  s2 : Sl wr (fun c => c < N) ab b.args
  rw : LV Value.string wr (fun c => c < N) vr row
  bl : Below w.heap.size w wr
  pq : P < N ∧ Q < N ∧ w.heap.size ≤ N
theorem OmW.later {N P Q : Nat} {a b : Tm} {aa ab : Option Addr} {ca cb : Nat} {vr : Value} {row : List ByteArray} {w w1 w2 : World} (h : OmW N P Q a b aa ca ab cb vr row w w1) (hb : Below w1.heap.size w1 w2) : OmW N P Q a b aa ca ab cb vr row w w2 :=
  ⟨h.k1.below hb h.k1.lt, h.k2.below hb h.k2.lt, h.s1.later hb, h.s2.later hb, h.rw.later hb, h.bl.trans (hb.mono h.bl.size), h.pq⟩
theorem OmW.set {N P Q : Nat} {a b : Tm} {aa ab : Option Addr} {ca cb : Nat} {vr : Value} {row : List ByteArray} {w w1 : World} (h : OmW N P Q a b aa ca ab cb vr row w w1) {R : Nat} (hR : N ≤ R) (i : Nat) (v : Value) : OmW N P Q a b aa ca ab cb vr row w (w1.setCell ⟨R, i, none⟩ v) := by
  have hpq := h.pq
  have hk : ∀ c, c < N → (w1.setCell ⟨R, i, none⟩ v).heap[c]? = w1.heap[c]? := fun c hc => Below.heap_setCell _ _ _ _ (by simp; omega)
  exact ⟨h.k1.setOther i v (by omega), h.k2.setOther i v (by omega), h.s1.kept hk, h.s2.kept hk, h.rw.kept hk, h.bl.setCell (by simp; omega) v, hpq⟩
/-- A term in a box besides. -/
def OmX (R : Nat) (x : Tm) (a6 : Option Addr) (c6 : Nat) (wr : World) : Prop := Blk wr R #[.string x.name, .slice a6 x.args.length c6] 25 ∧ Sl wr (fun _ => True) a6 x.args
theorem OmX.later {R : Nat} {x : Tm} {a6 : Option Addr} {c6 : Nat} {w1 w2 : World} (h : OmX R x a6 c6 w1) (hb : Below w1.heap.size w1 w2) : OmX R x a6 c6 w2 := ⟨h.1.below hb h.1.lt, h.2.later hb⟩
theorem omx_set {R : Nat} {x : Tm} {a6 : Option Addr} {c6 : Nat} {w1 : World} (h : Blk w1 R #[.string ⟨#[]⟩, .slice none 0 0] 25) (hs : Sl w1 (fun b => b ≠ R) a6 x.args) : OmX R x a6 c6 ((w1.setCell ⟨R, 0, none⟩ (.string x.name)).setCell ⟨R, 1, none⟩ (.slice a6 x.args.length c6)) :=
  ⟨(h.set 0 _).set 1 _, (hs.kept fun b hb => by
    rw [Below.heap_setCell _ _ _ _ (by simpa using hb), Below.heap_setCell _ _ _ _ (by simpa using hb)]).mono fun _ _ _ => trivial⟩
/-- What On gives, whether or not it is too great. -/
theorem onSome_any (X : Nat → Prop) (ls : List Bd) (t : Tm) (u v : Value) (w : World) (hu : BV w X u ls) (hv : TV w X v t) (hsm : sizeL [t] ≤ 1000000) :
    Calls Try.prog 19 #[u, v] w fun e w' => ∃ (x : Tm) (a6 : Option Addr) (c6 : Nat) (ok : Bool), e = .returned (.tuple #[.agg #[.string x.name, .slice a6 x.args.length c6], .bool ok]) ∧ Sl w' (fun b => X b ∨ w.heap.size ≤ b) a6 x.args ∧ Below w.heap.size w w' := by
  refine (onAll_any ls t u v w _ hu hv hsm).mono ?_
  rintro e w' ⟨hb, ⟨_, rfl⟩ | ⟨_, a6, c6, rfl, hs⟩⟩
  · exact ⟨⟨⟨#[]⟩, []⟩, none, 0, false, rfl, ⟨by simp, Or.inl rfl⟩, hb⟩
  · exact ⟨onT ls t, a6, c6, true, rfl, hs.mono fun b h _ => h.imp (fun h => h.1) id, hb⟩
set_option maxHeartbeats 4000000 in
theorem orderMade_any (zs : List Int) (hr : ∀ z ∈ zs, Rng z) (y1 y2 y3 : Int) (hy1 : Rng y1) (hy2 : Rng y2) (hy3 : Rng y3) (u : Value) (w : World) (X : Nat → Prop) (hu : PV w X u zs) :
    Calls Try.prog 4 #[u, .int .i64 y1, .int .i64 y2, .int .i64 y3] w fun e w' => e = .returned (.bool true) ∧ Below w.heap.size w w' := by
  have HU := hide hu
  obtain ⟨au, cu, rfl, hlc, hu2⟩ := hu
  clear hu2
  by_cases h256 : 256 < zs.length
  · go_enter Try.func4, Try.ntmps4
    go_wp2_with fail
    go_ret
    exact ⟨rfl, Below.refl _ _⟩
  · go_enter Try.func4, Try.ntmps4
    go_wp2_with fail
    refine (pick_any _ 14 (by decide) (by decide) hy2 _).mono ?_
    rintro e w1 ⟨k1, rfl, hk1, hw1⟩
    rw [hw1]
    clear hw1 w1
    go_wp2_with fail
    refine (termOf_any 3 (by decide) (by decide) zs hr (by omega) k1 0 _ _ X HU.out (by omega) (by unfold top; split <;> omega)).mono ?_
    rintro e w2 ⟨a, aa, ca, rfl, hs2, hz2, hb2, _⟩
    have hza : sizeL [a] ≤ 1000000 := by
      have : top k1 ≤ 100 := by unfold top; split <;> omega
      omega
    have S2 := hide (hs2.mono (Y := fun _ => True) fun _ _ _ => trivial)
    have B2 := hide hb2
    clear hs2 hb2 hz2
    go_wp2_with fail
    refine (pick_any _ 14 (by decide) (by decide) hy3 _).mono ?_
    rintro e w3 ⟨k2, rfl, hk2, hw3⟩
    rw [hw3]
    clear hw3 w3
    have K3 := hide (Blk.new w2 #[.string a.name, .slice aa a.args.length ca] 25)
    have S3 := hide (S2.out.later ((Below.refl w2.heap.size w2).alloc (Nat.le_refl _) (.cells #[.string a.name, .slice aa a.args.length ca] 25)))
    have B3 := hide (B2.out.alloc B2.out.size (.cells #[.string a.name, .slice aa a.args.length ca] 25))
    clear S2
    generalize w2.heap.size = P at *
    generalize w2.alloc (.cells #[.string a.name, .slice aa a.args.length ca] 25) = w3 at *
    go_wp2_with fail
    refine (termOf_any 3 (by decide) (by decide) zs hr (by omega) k2 40 _ _ X (by exact HU.out.later B3.out) (by omega) (by unfold top; split <;> omega)).mono ?_
    rintro e w4 ⟨b, ab, cb, rfl, hs4, hz4, hb4, _⟩
    have S4 := hide (hs4.mono (Y := fun _ => True) fun _ _ _ => trivial)
    have K34 := hide (K3.out.below hb4 K3.out.lt)
    have S34 := hide (S3.out.later hb4)
    have B4 := hide (B3.out.trans (hb4.mono B3.out.size))
    clear hs4 hb4 hz4 K3 S3 B3
    go_wp2_with fail
    have hbA : Below w4.heap.size w4 (w4.alloc (.cells #[.string b.name, .slice ab b.args.length cb] 25)) := (Below.refl _ _).alloc (Nat.le_refl _) _
    have K5 := hide (Blk.new w4 #[.string b.name, .slice ab b.args.length cb] 25)
    have S5 := hide (S4.out.later hbA)
    have K35 := hide (K34.out.alloc (.cells #[.string b.name, .slice ab b.args.length cb] 25))
    have S35 := hide (S34.out.later hbA)
    have B5 := hide (B4.out.alloc B4.out.size (.cells #[.string b.name, .slice ab b.args.length cb] 25))
    clear hbA S4 K34 S34 B4
    generalize w4.heap.size = Q at *
    generalize w4.alloc (.cells #[.string b.name, .slice ab b.args.length cb] 25) = w5 at *
    refine (rowFrom_any y1 hy1 _).mono ?_
    rintro e w6 ⟨row, vr, rfl, _, hlv, hb6⟩
    obtain ⟨N, hN⟩ : ∃ N, N = w6.heap.size := ⟨_, rfl⟩
    have A6 : Hid (OmW N P Q a b aa ca ab cb vr row w w6) := by
      have h6 := hb6.size
      have h5 := B5.out.size
      have hp := K35.out.lt
      have hq := K5.out.lt
      exact ⟨K35.out.below hb6 K35.out.lt, K5.out.below hb6 K5.out.lt, (S35.out.later hb6).mono fun b _ h => by omega, (S5.out.later hb6).mono fun b _ h => by omega, hlv.mono fun b _ h => by omega, B5.out.trans (hb6.mono B5.out.size), by omega, by omega, by omega⟩
    have HN : Hid (N = w6.drew.heap.size) := hN
    clear hN
    clear hlv hb6 K35 K5 S35 S5 B5
    have A6d : Hid (OmW N P Q a b aa ca ab cb vr row w w6.drew) := A6.out.later (below_drewN (Below.refl _ _) 1)
    go_wp2_with fail
    refine wp_region_held_drew (S := OmW N P Q a b aa ca ab cb vr row w) (by kernel_rfl) A6d.out (fun hHeld => ?_)
    refine wpAnyH_take (i := 0) (v := ?_) rfl (by kernel_rfl) (by kernel_rfl) (by kernel_rfl) (fun _ _ _ h => h) (Or.inl ⟨by rfl, ?_⟩) (by assumption) ?_
    rotate_left
    · intro w' hSw
      go_simp <;> with_reducible rfl
    try simp only [Act.put, List.setIfInBounds_toArray, List.set_cons_zero, List.set_cons_succ, List.getElem_toArray, List.getElem_cons_succ, List.getElem_cons_zero]
    refine wpAnyH_take (i := 2) (v := ?_) rfl (by kernel_rfl) (by kernel_rfl) (by kernel_rfl) (fun _ _ _ h => h) (Or.inl ⟨by rfl, ?_⟩) (by assumption) ?_
    rotate_left
    · intro w' hSw
      have r0 : w'.cell? ⟨P, 0, none⟩ = some (.string a.name) := hSw.k1.cell 0
      have r1 : w'.cell? ⟨P, 1, none⟩ = some (.slice aa a.args.length ca) := hSw.k1.cell 1
      go_simp <;> with_reducible rfl
    try simp only [Act.put, List.setIfInBounds_toArray, List.set_cons_zero, List.set_cons_succ, List.getElem_toArray, List.getElem_cons_succ, List.getElem_cons_zero]
    clear A6
    generalize w6.drew = w7 at *
    refine wpAnyH_ready (rs := [1, 7]) (by kernel_rfl) (by simp) ?_
    refine AllReadyH.cons rfl (fun K hK => ?_) (AllReadyH.cons rfl (fun K hK => ?_) AllReadyH.nil)
    · go_simp
      go_at_call 20
      refine (bindsFrom_any 2 (by decide) (by decide) zs hr (by omega) 4 80 _ _ X (by exact HU.out.later A6d.out.bl) (by decide) (by decide)).mono ?_
      rintro e w8 ⟨vb, ls, rfl, hbv, _, _, hbw8⟩
      have A8 := hide (A6d.out.later hbw8)
      have BVh := hide hbv
      have HZ8 : Hid (w7.heap.size ≤ w8.heap.size) := hbw8.size
      clear hbv hbw8
      go_simp
      refine hK.out _ _ (by exact A8.out) (fun hHeld => ?_)
      clear hK K
      try simp only [Act.put, List.setIfInBounds_toArray, List.set_cons_zero, List.set_cons_succ, List.getElem_toArray, List.getElem_cons_succ, List.getElem_cons_zero]
      refine wpAnyH_ready (rs := [3, 7]) (by kernel_rfl) (by simp) ?_
      refine AllReadyH.cons rfl (fun K hK => ?_) (AllReadyH.cons rfl (fun K hK => ?_) AllReadyH.nil)
      · go_simp
        go_at_call 19
        refine (onSome_any (fun _ => True) ls a _ _ _ (by exact BVh.out.mono fun _ _ _ => trivial) ⟨_, _, rfl, A8.out.s1.mono fun _ _ _ => trivial⟩ hza).mono ?_
        rintro e w9 ⟨x, a6, c6, ok, rfl, hsx, hbw9⟩
        have A9 := hide (A8.out.later hbw9)
        have SX := hide hsx
        clear hsx hbw9
        go_simp
        refine hK.out _ _ (by exact A9.out) (fun hHeld => ?_)
        clear hK K
        try simp only [Act.put, List.setIfInBounds_toArray, List.set_cons_zero, List.set_cons_succ, List.getElem_toArray, List.getElem_cons_succ, List.getElem_cons_zero]
        refine wpAnyH_take (i := 4) (v := ?_) rfl (by kernel_rfl) (by kernel_rfl) (by kernel_rfl) (fun _ _ _ h => h) (Or.inl ⟨by rfl, ?_⟩) (by assumption) ?_
        rotate_left
        · intro w' hSw
          go_simp <;> with_reducible rfl
        try simp only [Act.put, List.setIfInBounds_toArray, List.set_cons_zero, List.set_cons_succ, List.getElem_toArray, List.getElem_cons_succ, List.getElem_cons_zero]
        refine wpAnyH_take (i := 5) (v := ?_) rfl (by kernel_rfl) (by kernel_rfl) (by kernel_rfl) (fun _ _ _ h => h) (Or.inl ⟨by rfl, ?_⟩) (by assumption) ?_
        rotate_left
        · intro w' hSw
          go_simp <;> with_reducible rfl
        try simp only [Act.put, List.setIfInBounds_toArray, List.set_cons_zero, List.set_cons_succ, List.getElem_toArray, List.getElem_cons_succ, List.getElem_cons_zero]
        refine wpAnyH_take (i := 6) (v := ?_) rfl (by kernel_rfl) (by kernel_rfl) (by kernel_rfl) (fun _ _ _ h => h) (Or.inl ⟨by rfl, ?_⟩) (by assumption) ?_
        rotate_left
        · intro w' hSw
          go_simp <;> with_reducible rfl
        try simp only [Act.put, List.setIfInBounds_toArray, List.set_cons_zero, List.set_cons_succ, List.getElem_toArray, List.getElem_cons_succ, List.getElem_cons_zero]
        refine wpAnyH_ready (rs := [7]) (by kernel_rfl) (by simp) ?_
        refine AllReadyH.cons rfl (fun K hK => ?_) AllReadyH.nil
        go_simp
        refine hK.out _ _ (by exact A9.out.later ((Below.refl _ _).alloc (Nat.le_refl _) _)) (fun hHeld => ?_)
        clear hK K
        try simp only [Act.put, List.setIfInBounds_toArray, List.set_cons_zero, List.set_cons_succ, List.getElem_toArray, List.getElem_cons_succ, List.getElem_cons_zero]
        have AZ0 : Hid (OmW N P Q a b aa ca ab cb vr row w (w9.alloc (.cells #[.string x.name, .slice a6 x.args.length c6] 25))) := A9.out.later ((Below.refl _ _).alloc (Nat.le_refl _) _)
        have XZ0 : Hid (OmX w9.heap.size x a6 c6 (w9.alloc (.cells #[.string x.name, .slice a6 x.args.length c6] 25))) := ⟨Blk.new w9 _ _, (SX.out.mono fun _ _ _ => trivial).later ((Below.refl _ _).alloc (Nat.le_refl _) _)⟩
        refine wpAnyH_ready (rs := [8]) (by kernel_rfl) (by simp) ?_
        refine AllReadyH.cons rfl (fun K hK => ?_) AllReadyH.nil
        go_simp
        refine hK.out _ _ (by exact AZ0.out) (fun hHeld => ?_)
        clear hK K
        try simp only [Act.put, List.setIfInBounds_toArray, List.set_cons_zero, List.set_cons_succ, List.getElem_toArray, List.getElem_cons_succ, List.getElem_cons_zero]
        refine wpAnyH_take (i := 9) (v := ?_) rfl (by kernel_rfl) (by kernel_rfl) (by kernel_rfl) (fun _ _ _ h => h) (Or.inl ⟨by rfl, ?_⟩) (by assumption) ?_
        rotate_left
        · intro w' hSw
          go_simp <;> with_reducible rfl
        try simp only [Act.put, List.setIfInBounds_toArray, List.set_cons_zero, List.set_cons_succ, List.getElem_toArray, List.getElem_cons_succ, List.getElem_cons_zero]
        generalize (w9.alloc (.cells #[.string x.name, .slice a6 x.args.length c6] 25)) = wZ at *
        obtain ⟨R, hR⟩ : ∃ R, R = w9.heap.size := ⟨_, rfl⟩
        rw [← hR] at XZ0 ⊢
        clear hR
        have AZ := hide AZ0.out
        have XZ := hide XZ0.out
        clear AZ0 XZ0
        refine wpAnyH_done (by kernel_rfl) ?_ _
        have r0 : wZ.cell? ⟨P, 0, none⟩ = some (.string a.name) := AZ.out.k1.cell 0
        have r1 : wZ.cell? ⟨P, 1, none⟩ = some (.slice aa a.args.length ca) := AZ.out.k1.cell 1
        have s0 : wZ.cell? ⟨Q, 0, none⟩ = some (.string b.name) := AZ.out.k2.cell 0
        have s1 : wZ.cell? ⟨Q, 1, none⟩ = some (.slice ab b.args.length cb) := AZ.out.k2.cell 1
        go_wp2_with fail
        refine (orderSays_any row a b _ _ _ _ (fun _ => True) (by exact AZ.out.rw.mono fun _ _ _ => trivial) ⟨_, _, rfl, AZ.out.s1.mono fun _ _ _ => trivial⟩ ⟨_, _, rfl, AZ.out.s2.mono fun _ _ _ => trivial⟩).mono ?_
        rintro e wA ⟨rfl, hbA⟩
        have AA := hide (AZ.out.later hbA)
        have XA := hide (XZ.out.later hbA)
        clear hbA AZ XZ r0 r1 s0 s1
        have r0 : wA.cell? ⟨P, 0, none⟩ = some (.string a.name) := AA.out.k1.cell 0
        have r1 : wA.cell? ⟨P, 1, none⟩ = some (.slice aa a.args.length ca) := AA.out.k1.cell 1
        have s0 : wA.cell? ⟨Q, 0, none⟩ = some (.string b.name) := AA.out.k2.cell 0
        have s1 : wA.cell? ⟨Q, 1, none⟩ = some (.slice ab b.args.length cb) := AA.out.k2.cell 1
        go_wp2_with fail
        refine (orderSays_any row b a _ _ _ _ (fun _ => True) (by exact AA.out.rw.mono fun _ _ _ => trivial) ⟨_, _, rfl, AA.out.s2.mono fun _ _ _ => trivial⟩ ⟨_, _, rfl, AA.out.s1.mono fun _ _ _ => trivial⟩).mono ?_
        rintro e wB ⟨rfl, hbB⟩
        have AB := hide (AA.out.later hbB)
        have XB := hide (XA.out.later hbB)
        clear hbB AA XA r0 r1 s0 s1
        have r0 : wB.cell? ⟨P, 0, none⟩ = some (.string a.name) := AB.out.k1.cell 0
        have r1 : wB.cell? ⟨P, 1, none⟩ = some (.slice aa a.args.length ca) := AB.out.k1.cell 1
        have s0 : wB.cell? ⟨R, 0, none⟩ = some (.string x.name) := XB.out.1.cell 0
        have s1 : wB.cell? ⟨R, 1, none⟩ = some (.slice a6 x.args.length c6) := XB.out.1.cell 1
        cases ok with
        | false =>
          go_wp2_with fail
          go_ret
          exact ⟨rfl, AB.out.bl⟩
        | true =>
          go_wp2_with fail
          refine (orderSays_any row a x _ _ _ _ (fun _ => True) (by exact AB.out.rw.mono fun _ _ _ => trivial) ⟨_, _, rfl, AB.out.s1.mono fun _ _ _ => trivial⟩ ⟨_, _, rfl, XB.out.2⟩).mono ?_
          rintro e wC ⟨rfl, hbC⟩
          have BC := hide (AB.out.later hbC).bl
          clear hbC
          go_wp2_with fail
          go_ret
          exact ⟨rfl, BC.out⟩
      · go_simp
        refine hK.out _ _ (by exact A8.out.later ((Below.refl _ _).alloc (Nat.le_refl _) _)) (fun hHeld => ?_)
        clear hK K
        try simp only [Act.put, List.setIfInBounds_toArray, List.set_cons_zero, List.set_cons_succ, List.getElem_toArray, List.getElem_cons_succ, List.getElem_cons_zero]
        have A8a := hide (A8.out.later ((Below.refl w8.heap.size w8).alloc (Nat.le_refl _) (.cells #[.string ⟨#[]⟩, .slice none 0 0] 25)))
        have QA := hide (Blk.new w8 #[.string ⟨#[]⟩, .slice none 0 0] 25)
        refine wpAnyH_ready (rs := [3]) (by kernel_rfl) (by simp) ?_
        refine AllReadyH.cons rfl (fun K hK => ?_) AllReadyH.nil
        go_simp
        go_at_call 19
        refine (onSome_any (fun b => b ≠ w8.heap.size) ls a _ _ _ (by exact (BVh.out.mono fun b _ h => by omega).alloc _) ⟨_, _, rfl, (A8.out.s1.mono (Y := fun b => b ≠ w8.heap.size) fun b _ h => by omega).later ((Below.refl _ _).alloc (Nat.le_refl _) _)⟩ hza).mono ?_
        rintro e w9 ⟨x, a6, c6, ok, rfl, hsx, hbw9⟩
        have A9 := hide (A8a.out.later hbw9)
        have SX := hide hsx
        have QB := hide (QA.out.below hbw9 QA.out.lt)
        clear hsx hbw9
        go_simp
        refine hK.out _ _ (by exact A9.out) (fun hHeld => ?_)
        clear hK K
        try simp only [Act.put, List.setIfInBounds_toArray, List.set_cons_zero, List.set_cons_succ, List.getElem_toArray, List.getElem_cons_succ, List.getElem_cons_zero]
        refine wpAnyH_take (i := 4) (v := ?_) rfl (by kernel_rfl) (by kernel_rfl) (by kernel_rfl) (fun _ _ _ h => h) (Or.inl ⟨by rfl, ?_⟩) (by assumption) ?_
        rotate_left
        · intro w' hSw
          go_simp <;> with_reducible rfl
        try simp only [Act.put, List.setIfInBounds_toArray, List.set_cons_zero, List.set_cons_succ, List.getElem_toArray, List.getElem_cons_succ, List.getElem_cons_zero]
        refine wpAnyH_take (i := 5) (v := ?_) rfl (by kernel_rfl) (by kernel_rfl) (by kernel_rfl) (fun _ _ _ h => h) (Or.inl ⟨by rfl, ?_⟩) (by assumption) ?_
        rotate_left
        · intro w' hSw
          go_simp <;> with_reducible rfl
        try simp only [Act.put, List.setIfInBounds_toArray, List.set_cons_zero, List.set_cons_succ, List.getElem_toArray, List.getElem_cons_succ, List.getElem_cons_zero]
        refine wpAnyH_take (i := 6) (v := ?_) rfl (by kernel_rfl) (by kernel_rfl) (by kernel_rfl) (fun _ _ _ h => h) (Or.inl ⟨by rfl, ?_⟩) (by assumption) ?_
        rotate_left
        · intro w' hSw
          go_simp <;> with_reducible rfl
        try simp only [Act.put, List.setIfInBounds_toArray, List.set_cons_zero, List.set_cons_succ, List.getElem_toArray, List.getElem_cons_succ, List.getElem_cons_zero]
        have HPQ : Hid (N ≤ w8.heap.size) := by have := HN.out; have := HZ8.out; unfold Hid; omega
        have z0 : w9.cell? ⟨w8.heap.size, 0, none⟩ = some (.string ⟨#[]⟩) := QB.out.cell 0
        have z1 : w9.cell? ⟨w8.heap.size, 1, none⟩ = some (.slice none 0 0) := QB.out.cell 1
        have zf := QB.out.frozen
        have AZ0 : Hid (OmW N P Q a b aa ca ab cb vr row w ((w9.setCell ⟨w8.heap.size, 0, none⟩ (.string x.name)).setCell ⟨w8.heap.size, 1, none⟩ (.slice a6 x.args.length c6))) := (A9.out.set HPQ.out 0 _).set HPQ.out 1 _
        have XZ0 : Hid (OmX w8.heap.size x a6 c6 ((w9.setCell ⟨w8.heap.size, 0, none⟩ (.string x.name)).setCell ⟨w8.heap.size, 1, none⟩ (.slice a6 x.args.length c6))) := omx_set QB.out (SX.out.mono fun b hb _ => hb.elim id (fun h => by first | (simp at h; omega) | (have := QA8.out.lt; omega)))
        refine wpAnyH_ready (rs := [8]) (by kernel_rfl) (by simp) ?_
        refine AllReadyH.cons rfl (fun K hK => ?_) AllReadyH.nil
        go_simp
        refine hK.out _ _ (by exact AZ0.out) (fun hHeld => ?_)
        clear hK K
        try simp only [Act.put, List.setIfInBounds_toArray, List.set_cons_zero, List.set_cons_succ, List.getElem_toArray, List.getElem_cons_succ, List.getElem_cons_zero]
        refine wpAnyH_take (i := 9) (v := ?_) rfl (by kernel_rfl) (by kernel_rfl) (by kernel_rfl) (fun _ _ _ h => h) (Or.inl ⟨by rfl, ?_⟩) (by assumption) ?_
        rotate_left
        · intro w' hSw
          go_simp <;> with_reducible rfl
        try simp only [Act.put, List.setIfInBounds_toArray, List.set_cons_zero, List.set_cons_succ, List.getElem_toArray, List.getElem_cons_succ, List.getElem_cons_zero]
        generalize ((w9.setCell ⟨w8.heap.size, 0, none⟩ (.string x.name)).setCell ⟨w8.heap.size, 1, none⟩ (.slice a6 x.args.length c6)) = wZ at *
        obtain ⟨R, hR⟩ : ∃ R, R = w8.heap.size := ⟨_, rfl⟩
        rw [← hR] at XZ0 ⊢
        clear hR
        have AZ := hide AZ0.out
        have XZ := hide XZ0.out
        clear AZ0 XZ0
        refine wpAnyH_done (by kernel_rfl) ?_ _
        have r0 : wZ.cell? ⟨P, 0, none⟩ = some (.string a.name) := AZ.out.k1.cell 0
        have r1 : wZ.cell? ⟨P, 1, none⟩ = some (.slice aa a.args.length ca) := AZ.out.k1.cell 1
        have s0 : wZ.cell? ⟨Q, 0, none⟩ = some (.string b.name) := AZ.out.k2.cell 0
        have s1 : wZ.cell? ⟨Q, 1, none⟩ = some (.slice ab b.args.length cb) := AZ.out.k2.cell 1
        go_wp2_with fail
        refine (orderSays_any row a b _ _ _ _ (fun _ => True) (by exact AZ.out.rw.mono fun _ _ _ => trivial) ⟨_, _, rfl, AZ.out.s1.mono fun _ _ _ => trivial⟩ ⟨_, _, rfl, AZ.out.s2.mono fun _ _ _ => trivial⟩).mono ?_
        rintro e wA ⟨rfl, hbA⟩
        have AA := hide (AZ.out.later hbA)
        have XA := hide (XZ.out.later hbA)
        clear hbA AZ XZ r0 r1 s0 s1
        have r0 : wA.cell? ⟨P, 0, none⟩ = some (.string a.name) := AA.out.k1.cell 0
        have r1 : wA.cell? ⟨P, 1, none⟩ = some (.slice aa a.args.length ca) := AA.out.k1.cell 1
        have s0 : wA.cell? ⟨Q, 0, none⟩ = some (.string b.name) := AA.out.k2.cell 0
        have s1 : wA.cell? ⟨Q, 1, none⟩ = some (.slice ab b.args.length cb) := AA.out.k2.cell 1
        go_wp2_with fail
        refine (orderSays_any row b a _ _ _ _ (fun _ => True) (by exact AA.out.rw.mono fun _ _ _ => trivial) ⟨_, _, rfl, AA.out.s2.mono fun _ _ _ => trivial⟩ ⟨_, _, rfl, AA.out.s1.mono fun _ _ _ => trivial⟩).mono ?_
        rintro e wB ⟨rfl, hbB⟩
        have AB := hide (AA.out.later hbB)
        have XB := hide (XA.out.later hbB)
        clear hbB AA XA r0 r1 s0 s1
        have r0 : wB.cell? ⟨P, 0, none⟩ = some (.string a.name) := AB.out.k1.cell 0
        have r1 : wB.cell? ⟨P, 1, none⟩ = some (.slice aa a.args.length ca) := AB.out.k1.cell 1
        have s0 : wB.cell? ⟨R, 0, none⟩ = some (.string x.name) := XB.out.1.cell 0
        have s1 : wB.cell? ⟨R, 1, none⟩ = some (.slice a6 x.args.length c6) := XB.out.1.cell 1
        cases ok with
        | false =>
          go_wp2_with fail
          go_ret
          exact ⟨rfl, AB.out.bl⟩
        | true =>
          go_wp2_with fail
          refine (orderSays_any row a x _ _ _ _ (fun _ => True) (by exact AB.out.rw.mono fun _ _ _ => trivial) ⟨_, _, rfl, AB.out.s1.mono fun _ _ _ => trivial⟩ ⟨_, _, rfl, XB.out.2⟩).mono ?_
          rintro e wC ⟨rfl, hbC⟩
          have BC := hide (AB.out.later hbC).bl
          clear hbC
          go_wp2_with fail
          go_ret
          exact ⟨rfl, BC.out⟩
    · go_simp
      refine hK.out _ _ (by exact A6d.out.later ((Below.refl _ _).alloc (Nat.le_refl _) _)) (fun hHeld => ?_)
      clear hK K
      try simp only [Act.put, List.setIfInBounds_toArray, List.set_cons_zero, List.set_cons_succ, List.getElem_toArray, List.getElem_cons_succ, List.getElem_cons_zero]
      have A7a := hide (A6d.out.later ((Below.refl w7.heap.size w7).alloc (Nat.le_refl _) (.cells #[.string ⟨#[]⟩, .slice none 0 0] 25)))
      have QA := hide (Blk.new w7 #[.string ⟨#[]⟩, .slice none 0 0] 25)
      refine wpAnyH_ready (rs := [1]) (by kernel_rfl) (by simp) ?_
      refine AllReadyH.cons rfl (fun K hK => ?_) AllReadyH.nil
      go_simp
      go_at_call 20
      refine (bindsFrom_any 2 (by decide) (by decide) zs hr (by omega) 4 80 _ _ X (by exact HU.out.later A7a.out.bl) (by decide) (by decide)).mono ?_
      rintro e w8 ⟨vb, ls, rfl, hbv, _, _, hbw8⟩
      have A8 := hide (A7a.out.later hbw8)
      have BVh := hide hbv
      have S8 := hide (((A6d.out.s1.mono (Y := fun b => b ≠ w7.heap.size) fun b _ h => by omega).later ((Below.refl _ _).alloc (Nat.le_refl _) _)).later hbw8)
      have QA8 := hide (QA.out.below hbw8 QA.out.lt)
      clear hbv hbw8
      go_simp
      refine hK.out _ _ (by exact A8.out) (fun hHeld => ?_)
      clear hK K
      try simp only [Act.put, List.setIfInBounds_toArray, List.set_cons_zero, List.set_cons_succ, List.getElem_toArray, List.getElem_cons_succ, List.getElem_cons_zero]
      refine wpAnyH_ready (rs := [3]) (by kernel_rfl) (by simp) ?_
      refine AllReadyH.cons rfl (fun K hK => ?_) AllReadyH.nil
      go_simp
      go_at_call 19
      refine (onSome_any (fun b => b ≠ w7.heap.size) ls a _ _ _ (by exact BVh.out.mono fun b h _ => by simp at h; omega) ⟨_, _, rfl, S8.out⟩ hza).mono ?_
      rintro e w9 ⟨x, a6, c6, ok, rfl, hsx, hbw9⟩
      have A9 := hide (A8.out.later hbw9)
      have SX := hide hsx
      have QB := hide (QA8.out.below hbw9 QA8.out.lt)
      clear hsx hbw9
      go_simp
      refine hK.out _ _ (by exact A9.out) (fun hHeld => ?_)
      clear hK K
      try simp only [Act.put, List.setIfInBounds_toArray, List.set_cons_zero, List.set_cons_succ, List.getElem_toArray, List.getElem_cons_succ, List.getElem_cons_zero]
      refine wpAnyH_take (i := 4) (v := ?_) rfl (by kernel_rfl) (by kernel_rfl) (by kernel_rfl) (fun _ _ _ h => h) (Or.inl ⟨by rfl, ?_⟩) (by assumption) ?_
      rotate_left
      · intro w' hSw
        go_simp <;> with_reducible rfl
      try simp only [Act.put, List.setIfInBounds_toArray, List.set_cons_zero, List.set_cons_succ, List.getElem_toArray, List.getElem_cons_succ, List.getElem_cons_zero]
      refine wpAnyH_take (i := 5) (v := ?_) rfl (by kernel_rfl) (by kernel_rfl) (by kernel_rfl) (fun _ _ _ h => h) (Or.inl ⟨by rfl, ?_⟩) (by assumption) ?_
      rotate_left
      · intro w' hSw
        go_simp <;> with_reducible rfl
      try simp only [Act.put, List.setIfInBounds_toArray, List.set_cons_zero, List.set_cons_succ, List.getElem_toArray, List.getElem_cons_succ, List.getElem_cons_zero]
      refine wpAnyH_take (i := 6) (v := ?_) rfl (by kernel_rfl) (by kernel_rfl) (by kernel_rfl) (fun _ _ _ h => h) (Or.inl ⟨by rfl, ?_⟩) (by assumption) ?_
      rotate_left
      · intro w' hSw
        go_simp <;> with_reducible rfl
      try simp only [Act.put, List.setIfInBounds_toArray, List.set_cons_zero, List.set_cons_succ, List.getElem_toArray, List.getElem_cons_succ, List.getElem_cons_zero]
      have HPQ : Hid (N ≤ w7.heap.size) := by have := HN.out; unfold Hid; omega
      have z0 : w9.cell? ⟨w7.heap.size, 0, none⟩ = some (.string ⟨#[]⟩) := QB.out.cell 0
      have z1 : w9.cell? ⟨w7.heap.size, 1, none⟩ = some (.slice none 0 0) := QB.out.cell 1
      have zf := QB.out.frozen
      have AZ0 : Hid (OmW N P Q a b aa ca ab cb vr row w ((w9.setCell ⟨w7.heap.size, 0, none⟩ (.string x.name)).setCell ⟨w7.heap.size, 1, none⟩ (.slice a6 x.args.length c6))) := (A9.out.set HPQ.out 0 _).set HPQ.out 1 _
      have XZ0 : Hid (OmX w7.heap.size x a6 c6 ((w9.setCell ⟨w7.heap.size, 0, none⟩ (.string x.name)).setCell ⟨w7.heap.size, 1, none⟩ (.slice a6 x.args.length c6))) := omx_set QB.out (SX.out.mono fun b hb _ => hb.elim id (fun h => by first | (simp at h; omega) | (have := QA8.out.lt; omega)))
      refine wpAnyH_ready (rs := [8]) (by kernel_rfl) (by simp) ?_
      refine AllReadyH.cons rfl (fun K hK => ?_) AllReadyH.nil
      go_simp
      refine hK.out _ _ (by exact AZ0.out) (fun hHeld => ?_)
      clear hK K
      try simp only [Act.put, List.setIfInBounds_toArray, List.set_cons_zero, List.set_cons_succ, List.getElem_toArray, List.getElem_cons_succ, List.getElem_cons_zero]
      refine wpAnyH_take (i := 9) (v := ?_) rfl (by kernel_rfl) (by kernel_rfl) (by kernel_rfl) (fun _ _ _ h => h) (Or.inl ⟨by rfl, ?_⟩) (by assumption) ?_
      rotate_left
      · intro w' hSw
        go_simp <;> with_reducible rfl
      try simp only [Act.put, List.setIfInBounds_toArray, List.set_cons_zero, List.set_cons_succ, List.getElem_toArray, List.getElem_cons_succ, List.getElem_cons_zero]
      generalize ((w9.setCell ⟨w7.heap.size, 0, none⟩ (.string x.name)).setCell ⟨w7.heap.size, 1, none⟩ (.slice a6 x.args.length c6)) = wZ at *
      obtain ⟨R, hR⟩ : ∃ R, R = w7.heap.size := ⟨_, rfl⟩
      rw [← hR] at XZ0 ⊢
      clear hR
      have AZ := hide AZ0.out
      have XZ := hide XZ0.out
      clear AZ0 XZ0
      refine wpAnyH_done (by kernel_rfl) ?_ _
      have r0 : wZ.cell? ⟨P, 0, none⟩ = some (.string a.name) := AZ.out.k1.cell 0
      have r1 : wZ.cell? ⟨P, 1, none⟩ = some (.slice aa a.args.length ca) := AZ.out.k1.cell 1
      have s0 : wZ.cell? ⟨Q, 0, none⟩ = some (.string b.name) := AZ.out.k2.cell 0
      have s1 : wZ.cell? ⟨Q, 1, none⟩ = some (.slice ab b.args.length cb) := AZ.out.k2.cell 1
      go_wp2_with fail
      refine (orderSays_any row a b _ _ _ _ (fun _ => True) (by exact AZ.out.rw.mono fun _ _ _ => trivial) ⟨_, _, rfl, AZ.out.s1.mono fun _ _ _ => trivial⟩ ⟨_, _, rfl, AZ.out.s2.mono fun _ _ _ => trivial⟩).mono ?_
      rintro e wA ⟨rfl, hbA⟩
      have AA := hide (AZ.out.later hbA)
      have XA := hide (XZ.out.later hbA)
      clear hbA AZ XZ r0 r1 s0 s1
      have r0 : wA.cell? ⟨P, 0, none⟩ = some (.string a.name) := AA.out.k1.cell 0
      have r1 : wA.cell? ⟨P, 1, none⟩ = some (.slice aa a.args.length ca) := AA.out.k1.cell 1
      have s0 : wA.cell? ⟨Q, 0, none⟩ = some (.string b.name) := AA.out.k2.cell 0
      have s1 : wA.cell? ⟨Q, 1, none⟩ = some (.slice ab b.args.length cb) := AA.out.k2.cell 1
      go_wp2_with fail
      refine (orderSays_any row b a _ _ _ _ (fun _ => True) (by exact AA.out.rw.mono fun _ _ _ => trivial) ⟨_, _, rfl, AA.out.s2.mono fun _ _ _ => trivial⟩ ⟨_, _, rfl, AA.out.s1.mono fun _ _ _ => trivial⟩).mono ?_
      rintro e wB ⟨rfl, hbB⟩
      have AB := hide (AA.out.later hbB)
      have XB := hide (XA.out.later hbB)
      clear hbB AA XA r0 r1 s0 s1
      have r0 : wB.cell? ⟨P, 0, none⟩ = some (.string a.name) := AB.out.k1.cell 0
      have r1 : wB.cell? ⟨P, 1, none⟩ = some (.slice aa a.args.length ca) := AB.out.k1.cell 1
      have s0 : wB.cell? ⟨R, 0, none⟩ = some (.string x.name) := XB.out.1.cell 0
      have s1 : wB.cell? ⟨R, 1, none⟩ = some (.slice a6 x.args.length c6) := XB.out.1.cell 1
      cases ok with
      | false =>
        go_wp2_with fail
        go_ret
        exact ⟨rfl, AB.out.bl⟩
      | true =>
        go_wp2_with fail
        refine (orderSays_any row a x _ _ _ _ (fun _ => True) (by exact AB.out.rw.mono fun _ _ _ => trivial) ⟨_, _, rfl, AB.out.s1.mono fun _ _ _ => trivial⟩ ⟨_, _, rfl, XB.out.2⟩).mono ?_
        rintro e wC ⟨rfl, hbC⟩
        have BC := hide (AB.out.later hbC).bl
        clear hbC
        go_wp2_with fail
        go_ret
        exact ⟨rfl, BC.out⟩
#print axioms orderMade_any
end Go.Proofs.Ytpbnbkeoiojpaac

/- Terms and lists of numbers as they are read before the call. -/
namespace Go.Proofs.Ytpbnbkeoiojpaac
open Go.ChangeShapes Go.WideShapes Go.ChangeAt Go.RowKit
set_option linter.unusedSimpArgs false
set_option linter.unusedVariables false
set_option maxRecDepth 8000

theorem Try.cellsTerm : Try.prog.cellsOf 25 = 2 := by kernel_rfl
theorem Try.cellsStr : Try.prog.cellsOf 9 = 1 := by kernel_rfl
theorem Try.cellsSl : Try.prog.cellsOf 23 = 1 := by kernel_rfl
theorem Try.cellsInt : Try.prog.cellsOf 3 = 1 := by kernel_rfl

theorem cells2 {w : World} {a : Addr} {cs : List Value} (h : w.cells? 0 a 2 = some cs) : ∃ c0 c1, cs = [c0, c1] ∧ w.cell? a = some c0 ∧ w.cell? (a.add 1) = some c1 := by
  have e : (List.range 2) = [0, 1] := rfl
  simp only [World.cells?, Nat.zero_le, if_true, e] at h
  simp only [List.mapM_cons, List.mapM_nil, Option.bind_eq_bind, Option.bind_eq_some_iff, Option.pure_def] at h
  obtain ⟨c0, h0, r, ⟨c1, h1, r2, h2, h3⟩, h4⟩ := h
  simp only [Option.some.injEq] at h2 h3 h4
  subst h2; subst h3; subst h4
  exact ⟨c0, c1, rfl, by simpa [Addr.add] using h0, h1⟩

theorem cells1 {w : World} {a : Addr} {cs : List Value} (h : w.cells? 0 a 1 = some cs) : ∃ c0, cs = [c0] ∧ w.cell? a = some c0 := by
  have e : (List.range 1) = [0] := rfl
  simp only [World.cells?, Nat.zero_le, if_true, e] at h
  simp only [List.mapM_cons, List.mapM_nil, Option.bind_eq_bind, Option.bind_eq_some_iff, Option.pure_def] at h
  obtain ⟨c0, h0, r, h1, h2⟩ := h
  simp only [Option.some.injEq] at h1 h2
  subst h1; subst h2
  exact ⟨c0, rfl, by simpa [Addr.add] using h0⟩

theorem open_term {H : Type} {enc : TypeId × Value → H} {w : World} {sp : Nat → Bool} {held : Bool} : ∀ (fuel : Nat) (cs : List Value) (x : DataW H × List MemPlace), DataW.trod enc Try.prog w 0 sp held fuel 25 cs = some x →
    ∃ (t : Tm) (a : Option Addr) (c : Nat), cs = [.string t.name, .slice a t.args.length c] ∧ Sl w (fun _ => True) a t.args := by
  intro fuel
  induction fuel using Nat.strongRecOn with
  | ind fuel ih =>
    intro cs x h
    obtain ⟨xs, n, hfu, hx, hl, hxl, hf⟩ := DataW.trod_struct Try.underlying25 h
    have f0 := hf 0 _ rfl
    have f1 := hf 1 _ rfl
    rw [Try.cellsTerm] at hl
    match cs, hl with
    | [c0, c1], _ =>
      match xs, hxl with
      | [y0, y1], _ =>
        simp [Try.cellsStr, Try.cellsSl] at f0 f1
        obtain ⟨s, e0, _, hs⟩ := DataW.trod_string Try.underlying9 f0
        simp at e0
        subst e0
        rcases DataW.trod_slice Try.underlying23 f1 with ⟨e1, _⟩ | ⟨a, len, cap, elems, rest, n2, hn2, e1, _, hb, hlc, hcm, hel, helem, _⟩
        · simp at e1
          subst e1
          exact ⟨⟨s, []⟩, none, 0, rfl, by simp, Or.inl rfl⟩
        · simp at e1
          subst e1
          unfold maxLen at hcm
          rw [Try.cellsTerm] at helem
          have key : ∀ i, ∃ t : Tm, i < len → ∃ a' c', w.cell? (a.add (i * 2)) = some (.string t.name) ∧ w.cell? ((a.add (i * 2)).add 1) = some (.slice a' t.args.length c') ∧ Sl w (fun _ => True) a' t.args := by
            intro i
            by_cases hi : i < len
            · have h1 := helem i hi
              have hie : i < elems.length := by omega
              rw [List.getElem?_eq_getElem hie, Option.bind_eq_some_iff] at h1
              obtain ⟨cs', h2, h3⟩ := h1
              obtain ⟨d0, d1, rfl, g0, g1⟩ := cells2 h2
              obtain ⟨t, a', c', e3, hsl⟩ := ih n2 (by omega) _ _ h3
              simp at e3
              obtain ⟨rfl, rfl⟩ := e3
              exact ⟨t, fun _ => ⟨a', c', g0, g1, hsl⟩⟩
            · exact ⟨⟨s, []⟩, fun h => absurd h hi⟩
          obtain ⟨T, hT⟩ := Classical.skolem.1 key
          refine ⟨⟨s, (List.range len).map T⟩, some a, cap, by simp, by simp; omega, ?_⟩
          by_cases h0 : len = 0
          · subst h0; exact Or.inl rfl
          · right
            obtain ⟨b, o, sp⟩ := a
            obtain ⟨a0, c0, g0, _, _⟩ := hT 0 (by omega)
            have hsp : sp = none := by simpa [Addr.add] using World.cell?_spot g0
            subst hsp
            refine ⟨b, o, rfl, lies_mk _ _ _ fun i hi => ?_⟩
            simp at hi
            obtain ⟨a', c', g0, g1, hsl⟩ := hT i hi
            refine ⟨trivial, ?_, a', c', ?_, ?_⟩
            · simp only [List.getElem_map, List.getElem_range]
              by_cases h00 : i = 0
              · subst h00; simpa [Addr.add] using g0
              · have : i * 2 ≠ 0 := by omega
                simpa [Addr.add, this] using g0
            · simp only [List.getElem_map, List.getElem_range]
              by_cases h00 : i = 0
              · subst h00; simpa [Addr.add] using g1
              · have : i * 2 ≠ 0 := by omega
                simpa [Addr.add, this] using g1
            · simpa using hsl

theorem open_tv {H : Type} {enc : TypeId × Value → H} {w : World} {sp : Nat → Bool} {held : Bool} {r : Reach} {b0 : Nat} {v : Value} {d : DataW H} {p : List MemPlace} (hv : Value.okWide Try.prog w r b0 25 v) (h : DataW.Trod enc Try.prog w 0 sp held 25 v d p) : ∃ t, TV w (fun _ => True) v t := by
  obtain ⟨cs, rfl, hsz⟩ := okWide_struct Try.underlying25 hv
  obtain ⟨fuel, hf⟩ := h
  obtain ⟨t, a, c, e, hs⟩ := open_term fuel _ _ hf
  refine ⟨t, a, c, ?_, hs⟩
  simp [Value.cells] at e
  congr 1
  apply Array.ext'
  simpa using e

theorem open_pv {H : Type} {enc : TypeId × Value → H} {w : World} {sp : Nat → Bool} {held : Bool} {r : Reach} {b0 : Nat} {v : Value} {d : DataW H} {p : List MemPlace} (hv : Value.okWide Try.prog w r b0 34 v) (h : DataW.Trod enc Try.prog w 0 sp held 34 v d p) : ∃ zs, PV w (fun _ => True) v zs := by
  obtain ⟨a0, len0, cap0, rfl⟩ := okWide_slice Try.underlying34 hv
  obtain ⟨fuel, hf⟩ := h
  rcases DataW.trod_slice Try.underlying34 hf with ⟨e1, _⟩ | ⟨a, len, cap, elems, rest, n2, hn2, e1, _, hb, hlc, hcm, hel, helem, _⟩
  · simp [Value.cells] at e1
    obtain ⟨rfl, rfl, rfl⟩ := e1
    exact ⟨[], none, 0, rfl, by simp, Or.inl rfl⟩
  · simp [Value.cells] at e1
    obtain ⟨rfl, rfl, rfl⟩ := e1
    unfold maxLen at hcm
    rw [Try.cellsInt] at helem
    have key : ∀ i, ∃ z : Int, i < len0 → w.cell? (a.add i) = some (.int .i64 z) := by
      intro i
      by_cases hi : i < len0
      · have h1 := helem i hi
        have hie : i < elems.length := by omega
        rw [List.getElem?_eq_getElem hie, Option.bind_eq_some_iff, Nat.mul_one] at h1
        obtain ⟨cs', h2, h3⟩ := h1
        obtain ⟨d0, rfl, g0⟩ := cells1 h2
        obtain ⟨z, e3, _⟩ := DataW.trod_int Try.underlying3 h3
        simp at e3
        subst e3
        exact ⟨z, fun _ => g0⟩
      · exact ⟨0, fun h => absurd h hi⟩
    obtain ⟨Z, hZ⟩ := Classical.skolem.1 key
    refine ⟨(List.range len0).map Z, some a, cap0, by simp, by simp; omega, ?_⟩
    by_cases h0 : len0 = 0
    · subst h0; exact Or.inl rfl
    · right
      obtain ⟨b, o, sp⟩ := a
      have g0 := hZ 0 (by omega)
      have hsp : sp = none := by simpa [Addr.add] using World.cell?_spot g0
      subst hsp
      refine ⟨b, o, rfl, trivial, fun i hi => ?_⟩
      simp at hi
      have g1 := hZ i hi
      simp only [List.getElem_map, List.getElem_range]
      by_cases h00 : i = 0
      · subst h00; simpa [Addr.add] using g1
      · simpa [Addr.add, h00] using g1
#print axioms open_tv
#print axioms open_pv
end Go.Proofs.Ytpbnbkeoiojpaac

/- Lists of numbers as they are read before the call, with their bounds. -/
namespace Go.Proofs.Ytpbnbkeoiojpaac
open Go.ChangeShapes Go.WideShapes Go.ChangeAt Go.RowKit
set_option linter.unusedSimpArgs false
set_option linter.unusedVariables false
set_option maxRecDepth 8000

theorem rng_wf {n : Int} (h : (Lit.int .i64 n).wf = true) : Rng n := by
  have h1 : IntKind.i64.min = -9223372036854775808 := by decide
  have h2 : IntKind.i64.max = 9223372036854775807 := by decide
  simp only [Lit.wf, h1, h2, Bool.and_eq_true, decide_eq_true_eq] at h
  exact h

theorem open_int {H : Type} {enc : TypeId × Value → H} {w : World} {sp : Nat → Bool} {held : Bool} {r : Reach} {b0 : Nat} {v : Value} {d : DataW H} {p : List MemPlace} (hv : Value.okWide Try.prog w r b0 3 v) (h : DataW.Trod enc Try.prog w 0 sp held 3 v d p) : ∃ z, v = .int .i64 z ∧ Rng z := by
  obtain ⟨z, rfl⟩ := okWide_int Try.underlying3 hv
  obtain ⟨fuel, hf⟩ := h
  obtain ⟨z', e3, _, hwf⟩ := DataW.trod_int Try.underlying3 hf
  simp [Value.cells] at e3
  subst e3
  exact ⟨_, rfl, rng_wf hwf⟩

theorem open_pvr {H : Type} {enc : TypeId × Value → H} {w : World} {sp : Nat → Bool} {held : Bool} {r : Reach} {b0 : Nat} {v : Value} {d : DataW H} {p : List MemPlace} (hv : Value.okWide Try.prog w r b0 34 v) (h : DataW.Trod enc Try.prog w 0 sp held 34 v d p) : ∃ zs, PV w (fun _ => True) v zs ∧ ∀ z ∈ zs, Rng z := by
  obtain ⟨a0, len0, cap0, rfl⟩ := okWide_slice Try.underlying34 hv
  obtain ⟨fuel, hf⟩ := h
  rcases DataW.trod_slice Try.underlying34 hf with ⟨e1, _⟩ | ⟨a, len, cap, elems, rest, n2, hn2, e1, _, hb, hlc, hcm, hel, helem, _⟩
  · simp [Value.cells] at e1
    obtain ⟨rfl, rfl, rfl⟩ := e1
    exact ⟨[], ⟨none, 0, rfl, by simp, Or.inl rfl⟩, by simp⟩
  · simp [Value.cells] at e1
    obtain ⟨rfl, rfl, rfl⟩ := e1
    unfold maxLen at hcm
    rw [Try.cellsInt] at helem
    have key : ∀ i, ∃ z : Int, Rng z ∧ (i < len0 → w.cell? (a.add i) = some (.int .i64 z)) := by
      intro i
      by_cases hi : i < len0
      · have h1 := helem i hi
        have hie : i < elems.length := by omega
        rw [List.getElem?_eq_getElem hie, Option.bind_eq_some_iff, Nat.mul_one] at h1
        obtain ⟨cs', h2, h3⟩ := h1
        obtain ⟨d0, rfl, g0⟩ := cells1 h2
        obtain ⟨z, e3, _, hwf⟩ := DataW.trod_int Try.underlying3 h3
        simp at e3
        subst e3
        exact ⟨z, rng_wf hwf, fun _ => g0⟩
      · exact ⟨0, by unfold Rng; omega, fun h => absurd h hi⟩
    obtain ⟨Z, hZ⟩ := Classical.skolem.1 key
    refine ⟨(List.range len0).map Z, ⟨some a, cap0, by simp, by simp; omega, ?_⟩, fun z hz => by obtain ⟨i, _, rfl⟩ := List.mem_map.1 hz; exact (hZ i).1⟩
    by_cases h0 : len0 = 0
    · subst h0; exact Or.inl rfl
    · right
      obtain ⟨b, o, sp⟩ := a
      have g0 := (hZ 0).2 (by omega)
      have hsp : sp = none := by simpa [Addr.add] using World.cell?_spot g0
      subst hsp
      refine ⟨b, o, rfl, trivial, fun i hi => ?_⟩
      simp at hi
      have g1 := (hZ i).2 hi
      simp only [List.getElem_map, List.getElem_range]
      by_cases h00 : i = 0
      · subst h00; simpa [Addr.add] using g1
      · simpa [Addr.add, h00] using g1
#print axioms open_pvr
#print axioms open_int
end Go.Proofs.Ytpbnbkeoiojpaac
