/- Several texts in one. -/
import Derived.Test.YtcjdbbdmighliacZRewriteEndsOwn
import Derived.Deep.RegionHeld3
import Derived.Deep.RegionHeld
import Derived.Lib.Builder
import Derived.Deep.DeepCutAuto
import Derived.Deep.AppendLies
/- Walks: how great a term would be with bindings in it. -/
namespace Go.Proofs.Ytcjdbbdmighliac
open Go.RowKit
set_option linter.unusedSimpArgs false
set_option linter.unusedVariables false
set_option maxRecDepth 8000

def GwInv (w0 : World) (M : Nat) (ls : List Bd) (l : List Tm) (most : Int) (n i : Value) (wr : World) : Prop := ∃ k : Nat, k ≤ l.length ∧ i = .int .i64 k ∧ n = .int .i64 (min (1 + sizeL (onL ls (l.take k))) (most + 1)) ∧ Below M w0 wr

set_option maxHeartbeats 1000000 in
theorem grown_any (ls : List Bd) (t : Tm) : ∀ (u v : Value) (most : Int) (w : World) (X : Nat → Prop), BV w X u ls → TV w X v t → 0 ≤ most → most ≤ 1000000 →
    Calls Try.prog 50 #[u, v, .int .i64 most] w fun e w' => e = .returned (.int .i64 (min (sizeL [onT ls t]) (most + 1))) ∧ Below w.heap.size w w' := by
  induction t using Tm.ind with
  | h s l ih =>
    intro u v most w X hu hv hm0 hm1
    obtain ⟨a, c, rfl, hs⟩ := hv
    have IH := hide ih
    have HU := hide hu
    have HS := hide hs
    have hl := hs.1
    clear ih hu hs
    go_enter Try.func50, Try.ntmps50
    go_wp2_with fail
    refine (for_any ls s u _ X (by exact HU.out.alloc _)).mono ?_
    rintro e w1 ⟨hb1, hcase⟩
    have T1 := hide ((Blk.new w #[.string s, .slice a l.length c] 25).below hb1 (by simp))
    have B1 := hide (((Below.refl w.heap.size w).alloc (Nat.le_refl _) (.cells #[.string s, .slice a l.length c] 25)).trans (hb1.mono (by simp)))
    have hlt1 : w.heap.size < w1.heap.size := T1.out.lt
    clear hb1
    have t0 : ∀ o, (w1.alloc o).cell? ⟨w.heap.size, 0, none⟩ = some (.string s) := fun o => (T1.out.alloc o).cell 0
    have t1 : ∀ o, (w1.alloc o).cell? ⟨w.heap.size, 1, none⟩ = some (.slice a l.length c) := fun o => (T1.out.alloc o).cell 1
    rcases hcase with ⟨x, ax, cx, hf, rfl, hsx⟩ | ⟨hf, rfl⟩
    · by_cases hl0 : l = []
      · subst hl0
        have HF := hide (onT_some hf)
        have SX := hide hsx
        clear hf hsx
        go_wp2_with fail
        refine (size_any x _ most _ _ ⟨ax, cx, rfl, SX.out.later ((Below.refl w1.heap.size w1).alloc (Nat.le_refl _) _)⟩ hm0 hm1).mono ?_
        rintro e w3 ⟨rfl, hb3⟩
        go_wp2_with fail
        go_ret
        exact ⟨ret_int (by rw [HF.out]), (B1.out.alloc B1.out.size _).trans (hb3.mono (by have := B1.out.size; simp; omega))⟩
      · have HD := hide (onT_deep (l := ls) (s := s) (Or.inl hl0))
        have hlp : ((l.length : Int) == 0) = false := beq_eq_false_iff_ne.2 (by have := List.length_pos_iff.2 hl0; omega)
        clear hf hsx
        go_wp2_with fail
        have T2 := hide (T1.out.alloc (.cells #[.string x.name, .slice ax x.args.length cx] 25))
        have B2 := hide (B1.out.alloc B1.out.size (.cells #[.string x.name, .slice ax x.args.length cx] 25))
        generalize w1.alloc (.cells #[.string x.name, .slice ax x.args.length cx] 25) = w2 at *
        clear t0 t1
        go_loopw [9, 10] (fun n i wr => GwInv w2 w2.heap.size ls l most n i wr) (fun n i wr => l.length - (intOf i).toNat)
        case atStart => exact ⟨0, Nat.zero_le _, rfl, by simp [onL, sizeL]; omega, Below.refl _ _⟩
        case round =>
          obtain ⟨k, hk, rfl, rfl, hb⟩ := hrel
          have c0 : wr.cell? ⟨w.heap.size, 0, none⟩ = some (.string s) := (T2.out.below hb T2.out.lt).cell 0
          have c1 : wr.cell? ⟨w.heap.size, 1, none⟩ = some (.slice a l.length c) := (T2.out.below hb T2.out.lt).cell 1
          have hn : 0 ≤ ((1 : Int) + sizeL (onL ls (l.take k))) := by omega
          have BW := hide (B2.out.trans (hb.mono B2.out.size))
          have HB := hide hb
          by_cases hlt : k < l.length
          · obtain ⟨b, o, a', c', rfl, d0, d1, hx⟩ := HS.out.get BW.out (fun _ _ h => h) k hlt
            by_cases hle : 1 + (sizeL (onL ls (l.take k)) : Int) ≤ most
            · have hmin : min (1 + (sizeL (onL ls (l.take k)) : Int)) (most + 1) = 1 + (sizeL (onL ls (l.take k)) : Int) := by omega
              rw [hmin]
              go_wp2_with fail
              refine (IH.out _ (List.getElem_mem hlt) _ _ _ _ X (HU.out.later BW.out) hx (by omega) (by omega)).mono ?_
              rintro e w3 ⟨rfl, hb3⟩
              have Hst := hide (onL_size_take ls l k hlt)
              have hm2 : 0 ≤ min ((sizeL [onT ls l[k]] : Int)) (most - (1 + (sizeL (onL ls (l.take k)) : Int)) + 1) := by omega
              have hm3 : min ((sizeL [onT ls l[k]] : Int)) (most - (1 + (sizeL (onL ls (l.take k)) : Int)) + 1) ≤ 1000001 := by omega
              go_wp2_with fail
              go_roundw
              case rel => exact ⟨k + 1, by omega, by go_num, by rw [Hst.out]; congr 1; omega, hb.trans (hb3.mono hb.size)⟩
              case measure => simp [intOf]; omega
            · have hmin : min (1 + (sizeL (onL ls (l.take k)) : Int)) (most + 1) = most + 1 := by omega
              rw [hmin]
              have hz : (sizeL [(⟨s, onL ls l⟩ : Tm)] : Int) = 1 + sizeL (onL ls l) := by simp [sizeL]
              have hle2 := onL_size_le ls l k
              have HF := hide (show (most + 1 : Int) = min (sizeL [(⟨s, onL ls l⟩ : Tm)] : Int) (most + 1) by omega)
              clear hz
              go_wp2_with fail
              go_ret
              exact ⟨ret_int (by rw [HD.out]; exact HF.out), BW.out⟩
          · have htk : l.take k = l := List.take_of_length_le (by omega)
            rw [htk]
            have hz : (sizeL [(⟨s, onL ls l⟩ : Tm)] : Int) = 1 + sizeL (onL ls l) := by simp [sizeL]
            have HZ := hide hz
            clear hz
            go_wp2_with fail
            all_goals (go_ret; exact ⟨ret_int (by rw [HD.out]; have := HZ.out; omega), BW.out⟩)
    · have HD : Hid (onT ls ⟨s, l⟩ = ⟨s, onL ls l⟩) := onT_deep (Or.inr hf)
      clear hf
      go_wp2_with fail
      have T2 := hide (T1.out.alloc (.cells #[.string ⟨#[]⟩, .slice none 0 0] 25))
      have B2 := hide (B1.out.alloc B1.out.size (.cells #[.string ⟨#[]⟩, .slice none 0 0] 25))
      generalize w1.alloc (.cells #[.string ⟨#[]⟩, .slice none 0 0] 25) = w2 at *
      clear t0 t1
      go_loopw [9, 10] (fun n i wr => GwInv w2 w2.heap.size ls l most n i wr) (fun n i wr => l.length - (intOf i).toNat)
      case atStart => exact ⟨0, Nat.zero_le _, rfl, by simp [onL, sizeL]; omega, Below.refl _ _⟩
      case round =>
        obtain ⟨k, hk, rfl, rfl, hb⟩ := hrel
        have c0 : wr.cell? ⟨w.heap.size, 0, none⟩ = some (.string s) := (T2.out.below hb T2.out.lt).cell 0
        have c1 : wr.cell? ⟨w.heap.size, 1, none⟩ = some (.slice a l.length c) := (T2.out.below hb T2.out.lt).cell 1
        have hn : 0 ≤ ((1 : Int) + sizeL (onL ls (l.take k))) := by omega
        have BW := hide (B2.out.trans (hb.mono B2.out.size))
        have HB := hide hb
        by_cases hlt : k < l.length
        · obtain ⟨b, o, a', c', rfl, d0, d1, hx⟩ := HS.out.get BW.out (fun _ _ h => h) k hlt
          by_cases hle : 1 + (sizeL (onL ls (l.take k)) : Int) ≤ most
          · have hmin : min (1 + (sizeL (onL ls (l.take k)) : Int)) (most + 1) = 1 + (sizeL (onL ls (l.take k)) : Int) := by omega
            rw [hmin]
            go_wp2_with fail
            refine (IH.out _ (List.getElem_mem hlt) _ _ _ _ X (HU.out.later BW.out) hx (by omega) (by omega)).mono ?_
            rintro e w3 ⟨rfl, hb3⟩
            have Hst := hide (onL_size_take ls l k hlt)
            have hm2 : 0 ≤ min ((sizeL [onT ls l[k]] : Int)) (most - (1 + (sizeL (onL ls (l.take k)) : Int)) + 1) := by omega
            have hm3 : min ((sizeL [onT ls l[k]] : Int)) (most - (1 + (sizeL (onL ls (l.take k)) : Int)) + 1) ≤ 1000001 := by omega
            go_wp2_with fail
            go_roundw
            case rel => exact ⟨k + 1, by omega, by go_num, by rw [Hst.out]; congr 1; omega, hb.trans (hb3.mono hb.size)⟩
            case measure => simp [intOf]; omega
          · have hmin : min (1 + (sizeL (onL ls (l.take k)) : Int)) (most + 1) = most + 1 := by omega
            rw [hmin]
            have hz : (sizeL [(⟨s, onL ls l⟩ : Tm)] : Int) = 1 + sizeL (onL ls l) := by simp [sizeL]
            have hle2 := onL_size_le ls l k
            have HF := hide (show (most + 1 : Int) = min (sizeL [(⟨s, onL ls l⟩ : Tm)] : Int) (most + 1) by omega)
            clear hz
            go_wp2_with fail
            go_ret
            exact ⟨ret_int (by rw [HD.out]; exact HF.out), BW.out⟩
        · have htk : l.take k = l := List.take_of_length_le (by omega)
          rw [htk]
          have hz : (sizeL [(⟨s, onL ls l⟩ : Tm)] : Int) = 1 + sizeL (onL ls l) := by simp [sizeL]
          have HZ := hide hz
          clear hz
          go_wp2_with fail
          all_goals (go_ret; exact ⟨ret_int (by rw [HD.out]; have := HZ.out; omega), BW.out⟩)
#print axioms grown_any
end Go.Proofs.Ytcjdbbdmighliac

/- Walks: a term with bindings in it, as the document says. -/
namespace Go.Proofs.Ytcjdbbdmighliac
open Go.RowKit
set_option linter.unusedSimpArgs false
set_option linter.unusedVariables false
set_option maxRecDepth 8000

def OnPost (w : World) (X : Nat → Prop) (t : Tm) (e : Ending) (w' : World) : Prop :=
  ∃ a c, e = .returned (.agg #[.string t.name, .slice a t.args.length c]) ∧ Sl w' (fun b => (X b ∧ b < w.heap.size) ∨ w.heap.size ≤ b) a t.args ∧ Below w.heap.size w w'

/-- What is held while a knot's next term is made. -/
def OnS (w : World) (b o : Nat) (s : ByteArray) (a : Option Addr) (n c : Nat) (s1 : ByteArray) (v1 : Value) (w' : World) : Prop :=
  Blk w' w.heap.size #[.string s, .slice a n c] 25 ∧ w'.cell? ⟨b, o, none⟩ = some (.string s1) ∧ w'.cell? ⟨b, o + 1, none⟩ = some v1
theorem cell_same {w w' : World} {b i : Nat} {v : Value} (hb : w'.heap[b]? = w.heap[b]?) (h : w.cell? ⟨b, i, none⟩ = some v) : w'.cell? ⟨b, i, none⟩ = some v := by simpa [World.cell?, hb] using h
theorem OnS.below {w wr w1 : World} {b o n c : Nat} {s s1 : ByteArray} {a : Option Addr} {v1 : Value} (h : OnS w b o s a n c s1 v1 wr) (hb : Below wr.heap.size wr w1) (hlt : w.heap.size < wr.heap.size ∧ b < wr.heap.size) : OnS w b o s a n c s1 v1 w1 :=
  ⟨h.1.below hb hlt.1, cell_same (hb.block b hlt.2) h.2.1, cell_same (hb.block b hlt.2) h.2.2⟩
theorem OnS.alloc {w wr : World} {b o n c : Nat} {s s1 : ByteArray} {a : Option Addr} {v1 : Value} (h : OnS w b o s a n c s1 v1 wr) (x : Obj) : OnS w b o s a n c s1 v1 (wr.alloc x) :=
  ⟨h.1.alloc x, cell_same (Below.heap_alloc _ _ _ (cell_lt h.2.1)) h.2.1, cell_same (Below.heap_alloc _ _ _ (cell_lt h.2.1)) h.2.2⟩
theorem OnS.grown {w wr w3 : World} {b o n c : Nat} {s s1 : ByteArray} {a : Option Addr} {v1 : Value} {row : Option Nat} (h : OnS w b o s a n c s1 v1 wr) (hg : wr.grownBy w3 row) (hne : ∀ j, j ≤ w.heap.size → some j ≠ row) (hb : b < w.heap.size) (_ : True) : OnS w b o s a n c s1 v1 w3 :=
  ⟨h.1.grown hg (hne _ (Nat.le_refl _)), cell_same (hg.block b (cell_lt h.2.1) (hne b (by omega))) h.2.1, cell_same (hg.block b (cell_lt h.2.1) (hne b (by omega))) h.2.2⟩
theorem OnS.set {w wr : World} {b o n c : Nat} {s s1 : ByteArray} {a : Option Addr} {v1 : Value} {O i : Nat} (h : OnS w b o s a n c s1 v1 wr) (v : Value) (_ : True) (hO : w.heap.size ≠ O) (hb : b ≠ O) : OnS w b o s a n c s1 v1 (wr.setCell ⟨O, i, none⟩ v) :=
  ⟨h.1.setOther _ _ hO, cell_same (Below.heap_setCell _ _ _ _ (by simpa using hb)) h.2.1, cell_same (Below.heap_setCell _ _ _ _ (by simpa using hb)) h.2.2⟩
theorem hxb {w : World} {X : Nat → Prop} {b o : Nat} {l : List Tm} (h : Sl w X (some ⟨b, o, none⟩) l) (hl : 0 < l.length) : b < w.heap.size := by
  obtain ⟨_, h⟩ := h
  rcases h with rfl | ⟨b', o', e, h⟩
  · simp at hl
  · simp at e
    obtain ⟨rfl, rfl⟩ := e
    exact cell_lt (lies_get l b o h 0 hl).2.1

/-- What is laid ahead of the rounds. -/
def OnSet (w : World) (Y : Nat → Prop) (O : Nat) (s : ByteArray) (a : Option Addr) (n c : Nat) (u : Value) (L : List Tm) (wr : World) : Prop :=
  ∃ xs, Row wr (O + 1) 25 Y u L xs ∧ Below w.heap.size w wr ∧ Blk wr w.heap.size #[.string s, .slice a n c] 25 ∧ Blk wr (w.heap.size + 1) #[.string ⟨#[]⟩, .slice none 0 0] 25 ∧ Blk wr O #[.string s, u] 25 ∧ O < wr.heap.size
def OnInv (w : World) (Y : Nat → Prop) (O : Nat) (s : ByteArray) (a : Option Addr) (c : Nat) (ls : List Bd) (l : List Tm) (i : Value) (wr : World) : Prop :=
  ∃ (k : Nat) (u : Value), k ≤ l.length ∧ i = .int .i64 (k : Int) ∧ OnSet w Y O s a l.length c u (onL ls (l.take k)) wr

theorem on_step {w wr w1 w3 : World} {Y : Nat → Prop} {O n c : Nat} {u : Value} {L : List Tm} {xs : List Value} {o2 : Obj} {s s' : ByteArray} {a a1 : Option Addr} {n1 c1 g cap : Nat} {t : Tm} (hO : w.heap.size + 2 ≤ O) (hY : ∀ b, Y b → b < w.heap.size)
    (hrow : Row wr (O + 1) 25 Y u L xs) (hx : Below w.heap.size w wr) (hT : Blk wr w.heap.size #[.string s, .slice a n c] 25) (hR : Blk wr (w.heap.size + 1) #[.string ⟨#[]⟩, .slice none 0 0] 25) (hOb : Blk wr O #[.string s, u] 25)
    (he1 : Below wr.heap.size wr w1) (ht : TV w1 (fun b => Y b ∨ wr.heap.size ≤ b) (.agg #[.string s', .slice a1 n1 c1]) t)
    (hown : w3.ownsRow (O + 1) 25 2 (.slice (some ⟨g, 0, none⟩) (L.length + 1) cap) (L.length + 1) (xs ++ [.string s', .slice a1 n1 c1])) (hg : (w1.alloc o2).grownBy w3 u.ownBlock) (hat : u.ownBlock = some g ∨ g = (w1.alloc o2).heap.size) :
    OnSet w Y O s a n c (.slice (some ⟨g, 0, none⟩) (L.length + 1) cap) (L ++ [t]) (w3.setCell ⟨O, 1, none⟩ (.slice (some ⟨g, 0, none⟩) (L.length + 1) cap)) := by
  have hlt' := hrow.own.lt
  have hOl := hOb.lt
  have hp := hrow.push (w1 := w1) (w2 := w1.alloc o2) (w3 := w3) (by omega) (fun b h => by have := hY b h; omega) he1 ht o2 rfl hown hg hat
  have hne : ∀ b, b < O + 1 → some b ≠ u.ownBlock := fun b hb e => by have := (hlt' b e.symm).1; omega
  have hs1 := he1.size
  have hsx := hx.size
  have hx3 : Below w.heap.size w w3 := ((hx.trans (he1.mono (by omega))).alloc (by omega) o2).grown hg (by simp; omega) (fun k hk => by have := (hlt' k hk).1; omega)
  have hs3 := hg.size
  simp at hs3
  refine ⟨_, hp.setCell (by omega) (fun h => by have := hY _ h; omega) _, hx3.setCell (p := ⟨O, 1, none⟩) (by simp; omega) _, ?_, ?_, ?_, by simp [World.setCell]; omega⟩
  · exact (((hT.below he1 (by omega)).alloc o2).grown hg (hne _ (by omega))).setOther _ _ (by omega)
  · exact (((hR.below he1 (by omega)).alloc o2).grown hg (hne _ (by omega))).setOther _ _ (by omega)
  · exact (((hOb.below he1 (by omega)).alloc o2).grown hg (hne _ (by omega))).set 1 _

set_option maxHeartbeats 2000000 in
theorem on_any (ls : List Bd) (t : Tm) : ∀ (u v : Value) (w : World) (X : Nat → Prop), BV w X u ls → TV w X v t → sizeL [t] ≤ 1000000 →
    Calls Try.prog 51 #[u, v] w fun e w' => OnPost w X (onT ls t) e w' := by
  induction t using Tm.ind with
  | h s l ih =>
    intro u v w X hu hv hsm
    obtain ⟨a, c, rfl, hs⟩ := hv
    have IH := hide ih
    have HU := hide hu
    have HS := hide hs
    have hl := hs.1
    have hz : sizeL [(⟨s, l⟩ : Tm)] = 1 + sizeL l := by simp [sizeL]
    rw [hz] at hsm
    have hlen := sizeL_len l
    clear ih hu hs hz
    obtain ⟨i0, hi0, hz0, hz1, hz2⟩ := info_parts Try.infoTerm
    go_enter Try.func51, Try.ntmps51
    go_wp2_with fail
    refine (for_any ls s u _ (fun b => X b ∧ b < w.heap.size) (by exact ((HU.out.mono fun b h1 h2 => ⟨h1, h2⟩).alloc _).alloc _)).mono ?_
    rintro e w1 ⟨hb1, hcase⟩
    have T1 := hide (((Blk.new w #[.string s, .slice a l.length c] 25).alloc (.cells #[.string ⟨#[]⟩, .slice none 0 0] 25)).below hb1 (by simp; omega))
    have R1 : Hid (Blk w1 (w.heap.size + 1) #[.string ⟨#[]⟩, .slice none 0 0] 25) := by
      have h := (Blk.new (w.alloc (.cells #[.string s, .slice a l.length c] 25)) #[.string ⟨#[]⟩, .slice none 0 0] 25).below hb1 (by simp)
      unfold Hid
      simpa using h
    have B1 := hide ((((Below.refl w.heap.size w).alloc (Nat.le_refl _) (.cells #[.string s, .slice a l.length c] 25)).alloc (by simp) (.cells #[.string ⟨#[]⟩, .slice none 0 0] 25)).trans (hb1.mono (by simp; omega)))
    have hlt1 : w.heap.size < w1.heap.size := T1.out.lt
    have hlt1' : w.heap.size + 1 < w1.heap.size := R1.out.lt
    clear hb1
    have t0 : ∀ o, (w1.alloc o).cell? ⟨w.heap.size, 0, none⟩ = some (.string s) := fun o => (T1.out.alloc o).cell 0
    have t1 : ∀ o, (w1.alloc o).cell? ⟨w.heap.size, 1, none⟩ = some (.slice a l.length c) := fun o => (T1.out.alloc o).cell 1
    rcases hcase with ⟨x, ax, cx, hf, rfl, hsx⟩ | ⟨hf, rfl⟩
    · by_cases hl0 : l = []
      · subst hl0
        have HF := hide (onT_some hf)
        have SX := hide hsx
        clear hf hsx
        have r0 : w1.cell? ⟨w.heap.size + 1, 0, none⟩ = some (.string ⟨#[]⟩) := R1.out.cell 0
        have r1 : w1.cell? ⟨w.heap.size + 1, 1, none⟩ = some (.slice none 0 0) := R1.out.cell 1
        have rf := R1.out.frozen
        go_wp2_with fail
        refine bodyPost_ret (v := .agg #[.string x.name, .slice ax x.args.length cx]) (by simp [results, Try.results51, go_sem, World.cell?_setCell_same, World.cell?_setCell_other, r0, r1, hlt1', World.cell?_alloc_old]) rfl ?_
        rw [HF.out]
        refine ⟨ax, cx, rfl, ?_, ((B1.out.setCell (by simp) _).setCell (by simp) _).alloc (by have := B1.out.size; simpa [World.setCell] using this) _⟩
        refine ((SX.out.mono (Y := fun b => X b ∧ b < w.heap.size) fun b h1 _ => h1.1).kept fun b hb => ?_).mono fun b hb _ => Or.inl hb
        rw [Below.heap_alloc _ _ _ (by simp [World.setCell]; omega), Below.heap_setCell _ _ _ _ (by simp; omega), Below.heap_setCell _ _ _ _ (by simp; omega)]
      · have HD : Hid (onT ls ⟨s, l⟩ = ⟨s, onL ls l⟩) := onT_deep (Or.inl hl0)
        have hlp : ((l.length : Int) == 0) = false := beq_eq_false_iff_ne.2 (by have := List.length_pos_iff.2 hl0; omega)
        clear hf hsx
        go_wp2_with fail
        have T3 := hide ((T1.out.alloc (.cells #[.string x.name, .slice ax x.args.length cx] 25)).alloc (.cells #[.string s, .slice none 0 0] 25))
        have R3 := hide ((R1.out.alloc (.cells #[.string x.name, .slice ax x.args.length cx] 25)).alloc (.cells #[.string s, .slice none 0 0] 25))
        have O3 := hide (Blk.new (w1.alloc (.cells #[.string x.name, .slice ax x.args.length cx] 25)) #[.string s, .slice none 0 0] 25)
        have B3 := hide ((B1.out.alloc B1.out.size (.cells #[.string x.name, .slice ax x.args.length cx] 25)).alloc (by have := B1.out.size; simp; omega) (.cells #[.string s, .slice none 0 0] 25))
        have HO3 := hide (O3.out.lt)
        have hO : w.heap.size + 2 ≤ (w1.alloc (.cells #[.string x.name, .slice ax x.args.length cx] 25)).heap.size := by have := R1.out.lt; simp; omega
        have eO : (w1.alloc (.cells #[.string x.name, .slice ax x.args.length cx] 25)).heap.size = w1.heap.size + 1 := by simp
        rw [eO] at O3 HO3 hO
        clear eO
        generalize (w1.alloc (.cells #[.string x.name, .slice ax x.args.length cx] 25)).alloc (.cells #[.string s, .slice none 0 0] 25) = w3 at *
        generalize w1.heap.size + 1 = O at *
        clear t0 t1
        have hY : ∀ b, (X b ∧ b < w.heap.size) → b < w.heap.size := fun b h => h.2
        go_loopw [8] (fun i wr => OnInv w (fun b => X b ∧ b < w.heap.size) O s a c ls l i wr) (fun i wr => l.length - (intOf i).toNat)
        case atStart => exact ⟨0, .slice none 0 0, Nat.zero_le _, rfl, [], by have h := Row.start w3 (O + 1) 25 (fun b => X b ∧ b < w.heap.size); simpa [onL] using h, B3.out, T3.out, R3.out, O3.out, HO3.out⟩
        case round =>
          obtain ⟨k, u9, hk, rfl, xs, hrow, hbb, hT, hR, hOb, hOl⟩ := hrel
          have XW := hide hrow
          have XE := hide hbb
          have XT := hide hT
          have XR := hide hR
          have XO := hide hOb
          clear hrow hbb hT hR hOb
          have c0 : wr.cell? ⟨w.heap.size, 0, none⟩ = some (.string s) := XT.out.cell 0
          have c1 : wr.cell? ⟨w.heap.size, 1, none⟩ = some (.slice a l.length c) := XT.out.cell 1
          have o0 : wr.cell? ⟨O, 0, none⟩ = some (.string s) := XO.out.cell 0
          have o1 : wr.cell? ⟨O, 1, none⟩ = some u9 := XO.out.cell 1
          by_cases hlt : k < l.length
          · obtain ⟨b, o, a', c', rfl, d0, d1, hx⟩ := (HS.out.mono (Y := fun b => X b ∧ b < w.heap.size) fun b h1 h2 => ⟨h1, h2⟩).get XE.out (fun b h _ => h.2) k hlt
            have HX := hide hx
            have hXb : b < w.heap.size := hxb HS.out (Nat.lt_of_le_of_lt (Nat.zero_le k) hlt)
            have hszk : sizeL [l[k]] ≤ 1000000 := by
              have := sizeL_take l k hlt
              have := sizeL_take_le l (k + 1)
              omega
            have hOL : (onL ls (l.take k)).length = k := by rw [onL_length]; simp; omega
            have IHQ : Hid (Calls Try.prog 51 #[u, .agg #[.string l[k].name, .slice a' l[k].args.length c']] wr.drew fun e w'' => ∃ a1 c1, e = .returned (.agg #[.string (onT ls l[k]).name, .slice a1 (onT ls l[k]).args.length c1]) ∧ Sl w'' (fun b => (X b ∧ b < w.heap.size) ∨ wr.heap.size ≤ b) a1 (onT ls l[k]).args ∧ Below wr.heap.size wr w'') := (IH.out l[k] (List.getElem_mem hlt) u _ wr.drew (fun b => X b ∧ b < w.heap.size) ((HU.out.mono fun b h1 h2 => ⟨h1, h2⟩).later (XE.out.drew)) (HX.out.later ((Below.refl wr.heap.size wr).drew)) hszk).mono fun e w'' hp => by
              obtain ⟨a1, c1, h1, h2, h3⟩ := hp
              exact ⟨a1, c1, h1, h2.mono (fun b hb _ => hb.imp (fun h => h.1) id), ((Below.refl wr.heap.size wr).drew).trans h3⟩
            have HN1 : Hid (∀ a1 c1, ∀ x ∈ [Value.string (onT ls l[k]).name, Value.slice a1 (onT ls l[k]).args.length c1], x.oneCell' = true) := fun a1 c1 x hx => by simp at hx; rcases hx with rfl | rfl <;> rfl
            have HL1 : Hid ((onL ls (l.take k)).length + 1 ≤ maxLen ∧ ((onL ls (l.take k)).length + 1) * 40 ≤ 140737488355328) := ⟨by rw [hOL]; unfold maxLen; omega, by rw [hOL]; omega⟩
            clear hOL
            have HBW : Hid (w.heap.size < wr.heap.size ∧ b < wr.heap.size) := ⟨XT.out.lt, by have := XT.out.lt; omega⟩
            have HS8 : Hid (OnS w b (o + k * 2) s (some ⟨b, o, none⟩) l.length c l[k].name (.slice a' l[k].args.length c') wr) := ⟨XT.out, d0, d1⟩
            go_wp2_with fail
            refine wp_region_held_drew (S := OnS w b (o + k * 2) s (some ⟨b, o, none⟩) l.length c l[k].name (.slice a' l[k].args.length c')) (by kernel_rfl) (by exact HS8.out) (fun hHeld => ?_)
            refine wpAnyH_take (i := 0) (v := ?_) rfl (by kernel_rfl) (by kernel_rfl) (by kernel_rfl) (fun _ _ _ h => h) (Or.inl ⟨by rfl, ?_⟩) (by assumption) ?_
            rotate_left
            · intro w' hSw
              go_simp <;> with_reducible rfl
            try simp only [Act.put, List.setIfInBounds_toArray, List.set_cons_zero, List.set_cons_succ, List.getElem_toArray, List.getElem_cons_succ, List.getElem_cons_zero]
            refine wpAnyH_take (i := 2) (v := ?_) rfl (by kernel_rfl) (by kernel_rfl) (by kernel_rfl) (fun _ _ _ h => h) (Or.inl ⟨by rfl, ?_⟩) (by assumption) ?_
            rotate_left
            · intro w' hSw
              go_simp <;> with_reducible rfl
            try simp only [Act.put, List.setIfInBounds_toArray, List.set_cons_zero, List.set_cons_succ, List.getElem_toArray, List.getElem_cons_succ, List.getElem_cons_zero]
            refine wpAnyH_take (i := 3) (v := ?_) rfl (by kernel_rfl) (by kernel_rfl) (by kernel_rfl) (fun _ _ _ h => h) (Or.inl ⟨by rfl, ?_⟩) (by assumption) ?_
            rotate_left
            · intro w' hSw
              go_simp <;> with_reducible rfl
            try simp only [Act.put, List.setIfInBounds_toArray, List.set_cons_zero, List.set_cons_succ, List.getElem_toArray, List.getElem_cons_succ, List.getElem_cons_zero]
            refine wpAnyH_take (i := 5) (v := ?_) rfl (by kernel_rfl) (by kernel_rfl) (by kernel_rfl) (fun _ _ _ h => h) (Or.inl ⟨by rfl, ?_⟩) (by assumption) ?_
            rotate_left
            · intro w' hSw
              go_simp <;> with_reducible rfl
            try simp only [Act.put, List.setIfInBounds_toArray, List.set_cons_zero, List.set_cons_succ, List.getElem_toArray, List.getElem_cons_succ, List.getElem_cons_zero]
            refine wpAnyH_take (i := 4) (v := ?_) rfl (by kernel_rfl) (by kernel_rfl) (by kernel_rfl) (fun _ _ _ h => h) (Or.inl ⟨by rfl, ?_⟩) (by assumption) ?_
            rotate_left
            · intro w' hSw
              have k1 : w'.cell? ⟨w.heap.size, 1, none⟩ = some (.slice (some ⟨b, o, none⟩) l.length c) := hSw.1.cell 1
              go_simp <;> with_reducible rfl
            try simp only [Act.put, List.setIfInBounds_toArray, List.set_cons_zero, List.set_cons_succ, List.getElem_toArray, List.getElem_cons_succ, List.getElem_cons_zero]
            refine wpAnyH_take (i := 6) (v := ?_) rfl (by kernel_rfl) (by kernel_rfl) (by kernel_rfl) (fun _ _ _ h => h) (Or.inl ⟨by rfl, ?_⟩) (by assumption) ?_
            rotate_left
            · intro w' hSw
              go_simp <;> with_reducible rfl
            try simp only [Act.put, List.setIfInBounds_toArray, List.set_cons_zero, List.set_cons_succ, List.getElem_toArray, List.getElem_cons_succ, List.getElem_cons_zero]
            refine wpAnyH_take (i := 7) (v := ?_) rfl (by kernel_rfl) (by kernel_rfl) (by kernel_rfl) (fun _ _ _ h => h) (Or.inl ⟨by rfl, ?_⟩) (by assumption) ?_
            rotate_left
            · intro w' hSw
              have k2 := hSw.2.1
              have k3 := hSw.2.2
              go_simp <;> with_reducible rfl
            try simp only [Act.put, List.setIfInBounds_toArray, List.set_cons_zero, List.set_cons_succ, List.getElem_toArray, List.getElem_cons_succ, List.getElem_cons_zero]
            refine wpAnyH_ready (rs := [1, 8]) (by kernel_rfl) (by simp) ?_
            refine AllReadyH.cons rfl (fun K hK => ?_) (AllReadyH.cons rfl (fun K hK => ?_) AllReadyH.nil)
            · go_simp
              refine hK.out _ _ (by exact hHeld) (fun hHeld => ?_)
              clear hK K
              try simp only [Act.put, List.setIfInBounds_toArray, List.set_cons_zero, List.set_cons_succ, List.getElem_toArray, List.getElem_cons_succ, List.getElem_cons_zero]
              refine wpAnyH_ready (rs := [8]) (by kernel_rfl) (by simp) ?_
              refine AllReadyH.cons rfl (fun K hK => ?_) AllReadyH.nil
              · go_simp
                go_at_call 51
                refine IHQ.out.mono ?_
                rintro e w1 ⟨a1, c1, rfl, hs1, hb1⟩
                have hc3 : ∀ o, (w1.alloc o).cell? ⟨O, 1, none⟩ = some u9 := fun o => ((XO.out.below hb1 hOl).alloc o).cell 1
                have hc4 : w1.cell? ⟨O, 1, none⟩ = some u9 := (XO.out.below hb1 hOl).cell 1
                go_simp
                refine hK.out _ _ (by exact OnS.below HS8.out hb1 HBW.out) (fun hHeld => ?_)
                clear hK K
                try simp only [Act.put, List.setIfInBounds_toArray, List.set_cons_zero, List.set_cons_succ, List.getElem_toArray, List.getElem_cons_succ, List.getElem_cons_zero]
                refine wpAnyH_ready (rs := [9]) (by kernel_rfl) (by simp) ?_
                refine AllReadyH.cons rfl (fun K hK => ?_) AllReadyH.nil
                · go_simp
                  refine hK.out _ _ (by exact hHeld.alloc _) (fun hHeld => ?_)
                  clear hK K
                  try simp only [Act.put, List.setIfInBounds_toArray, List.set_cons_zero, List.set_cons_succ, List.getElem_toArray, List.getElem_cons_succ, List.getElem_cons_zero]
                  refine wpAnyH_ready (rs := [10]) (by kernel_rfl) (by simp) ?_
                  refine AllReadyH.cons rfl (fun K hK => ?_) AllReadyH.nil
                  · refine step_append_lies _ rfl _ _ 23 rfl (O + 1) 25 i0 _ 2 40 Try.underlying23 hi0 hz0 hz1 hz2 rfl (by decide) u9 (onL ls (l.take k)).length xs rfl (by exact (XW.out.below hb1).own.alloc _) ⟨w1.heap.size, 0, none⟩ 1 1 [.string (onT ls l[k]).name, .slice a1 (onT ls l[k]).args.length c1] rfl rfl (cell_two_new _ _ _ _) (HN1.out a1 c1) (by decide) HL1.out.1 HL1.out.2 (by have := hb1.size; simp; omega) _ rfl ?_
                    intro g cap w3 hown3 hgrow3 hat3 hlt3
                    have hB3 := hide (((XO.out.below hb1 hOl).alloc _).grown hgrow3 (XW.out.ne (Nat.lt_succ_self _)))
                    have hc5 : w3.cell? ⟨O, 1, none⟩ = some u9 := hB3.out.cell 1
                    have hf5 := hB3.out.frozen 1
                    have HFIN := hide (on_step (c := c) (n := l.length) (a := some ⟨b, o, none⟩) hO hY XW.out XE.out XT.out XR.out XO.out hb1 ⟨a1, c1, rfl, hs1⟩ hown3 hgrow3 hat3)
                    refine hK.out _ _ (by exact OnS.grown hHeld hgrow3 (fun j hj => XW.out.ne (by omega)) hXb trivial) (fun hHeld => ?_)
                    clear hK K
                    try simp only [Act.put, List.setIfInBounds_toArray, List.set_cons_zero, List.set_cons_succ, List.getElem_toArray, List.getElem_cons_succ, List.getElem_cons_zero]
                    refine wpAnyH_take (i := 11) (v := ?_) rfl (by kernel_rfl) (by kernel_rfl) (by kernel_rfl) (fun _ _ _ h => h) (Or.inl ⟨by rfl, ?_⟩) (by assumption) ?_
                    rotate_left
                    · intro w' hSw
                      go_simp <;> with_reducible rfl
                    try simp only [Act.put, List.setIfInBounds_toArray, List.set_cons_zero, List.set_cons_succ, List.getElem_toArray, List.getElem_cons_succ, List.getElem_cons_zero]
                    refine wpAnyH_ready (rs := [12]) (by kernel_rfl) (by simp) ?_
                    refine AllReadyH.cons rfl (fun K hK => ?_) AllReadyH.nil
                    · go_simp
                      refine hK.out _ _ (by exact OnS.set hHeld _ trivial (by omega) (by omega)) (fun hHeld => ?_)
                      clear hK K
                      try simp only [Act.put, List.setIfInBounds_toArray, List.set_cons_zero, List.set_cons_succ, List.getElem_toArray, List.getElem_cons_succ, List.getElem_cons_zero]
                      refine wpAnyH_done (by kernel_rfl) ?_ _
                      clear hc3 hc4 hc5 hf5 hown3 hgrow3 hat3 hlt3 hB3 hHeld
                      go_wp2_with fail
                      go_roundw
                      case rel =>
                        refine ⟨k + 1, .slice (some ⟨g, 0, none⟩) ((onL ls (l.take k)).length + 1) cap, by omega, by go_num, ?_⟩
                        rw [onL_take ls l k hlt]
                        exact HFIN.out
                      case measure => simp [intOf]; omega
            · go_simp
              go_at_call 51
              refine IHQ.out.mono ?_
              rintro e w1 ⟨a1, c1, rfl, hs1, hb1⟩
              have hc3 : ∀ o, (w1.alloc o).cell? ⟨O, 1, none⟩ = some u9 := fun o => ((XO.out.below hb1 hOl).alloc o).cell 1
              have hc4 : w1.cell? ⟨O, 1, none⟩ = some u9 := (XO.out.below hb1 hOl).cell 1
              go_simp
              refine hK.out _ _ (by exact OnS.below HS8.out hb1 HBW.out) (fun hHeld => ?_)
              clear hK K
              try simp only [Act.put, List.setIfInBounds_toArray, List.set_cons_zero, List.set_cons_succ, List.getElem_toArray, List.getElem_cons_succ, List.getElem_cons_zero]
              refine wpAnyH_ready (rs := [1, 9]) (by kernel_rfl) (by simp) ?_
              refine AllReadyH.cons rfl (fun K hK => ?_) (AllReadyH.cons rfl (fun K hK => ?_) AllReadyH.nil)
              · go_simp
                refine hK.out _ _ (by exact hHeld) (fun hHeld => ?_)
                clear hK K
                try simp only [Act.put, List.setIfInBounds_toArray, List.set_cons_zero, List.set_cons_succ, List.getElem_toArray, List.getElem_cons_succ, List.getElem_cons_zero]
                refine wpAnyH_ready (rs := [9]) (by kernel_rfl) (by simp) ?_
                refine AllReadyH.cons rfl (fun K hK => ?_) AllReadyH.nil
                · go_simp
                  refine hK.out _ _ (by exact hHeld.alloc _) (fun hHeld => ?_)
                  clear hK K
                  try simp only [Act.put, List.setIfInBounds_toArray, List.set_cons_zero, List.set_cons_succ, List.getElem_toArray, List.getElem_cons_succ, List.getElem_cons_zero]
                  refine wpAnyH_ready (rs := [10]) (by kernel_rfl) (by simp) ?_
                  refine AllReadyH.cons rfl (fun K hK => ?_) AllReadyH.nil
                  · refine step_append_lies _ rfl _ _ 23 rfl (O + 1) 25 i0 _ 2 40 Try.underlying23 hi0 hz0 hz1 hz2 rfl (by decide) u9 (onL ls (l.take k)).length xs rfl (by exact (XW.out.below hb1).own.alloc _) ⟨w1.heap.size, 0, none⟩ 1 1 [.string (onT ls l[k]).name, .slice a1 (onT ls l[k]).args.length c1] rfl rfl (cell_two_new _ _ _ _) (HN1.out a1 c1) (by decide) HL1.out.1 HL1.out.2 (by have := hb1.size; simp; omega) _ rfl ?_
                    intro g cap w3 hown3 hgrow3 hat3 hlt3
                    have hB3 := hide (((XO.out.below hb1 hOl).alloc _).grown hgrow3 (XW.out.ne (Nat.lt_succ_self _)))
                    have hc5 : w3.cell? ⟨O, 1, none⟩ = some u9 := hB3.out.cell 1
                    have hf5 := hB3.out.frozen 1
                    have HFIN := hide (on_step (c := c) (n := l.length) (a := some ⟨b, o, none⟩) hO hY XW.out XE.out XT.out XR.out XO.out hb1 ⟨a1, c1, rfl, hs1⟩ hown3 hgrow3 hat3)
                    refine hK.out _ _ (by exact OnS.grown hHeld hgrow3 (fun j hj => XW.out.ne (by omega)) hXb trivial) (fun hHeld => ?_)
                    clear hK K
                    try simp only [Act.put, List.setIfInBounds_toArray, List.set_cons_zero, List.set_cons_succ, List.getElem_toArray, List.getElem_cons_succ, List.getElem_cons_zero]
                    refine wpAnyH_take (i := 11) (v := ?_) rfl (by kernel_rfl) (by kernel_rfl) (by kernel_rfl) (fun _ _ _ h => h) (Or.inl ⟨by rfl, ?_⟩) (by assumption) ?_
                    rotate_left
                    · intro w' hSw
                      go_simp <;> with_reducible rfl
                    try simp only [Act.put, List.setIfInBounds_toArray, List.set_cons_zero, List.set_cons_succ, List.getElem_toArray, List.getElem_cons_succ, List.getElem_cons_zero]
                    refine wpAnyH_ready (rs := [12]) (by kernel_rfl) (by simp) ?_
                    refine AllReadyH.cons rfl (fun K hK => ?_) AllReadyH.nil
                    · go_simp
                      refine hK.out _ _ (by exact OnS.set hHeld _ trivial (by omega) (by omega)) (fun hHeld => ?_)
                      clear hK K
                      try simp only [Act.put, List.setIfInBounds_toArray, List.set_cons_zero, List.set_cons_succ, List.getElem_toArray, List.getElem_cons_succ, List.getElem_cons_zero]
                      refine wpAnyH_done (by kernel_rfl) ?_ _
                      clear hc3 hc4 hc5 hf5 hown3 hgrow3 hat3 hlt3 hB3 hHeld
                      go_wp2_with fail
                      go_roundw
                      case rel =>
                        refine ⟨k + 1, .slice (some ⟨g, 0, none⟩) ((onL ls (l.take k)).length + 1) cap, by omega, by go_num, ?_⟩
                        rw [onL_take ls l k hlt]
                        exact HFIN.out
                      case measure => simp [intOf]; omega
              · go_simp
                refine hK.out _ _ (by exact hHeld.alloc _) (fun hHeld => ?_)
                clear hK K
                try simp only [Act.put, List.setIfInBounds_toArray, List.set_cons_zero, List.set_cons_succ, List.getElem_toArray, List.getElem_cons_succ, List.getElem_cons_zero]
                refine wpAnyH_ready (rs := [1]) (by kernel_rfl) (by simp) ?_
                refine AllReadyH.cons rfl (fun K hK => ?_) AllReadyH.nil
                · go_simp
                  refine hK.out _ _ (by exact hHeld) (fun hHeld => ?_)
                  clear hK K
                  try simp only [Act.put, List.setIfInBounds_toArray, List.set_cons_zero, List.set_cons_succ, List.getElem_toArray, List.getElem_cons_succ, List.getElem_cons_zero]
                  refine wpAnyH_ready (rs := [10]) (by kernel_rfl) (by simp) ?_
                  refine AllReadyH.cons rfl (fun K hK => ?_) AllReadyH.nil
                  · refine step_append_lies _ rfl _ _ 23 rfl (O + 1) 25 i0 _ 2 40 Try.underlying23 hi0 hz0 hz1 hz2 rfl (by decide) u9 (onL ls (l.take k)).length xs rfl (by exact (XW.out.below hb1).own.alloc _) ⟨w1.heap.size, 0, none⟩ 1 1 [.string (onT ls l[k]).name, .slice a1 (onT ls l[k]).args.length c1] rfl rfl (cell_two_new _ _ _ _) (HN1.out a1 c1) (by decide) HL1.out.1 HL1.out.2 (by have := hb1.size; simp; omega) _ rfl ?_
                    intro g cap w3 hown3 hgrow3 hat3 hlt3
                    have hB3 := hide (((XO.out.below hb1 hOl).alloc _).grown hgrow3 (XW.out.ne (Nat.lt_succ_self _)))
                    have hc5 : w3.cell? ⟨O, 1, none⟩ = some u9 := hB3.out.cell 1
                    have hf5 := hB3.out.frozen 1
                    have HFIN := hide (on_step (c := c) (n := l.length) (a := some ⟨b, o, none⟩) hO hY XW.out XE.out XT.out XR.out XO.out hb1 ⟨a1, c1, rfl, hs1⟩ hown3 hgrow3 hat3)
                    refine hK.out _ _ (by exact OnS.grown hHeld hgrow3 (fun j hj => XW.out.ne (by omega)) hXb trivial) (fun hHeld => ?_)
                    clear hK K
                    try simp only [Act.put, List.setIfInBounds_toArray, List.set_cons_zero, List.set_cons_succ, List.getElem_toArray, List.getElem_cons_succ, List.getElem_cons_zero]
                    refine wpAnyH_take (i := 11) (v := ?_) rfl (by kernel_rfl) (by kernel_rfl) (by kernel_rfl) (fun _ _ _ h => h) (Or.inl ⟨by rfl, ?_⟩) (by assumption) ?_
                    rotate_left
                    · intro w' hSw
                      go_simp <;> with_reducible rfl
                    try simp only [Act.put, List.setIfInBounds_toArray, List.set_cons_zero, List.set_cons_succ, List.getElem_toArray, List.getElem_cons_succ, List.getElem_cons_zero]
                    refine wpAnyH_ready (rs := [12]) (by kernel_rfl) (by simp) ?_
                    refine AllReadyH.cons rfl (fun K hK => ?_) AllReadyH.nil
                    · go_simp
                      refine hK.out _ _ (by exact OnS.set hHeld _ trivial (by omega) (by omega)) (fun hHeld => ?_)
                      clear hK K
                      try simp only [Act.put, List.setIfInBounds_toArray, List.set_cons_zero, List.set_cons_succ, List.getElem_toArray, List.getElem_cons_succ, List.getElem_cons_zero]
                      refine wpAnyH_done (by kernel_rfl) ?_ _
                      clear hc3 hc4 hc5 hf5 hown3 hgrow3 hat3 hlt3 hB3 hHeld
                      go_wp2_with fail
                      go_roundw
                      case rel =>
                        refine ⟨k + 1, .slice (some ⟨g, 0, none⟩) ((onL ls (l.take k)).length + 1) cap, by omega, by go_num, ?_⟩
                        rw [onL_take ls l k hlt]
                        exact HFIN.out
                      case measure => simp [intOf]; omega
          · have htk : l.take k = l := List.take_of_length_le (by omega)
            rw [htk] at XW
            obtain ⟨a9, c9, hu9, hsl9⟩ := XW.out.sl
            subst hu9
            have S9 := hide hsl9
            have r0 : wr.cell? ⟨w.heap.size + 1, 0, none⟩ = some (.string ⟨#[]⟩) := XR.out.cell 0
            have r1 : wr.cell? ⟨w.heap.size + 1, 1, none⟩ = some (.slice none 0 0) := XR.out.cell 1
            have rf := XR.out.frozen
            clear hsl9 htk
            go_wp2_with fail
            refine bodyPost_ret (v := .agg #[.string s, .slice a9 (onL ls l).length c9]) (by simp [results, Try.results51, go_sem, World.cell?_setCell_same, World.cell?_setCell_other, r0, r1]) rfl ?_
            rw [HD.out]
            refine ⟨a9, c9, rfl, (S9.out.kept fun b hb => ?_).mono fun b hb _ => hb.imp id (fun h => by omega), (XE.out.setCell (by simp) _).setCell (by simp) _⟩
            have hbne : b ≠ w.heap.size + 1 := by
              rcases hb with h | h
              · have := h.2; omega
              · omega
            rw [Below.heap_setCell _ _ _ _ (by simpa using hbne), Below.heap_setCell _ _ _ _ (by simpa using hbne)]
    · have HD : Hid (onT ls ⟨s, l⟩ = ⟨s, onL ls l⟩) := onT_deep (Or.inr hf)
      clear hf
      go_wp2_with fail
      have T3 := hide ((T1.out.alloc (.cells #[.string ⟨#[]⟩, .slice none 0 0] 25)).alloc (.cells #[.string s, .slice none 0 0] 25))
      have R3 := hide ((R1.out.alloc (.cells #[.string ⟨#[]⟩, .slice none 0 0] 25)).alloc (.cells #[.string s, .slice none 0 0] 25))
      have O3 := hide (Blk.new (w1.alloc (.cells #[.string ⟨#[]⟩, .slice none 0 0] 25)) #[.string s, .slice none 0 0] 25)
      have B3 := hide ((B1.out.alloc B1.out.size (.cells #[.string ⟨#[]⟩, .slice none 0 0] 25)).alloc (by have := B1.out.size; simp; omega) (.cells #[.string s, .slice none 0 0] 25))
      have HO3 := hide (O3.out.lt)
      have hO : w.heap.size + 2 ≤ (w1.alloc (.cells #[.string ⟨#[]⟩, .slice none 0 0] 25)).heap.size := by have := R1.out.lt; simp; omega
      have eO : (w1.alloc (.cells #[.string ⟨#[]⟩, .slice none 0 0] 25)).heap.size = w1.heap.size + 1 := by simp
      rw [eO] at O3 HO3 hO
      clear eO
      generalize (w1.alloc (.cells #[.string ⟨#[]⟩, .slice none 0 0] 25)).alloc (.cells #[.string s, .slice none 0 0] 25) = w3 at *
      generalize w1.heap.size + 1 = O at *
      clear t0 t1
      have hY : ∀ b, (X b ∧ b < w.heap.size) → b < w.heap.size := fun b h => h.2
      go_loopw [8] (fun i wr => OnInv w (fun b => X b ∧ b < w.heap.size) O s a c ls l i wr) (fun i wr => l.length - (intOf i).toNat)
      case atStart => exact ⟨0, .slice none 0 0, Nat.zero_le _, rfl, [], by have h := Row.start w3 (O + 1) 25 (fun b => X b ∧ b < w.heap.size); simpa [onL] using h, B3.out, T3.out, R3.out, O3.out, HO3.out⟩
      case round =>
        obtain ⟨k, u9, hk, rfl, xs, hrow, hbb, hT, hR, hOb, hOl⟩ := hrel
        have XW := hide hrow
        have XE := hide hbb
        have XT := hide hT
        have XR := hide hR
        have XO := hide hOb
        clear hrow hbb hT hR hOb
        have c0 : wr.cell? ⟨w.heap.size, 0, none⟩ = some (.string s) := XT.out.cell 0
        have c1 : wr.cell? ⟨w.heap.size, 1, none⟩ = some (.slice a l.length c) := XT.out.cell 1
        have o0 : wr.cell? ⟨O, 0, none⟩ = some (.string s) := XO.out.cell 0
        have o1 : wr.cell? ⟨O, 1, none⟩ = some u9 := XO.out.cell 1
        by_cases hlt : k < l.length
        · obtain ⟨b, o, a', c', rfl, d0, d1, hx⟩ := (HS.out.mono (Y := fun b => X b ∧ b < w.heap.size) fun b h1 h2 => ⟨h1, h2⟩).get XE.out (fun b h _ => h.2) k hlt
          have HX := hide hx
          have hXb : b < w.heap.size := hxb HS.out (Nat.lt_of_le_of_lt (Nat.zero_le k) hlt)
          have hszk : sizeL [l[k]] ≤ 1000000 := by
            have := sizeL_take l k hlt
            have := sizeL_take_le l (k + 1)
            omega
          have hOL : (onL ls (l.take k)).length = k := by rw [onL_length]; simp; omega
          have IHQ : Hid (Calls Try.prog 51 #[u, .agg #[.string l[k].name, .slice a' l[k].args.length c']] wr.drew fun e w'' => ∃ a1 c1, e = .returned (.agg #[.string (onT ls l[k]).name, .slice a1 (onT ls l[k]).args.length c1]) ∧ Sl w'' (fun b => (X b ∧ b < w.heap.size) ∨ wr.heap.size ≤ b) a1 (onT ls l[k]).args ∧ Below wr.heap.size wr w'') := (IH.out l[k] (List.getElem_mem hlt) u _ wr.drew (fun b => X b ∧ b < w.heap.size) ((HU.out.mono fun b h1 h2 => ⟨h1, h2⟩).later (XE.out.drew)) (HX.out.later ((Below.refl wr.heap.size wr).drew)) hszk).mono fun e w'' hp => by
            obtain ⟨a1, c1, h1, h2, h3⟩ := hp
            exact ⟨a1, c1, h1, h2.mono (fun b hb _ => hb.imp (fun h => h.1) id), ((Below.refl wr.heap.size wr).drew).trans h3⟩
          have HN1 : Hid (∀ a1 c1, ∀ x ∈ [Value.string (onT ls l[k]).name, Value.slice a1 (onT ls l[k]).args.length c1], x.oneCell' = true) := fun a1 c1 x hx => by simp at hx; rcases hx with rfl | rfl <;> rfl
          have HL1 : Hid ((onL ls (l.take k)).length + 1 ≤ maxLen ∧ ((onL ls (l.take k)).length + 1) * 40 ≤ 140737488355328) := ⟨by rw [hOL]; unfold maxLen; omega, by rw [hOL]; omega⟩
          clear hOL
          have HBW : Hid (w.heap.size < wr.heap.size ∧ b < wr.heap.size) := ⟨XT.out.lt, by have := XT.out.lt; omega⟩
          have HS8 : Hid (OnS w b (o + k * 2) s (some ⟨b, o, none⟩) l.length c l[k].name (.slice a' l[k].args.length c') wr) := ⟨XT.out, d0, d1⟩
          go_wp2_with fail
          refine wp_region_held_drew (S := OnS w b (o + k * 2) s (some ⟨b, o, none⟩) l.length c l[k].name (.slice a' l[k].args.length c')) (by kernel_rfl) (by exact HS8.out) (fun hHeld => ?_)
          refine wpAnyH_take (i := 0) (v := ?_) rfl (by kernel_rfl) (by kernel_rfl) (by kernel_rfl) (fun _ _ _ h => h) (Or.inl ⟨by rfl, ?_⟩) (by assumption) ?_
          rotate_left
          · intro w' hSw
            go_simp <;> with_reducible rfl
          try simp only [Act.put, List.setIfInBounds_toArray, List.set_cons_zero, List.set_cons_succ, List.getElem_toArray, List.getElem_cons_succ, List.getElem_cons_zero]
          refine wpAnyH_take (i := 2) (v := ?_) rfl (by kernel_rfl) (by kernel_rfl) (by kernel_rfl) (fun _ _ _ h => h) (Or.inl ⟨by rfl, ?_⟩) (by assumption) ?_
          rotate_left
          · intro w' hSw
            go_simp <;> with_reducible rfl
          try simp only [Act.put, List.setIfInBounds_toArray, List.set_cons_zero, List.set_cons_succ, List.getElem_toArray, List.getElem_cons_succ, List.getElem_cons_zero]
          refine wpAnyH_take (i := 3) (v := ?_) rfl (by kernel_rfl) (by kernel_rfl) (by kernel_rfl) (fun _ _ _ h => h) (Or.inl ⟨by rfl, ?_⟩) (by assumption) ?_
          rotate_left
          · intro w' hSw
            go_simp <;> with_reducible rfl
          try simp only [Act.put, List.setIfInBounds_toArray, List.set_cons_zero, List.set_cons_succ, List.getElem_toArray, List.getElem_cons_succ, List.getElem_cons_zero]
          refine wpAnyH_take (i := 5) (v := ?_) rfl (by kernel_rfl) (by kernel_rfl) (by kernel_rfl) (fun _ _ _ h => h) (Or.inl ⟨by rfl, ?_⟩) (by assumption) ?_
          rotate_left
          · intro w' hSw
            go_simp <;> with_reducible rfl
          try simp only [Act.put, List.setIfInBounds_toArray, List.set_cons_zero, List.set_cons_succ, List.getElem_toArray, List.getElem_cons_succ, List.getElem_cons_zero]
          refine wpAnyH_take (i := 4) (v := ?_) rfl (by kernel_rfl) (by kernel_rfl) (by kernel_rfl) (fun _ _ _ h => h) (Or.inl ⟨by rfl, ?_⟩) (by assumption) ?_
          rotate_left
          · intro w' hSw
            have k1 : w'.cell? ⟨w.heap.size, 1, none⟩ = some (.slice (some ⟨b, o, none⟩) l.length c) := hSw.1.cell 1
            go_simp <;> with_reducible rfl
          try simp only [Act.put, List.setIfInBounds_toArray, List.set_cons_zero, List.set_cons_succ, List.getElem_toArray, List.getElem_cons_succ, List.getElem_cons_zero]
          refine wpAnyH_take (i := 6) (v := ?_) rfl (by kernel_rfl) (by kernel_rfl) (by kernel_rfl) (fun _ _ _ h => h) (Or.inl ⟨by rfl, ?_⟩) (by assumption) ?_
          rotate_left
          · intro w' hSw
            go_simp <;> with_reducible rfl
          try simp only [Act.put, List.setIfInBounds_toArray, List.set_cons_zero, List.set_cons_succ, List.getElem_toArray, List.getElem_cons_succ, List.getElem_cons_zero]
          refine wpAnyH_take (i := 7) (v := ?_) rfl (by kernel_rfl) (by kernel_rfl) (by kernel_rfl) (fun _ _ _ h => h) (Or.inl ⟨by rfl, ?_⟩) (by assumption) ?_
          rotate_left
          · intro w' hSw
            have k2 := hSw.2.1
            have k3 := hSw.2.2
            go_simp <;> with_reducible rfl
          try simp only [Act.put, List.setIfInBounds_toArray, List.set_cons_zero, List.set_cons_succ, List.getElem_toArray, List.getElem_cons_succ, List.getElem_cons_zero]
          refine wpAnyH_ready (rs := [1, 8]) (by kernel_rfl) (by simp) ?_
          refine AllReadyH.cons rfl (fun K hK => ?_) (AllReadyH.cons rfl (fun K hK => ?_) AllReadyH.nil)
          · go_simp
            refine hK.out _ _ (by exact hHeld) (fun hHeld => ?_)
            clear hK K
            try simp only [Act.put, List.setIfInBounds_toArray, List.set_cons_zero, List.set_cons_succ, List.getElem_toArray, List.getElem_cons_succ, List.getElem_cons_zero]
            refine wpAnyH_ready (rs := [8]) (by kernel_rfl) (by simp) ?_
            refine AllReadyH.cons rfl (fun K hK => ?_) AllReadyH.nil
            · go_simp
              go_at_call 51
              refine IHQ.out.mono ?_
              rintro e w1 ⟨a1, c1, rfl, hs1, hb1⟩
              have hc3 : ∀ o, (w1.alloc o).cell? ⟨O, 1, none⟩ = some u9 := fun o => ((XO.out.below hb1 hOl).alloc o).cell 1
              have hc4 : w1.cell? ⟨O, 1, none⟩ = some u9 := (XO.out.below hb1 hOl).cell 1
              go_simp
              refine hK.out _ _ (by exact OnS.below HS8.out hb1 HBW.out) (fun hHeld => ?_)
              clear hK K
              try simp only [Act.put, List.setIfInBounds_toArray, List.set_cons_zero, List.set_cons_succ, List.getElem_toArray, List.getElem_cons_succ, List.getElem_cons_zero]
              refine wpAnyH_ready (rs := [9]) (by kernel_rfl) (by simp) ?_
              refine AllReadyH.cons rfl (fun K hK => ?_) AllReadyH.nil
              · go_simp
                refine hK.out _ _ (by exact hHeld.alloc _) (fun hHeld => ?_)
                clear hK K
                try simp only [Act.put, List.setIfInBounds_toArray, List.set_cons_zero, List.set_cons_succ, List.getElem_toArray, List.getElem_cons_succ, List.getElem_cons_zero]
                refine wpAnyH_ready (rs := [10]) (by kernel_rfl) (by simp) ?_
                refine AllReadyH.cons rfl (fun K hK => ?_) AllReadyH.nil
                · refine step_append_lies _ rfl _ _ 23 rfl (O + 1) 25 i0 _ 2 40 Try.underlying23 hi0 hz0 hz1 hz2 rfl (by decide) u9 (onL ls (l.take k)).length xs rfl (by exact (XW.out.below hb1).own.alloc _) ⟨w1.heap.size, 0, none⟩ 1 1 [.string (onT ls l[k]).name, .slice a1 (onT ls l[k]).args.length c1] rfl rfl (cell_two_new _ _ _ _) (HN1.out a1 c1) (by decide) HL1.out.1 HL1.out.2 (by have := hb1.size; simp; omega) _ rfl ?_
                  intro g cap w3 hown3 hgrow3 hat3 hlt3
                  have hB3 := hide (((XO.out.below hb1 hOl).alloc _).grown hgrow3 (XW.out.ne (Nat.lt_succ_self _)))
                  have hc5 : w3.cell? ⟨O, 1, none⟩ = some u9 := hB3.out.cell 1
                  have hf5 := hB3.out.frozen 1
                  have HFIN := hide (on_step (c := c) (n := l.length) (a := some ⟨b, o, none⟩) hO hY XW.out XE.out XT.out XR.out XO.out hb1 ⟨a1, c1, rfl, hs1⟩ hown3 hgrow3 hat3)
                  refine hK.out _ _ (by exact OnS.grown hHeld hgrow3 (fun j hj => XW.out.ne (by omega)) hXb trivial) (fun hHeld => ?_)
                  clear hK K
                  try simp only [Act.put, List.setIfInBounds_toArray, List.set_cons_zero, List.set_cons_succ, List.getElem_toArray, List.getElem_cons_succ, List.getElem_cons_zero]
                  refine wpAnyH_take (i := 11) (v := ?_) rfl (by kernel_rfl) (by kernel_rfl) (by kernel_rfl) (fun _ _ _ h => h) (Or.inl ⟨by rfl, ?_⟩) (by assumption) ?_
                  rotate_left
                  · intro w' hSw
                    go_simp <;> with_reducible rfl
                  try simp only [Act.put, List.setIfInBounds_toArray, List.set_cons_zero, List.set_cons_succ, List.getElem_toArray, List.getElem_cons_succ, List.getElem_cons_zero]
                  refine wpAnyH_ready (rs := [12]) (by kernel_rfl) (by simp) ?_
                  refine AllReadyH.cons rfl (fun K hK => ?_) AllReadyH.nil
                  · go_simp
                    refine hK.out _ _ (by exact OnS.set hHeld _ trivial (by omega) (by omega)) (fun hHeld => ?_)
                    clear hK K
                    try simp only [Act.put, List.setIfInBounds_toArray, List.set_cons_zero, List.set_cons_succ, List.getElem_toArray, List.getElem_cons_succ, List.getElem_cons_zero]
                    refine wpAnyH_done (by kernel_rfl) ?_ _
                    clear hc3 hc4 hc5 hf5 hown3 hgrow3 hat3 hlt3 hB3 hHeld
                    go_wp2_with fail
                    go_roundw
                    case rel =>
                      refine ⟨k + 1, .slice (some ⟨g, 0, none⟩) ((onL ls (l.take k)).length + 1) cap, by omega, by go_num, ?_⟩
                      rw [onL_take ls l k hlt]
                      exact HFIN.out
                    case measure => simp [intOf]; omega
          · go_simp
            go_at_call 51
            refine IHQ.out.mono ?_
            rintro e w1 ⟨a1, c1, rfl, hs1, hb1⟩
            have hc3 : ∀ o, (w1.alloc o).cell? ⟨O, 1, none⟩ = some u9 := fun o => ((XO.out.below hb1 hOl).alloc o).cell 1
            have hc4 : w1.cell? ⟨O, 1, none⟩ = some u9 := (XO.out.below hb1 hOl).cell 1
            go_simp
            refine hK.out _ _ (by exact OnS.below HS8.out hb1 HBW.out) (fun hHeld => ?_)
            clear hK K
            try simp only [Act.put, List.setIfInBounds_toArray, List.set_cons_zero, List.set_cons_succ, List.getElem_toArray, List.getElem_cons_succ, List.getElem_cons_zero]
            refine wpAnyH_ready (rs := [1, 9]) (by kernel_rfl) (by simp) ?_
            refine AllReadyH.cons rfl (fun K hK => ?_) (AllReadyH.cons rfl (fun K hK => ?_) AllReadyH.nil)
            · go_simp
              refine hK.out _ _ (by exact hHeld) (fun hHeld => ?_)
              clear hK K
              try simp only [Act.put, List.setIfInBounds_toArray, List.set_cons_zero, List.set_cons_succ, List.getElem_toArray, List.getElem_cons_succ, List.getElem_cons_zero]
              refine wpAnyH_ready (rs := [9]) (by kernel_rfl) (by simp) ?_
              refine AllReadyH.cons rfl (fun K hK => ?_) AllReadyH.nil
              · go_simp
                refine hK.out _ _ (by exact hHeld.alloc _) (fun hHeld => ?_)
                clear hK K
                try simp only [Act.put, List.setIfInBounds_toArray, List.set_cons_zero, List.set_cons_succ, List.getElem_toArray, List.getElem_cons_succ, List.getElem_cons_zero]
                refine wpAnyH_ready (rs := [10]) (by kernel_rfl) (by simp) ?_
                refine AllReadyH.cons rfl (fun K hK => ?_) AllReadyH.nil
                · refine step_append_lies _ rfl _ _ 23 rfl (O + 1) 25 i0 _ 2 40 Try.underlying23 hi0 hz0 hz1 hz2 rfl (by decide) u9 (onL ls (l.take k)).length xs rfl (by exact (XW.out.below hb1).own.alloc _) ⟨w1.heap.size, 0, none⟩ 1 1 [.string (onT ls l[k]).name, .slice a1 (onT ls l[k]).args.length c1] rfl rfl (cell_two_new _ _ _ _) (HN1.out a1 c1) (by decide) HL1.out.1 HL1.out.2 (by have := hb1.size; simp; omega) _ rfl ?_
                  intro g cap w3 hown3 hgrow3 hat3 hlt3
                  have hB3 := hide (((XO.out.below hb1 hOl).alloc _).grown hgrow3 (XW.out.ne (Nat.lt_succ_self _)))
                  have hc5 : w3.cell? ⟨O, 1, none⟩ = some u9 := hB3.out.cell 1
                  have hf5 := hB3.out.frozen 1
                  have HFIN := hide (on_step (c := c) (n := l.length) (a := some ⟨b, o, none⟩) hO hY XW.out XE.out XT.out XR.out XO.out hb1 ⟨a1, c1, rfl, hs1⟩ hown3 hgrow3 hat3)
                  refine hK.out _ _ (by exact OnS.grown hHeld hgrow3 (fun j hj => XW.out.ne (by omega)) hXb trivial) (fun hHeld => ?_)
                  clear hK K
                  try simp only [Act.put, List.setIfInBounds_toArray, List.set_cons_zero, List.set_cons_succ, List.getElem_toArray, List.getElem_cons_succ, List.getElem_cons_zero]
                  refine wpAnyH_take (i := 11) (v := ?_) rfl (by kernel_rfl) (by kernel_rfl) (by kernel_rfl) (fun _ _ _ h => h) (Or.inl ⟨by rfl, ?_⟩) (by assumption) ?_
                  rotate_left
                  · intro w' hSw
                    go_simp <;> with_reducible rfl
                  try simp only [Act.put, List.setIfInBounds_toArray, List.set_cons_zero, List.set_cons_succ, List.getElem_toArray, List.getElem_cons_succ, List.getElem_cons_zero]
                  refine wpAnyH_ready (rs := [12]) (by kernel_rfl) (by simp) ?_
                  refine AllReadyH.cons rfl (fun K hK => ?_) AllReadyH.nil
                  · go_simp
                    refine hK.out _ _ (by exact OnS.set hHeld _ trivial (by omega) (by omega)) (fun hHeld => ?_)
                    clear hK K
                    try simp only [Act.put, List.setIfInBounds_toArray, List.set_cons_zero, List.set_cons_succ, List.getElem_toArray, List.getElem_cons_succ, List.getElem_cons_zero]
                    refine wpAnyH_done (by kernel_rfl) ?_ _
                    clear hc3 hc4 hc5 hf5 hown3 hgrow3 hat3 hlt3 hB3 hHeld
                    go_wp2_with fail
                    go_roundw
                    case rel =>
                      refine ⟨k + 1, .slice (some ⟨g, 0, none⟩) ((onL ls (l.take k)).length + 1) cap, by omega, by go_num, ?_⟩
                      rw [onL_take ls l k hlt]
                      exact HFIN.out
                    case measure => simp [intOf]; omega
            · go_simp
              refine hK.out _ _ (by exact hHeld.alloc _) (fun hHeld => ?_)
              clear hK K
              try simp only [Act.put, List.setIfInBounds_toArray, List.set_cons_zero, List.set_cons_succ, List.getElem_toArray, List.getElem_cons_succ, List.getElem_cons_zero]
              refine wpAnyH_ready (rs := [1]) (by kernel_rfl) (by simp) ?_
              refine AllReadyH.cons rfl (fun K hK => ?_) AllReadyH.nil
              · go_simp
                refine hK.out _ _ (by exact hHeld) (fun hHeld => ?_)
                clear hK K
                try simp only [Act.put, List.setIfInBounds_toArray, List.set_cons_zero, List.set_cons_succ, List.getElem_toArray, List.getElem_cons_succ, List.getElem_cons_zero]
                refine wpAnyH_ready (rs := [10]) (by kernel_rfl) (by simp) ?_
                refine AllReadyH.cons rfl (fun K hK => ?_) AllReadyH.nil
                · refine step_append_lies _ rfl _ _ 23 rfl (O + 1) 25 i0 _ 2 40 Try.underlying23 hi0 hz0 hz1 hz2 rfl (by decide) u9 (onL ls (l.take k)).length xs rfl (by exact (XW.out.below hb1).own.alloc _) ⟨w1.heap.size, 0, none⟩ 1 1 [.string (onT ls l[k]).name, .slice a1 (onT ls l[k]).args.length c1] rfl rfl (cell_two_new _ _ _ _) (HN1.out a1 c1) (by decide) HL1.out.1 HL1.out.2 (by have := hb1.size; simp; omega) _ rfl ?_
                  intro g cap w3 hown3 hgrow3 hat3 hlt3
                  have hB3 := hide (((XO.out.below hb1 hOl).alloc _).grown hgrow3 (XW.out.ne (Nat.lt_succ_self _)))
                  have hc5 : w3.cell? ⟨O, 1, none⟩ = some u9 := hB3.out.cell 1
                  have hf5 := hB3.out.frozen 1
                  have HFIN := hide (on_step (c := c) (n := l.length) (a := some ⟨b, o, none⟩) hO hY XW.out XE.out XT.out XR.out XO.out hb1 ⟨a1, c1, rfl, hs1⟩ hown3 hgrow3 hat3)
                  refine hK.out _ _ (by exact OnS.grown hHeld hgrow3 (fun j hj => XW.out.ne (by omega)) hXb trivial) (fun hHeld => ?_)
                  clear hK K
                  try simp only [Act.put, List.setIfInBounds_toArray, List.set_cons_zero, List.set_cons_succ, List.getElem_toArray, List.getElem_cons_succ, List.getElem_cons_zero]
                  refine wpAnyH_take (i := 11) (v := ?_) rfl (by kernel_rfl) (by kernel_rfl) (by kernel_rfl) (fun _ _ _ h => h) (Or.inl ⟨by rfl, ?_⟩) (by assumption) ?_
                  rotate_left
                  · intro w' hSw
                    go_simp <;> with_reducible rfl
                  try simp only [Act.put, List.setIfInBounds_toArray, List.set_cons_zero, List.set_cons_succ, List.getElem_toArray, List.getElem_cons_succ, List.getElem_cons_zero]
                  refine wpAnyH_ready (rs := [12]) (by kernel_rfl) (by simp) ?_
                  refine AllReadyH.cons rfl (fun K hK => ?_) AllReadyH.nil
                  · go_simp
                    refine hK.out _ _ (by exact OnS.set hHeld _ trivial (by omega) (by omega)) (fun hHeld => ?_)
                    clear hK K
                    try simp only [Act.put, List.setIfInBounds_toArray, List.set_cons_zero, List.set_cons_succ, List.getElem_toArray, List.getElem_cons_succ, List.getElem_cons_zero]
                    refine wpAnyH_done (by kernel_rfl) ?_ _
                    clear hc3 hc4 hc5 hf5 hown3 hgrow3 hat3 hlt3 hB3 hHeld
                    go_wp2_with fail
                    go_roundw
                    case rel =>
                      refine ⟨k + 1, .slice (some ⟨g, 0, none⟩) ((onL ls (l.take k)).length + 1) cap, by omega, by go_num, ?_⟩
                      rw [onL_take ls l k hlt]
                      exact HFIN.out
                    case measure => simp [intOf]; omega
        · have htk : l.take k = l := List.take_of_length_le (by omega)
          rw [htk] at XW
          obtain ⟨a9, c9, hu9, hsl9⟩ := XW.out.sl
          subst hu9
          have S9 := hide hsl9
          have r0 : wr.cell? ⟨w.heap.size + 1, 0, none⟩ = some (.string ⟨#[]⟩) := XR.out.cell 0
          have r1 : wr.cell? ⟨w.heap.size + 1, 1, none⟩ = some (.slice none 0 0) := XR.out.cell 1
          have rf := XR.out.frozen
          clear hsl9 htk
          go_wp2_with fail
          refine bodyPost_ret (v := .agg #[.string s, .slice a9 (onL ls l).length c9]) (by simp [results, Try.results51, go_sem, World.cell?_setCell_same, World.cell?_setCell_other, r0, r1]) rfl ?_
          rw [HD.out]
          refine ⟨a9, c9, rfl, (S9.out.kept fun b hb => ?_).mono fun b hb _ => hb.imp id (fun h => by omega), (XE.out.setCell (by simp) _).setCell (by simp) _⟩
          have hbne : b ≠ w.heap.size + 1 := by
            rcases hb with h | h
            · have := h.2; omega
            · omega
          rw [Below.heap_setCell _ _ _ _ (by simpa using hbne), Below.heap_setCell _ _ _ _ (by simpa using hbne)]
#print axioms on_any
end Go.Proofs.Ytcjdbbdmighliac

/- Walks: a term with bindings in it, if it isn't too great; whether bindings may be. -/
namespace Go.Proofs.Ytcjdbbdmighliac
open Go.RowKit
set_option linter.unusedSimpArgs false
set_option linter.unusedVariables false
set_option maxRecDepth 8000

def OnAll (w : World) (X : Nat → Prop) (t : Tm) (e : Ending) (w' : World) : Prop :=
  Below w.heap.size w w' ∧ ((2000 < sizeL [t] ∧ e = .returned (.tuple #[.agg #[.string ⟨#[]⟩, .slice none 0 0], .bool false])) ∨ (sizeL [t] ≤ 2000 ∧ ∃ a c, e = .returned (.tuple #[.agg #[.string t.name, .slice a t.args.length c], .bool true]) ∧ Sl w' (fun b => (X b ∧ b < w.heap.size) ∨ w.heap.size ≤ b) a t.args))

set_option maxHeartbeats 1000000 in
theorem onAll_any (ls : List Bd) (t : Tm) (u v : Value) (w : World) (X : Nat → Prop) (hu : BV w X u ls) (hv : TV w X v t) (hsm : sizeL [t] ≤ 1000000) :
    Calls Try.prog 19 #[u, v] w fun e w' => OnAll w X (onT ls t) e w' := by
  obtain ⟨a, c, rfl, hs⟩ := hv
  have HU := hide (hu.mono (Y := fun b => X b ∧ b < w.heap.size) fun b h1 h2 => ⟨h1, h2⟩)
  have HS := hide (hs.mono (Y := fun b => X b ∧ b < w.heap.size) fun b h1 h2 => ⟨h1, h2⟩)
  clear hu hs
  go_enter Try.func19, Try.ntmps19
  go_wp2_with fail
  refine (grown_any ls t u _ 2000 _ (fun b => X b ∧ b < w.heap.size) (by exact (HU.out.alloc _).alloc _) (by exact ⟨a, c, rfl, (HS.out.later ((Below.refl _ _).alloc (Nat.le_refl _) _)).later ((Below.refl _ _).alloc (Nat.le_refl _) _)⟩) (by decide) (by decide)).mono ?_
  rintro e w1 ⟨rfl, hb1⟩
  have T1 := hide (((Blk.new w #[.string t.name, .slice a t.args.length c] 25).alloc (.cells #[.string ⟨#[]⟩, .slice none 0 0] 25)).below hb1 (by simp; omega))
  have R1 : Hid (Blk w1 (w.heap.size + 1) #[.string ⟨#[]⟩, .slice none 0 0] 25) := by
    have h := (Blk.new (w.alloc (.cells #[.string t.name, .slice a t.args.length c] 25)) #[.string ⟨#[]⟩, .slice none 0 0] 25).below hb1 (by simp)
    unfold Hid
    simpa using h
  have B1 := hide ((((Below.refl w.heap.size w).alloc (Nat.le_refl _) (.cells #[.string t.name, .slice a t.args.length c] 25)).alloc (by simp) (.cells #[.string ⟨#[]⟩, .slice none 0 0] 25)).trans (hb1.mono (by simp; omega)))
  clear hb1
  have t0 : w1.cell? ⟨w.heap.size, 0, none⟩ = some (.string t.name) := T1.out.cell 0
  have t1 : w1.cell? ⟨w.heap.size, 1, none⟩ = some (.slice a t.args.length c) := T1.out.cell 1
  have r0 : w1.cell? ⟨w.heap.size + 1, 0, none⟩ = some (.string ⟨#[]⟩) := R1.out.cell 0
  have r1 : w1.cell? ⟨w.heap.size + 1, 1, none⟩ = some (.slice none 0 0) := R1.out.cell 1
  have rf := R1.out.frozen
  by_cases hg : 2000 < sizeL [onT ls t]
  · have hmin : min (sizeL [onT ls t] : Int) (2000 + 1) = 2001 := by omega
    rw [hmin]
    go_wp2_with fail
    refine bodyPost_ret (v := .tuple #[.agg #[.string ⟨#[]⟩, .slice none 0 0], .bool false]) (by simp [results, Try.results19, go_sem, World.cell?_setCell_same, World.cell?_setCell_other, r0, r1]) rfl ?_
    exact ⟨(B1.out.setCell (by simp) _).setCell (by simp) _, Or.inl ⟨hg, rfl⟩⟩
  · have hmin : min (sizeL [onT ls t] : Int) (2000 + 1) = sizeL [onT ls t] := by omega
    rw [hmin]
    have hle : ¬ (2000 : Int) < (sizeL [onT ls t] : Int) := by omega
    clear hmin
    go_wp2_with fail
    refine (on_any ls t u _ _ (fun b => X b ∧ b < w.heap.size) (by exact HU.out.later B1.out) (by exact ⟨a, c, rfl, HS.out.later B1.out⟩) hsm).mono ?_
    rintro e w2 ⟨a2, c2, rfl, hs2, hb2⟩
    have R2 := hide (R1.out.below hb2 R1.out.lt)
    have B2 := hide (B1.out.trans (hb2.mono B1.out.size))
    have S2 := hide (hs2.mono (Y := fun b => (X b ∧ b < w.heap.size) ∨ w.heap.size + 2 ≤ b) fun b hb _ => hb.imp (fun h => h.1) (fun h => by have := R1.out.lt; omega))
    clear hb2 hs2 r0 r1 rf t0 t1
    have r0 : w2.cell? ⟨w.heap.size + 1, 0, none⟩ = some (.string ⟨#[]⟩) := R2.out.cell 0
    have r1 : w2.cell? ⟨w.heap.size + 1, 1, none⟩ = some (.slice none 0 0) := R2.out.cell 1
    have rf := R2.out.frozen
    go_wp2_with fail
    refine bodyPost_ret (v := .tuple #[.agg #[.string (onT ls t).name, .slice a2 (onT ls t).args.length c2], .bool true]) (by simp [results, Try.results19, go_sem, World.cell?_setCell_same, World.cell?_setCell_other, r0, r1]) rfl ?_
    refine ⟨(B2.out.setCell (by simp) _).setCell (by simp) _, Or.inr ⟨by omega, a2, c2, rfl, (S2.out.kept fun b hb => ?_).mono fun b hb _ => hb.imp id (fun h => by omega)⟩⟩
    have hbne : b ≠ w.heap.size + 1 := by
      rcases hb with h | h
      · have := h.2; omega
      · omega
    rw [Below.heap_setCell _ _ _ _ (by simpa using hbne), Below.heap_setCell _ _ _ _ (by simpa using hbne)]

#print axioms onAll_any
end Go.Proofs.Ytcjdbbdmighliac


/- Walks: pairs of which nothing is said; whether pairs may be. -/
namespace Go.Proofs.Ytcjdbbdmighliac
open Go.RowKit
set_option linter.unusedSimpArgs false
set_option linter.unusedVariables false
set_option maxRecDepth 8000

def hugeQ1 (p : Pr) : Bool := decide (3000 < sizeL [p.l]) || decide (3000 < sizeL [p.r])
def hugeQL (l : List Pr) : Bool := l.any hugeQ1
def hugeQ (ls : List Pr) : Bool := hugeQL ls || decide (100 < ls.length)
theorem hugeQL_take {l : List Pr} {k : Nat} (h : k < l.length) : hugeQL (l.take (k + 1)) = (hugeQL (l.take k) || hugeQ1 l[k]) := by
  unfold hugeQL; rw [List.take_succ_eq_append_getElem h, List.any_append]; simp
theorem hugeQL_yes {l : List Pr} {k : Nat} (h : k < l.length) (h0 : hugeQ1 l[k] = true) : hugeQ l = true := by
  have e : hugeQL l = true := by
    unfold hugeQL
    rw [List.any_eq_true]
    exact ⟨l[k], List.getElem_mem h, h0⟩
  unfold hugeQ
  rw [e]; rfl
theorem hugeQ_no {ls : List Pr} (h : hugeQ ls = false) : ls.length ≤ 100 ∧ ∀ d ∈ ls, sizeL [d.l] ≤ 3000 ∧ sizeL [d.r] ≤ 3000 := by
  unfold hugeQ hugeQL hugeQ1 at h
  simp only [Bool.or_eq_false_iff, List.any_eq_false, decide_eq_true_eq, decide_eq_false_iff_not, Bool.or_eq_true] at h
  exact ⟨by omega, fun d hd => by have := h.1 d hd; omega⟩
def HqInv (ls : List Pr) (w : World) (v : Value) (wr : World) : Prop := ∃ k : Nat, v = .int .i64 (k : Int) ∧ k ≤ ls.length ∧ hugeQL (ls.take k) = false ∧ Below w.heap.size w wr

set_option maxHeartbeats 1000000 in
theorem hugePairs_any (ls : List Pr) (u : Value) (w : World) (X : Nat → Prop) (hu : QV w X u ls) :
    Calls Try.prog 21 #[u] w fun e w' => e = .returned (.bool (hugeQ ls)) ∧ Below w.heap.size w w' := by
  have HU := hide (hu.mono (Y := fun b => X b ∧ b < w.heap.size) fun b h1 h2 => ⟨h1, h2⟩)
  obtain ⟨a, c, rfl, hl, hu2⟩ := hu
  clear hu2
  go_enter Try.func21, Try.ntmps21
  go_wp2_with fail
  go_loopw [3] (fun v wr => HqInv ls w v wr) (fun v wr => ls.length - (intOf v).toNat)
  case atStart => exact ⟨0, rfl, Nat.zero_le _, rfl, Below.refl _ _⟩
  case round =>
    obtain ⟨k, rfl, hk, hT, hb⟩ := hrel
    have HB := hide hb
    have HT := hide hT
    clear hT
    by_cases hlt : k < ls.length
    · obtain ⟨b, o, a1, c1, a2, c2, rfl, d0, d1, d2, d3, hs1, hs2⟩ := (HU.out.later hb).get k hlt
      have hlt2 : (k : Int) < (ls.length : Int) := by omega
      have HX1 := hide hs1
      have HX2 := hide hs2
      have HY := hide (hugeQL_yes hlt)
      have HN := hide (hugeQL_take hlt)
      clear hs1 hs2 hb
      generalize ls[k] = d at *
      go_wp2_with fail
      refine (huge_any d.l _ _ _ ⟨a1, c1, rfl, HX1.out⟩).mono ?_
      rintro e w1 ⟨rfl, hb1⟩
      have HB1 := hide (HB.out.trans (hb1.mono HB.out.size))
      have HX3 := hide (HX2.out.later hb1)
      have d2' := cell_later hb1 d2
      have d3' := cell_later hb1 d3
      clear hb1
      cases hq : decide (3000 < sizeL [d.l]) with
      | true =>
        have HF := hide (HY.out (by unfold hugeQ1; rw [hq]; rfl))
        clear hq
        go_wp2_with fail
        go_ret
        exact ⟨ret_bool HF.out.symm, HB1.out⟩
      | false =>
        have HQ := hide hq
        clear hq
        go_wp2_with fail
        refine (huge_any d.r _ _ _ ⟨a2, c2, rfl, HX3.out⟩).mono ?_
        rintro e w2 ⟨rfl, hb2⟩
        have HB2 := hide (HB1.out.trans (hb2.mono HB1.out.size))
        clear hb2
        cases hq : decide (3000 < sizeL [d.r]) with
        | true =>
          have HF := hide (HY.out (by unfold hugeQ1; rw [hq]; simp))
          clear hq
          go_wp2_with fail
          go_ret
          exact ⟨ret_bool HF.out.symm, HB2.out⟩
        | false =>
          have HF : Hid (hugeQL (ls.take (k + 1)) = false) := by unfold Hid; rw [HN.out, HT.out]; unfold hugeQ1; rw [HQ.out, hq]; rfl
          clear hq
          go_wp2_with fail
          go_roundw
          case rel => exact ⟨k + 1, by go_num, by omega, HF.out, HB2.out⟩
          case measure => simp [intOf]; omega
    · have HF : Hid (decide (100 < ls.length) = hugeQ ls) := by
        have h := HT.out
        rw [List.take_of_length_le (by omega)] at h
        unfold Hid hugeQ
        rw [h]; rfl
      go_wp2_with fail
      go_ret
      exact ⟨ret_bool (by rw [← HF.out, Bool.eq_iff_iff]; simp; omega), HB.out⟩

def PmInv (ls : List Pr) (w : World) (v : Value) (wr : World) : Prop := ∃ k : Nat, v = .int .i64 (k : Int) ∧ k ≤ ls.length ∧ pmT ls k = 0 ∧ Below w.heap.size w wr

theorem twoE_fst {a b : Tm} (h : mayE a ≠ 0) : twoE a b = mayE a := by unfold twoE; rw [if_neg h]
theorem twoE_snd {a b : Tm} (h : mayE a = 0) : twoE a b = mayE b := by unfold twoE; rw [if_pos h]
#print axioms hugePairs_any
end Go.Proofs.Ytcjdbbdmighliac

/- Walks: rules that may be, as the document says. -/
namespace Go.Proofs.Ytcjdbbdmighliac
open Go.RowKit
set_option linter.unusedSimpArgs false
set_option linter.unusedVariables false
set_option maxRecDepth 8000

/-- So many rules are looked at. -/
def RmInv (ls : List Pr) (w : World) (v : Value) (wr : World) : Prop := ∃ k : Nat, v = .int .i64 (k : Int) ∧ k ≤ ls.length ∧ rmT ls k = 0 ∧ Below w.heap.size w wr
theorem may200 {t : Tm} (h : mayE t = 0) : sizeL [t] ≤ 200 := by
  unfold mayE at h
  split at h
  · exact absurd h (by decide)
  · omega
theorem all_takeR {l : List ByteArray} {f : ByteArray → Bool} {k : Nat} (h : k < l.length) (h0 : (l.take k).all f = true) (h1 : f l[k] = true) : (l.take (k + 1)).all f = true := by
  rw [List.take_succ_eq_append_getElem h, List.all_append, h0]
  simpa using h1
set_option maxHeartbeats 4000000 in
theorem rulesMay_any (ls : List Pr) (u : Value) (w : World) (X : Nat → Prop) (hu : QV w X u ls) :
    Calls Try.prog 22 #[u] w fun e w' => e = .returned (.int .i64 (rulesE ls)) ∧ Below w.heap.size w w' := by
  have HU := hide (hu.mono (Y := fun b => X b ∧ b < w.heap.size) fun b h1 h2 => ⟨h1, h2⟩)
  obtain ⟨a, c, rfl, hl, hu2⟩ := hu
  clear hu2
  go_enter Try.func22, Try.ntmps22
  by_cases h40 : 40 < ls.length
  · go_wp2_with fail
    go_ret
    exact ⟨ret_int (by unfold rulesE; rw [if_pos h40]), Below.refl _ _⟩
  go_wp2_with fail
  go_loopw [3] (fun v wr => RmInv ls w v wr) (fun v wr => ls.length - (intOf v).toNat)
  case atStart => exact ⟨0, rfl, Nat.zero_le _, rfl, Below.refl _ _⟩
  case round =>
    obtain ⟨k, rfl, hk, hT, hb⟩ := hrel
    have HB := hide hb
    have HT := hide hT
    clear hT
    by_cases hlt : k < ls.length
    · obtain ⟨b, o, a1, c1, a2, c2, rfl, d0, d1, d2, d3, hs1, hs2⟩ := (HU.out.later hb).get k hlt
      have hlt2 : (k : Int) < (ls.length : Int) := by omega
      have HX1 := hide hs1
      have HX2 := hide hs2
      have HY := hide (rmT_err hlt h40 HT.out)
      have HN := hide (rmT_next hlt HT.out)
      clear hs1 hs2 hb
      generalize ls[k] = d at *
      go_wp2_with fail
      have HS0 := hide (And.intro d0 (And.intro d1 (And.intro d2 d3)))
      have TM : Hid (∀ w', Below wr.heap.size wr w' → Calls Try.prog 9 #[.agg #[.string d.l.name, .slice a1 d.l.args.length c1], .agg #[.string d.r.name, .slice a2 d.r.args.length c2]] w' fun e w'' => e = .returned (.int .i64 (twoE d.l d.r)) ∧ Below wr.heap.size wr w'' ∧ w''.cell? ⟨b, o + k * 4, none⟩ = some (.string d.l.name) ∧ w''.cell? ⟨b, o + k * 4 + 1, none⟩ = some (.slice a1 d.l.args.length c1) ∧ w''.cell? ⟨b, o + k * 4 + 2, none⟩ = some (.string d.r.name) ∧ w''.cell? ⟨b, o + k * 4 + 3, none⟩ = some (.slice a2 d.r.args.length c2)) := fun w' hb => by
        refine (twoMay_any d.l d.r _ _ w' _ ⟨_, _, rfl, HX1.out.later hb⟩ ⟨_, _, rfl, HX2.out.later hb⟩).mono ?_
        rintro e w'' ⟨rfl, hb2⟩
        have hb3 := hb.trans (hb2.mono hb.size)
        exact ⟨rfl, hb3, cell_later hb3 d0, cell_later hb3 d1, cell_later hb3 d2, cell_later hb3 d3⟩
      go_region_held3 (fun w' => w'.cell? ⟨b, o + k * 4, none⟩ = some (.string d.l.name) ∧ w'.cell? ⟨b, o + k * 4 + 1, none⟩ = some (.slice a1 d.l.args.length c1) ∧ w'.cell? ⟨b, o + k * 4 + 2, none⟩ = some (.string d.r.name) ∧ w'.cell? ⟨b, o + k * 4 + 3, none⟩ = some (.slice a2 d.r.args.length c2)) (first | exact hS | exact HS0.out | go_keep)
        (first
          | (go_at_call 9; refine (TM.out _ (by first | exact Below.refl _ _ | exact (Below.refl _ _).drew)).mono ?_; rintro e w5 ⟨rfl, hb5, hS⟩))
      have HB5 := hide hb5
      have HS5 := hide hS
      clear hb5 hS TM HS0 d0 d1 d2 d3
      by_cases hm : twoE d.l d.r = 0
      · have HM : Hid (mayE d.l = 0 ∧ mayE d.r = 0) := by
          unfold twoE at hm
          split at hm
          · rename_i h; exact ⟨h, hm⟩
          · rename_i h; exact absurd hm h
        have HRE : Hid (ruleE d = if varB d.l.name = true then 2 else if (varsP [] (preL [d.r])).all (fun n => inB n (varsP [] (preL [d.l]))) = true then 0 else 15) := by unfold Hid ruleE; rw [if_pos hm]
        rw [hm]
        clear hm
        obtain ⟨d0, d1, d2, d3⟩ := HS5.out
        go_wp2_with fail
        refine (isVarR_any _ _).mono ?_
        rintro e w6 ⟨rfl, hw6⟩
        rw [hw6]
        clear hw6 w6
        cases hv : varB d.l.name with
        | true =>
          have HE : Hid (2 = rulesE ls) := by
            have h1 := HRE.out
            rw [if_pos hv] at h1
            have h2 := HY.out (by rw [h1]; decide)
            unfold Hid
            rw [h2, h1]
          clear hv
          go_wp2_with fail
          go_ret
          exact ⟨ret_int HE.out, HB.out.trans (HB5.out.mono HB.out.size)⟩
        | false =>
          have HRF : Hid (ruleE d = if (varsP [] (preL [d.r])).all (fun n => inB n (varsP [] (preL [d.l]))) = true then 0 else 15) := by
            have h1 := HRE.out
            rw [if_neg (by rw [hv]; decide)] at h1
            exact h1
          clear hv HRE
          go_wp2_with fail
          refine (varsOf_any d.l _ _ _ ⟨_, _, rfl, HX1.out.later HB5.out⟩ (by have := may200 HM.out.1; omega)).mono ?_
          rintro e w6 ⟨v6, rfl, hlv6, hb6⟩
          have HB6 := hide (HB5.out.trans (hb6.mono HB5.out.size))
          have L6 := hide (hlv6.mono (Y := fun _ => True) fun _ _ _ => trivial)
          clear hlv6 d0 d1 d2 d3
          have d2 : w6.cell? ⟨b, o + k * 4 + 2, none⟩ = some (.string d.r.name) := cell_later hb6 HS5.out.2.2.1
          have d3 : w6.cell? ⟨b, o + k * 4 + 3, none⟩ = some (.slice a2 d.r.args.length c2) := cell_later hb6 HS5.out.2.2.2
          clear hb6
          go_wp2_with fail
          refine (varsOf_any d.r _ _ _ ⟨_, _, rfl, HX2.out.later HB6.out⟩ (by have := may200 HM.out.2; omega)).mono ?_
          rintro e w7 ⟨v7, rfl, hlv7, hb7⟩
          have HB7 := hide (HB.out.trans ((HB6.out.trans (hb7.mono HB6.out.size)).mono HB.out.size))
          have L67 := hide (L6.out.later hb7)
          clear hb7 d2 d3 L6 HS5
          generalize varsP [] (preL [d.l]) = lh at *
          generalize varsP [] (preL [d.r]) = lr at *
          obtain ⟨a7, c7, rfl, ⟨hl7, hl7'⟩, h7⟩ := hlv7
          go_wp2_with fail
          go_loop [7] (fun i => ∃ j : Nat, j ≤ lr.length ∧ i = .int .i64 j ∧ Hid ((lr.take j).all (fun n => inB n lh) = true)) (fun i => lr.length - (intOf i).toNat)
          case atStart => exact ⟨0, Nat.zero_le _, rfl, by unfold Hid; simp⟩
          case round =>
            obtain ⟨j, hj, rfl, HA⟩ := hrel
            by_cases hjl : j < lr.length
            · obtain ⟨b7, o7, rfl, _, hc7⟩ := h7.resolve_left (fun h => by rw [h] at hjl; simp at hjl)
              have e7 := hc7 j hjl
              have hjl2 : (j : Int) < (lr.length : Int) := by omega
              clear hc7
              have HIN := hide (all_takeR (f := fun n => inB n lh) hjl HA.out)
              have HNO : Hid (inB lr[j] lh = false → lr.all (fun n => inB n lh) = false) := fun h => by
                rw [Bool.eq_false_iff]
                intro h2
                have h3 := List.all_eq_true.1 h2 _ (List.getElem_mem hjl)
                rw [h] at h3
                cases h3
              generalize lr[j] = nm at *
              go_wp2_with fail
              refine (in_any nm lh _ _ (fun _ => True) (by exact L67.out)).mono ?_
              rintro e w8 ⟨rfl, hw8⟩
              rw [hw8]
              clear hw8 w8
              cases hin : inB nm lh with
              | true =>
                have HNX := hide (HIN.out hin)
                clear hin
                go_wp2_with fail
                go_round
                case rel => exact ⟨j + 1, by omega, by go_num, HNX⟩
                case measure => simp [intOf]; omega
              | false =>
                have HE : Hid (15 = rulesE ls) := by
                  have h1 := HRF.out
                  rw [HNO.out hin, if_neg (by decide)] at h1
                  have h2 := HY.out (by rw [h1]; decide)
                  unfold Hid
                  rw [h2, h1]
                clear hin
                go_wp2_with fail
                go_ret
                exact ⟨ret_int HE.out, HB7.out⟩
            · have HZ : Hid (rmT ls (k + 1) = 0) := by
                have h1 := HRF.out
                have h2 := HA.out
                rw [List.take_of_length_le (by omega)] at h2
                rw [h2, if_pos rfl] at h1
                unfold Hid
                rw [HN.out, h1]
              go_wp2_with fail
              go_roundw
              case rel => exact ⟨k + 1, by go_num, by omega, HZ.out, HB7.out⟩
              case measure => simp [intOf]; omega
      · have hm2 : (twoE d.l d.r == 0) = false := by simpa using hm
        have HE : Hid (twoE d.l d.r = rulesE ls) := by
          have h1 : ruleE d = twoE d.l d.r := by unfold ruleE; rw [if_neg hm]
          have h2 := HY.out (by rw [h1]; exact hm)
          unfold Hid
          rw [h2, h1]
        clear hm
        go_wp2_with fail
        go_ret
        exact ⟨ret_int HE.out, HB.out.trans (HB5.out.mono HB.out.size)⟩
    · have hkl : k = ls.length := by omega
      go_wp2_with fail
      go_ret
      exact ⟨ret_int (by unfold rulesE; rw [if_neg h40, ← hkl]; exact HT.out.symm), HB.out⟩
end Go.Proofs.Ytcjdbbdmighliac

/- Walks: what a rule puts in the place of a term, as the document says. -/
namespace Go.Proofs.Ytcjdbbdmighliac
open Go.RowKit
set_option linter.unusedSimpArgs false
set_option linter.unusedVariables false
set_option maxRecDepth 8000

theorem onSomeR_any (ls : List Bd) (t : Tm) (u v : Value) (w : World) (X : Nat → Prop) (hu : BV w X u ls) (hv : TV w X v t) (hsm : sizeL [t] ≤ 1000000) :
    Calls Try.prog 19 #[u, v] w fun e w' => ∃ (x : Tm) (a6 : Option Addr) (c6 : Nat) (ok : Bool), e = .returned (.tuple #[.agg #[.string x.name, .slice a6 x.args.length c6], .bool ok]) ∧ (ok = true → x = onT ls t) ∧ (ok = true ↔ sizeL [onT ls t] ≤ 2000) ∧ Sl w' (fun b => (X b ∧ b < w.heap.size) ∨ w.heap.size ≤ b) a6 x.args ∧ Below w.heap.size w w' := by
  refine (onAll_any ls t u v w _ hu hv hsm).mono ?_
  rintro e w' ⟨hb, ⟨h1, rfl⟩ | ⟨h1, a6, c6, rfl, hs⟩⟩
  · exact ⟨⟨⟨#[]⟩, []⟩, none, 0, false, rfl, by simp, by simp; omega, ⟨by simp, Or.inl rfl⟩, hb⟩
  · exact ⟨onT ls t, a6, c6, true, rfl, fun _ => rfl, by simp; omega, hs, hb⟩
/-- What it says of a rule and a term. -/
def DFtPost (w : World) (X : Nat → Prop) (p : Pr) (x : Tm) (e : Ending) (w' : World) : Prop :=
  ∃ (y : Tm) (a : Option Addr) (c : Nat) (ok full : Bool), e = .returned (.tuple #[.agg #[.string y.name, .slice a y.args.length c], .bool ok, .bool full]) ∧ Sl w' (fun b => (X b ∧ b < w.heap.size) ∨ w.heap.size ≤ b) a y.args ∧ Below w.heap.size w w' ∧
    ((fitT p x = none ∧ ok = false) ∨ ∃ z, fitT p x = some z ∧ ok = true ∧ (full = true ↔ 2000 < sizeL [z]) ∧ (full = false → y = z))
/-- Likewise; where it does not fit, it is not told to be too great. -/
def DFtPostF (w : World) (X : Nat → Prop) (p : Pr) (x : Tm) (e : Ending) (w' : World) : Prop :=
  ∃ (y : Tm) (a : Option Addr) (c : Nat) (ok full : Bool), e = .returned (.tuple #[.agg #[.string y.name, .slice a y.args.length c], .bool ok, .bool full]) ∧ Sl w' (fun b => (X b ∧ b < w.heap.size) ∨ w.heap.size ≤ b) a y.args ∧ Below w.heap.size w w' ∧
    ((fitT p x = none ∧ ok = false ∧ full = false) ∨ ∃ z, fitT p x = some z ∧ ok = true ∧ (full = true ↔ 2000 < sizeL [z]) ∧ (full = false → y = z))
set_option maxHeartbeats 4000000 in
theorem docFitsF_any (p : Pr) (x : Tm) (a1 a2 a3 : Option Addr) (c1 c2 c3 : Nat) (w : World) (X : Nat → Prop) (hs1 : Sl w X a1 p.l.args) (hs2 : Sl w X a2 p.r.args) (hs3 : Sl w X a3 x.args) (hz1 : sizeL [p.l] ≤ 1000000) (hz2 : sizeL [p.r] ≤ 1000000) :
    Calls Try.prog 55 #[.agg #[.string p.l.name, .slice a1 p.l.args.length c1, .string p.r.name, .slice a2 p.r.args.length c2], .agg #[.string x.name, .slice a3 x.args.length c3]] w fun e w' => DFtPostF w X p x e w' := by
  have S1 := hide (hs1.mono (Y := fun b => X b ∧ b < w.heap.size) fun b h1 h2 => ⟨h1, h2⟩)
  have S2 := hide (hs2.mono (Y := fun b => X b ∧ b < w.heap.size) fun b h1 h2 => ⟨h1, h2⟩)
  have S3 := hide (hs3.mono (Y := fun b => X b ∧ b < w.heap.size) fun b h1 h2 => ⟨h1, h2⟩)
  clear hs1 hs2 hs3
  have K0 := Blk.new w #[.string p.l.name, .slice a1 p.l.args.length c1, .string p.r.name, .slice a2 p.r.args.length c2] 77
  have B0 := (Below.refl w.heap.size w).alloc (Nat.le_refl _) (.cells #[.string p.l.name, .slice a1 p.l.args.length c1, .string p.r.name, .slice a2 p.r.args.length c2] 77)
  have HW : Hid (∃ W, W = ((w.alloc (.cells #[.string p.l.name, .slice a1 p.l.args.length c1, .string p.r.name, .slice a2 p.r.args.length c2] 77)).alloc (.cells #[.string x.name, .slice a3 x.args.length c3] 25)).alloc (.cells #[.string ⟨#[]⟩, .slice none 0 0] 25) ∧ Blk W w.heap.size #[.string p.l.name, .slice a1 p.l.args.length c1, .string p.r.name, .slice a2 p.r.args.length c2] 77 ∧ Blk W (w.heap.size + 1) #[.string x.name, .slice a3 x.args.length c3] 25 ∧ Blk W (w.heap.size + 2) #[.string ⟨#[]⟩, .slice none 0 0] 25 ∧ Below w.heap.size w W) := by
    have K1 := Blk.new (w.alloc (.cells #[.string p.l.name, .slice a1 p.l.args.length c1, .string p.r.name, .slice a2 p.r.args.length c2] 77)) #[.string x.name, .slice a3 x.args.length c3] 25
    have K2 := Blk.new ((w.alloc (.cells #[.string p.l.name, .slice a1 p.l.args.length c1, .string p.r.name, .slice a2 p.r.args.length c2] 77)).alloc (.cells #[.string x.name, .slice a3 x.args.length c3] 25)) #[.string ⟨#[]⟩, .slice none 0 0] 25
    simp only [World.size_alloc] at K1 K2
    exact ⟨_, rfl, (K0.alloc _).alloc _, K1.alloc _, K2, (B0.alloc (by simp) _).alloc (by simp; omega) _⟩
  clear K0 B0
  go_enter Try.func55, Try.ntmps55
  go_wp2_with fail
  obtain ⟨W, hW, k0, k1, k2, bl⟩ := HW.out
  rw [← hW]
  clear hW HW
  have K0 := hide k0
  have K2 := hide k2
  have BW := hide bl
  clear k0 k1 k2 bl
  refine (matchOf_any p.l x _ _ W (fun b => X b ∧ b < w.heap.size) ⟨_, _, rfl, S1.out.later BW.out⟩ ⟨_, _, rfl, S3.out.later BW.out⟩ hz1).mono ?_
  rintro e w3 ⟨hb3, hc⟩
  have B3 := hide (BW.out.trans (hb3.mono BW.out.size))
  have K03 := hide (K0.out.below hb3 K0.out.lt)
  have K23 := hide (K2.out.below hb3 K2.out.lt)
  have HLT : Hid (w.heap.size + 2 < W.heap.size) := K2.out.lt
  clear hb3 K0 K2 BW
  have r0 : w3.cell? ⟨w.heap.size + 2, 0, none⟩ = some (.string ⟨#[]⟩) := K23.out.cell 0
  have r1 : w3.cell? ⟨w.heap.size + 2, 1, none⟩ = some (.slice none 0 0) := K23.out.cell 1
  have rf := K23.out.frozen
  rcases hc with ⟨h0, rfl⟩ | ⟨h', v, l', h0, rfl, hbv, hperm, hsort⟩
  · have HN : Hid (fitT p x = none) := by unfold Hid fitT; rw [h0]; rfl
    clear h0
    go_wp2_with fail
    refine bodyPost_ret (v := .tuple #[.agg #[.string ⟨#[]⟩, .slice none 0 0], .bool false, .bool false]) (by simp [results, Try.results55, go_sem, World.cell?_setCell_same, World.cell?_setCell_other, r0, r1]) rfl ?_
    exact ⟨⟨⟨#[]⟩, []⟩, none, 0, false, false, rfl, ⟨by simp, Or.inl rfl⟩, (B3.out.setCell (by simp; omega) _).setCell (by simp; omega) _, Or.inl ⟨HN.out, rfl, rfl⟩⟩
  · have HF : Hid (fitT p x = some (onT l' p.r)) := by
      have ha := (mtT_apart h0 List.Pairwise.nil).1
      unfold Hid fitT
      rw [h0]
      show some (onT h' p.r) = _
      rw [onT_congr (forT_permR hperm ha) p.r]
    have HV := hide hbv
    clear h0 hbv hperm hsort
    have p2 : w3.cell? ⟨w.heap.size, 2, none⟩ = some (.string p.r.name) := K03.out.cell 2
    have p3 : w3.cell? ⟨w.heap.size, 3, none⟩ = some (.slice a2 p.r.args.length c2) := K03.out.cell 3
    go_wp2_with fail
    refine (onSomeR_any l' p.r _ _ _ (fun b => (X b ∧ b < w.heap.size) ∨ W.heap.size ≤ b) (by exact HV.out.mono fun b h _ => h.imp (fun h => h.1) id) ⟨_, _, rfl, (S2.out.later B3.out).mono fun b h _ => Or.inl h⟩ hz2).mono ?_
    rintro e w4 ⟨y, a6, c6, ok, rfl, hy, hok, hs6, hb4⟩
    have hb5 : Below w4.heap.size w4 (w4.alloc (.cells #[.string y.name, .slice a6 y.args.length c6] 25)) := (Below.refl _ _).alloc (Nat.le_refl _) _
    have B4 := hide (B3.out.trans (hb4.mono B3.out.size))
    have K24 := hide (K23.out.below hb4 K23.out.lt)
    have S6 := hide (hs6.mono (Y := fun b => (X b ∧ b < w.heap.size) ∨ w.heap.size + 3 ≤ b) fun b h _ => by
      have h3 := HLT.out
      have h4 := B3.out.size
      have h5 := K23.out.lt
      rcases h with ⟨h | h, _⟩ | h
      · exact Or.inl h
      · exact Or.inr (by omega)
      · exact Or.inr (by omega))
    have HY := hide hy
    have HOK := hide hok
    have hl4 : w.heap.size + 2 < w4.heap.size := K24.out.lt
    clear hs6 hb4 hy hok p2 p3 r0 r1 rf hb5
    have r0 : w4.cell? ⟨w.heap.size + 2, 0, none⟩ = some (.string ⟨#[]⟩) := K24.out.cell 0
    have r1 : w4.cell? ⟨w.heap.size + 2, 1, none⟩ = some (.slice none 0 0) := K24.out.cell 1
    have rf := K24.out.frozen
    go_wp2_with fail
    have KF : Blk (((w4.setCell ⟨w.heap.size + 1 + 1, 0, none⟩ (.string y.name)).setCell ⟨w.heap.size + 1 + 1, 1, none⟩ (.slice a6 y.args.length c6)).alloc (.cells #[.string y.name, .slice a6 y.args.length c6] 25)) (w.heap.size + 1 + 1) #[.string y.name, .slice a6 y.args.length c6] 25 := ((K24.out.set 0 (.string y.name)).set 1 (.slice a6 y.args.length c6)).alloc _
    have BF : Hid (Below w.heap.size w (((w4.setCell ⟨w.heap.size + 1 + 1, 0, none⟩ (.string y.name)).setCell ⟨w.heap.size + 1 + 1, 1, none⟩ (.slice a6 y.args.length c6)).alloc (.cells #[.string y.name, .slice a6 y.args.length c6] 25))) := ((B4.out.setCell (by simp; omega) _).setCell (by simp; omega) _).alloc (by simp [World.setCell]; have := B4.out.size; omega) _
    have SF : Hid (Sl (((w4.setCell ⟨w.heap.size + 1 + 1, 0, none⟩ (.string y.name)).setCell ⟨w.heap.size + 1 + 1, 1, none⟩ (.slice a6 y.args.length c6)).alloc (.cells #[.string y.name, .slice a6 y.args.length c6] 25)) (fun b => (X b ∧ b < w.heap.size) ∨ w.heap.size ≤ b) a6 y.args) := by
      have h1 : Sl ((w4.setCell ⟨w.heap.size + 1 + 1, 0, none⟩ (.string y.name)).setCell ⟨w.heap.size + 1 + 1, 1, none⟩ (.slice a6 y.args.length c6)) (fun b => (X b ∧ b < w.heap.size) ∨ w.heap.size + 3 ≤ b) a6 y.args := S6.out.kept fun b hb => by
        have hne : b ≠ w.heap.size + 1 + 1 := by rcases hb with h | h <;> omega
        rw [Below.heap_setCell _ _ _ _ (by simpa using hne), Below.heap_setCell _ _ _ _ (by simpa using hne)]
      exact (h1.mono fun b hb _ => hb.imp id (fun h => by omega)).later ((Below.refl _ _).alloc (Nat.le_refl _) _)
    generalize (((w4.setCell ⟨w.heap.size + 1 + 1, 0, none⟩ (.string y.name)).setCell ⟨w.heap.size + 1 + 1, 1, none⟩ (.slice a6 y.args.length c6)).alloc (.cells #[.string y.name, .slice a6 y.args.length c6] 25)) = wf at *
    have f0 : wf.cell? ⟨w.heap.size + 1 + 1, 0, none⟩ = some (.string y.name) := KF.cell 0
    have f1 : wf.cell? ⟨w.heap.size + 1 + 1, 1, none⟩ = some (.slice a6 y.args.length c6) := KF.cell 1
    refine bodyPost_ret (v := .tuple #[.agg #[.string y.name, .slice a6 y.args.length c6], .bool true, .bool !ok]) (by simp [results, Try.results55, go_sem, f0, f1]) rfl ?_
    refine ⟨y, a6, c6, true, !ok, rfl, SF.out, BF.out, Or.inr ⟨_, HF.out, rfl, ?_, ?_⟩⟩
    · have h := HOK.out
      cases ok with
      | true => simp at h ⊢; omega
      | false => simp at h ⊢; omega
    · intro h
      exact HY.out (by cases ok with
        | true => rfl
        | false => cases h)
theorem docFits_any (p : Pr) (x : Tm) (a1 a2 a3 : Option Addr) (c1 c2 c3 : Nat) (w : World) (X : Nat → Prop) (hs1 : Sl w X a1 p.l.args) (hs2 : Sl w X a2 p.r.args) (hs3 : Sl w X a3 x.args) (hz1 : sizeL [p.l] ≤ 1000000) (hz2 : sizeL [p.r] ≤ 1000000) :
    Calls Try.prog 55 #[.agg #[.string p.l.name, .slice a1 p.l.args.length c1, .string p.r.name, .slice a2 p.r.args.length c2], .agg #[.string x.name, .slice a3 x.args.length c3]] w fun e w' => DFtPost w X p x e w' := by
  refine (docFitsF_any p x a1 a2 a3 c1 c2 c3 w X hs1 hs2 hs3 hz1 hz2).mono ?_
  rintro e w' ⟨y, a, c, ok, full, h1, h2, h3, h4⟩
  exact ⟨y, a, c, ok, full, h1, h2, h3, h4.imp (fun h => ⟨h.1, h.2.1⟩) id⟩
#print axioms docFits_any
end Go.Proofs.Ytcjdbbdmighliac

/- Walks: the places of a term, as the document says. -/
namespace Go.Proofs.Ytcjdbbdmighliac
open Go.RowKit
set_option linter.unusedSimpArgs false
set_option linter.unusedVariables false

theorem owns_le {w : World} {b b' e z n : Nat} {v : Value} {xs : List Value} (h : w.ownsRow b e z v n xs) (hb : b' ≤ b) : w.ownsRow b' e z v n xs := by
  obtain ⟨h1, h2⟩ := h
  exact ⟨h1, h2.imp id fun ⟨g, cap, cur, h3, h4, h5⟩ => ⟨g, cap, cur, h3, Nat.le_trans hb h4, h5⟩⟩

/-- A row of lists that is added to, and what stays where it was. -/
def OutAt (w0 : World) (N : Nat) (q0 : Value) (ps : List (List Int)) (q : Value) (xs : List Value) (wr : World) : Prop :=
  wr.ownsRow N 34 1 q ps.length xs ∧ RowP wr (fun b => N ≤ b ∧ some b ≠ q.ownBlock) ps xs ∧ w0.grownBy wr q0.ownBlock ∧ (∀ k, q.ownBlock = some k → q0.ownBlock = some k ∨ w0.heap.size ≤ k)

theorem PV.grownBy {w w' : World} {Z : Nat → Prop} {u : Value} {z : List Int} {r : Option Nat} (h : PV w Z u z) (hg : w.grownBy w' r) (hZ : ∀ b, Z b → some b ≠ r) : PV w' Z u z := by
  have h1 : PV w (fun b => Z b ∧ b < w.heap.size) u z := h.mono fun b h1 h2 => ⟨h1, h2⟩
  have h2 : PV w' (fun b => Z b ∧ b < w.heap.size) u z := h1.kept fun b hx => hg.block b hx.2 (hZ b hx.1)
  exact h2.mono fun b hx _ => hx.1

theorem OutAt.push {w0 wr w1 : World} {N : Nat} {q0 q : Value} {ps : List (List Int)} {xs : List Value} (h : OutAt w0 N q0 ps q xs wr) (hN : N ≤ wr.heap.size) (hb : Below wr.heap.size wr w1) {u : Value} {z : List Int} (hu : PV w1 (fun b => wr.heap.size ≤ b) u z) (hn : ps.length ≤ 1000000) (A : Nat) (hA : w1.heap.size = A) :
    ∃ q' w3, (Builtin.append_ #[78, 78] 78 #[q, .slice (some ⟨A, 0, none⟩) 1 1]).run Try.prog (w1.alloc (.cells #[u] 34)) = .ok q' w3 ∧ OutAt w0 N q0 (ps ++ [z]) q' (xs ++ [u]) w3 := by
  subst hA
  obtain ⟨i0, hi, hz0, hz1, hz2⟩ := info_parts Try.infoInts
  obtain ⟨hown, hrow, hgr, hat⟩ := h
  have hlt := hown.lt
  have hs1 := hb.size
  have hown1 : w1.ownsRow N 34 1 q ps.length xs := hown.kept (w' := w1) (row := none) ⟨hb.os, hb.tape, hb.output, hb.size, fun j hj _ => hb.block j hj⟩ (by rcases Option.eq_none_or_eq_some (Value.ownBlock q) with h | ⟨x, h⟩; exact Or.inl h; exact Or.inr (by rw [h]; simp))
  obtain ⟨g, cap, w3, hr, ho, hg, hga, hgl⟩ := run_append_lies (P := Try.prog) (w := w1.alloc (.cells #[u] 34)) 78 78 N 34 i0 _ 1 24 Try.underlying78 hi hz0 hz1 hz2 rfl (by decide) q ps.length xs (hown1.alloc _)
    ⟨w1.heap.size, 0, none⟩ 1 1 [u] rfl (cell_one_new _ _ _) (fun x hx => by simp at hx; subst hx; exact hu.one) (by decide) (by unfold maxLen; omega) (by omega) (by simp; omega) _ rfl
  have hgN : N ≤ g := by
    rcases hga with e | e
    · exact (hlt g e).1
    · simp at e; omega
  refine ⟨_, w3, hr, by simpa using ho, ?_, ?_, fun k hk => ?_⟩
  · refine RowP.append (hrow.imp fun u' z' hp => ?_) ?_
    · have h1 : PV wr (fun b => (N ≤ b ∧ some b ≠ q.ownBlock) ∧ b < wr.heap.size) u' z' := hp.mono fun b h1 h2 => ⟨h1, h2⟩
      have h2 : PV w3 (fun b => (N ≤ b ∧ some b ≠ q.ownBlock) ∧ b < wr.heap.size) u' z' := h1.kept fun b hx => by
        rw [hg.block b (by simp; omega) hx.1.2, Below.heap_alloc _ _ _ (by omega), hb.block b hx.2]
      refine h2.mono fun b hx _ => ⟨hx.1.1, fun e => ?_⟩
      simp [Value.ownBlock] at e
      rcases hga with e' | e'
      · exact hx.1.2 (by rw [e', e])
      · simp at e'; omega
    · refine ⟨u, [], rfl, ?_, rfl⟩
      have h1 : PV w1 (fun b => wr.heap.size ≤ b ∧ b < w1.heap.size) u z := hu.mono fun b h1 h2 => ⟨h1, h2⟩
      have h2 : PV w3 (fun b => wr.heap.size ≤ b ∧ b < w1.heap.size) u z := h1.kept fun b hx => by
        rw [hg.block b (by simp; omega) (fun e => by have := (hlt b e.symm).2; omega), Below.heap_alloc _ _ _ hx.2]
      refine h2.mono fun b hx _ => ⟨by omega, fun e => ?_⟩
      simp [Value.ownBlock] at e
      rcases hga with e' | e'
      · have := (hlt g e').2; omega
      · simp at e'; omega
  · exact grown_trans (grown_trans hgr (grown_of_below hb q.ownBlock) hat) (grown_trans (grown_of_below ((Below.refl _ _).alloc (Nat.le_refl _) (.cells #[u] 34)) q.ownBlock) hg (fun k hk => Or.inl hk)) hat
  · simp [Value.ownBlock] at hk
    subst hk
    rcases hga with e | e
    · exact hat _ e
    · right; simp at e; have := hgr.size; omega

/-- A number ahead of a list. -/
theorem ints_cons {W : World} {Z : Nat → Prop} {u : Value} {z : List Int} (h : PV W Z u z) (i : Int) (F : Nat) (hF : W.heap[F]? = some (.cells #[.int .i64 i] 3 (0, 0))) (hn : z.length ≤ 1000000) :
    ∃ q w2, (Builtin.append_ #[34, 34] 34 #[.slice (some ⟨F, 0, none⟩) 1 1, u]).run Try.prog W = .ok q w2 ∧ PV w2 (fun b => b = F ∨ W.heap.size ≤ b) q (i :: z) ∧ Below W.heap.size W w2 := by
  obtain ⟨i0, hi, hz0, hz1, hz2⟩ := info_parts Try.infoInt
  have hsrc := pv_src h
  rw [← hz1] at hsrc
  have hFl : F < W.heap.size := by
    apply Classical.byContradiction
    intro hn
    rw [Array.getElem?_eq_none (by omega)] at hF; cases hF
  have hFc : W.cell? ⟨F, 0, none⟩ = some (.int .i64 i) := by simp [World.cell?, hF]
  by_cases h0 : z = []
  · subst h0
    have hg := run_append_room_src (P := Try.prog) W 34 34 34 3 i0 Try.underlying34 hi F 0 1 1 u 0 [] hsrc (by omega) (by simp) (by simp)
    refine ⟨_, _, hg, ⟨_, _, rfl, by simp, Or.inr ⟨F, 0, rfl, Or.inl rfl, fun j hj => ?_⟩⟩, ?_⟩
    · simp at hj; subst hj; simpa [World.setCells] using hFc
    · simpa [World.setCells] using Below.refl W.heap.size W
  · have hzp := List.length_pos_iff.2 h0
    have hfc := run_firstCells_some (P := Try.prog) W.drew i0.size 1 ⟨F, 0, none⟩ 1 1 [.int .i64 i] (by rw [hz1]; rfl) (fun j v hj => by
      match j, hj with
      | 0, hj => simp at hj; subst hj; simpa [Addr.add] using hFc)
    have hg := run_append_grow_src (P := Try.prog) W 34 34 34 3 i0 (.int .i64 0) Try.underlying34 hi hz0 (some ⟨F, 0, none⟩) 1 1 [.int .i64 i] hfc u z.length _ hsrc (by omega) (by omega) (by rw [hz2]; exact growslice_fits (by omega) (by omega))
    have hge := grownCap_ge W (1 + z.length) 1 3
    have hcm := grownCap_le_maxLen W (1 + z.length) 1 3 (by unfold maxLen; omega)
    refine ⟨_, _, hg, ⟨some ⟨W.heap.size, 0, none⟩, grownCap W (1 + z.length) 1 3, by rw [List.length_cons, Nat.add_comm], ⟨by simp; omega, by simp; omega⟩, Or.inr ⟨W.heap.size, 0, rfl, Or.inr (Nat.le_refl _), fun j hj => ?_⟩⟩, ?_⟩
    · have hb := heap_alloc_new W.drew (.cells (([Value.int .i64 i] ++ z.map fun x => Value.int .i64 x).toArray ++ Builtin.zeroCells (Value.int .i64 0).cells (grownCap W (1 + z.length) 1 3 - (1 + z.length))) 3)
      have hb' : (W.drew.alloc (.cells (([Value.int .i64 i] ++ z.map fun x => Value.int .i64 x).toArray ++ Builtin.zeroCells (Value.int .i64 0).cells (grownCap W (1 + z.length) 1 3 - (1 + z.length))) 3)).heap[W.heap.size]? = _ := hb
      rw [Lib.cell_of_heap hb', Nat.zero_add, Array.getElem?_append_left (by simp at hj ⊢; omega)]
      simp at hj
      cases j with
      | zero => simp
      | succ j => simp
    · exact ((Below.refl W.heap.size W).drew).alloc (Nat.le_refl _) _

/-- How the rounds of one list go. -/
def InInv (w1 : World) (N : Nat) (q1 : Value) (ps : List (List Int)) (i : Nat) (ls : List (List Int)) (q j : Value) (wr : World) : Prop :=
  ∃ (k : Nat) (xs : List Value), k ≤ ls.length ∧ j = .int .i64 k ∧ OutAt w1 N q1 (ps ++ (ls.take k).map fun p => (i : Int) :: p) q xs wr

/-- How the rounds of the terms below go. -/
def OuInv (w0 : World) (N : Nat) (l : List Tm) (q i : Value) (wr : World) : Prop :=
  ∃ (k : Nat) (xs : List Value), k ≤ l.length ∧ i = .int .i64 k ∧ OutAt w0 N (.slice none 0 0) ([] :: plcL 0 (l.take k)) q xs wr

theorem OutAt.mono {w0 w1 wr : World} {N : Nat} {q0 q1 q : Value} {ps ps1 : List (List Int)} {xs xs1 : List Value} (h : OutAt w0 N q0 ps1 q1 xs1 w1) (h1 : OutAt w1 N q1 ps q xs wr) : OutAt w0 N q0 ps q xs wr := by
  refine ⟨h1.1, h1.2.1, grown_trans h.2.2.1 h1.2.2.1 h.2.2.2, fun k hk => ?_⟩
  rcases h1.2.2.2 k hk with e | e
  · exact h.2.2.2 k e
  · exact Or.inr (Nat.le_trans h.2.2.1.size e)

theorem OutAt.later {w0 w1 w2 : World} {N : Nat} {q0 q : Value} {ps : List (List Int)} {xs : List Value} (h : OutAt w0 N q0 ps q xs w1) (hb : Below w1.heap.size w1 w2) : OutAt w0 N q0 ps q xs w2 :=
  ⟨h.1.kept (w' := w2) (row := none) ⟨hb.os, hb.tape, hb.output, hb.size, fun j hj _ => hb.block j hj⟩ (by rcases Option.eq_none_or_eq_some (Value.ownBlock q) with h | ⟨x, h⟩; exact Or.inl h; exact Or.inr (by rw [h]; simp)),
   h.2.1.imp fun u z hp => hp.later hb, grown_trans h.2.2.1 (grown_of_below hb q.ownBlock) h.2.2.2, h.2.2.2⟩

theorem OutAt.here {w1 : World} {N : Nat} {q0 q : Value} {ps : List (List Int)} {xs : List Value} {w0 : World} (h : OutAt w0 N q0 ps q xs w1) : OutAt w1 N q ps q xs w1 := ⟨h.1, h.2.1, grown_of_below (Below.refl _ _) _, fun _ h => Or.inl h⟩

set_option maxRecDepth 8000 in
set_option maxHeartbeats 2000000 in
theorem placesOf_any (t : Tm) : ∀ (v : Value) (w : World) (X : Nat → Prop), TV w X v t → sizeL [t] ≤ 900000 →
    Calls Try.prog 53 #[v] w fun e w' => ∃ v' xs, e = .returned v' ∧ w'.ownsRow w.heap.size 34 1 v' (plcT t).length xs ∧ RowP w' (fun b => w.heap.size ≤ b ∧ some b ≠ v'.ownBlock) (plcT t) xs ∧ Below w.heap.size w w' := by
  induction t using Tm.ind with
  | h s l ih =>
    intro v w X0 hv0 hsm
    obtain ⟨X, hX, hv⟩ : ∃ X : Nat → Prop, (∀ b, X b → b < w.heap.size) ∧ TV w X v ⟨s, l⟩ := ⟨fun b => X0 b ∧ b < w.heap.size, fun _ h => h.2, hv0.mono fun b h1 h2 => ⟨h1, h2⟩⟩
    clear hv0
    obtain ⟨a, c, rfl, hs⟩ := hv
    have IH := hide ih
    clear ih
    have hl := hs.1
    have hz : sizeL [(⟨s, l⟩ : Tm)] = 1 + sizeL l := by simp [sizeL]
    rw [hz] at hsm
    clear hz
    go_enter Try.func53, Try.ntmps53
    go_wp2_with fail
    go_loopw [3, 4] (fun q i wr => OuInv (w.alloc (Obj.cells #[Value.string s, Value.slice a l.length c] 25)) (w.heap.size + 1) l q i wr) (fun q i wr => l.length - (intOf i).toNat)
    case atStart =>
      refine ⟨0, [.slice none 0 0], Nat.zero_le _, rfl, ⟨by simp [plcL], Or.inr ⟨w.heap.size + 1, 1, #[.slice none 0 0], by simp [plcL], Nat.le_refl _, ?_, by simp [plcL], by decide, by simp, by simp [plcL]⟩⟩, ⟨_, [], rfl, ⟨none, 0, rfl, by simp, Or.inl rfl⟩, by simp [plcL, RowP]⟩, grown_of_below ((Below.refl _ _).alloc (Nat.le_refl _) _) _, fun k hk => ?_⟩
      · have := heap_alloc_new (w.alloc (Obj.cells #[Value.string s, Value.slice a l.length c] 25)) (Obj.cells #[Value.slice none 0 0] 34)
        simpa using this
      · simp [Value.ownBlock] at hk; right; simp; omega
    case round =>
      obtain ⟨k, xs, hk, rfl, hout⟩ := hrel
      have HOUT := hide hout
      have K0 := hide ((Blk.new w #[.string s, .slice a l.length c] 25).grown hout.2.2.1 (by simp [Value.ownBlock]))
      have c1 : wr.cell? ⟨w.heap.size, 1, none⟩ = some (.slice a l.length c) := K0.out.cell 1
      have hszr : w.heap.size + 1 ≤ wr.heap.size := by have := hout.2.2.1.size; simpa using this
      have hbw : Below w.heap.size w wr := ((Below.refl w.heap.size w).alloc (Nat.le_refl _) (.cells #[.string s, .slice a l.length c] 25)).trans ⟨hout.2.2.1.os, hout.2.2.1.tape, hout.2.2.1.output, hout.2.2.1.size, fun j hj => hout.2.2.1.block j (by simp; omega) (by simp [Value.ownBlock])⟩
      have HBW := hide hbw
      clear hout
      by_cases hlt : k < l.length
      · obtain ⟨b, o, a', c', rfl, d0, d1, hx⟩ := hs.get hbw (fun _ _ h => h) k hlt
        have hst := sizeL_take l k hlt
        have hst2 := sizeL_take_le l (k + 1)
        have HT := hide (plcL_take l k hlt)
        have HX := hide hx
        have hszk : sizeL [l[k]] ≤ 900000 := by omega
        have hpl : (([] : List Int) :: plcL 0 (l.take k)).length + sizeL [l[k]] ≤ 1000000 := by simp [plcL_len]; omega
        clear hbw hx hst hst2
        go_wp2_with fail
        refine (IH.out _ (List.getElem_mem hlt) _ _ X (by exact HX.out) hszk).mono ?_
        rintro e w1 ⟨v1, ys, rfl, hown1, hrow1, hb1⟩
        have hlp : 0 < (plcT l[k]).length := by simp [plcT]
        obtain ⟨g1, cap1, rfl, hg1, hg1', hcel⟩ := owned_val hown1 hlp
        have hpd : ∀ p ∈ plcT l[k], p.length ≤ 1000000 := fun p hp => by
          unfold plcT at hp
          rcases List.mem_cons.1 hp with rfl | hp
          · simp
          · have h1 := plc_deep _ _ p hp
            generalize l[k] = tk at *
            obtain ⟨s', l'⟩ := tk
            have : sizeL [(⟨s', l'⟩ : Tm)] = 1 + sizeL l' := by simp [sizeL]
            simp only at h1
            omega
        have HPD := hide hpd
        have HROW1 := hide hrow1
        have HCEL := hide hcel
        have HB1 := hide hb1
        have HOUT1 := hide (HOUT.out.later hb1)
        have hls := plcT_len l[k]
        have HN1 : Hid (w.heap.size + 1 ≤ w1.heap.size) := Nat.le_trans hszr hb1.size
        have HGN : Hid (∀ b, wr.heap.size ≤ b → some b ≠ Value.ownBlock u3) := fun b hb e => by have := (HOUT.out.1.lt b e.symm).2; omega
        generalize hlse : plcT l[k] = ls at *
        have hpl' : (([] : List Int) :: plcL 0 (l.take k)).length + ls.length ≤ 1000000 := by omega
        generalize hn0 : wr.heap.size = n0 at *
        clear hown1 hrow1 hcel hb1 hlse hpd hls
        go_wp2_with fail
        go_loopw [3, 6] (fun q j wr2 => InInv w1 (w.heap.size + 1) u3 ([] :: plcL 0 (l.take k)) k ls q j wr2) (fun q j wr2 => ls.length - (intOf j).toNat)
        case atStart => exact ⟨0, _, Nat.zero_le _, rfl, by simpa using HOUT1.out.here⟩
        case round =>
          obtain ⟨m, xs2, hm, rfl, hout2⟩ := hrel
          have HO2 := hide hout2
          have hsz2 := hout2.2.2.1.size
          clear hout2
          by_cases hlm : m < ls.length
          · obtain ⟨u, hu1, hu2⟩ := HROW1.out.get m hlm
            have e1 : ∀ o, (wr.alloc o).cell? ⟨g1, m, none⟩ = some u := fun o => by
              have h1 := HCEL.out m u hu1
              have h2 := HO2.out.2.2.1.block g1 hg1' (HGN.out g1 hg1)
              have h3 : (wr.alloc o).heap[g1]? = w1.heap[g1]? := by rw [Below.heap_alloc _ _ _ (by omega), h2]
              simpa [World.cell?, h3] using h1
            have hu3 := PV.grownBy hu2 HO2.out.2.2.1 (fun b hb => HGN.out b hb.1)
            obtain ⟨q2, w2, hr2, hq2, hbl2⟩ := ints_cons (hu3.later ((Below.refl _ _).alloc (Nat.le_refl _) (.cells #[.int .i64 (k : Int)] 3))) (k : Int) wr.heap.size (by simpa using heap_alloc_new wr (.cells #[.int .i64 (k : Int)] 3)) (HPD.out _ (List.getElem_mem hlm))
            obtain ⟨aq, cq, rfl, -⟩ : ∃ aq cq, q2 = .slice aq (ls[m].length + 1) cq ∧ True := by obtain ⟨aq, cq, h, _⟩ := hq2; exact ⟨aq, cq, by simpa using h, trivial⟩
            have hbl3 : Below wr.heap.size wr w2 := ((Below.refl _ _).alloc (Nat.le_refl _) _).trans (hbl2.mono (by simp))
            have hnn : ((([] : List Int) :: plcL 0 (l.take k)) ++ (ls.take m).map fun p => (k : Int) :: p).length ≤ 1000000 := by
              rw [List.length_append, List.length_map, List.length_take]; omega
            obtain ⟨q3, w3, hr3, ho3⟩ := OutAt.push HO2.out (Nat.le_trans HN1.out hsz2) hbl3 (hq2.mono fun b hb _ => by simp at hb; omega) hnn w2.heap.size rfl
            have HR2 := hide hr2
            have HR3 := hide hr3
            have HO3 := hide ho3
            have HTM : Hid ((ls.take (m + 1)).map (fun p => (k : Int) :: p) = (ls.take m).map (fun p => (k : Int) :: p) ++ [(k : Int) :: ls[m]]) := by
              unfold Hid; rw [List.take_succ_eq_append_getElem hlm, List.map_append]; rfl
            clear hu2 hu1 hu3 hr2 hr3 ho3 hq2 hbl2 hbl3 hnn
            go_wp2_with first
              | (at_builtin; refine wpList_append_eq rfl _ _ _ _ rfl rfl rfl HR2.out ?_)
              | (at_builtin; refine wpList_append_eq rfl _ _ _ _ rfl rfl rfl HR3.out ?_)
            go_roundw
            case rel => exact ⟨m + 1, _, by omega, by go_num, by rw [HTM.out, ← List.append_assoc]; exact HO3.out⟩
            case measure => simp [intOf]; omega
          · have htk : ls.take m = ls := List.take_of_length_le (by omega)
            have h1 := HO2.out
            rw [htk, List.cons_append, ← HT.out] at h1
            have HF := hide (HOUT1.out.mono h1)
            clear h1
            go_wp2_with fail
            go_roundw
            case rel => exact ⟨k + 1, _, by omega, by go_num, HF.out⟩
            case measure => simp [intOf]; omega
      · have htk : l.take k = l := List.take_of_length_le (by omega)
        have ho := HOUT.out
        rw [htk] at ho
        have HF := hide ho
        clear ho
        go_wp2_with fail
        go_ret
        exact ⟨_, _, rfl, owns_le HF.out.1 (by omega), HF.out.2.1.imp fun u z hp => hp.mono fun b hb _ => ⟨by omega, hb.2⟩, HBW.out⟩
#print axioms OutAt.push
#print axioms ints_cons
#print axioms placesOf_any
end Go.Proofs.Ytcjdbbdmighliac

/- A slice without its first. -/
namespace Go.Proofs.Ytcjdbbdmighliac
open Go.RowKit
set_option linter.unusedSimpArgs false
set_option linter.unusedVariables false

set_option maxRecDepth 8000 in
theorem slice_tail_run (b o n pc : Nat) (hn : n + 1 ≤ pc) (w' : World) : Sem.run Try.prog (Instr.slice 34 (.slice (some ⟨b, o, none⟩) (n + 1) pc) (some (.int .i64 1)) none none) w' = .ok (.slice (if pc = 1 then some ⟨b, o, none⟩ else some ⟨b, o + 1, none⟩) n (pc - 1)) w' := by
  have hle1 : (1 : Int) ≤ (n : Int) + 1 := by omega
  have e1 : (1 : Int) ≤ ((n + 1 : Nat) : Int) := by omega
  rw [run_slice_l (P := Try.prog) (ht := Try.underlying34) (h0 := by omega) (h1 := e1)]
  by_cases hpc : pc = 1
  · subst hpc
    simp [go_sem, sliced]
  · simp [go_sem, sliced, hpc]
#print axioms slice_tail_run
end Go.Proofs.Ytcjdbbdmighliac

/- Walks: a term with another one at a place, as the document says. -/
namespace Go.Proofs.Ytcjdbbdmighliac
open Go.RowKit
set_option linter.unusedSimpArgs false
set_option linter.unusedVariables false
set_option maxRecDepth 8000

/-- What a round that appends does: the row at block M holds what is appended to. -/
theorem put_step {w wr w1 w3 : World} {M T : Nat} {Y : Nat → Prop} {u : Value} {L : List Tm} {t : Tm} {xs : List Value} {o2 : Obj} {s s' : ByteArray} {a1 : Option Addr} {n1 c1 g cap n : Nat} (hn : L.length = n) (hrow : Row wr (M + 1) T Y u L xs) (hb : Below w.heap.size w wr) (hM : w.heap.size ≤ M) (hY : ∀ b, Y b → b < w.heap.size)
    (h2 : Blk wr M #[.string s, u] T) (hsz : M + 1 ≤ wr.heap.size)
    (hb1 : Below wr.heap.size wr w1) (ht : TV w1 (fun b => Y b ∨ wr.heap.size ≤ b) (.agg #[.string s', .slice a1 n1 c1]) t)
    (hown : w3.ownsRow (M + 1) T 2 (.slice (some ⟨g, 0, none⟩) (n + 1) cap) (n + 1) (xs ++ [.string s', .slice a1 n1 c1])) (hg : (w1.alloc o2).grownBy w3 u.ownBlock) (hat : u.ownBlock = some g ∨ g = (w1.alloc o2).heap.size) :
    let w4 := w3.setCell ⟨M, 1, none⟩ (.slice (some ⟨g, 0, none⟩) (n + 1) cap)
    Row w4 (M + 1) T Y (.slice (some ⟨g, 0, none⟩) (n + 1) cap) (L ++ [t]) (xs ++ [.string s', .slice a1 n1 c1]) ∧ Below w.heap.size w w4 ∧ (∀ b cs, b < M → Blk wr b cs T → Blk w4 b cs T) ∧ Blk w4 M #[.string s, .slice (some ⟨g, 0, none⟩) (n + 1) cap] T ∧ M + 1 ≤ w4.heap.size := by
  intro w4
  subst hn
  have hlt' := hrow.own.lt
  have hs1 := hb1.size
  have hsg := hg.size
  simp at hsg
  have hp := hrow.push (w1 := w1) (w2 := w1.alloc o2) (w3 := w3) hsz (fun b h => by have := hY b h; omega) hb1 ht o2 rfl hown hg hat
  have hw3 : Below w.heap.size w w3 := ((hb.trans (hb1.mono hb.size)).alloc (by have := hb.size; omega) o2).grown hg (by have := hb.size; simp; omega) (fun j hj => by have := (hlt' j hj).1; omega)
  have hA : Below w.heap.size w w4 := hw3.setCell (p := ⟨M, 1, none⟩) hM _
  have hbk : ∀ b cs, b < M + 1 → Blk wr b cs T → Blk w3 b cs T := fun b cs hb h => ((h.below hb1 h.lt).alloc o2).grown hg (hrow.ne hb)
  refine ⟨hp.setCell (by omega) (fun h => by have := hY _ h; omega) _, hA, fun b cs hb h => (hbk b cs (by omega) h).setOther _ _ (by omega), (hbk _ _ (by omega) h2).set 1 _, by simp [w4, World.setCell]; omega⟩

theorem put_blk {wr w1 w3 : World} {o2 : Obj} {M T : Nat} {Y : Nat → Prop} {u : Value} {L : List Tm} {xs : List Value} {b : Nat} {cs : Array Value} (hrow : Row wr (M + 1) T Y u L xs) (h : Blk wr b cs T) (hb1 : Below wr.heap.size wr w1) (hg : (w1.alloc o2).grownBy w3 u.ownBlock) (hM : b < M + 1) : Blk w3 b cs T :=
  ((h.below hb1 h.lt).alloc o2).grown hg (hrow.ne hM)

theorem own_later {w w' : World} {N T size : Nat} {v : Value} {n : Nat} {xs : List Value} (h : w.ownsRow N T size v n xs) (hb : Below w.heap.size w w') : w'.ownsRow N T size v n xs :=
  h.kept (w' := w') (row := none) ⟨hb.os, hb.tape, hb.output, hb.size, fun j hj _ => hb.block j hj⟩ (by rcases Option.eq_none_or_eq_some (Value.ownBlock v) with h | ⟨x, h⟩; exact Or.inl h; exact Or.inr (by rw [h]; simp))

/-- What holds at each round's head of putting at a place. -/
def PutInv (w : World) (X : Nat → Prop) (x : Tm) (zs : List Int) (z : Int) (s : ByteArray) (l : List Tm) (a : Option Addr) (c : Nat) (ax : Option Addr) (cx : Nat) (i : Value) (wr : World) : Prop :=
  ∃ (k : Nat) (q : Value) (xs : List Value), k ≤ l.length ∧ i = .int .i64 k ∧ Row wr (w.heap.size + 1 + 1 + 1 + 1) 25 X q ((putL (putT x zs) z 0 l).take k) xs ∧ Below w.heap.size w wr ∧ Blk wr w.heap.size #[.string s, .slice a l.length c] 25 ∧ Blk wr (w.heap.size + 1) #[.string x.name, .slice ax x.args.length cx] 25 ∧ Blk wr (w.heap.size + 1 + 1) #[.string ⟨#[]⟩, .slice none 0 0] 25 ∧ Blk wr (w.heap.size + 1 + 1 + 1) #[.string s, q] 25 ∧ w.heap.size + 1 + 1 + 1 + 1 ≤ wr.heap.size

theorem two_one (s : ByteArray) (a : Option Addr) (n c : Nat) : ∀ u ∈ [Value.string s, .slice a n c], u.oneCell' = true := fun x hx => by
  simp at hx; rcases hx with rfl | rfl <;> rfl

theorem drew_below {wr w1 : World} (hb1 : Below wr.drew.heap.size wr.drew w1) : Below wr.heap.size wr w1 := (below_drewN (Below.refl _ _) 1).trans hb1

set_option maxHeartbeats 4000000 in
theorem putOf_any (x : Tm) (zs : List Int) : ∀ (t : Tm) (v p u : Value) (w : World) (X : Nat → Prop), TV w X v t → PV w X p zs → TV w X u x → sizeL [t] ≤ 1000000 →
    Calls Try.prog 56 #[v, p, u] w fun e w' => ∃ v', e = .returned v' ∧ TV w' (fun b => X b ∨ w.heap.size ≤ b) v' (putT x zs t) ∧ Below w.heap.size w w' := by
  induction zs with
  | nil =>
    intro t v p u w X hv hp hu hsm
    obtain ⟨a, c, rfl, hs⟩ := hv
    obtain ⟨ax, cx, rfl, hsx⟩ := hu
    obtain ⟨pa, pc, rfl, hzl, hz⟩ := hp
    go_enter Try.func56, Try.ntmps56
    go_wp2_with fail
    refine bodyPost_ret (v := .agg #[.string x.name, .slice ax x.args.length cx]) (by simp [results, Try.results56, go_sem]) rfl ⟨_, rfl, ?_, below3 _ _ _⟩
    exact ⟨ax, cx, by simp [putT], ((hsx.later (below3 _ _ _)).mono fun b h _ => Or.inl h)⟩
  | cons z zs ih =>
    intro t v p u w X0 hv0 hp0 hu0 hsm
    have IH := hide ih
    clear ih
    obtain ⟨X, hX, hXX, hv, hp, hu⟩ : ∃ X : Nat → Prop, (∀ b, X b → b < w.heap.size) ∧ (∀ b, X b → X0 b) ∧ TV w X v t ∧ PV w X p (z :: zs) ∧ TV w X u x := ⟨fun b => X0 b ∧ b < w.heap.size, fun _ h => h.2, fun _ h => h.1, hv0.mono fun b h1 h2 => ⟨h1, h2⟩, hp0.mono fun b h1 h2 => ⟨h1, h2⟩, hu0.mono fun b h1 h2 => ⟨h1, h2⟩⟩
    clear hv0 hp0 hu0
    obtain ⟨a, c, rfl, hs⟩ := hv
    obtain ⟨ax, cx, rfl, hsx⟩ := hu
    have HU := hide (show TV w X (.agg #[.string x.name, .slice ax x.args.length cx]) x from ⟨ax, cx, rfl, hsx⟩)
    clear hsx
    obtain ⟨pa, pc, rfl, hzl, hz⟩ := hp
    obtain ⟨b, o, rfl, hxb, hcell⟩ := hz.resolve_left (fun h => by cases h)
    have h0 := hcell 0 (by simp)
    simp only [Nat.add_zero, List.getElem_cons_zero] at h0
    have htl := hs.1
    have hzl' : zs.length + 1 ≤ 9223372036854775807 ∧ zs.length + 1 ≤ pc := by simpa using hzl
    obtain ⟨hzl1, hzl2⟩ := hzl'
    obtain ⟨s, l⟩ := t
    have hz1 : sizeL [(⟨s, l⟩ : Tm)] = 1 + sizeL l := by simp [sizeL]
    rw [hz1] at hsm
    clear hz1
    have hlen := sizeL_len l
    obtain ⟨i0, hi, hz0, hz1, hz2⟩ := info_parts Try.infoTerm
    obtain ⟨sa, HSA, HT⟩ : ∃ sa : Option Addr, Hid ((if pc = 1 then some (⟨b, o, none⟩ : Addr) else some ⟨b, o + 1, none⟩) = sa) ∧ Hid (PV w X (.slice sa zs.length (pc - 1)) zs) := by
      by_cases h1 : pc = 1
      · refine ⟨_, rfl, ?_⟩
        have : zs = [] := List.length_eq_zero_iff.1 (by omega)
        subst this
        exact ⟨_, _, rfl, by simp, Or.inl rfl⟩
      · refine ⟨_, rfl, ?_⟩
        rw [if_neg h1]
        exact PV.tail ⟨hzl1, hzl2⟩ hxb hcell
    simp only [List.length_cons] at *
    clear hcell hzl hz
    go_enter Try.func56, Try.ntmps56
    go_wp2_with fail
    go_loopw [8] (fun i wr => PutInv w X x zs z s l a c ax cx i wr) (fun i wr => l.length - (intOf i).toNat)
    case atStart =>
      unfold PutInv
      refine ⟨0, .slice none 0 0, [], Nat.zero_le _, rfl, Row.start _ _ _ _, below4 _ _ _ _, ?_, ?_, ?_, ?_, by simp⟩
      · exact (((Blk.new w _ _).alloc _).alloc _).alloc _
      · have := ((Blk.new (w.alloc (.cells #[.string s, .slice a l.length c] 25)) #[.string x.name, .slice ax x.args.length cx] 25).alloc (.cells #[.string ⟨#[]⟩, .slice none 0 0] 25)).alloc (.cells #[.string s, .slice none 0 0] 25)
        simpa using this
      · have := (Blk.new ((w.alloc (.cells #[.string s, .slice a l.length c] 25)).alloc (.cells #[.string x.name, .slice ax x.args.length cx] 25)) #[.string ⟨#[]⟩, .slice none 0 0] 25).alloc (.cells #[.string s, .slice none 0 0] 25)
        simpa using this
      · have := Blk.new (((w.alloc (.cells #[.string s, .slice a l.length c] 25)).alloc (.cells #[.string x.name, .slice ax x.args.length cx] 25)).alloc (.cells #[.string ⟨#[]⟩, .slice none 0 0] 25)) #[.string s, .slice none 0 0] 25
        simpa using this
    case round =>
      obtain ⟨k, q, xs, hk, rfl, hrow, hb, hbl0, hbl1, hbl2, hbl3, hsz⟩ := hrel
      have HROW := hide hrow
      have HB := hide hb
      have HBL0 := hide hbl0
      have HBL1 := hide hbl1
      have HBL2 := hide hbl2
      have HBL3 := hide hbl3
      have c01 : wr.cell? ⟨w.heap.size, 1, none⟩ = some (.slice a l.length c) := hbl0.cell 1
      have c10 : wr.cell? ⟨w.heap.size + 1, 0, none⟩ = some (.string x.name) := hbl1.cell 0
      have c11 : wr.cell? ⟨w.heap.size + 1, 1, none⟩ = some (.slice ax x.args.length cx) := hbl1.cell 1
      have c30 : wr.cell? ⟨w.heap.size + 1 + 1 + 1, 0, none⟩ = some (.string s) := hbl3.cell 0
      have c31 : wr.cell? ⟨w.heap.size + 1 + 1 + 1, 1, none⟩ = some q := hbl3.cell 1
      have c31a : ∀ o, (wr.alloc o).cell? ⟨w.heap.size + 1 + 1 + 1, 1, none⟩ = some q := fun o => (hbl3.alloc o).cell 1
      have czw := cell_later hb h0
      by_cases hlt : k < l.length
      · obtain ⟨b1, o1, a', c', rfl, d0, d1, hx⟩ := hs.get hb (fun _ _ h => h) k hlt
        have HX := hide hx
        have HPL := hide (putL_take (putT x zs) z l k hlt)
        have hkl : ((putL (putT x zs) z 0 l).take k).length = k := by rw [List.length_take, putL_length]; omega
        have HKL := hide hkl
        have HOWN : Hid (wr.ownsRow (w.heap.size + 1 + 1 + 1 + 1) 25 2 q k xs) := by have := hrow.own; rw [hkl] at this; exact this
        have hszk : sizeL [l[k]] ≤ 1000000 := by
          have := sizeL_take l k hlt; have := sizeL_take_le l (k + 1); omega
        clear hbl0 hbl1 hbl2 hbl3 hb hx hrow hkl
        by_cases hkz : (k : Int) = z
        · have HKZ := hide hkz
          have hkz' : ((k : Int) == z) = true := by simpa using hkz
          clear hkz
          have HT' : Hid (PV wr.drew X (.slice sa zs.length (pc - 1)) zs) := HT.out.later (HB.out.drew)
          have HU' : Hid (TV wr.drew X (.agg #[.string x.name, .slice ax x.args.length cx]) x) := HU.out.later (HB.out.drew)
          have hle1 : (1 : Int) ≤ (zs.length : Int) + 1 := by omega
          have hslq : ∀ w' : World, Sem.run Try.prog (Instr.slice 34 (.slice (some ⟨b, o, none⟩) (zs.length + 1) pc) (some (.int .i64 1)) none none) w' = .ok (.slice sa zs.length (pc - 1)) w' := fun w' => by
            rw [slice_tail_run b o zs.length pc hzl2 w', HSA.out]
          go_wp2_with fail
          go_region_law (first
            | (refine step_append_lies _ rfl _ _ 23 rfl (w.heap.size + 1 + 1 + 1 + 1) 25 i0 _ 2 40 Try.underlying23 hi hz0 hz1 hz2 rfl (by decide) q k xs rfl (by exact (own_later HOWN.out (drew_below hb1)).alloc _) ⟨w1.heap.size, 0, none⟩ 1 1 [.string s9, .slice a9 n9 c9] rfl rfl (by exact cell_two_new _ _ _ _) (two_one _ _ _ _) (by decide) (by unfold maxLen; omega) (by omega) (by have := hb1.size; simp at this ⊢; omega) _ rfl ?_; intro g cap w3 hown3 hgrow3 hat3 hlt3; have hB3 := hide (put_blk HROW.out HBL3.out (drew_below hb1) hgrow3 (Nat.lt_succ_self _)); have hc5 : w3.cell? ⟨w.heap.size + 1 + 1 + 1, 1, none⟩ = some q := hB3.out.cell 1; have hf5 := hB3.out.frozen 1)
            | (go_simp; go_at_call 56; refine (IH.out _ _ _ _ _ X (by exact HX.out.later (below_drewN (Below.refl _ _) 1)) (by exact HT'.out) (by exact HU'.out) hszk).mono ?_; rintro e w1 ⟨v1, rfl, ht1, hb1⟩; obtain ⟨a9, c9, rfl, hs9⟩ := ht1; generalize hs9n : (putT x _ l[k]).name = s9; generalize hs9l : (putT x _ l[k]).args.length = n9; have hc3 : ∀ o, (w1.alloc o).cell? ⟨w.heap.size + 1 + 1 + 1, 1, none⟩ = some q := fun o => ((HBL3.out.below (drew_below hb1) HBL3.out.lt).alloc o).cell 1; have hc4 : w1.cell? ⟨w.heap.size + 1 + 1 + 1, 1, none⟩ = some q := (HBL3.out.below (drew_below hb1) HBL3.out.lt).cell 1))
          all_goals
            have HFIN := hide (put_step HKL.out HROW.out HB.out (by omega) hX HBL3.out hsz (drew_below hb1) (show TV w1 _ (.agg #[.string s9, .slice a9 n9 c9]) _ from ⟨a9, c9, by rw [hs9n, hs9l], hs9⟩) hown3 hgrow3 hat3)
            clear hown3 hgrow3 hat3
            go_wp2_with fail
            go_roundw
            case rel =>
              obtain ⟨r1, r2, r3, r4, r5⟩ := HFIN.out
              unfold PutInv
              refine ⟨k + 1, _, xs ++ [.string s9, .slice a9 n9 c9], by omega, by go_num, ?_, r2, r3 _ _ (by omega) HBL0.out, r3 _ _ (by omega) HBL1.out, r3 _ _ (by omega) HBL2.out, r4, r5⟩
              rw [HPL.out, if_pos HKZ.out]
              exact r1
            case measure => simp [intOf]; omega
        · have hkz' : ((k : Int) == z) = false := by simpa using hkz
          have HKZ := hide hkz
          clear hkz
          go_wp2_with fail
          go_region_law (first
            | (refine step_append_lies _ rfl _ _ 23 rfl (w.heap.size + 1 + 1 + 1 + 1) 25 i0 _ 2 40 Try.underlying23 hi hz0 hz1 hz2 rfl (by decide) q k xs rfl (by exact (own_later HOWN.out (below_drewN (Below.refl _ _) 1)).alloc _) ⟨wr.heap.size, 0, none⟩ 1 1 [.string l[k].name, .slice a' l[k].args.length c'] rfl rfl (by exact cell_two_new _ _ _ _) (two_one _ _ _ _) (by decide) (by unfold maxLen; omega) (by omega) (by simp; omega) _ rfl ?_; intro g cap w3 hown3 hgrow3 hat3 hlt3; have hB3 := hide (put_blk HROW.out HBL3.out (below_drewN (Below.refl _ _) 1) hgrow3 (Nat.lt_succ_self _)); have hc5 : w3.cell? ⟨w.heap.size + 1 + 1 + 1, 1, none⟩ = some q := hB3.out.cell 1; have hf5 := hB3.out.frozen 1))
          all_goals
            have HFIN := hide (put_step HKL.out HROW.out HB.out (by omega) hX HBL3.out hsz (below_drewN (Below.refl _ _) 1) ((HX.out.later (below_drewN (Below.refl _ _) 1)).mono fun b h _ => Or.inl h) hown3 hgrow3 hat3)
            clear hown3 hgrow3 hat3
            go_wp2_with fail
            go_roundw
            case rel =>
              obtain ⟨r1, r2, r3, r4, r5⟩ := HFIN.out
              unfold PutInv
              refine ⟨k + 1, _, xs ++ [.string l[k].name, .slice a' l[k].args.length c'], by omega, by go_num, ?_, r2, r3 _ _ (by omega) HBL0.out, r3 _ _ (by omega) HBL1.out, r3 _ _ (by omega) HBL2.out, r4, r5⟩
              rw [HPL.out, if_neg HKZ.out]
              exact r1
            case measure => simp [intOf]; omega
      · have htk : (putL (putT x zs) z 0 l).take k = putL (putT x zs) z 0 l := List.take_of_length_le (by rw [putL_length]; omega)
        have r20 : wr.cell? ⟨w.heap.size + 1 + 1, 0, none⟩ = some (.string ⟨#[]⟩) := hbl2.cell 0
        have r21 : wr.cell? ⟨w.heap.size + 1 + 1, 1, none⟩ = some (.slice none 0 0) := hbl2.cell 1
        have rf := hbl2.frozen
        obtain ⟨a9, c9, hu9, hsl9⟩ := hrow.sl
        rw [htk, putL_length] at hu9
        rw [htk] at hsl9
        have HSL := hide hsl9
        subst hu9
        clear hsl9 htk hbl0 hbl1 hbl2 hbl3 hrow hb
        go_wp2_with fail
        refine bodyPost_ret (v := .agg #[.string s, .slice a9 l.length c9]) (by simp [results, Try.results56, go_sem, r20, r21, World.cell?_setCell_same, World.cell?_setCell_other]) rfl ⟨_, rfl, ?_, ?_⟩
        · refine ⟨a9, c9, by simp [putT, putL_length], ?_⟩
          have hk9 : Sl wr (fun b => X b ∨ w.heap.size + 1 + 1 + 1 + 1 ≤ b) a9 (putL (putT x zs) z 0 l) := HSL.out
          have hk8 : Sl wr (fun b => X0 b ∨ w.heap.size ≤ b) a9 (putT x (z :: zs) ⟨s, l⟩).args := by
            refine hk9.mono fun b hb _ => ?_
            rcases hb with hb | hb
            · exact Or.inl (hXX b hb)
            · exact Or.inr (by omega)
          have hk7 : Sl wr (fun b => (X b ∨ w.heap.size + 1 + 1 + 1 + 1 ≤ b)) a9 (putT x (z :: zs) ⟨s, l⟩).args := hk9
          refine (hk7.kept fun b hb => ?_).mono fun b hb _ => ?_
          · have hne : b ≠ w.heap.size + 1 + 1 := by
              rcases hb with hb | hb
              · have := hX b hb; omega
              · omega
            rw [Below.heap_setCell _ _ _ _ (by simpa using hne), Below.heap_setCell _ _ _ _ (by simpa using hne)]
          · rcases hb with hb | hb
            · exact Or.inl (hXX b hb)
            · exact Or.inr (by omega)
        · exact (HB.out.setCell (by simp; omega) _).setCell (by simp; omega) _
#print axioms putOf_any
end Go.Proofs.Ytcjdbbdmighliac

/- Walks: what one step makes of a term, as the document says. -/
namespace Go.Proofs.Ytcjdbbdmighliac
open Go.RowKit
set_option linter.unusedSimpArgs false
set_option linter.unusedVariables false
set_option maxRecDepth 8000

/-- From now on, whatever else is made. -/
def Evs (P : World → Prop) (w : World) : Prop := ∀ w', Below w.heap.size w w' → P w'
theorem Evs.now {P : World → Prop} {w : World} (h : Evs P w) : P w := h w (Below.refl _ _)
theorem Evs.later {P : World → Prop} {w w' : World} (h : Evs P w) (hb : Below w.heap.size w w') : Evs P w' := fun w'' hb' => h w'' (hb.trans (hb'.mono hb.size))
theorem Evs.alloc {P : World → Prop} {w : World} (h : Evs P w) (o : Obj) : Evs P (w.alloc o) := h.later ((Below.refl _ _).alloc (Nat.le_refl _) o)
/-- What doesn't change: the term, its places, the rules. -/
structure StF (rs : List Pr) (t : Tm) (ps : List (List Int)) (aa : Option Addr) (ca B3 g7 : Nat) (fv : Nat → Value) (u : Value) (W0 wr : World) : Prop where
  k1 : Blk wr B3 #[.string t.name, .slice aa t.args.length ca] 25
  s1 : Sl wr (fun b => b < W0.heap.size) aa t.args
  pl : ∀ i (h : i < ps.length), wr.cell? ⟨g7, i, none⟩ = some (fv i) ∧ PV wr (fun b => b < W0.heap.size) (fv i) ps[i]
  qv : QV wr (fun b => b < W0.heap.size) u rs
  bl : Below W0.heap.size W0 wr
/-- So many places are gone through. -/
def StoInv (rs : List Pr) (t : Tm) (ps : List (List Int)) (W0 : World) (v o : Value) (wr : World) : Prop :=
  ∃ (i : Nat) (xs : List Value), i ≤ ps.length ∧ o = .int .i64 (i : Int) ∧ Row wr W0.heap.size 25 (fun b => b < W0.heap.size) v ((ps.take i).flatMap (stAt rs t)) xs ∧ (∀ y ∈ (ps.take i).flatMap (stAt rs t), sizeL [y] ≤ 2000) ∧ Below W0.heap.size W0 wr
/-- What the first rules make. -/
def stK (rs : List Pr) (t x : Tm) (p : List Int) (k : Nat) : List Tm := (rs.take k).filterMap fun r => (fitT r x).map fun y => putT y p t
theorem stK_none {rs : List Pr} {t x : Tm} {p : List Int} {k : Nat} (h : k < rs.length) (hf : fitT rs[k] x = none) : stK rs t x p (k + 1) = stK rs t x p k := by
  unfold stK
  rw [List.take_succ_eq_append_getElem h, List.filterMap_append]
  simp [hf]
theorem stK_some {rs : List Pr} {t x z : Tm} {p : List Int} {k : Nat} (h : k < rs.length) (hf : fitT rs[k] x = some z) : stK rs t x p (k + 1) = stK rs t x p k ++ [putT z p t] := by
  unfold stK
  rw [List.take_succ_eq_append_getElem h, List.filterMap_append]
  simp [hf]
theorem stK_len (rs : List Pr) (t x : Tm) (p : List Int) (k : Nat) : (stK rs t x p k).length ≤ k := Nat.le_trans (List.length_filterMap_le _ _) (by simp; omega)
theorem stK_all {rs : List Pr} {t x : Tm} {p : List Int} (h : atT t p = some x) : stK rs t x p rs.length = stAt rs t p := by
  unfold stK stAt
  rw [h, List.take_length]
theorem stAt_len (rs : List Pr) (t : Tm) (p : List Int) : (stAt rs t p).length ≤ rs.length := by
  unfold stAt
  split
  · exact List.length_filterMap_le _ _
  · simp
theorem flat_len {rs : List Pr} {t : Tm} (h40 : rs.length ≤ 40) : ∀ ps : List (List Int), (ps.flatMap (stAt rs t)).length ≤ 40 * ps.length
  | [] => by simp
  | p :: ps => by
    have h1 := flat_len (t := t) h40 ps
    have h2 := stAt_len rs t p
    rw [List.flatMap_cons, List.length_append, List.length_cons]
    omega
theorem flat_next {rs : List Pr} {t : Tm} {ps : List (List Int)} {i : Nat} (h : i < ps.length) : (ps.take (i + 1)).flatMap (stAt rs t) = (ps.take i).flatMap (stAt rs t) ++ stAt rs t ps[i] := by
  rw [List.take_succ_eq_append_getElem h, List.flatMap_append]
  simp
/-- At a place, so many rules are tried. -/
def StiInv (rs : List Pr) (t x : Tm) (p : List Int) (l0 : List Tm) (a9 : Option Addr) (c9 B9 : Nat) (W0 : World) (v o : Value) (wr : World) : Prop :=
  ∃ (k : Nat) (xs : List Value), k ≤ rs.length ∧ o = .int .i64 (k : Int) ∧ Row wr W0.heap.size 25 (fun b => b < W0.heap.size) v (l0 ++ stK rs t x p k) xs ∧ (∀ y ∈ l0 ++ stK rs t x p k, sizeL [y] ≤ 2000) ∧ Blk wr B9 #[.string x.name, .slice a9 x.args.length c9] 25 ∧ W0.heap.size ≤ B9 ∧ some B9 ≠ v.ownBlock ∧ Below W0.heap.size W0 wr
/-- The outcome: all, or too great. -/
def StoPost (rs : List Pr) (t : Tm) (w : World) (e : Ending) (w' : World) : Prop :=
  Below w.heap.size w w' ∧ ((∃ v, (∀ y ∈ stAll rs t, sizeL [y] ≤ 2000) ∧ e = .returned (.tuple #[v, .int .i64 0]) ∧ ∃ N xs, w.heap.size ≤ N ∧ Row w' N 25 (fun b => b < N) v (stAll rs t) xs) ∨ ((∃ y ∈ stAll rs t, 2000 < sizeL [y]) ∧ e = .returned (.tuple #[.slice none 0 0, .int .i64 8])))
theorem put_ge (x : Tm) : ∀ (p : List Int) (t y : Tm), atT t p = some y → sizeL [x] ≤ sizeL [putT x p t]
  | [], t, y, _ => by simp [putT]
  | i :: r, t, y, h => by
    obtain ⟨k, hk, rfl, h2⟩ := atT_cons h
    have ih := put_ge x r _ y h2
    obtain ⟨s, l⟩ := t
    have e : sizeL [putT x ((k : Int) :: r) ⟨s, l⟩] = 1 + sizeL (putL (putT x r) (k : Int) 0 l) := by rw [putT]; simp [sizeL]
    have h3 := sizeL_take (putL (putT x r) (k : Int) 0 l) k (by rw [putL_length]; exact hk)
    have h4 := sizeL_take_le (putL (putT x r) (k : Int) 0 l) (k + 1)
    rw [putL_get _ _ _ _ _ hk, if_pos (by simp)] at h3
    omega

theorem stF_ev {rs : List Pr} {t : Tm} {ps : List (List Int)} {aa : Option Addr} {ca B3 g7 : Nat} {fv : Nat → Value} {u : Value} {W0 : World} (h : StF rs t ps aa ca B3 g7 fv u W0 W0) (hg : g7 < W0.heap.size) : Evs (StF rs t ps aa ca B3 g7 fv u W0) W0 := fun w' hb =>
  ⟨h.k1.below hb h.k1.lt, h.s1.later hb, fun i hi => ⟨(hb.cell (p := ⟨g7, i, none⟩) hg).trans (h.pl i hi).1, (h.pl i hi).2.later hb⟩, h.qv.later hb, hb⟩
/-- What stands at a place, in a box. -/
def AtW (t x : Tm) (W0 : World) (v : Value) (l : List Tm) (o : Value) (wc : World) : Prop :=
  ∃ (B9 : Nat) (a9 : Option Addr) (c9 : Nat) (xs : List Value), o = .pointer (some ⟨B9, 0, none⟩) ∧ Blk wc B9 #[.string x.name, .slice a9 x.args.length c9] 25 ∧ Sl wc (fun b => b < W0.heap.size) a9 x.args ∧ W0.heap.size ≤ B9 ∧ some B9 ≠ v.ownBlock ∧ Row wc W0.heap.size 25 (fun b => b < W0.heap.size) v l xs ∧ Below W0.heap.size W0 wc
theorem atW_endA {t x : Tm} {W0 w w1 : World} {v : Value} {l : List Tm} {xs : List Value} {a9 : Option Addr} {c9 : Nat} (hr : Row w W0.heap.size 25 (fun b => b < W0.heap.size) v l xs) (hB : Below W0.heap.size W0 w) (hb : Below w.heap.size w w1) (hs : Sl w1 (fun b => b < W0.heap.size) a9 x.args) :
    AtW t x W0 v l (.pointer (some ⟨w1.heap.size, 0, none⟩)) (w1.alloc (.cells #[.string x.name, .slice a9 x.args.length c9] 25)) := by
  have hb2 := hb.alloc hb.size (.cells #[.string x.name, .slice a9 x.args.length c9] 25)
  have h1 := hB.size
  have h2 := hb.size
  refine ⟨w1.heap.size, a9, c9, xs, rfl, Blk.new w1 _ _, hs.later ((Below.refl _ _).alloc (Nat.le_refl _) _), by omega, fun e => ?_, hr.below hb2, hB.trans (hb2.mono hB.size)⟩
  have := (hr.own.lt _ e.symm).2
  omega
theorem atW_endB {t x : Tm} {W0 w w1 : World} {v : Value} {l : List Tm} {xs : List Value} {a9 : Option Addr} {c9 : Nat} (hr : Row w W0.heap.size 25 (fun b => b < W0.heap.size) v l xs) (hB : Below W0.heap.size W0 w) (hb : Below w.heap.size w w1) (hz : Blk w1 w.heap.size #[.string ⟨#[]⟩, .slice none 0 0] 25) (hs : Sl w1 (fun b => b < W0.heap.size) a9 x.args) :
    Below w.heap.size w ((w1.setCell ⟨w.heap.size, 0, none⟩ (.string x.name)).setCell ⟨w.heap.size, 1, none⟩ (.slice a9 x.args.length c9)) ∧ AtW t x W0 v l (.pointer (some ⟨w.heap.size, 0, none⟩)) ((w1.setCell ⟨w.heap.size, 0, none⟩ (.string x.name)).setCell ⟨w.heap.size, 1, none⟩ (.slice a9 x.args.length c9)) := by
  have hb2 : Below w.heap.size w ((w1.setCell ⟨w.heap.size, 0, none⟩ (.string x.name)).setCell ⟨w.heap.size, 1, none⟩ (.slice a9 x.args.length c9)) := (hb.setCell (by simp) _).setCell (by simp) _
  have h1 := hB.size
  refine ⟨hb2, w.heap.size, a9, c9, xs, rfl, (hz.set 0 _).set 1 _, hs.kept fun b hb => ?_, h1, fun e => ?_, hr.below hb2, hB.trans (hb2.mono hB.size)⟩
  · have hlt : b < W0.heap.size := hb
    rw [Below.heap_setCell _ _ _ _ (by simp; omega), Below.heap_setCell _ _ _ _ (by simp; omega)]
  · have := (hr.own.lt _ e.symm).2
    omega

theorem cell_term_new (w : World) (a b : Value) (T : Nat) : ∀ j u, ([a, b] : List Value)[j]? = some u → (w.alloc (.cells #[a, b] T)).cell? ((⟨w.heap.size, 0, none⟩ : Addr).add j) = some u := fun j u h => by
  have hb := Blk.new w #[a, b] T
  have h1 : (⟨w.heap.size, 0, none⟩ : Addr).add j = ⟨w.heap.size, j, none⟩ := by
    by_cases h0 : j = 0
    · subst h0; simp [Addr.add]
    · simp [Addr.add, h0]
  rw [h1, hb.cell j]
  simpa using h
theorem terms_append {w w1 : World} {N : Nat} {Y : Nat → Prop} {v : Value} {l : List Tm} {xs : List Value} (h : Row w N 25 Y v l xs) (hN : N ≤ w.heap.size) (hY : ∀ b, Y b → b < N) (hb : Below w.heap.size w w1) (t : Tm) (a : Option Addr) (c : Nat) (ht : Sl w1 (fun b => Y b ∨ w.heap.size ≤ b) a t.args) (hn : l.length ≤ 1000000) :
    ∃ g cap w3, (Builtin.append_ #[23, 23] 23 #[v, .slice (some ⟨w1.heap.size, 0, none⟩) 1 1]).run Try.prog (w1.alloc (.cells #[.string t.name, .slice a t.args.length c] 25)) = .ok (.slice (some ⟨g, 0, none⟩) (l.length + 1) cap) w3 ∧ Row w3 N 25 Y (.slice (some ⟨g, 0, none⟩) (l.length + 1) cap) (l ++ [t]) (xs ++ [.string t.name, .slice a t.args.length c]) ∧ (w1.alloc (.cells #[.string t.name, .slice a t.args.length c] 25)).grownBy w3 v.ownBlock ∧ (v.ownBlock = some g ∨ g = (w1.alloc (.cells #[.string t.name, .slice a t.args.length c] 25)).heap.size) := by
  obtain ⟨i0, hi, hz0, hz1, hz2⟩ := info_parts Try.infoTerm
  have hbs := hb.size
  obtain ⟨g, cap, w3, hr, ho, hg, hat, hlt⟩ := run_append_lies (P := Try.prog) (w := w1.alloc (.cells #[.string t.name, .slice a t.args.length c] 25)) 23 23 N 25 i0 _ 2 40 Try.underlying23 hi hz0 hz1 hz2 rfl (by decide) v l.length xs ((h.below hb).own.alloc _)
    ⟨w1.heap.size, 0, none⟩ 1 1 [.string t.name, .slice a t.args.length c] rfl (cell_term_new _ _ _ _) (fun y hy => by simp at hy; rcases hy with rfl | rfl <;> rfl) (by decide) (by unfold maxLen; omega) (by omega) (by simp; omega) _ rfl
  exact ⟨g, cap, w3, hr, h.push hN hY hb ⟨a, c, rfl, ht⟩ _ rfl ho hg hat, hg, hat⟩
/-- What a rule puts there, in a box. -/
def FyW (p : Pr) (x : Tm) (W0 wr : World) (o k f : Value) (wc : World) : Prop :=
  ∃ (U : Nat) (y : Tm) (a : Option Addr) (c : Nat) (ok full : Bool), o = .pointer (some ⟨U, 0, none⟩) ∧ k = .bool ok ∧ f = .bool full ∧ wr.heap.size ≤ U ∧ Blk wc U #[.string y.name, .slice a y.args.length c] 25 ∧ Sl wc (fun b => (b < W0.heap.size ∨ wr.heap.size ≤ b) ∧ b ≠ U) a y.args ∧ Below wr.heap.size wr wc ∧
    ((fitT p x = none ∧ ok = false) ∨ ∃ z, fitT p x = some z ∧ ok = true ∧ (full = true ↔ 2000 < sizeL [z]) ∧ (full = false → y = z))
theorem fyW_endA {p : Pr} {x y : Tm} {W0 wr wd w1 : World} {a : Option Addr} {c : Nat} {ok full : Bool} (hW : W0.heap.size ≤ wr.heap.size) (hd : Below wr.heap.size wr wd) (hb : Below wd.heap.size wd w1) (hs : Sl w1 (fun b => ((b < W0.heap.size) ∧ b < wd.heap.size) ∨ wd.heap.size ≤ b) a y.args) (hc : (fitT p x = none ∧ ok = false) ∨ ∃ z, fitT p x = some z ∧ ok = true ∧ (full = true ↔ 2000 < sizeL [z]) ∧ (full = false → y = z)) :
    FyW p x W0 wr (.pointer (some ⟨w1.heap.size, 0, none⟩)) (.bool ok) (.bool full) (w1.alloc (.cells #[.string y.name, .slice a y.args.length c] 25)) := by
  have h1 := hd.size
  have h2 := hb.size
  refine ⟨w1.heap.size, y, a, c, ok, full, rfl, rfl, rfl, by omega, Blk.new w1 _ _, (hs.mono fun b h hlt => ⟨?_, by omega⟩).later ((Below.refl _ _).alloc (Nat.le_refl _) _), (hd.trans (hb.mono hd.size)).alloc (by omega) _, hc⟩
  rcases h with h | h
  · exact Or.inl h.1
  · exact Or.inr (by omega)
theorem fyW_endB {p : Pr} {x y : Tm} {W0 wr wd w1 : World} {a : Option Addr} {c : Nat} {ok full : Bool} (hW : W0.heap.size ≤ wr.heap.size) (hd : Below wr.heap.size wr wd) (hb : Below wd.heap.size wd w1) (hz : Blk w1 wd.heap.size #[.string ⟨#[]⟩, .slice none 0 0] 25) (hs : Sl w1 (fun b => ((b < W0.heap.size) ∧ b < wd.heap.size + 1) ∨ wd.heap.size + 1 ≤ b) a y.args) (hc : (fitT p x = none ∧ ok = false) ∨ ∃ z, fitT p x = some z ∧ ok = true ∧ (full = true ↔ 2000 < sizeL [z]) ∧ (full = false → y = z)) :
    Below wr.heap.size wr ((w1.setCell ⟨wd.heap.size, 0, none⟩ (.string y.name)).setCell ⟨wd.heap.size, 1, none⟩ (.slice a y.args.length c)) ∧ FyW p x W0 wr (.pointer (some ⟨wd.heap.size, 0, none⟩)) (.bool ok) (.bool full) ((w1.setCell ⟨wd.heap.size, 0, none⟩ (.string y.name)).setCell ⟨wd.heap.size, 1, none⟩ (.slice a y.args.length c)) := by
  have h1 := hd.size
  have hb2 : Below wr.heap.size wr ((w1.setCell ⟨wd.heap.size, 0, none⟩ (.string y.name)).setCell ⟨wd.heap.size, 1, none⟩ (.slice a y.args.length c)) := ((hd.trans (hb.mono hd.size)).setCell (by simp; omega) _).setCell (by simp; omega) _
  refine ⟨hb2, wd.heap.size, y, a, c, ok, full, rfl, rfl, rfl, h1, (hz.set 0 _).set 1 _, ?_, hb2, hc⟩
  refine (hs.kept fun b hb => ?_).mono fun b h hlt => ⟨?_, ?_⟩
  · have hne : b ≠ wd.heap.size := by rcases hb with h | h <;> omega
    rw [Below.heap_setCell _ _ _ _ (by simpa using hne), Below.heap_setCell _ _ _ _ (by simpa using hne)]
  · rcases h with h | h
    · exact Or.inl h.1
    · exact Or.inr (by omega)
  · rcases h with h | h <;> omega
theorem great_in {rs : List Pr} {t x z : Tm} {ps : List (List Int)} {p : List Int} {r : Pr} (hp : p ∈ ps) (hr : r ∈ rs) (hx : atT t p = some x) (hf : fitT r x = some z) : putT z p t ∈ ps.flatMap (stAt rs t) := by
  refine List.mem_flatMap.2 ⟨p, hp, ?_⟩
  unfold stAt
  rw [hx]
  exact List.mem_filterMap.2 ⟨r, hr, by rw [hf]; rfl⟩

end Go.Proofs.Ytcjdbbdmighliac

/- Walks: what one step makes of a term, as the document says. -/
namespace Go.Proofs.Ytcjdbbdmighliac
open Go.RowKit
set_option linter.unusedSimpArgs false
set_option linter.unusedVariables false
set_option maxRecDepth 8000

theorem atOf_good {t x : Tm} {p : List Int} (hx : atT t p = some x) (v pv : Value) (w : World) (X : Nat → Prop) (hv : TV w X v t) (hp : PV w X pv p) :
    Calls Try.prog 54 #[v, pv] w fun e w' => ∃ (a9 : Option Addr) (c9 : Nat), e = .returned (.tuple #[.agg #[.string x.name, .slice a9 x.args.length c9], .bool true]) ∧ Sl w' X a9 x.args ∧ Below w.heap.size w w' := by
  refine (atOf_any p t v pv w X hv hp).mono ?_
  rintro e w' ⟨v', rfl, hyes, _, hb⟩
  obtain ⟨a, c, rfl, hs⟩ := hyes x hx
  rw [hx]
  exact ⟨a, c, rfl, hs.later hb, hb⟩
theorem st_start {rs : List Pr} {t : Tm} {aa : Option Addr} {ca : Nat} {u : Value} {w w1 : World} {X : Nat → Prop} (hu : QV w X u rs) (hs : Sl w X aa t.args) (hb : Below (w.alloc (.cells #[.string t.name, .slice aa t.args.length ca] 25)).heap.size (w.alloc (.cells #[.string t.name, .slice aa t.args.length ca] 25)) w1) {g7 : Nat} {xs7 : List Value} {Z : Nat → Prop} (hr : RowP w1 Z (plcT t) xs7) (hg : g7 < w1.heap.size) (hc : ∀ j u, xs7[j]? = some u → w1.cell? ⟨g7, j, none⟩ = some u) :
    ∃ fv, Evs (StF rs t (plcT t) aa ca w.heap.size g7 fv u w1) w1 := by
  have hbw := ((Below.refl w.heap.size w).alloc (Nat.le_refl _) (.cells #[.string t.name, .slice aa t.args.length ca] 25)).trans (hb.mono (by simp))
  refine ⟨fun i => (xs7[i]?).getD (.bool false), stF_ev ⟨(Blk.new w _ _).below hb (by simp), (hs.later hbw).mono fun b _ h => h, fun i hi => ?_, (hu.later hbw).mono fun b _ h => h, Below.refl _ _⟩ hg⟩
  obtain ⟨u, h1, h2⟩ := hr.get i hi
  simp only [h1, Option.getD_some]
  exact ⟨hc i u h1, h2.mono fun b _ h => h⟩
set_option maxHeartbeats 20000000 in
theorem stepsOf_any (rs : List Pr) (t : Tm) (aa : Option Addr) (ca : Nat) (u : Value) (w : World) (X : Nat → Prop) (hu : QV w X u rs) (hs : Sl w X aa t.args) (h40 : rs.length ≤ 40) (hrz : ∀ p ∈ rs, sizeL [p.l] ≤ 1000000 ∧ sizeL [p.r] ≤ 1000000) (hz : sizeL [t] ≤ 2000) :
    Calls Try.prog 24 #[u, .agg #[.string t.name, .slice aa t.args.length ca]] w fun e w' => StoPost rs t w e w' := by
  have HU := hide hu
  have HS := hide hs
  obtain ⟨au, cu, rfl, hlu, _⟩ := hu
  clear hs
  go_enter Try.func24, Try.ntmps24
  go_wp2_with fail
  refine (placesOf_any t _ _ X ⟨_, _, rfl, HS.out.later ((Below.refl _ _).alloc (Nat.le_refl _) _)⟩ (by omega)).mono ?_
  rintro e W0 ⟨v7, xs7, rfl, hown7, hrow7, hb0⟩
  obtain ⟨g7, cap7, rfl, hg7, hg7', hcel7⟩ := owned_val hown7 (by simp [plcT])
  obtain ⟨fv, hst⟩ := st_start (ca := ca) HU.out HS.out hb0 hrow7 hg7' hcel7
  have A0 := hide hst
  have HBW : Hid (Below w.heap.size w W0) := ((Below.refl w.heap.size w).alloc (Nat.le_refl _) _).trans (hb0.mono (by simp))
  have HAT := hide (fun p hp => plc_at p t hp)
  have HPS : Hid ((plcT t).length ≤ 2000) := by unfold Hid; rw [plcT_len]; exact hz
  have HALLS : Hid (stAll rs t = (plcT t).flatMap (stAt rs t)) := rfl
  generalize plcT t = ps at *
  clear hown7 hrow7 hb0 hcel7 hst hg7 HS HU
  go_wp2_with fail
  go_loopw [7, 8] (fun v o wr => StoInv rs t ps W0 v o wr) (fun v o wr => ps.length - (intOf o).toNat)
  case atStart => exact ⟨0, [], Nat.zero_le _, rfl, Row.start _ _ _ _, by simp, Below.refl _ _⟩
  case round =>
    obtain ⟨i, xs, hi, rfl, hrow, hall, hb⟩ := hrel
    have HROW := hide hrow
    have HALL := hide hall
    have HB := hide hb
    clear hrow hall hb
    by_cases hlt : i < ps.length
    · have hlt2 : (i : Int) < (ps.length : Int) := by omega
      have hi2000 : i ≤ 2000 := by have := HPS.out; omega
      have A1 : Hid (Evs (StF rs t ps aa ca w.heap.size g7 fv (.slice au rs.length cu) W0) wr) := A0.out.later HB.out
      obtain ⟨x, hx⟩ := HAT.out ps[i] (List.getElem_mem hlt)
      have HX := hide hx
      clear hx
      have HNX := hide (flat_next (rs := rs) (t := t) hlt)
      obtain ⟨l0, hl0⟩ : ∃ l0, l0 = (ps.take i).flatMap (stAt rs t) := ⟨_, rfl⟩
      have HLEN : Hid (l0.length ≤ 80000) := by
        have h1 := flat_len (t := t) h40 (ps.take i)
        have h2 := HPS.out
        unfold Hid
        rw [hl0]
        simp only [List.length_take] at h1
        omega
      rw [← hl0] at HROW HALL HNX
      clear hl0
      have PLW : Hid (∀ w', StF rs t ps aa ca w.heap.size g7 fv (.slice au rs.length cu) W0 w' → w'.cell? ⟨g7, i, none⟩ = some (fv i) ∧ PV w' (fun b => b < W0.heap.size) (fv i) ps[i]) := fun w' h => h.pl i hlt
      obtain ⟨pa, pc, hpv, _, _⟩ := (PLW.out _ A1.out.now).2
      have HPV := hide hpv
      clear hpv
      have HPZ := hide (List.getElem_mem hlt)
      generalize ps[i] = pz at *
      go_upto_region 6 with fail
      go_cut [9] (fun o wc => AtW t x W0 u7 l0 o wc)
      case first =>
        have BD : Hid (Below wr.heap.size wr wr.drew) := below_drewN (Below.refl _ _) 1
        have A2 : Hid (Evs (StF rs t ps aa ca w.heap.size g7 fv (.slice au rs.length cu) W0) wr.drew) := A1.out.later BD.out
        refine wp_region_held_drew (S := StF rs t ps aa ca w.heap.size g7 fv (.slice au rs.length cu) W0) (by kernel_rfl) A2.out.now (fun hHeld => ?_)
        refine wpAnyH_take (i := 0) (v := ?_) rfl (by kernel_rfl) (by kernel_rfl) (by kernel_rfl) (fun _ _ _ h => h) (Or.inl ⟨by rfl, ?_⟩) (by assumption) ?_
        rotate_left
        · intro w' hSw
          have c0 : w'.cell? ⟨w.heap.size, 0, none⟩ = some (.string t.name) := hSw.k1.cell 0
          have c1 : w'.cell? ⟨w.heap.size, 1, none⟩ = some (.slice aa t.args.length ca) := hSw.k1.cell 1
          go_simp <;> with_reducible rfl
        try simp only [Act.put, List.setIfInBounds_toArray, List.set_cons_zero, List.set_cons_succ, List.getElem_toArray, List.getElem_cons_succ, List.getElem_cons_zero]
        refine wpAnyH_take (i := 1) (v := ?_) rfl (by kernel_rfl) (by kernel_rfl) (by kernel_rfl) (fun _ _ _ h => h) (Or.inl ⟨by rfl, ?_⟩) (by assumption) ?_
        rotate_left
        · intro w' hSw
          go_simp <;> with_reducible rfl
        try simp only [Act.put, List.setIfInBounds_toArray, List.set_cons_zero, List.set_cons_succ, List.getElem_toArray, List.getElem_cons_succ, List.getElem_cons_zero]
        refine wpAnyH_take (i := 2) (v := ?_) rfl (by kernel_rfl) (by kernel_rfl) (by kernel_rfl) (fun _ _ _ h => h) (Or.inl ⟨by rfl, ?_⟩) (by assumption) ?_
        rotate_left
        · intro w' hSw
          go_simp <;> with_reducible rfl
        try simp only [Act.put, List.setIfInBounds_toArray, List.set_cons_zero, List.set_cons_succ, List.getElem_toArray, List.getElem_cons_succ, List.getElem_cons_zero]
        refine wpAnyH_take (i := 3) (v := ?_) rfl (by kernel_rfl) (by kernel_rfl) (by kernel_rfl) (fun _ _ _ h => h) (Or.inl ⟨by rfl, ?_⟩) (by assumption) ?_
        rotate_left
        · intro w' hSw
          go_simp <;> with_reducible rfl
        try simp only [Act.put, List.setIfInBounds_toArray, List.set_cons_zero, List.set_cons_succ, List.getElem_toArray, List.getElem_cons_succ, List.getElem_cons_zero]
        refine wpAnyH_take (i := 4) (v := ?_) rfl (by kernel_rfl) (by kernel_rfl) (by kernel_rfl) (fun _ _ _ h => h) (Or.inl ⟨by rfl, ?_⟩) (by assumption) ?_
        rotate_left
        · intro w' hSw
          have c0 := (PLW.out _ hSw).1
          go_simp <;> with_reducible rfl
        try simp only [Act.put, List.setIfInBounds_toArray, List.set_cons_zero, List.set_cons_succ, List.getElem_toArray, List.getElem_cons_succ, List.getElem_cons_zero]
        generalize wr.drew = wd at *
        refine wpAnyH_ready (rs := [5, 9]) (by kernel_rfl) (by simp) ?_
        refine AllReadyH.cons rfl (fun K hK => ?_) (AllReadyH.cons rfl (fun K hK => ?_) AllReadyH.nil)
        · go_simp
          go_at_call 54
          refine (atOf_good HX.out _ _ _ (fun b => b < W0.heap.size) ⟨_, _, rfl, A2.out.now.s1⟩ (PLW.out _ A2.out.now).2).mono ?_
          rintro e w5 ⟨a9, c9, rfl, hs9, hb5⟩
          have A5 := hide (A2.out.later hb5)
          have S9 := hide hs9
          have B5 := hide (BD.out.trans (hb5.mono BD.out.size))
          clear hs9 hb5
          go_simp
          refine hK.out _ _ (by exact A5.out.now) (fun hHeld => ?_)
          clear hK K
          try simp only [Act.put, List.setIfInBounds_toArray, List.set_cons_zero, List.set_cons_succ, List.getElem_toArray, List.getElem_cons_succ, List.getElem_cons_zero]
          refine wpAnyH_take (i := 6) (v := ?_) rfl (by kernel_rfl) (by kernel_rfl) (by kernel_rfl) (fun _ _ _ h => h) (Or.inl ⟨by rfl, ?_⟩) (by assumption) ?_
          rotate_left
          · intro w' hSw
            go_simp <;> with_reducible rfl
          try simp only [Act.put, List.setIfInBounds_toArray, List.set_cons_zero, List.set_cons_succ, List.getElem_toArray, List.getElem_cons_succ, List.getElem_cons_zero]
          refine wpAnyH_take (i := 7) (v := ?_) rfl (by kernel_rfl) (by kernel_rfl) (by kernel_rfl) (fun _ _ _ h => h) (Or.inl ⟨by rfl, ?_⟩) (by assumption) ?_
          rotate_left
          · intro w' hSw
            go_simp <;> with_reducible rfl
          try simp only [Act.put, List.setIfInBounds_toArray, List.set_cons_zero, List.set_cons_succ, List.getElem_toArray, List.getElem_cons_succ, List.getElem_cons_zero]
          refine wpAnyH_take (i := 8) (v := ?_) rfl (by kernel_rfl) (by kernel_rfl) (by kernel_rfl) (fun _ _ _ h => h) (Or.inl ⟨by rfl, ?_⟩) (by assumption) ?_
          rotate_left
          · intro w' hSw
            go_simp <;> with_reducible rfl
          try simp only [Act.put, List.setIfInBounds_toArray, List.set_cons_zero, List.set_cons_succ, List.getElem_toArray, List.getElem_cons_succ, List.getElem_cons_zero]
          refine wpAnyH_ready (rs := [9]) (by kernel_rfl) (by simp) ?_
          refine AllReadyH.cons rfl (fun K hK => ?_) AllReadyH.nil
          go_simp
          refine hK.out _ _ (by exact (A5.out.alloc _).now) (fun hHeld => ?_)
          clear hK K
          try simp only [Act.put, List.setIfInBounds_toArray, List.set_cons_zero, List.set_cons_succ, List.getElem_toArray, List.getElem_cons_succ, List.getElem_cons_zero]
          refine wpAnyH_ready (rs := [10]) (by kernel_rfl) (by simp) ?_
          refine AllReadyH.cons rfl (fun K hK => ?_) AllReadyH.nil
          go_simp
          refine hK.out _ _ (by exact (A5.out.alloc _).now) (fun hHeld => ?_)
          clear hK K
          try simp only [Act.put, List.setIfInBounds_toArray, List.set_cons_zero, List.set_cons_succ, List.getElem_toArray, List.getElem_cons_succ, List.getElem_cons_zero]
          refine wpAnyH_take (i := 11) (v := ?_) rfl (by kernel_rfl) (by kernel_rfl) (by kernel_rfl) (fun _ _ _ h => h) (Or.inl ⟨by rfl, ?_⟩) (by assumption) ?_
          rotate_left
          · intro w' hSw
            go_simp <;> with_reducible rfl
          try simp only [Act.put, List.setIfInBounds_toArray, List.set_cons_zero, List.set_cons_succ, List.getElem_toArray, List.getElem_cons_succ, List.getElem_cons_zero]
          refine wpAnyH_done (by kernel_rfl) ?_ _
          go_wp2_with fail
          go_meet
          exact atW_endA HROW.out HB.out B5.out S9.out
        · go_simp
          refine hK.out _ _ (by exact (A2.out.alloc _).now) (fun hHeld => ?_)
          clear hK K
          try simp only [Act.put, List.setIfInBounds_toArray, List.set_cons_zero, List.set_cons_succ, List.getElem_toArray, List.getElem_cons_succ, List.getElem_cons_zero]
          have AZ := hide (A2.out.alloc (.cells #[.string ⟨#[]⟩, .slice none 0 0] 25))
          have UZ := hide (Blk.new wd #[.string ⟨#[]⟩, .slice none 0 0] 25)
          refine wpAnyH_ready (rs := [5]) (by kernel_rfl) (by simp) ?_
          refine AllReadyH.cons rfl (fun K hK => ?_) AllReadyH.nil
          go_simp
          go_at_call 54
          refine (atOf_good HX.out _ _ _ (fun b => b < W0.heap.size) ⟨_, _, rfl, AZ.out.now.s1⟩ (PLW.out _ AZ.out.now).2).mono ?_
          rintro e w5 ⟨a9, c9, rfl, hs9, hb5⟩
          have A5 := hide (AZ.out.later hb5)
          have S9 := hide hs9
          have U5 := hide (UZ.out.below hb5 UZ.out.lt)
          have B5 := hide (((Below.refl wd.heap.size wd).alloc (Nat.le_refl _) (.cells #[.string ⟨#[]⟩, .slice none 0 0] 25)).trans (hb5.mono (by simp)))
          clear hs9 hb5
          go_simp
          refine hK.out _ _ (by exact A5.out.now) (fun hHeld => ?_)
          clear hK K
          try simp only [Act.put, List.setIfInBounds_toArray, List.set_cons_zero, List.set_cons_succ, List.getElem_toArray, List.getElem_cons_succ, List.getElem_cons_zero]
          refine wpAnyH_take (i := 6) (v := ?_) rfl (by kernel_rfl) (by kernel_rfl) (by kernel_rfl) (fun _ _ _ h => h) (Or.inl ⟨by rfl, ?_⟩) (by assumption) ?_
          rotate_left
          · intro w' hSw
            go_simp <;> with_reducible rfl
          try simp only [Act.put, List.setIfInBounds_toArray, List.set_cons_zero, List.set_cons_succ, List.getElem_toArray, List.getElem_cons_succ, List.getElem_cons_zero]
          refine wpAnyH_take (i := 7) (v := ?_) rfl (by kernel_rfl) (by kernel_rfl) (by kernel_rfl) (fun _ _ _ h => h) (Or.inl ⟨by rfl, ?_⟩) (by assumption) ?_
          rotate_left
          · intro w' hSw
            go_simp <;> with_reducible rfl
          try simp only [Act.put, List.setIfInBounds_toArray, List.set_cons_zero, List.set_cons_succ, List.getElem_toArray, List.getElem_cons_succ, List.getElem_cons_zero]
          refine wpAnyH_take (i := 8) (v := ?_) rfl (by kernel_rfl) (by kernel_rfl) (by kernel_rfl) (fun _ _ _ h => h) (Or.inl ⟨by rfl, ?_⟩) (by assumption) ?_
          rotate_left
          · intro w' hSw
            go_simp <;> with_reducible rfl
          try simp only [Act.put, List.setIfInBounds_toArray, List.set_cons_zero, List.set_cons_succ, List.getElem_toArray, List.getElem_cons_succ, List.getElem_cons_zero]
          have z0 : w5.cell? ⟨wd.heap.size, 0, none⟩ = some (.string ⟨#[]⟩) := U5.out.cell 0
          have z1 : w5.cell? ⟨wd.heap.size, 1, none⟩ = some (.slice none 0 0) := U5.out.cell 1
          have zf := U5.out.frozen
          have zl : wd.heap.size < w5.heap.size := U5.out.lt
          have UP := hide (atW_endB (t := t) (c9 := c9) (HROW.out.below BD.out) (HB.out.trans (BD.out.mono HB.out.size)) B5.out U5.out S9.out)
          refine wpAnyH_ready (rs := [10]) (by kernel_rfl) (by simp) ?_
          refine AllReadyH.cons rfl (fun K hK => ?_) AllReadyH.nil
          go_simp
          refine hK.out _ _ (by exact (A2.out.later UP.out.1).now) (fun hHeld => ?_)
          clear hK K
          try simp only [Act.put, List.setIfInBounds_toArray, List.set_cons_zero, List.set_cons_succ, List.getElem_toArray, List.getElem_cons_succ, List.getElem_cons_zero]
          refine wpAnyH_take (i := 11) (v := ?_) rfl (by kernel_rfl) (by kernel_rfl) (by kernel_rfl) (fun _ _ _ h => h) (Or.inl ⟨by rfl, ?_⟩) (by assumption) ?_
          rotate_left
          · intro w' hSw
            go_simp <;> with_reducible rfl
          try simp only [Act.put, List.setIfInBounds_toArray, List.set_cons_zero, List.set_cons_succ, List.getElem_toArray, List.getElem_cons_succ, List.getElem_cons_zero]
          refine wpAnyH_done (by kernel_rfl) ?_ _
          go_wp2_with fail
          go_meet
          exact UP.out.2
      obtain ⟨B9, a9, c9, xs9, rfl, hk9, hs9, hB9, hne9, hrow9, hb9⟩ := hcut
      have S9 : Hid (∀ w', Below W0.heap.size W0 w' → Sl w' (fun b => b < W0.heap.size) a9 x.args) := fun w' hb => hs9.kept fun b h => (hb.block b h).trans (hb9.block b h).symm
      have K9 := hide hk9
      have NE9 := hide hne9
      have ROW9 := hide hrow9
      have BW9 := hide hb9
      have HB9 := hide hB9
      clear hk9 hs9 hne9 hrow9 hb9 hB9 HROW A1
      go_wp2_with fail
      go_loopw [7, 11] (fun v o wr => StiInv rs t x pz l0 a9 c9 B9 W0 v o wr) (fun v o wr => rs.length - (intOf o).toNat)
      case atStart => exact ⟨0, xs9, Nat.zero_le _, rfl, by simpa [stK] using ROW9.out, by simpa [stK] using HALL.out, K9.out, HB9.out, NE9.out, BW9.out⟩
      case round =>
        obtain ⟨k, xs', hk, rfl, hrow, hall', hk9, _, hne, hb⟩ := hrel
        have ROWI := hide hrow
        have ALLI := hide hall'
        have K9I := hide hk9
        have NEI := hide hne
        have BI := hide hb
        clear hrow hall' hk9 hne hb K9 NE9 ROW9 BW9
        by_cases hkl : k < rs.length
        · have hkl2 : (k : Int) < (rs.length : Int) := by omega
          obtain ⟨bq, oq, a1, c1, a2, c2, hau, d0, d1, d2, d3, hq1, hq2⟩ := (A0.out wr BI.out).qv.get k hkl
          have HNONE := hide (stK_none (t := t) (x := x) (p := pz) hkl)
          have HSOME := hide (fun z => stK_some (t := t) (x := x) (z := z) (p := pz) hkl)
          have HMEM := hide (List.getElem_mem hkl)
          have HRZ := hide (hrz _ (List.getElem_mem hkl))
          have Q1 := hide hq1
          have Q2 := hide hq2
          have D := hide (And.intro d0 (And.intro d1 (And.intro d2 d3)))
          clear hq1 hq2 d0 d1 d2 d3
          generalize rs[k] = r at *
          subst hau
          have HWS : Hid (W0.heap.size ≤ wr.heap.size) := BI.out.size
          go_upto_region 10 with fail
          go_cut [12, 13, 14] (fun o k f wc => FyW r x W0 wr o k f wc)
          case first =>
            have BD : Hid (Below wr.heap.size wr wr.drew) := below_drewN (Below.refl _ _) 1
            refine wp_region_held_drew (S := fun w' => Below wr.heap.size wr w') (by kernel_rfl) BD.out (fun hHeld => ?_)
            refine wpAnyH_take (i := 0) (v := ?_) rfl (by kernel_rfl) (by kernel_rfl) (by kernel_rfl) (fun _ _ _ h => h) (Or.inl ⟨by rfl, ?_⟩) (by assumption) ?_
            rotate_left
            · intro w' hSw
              go_simp <;> with_reducible rfl
            try simp only [Act.put, List.setIfInBounds_toArray, List.set_cons_zero, List.set_cons_succ, List.getElem_toArray, List.getElem_cons_succ, List.getElem_cons_zero]
            refine wpAnyH_take (i := 1) (v := ?_) rfl (by kernel_rfl) (by kernel_rfl) (by kernel_rfl) (fun _ _ _ h => h) (Or.inl ⟨by rfl, ?_⟩) (by assumption) ?_
            rotate_left
            · intro w' hSw
              go_simp <;> with_reducible rfl
            try simp only [Act.put, List.setIfInBounds_toArray, List.set_cons_zero, List.set_cons_succ, List.getElem_toArray, List.getElem_cons_succ, List.getElem_cons_zero]
            refine wpAnyH_take (i := 2) (v := ?_) rfl (by kernel_rfl) (by kernel_rfl) (by kernel_rfl) (fun _ _ _ h => h) (Or.inl ⟨by rfl, ?_⟩) (by assumption) ?_
            rotate_left
            · intro w' hSw
              go_simp <;> with_reducible rfl
            try simp only [Act.put, List.setIfInBounds_toArray, List.set_cons_zero, List.set_cons_succ, List.getElem_toArray, List.getElem_cons_succ, List.getElem_cons_zero]
            refine wpAnyH_take (i := 3) (v := ?_) rfl (by kernel_rfl) (by kernel_rfl) (by kernel_rfl) (fun _ _ _ h => h) (Or.inl ⟨by rfl, ?_⟩) (by assumption) ?_
            rotate_left
            · intro w' hSw
              have c0 := cell_later hSw D.out.1
              have c1 := cell_later hSw D.out.2.1
              have c2 := cell_later hSw D.out.2.2.1
              have c3 := cell_later hSw D.out.2.2.2
              go_simp <;> with_reducible rfl
            try simp only [Act.put, List.setIfInBounds_toArray, List.set_cons_zero, List.set_cons_succ, List.getElem_toArray, List.getElem_cons_succ, List.getElem_cons_zero]
            refine wpAnyH_take (i := 4) (v := ?_) rfl (by kernel_rfl) (by kernel_rfl) (by kernel_rfl) (fun _ _ _ h => h) (Or.inl ⟨by rfl, ?_⟩) (by assumption) ?_
            rotate_left
            · intro w' hSw
              have c0 : w'.cell? ⟨B9, 0, none⟩ = some (.string x.name) := (K9I.out.below hSw K9I.out.lt).cell 0
              have c1 : w'.cell? ⟨B9, 1, none⟩ = some (.slice a9 x.args.length c9) := (K9I.out.below hSw K9I.out.lt).cell 1
              go_simp <;> with_reducible rfl
            try simp only [Act.put, List.setIfInBounds_toArray, List.set_cons_zero, List.set_cons_succ, List.getElem_toArray, List.getElem_cons_succ, List.getElem_cons_zero]
            generalize wr.drew = wd at *
            refine wpAnyH_ready (rs := [5, 10]) (by kernel_rfl) (by simp) ?_
            refine AllReadyH.cons rfl (fun K hK => ?_) (AllReadyH.cons rfl (fun K hK => ?_) AllReadyH.nil)
            · go_simp
              go_at_call 55
              refine (docFits_any r x a1 a2 a9 c1 c2 c9 _ (fun b => b < W0.heap.size) (Q1.out.later BD.out) (Q2.out.later BD.out) (S9.out _ (BI.out.trans (BD.out.mono BI.out.size))) HRZ.out.1 HRZ.out.2).mono ?_
              rintro e w5 ⟨y, ay, cy, ok, full, rfl, hsy, hb5, hcy⟩
              have HC := hide hcy
              have SY := hide hsy
              have B5 := hide hb5
              have B5w := hide (BD.out.trans (hb5.mono BD.out.size))
              clear hsy hb5 hcy
              go_simp
              refine hK.out _ _ (by exact B5w.out) (fun hHeld => ?_)
              clear hK K
              try simp only [Act.put, List.setIfInBounds_toArray, List.set_cons_zero, List.set_cons_succ, List.getElem_toArray, List.getElem_cons_succ, List.getElem_cons_zero]
              refine wpAnyH_take (i := 6) (v := ?_) rfl (by kernel_rfl) (by kernel_rfl) (by kernel_rfl) (fun _ _ _ h => h) (Or.inl ⟨by rfl, ?_⟩) (by assumption) ?_
              rotate_left
              · intro w' hSw
                go_simp <;> with_reducible rfl
              try simp only [Act.put, List.setIfInBounds_toArray, List.set_cons_zero, List.set_cons_succ, List.getElem_toArray, List.getElem_cons_succ, List.getElem_cons_zero]
              refine wpAnyH_take (i := 7) (v := ?_) rfl (by kernel_rfl) (by kernel_rfl) (by kernel_rfl) (fun _ _ _ h => h) (Or.inl ⟨by rfl, ?_⟩) (by assumption) ?_
              rotate_left
              · intro w' hSw
                go_simp <;> with_reducible rfl
              try simp only [Act.put, List.setIfInBounds_toArray, List.set_cons_zero, List.set_cons_succ, List.getElem_toArray, List.getElem_cons_succ, List.getElem_cons_zero]
              refine wpAnyH_take (i := 8) (v := ?_) rfl (by kernel_rfl) (by kernel_rfl) (by kernel_rfl) (fun _ _ _ h => h) (Or.inl ⟨by rfl, ?_⟩) (by assumption) ?_
              rotate_left
              · intro w' hSw
                go_simp <;> with_reducible rfl
              try simp only [Act.put, List.setIfInBounds_toArray, List.set_cons_zero, List.set_cons_succ, List.getElem_toArray, List.getElem_cons_succ, List.getElem_cons_zero]
              refine wpAnyH_take (i := 9) (v := ?_) rfl (by kernel_rfl) (by kernel_rfl) (by kernel_rfl) (fun _ _ _ h => h) (Or.inl ⟨by rfl, ?_⟩) (by assumption) ?_
              rotate_left
              · intro w' hSw
                go_simp <;> with_reducible rfl
              try simp only [Act.put, List.setIfInBounds_toArray, List.set_cons_zero, List.set_cons_succ, List.getElem_toArray, List.getElem_cons_succ, List.getElem_cons_zero]
              refine wpAnyH_ready (rs := [10]) (by kernel_rfl) (by simp) ?_
              refine AllReadyH.cons rfl (fun K hK => ?_) AllReadyH.nil
              go_simp
              refine hK.out _ _ (by exact B5w.out.alloc B5w.out.size _) (fun hHeld => ?_)
              clear hK K
              try simp only [Act.put, List.setIfInBounds_toArray, List.set_cons_zero, List.set_cons_succ, List.getElem_toArray, List.getElem_cons_succ, List.getElem_cons_zero]
              refine wpAnyH_ready (rs := [11]) (by kernel_rfl) (by simp) ?_
              refine AllReadyH.cons rfl (fun K hK => ?_) AllReadyH.nil
              go_simp
              refine hK.out _ _ (by exact B5w.out.alloc B5w.out.size _) (fun hHeld => ?_)
              clear hK K
              try simp only [Act.put, List.setIfInBounds_toArray, List.set_cons_zero, List.set_cons_succ, List.getElem_toArray, List.getElem_cons_succ, List.getElem_cons_zero]
              refine wpAnyH_take (i := 12) (v := ?_) rfl (by kernel_rfl) (by kernel_rfl) (by kernel_rfl) (fun _ _ _ h => h) (Or.inl ⟨by rfl, ?_⟩) (by assumption) ?_
              rotate_left
              · intro w' hSw
                go_simp <;> with_reducible rfl
              try simp only [Act.put, List.setIfInBounds_toArray, List.set_cons_zero, List.set_cons_succ, List.getElem_toArray, List.getElem_cons_succ, List.getElem_cons_zero]
              refine wpAnyH_take (i := 13) (v := ?_) rfl (by kernel_rfl) (by kernel_rfl) (by kernel_rfl) (fun _ _ _ h => h) (Or.inl ⟨by rfl, ?_⟩) (by assumption) ?_
              rotate_left
              · intro w' hSw
                go_simp <;> with_reducible rfl
              try simp only [Act.put, List.setIfInBounds_toArray, List.set_cons_zero, List.set_cons_succ, List.getElem_toArray, List.getElem_cons_succ, List.getElem_cons_zero]
              refine wpAnyH_done (by kernel_rfl) ?_ _
              go_wp2_with fail
              go_meet
              exact fyW_endA HWS.out BD.out B5.out SY.out HC.out
            · go_simp
              refine hK.out _ _ (by exact BD.out.alloc BD.out.size _) (fun hHeld => ?_)
              clear hK K
              try simp only [Act.put, List.setIfInBounds_toArray, List.set_cons_zero, List.set_cons_succ, List.getElem_toArray, List.getElem_cons_succ, List.getElem_cons_zero]
              have BZ := hide (BD.out.alloc BD.out.size (.cells #[.string ⟨#[]⟩, .slice none 0 0] 25))
              have UZ := hide (Blk.new wd #[.string ⟨#[]⟩, .slice none 0 0] 25)
              refine wpAnyH_ready (rs := [5]) (by kernel_rfl) (by simp) ?_
              refine AllReadyH.cons rfl (fun K hK => ?_) AllReadyH.nil
              go_simp
              go_at_call 55
              refine (docFits_any r x a1 a2 a9 c1 c2 c9 _ (fun b => b < W0.heap.size) (Q1.out.later BZ.out) (Q2.out.later BZ.out) (S9.out _ (BI.out.trans (BZ.out.mono BI.out.size))) HRZ.out.1 HRZ.out.2).mono ?_
              rintro e w5 ⟨y, ay, cy, ok, full, rfl, hsy, hb5, hcy⟩
              have HC := hide hcy
              have SY : Hid (Sl w5 (fun b => ((b < W0.heap.size) ∧ b < wd.heap.size + 1) ∨ wd.heap.size + 1 ≤ b) ay y.args) := hsy.mono fun b h _ => by simpa using h
              have U5 := hide (UZ.out.below hb5 UZ.out.lt)
              have B5 := hide (((Below.refl wd.heap.size wd).alloc (Nat.le_refl _) (.cells #[.string ⟨#[]⟩, .slice none 0 0] 25)).trans (hb5.mono (by simp)))
              have B5w := hide (BZ.out.trans (hb5.mono BZ.out.size))
              clear hsy hb5 hcy
              go_simp
              refine hK.out _ _ (by exact B5w.out) (fun hHeld => ?_)
              clear hK K
              try simp only [Act.put, List.setIfInBounds_toArray, List.set_cons_zero, List.set_cons_succ, List.getElem_toArray, List.getElem_cons_succ, List.getElem_cons_zero]
              refine wpAnyH_take (i := 6) (v := ?_) rfl (by kernel_rfl) (by kernel_rfl) (by kernel_rfl) (fun _ _ _ h => h) (Or.inl ⟨by rfl, ?_⟩) (by assumption) ?_
              rotate_left
              · intro w' hSw
                go_simp <;> with_reducible rfl
              try simp only [Act.put, List.setIfInBounds_toArray, List.set_cons_zero, List.set_cons_succ, List.getElem_toArray, List.getElem_cons_succ, List.getElem_cons_zero]
              refine wpAnyH_take (i := 7) (v := ?_) rfl (by kernel_rfl) (by kernel_rfl) (by kernel_rfl) (fun _ _ _ h => h) (Or.inl ⟨by rfl, ?_⟩) (by assumption) ?_
              rotate_left
              · intro w' hSw
                go_simp <;> with_reducible rfl
              try simp only [Act.put, List.setIfInBounds_toArray, List.set_cons_zero, List.set_cons_succ, List.getElem_toArray, List.getElem_cons_succ, List.getElem_cons_zero]
              refine wpAnyH_take (i := 8) (v := ?_) rfl (by kernel_rfl) (by kernel_rfl) (by kernel_rfl) (fun _ _ _ h => h) (Or.inl ⟨by rfl, ?_⟩) (by assumption) ?_
              rotate_left
              · intro w' hSw
                go_simp <;> with_reducible rfl
              try simp only [Act.put, List.setIfInBounds_toArray, List.set_cons_zero, List.set_cons_succ, List.getElem_toArray, List.getElem_cons_succ, List.getElem_cons_zero]
              refine wpAnyH_take (i := 9) (v := ?_) rfl (by kernel_rfl) (by kernel_rfl) (by kernel_rfl) (fun _ _ _ h => h) (Or.inl ⟨by rfl, ?_⟩) (by assumption) ?_
              rotate_left
              · intro w' hSw
                go_simp <;> with_reducible rfl
              try simp only [Act.put, List.setIfInBounds_toArray, List.set_cons_zero, List.set_cons_succ, List.getElem_toArray, List.getElem_cons_succ, List.getElem_cons_zero]
              have z0 : w5.cell? ⟨wd.heap.size, 0, none⟩ = some (.string ⟨#[]⟩) := U5.out.cell 0
              have z1 : w5.cell? ⟨wd.heap.size, 1, none⟩ = some (.slice none 0 0) := U5.out.cell 1
              have zf := U5.out.frozen
              have zl : wd.heap.size < w5.heap.size := U5.out.lt
              have UP := hide (fyW_endB (c := cy) HWS.out BD.out B5.out U5.out SY.out HC.out)
              refine wpAnyH_ready (rs := [11]) (by kernel_rfl) (by simp) ?_
              refine AllReadyH.cons rfl (fun K hK => ?_) AllReadyH.nil
              go_simp
              refine hK.out _ _ (by exact UP.out.1) (fun hHeld => ?_)
              clear hK K
              try simp only [Act.put, List.setIfInBounds_toArray, List.set_cons_zero, List.set_cons_succ, List.getElem_toArray, List.getElem_cons_succ, List.getElem_cons_zero]
              refine wpAnyH_take (i := 12) (v := ?_) rfl (by kernel_rfl) (by kernel_rfl) (by kernel_rfl) (fun _ _ _ h => h) (Or.inl ⟨by rfl, ?_⟩) (by assumption) ?_
              rotate_left
              · intro w' hSw
                go_simp <;> with_reducible rfl
              try simp only [Act.put, List.setIfInBounds_toArray, List.set_cons_zero, List.set_cons_succ, List.getElem_toArray, List.getElem_cons_succ, List.getElem_cons_zero]
              refine wpAnyH_take (i := 13) (v := ?_) rfl (by kernel_rfl) (by kernel_rfl) (by kernel_rfl) (fun _ _ _ h => h) (Or.inl ⟨by rfl, ?_⟩) (by assumption) ?_
              rotate_left
              · intro w' hSw
                go_simp <;> with_reducible rfl
              try simp only [Act.put, List.setIfInBounds_toArray, List.set_cons_zero, List.set_cons_succ, List.getElem_toArray, List.getElem_cons_succ, List.getElem_cons_zero]
              refine wpAnyH_done (by kernel_rfl) ?_ _
              go_wp2_with fail
              go_meet
              exact UP.out.2
          obtain ⟨U, y, ay, cy, ok, full, rfl, rfl, rfl, hU, hkU, hsU, hbU, hcU⟩ := hcut
          have BU := hide hbU
          have KU := hide hkU
          have SU := hide hsU
          have BWU := hide (BI.out.trans (hbU.mono BI.out.size))
          cases ok with
          | false =>
            have HF : Hid (fitT r x = none) := by
              rcases hcU with h | ⟨z, _, h, _⟩
              · exact h.1
              · cases h
            clear hcU hbU hkU hsU
            go_wp2_with fail
            go_roundw
            case rel => exact ⟨k + 1, xs', by omega, by go_num, by rw [HNONE.out HF.out]; exact ROWI.out.below BU.out, by rw [HNONE.out HF.out]; exact ALLI.out, K9I.out.below BU.out K9I.out.lt, HB9.out, NEI.out, BWU.out⟩
            case measure => simp [intOf]; omega
          | true =>
            obtain ⟨z, hf, hfull, hyz⟩ : ∃ z, fitT r x = some z ∧ (full = true ↔ 2000 < sizeL [z]) ∧ (full = false → y = z) := by
              rcases hcU with h | ⟨z, h1, _, h2, h3⟩
              · exact absurd h.2 (by decide)
              · exact ⟨z, h1, h2, h3⟩
            have HF := hide hf
            have HIN : Hid (putT z pz t ∈ stAll rs t) := by
              unfold Hid
              rw [HALLS.out]
              exact great_in HPZ.out HMEM.out HX.out hf
            clear hcU hbU hkU hsU hf
            cases full with
            | true =>
              have HG : Hid (2000 < sizeL [putT z pz t]) := Nat.lt_of_lt_of_le (hfull.1 rfl) (put_ge z pz t x HX.out)
              clear hfull hyz
              go_wp2_with fail
              refine bodyPost_ret (v := .tuple #[.slice none 0 0, .int .i64 8]) (by simp [results, Try.results24, go_sem]) rfl ?_
              exact ⟨HBW.out.trans (BWU.out.mono HBW.out.size), Or.inr ⟨⟨_, HIN.out, HG.out⟩, rfl⟩⟩
            | false =>
              have hyz' := hyz rfl
              subst hyz'
              clear hfull hyz
              have HSTEP := hide (HSOME.out y HF.out)
              go_upto_region 14 with fail
              have KUd : Hid (Blk wc.drew U #[.string y.name, .slice ay y.args.length cy] 25) := KU.out.drewN 1
              have BUd : Hid (Below wr.heap.size wr wc.drew) := BU.out.trans ((below_drewN (Below.refl wc.heap.size wc) 1).mono BU.out.size)
              have SUd : Hid (Sl wc.drew (fun b => (b < W0.heap.size ∨ wr.heap.size ≤ b) ∧ b ≠ U) ay y.args) := SU.out.later (below_drewN (Below.refl _ _) 1)
              refine wp_region_held_drew (S := fun w' => Below wr.heap.size wr w') (by kernel_rfl) BUd.out (fun hHeld => ?_)
              refine wpAnyH_take (i := 0) (v := ?_) rfl (by kernel_rfl) (by kernel_rfl) (by kernel_rfl) (fun _ _ _ h => h) (Or.inl ⟨by rfl, ?_⟩) (by assumption) ?_
              rotate_left
              · intro w' hSw
                have c0 : w'.cell? ⟨w.heap.size, 0, none⟩ = some (.string t.name) := (A0.out _ (BI.out.trans (hSw.mono BI.out.size))).k1.cell 0
                have c1 : w'.cell? ⟨w.heap.size, 1, none⟩ = some (.slice aa t.args.length ca) := (A0.out _ (BI.out.trans (hSw.mono BI.out.size))).k1.cell 1
                go_simp <;> with_reducible rfl
              try simp only [Act.put, List.setIfInBounds_toArray, List.set_cons_zero, List.set_cons_succ, List.getElem_toArray, List.getElem_cons_succ, List.getElem_cons_zero]
              refine wpAnyH_take (i := 1) (v := ?_) rfl (by kernel_rfl) (by kernel_rfl) (by kernel_rfl) (fun _ _ _ h => h) (Or.inl ⟨by rfl, ?_⟩) (by assumption) ?_
              rotate_left
              · intro w' hSw
                go_simp <;> with_reducible rfl
              try simp only [Act.put, List.setIfInBounds_toArray, List.set_cons_zero, List.set_cons_succ, List.getElem_toArray, List.getElem_cons_succ, List.getElem_cons_zero]
              refine wpAnyH_take (i := 2) (v := ?_) rfl (by kernel_rfl) (by kernel_rfl) (by kernel_rfl) (fun _ _ _ h => h) (Or.inl ⟨by rfl, ?_⟩) (by assumption) ?_
              rotate_left
              · intro w' hSw
                go_simp <;> with_reducible rfl
              try simp only [Act.put, List.setIfInBounds_toArray, List.set_cons_zero, List.set_cons_succ, List.getElem_toArray, List.getElem_cons_succ, List.getElem_cons_zero]
              refine wpAnyH_take (i := 3) (v := ?_) rfl (by kernel_rfl) (by kernel_rfl) (by kernel_rfl) (fun _ _ _ h => h) (Or.inl ⟨by rfl, ?_⟩) (by assumption) ?_
              rotate_left
              · intro w' hSw
                go_simp <;> with_reducible rfl
              try simp only [Act.put, List.setIfInBounds_toArray, List.set_cons_zero, List.set_cons_succ, List.getElem_toArray, List.getElem_cons_succ, List.getElem_cons_zero]
              refine wpAnyH_take (i := 4) (v := ?_) rfl (by kernel_rfl) (by kernel_rfl) (by kernel_rfl) (fun _ _ _ h => h) (Or.inl ⟨by rfl, ?_⟩) (by assumption) ?_
              rotate_left
              · intro w' hSw
                have c0 := (PLW.out _ (A0.out _ (BI.out.trans (hSw.mono BI.out.size)))).1
                go_simp <;> with_reducible rfl
              try simp only [Act.put, List.setIfInBounds_toArray, List.set_cons_zero, List.set_cons_succ, List.getElem_toArray, List.getElem_cons_succ, List.getElem_cons_zero]
              clear KU SU BU BWU
              generalize wc.drew = wd at *
              have z0 : wd.cell? ⟨U, 0, none⟩ = some (.string y.name) := KUd.out.cell 0
              have z1 : wd.cell? ⟨U, 1, none⟩ = some (.slice ay y.args.length cy) := KUd.out.cell 1
              refine wpAnyH_ready (rs := [5]) (by kernel_rfl) (by simp) ?_
              refine AllReadyH.cons rfl (fun K hK => ?_) AllReadyH.nil
              go_simp
              refine hK.out _ _ (by exact BUd.out) (fun hHeld => ?_)
              clear hK K
              try simp only [Act.put, List.setIfInBounds_toArray, List.set_cons_zero, List.set_cons_succ, List.getElem_toArray, List.getElem_cons_succ, List.getElem_cons_zero]
              have AD := hide (A0.out _ (BI.out.trans (BUd.out.mono BI.out.size)))
              refine wpAnyH_ready (rs := [6]) (by kernel_rfl) (by simp) ?_
              refine AllReadyH.cons rfl (fun K hK => ?_) AllReadyH.nil
              go_simp
              go_at_call 56
              refine (putOf_any y pz t _ _ _ _ (fun b => (b < W0.heap.size ∨ wr.heap.size ≤ b) ∧ b ≠ U) ⟨_, _, rfl, AD.out.s1.mono fun b h _ => ⟨Or.inl h, by have := HWS.out; omega⟩⟩ ((PLW.out _ AD.out).2.mono fun b h _ => ⟨Or.inl h, by have := HWS.out; omega⟩) ⟨_, _, rfl, SUd.out⟩ (by omega)).mono ?_
              rintro e w6 ⟨v6, rfl, ⟨a6, c6, hv6, hs6⟩, hb6⟩
              subst hv6
              have B6 := hide (BUd.out.trans (hb6.mono BUd.out.size))
              have K6 := hide (KUd.out.below hb6 KUd.out.lt)
              have HLU : Hid (U < wd.heap.size) := KUd.out.lt
              have S6 := hide hs6
              clear hs6 hb6 z0 z1
              go_simp
              refine hK.out _ _ (by exact B6.out) (fun hHeld => ?_)
              clear hK K
              try simp only [Act.put, List.setIfInBounds_toArray, List.set_cons_zero, List.set_cons_succ, List.getElem_toArray, List.getElem_cons_succ, List.getElem_cons_zero]
              have z0 : w6.cell? ⟨U, 0, none⟩ = some (.string y.name) := K6.out.cell 0
              have z1 : w6.cell? ⟨U, 1, none⟩ = some (.slice ay y.args.length cy) := K6.out.cell 1
              have zf := K6.out.frozen
              have BF := hide ((B6.out.setCell (p := ⟨U, 0, none⟩) hU (.string (putT y pz t).name)).setCell (p := ⟨U, 1, none⟩) hU (.slice a6 (putT y pz t).args.length c6))
              have KF := hide ((K6.out.set 0 (.string (putT y pz t).name)).set 1 (.slice a6 (putT y pz t).args.length c6))
              have SF : Hid (Sl ((w6.setCell ⟨U, 0, none⟩ (.string (putT y pz t).name)).setCell ⟨U, 1, none⟩ (.slice a6 (putT y pz t).args.length c6)) (fun b => b < W0.heap.size ∨ wr.heap.size ≤ b) a6 (putT y pz t).args) := (S6.out.kept fun b hb => by
                have hne : b ≠ U := by
                  rcases hb with h | h
                  · exact h.2
                  · have := HLU.out; omega
                rw [Below.heap_setCell _ _ _ _ (by simpa using hne), Below.heap_setCell _ _ _ _ (by simpa using hne)]).mono fun b h _ => by
                rcases h with h | h
                · exact h.1
                · exact Or.inr (by have := HLU.out; omega)
              refine wpAnyH_ready (rs := [7]) (by kernel_rfl) (by simp) ?_
              refine AllReadyH.cons rfl (fun K hK => ?_) AllReadyH.nil
              go_simp
              refine hK.out _ _ (by exact BF.out) (fun hHeld => ?_)
              clear hK K
              try simp only [Act.put, List.setIfInBounds_toArray, List.set_cons_zero, List.set_cons_succ, List.getElem_toArray, List.getElem_cons_succ, List.getElem_cons_zero]
              refine wpAnyH_done (by kernel_rfl) ?_ _
              clear K6 S6 B6 KUd BUd SUd z0 z1 zf AD
              have HGE : Hid (sizeL [putT y pz t] = sizeL [putT y pz t]) := rfl
              generalize putT y pz t = yt at *
              generalize (w6.setCell ⟨U, 0, none⟩ (.string yt.name)).setCell ⟨U, 1, none⟩ (.slice a6 yt.args.length c6) = wf at *
              have z0 : wf.cell? ⟨U, 0, none⟩ = some (.string yt.name) := KF.out.cell 0
              have z1 : wf.cell? ⟨U, 1, none⟩ = some (.slice a6 yt.args.length c6) := KF.out.cell 1
              go_wp2_with fail
              refine (size_any yt _ _ _ (fun b => b < W0.heap.size ∨ wr.heap.size ≤ b) ⟨_, _, rfl, SF.out⟩ (by decide) (by decide)).mono ?_
              rintro e w7 ⟨rfl, hb7⟩
              have B7 := hide (BF.out.trans (hb7.mono BF.out.size))
              have K7 := hide (KF.out.below hb7 KF.out.lt)
              have S7 := hide (SF.out.later hb7)
              clear hb7 BF KF SF z0 z1
              by_cases hg : 2000 < sizeL [yt]
              · have hm : min (sizeL [yt] : Int) (2000 + 1) = 2001 := by omega
                rw [hm]
                have HG := hide hg
                clear hg hm
                go_wp2_with fail
                refine bodyPost_ret (v := .tuple #[.slice none 0 0, .int .i64 8]) (by simp [results, Try.results24, go_sem]) rfl ?_
                exact ⟨HBW.out.trans ((BI.out.trans (B7.out.mono BI.out.size)).mono HBW.out.size), Or.inr ⟨⟨_, HIN.out, HG.out⟩, rfl⟩⟩
              · have hm : min (sizeL [yt] : Int) (2000 + 1) = (sizeL [yt] : Int) := by omega
                rw [hm]
                have hle : ¬ (2000 : Int) < (sizeL [yt] : Int) := by omega
                have HG : Hid (sizeL [yt] ≤ 2000) := by unfold Hid; omega
                have hlen : (l0 ++ stK rs t x pz k).length ≤ 1000000 := by have h1 := stK_len rs t x pz k; have h2 := HLEN.out; rw [List.length_append]; omega
                obtain ⟨g, cap, w8, hrun, hrow8, hg8, hat8⟩ := terms_append ROWI.out HWS.out (fun b h => h) B7.out yt a6 c6 S7.out hlen
                rw [List.length_append] at hrun hrow8
                have HRUN := hide hrun
                have hltr := ROWI.out.own.lt
                have ROW8 : Hid (Row w8 W0.heap.size 25 (fun b => b < W0.heap.size) (.slice (some ⟨g, 0, none⟩) (l0.length + (stK rs t x pz k).length + 1) cap) (l0 ++ stK rs t x pz (k + 1)) (xs' ++ [.string yt.name, .slice a6 yt.args.length c6])) := by
                  unfold Hid
                  rw [HSTEP.out, ← List.append_assoc]
                  exact hrow8
                have ALL8 : Hid (∀ q ∈ l0 ++ stK rs t x pz (k + 1), sizeL [q] ≤ 2000) := by
                  unfold Hid
                  rw [HSTEP.out, ← List.append_assoc]
                  intro q hq
                  rcases List.mem_append.1 hq with h | h
                  · exact ALLI.out q h
                  · rw [List.mem_singleton.1 h]; exact HG.out
                have B7w := BI.out.trans (B7.out.mono BI.out.size)
                have BW8 : Hid (Below W0.heap.size W0 w8) := (B7w.alloc B7w.size _).grown hg8 (by have := B7w.size; simp; omega) (fun j hj => (hltr j hj).1)
                have K98 : Hid (Blk w8 B9 #[.string x.name, .slice a9 x.args.length c9] 25) := ((K9I.out.below B7.out K9I.out.lt).alloc _).grown hg8 NEI.out
                have NE8 : Hid (some B9 ≠ (Value.slice (some ⟨g, 0, none⟩) (l0.length + (stK rs t x pz k).length + 1) cap).ownBlock) := by
                  unfold Hid
                  intro h
                  have h9 : B9 = g := by simpa [Value.ownBlock] using h
                  rcases hat8 with e | e
                  · exact NEI.out (by rw [e, h9])
                  · have h1 := K9I.out.lt
                    have h2 := B7.out.size
                    simp at e
                    omega
                have z0 : w7.cell? ⟨U, 0, none⟩ = some (.string yt.name) := K7.out.cell 0
                have z1 : w7.cell? ⟨U, 1, none⟩ = some (.slice a6 yt.args.length c6) := K7.out.cell 1
                clear hrun hrow8 hg8 hat8 hltr hm hg B7w
                go_wp2_with (at_builtin; refine wpList_append_eq rfl _ _ _ _ rfl rfl rfl HRUN.out ?_)
                go_roundw
                case rel => exact ⟨k + 1, _, by omega, by go_num, ROW8.out, ALL8.out, K98.out, HB9.out, NE8.out, BW8.out⟩
                case measure => simp [intOf]; omega
        · have hkr : k = rs.length := by omega
          have HL : Hid (l0 ++ stK rs t x pz k = (ps.take (i + 1)).flatMap (stAt rs t)) := by
            unfold Hid
            rw [hkr, stK_all HX.out, HNX.out]
          have R2 := ROWI.out
          have A2 := ALLI.out
          rw [HL.out] at R2 A2
          have R3 := hide R2
          have A3 := hide A2
          clear R2 A2
          go_wp2_with fail
          go_roundw
          case rel => exact ⟨i + 1, xs', by omega, by go_num, R3.out, A3.out, BI.out⟩
          case measure => simp [intOf]; omega
    · go_wp2_with fail
      refine bodyPost_ret (v := .tuple #[u7, .int .i64 0]) (by simp [results, Try.results24, go_sem]) rfl ?_
      have htk : ps.take i = ps := List.take_of_length_le (by omega)
      have hr := HROW.out
      have ha := HALL.out
      rw [htk, ← HALLS.out] at hr ha
      exact ⟨HBW.out.trans (HB.out.mono HBW.out.size), Or.inl ⟨u7, ha, rfl, W0.heap.size, xs, HBW.out.size, hr⟩⟩
end Go.Proofs.Ytcjdbbdmighliac

/- Walks: does some rule fit a term itself, as the document says. -/
namespace Go.Proofs.Ytcjdbbdmighliac
open Go.RowKit
set_option linter.unusedSimpArgs false
set_option linter.unusedVariables false
set_option maxRecDepth 8000

/-- Does some rule fit? -/
def fitsB (rs : List Pr) (x : Tm) : Bool := rs.any fun r => mtB r.l x
theorem anyP_take {l : List Pr} {f : Pr → Bool} {k : Nat} (h : k < l.length) : (l.take (k + 1)).any f = ((l.take k).any f || f l[k]) := by
  rw [List.take_succ_eq_append_getElem h, List.any_append]
  simp
theorem anyP_yes {l : List Pr} {f : Pr → Bool} {k : Nat} (h : k < l.length) (h0 : f l[k] = true) : l.any f = true := List.any_eq_true.2 ⟨_, List.getElem_mem h, h0⟩
theorem matchB_any (p t : Tm) (pv tv : Value) (w : World) (X : Nat → Prop) (hp : TV w X pv p) (ht : TV w X tv t) (hsz : sizeL [p] ≤ 1000000) :
    Calls Try.prog 79 #[pv, tv] w fun e w' => ∃ v, e = .returned (.tuple #[v, .bool (mtB p t)]) ∧ Below w.heap.size w w' := by
  refine (matchOf_any p t pv tv w X hp ht hsz).mono ?_
  rintro e w' ⟨hb, ⟨h0, rfl⟩ | ⟨h', v, l', h0, rfl, _⟩⟩
  · exact ⟨_, by unfold mtB; rw [h0]; rfl, hb⟩
  · exact ⟨v, by unfold mtB; rw [h0]; rfl, hb⟩
def FrInv (rs : List Pr) (x : Tm) (a3 : Option Addr) (c3 : Nat) (w : World) (v : Value) (wr : World) : Prop := ∃ k : Nat, k ≤ rs.length ∧ v = .int .i64 (k : Int) ∧ (rs.take k).any (fun r => mtB r.l x) = false ∧ Blk wr w.heap.size #[.string x.name, .slice a3 x.args.length c3] 25 ∧ Below w.heap.size w wr
set_option maxHeartbeats 4000000 in
theorem fitR_any (rs : List Pr) (x : Tm) (a3 : Option Addr) (c3 : Nat) (u : Value) (w : World) (X : Nat → Prop) (hu : QV w X u rs) (hs : Sl w X a3 x.args) (hrz : ∀ p ∈ rs, sizeL [p.l] ≤ 1000000) :
    Calls Try.prog 88 #[u, .agg #[.string x.name, .slice a3 x.args.length c3]] w fun e w' => e = .returned (.bool (fitsB rs x)) ∧ Below w.heap.size w w' := by
  have HU := hide hu
  have HS := hide hs
  obtain ⟨a, c, rfl, hl, hu2⟩ := hu
  clear hu2 hs
  go_enter Try.func88, Try.ntmps88
  go_wp2_with fail
  go_loopw [5] (fun v wr => FrInv rs x a3 c3 w v wr) (fun v wr => rs.length - (intOf v).toNat)
  case atStart => exact ⟨0, Nat.zero_le _, rfl, by simp, Blk.new w _ _, (Below.refl _ _).alloc (Nat.le_refl _) _⟩
  case round =>
    obtain ⟨k, hk, rfl, hT, hkb, hb⟩ := hrel
    have HB := hide hb
    have HT := hide hT
    have KB := hide hkb
    clear hT hkb
    by_cases hlt : k < rs.length
    · obtain ⟨bq, oq, a1, c1, a2, c2, rfl, d0, d1, d2, d3, hs1, hs2⟩ := (HU.out.later hb).get k hlt
      have hlt2 : (k : Int) < (rs.length : Int) := by omega
      have Q1 := hide hs1
      have D := hide (And.intro d0 d1)
      have HTK := hide (anyP_take (f := fun r => mtB r.l x) hlt)
      have HYS := hide (anyP_yes (f := fun r => mtB r.l x) hlt)
      have HRZ := hide (hrz _ (List.getElem_mem hlt))
      clear hs1 hs2 hb d0 d1 d2 d3
      generalize rs[k] = r at *
      go_upto_region 4 with fail
      have BD : Hid (Below wr.heap.size wr wr.drew) := below_drewN (Below.refl _ _) 1
      refine wp_region_held_drew (S := fun w' => Below wr.heap.size wr w') (by kernel_rfl) BD.out (fun hHeld => ?_)
      refine wpAnyH_take (i := 0) (v := ?_) rfl (by kernel_rfl) (by kernel_rfl) (by kernel_rfl) (fun _ _ _ h => h) (Or.inl ⟨by rfl, ?_⟩) (by assumption) ?_
      rotate_left
      · intro w' hSw
        go_simp <;> with_reducible rfl
      try simp only [Act.put, List.setIfInBounds_toArray, List.set_cons_zero, List.set_cons_succ, List.getElem_toArray, List.getElem_cons_succ, List.getElem_cons_zero]
      refine wpAnyH_take (i := 1) (v := ?_) rfl (by kernel_rfl) (by kernel_rfl) (by kernel_rfl) (fun _ _ _ h => h) (Or.inl ⟨by rfl, ?_⟩) (by assumption) ?_
      rotate_left
      · intro w' hSw
        go_simp <;> with_reducible rfl
      try simp only [Act.put, List.setIfInBounds_toArray, List.set_cons_zero, List.set_cons_succ, List.getElem_toArray, List.getElem_cons_succ, List.getElem_cons_zero]
      refine wpAnyH_take (i := 2) (v := ?_) rfl (by kernel_rfl) (by kernel_rfl) (by kernel_rfl) (fun _ _ _ h => h) (Or.inl ⟨by rfl, ?_⟩) (by assumption) ?_
      rotate_left
      · intro w' hSw
        go_simp <;> with_reducible rfl
      try simp only [Act.put, List.setIfInBounds_toArray, List.set_cons_zero, List.set_cons_succ, List.getElem_toArray, List.getElem_cons_succ, List.getElem_cons_zero]
      refine wpAnyH_take (i := 3) (v := ?_) rfl (by kernel_rfl) (by kernel_rfl) (by kernel_rfl) (fun _ _ _ h => h) (Or.inl ⟨by rfl, ?_⟩) (by assumption) ?_
      rotate_left
      · intro w' hSw
        go_simp <;> with_reducible rfl
      try simp only [Act.put, List.setIfInBounds_toArray, List.set_cons_zero, List.set_cons_succ, List.getElem_toArray, List.getElem_cons_succ, List.getElem_cons_zero]
      refine wpAnyH_take (i := 4) (v := ?_) rfl (by kernel_rfl) (by kernel_rfl) (by kernel_rfl) (fun _ _ _ h => h) (Or.inl ⟨by rfl, ?_⟩) (by assumption) ?_
      rotate_left
      · intro w' hSw
        have c0 := cell_later hSw D.out.1
        have c1 := cell_later hSw D.out.2
        go_simp <;> with_reducible rfl
      try simp only [Act.put, List.setIfInBounds_toArray, List.set_cons_zero, List.set_cons_succ, List.getElem_toArray, List.getElem_cons_succ, List.getElem_cons_zero]
      refine wpAnyH_take (i := 5) (v := ?_) rfl (by kernel_rfl) (by kernel_rfl) (by kernel_rfl) (fun _ _ _ h => h) (Or.inl ⟨by rfl, ?_⟩) (by assumption) ?_
      rotate_left
      · intro w' hSw
        have c0 : w'.cell? ⟨w.heap.size, 0, none⟩ = some (.string x.name) := (KB.out.below hSw KB.out.lt).cell 0
        have c1 : w'.cell? ⟨w.heap.size, 1, none⟩ = some (.slice a3 x.args.length c3) := (KB.out.below hSw KB.out.lt).cell 1
        go_simp <;> with_reducible rfl
      try simp only [Act.put, List.setIfInBounds_toArray, List.set_cons_zero, List.set_cons_succ, List.getElem_toArray, List.getElem_cons_succ, List.getElem_cons_zero]
      generalize wr.drew = wd at *
      refine wpAnyH_ready (rs := [6]) (by kernel_rfl) (by simp) ?_
      refine AllReadyH.cons rfl (fun K hK => ?_) AllReadyH.nil
      go_simp
      go_at_call 79
      refine (matchB_any r.l x _ _ _ X ⟨_, _, rfl, Q1.out.later BD.out⟩ ⟨_, _, rfl, HS.out.later (HB.out.trans (BD.out.mono HB.out.size))⟩ HRZ.out).mono ?_
      rintro e w5 ⟨v5, rfl, hb5⟩
      have B5 := hide (BD.out.trans (hb5.mono BD.out.size))
      clear hb5
      go_simp
      refine hK.out _ _ (by exact B5.out) (fun hHeld => ?_)
      clear hK K
      try simp only [Act.put, List.setIfInBounds_toArray, List.set_cons_zero, List.set_cons_succ, List.getElem_toArray, List.getElem_cons_succ, List.getElem_cons_zero]
      refine wpAnyH_take (i := 7) (v := ?_) rfl (by kernel_rfl) (by kernel_rfl) (by kernel_rfl) (fun _ _ _ h => h) (Or.inl ⟨by rfl, ?_⟩) (by assumption) ?_
      rotate_left
      · intro w' hSw
        go_simp <;> with_reducible rfl
      try simp only [Act.put, List.setIfInBounds_toArray, List.set_cons_zero, List.set_cons_succ, List.getElem_toArray, List.getElem_cons_succ, List.getElem_cons_zero]
      refine wpAnyH_take (i := 8) (v := ?_) rfl (by kernel_rfl) (by kernel_rfl) (by kernel_rfl) (fun _ _ _ h => h) (Or.inl ⟨by rfl, ?_⟩) (by assumption) ?_
      rotate_left
      · intro w' hSw
        go_simp <;> with_reducible rfl
      try simp only [Act.put, List.setIfInBounds_toArray, List.set_cons_zero, List.set_cons_succ, List.getElem_toArray, List.getElem_cons_succ, List.getElem_cons_zero]
      refine wpAnyH_take (i := 9) (v := ?_) rfl (by kernel_rfl) (by kernel_rfl) (by kernel_rfl) (fun _ _ _ h => h) (Or.inl ⟨by rfl, ?_⟩) (by assumption) ?_
      rotate_left
      · intro w' hSw
        go_simp <;> with_reducible rfl
      try simp only [Act.put, List.setIfInBounds_toArray, List.set_cons_zero, List.set_cons_succ, List.getElem_toArray, List.getElem_cons_succ, List.getElem_cons_zero]
      refine wpAnyH_take (i := 10) (v := ?_) rfl (by kernel_rfl) (by kernel_rfl) (by kernel_rfl) (fun _ _ _ h => h) (Or.inl ⟨by rfl, ?_⟩) (by assumption) ?_
      rotate_left
      · intro w' hSw
        go_simp <;> with_reducible rfl
      try simp only [Act.put, List.setIfInBounds_toArray, List.set_cons_zero, List.set_cons_succ, List.getElem_toArray, List.getElem_cons_succ, List.getElem_cons_zero]
      refine wpAnyH_take (i := 11) (v := ?_) rfl (by kernel_rfl) (by kernel_rfl) (by kernel_rfl) (fun _ _ _ h => h) (Or.inl ⟨by rfl, ?_⟩) (by assumption) ?_
      rotate_left
      · intro w' hSw
        go_simp <;> with_reducible rfl
      try simp only [Act.put, List.setIfInBounds_toArray, List.set_cons_zero, List.set_cons_succ, List.getElem_toArray, List.getElem_cons_succ, List.getElem_cons_zero]
      refine wpAnyH_done (by kernel_rfl) ?_ _
      have BW5 := hide (HB.out.trans (B5.out.mono HB.out.size))
      cases hm : mtB r.l x with
      | true =>
        have HF := hide (HYS.out hm)
        clear hm
        go_wp2_with fail
        go_ret
        exact ⟨ret_bool HF.out.symm, BW5.out⟩
      | false =>
        have HN : Hid ((rs.take (k + 1)).any (fun r => mtB r.l x) = false) := by
          have h := HTK.out
          rw [HT.out, hm] at h
          exact h
        clear hm
        go_wp2_with fail
        go_roundw
        case rel => exact ⟨k + 1, by omega, by go_num, HN.out, KB.out.below B5.out KB.out.lt, BW5.out⟩
        case measure => simp [intOf]; omega
    · have HF : Hid (false = fitsB rs x) := by
        unfold Hid fitsB
        rw [← HT.out, List.take_of_length_le (by omega)]
      go_wp2_with fail
      go_ret
      exact ⟨ret_bool HF.out, HB.out⟩
#print axioms fitR_any
end Go.Proofs.Ytcjdbbdmighliac

/- Walks: where the next step is, as the document says. -/
namespace Go.Proofs.Ytcjdbbdmighliac
open Go.RowKit
set_option linter.unusedSimpArgs false
set_option linter.unusedVariables false
set_option maxRecDepth 8000

/-- May a step be done at a term: some rule fits, and, if it is to be innermost, none fits below. -/
def okAt (rs : List Pr) (inner : Bool) (x : Tm) : Bool := fitsB rs x && (!inner || ((preL [x]).drop 1).all fun y => !fitsB rs y)
def okP (rs : List Pr) (inner : Bool) (t : Tm) (p : List Int) : Bool := match atT t p with
  | some x => okAt rs inner x
  | none => false
/-- The place of the next step. -/
def nextP (rs : List Pr) (inner : Bool) (t : Tm) : Option (List Int) := (plcT t).find? (okP rs inner t)
theorem find_no {f : List Int → Bool} : ∀ {ps : List (List Int)}, ps.any f = false → ps.find? f = none
  | [], _ => rfl
  | p :: ps, h => by
    rw [List.any_cons, Bool.or_eq_false_iff] at h
    rw [List.find?_cons, h.1]
    exact find_no h.2
theorem find_at {f : List Int → Bool} : ∀ {ps : List (List Int)} {i : Nat} (h : i < ps.length), (ps.take i).any f = false → f ps[i] = true → ps.find? f = some ps[i]
  | [], i, h, _, _ => by simp at h
  | p :: ps, 0, h, _, h2 => by
    simp only [List.getElem_cons_zero] at h2 ⊢
    rw [List.find?_cons, h2]
  | p :: ps, i + 1, h, h1, h2 => by
    rw [List.take_succ_cons, List.any_cons, Bool.or_eq_false_iff] at h1
    simp only [List.getElem_cons_succ] at h2 ⊢
    rw [List.find?_cons, h1.1]
    exact find_at (by simpa using h) h1.2 h2
theorem anyZ_take {l : List (List Int)} {f : List Int → Bool} {k : Nat} (h : k < l.length) : (l.take (k + 1)).any f = ((l.take k).any f || f l[k]) := by
  rw [List.take_succ_eq_append_getElem h, List.any_append]
  simp
/-- Of those below, so many are asked. -/
def below1 (rs : List Pr) (l : List Tm) (k : Nat) : Bool := ((l.take k).drop 1).all fun y => !fitsB rs y
theorem below1_one (rs : List Pr) (l : List Tm) : below1 rs l 1 = true := by
  unfold below1
  cases l <;> simp
theorem below1_next {rs : List Pr} {l : List Tm} {k : Nat} (h1 : 1 ≤ k) (h : k < l.length) : below1 rs l (k + 1) = (below1 rs l k && !fitsB rs l[k]) := by
  unfold below1
  rw [List.take_succ_eq_append_getElem h, List.drop_append_of_le_length (by simp; omega), List.all_append]
  simp
theorem below1_no {rs : List Pr} {l : List Tm} {k : Nat} (h : below1 rs l k = false) : ((l.drop 1).all fun y => !fitsB rs y) = false := by
  rw [Bool.eq_false_iff]
  intro h2
  unfold below1 at h
  rw [Bool.eq_false_iff] at h
  refine h (List.all_eq_true.2 fun y hy => List.all_eq_true.1 h2 y ?_)
  rw [List.drop_take] at hy
  exact List.mem_of_mem_take hy
end Go.Proofs.Ytcjdbbdmighliac

/- Walks: where the next step is, as the document says. -/
namespace Go.Proofs.Ytcjdbbdmighliac
open Go.RowKit
set_option linter.unusedSimpArgs false
set_option linter.unusedVariables false
set_option maxRecDepth 8000

theorem size_pos0 (t : Tm) : 0 < sizeL [t] := by
  obtain ⟨s, l⟩ := t
  simp [sizeL]; omega
theorem atT_sizeR {zs : List Int} : ∀ {t x : Tm}, atT t zs = some x → sizeL [x] ≤ sizeL [t] := by
  induction zs with
  | nil => intro t x h; simp only [atT, Option.some.injEq] at h; subst h; exact Nat.le_refl _
  | cons z zs ih =>
    intro t x h
    simp only [atT] at h
    split at h
    · rename_i hh
      have h1 := ih h
      have h2 := sizeL_take t.args z.toNat hh.2
      have h3 := sizeL_take_le t.args (z.toNat + 1)
      obtain ⟨s, l⟩ := t
      have : sizeL [(⟨s, l⟩ : Tm)] = 1 + sizeL l := by simp [sizeL]
      simp only at *
      omega
    · cases h
theorem PV.same {w w1 : World} {X Z : Nat → Prop} {v : Value} {p q : List Int} (h : PV w X v p) (h1 : PV w1 Z v q) (hl : q = p) : PV w Z v p := by
  subst hl
  obtain ⟨a, c, rfl, hl, h⟩ := h
  obtain ⟨a1, c1, e1, hl1, h1⟩ := h1
  cases e1
  refine ⟨a, c, rfl, hl, ?_⟩
  rcases h with h | ⟨b, o, e, _, h⟩
  · exact Or.inl h
  · rcases h1 with h1 | ⟨b1, o1, e1, hz, _⟩
    · exact Or.inl h1
    · rw [e] at e1
      cases e1
      exact Or.inr ⟨b, o, e, hz, h⟩
def NxInv (rs : List Pr) (inner : Bool) (t : Tm) (ps : List (List Int)) (W0 : World) (o : Value) (wr : World) : Prop :=
  ∃ i : Nat, i ≤ ps.length ∧ o = .int .i64 (i : Int) ∧ (ps.take i).any (okP rs inner t) = false ∧ Below W0.heap.size W0 wr
def NiInv (rs : List Pr) (inner : Bool) (l : List Tm) (w7 : World) (o q : Value) (wr : World) : Prop :=
  ∃ k : Nat, 1 ≤ k ∧ k ≤ l.length ∧ q = .int .i64 (k : Int) ∧ o = .bool (below1 rs l k) ∧ (inner = false → k = 1) ∧ Below w7.heap.size w7 wr
def NxPost (rs : List Pr) (inner : Bool) (t : Tm) (w : World) (e : Ending) (w' : World) : Prop :=
  Below w.heap.size w w' ∧ ((nextP rs inner t = none ∧ e = .returned (.tuple #[.slice none 0 0, .bool false])) ∨ ∃ p v, nextP rs inner t = some p ∧ p ∈ plcT t ∧ e = .returned (.tuple #[v, .bool true]) ∧ PV w' (fun b => w.heap.size ≤ b) v p)
set_option maxHeartbeats 20000000 in
theorem next_any (rs : List Pr) (t : Tm) (inner : Bool) (aa : Option Addr) (ca : Nat) (u : Value) (w : World) (X : Nat → Prop) (hu : QV w X u rs) (hs : Sl w X aa t.args) (h40 : rs.length ≤ 40) (hrz : ∀ p ∈ rs, sizeL [p.l] ≤ 1000000) (hz : sizeL [t] ≤ 2000) :
    Calls Try.prog 61 #[u, .agg #[.string t.name, .slice aa t.args.length ca], .bool inner] w fun e w' => NxPost rs inner t w e w' := by
  have HU := hide hu
  have HS := hide hs
  obtain ⟨au, cu, rfl, hlu, _⟩ := hu
  clear hs
  go_enter Try.func61, Try.ntmps61
  go_wp2_with fail
  refine (placesOf_any t _ _ X ⟨_, _, rfl, HS.out.later ((Below.refl _ _).alloc (Nat.le_refl _) _)⟩ (by omega)).mono ?_
  rintro e W0 ⟨v7, xs7, rfl, hown7, hrow7, hb0⟩
  obtain ⟨g7, cap7, rfl, hg7, hg7', hcel7⟩ := owned_val hown7 (by simp [plcT])
  obtain ⟨fv, hst⟩ := st_start (ca := ca) HU.out HS.out hb0 hrow7 hg7' hcel7
  have HFR : Hid (∀ i (h : i < (plcT t).length), PV W0 (fun b => w.heap.size ≤ b) (fv i) (plcT t)[i]) := fun i h => by
    obtain ⟨u, h1, h2⟩ := hrow7.get i h
    have h3 := (hst.now.pl i h).1
    rw [hcel7 i u h1] at h3
    cases h3
    exact h2.mono fun b hb _ => by have := hb.1; simp at this; omega
  have A0 := hide hst
  have HBW : Hid (Below w.heap.size w W0) := ((Below.refl w.heap.size w).alloc (Nat.le_refl _) _).trans (hb0.mono (by simp))
  have HAT := hide (fun p hp => plc_at p t hp)
  have HPS : Hid ((plcT t).length ≤ 2000) := by unfold Hid; rw [plcT_len]; exact hz
  have HNP : Hid (nextP rs inner t = (plcT t).find? (okP rs inner t)) := rfl
  have HMP : Hid (∀ p, p ∈ plcT t → p ∈ plcT t) := fun _ h => h
  have HSZ : Hid (∀ p x, atT t p = some x → sizeL [x] ≤ 2000) := fun p x h => Nat.le_trans (atT_sizeR h) hz
  obtain ⟨ps, hps⟩ : ∃ ps, ps = plcT t := ⟨_, rfl⟩
  have HPSE := hide hps
  have HFR2 : Hid (∀ i (h : i < ps.length), PV W0 (fun b => w.heap.size ≤ b) (fv i) ps[i]) := by rw [hps]; exact HFR.out
  rw [← hps] at A0 HAT HPS HNP
  have hlps : (plcT t).length = ps.length := by rw [hps]
  rw [hlps]
  clear hown7 hrow7 hb0 hcel7 hst hg7 HS HU hps hlps HFR
  go_wp2_with fail
  go_loopw [9] (fun o wr => NxInv rs inner t ps W0 o wr) (fun o wr => ps.length - (intOf o).toNat)
  case atStart => exact ⟨0, Nat.zero_le _, rfl, by simp, Below.refl _ _⟩
  case round =>
    obtain ⟨i, hi, rfl, hany, hb⟩ := hrel
    have HANY := hide hany
    have HB := hide hb
    clear hany hb
    by_cases hlt : i < ps.length
    · have hlt2 : (i : Int) < (ps.length : Int) := by omega
      have hi2000 : i ≤ 2000 := by have := HPS.out; omega
      have HROW : Hid (Row wr W0.heap.size 25 (fun b => b < W0.heap.size) (.slice none 0 0) [] []) := Row.start _ _ _ _
      have A1 : Hid (Evs (StF rs t ps aa ca w.heap.size g7 fv (.slice au rs.length cu) W0) wr) := A0.out.later HB.out
      obtain ⟨x, hx⟩ := HAT.out ps[i] (List.getElem_mem hlt)
      have HX := hide hx
      have HTK := hide (anyZ_take (f := okP rs inner t) hlt)
      have HFA := hide (find_at (f := okP rs inner t) hlt HANY.out)
      have HOK : Hid (okP rs inner t ps[i] = okAt rs inner x) := by unfold Hid okP; rw [hx]
      have HMEM : Hid (ps[i] ∈ plcT t) := by rw [← HPSE.out]; exact List.getElem_mem hlt
      have HXZ : Hid (sizeL [x] ≤ 2000) := HSZ.out _ _ hx
      clear hx
      have PLW : Hid (∀ w', StF rs t ps aa ca w.heap.size g7 fv (.slice au rs.length cu) W0 w' → w'.cell? ⟨g7, i, none⟩ = some (fv i) ∧ PV w' (fun b => b < W0.heap.size) (fv i) ps[i]) := fun w' h => h.pl i hlt
      have HFP := hide (HFR2.out i hlt)
      generalize ps[i] = pz at *
      go_upto_region 5 with fail
      go_cut [10] (fun o wc => AtW t x W0 (.slice none 0 0) [] o wc)
      case first =>
        have BD : Hid (Below wr.heap.size wr wr.drew) := below_drewN (Below.refl _ _) 1
        have A2 : Hid (Evs (StF rs t ps aa ca w.heap.size g7 fv (.slice au rs.length cu) W0) wr.drew) := A1.out.later BD.out
        refine wp_region_held_drew (S := StF rs t ps aa ca w.heap.size g7 fv (.slice au rs.length cu) W0) (by kernel_rfl) A2.out.now (fun hHeld => ?_)
        refine wpAnyH_take (i := 0) (v := ?_) rfl (by kernel_rfl) (by kernel_rfl) (by kernel_rfl) (fun _ _ _ h => h) (Or.inl ⟨by rfl, ?_⟩) (by assumption) ?_
        rotate_left
        · intro w' hSw
          have c0 : w'.cell? ⟨w.heap.size, 0, none⟩ = some (.string t.name) := hSw.k1.cell 0
          have c1 : w'.cell? ⟨w.heap.size, 1, none⟩ = some (.slice aa t.args.length ca) := hSw.k1.cell 1
          go_simp <;> with_reducible rfl
        try simp only [Act.put, List.setIfInBounds_toArray, List.set_cons_zero, List.set_cons_succ, List.getElem_toArray, List.getElem_cons_succ, List.getElem_cons_zero]
        refine wpAnyH_take (i := 1) (v := ?_) rfl (by kernel_rfl) (by kernel_rfl) (by kernel_rfl) (fun _ _ _ h => h) (Or.inl ⟨by rfl, ?_⟩) (by assumption) ?_
        rotate_left
        · intro w' hSw
          go_simp <;> with_reducible rfl
        try simp only [Act.put, List.setIfInBounds_toArray, List.set_cons_zero, List.set_cons_succ, List.getElem_toArray, List.getElem_cons_succ, List.getElem_cons_zero]
        refine wpAnyH_take (i := 2) (v := ?_) rfl (by kernel_rfl) (by kernel_rfl) (by kernel_rfl) (fun _ _ _ h => h) (Or.inl ⟨by rfl, ?_⟩) (by assumption) ?_
        rotate_left
        · intro w' hSw
          go_simp <;> with_reducible rfl
        try simp only [Act.put, List.setIfInBounds_toArray, List.set_cons_zero, List.set_cons_succ, List.getElem_toArray, List.getElem_cons_succ, List.getElem_cons_zero]
        refine wpAnyH_take (i := 3) (v := ?_) rfl (by kernel_rfl) (by kernel_rfl) (by kernel_rfl) (fun _ _ _ h => h) (Or.inl ⟨by rfl, ?_⟩) (by assumption) ?_
        rotate_left
        · intro w' hSw
          go_simp <;> with_reducible rfl
        try simp only [Act.put, List.setIfInBounds_toArray, List.set_cons_zero, List.set_cons_succ, List.getElem_toArray, List.getElem_cons_succ, List.getElem_cons_zero]
        refine wpAnyH_take (i := 4) (v := ?_) rfl (by kernel_rfl) (by kernel_rfl) (by kernel_rfl) (fun _ _ _ h => h) (Or.inl ⟨by rfl, ?_⟩) (by assumption) ?_
        rotate_left
        · intro w' hSw
          have c0 := (PLW.out _ hSw).1
          go_simp <;> with_reducible rfl
        try simp only [Act.put, List.setIfInBounds_toArray, List.set_cons_zero, List.set_cons_succ, List.getElem_toArray, List.getElem_cons_succ, List.getElem_cons_zero]
        generalize wr.drew = wd at *
        refine wpAnyH_ready (rs := [5, 9]) (by kernel_rfl) (by simp) ?_
        refine AllReadyH.cons rfl (fun K hK => ?_) (AllReadyH.cons rfl (fun K hK => ?_) AllReadyH.nil)
        · go_simp
          go_at_call 54
          refine (atOf_good HX.out _ _ _ (fun b => b < W0.heap.size) ⟨_, _, rfl, A2.out.now.s1⟩ (PLW.out _ A2.out.now).2).mono ?_
          rintro e w5 ⟨a9, c9, rfl, hs9, hb5⟩
          have A5 := hide (A2.out.later hb5)
          have S9 := hide hs9
          have B5 := hide (BD.out.trans (hb5.mono BD.out.size))
          clear hs9 hb5
          go_simp
          refine hK.out _ _ (by exact A5.out.now) (fun hHeld => ?_)
          clear hK K
          try simp only [Act.put, List.setIfInBounds_toArray, List.set_cons_zero, List.set_cons_succ, List.getElem_toArray, List.getElem_cons_succ, List.getElem_cons_zero]
          refine wpAnyH_take (i := 6) (v := ?_) rfl (by kernel_rfl) (by kernel_rfl) (by kernel_rfl) (fun _ _ _ h => h) (Or.inl ⟨by rfl, ?_⟩) (by assumption) ?_
          rotate_left
          · intro w' hSw
            go_simp <;> with_reducible rfl
          try simp only [Act.put, List.setIfInBounds_toArray, List.set_cons_zero, List.set_cons_succ, List.getElem_toArray, List.getElem_cons_succ, List.getElem_cons_zero]
          refine wpAnyH_take (i := 7) (v := ?_) rfl (by kernel_rfl) (by kernel_rfl) (by kernel_rfl) (fun _ _ _ h => h) (Or.inl ⟨by rfl, ?_⟩) (by assumption) ?_
          rotate_left
          · intro w' hSw
            go_simp <;> with_reducible rfl
          try simp only [Act.put, List.setIfInBounds_toArray, List.set_cons_zero, List.set_cons_succ, List.getElem_toArray, List.getElem_cons_succ, List.getElem_cons_zero]
          refine wpAnyH_take (i := 8) (v := ?_) rfl (by kernel_rfl) (by kernel_rfl) (by kernel_rfl) (fun _ _ _ h => h) (Or.inl ⟨by rfl, ?_⟩) (by assumption) ?_
          rotate_left
          · intro w' hSw
            go_simp <;> with_reducible rfl
          try simp only [Act.put, List.setIfInBounds_toArray, List.set_cons_zero, List.set_cons_succ, List.getElem_toArray, List.getElem_cons_succ, List.getElem_cons_zero]
          refine wpAnyH_ready (rs := [9]) (by kernel_rfl) (by simp) ?_
          refine AllReadyH.cons rfl (fun K hK => ?_) AllReadyH.nil
          go_simp
          refine hK.out _ _ (by exact (A5.out.alloc _).now) (fun hHeld => ?_)
          clear hK K
          try simp only [Act.put, List.setIfInBounds_toArray, List.set_cons_zero, List.set_cons_succ, List.getElem_toArray, List.getElem_cons_succ, List.getElem_cons_zero]
          refine wpAnyH_ready (rs := [10]) (by kernel_rfl) (by simp) ?_
          refine AllReadyH.cons rfl (fun K hK => ?_) AllReadyH.nil
          go_simp
          refine hK.out _ _ (by exact (A5.out.alloc _).now) (fun hHeld => ?_)
          clear hK K
          try simp only [Act.put, List.setIfInBounds_toArray, List.set_cons_zero, List.set_cons_succ, List.getElem_toArray, List.getElem_cons_succ, List.getElem_cons_zero]
          refine wpAnyH_take (i := 11) (v := ?_) rfl (by kernel_rfl) (by kernel_rfl) (by kernel_rfl) (fun _ _ _ h => h) (Or.inl ⟨by rfl, ?_⟩) (by assumption) ?_
          rotate_left
          · intro w' hSw
            go_simp <;> with_reducible rfl
          try simp only [Act.put, List.setIfInBounds_toArray, List.set_cons_zero, List.set_cons_succ, List.getElem_toArray, List.getElem_cons_succ, List.getElem_cons_zero]
          refine wpAnyH_done (by kernel_rfl) ?_ _
          go_wp2_with fail
          go_meet
          exact atW_endA HROW.out HB.out B5.out S9.out
        · go_simp
          refine hK.out _ _ (by exact (A2.out.alloc _).now) (fun hHeld => ?_)
          clear hK K
          try simp only [Act.put, List.setIfInBounds_toArray, List.set_cons_zero, List.set_cons_succ, List.getElem_toArray, List.getElem_cons_succ, List.getElem_cons_zero]
          have AZ := hide (A2.out.alloc (.cells #[.string ⟨#[]⟩, .slice none 0 0] 25))
          have UZ := hide (Blk.new wd #[.string ⟨#[]⟩, .slice none 0 0] 25)
          refine wpAnyH_ready (rs := [5]) (by kernel_rfl) (by simp) ?_
          refine AllReadyH.cons rfl (fun K hK => ?_) AllReadyH.nil
          go_simp
          go_at_call 54
          refine (atOf_good HX.out _ _ _ (fun b => b < W0.heap.size) ⟨_, _, rfl, AZ.out.now.s1⟩ (PLW.out _ AZ.out.now).2).mono ?_
          rintro e w5 ⟨a9, c9, rfl, hs9, hb5⟩
          have A5 := hide (AZ.out.later hb5)
          have S9 := hide hs9
          have U5 := hide (UZ.out.below hb5 UZ.out.lt)
          have B5 := hide (((Below.refl wd.heap.size wd).alloc (Nat.le_refl _) (.cells #[.string ⟨#[]⟩, .slice none 0 0] 25)).trans (hb5.mono (by simp)))
          clear hs9 hb5
          go_simp
          refine hK.out _ _ (by exact A5.out.now) (fun hHeld => ?_)
          clear hK K
          try simp only [Act.put, List.setIfInBounds_toArray, List.set_cons_zero, List.set_cons_succ, List.getElem_toArray, List.getElem_cons_succ, List.getElem_cons_zero]
          refine wpAnyH_take (i := 6) (v := ?_) rfl (by kernel_rfl) (by kernel_rfl) (by kernel_rfl) (fun _ _ _ h => h) (Or.inl ⟨by rfl, ?_⟩) (by assumption) ?_
          rotate_left
          · intro w' hSw
            go_simp <;> with_reducible rfl
          try simp only [Act.put, List.setIfInBounds_toArray, List.set_cons_zero, List.set_cons_succ, List.getElem_toArray, List.getElem_cons_succ, List.getElem_cons_zero]
          refine wpAnyH_take (i := 7) (v := ?_) rfl (by kernel_rfl) (by kernel_rfl) (by kernel_rfl) (fun _ _ _ h => h) (Or.inl ⟨by rfl, ?_⟩) (by assumption) ?_
          rotate_left
          · intro w' hSw
            go_simp <;> with_reducible rfl
          try simp only [Act.put, List.setIfInBounds_toArray, List.set_cons_zero, List.set_cons_succ, List.getElem_toArray, List.getElem_cons_succ, List.getElem_cons_zero]
          refine wpAnyH_take (i := 8) (v := ?_) rfl (by kernel_rfl) (by kernel_rfl) (by kernel_rfl) (fun _ _ _ h => h) (Or.inl ⟨by rfl, ?_⟩) (by assumption) ?_
          rotate_left
          · intro w' hSw
            go_simp <;> with_reducible rfl
          try simp only [Act.put, List.setIfInBounds_toArray, List.set_cons_zero, List.set_cons_succ, List.getElem_toArray, List.getElem_cons_succ, List.getElem_cons_zero]
          have z0 : w5.cell? ⟨wd.heap.size, 0, none⟩ = some (.string ⟨#[]⟩) := U5.out.cell 0
          have z1 : w5.cell? ⟨wd.heap.size, 1, none⟩ = some (.slice none 0 0) := U5.out.cell 1
          have zf := U5.out.frozen
          have zl : wd.heap.size < w5.heap.size := U5.out.lt
          have UP := hide (atW_endB (t := t) (c9 := c9) (HROW.out.below BD.out) (HB.out.trans (BD.out.mono HB.out.size)) B5.out U5.out S9.out)
          refine wpAnyH_ready (rs := [10]) (by kernel_rfl) (by simp) ?_
          refine AllReadyH.cons rfl (fun K hK => ?_) AllReadyH.nil
          go_simp
          refine hK.out _ _ (by exact (A2.out.later UP.out.1).now) (fun hHeld => ?_)
          clear hK K
          try simp only [Act.put, List.setIfInBounds_toArray, List.set_cons_zero, List.set_cons_succ, List.getElem_toArray, List.getElem_cons_succ, List.getElem_cons_zero]
          refine wpAnyH_take (i := 11) (v := ?_) rfl (by kernel_rfl) (by kernel_rfl) (by kernel_rfl) (fun _ _ _ h => h) (Or.inl ⟨by rfl, ?_⟩) (by assumption) ?_
          rotate_left
          · intro w' hSw
            go_simp <;> with_reducible rfl
          try simp only [Act.put, List.setIfInBounds_toArray, List.set_cons_zero, List.set_cons_succ, List.getElem_toArray, List.getElem_cons_succ, List.getElem_cons_zero]
          refine wpAnyH_done (by kernel_rfl) ?_ _
          go_wp2_with fail
          go_meet
          exact UP.out.2
      obtain ⟨B9, a9, c9, xs9, rfl, hk9, hs9, hB9, _, _, hb9⟩ := hcut
      have S9 : Hid (∀ w', Below W0.heap.size W0 w' → Sl w' (fun b => b < W0.heap.size) a9 x.args) := fun w' hb => hs9.kept fun b h => (hb.block b h).trans (hb9.block b h).symm
      have K9 := hide hk9
      have BW9 := hide hb9
      clear hk9 hs9 hb9 hB9 HROW A1
      have d0 : wc.cell? ⟨B9, 0, none⟩ = some (.string x.name) := K9.out.cell 0
      have d1 : wc.cell? ⟨B9, 1, none⟩ = some (.slice a9 x.args.length c9) := K9.out.cell 1
      go_wp2_with fail
      refine (fitR_any rs x a9 c9 _ _ (fun b => b < W0.heap.size) (A0.out _ BW9.out).qv (S9.out _ BW9.out) hrz).mono ?_
      rintro e w6 ⟨rfl, hb6⟩
      have K6 := hide (K9.out.below hb6 K9.out.lt)
      have B6 := hide (BW9.out.trans (hb6.mono BW9.out.size))
      clear hb6 d0 d1 K9 BW9
      cases hf : fitsB rs x with
      | false =>
        have HOA : Hid (okAt rs inner x = false) := by unfold Hid okAt; rw [hf]; rfl
        have BX := hide B6.out
        clear hf
        go_wp2_with fail
        go_roundw
        case rel => exact ⟨i + 1, by omega, by go_num, by rw [HTK.out, HANY.out, HOK.out, HOA.out]; rfl, BX.out⟩
        case measure => simp [intOf]; omega
      | true =>
        have HOA0 : Hid (okAt rs inner x = (!inner || ((preL [x]).drop 1).all fun y => !fitsB rs y)) := by unfold Hid okAt; rw [hf]; rfl
        clear hf
        have d0 : w6.cell? ⟨B9, 0, none⟩ = some (.string x.name) := K6.out.cell 0
        have d1 : w6.cell? ⟨B9, 1, none⟩ = some (.slice a9 x.args.length c9) := K6.out.cell 1
        go_wp2_with fail
        refine (knots_any x _ _ (fun b => b < W0.heap.size) ⟨_, _, rfl, S9.out _ B6.out⟩ (by have := HXZ.out; omega)).mono ?_
        rintro e w7 ⟨v12, xs12, rfl, hown12, hrow12, hb7⟩
        have B7 := hide (B6.out.trans (hb7.mono B6.out.size))
        obtain ⟨g12, cap12, rfl, hg12, hg12', hcel12⟩ := owned_val hown12 (size_pos0 x)
        have HC := hide hcel12
        have HR := hide (hrow12.imp fun a l h => h.later hb7)
        have HLK : Hid ((preL [x]).length = sizeL [x]) := preL_length [x]
        rw [← HLK.out]
        have hlk : 1 ≤ (preL [x]).length ∧ (preL [x]).length ≤ 2000 := by have h1 := HLK.out; have h2 := HXZ.out; have h3 := size_pos0 x; omega
        clear hown12 hrow12 hb7 hcel12 hg12 d0 d1
        generalize preL [x] = kn at *
        go_wp2_with fail
        go_loopw [13, 14] (fun o q wr => NiInv rs inner kn w7 o q wr) (fun o q wr => kn.length - (intOf q).toNat)
        case atStart => exact ⟨1, by omega, hlk.1, rfl, by rw [below1_one], fun _ => rfl, Below.refl _ _⟩
        case round =>
          obtain ⟨k, hk1, hk, rfl, rfl, hin, hb⟩ := hrel
          have HBK := hide hb
          have HIN := hide hin
          have BX := hide (B7.out.trans (hb.mono B7.out.size))
          clear hb hin
          have q0 := (PLW.out _ (A0.out _ BX.out)).1
          by_cases hkl : k < kn.length
          · have hkl2 : (k : Int) < (kn.length : Int) := by omega
            cases inner with
            | false =>
              have hk11 := HIN.out rfl
              subst hk11
              have HOA : Hid (okAt rs false x = true) := by unfold Hid; rw [HOA0.out]; rfl
              rw [below1_one]
              go_wp2_with fail
              refine bodyPost_ret (v := .tuple #[fv i, .bool true]) (by simp [results, Try.results61, go_sem]) rfl ?_
              exact ⟨HBW.out.trans (BX.out.mono HBW.out.size), Or.inr ⟨pz, fv i, by rw [HNP.out]; exact HFA.out (by rw [HOK.out]; exact HOA.out), HMEM.out, rfl, (PLW.out _ (A0.out _ BX.out)).2.same HFP.out rfl⟩⟩
            | true =>
              cases hok : below1 rs kn k with
              | false =>
                have HOA : Hid (okAt rs true x = false) := by unfold Hid; rw [HOA0.out, below1_no hok]; rfl
                clear hok
                go_wp2_with fail
                go_roundw
                case rel => exact ⟨i + 1, by omega, by go_num, by rw [HTK.out, HANY.out, HOK.out, HOA.out]; rfl, BX.out⟩
                case measure => simp [intOf]; omega
              | true =>
                obtain ⟨e0, av, cv, e1, hsv⟩ := HR.out.get k hkl
                have f0 : wr.cell? ⟨g12, k * 2, none⟩ = some (.string kn[k].name) := (HBK.out.cell (p := ⟨g12, k * 2, none⟩) hg12').trans (HC.out _ _ e0)
                have f1 : wr.cell? ⟨g12, k * 2 + 1, none⟩ = some (.slice av kn[k].args.length cv) := (HBK.out.cell (p := ⟨g12, k * 2 + 1, none⟩) hg12').trans (HC.out _ _ e1)
                have SV := hide (hsv.later HBK.out)
                have HBN := hide (below1_next (rs := rs) hk1 hkl)
                clear e0 e1 hsv
                generalize kn[k] = y at *
                rw [hok] at HBN
                clear hok
                go_wp2_with fail
                refine (fitR_any rs y av cv _ _ (fun b => b < W0.heap.size) (A0.out _ BX.out).qv SV.out hrz).mono ?_
                rintro e w8 ⟨rfl, hb8⟩
                have B8 := hide (HBK.out.trans (hb8.mono HBK.out.size))
                clear hb8 q0 f0 f1
                go_wp2_with fail
                go_roundw
                case rel => exact ⟨k + 1, by omega, by omega, by go_num, by rw [HBN.out]; simp, (fun h => by cases h), B8.out⟩
                case measure => simp [intOf]; omega
          · have hkn : k = kn.length := by omega
            have hkl2 : ¬ (k : Int) < (kn.length : Int) := by omega
            have HBL : Hid (below1 rs kn k = (kn.drop 1).all fun y => !fitsB rs y) := by unfold Hid below1; rw [hkn, List.take_length]
            cases hok : below1 rs kn k with
            | true =>
              have HOA : Hid (okAt rs inner x = true) := by unfold Hid; rw [HOA0.out, ← HBL.out, hok]; simp
              clear hok
              go_wp2_with fail
              refine bodyPost_ret (v := .tuple #[fv i, .bool true]) (by simp [results, Try.results61, go_sem]) rfl ?_
              exact ⟨HBW.out.trans (BX.out.mono HBW.out.size), Or.inr ⟨pz, fv i, by rw [HNP.out]; exact HFA.out (by rw [HOK.out]; exact HOA.out), HMEM.out, rfl, (PLW.out _ (A0.out _ BX.out)).2.same HFP.out rfl⟩⟩
            | false =>
              have HOA : Hid (okAt rs inner x = false) := by
                unfold Hid
                rw [HOA0.out, ← HBL.out, hok]
                cases inner with
                | true => rfl
                | false =>
                  have h1 := HIN.out rfl
                  rw [h1, below1_one] at hok
                  cases hok
              clear hok
              go_wp2_with fail
              go_roundw
              case rel => exact ⟨i + 1, by omega, by go_num, by rw [HTK.out, HANY.out, HOK.out, HOA.out]; rfl, BX.out⟩
              case measure => simp [intOf]; omega
    · go_wp2_with fail
      refine bodyPost_ret (v := .tuple #[.slice none 0 0, .bool false]) (by simp [results, Try.results61, go_sem]) rfl ?_
      have htk : ps.take i = ps := List.take_of_length_le (by omega)
      have ha := HANY.out
      rw [htk] at ha
      exact ⟨HBW.out.trans (HB.out.mono HBW.out.size), Or.inl ⟨by rw [HNP.out]; exact find_no ha, rfl⟩⟩
#print axioms next_any
end Go.Proofs.Ytcjdbbdmighliac

/- Plain: what the next step makes of a term; where all steps end; innermost steps within what is around. -/
namespace Go.Proofs.Ytcjdbbdmighliac
open Go.RowKit
set_option linter.unusedSimpArgs false
set_option linter.unusedVariables false

/-- What the first rule that fits makes of a term. -/
def fstT (rs : List Pr) (x : Tm) : Option Tm := rs.findSome? fun r => fitT r x
theorem fstT_none {rs : List Pr} {x : Tm} : fstT rs x = none ↔ fitsB rs x = false := by
  unfold fstT fitsB
  rw [List.findSome?_eq_none_iff, List.any_eq_false]
  constructor
  · intro h r hr
    have := h r hr
    unfold fitT at this
    unfold mtB
    cases hm : mtT r.l x [] with
    | none => simp
    | some g => rw [hm] at this; cases this
  · intro h r hr
    have := h r hr
    unfold mtB at this
    unfold fitT
    cases hm : mtT r.l x [] with
    | none => rfl
    | some g => rw [hm] at this; simp at this
/-- The next step. -/
def nextT (rs : List Pr) (inner : Bool) (t : Tm) : Option Tm := (nextP rs inner t).bind fun p => (atT t p).bind fun x => (fstT rs x).map fun y => putT y p t
/-- Where all steps end: an error (9: too many, 8: too great), the term, how many. -/
def endP (rs : List Pr) (inner : Bool) : Nat → Tm → Int × Tm × Nat
  | 0, t => match nextT rs inner t with
    | none => (0, t, 0)
    | some _ => (9, ⟨⟨#[]⟩, []⟩, 0)
  | m + 1, t => match nextT rs inner t with
    | none => (0, t, 0)
    | some t' => if 2000 < sizeL [t'] then (8, ⟨⟨#[]⟩, []⟩, 0) else
      match endP rs inner m t' with
      | (e, x, n) => if e = 0 then (0, x, n + 1) else (e, ⟨⟨#[]⟩, []⟩, 0)
theorem endP_none {rs : List Pr} {inner : Bool} {m : Nat} {t : Tm} (h : nextT rs inner t = none) : endP rs inner m t = (0, t, 0) := by
  cases m <;> simp [endP, h]
theorem endP_zero {rs : List Pr} {inner : Bool} {t t' : Tm} (h : nextT rs inner t = some t') : endP rs inner 0 t = (9, ⟨⟨#[]⟩, []⟩, 0) := by simp [endP, h]
theorem endP_full {rs : List Pr} {inner : Bool} {m : Nat} {t t' : Tm} (h : nextT rs inner t = some t') (hz : 2000 < sizeL [t']) : endP rs inner (m + 1) t = (8, ⟨⟨#[]⟩, []⟩, 0) := by
  rw [endP, h]
  simp only
  rw [if_pos hz]
/-- So many steps more. -/
def shiftN (k : Nat) (r : Int × Tm × Nat) : Int × Tm × Nat := if r.1 = 0 then (0, r.2.1, r.2.2 + k) else (r.1, ⟨⟨#[]⟩, []⟩, 0)
theorem endP_step {rs : List Pr} {inner : Bool} {m : Nat} {t t' : Tm} (h : nextT rs inner t = some t') (hz : sizeL [t'] ≤ 2000) : endP rs inner (m + 1) t = shiftN 1 (endP rs inner m t') := by
  rw [endP, h]
  simp only
  rw [if_neg (by omega)]
  rfl
theorem endP_form (rs : List Pr) (inner : Bool) : ∀ (m : Nat) (t : Tm), (endP rs inner m t).1 = 0 ∨ endP rs inner m t = (9, ⟨⟨#[]⟩, []⟩, 0) ∨ endP rs inner m t = (8, ⟨⟨#[]⟩, []⟩, 0)
  | m, t => by
    cases h : nextT rs inner t with
    | none => rw [endP_none h]; exact Or.inl rfl
    | some t' =>
      cases m with
      | zero => rw [endP_zero h]; exact Or.inr (Or.inl rfl)
      | succ m =>
        by_cases hz : 2000 < sizeL [t']
        · rw [endP_full h hz]; exact Or.inr (Or.inr rfl)
        · rw [endP_step h (by omega)]
          rcases endP_form rs inner m t' with h1 | h1 | h1
          · unfold shiftN; rw [if_pos h1]; exact Or.inl rfl
          · rw [h1]; exact Or.inr (Or.inl rfl)
          · rw [h1]; exact Or.inr (Or.inr rfl)
theorem shiftN_zero {r : Int × Tm × Nat} (h : r.1 = 0 ∨ r = (9, ⟨⟨#[]⟩, []⟩, 0) ∨ r = (8, ⟨⟨#[]⟩, []⟩, 0)) : shiftN 0 r = r := by
  unfold shiftN
  rcases h with h | h | h
  · rw [if_pos h]; obtain ⟨e, x, n⟩ := r; simp at h; subst h; rfl
  · subst h; rfl
  · subst h; rfl
theorem shiftN_add (a b : Nat) (r : Int × Tm × Nat) : shiftN a (shiftN b r) = shiftN (b + a) r := by
  unfold shiftN
  by_cases h : r.1 = 0
  · simp [h, Nat.add_assoc]
  · simp [h]
theorem shiftN_err (k : Nat) (e : Int) (h : e ≠ 0) : shiftN k (e, ⟨⟨#[]⟩, []⟩, 0) = (e, ⟨⟨#[]⟩, []⟩, 0) := by
  unfold shiftN
  rw [if_neg h]

/-- The place of the next step below a knot. -/
def nxL (rs : List Pr) (inner : Bool) : Nat → List Tm → Option (List Int)
  | _, [] => none
  | j, t :: r => match nextP rs inner t with
    | some p => some ((j : Int) :: p)
    | none => nxL rs inner (j + 1) r
theorem atT_kid {s : ByteArray} {pre l : List Tm} {t : Tm} {p : List Int} : atT ⟨s, pre ++ t :: l⟩ ((pre.length : Int) :: p) = atT t p := by
  rw [atT]
  have h : 0 ≤ (pre.length : Int) ∧ ((pre.length : Int)).toNat < (pre ++ t :: l).length := by simp
  rw [dif_pos h]
  simp
theorem okP_kid {rs : List Pr} {inner : Bool} {s : ByteArray} {pre l : List Tm} {t : Tm} {p : List Int} : okP rs inner ⟨s, pre ++ t :: l⟩ ((pre.length : Int) :: p) = okP rs inner t p := by
  unfold okP
  rw [atT_kid]
theorem find_mapR {f : List Int → Bool} {g : List Int → List Int} : ∀ (l : List (List Int)), (l.map g).find? f = (l.find? (fun p => f (g p))).map g
  | [] => rfl
  | p :: l => by
    rw [List.map_cons, List.find?_cons, List.find?_cons]
    cases f (g p) with
    | true => rfl
    | false => exact find_mapR l
theorem findL_nx {rs : List Pr} {inner : Bool} {s : ByteArray} : ∀ (l pre : List Tm), (plcL pre.length l).find? (okP rs inner ⟨s, pre ++ l⟩) = nxL rs inner pre.length l
  | [], pre => by simp [plcL, nxL]
  | t :: r, pre => by
    rw [plcL_cons, List.find?_append, find_mapR]
    have e1 : (fun p => okP rs inner ⟨s, pre ++ t :: r⟩ ((pre.length : Int) :: p)) = okP rs inner t := funext fun p => okP_kid
    rw [e1]
    have e2 := findL_nx (rs := rs) (inner := inner) (s := s) r (pre ++ [t])
    rw [List.length_append] at e2
    simp only [List.length_singleton, List.append_assoc, List.singleton_append] at e2
    rw [e2]
    unfold nextP at *
    rw [nxL]
    unfold nextP
    cases (plcT t).find? (okP rs inner t) with
    | none => rfl
    | some p => rfl
theorem nextP_eq (rs : List Pr) (inner : Bool) (t : Tm) : nextP rs inner t = if okAt rs inner t = true then some [] else nxL rs inner 0 t.args := by
  obtain ⟨s, l⟩ := t
  have e := findL_nx (rs := rs) (inner := inner) (s := s) l []
  simp only [List.length_nil, List.nil_append] at e
  unfold nextP plcT
  rw [List.find?_cons]
  have e0 : okP rs inner ⟨s, l⟩ [] = okAt rs inner ⟨s, l⟩ := by simp [okP, atT]
  rw [e0, e]
  cases okAt rs inner ⟨s, l⟩ <;> rfl
/-- Nothing fits anywhere. -/
def noFit (rs : List Pr) (l : List Tm) : Prop := ∀ y ∈ preL l, fitsB rs y = false
theorem preL_consR (t : Tm) (r : List Tm) : preL (t :: r) = t :: (preL t.args ++ preL r) := by
  obtain ⟨s, l⟩ := t
  simp [preL]
theorem noFit_cons {rs : List Pr} {t : Tm} {r : List Tm} : noFit rs (t :: r) ↔ fitsB rs t = false ∧ noFit rs t.args ∧ noFit rs r := by
  unfold noFit
  rw [preL_consR]
  constructor
  · intro h
    exact ⟨h _ (by simp), fun y hy => h y (by simp [hy]), fun y hy => h y (by simp [hy])⟩
  · rintro ⟨h1, h2, h3⟩ y hy
    simp only [List.mem_cons, List.mem_append] at hy
    rcases hy with rfl | hy | hy
    · exact h1
    · exact h2 y hy
    · exact h3 y hy
theorem noFit_one {rs : List Pr} {t : Tm} : noFit rs [t] ↔ fitsB rs t = false ∧ noFit rs t.args := by
  rw [noFit_cons]
  constructor
  · rintro ⟨h1, h2, _⟩; exact ⟨h1, h2⟩
  · rintro ⟨h1, h2⟩; exact ⟨h1, h2, fun y hy => by simp [preL] at hy⟩
theorem noFit_mem {rs : List Pr} {l : List Tm} : noFit rs l ↔ ∀ t ∈ l, noFit rs [t] := by
  induction l with
  | nil => simp [noFit, preL]
  | cons t r ih =>
    rw [noFit_cons, ih]
    constructor
    · rintro ⟨h1, h2, h3⟩ x hx
      rcases List.mem_cons.1 hx with rfl | hx
      · exact noFit_one.2 ⟨h1, h2⟩
      · exact h3 x hx
    · intro h
      have h0 := noFit_one.1 (h t (by simp))
      exact ⟨h0.1, h0.2, fun x hx => h x (by simp [hx])⟩
theorem nxL_none {rs : List Pr} {inner : Bool} : ∀ (l : List Tm) (j : Nat), nxL rs inner j l = none ↔ ∀ t ∈ l, nextP rs inner t = none
  | [], j => by simp [nxL]
  | t :: r, j => by
    rw [nxL]
    cases h : nextP rs inner t with
    | some p => simp [h]
    | none => simp [h, nxL_none r (j + 1)]
theorem nextP_none (rs : List Pr) (inner : Bool) (t : Tm) : nextP rs inner t = none ↔ noFit rs [t] := by
  refine Tm.ind (P := fun t => nextP rs inner t = none ↔ noFit rs [t]) (fun s l ih => ?_) t
  have hl : nxL rs inner 0 l = none ↔ noFit rs l := by
    rw [nxL_none, noFit_mem]
    exact ⟨fun h t ht => (ih t ht).1 (h t ht), fun h t ht => (ih t ht).2 (h t ht)⟩
  rw [nextP_eq, noFit_one]
  simp only
  have hok : noFit rs l → okAt rs inner ⟨s, l⟩ = fitsB rs ⟨s, l⟩ := fun hn => by
    unfold okAt
    have e : (((preL [(⟨s, l⟩ : Tm)]).drop 1).all fun y => !fitsB rs y) = true := by
      rw [preL_consR]
      simp only [List.drop_succ_cons, List.drop_zero, List.all_eq_true, List.mem_append]
      rintro y (hy | hy)
      · rw [hn y hy]; rfl
      · simp [preL] at hy
    rw [e]
    simp
  constructor
  · intro h
    by_cases h1 : okAt rs inner ⟨s, l⟩ = true
    · rw [if_pos h1] at h; cases h
    · rw [if_neg h1] at h
      have h2 := hl.1 h
      rw [hok h2] at h1
      exact ⟨by simpa using h1, h2⟩
  · rintro ⟨h1, h2⟩
    rw [if_neg (by rw [hok h2, h1]; simp)]
    exact hl.2 h2
theorem nextP_at {rs : List Pr} {inner : Bool} {t : Tm} {p : List Int} (h : nextP rs inner t = some p) : ∃ x, atT t p = some x ∧ okAt rs inner x = true := by
  have h1 := List.find?_some h
  unfold okP at h1
  cases hx : atT t p with
  | none => rw [hx] at h1; cases h1
  | some x => rw [hx] at h1; exact ⟨x, rfl, h1⟩
theorem okAt_fits {rs : List Pr} {inner : Bool} {x : Tm} (h : okAt rs inner x = true) : fitsB rs x = true := by
  unfold okAt at h
  rw [Bool.and_eq_true] at h
  exact h.1
theorem nextT_some {rs : List Pr} {inner : Bool} {t : Tm} {p : List Int} (h : nextP rs inner t = some p) : ∃ x y, atT t p = some x ∧ fstT rs x = some y ∧ nextT rs inner t = some (putT y p t) := by
  obtain ⟨x, hx, hok⟩ := nextP_at h
  cases hf : fstT rs x with
  | none => rw [fstT_none, okAt_fits hok] at hf; cases hf
  | some y => exact ⟨x, y, hx, hf, by unfold nextT; rw [h]; simp [hx, hf]⟩
theorem nextT_none (rs : List Pr) (inner : Bool) (t : Tm) : nextT rs inner t = none ↔ noFit rs [t] := by
  rw [← nextP_none rs inner]
  constructor
  · intro h
    cases hp : nextP rs inner t with
    | none => rfl
    | some p => obtain ⟨x, y, _, _, h2⟩ := nextT_some hp; rw [h2] at h; cases h
  · intro h; unfold nextT; rw [h]; rfl
theorem nxL_first {rs : List Pr} {inner : Bool} {a : Tm} {post : List Tm} {p : List Int} (ha : nextP rs inner a = some p) : ∀ (pre : List Tm) (j : Nat), noFit rs pre → nxL rs inner j (pre ++ a :: post) = some (((j + pre.length : Nat) : Int) :: p)
  | [], j, _ => by simp [nxL, ha]
  | t :: r, j, h => by
    have h1 := noFit_mem.1 h
    rw [List.cons_append, nxL, (nextP_none rs inner t).2 (h1 t (by simp))]
    simp only
    rw [nxL_first ha r (j + 1) (noFit_mem.2 fun x hx => h1 x (by simp [hx]))]
    simp [Nat.add_assoc, Nat.add_comm 1]
theorem putT_kid {s : ByteArray} {pre post : List Tm} {a y : Tm} {p : List Int} : putT y ((pre.length : Int) :: p) ⟨s, pre ++ a :: post⟩ = ⟨s, pre ++ putT y p a :: post⟩ := by
  rw [putT]
  congr 1
  have key : ∀ (pre : List Tm) (j : Nat), putL (putT y p) ((j + pre.length : Nat) : Int) j (pre ++ a :: post) = pre ++ putT y p a :: post := by
    intro pre
    induction pre with
    | nil =>
      intro j
      simp only [List.nil_append, List.length_nil, Nat.add_zero]
      rw [putL]
      rw [if_pos rfl, putL_none _ _ _ _ (by omega)]
    | cons t r ih =>
      intro j
      rw [List.cons_append, putL, if_neg (by simp; omega), List.cons_append]
      congr 1
      have := ih (j + 1)
      rw [show j + 1 + r.length = j + (t :: r).length by simp; omega] at this
      exact this
  have := key pre 0
  rw [Nat.zero_add] at this
  exact this
/-- What is done within is done in the whole, where nothing fits ahead of it. -/
theorem inner_kid {rs : List Pr} {s : ByteArray} {pre post : List Tm} {a a' : Tm} (hpre : noFit rs pre) (h : nextT rs true a = some a') : nextT rs true ⟨s, pre ++ a :: post⟩ = some ⟨s, pre ++ a' :: post⟩ := by
  cases hp : nextP rs true a with
  | none => unfold nextT at h; rw [hp] at h; cases h
  | some p =>
    obtain ⟨x, y, hx, hf, h2⟩ := nextT_some hp
    rw [h2] at h
    cases h
    have hno : okAt rs true ⟨s, pre ++ a :: post⟩ = false := by
      unfold okAt
      rw [Bool.and_eq_false_iff]
      right
      simp only [Bool.not_true, Bool.false_or]
      rw [Bool.eq_false_iff]
      intro hall
      rw [List.all_eq_true] at hall
      have h3 : noFit rs [a] := fun z hz => by
        have := hall z (by
          rw [preL_consR]
          simp only [List.drop_succ_cons, List.drop_zero, List.mem_append]
          left
          rw [preL_append]
          rw [preL_consR]
          rw [preL_consR] at hz
          simp only [List.mem_append, List.mem_cons] at hz ⊢
          rcases hz with rfl | hz | hz
          · exact Or.inr (Or.inl rfl)
          · exact Or.inr (Or.inr (Or.inl hz))
          · simp [preL] at hz)
        simpa using this
      rw [(nextP_none rs true a).2 h3] at hp
      cases hp
    have hn : nextP rs true ⟨s, pre ++ a :: post⟩ = some ((pre.length : Int) :: p) := by
      rw [nextP_eq, if_neg (by rw [hno]; simp)]
      simp only
      rw [nxL_first hp pre 0 hpre, Nat.zero_add]
    unfold nextT
    rw [hn]
    simp only [Option.bind_some]
    rw [atT_kid, hx]
    simp only [Option.bind_some]
    rw [hf]
    simp only [Option.map_some]
    rw [putT_kid]
/-- Where nothing fits below a knot, the next step is there, if any is. -/
theorem inner_top {rs : List Pr} {s : ByteArray} {l : List Tm} (hl : noFit rs l) : nextT rs true ⟨s, l⟩ = fstT rs ⟨s, l⟩ := by
  cases hf : fstT rs ⟨s, l⟩ with
  | none =>
    rw [nextT_none, noFit_one]
    exact ⟨fstT_none.1 hf, hl⟩
  | some y =>
    have hfit : fitsB rs ⟨s, l⟩ = true := by
      cases h : fitsB rs ⟨s, l⟩ with
      | true => rfl
      | false => rw [fstT_none.2 h] at hf; cases hf
    have hok : okAt rs true ⟨s, l⟩ = true := by
      unfold okAt
      rw [hfit]
      simp only [Bool.not_true, Bool.false_or, Bool.true_and]
      rw [List.all_eq_true, preL_consR]
      simp only [List.drop_succ_cons, List.drop_zero, List.mem_append]
      rintro z (hz | hz)
      · rw [hl z hz]; rfl
      · simp [preL] at hz
    unfold nextT
    rw [nextP_eq, if_pos hok]
    simp [atT, hf, putT]
/-- What is around: steps within are steps of the whole, and it adds so many knots. -/
def CtxZ (rs : List Pr) (C : Tm → Tm) (k : Nat) : Prop := (∀ a a', nextT rs true a = some a' → nextT rs true (C a) = some (C a')) ∧ ∀ a, sizeL [C a] = sizeL [a] + k
theorem CtxZ.id (rs : List Pr) : CtxZ rs (fun a => a) 0 := ⟨fun _ _ h => h, fun _ => rfl⟩
theorem CtxZ.kid {rs : List Pr} {C : Tm → Tm} {k : Nat} (h : CtxZ rs C k) {s : ByteArray} {pre post : List Tm} (hpre : noFit rs pre) : CtxZ rs (fun a => C ⟨s, pre ++ a :: post⟩) (1 + sizeL pre + sizeL post + k) := by
  refine ⟨fun a a' ha => h.1 _ _ (inner_kid hpre ha), fun a => ?_⟩
  show sizeL [C ⟨s, pre ++ a :: post⟩] = _
  rw [h.2]
  have e : sizeL (pre ++ a :: post) = sizeL pre + (sizeL [a] + sizeL post) := by
    rw [sizeL_append]
    have := sizeL_append [a] post
    rw [← this]; rfl
  have : sizeL [(⟨s, pre ++ a :: post⟩ : Tm)] = 1 + sizeL (pre ++ a :: post) := by simp [sizeL]
  omega
#print axioms CtxZ.kid
end Go.Proofs.Ytcjdbbdmighliac

/- But for one block the world is as it was. -/
namespace Go.Proofs.Ytcjdbbdmighliac
open Go.RowKit
set_option linter.unusedSimpArgs false
set_option linter.unusedVariables false
set_option maxRecDepth 8000

/-- But for block B the world is as it was. -/
structure Ex (B : Nat) (w w' : World) : Prop where
  os : w'.os = w.os
  tape : w'.tape = w.tape
  output : w'.output = w.output
  size : w.heap.size ≤ w'.heap.size
  block : ∀ k, k < w.heap.size → k ≠ B → w'.heap[k]? = w.heap[k]?
theorem Ex.refl (B : Nat) (w : World) : Ex B w w := ⟨rfl, rfl, rfl, Nat.le_refl _, fun _ _ _ => rfl⟩
theorem Ex.trans {B : Nat} {a b c : World} (h : Ex B a b) (k : Ex B b c) : Ex B a c :=
  ⟨k.os.trans h.os, k.tape.trans h.tape, k.output.trans h.output, Nat.le_trans h.size k.size, fun i hi hn => (k.block i (Nat.lt_of_lt_of_le hi h.size) hn).trans (h.block i hi hn)⟩
theorem Ex.drewN {B : Nat} {a w : World} (h : Ex B a w) (n : Nat) : Ex B a (w.drewN n) := ⟨h.os, h.tape, h.output, h.size, h.block⟩
theorem Ex.drew {B : Nat} {a w : World} (h : Ex B a w) : Ex B a w.drew := ⟨h.os, h.tape, h.output, h.size, h.block⟩
theorem Ex.set {B : Nat} {a w : World} (h : Ex B a w) (i : Nat) (v : Value) : Ex B a (w.setCell ⟨B, i, none⟩ v) :=
  ⟨h.os, h.tape, h.output, by simpa [World.setCell] using h.size, fun k hk hn => (Below.heap_setCell _ _ _ _ (by simpa using hn)).trans (h.block k hk hn)⟩

theorem Ex.alloc {B : Nat} {a w : World} (h : Ex B a w) (o : Obj) : Ex B a (w.alloc o) :=
  ⟨h.os, h.tape, h.output, by have := h.size; simp; omega, fun k hk hn => (Below.heap_alloc _ _ _ (Nat.lt_of_lt_of_le hk h.size)).trans (h.block k hk hn)⟩

theorem Blk.ex {w w' : World} {B b T : Nat} {cs : Array Value} (h : Blk w b cs T) (he : Ex B w w') (hne : b ≠ B) : Blk w' b cs T := by
  unfold Blk at *
  rw [he.block b (Blk.lt h) hne]; exact h
theorem Ex.mid {B : Nat} {w w1 : World} (h : Ex B w w1) : ∃ wm, Below wm.heap.size wm w1 ∧ wm.heap.size = w.heap.size ∧ Ex B w wm := by
  by_cases hB : B < w.heap.size
  · have hB1 : B < w1.heap.size := Nat.lt_of_lt_of_le hB h.size
    refine ⟨{ w with heap := w.heap.setIfInBounds B w1.heap[B] }, ⟨h.os, h.tape, h.output, by simpa using h.size, fun k hk => ?_⟩, by simp, ⟨rfl, rfl, rfl, by simp, fun k hk hn => ?_⟩⟩
    · simp at hk
      by_cases e : k = B
      · subst e
        simp [Array.getElem?_setIfInBounds, hB, hB1]
      · rw [h.block k hk e]
        simp [Array.getElem?_setIfInBounds, Ne.symm e]
    · simp [Array.getElem?_setIfInBounds, Ne.symm hn]
  · exact ⟨w, ⟨h.os, h.tape, h.output, h.size, fun k hk => h.block k hk (by omega)⟩, rfl, Ex.refl _ _⟩

theorem Row.ex {w w' : World} {B N T : Nat} {Y : Nat → Prop} {v : Value} {l : List Tm} {xs : List Value} (h : Row w N T Y v l xs) (he : Ex B w w') (hB : B < N) (hY : ¬ Y B) : Row w' N T Y v l xs :=
  ⟨h.own.kept (w' := w') (row := some B) ⟨he.os, he.tape, he.output, he.size, fun j hj hn => he.block j hj (fun e => hn (by rw [e]))⟩ (Or.inr (fun e => by have := (h.own.lt B e).1; omega)),
   h.row.imp fun a l hs => ((hs.mono (Y := fun b => (Y b ∨ (N ≤ b ∧ some b ≠ v.ownBlock)) ∧ b < w.heap.size) fun b h1 h2 => ⟨h1, h2⟩).kept fun b hb => he.block b hb.2 (fun e => by
     rcases hb.1 with h1 | h1
     · rw [e] at h1; exact hY h1
     · omega)).mono fun b hb _ => hb.1⟩

theorem Ex.grown {B : Nat} {a w w' : World} {row : Option Nat} (h : Ex B a w) (hg : w.grownBy w' row) (hr : ∀ k, row = some k → a.heap.size ≤ k) : Ex B a w' :=
  ⟨hg.os.trans h.os, hg.tape.trans h.tape, hg.output.trans h.output, Nat.le_trans h.size hg.size, fun k hk hn => (hg.block k (Nat.lt_of_lt_of_le hk h.size) (fun e => by have := hr k e.symm; omega)).trans (h.block k hk hn)⟩
theorem Ex.setNew {B : Nat} {a w : World} (h : Ex B a w) {b : Nat} (hb : a.heap.size ≤ b) (i : Nat) (v : Value) : Ex B a (w.setCell ⟨b, i, none⟩ v) :=
  ⟨h.os, h.tape, h.output, by simpa [World.setCell] using h.size, fun k hk hn => (Below.heap_setCell _ _ _ _ (by simp; omega)).trans (h.block k hk hn)⟩

end Go.Proofs.Ytcjdbbdmighliac

/- But for some blocks the world is as it was. -/
namespace Go.Proofs.Ytcjdbbdmighliac
open Go.RowKit
set_option linter.unusedSimpArgs false
set_option linter.unusedVariables false
set_option maxRecDepth 8000

/-- But for the blocks that Q names the world is as it was. -/
structure ExQ (Q : Nat → Prop) (w w' : World) : Prop where
  os : w'.os = w.os
  tape : w'.tape = w.tape
  output : w'.output = w.output
  size : w.heap.size ≤ w'.heap.size
  block : ∀ k, k < w.heap.size → ¬ Q k → w'.heap[k]? = w.heap[k]?
theorem ExQ.refl (Q : Nat → Prop) (w : World) : ExQ Q w w := ⟨rfl, rfl, rfl, Nat.le_refl _, fun _ _ _ => rfl⟩
theorem ExQ.trans {Q : Nat → Prop} {a b c : World} (h : ExQ Q a b) (k : ExQ Q b c) : ExQ Q a c :=
  ⟨k.os.trans h.os, k.tape.trans h.tape, k.output.trans h.output, Nat.le_trans h.size k.size, fun i hi hn => (k.block i (Nat.lt_of_lt_of_le hi h.size) hn).trans (h.block i hi hn)⟩
/-- One behind the other, the second naming blocks that the first world had not. -/
theorem ExQ.transN {Q R : Nat → Prop} {a b c : World} (h : ExQ Q a b) (k : ExQ R b c) (hR : ∀ i, R i → i < a.heap.size → Q i) : ExQ Q a c :=
  ⟨k.os.trans h.os, k.tape.trans h.tape, k.output.trans h.output, Nat.le_trans h.size k.size, fun i hi hn => (k.block i (Nat.lt_of_lt_of_le hi h.size) (fun hr => hn (hR i hr hi))).trans (h.block i hi hn)⟩
theorem ExQ.mono {Q R : Nat → Prop} {a b : World} (h : ExQ Q a b) (hR : ∀ i, Q i → i < a.heap.size → R i) : ExQ R a b := ⟨h.os, h.tape, h.output, h.size, fun i hi hn => h.block i hi (fun hq => hn (hR i hq hi))⟩
theorem ExQ.drewN {Q : Nat → Prop} {a w : World} (h : ExQ Q a w) (n : Nat) : ExQ Q a (w.drewN n) := ⟨h.os, h.tape, h.output, h.size, h.block⟩
theorem ExQ.drew {Q : Nat → Prop} {a w : World} (h : ExQ Q a w) : ExQ Q a w.drew := ⟨h.os, h.tape, h.output, h.size, h.block⟩
theorem ExQ.set {Q : Nat → Prop} {a w : World} (h : ExQ Q a w) {B : Nat} (hB : Q B) (i : Nat) (v : Value) : ExQ Q a (w.setCell ⟨B, i, none⟩ v) :=
  ⟨h.os, h.tape, h.output, by simpa [World.setCell] using h.size, fun k hk hn => (Below.heap_setCell _ _ _ _ (by simp; intro e; subst e; exact hn hB)).trans (h.block k hk hn)⟩
theorem ExQ.alloc {Q : Nat → Prop} {a w : World} (h : ExQ Q a w) (o : Obj) : ExQ Q a (w.alloc o) :=
  ⟨h.os, h.tape, h.output, by have := h.size; simp; omega, fun k hk hn => (Below.heap_alloc _ _ _ (Nat.lt_of_lt_of_le hk h.size)).trans (h.block k hk hn)⟩
theorem ExQ.grown {Q : Nat → Prop} {a w w' : World} {row : Option Nat} (h : ExQ Q a w) (hg : w.grownBy w' row) (hr : ∀ k, row = some k → a.heap.size ≤ k ∨ Q k) : ExQ Q a w' :=
  ⟨hg.os.trans h.os, hg.tape.trans h.tape, hg.output.trans h.output, Nat.le_trans h.size hg.size, fun k hk hn => (hg.block k (Nat.lt_of_lt_of_le hk h.size) (fun e => by rcases hr k e.symm with h1 | h1; omega; exact hn h1)).trans (h.block k hk hn)⟩
theorem ExQ.setNew {Q : Nat → Prop} {a w : World} (h : ExQ Q a w) {b : Nat} (hb : a.heap.size ≤ b) (i : Nat) (v : Value) : ExQ Q a (w.setCell ⟨b, i, none⟩ v) :=
  ⟨h.os, h.tape, h.output, by simpa [World.setCell] using h.size, fun k hk hn => (Below.heap_setCell _ _ _ _ (by simp; omega)).trans (h.block k hk hn)⟩
theorem ExQ.ofBelow {Q : Nat → Prop} {w w' : World} (h : Below w.heap.size w w') : ExQ Q w w' := ⟨h.os, h.tape, h.output, h.size, fun k hk _ => h.block k hk⟩
theorem ExQ.ofEx {Q : Nat → Prop} {B : Nat} {w w' : World} (h : Ex B w w') (hB : Q B) : ExQ Q w w' := ⟨h.os, h.tape, h.output, h.size, fun k hk hn => h.block k hk (fun e => hn (by rw [e]; exact hB))⟩
theorem ExQ.below {Q : Nat → Prop} {w w' : World} {B : Nat} (h : ExQ Q w w') (hB : B ≤ w.heap.size) (hQ : ∀ b, Q b → B ≤ b) : Below B w w' :=
  ⟨h.os, h.tape, h.output, h.size, fun k hk => h.block k (by omega) (fun hq => by have := hQ k hq; omega)⟩
theorem Blk.exq {w w' : World} {Q : Nat → Prop} {b T : Nat} {cs : Array Value} (h : Blk w b cs T) (he : ExQ Q w w') (hne : ¬ Q b) : Blk w' b cs T := by
  unfold Blk at *
  rw [he.block b (Blk.lt h) hne]; exact h
theorem Sl.exq {w w' : World} {Q X : Nat → Prop} {a : Option Addr} {l : List Tm} (h : Sl w X a l) (he : ExQ Q w w') (hX : ∀ b, X b → ¬ Q b) : Sl w' X a l :=
  ((h.mono (Y := fun b => X b ∧ b < w.heap.size) fun b h1 h2 => ⟨h1, h2⟩).kept fun b hb => he.block b hb.2 (hX b hb.1)).mono fun b hb _ => hb.1
theorem ExQ.mid {Q : Nat → Prop} {w w1 : World} (h : ExQ Q w w1) : ∃ wm, Below wm.heap.size wm w1 ∧ wm.heap.size = w.heap.size ∧ ExQ Q w wm := by
  have hs := h.size
  have hz : (w1.heap.extract 0 w.heap.size).size = w.heap.size := by simp; omega
  refine ⟨{ w1 with heap := w1.heap.extract 0 w.heap.size }, ⟨rfl, rfl, rfl, by simp; omega, fun k hk => ?_⟩, hz, ⟨h.os, h.tape, h.output, by simp [hz], fun k hk hn => ?_⟩⟩
  · have hk2 : k < w.heap.size := by simp at hk; omega
    simp [Array.getElem?_extract, hk2]
    omega
  · rw [← h.block k hk hn]
    simp [Array.getElem?_extract, hk]
    omega
theorem ownsRow_at {w w' : World} {base e size n : Nat} {v : Value} {xs : List Value} (h : w.ownsRow base e size v n xs) (hk : ∀ g, v.ownBlock = some g → w'.heap[g]? = w.heap[g]?) : w'.ownsRow base e size v n xs := by
  obtain ⟨hl, h1⟩ := h
  refine ⟨hl, ?_⟩
  rcases h1 with h1 | ⟨g, cap, cur, hv, hg, hh, hr⟩
  · exact Or.inl h1
  · refine Or.inr ⟨g, cap, cur, hv, hg, ?_, hr⟩
    rw [hk g (by rw [hv]; rfl)]
    exact hh
theorem Row.exq {w w' : World} {Q : Nat → Prop} {N T : Nat} {Y : Nat → Prop} {v : Value} {l : List Tm} {xs : List Value} (h : Row w N T Y v l xs) (he : ExQ Q w w') (hQ : ∀ b, Q b → b < N) (hY : ∀ b, Q b → ¬ Y b) : Row w' N T Y v l xs :=
  ⟨ownsRow_at h.own fun g hg => he.block g (h.own.lt g hg).2 (fun hq => by have := hQ g hq; have := (h.own.lt g hg).1; omega),
   h.row.imp fun a l hs => hs.exq he fun b hb hq => by
     rcases hb with h1 | h1
     · exact hY b hq h1
     · have := hQ b hq; omega⟩
theorem BRow.exq {w w' : World} {Q : Nat → Prop} {N : Nat} {Y : Nat → Prop} {v : Value} {cs : List Bc} (h : BRow w N Y v cs) (he : ExQ Q w w') (hQ : ∀ b, Q b → b < N) (hY : ∀ b, Q b → ¬ Y b) : BRow w' N Y v cs :=
  ⟨ownsRow_at h.own fun g hg => he.block g (h.own.lt g hg).2 (fun hq => by have := hQ g hq; have := (h.own.lt g hg).1; omega),
   fun x hx => (h.row x hx).exq he fun b hb hq => by
     rcases hb with h1 | h1
     · exact hY b hq h1
     · have := hQ b hq; omega⟩
#print axioms Row.exq
#print axioms BRow.exq
end Go.Proofs.Ytcjdbbdmighliac
