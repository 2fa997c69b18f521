/- Walks: copies of terms, counted. -/
import Derived.Test.YtmkomemjhfafnaaExM
import Derived.Test.YtmkomemjhfafnaaZSubstMadeOwn
import Derived.Deep.RegionHeld3
namespace Go.Proofs.Ytmkomemjhfafnaa
open Go.RowKit
set_option linter.unusedSimpArgs false
set_option linter.unusedVariables false
set_option maxRecDepth 8000

/-- What a counted making of a term gives: all of it, if it is not too great; else the count is below nought. -/
def CpPost (w : World) (F : Nat) (sv : Value) (t : Tm) (n : Nat) (e : Ending) (w' : World) : Prop :=
  ∃ (s' : ByteArray) (a' : Option Addr) (l' c' : Nat) (m : Int), e = .returned (.agg #[.string s', .slice a' l' c']) ∧ Blk w' F #[.int .i64 m, sv] 92 ∧ Ex F w w' ∧ (sizeL [t] ≤ n → m = (n : Int) - sizeL [t] ∧ s' = t.name ∧ l' = t.args.length ∧ Sl w' (fun b => w.heap.size ≤ b) a' t.args) ∧ (n < sizeL [t] → m = -1)

theorem fcopy_of (F : Nat) (sv : Value) (t : Tm) (n : Nat) (a : Option Addr) (c : Nat) (w : World) (hFl : F < w.heap.size) (h : Calls Try.prog 85 #[.pointer (some ⟨F, 0, none⟩), .agg #[.string t.name, .slice a t.args.length c], .func (.func 86) #[.pointer (some ⟨F, 0, none⟩)] #[]] ((w.alloc (.cells #[.string t.name, .slice a t.args.length c] 25)).alloc (.cells #[.string ⟨#[]⟩, .slice none 0 0] 25)) fun e w' => CpPost ((w.alloc (.cells #[.string t.name, .slice a t.args.length c] 25)).alloc (.cells #[.string ⟨#[]⟩, .slice none 0 0] 25)) F sv t n e w') :
    Calls Try.prog 86 #[.pointer (some ⟨F, 0, none⟩), .agg #[.string t.name, .slice a t.args.length c]] w fun e w' => CpPost w F sv t n e w' := by
  have hmf : ∀ (fn : Fn) (first cap : Array Value) (w : World), (Instr.makeFunc fn first cap).run Try.prog w = .ok (.func fn first cap) w := fun _ _ _ _ => rfl
  have H := hide h
  clear h
  go_enter Try.func86, Try.ntmps86
  go_wp2_with fail
  refine H.out.mono ?_
  rintro e w1 ⟨s', a', l', c', m, rfl, hF1, hx1, hy1, hn1⟩
  have R1 : Hid (Blk w1 (w.heap.size + 1) #[.string ⟨#[]⟩, .slice none 0 0] 25) := by
    have h := (Blk.new (w.alloc (.cells #[.string t.name, .slice a t.args.length c] 25)) #[.string ⟨#[]⟩, .slice none 0 0] 25).ex hx1 (by simp; omega)
    unfold Hid
    simpa using h
  have HX := hide ((((Ex.refl F w).alloc (.cells #[.string t.name, .slice a t.args.length c] 25)).alloc (.cells #[.string ⟨#[]⟩, .slice none 0 0] 25)).trans hx1)
  have HF := hide hF1
  have HY := hide hy1
  have HN := hide hn1
  clear hF1 hx1 hy1 hn1
  have r0 : w1.cell? ⟨w.heap.size + 1, 0, none⟩ = some (.string ⟨#[]⟩) := R1.out.cell 0
  have r1 : w1.cell? ⟨w.heap.size + 1, 1, none⟩ = some (.slice none 0 0) := R1.out.cell 1
  have rf := R1.out.frozen
  go_wp2_with fail
  refine bodyPost_ret (v := .agg #[.string s', .slice a' l' c']) (by simp [results, Try.results86, go_sem, World.cell?_setCell_same, World.cell?_setCell_other, r0, r1]) rfl ?_
  refine ⟨s', a', l', c', m, rfl, (HF.out.setOther _ _ (by omega)).setOther _ _ (by omega), (HX.out.setNew (by omega) _ _).setNew (by omega) _ _, fun h => ?_, HN.out⟩
  obtain ⟨h1, h2, h3, h4⟩ := HY.out h
  refine ⟨h1, h2, h3, (h4.kept fun b hb => ?_).mono fun b hb _ => by simp at hb; omega⟩
  simp at hb
  rw [Below.heap_setCell _ _ _ _ (by simp; omega), Below.heap_setCell _ _ _ _ (by simp; omega)]

theorem Sl.ex {w w' : World} {F : Nat} {X : Nat → Prop} {a : Option Addr} {l : List Tm} (h : Sl w X a l) (he : Ex F w w') (hX : ∀ b, X b → b ≠ F) : Sl w' X a l :=
  ((h.mono (Y := fun b => X b ∧ b < w.heap.size) fun b h1 h2 => ⟨h1, h2⟩).kept fun b hb => he.block b hb.2 (hX b hb.1)).mono fun b hb _ => hb.1

/-- What stands beside the row. -/
def KnSet (w : World) (F O : Nat) (s : ByteArray) (u : Value) (cF : Array Value) (wr : World) : Prop :=
  Ex F w wr ∧ Blk wr (w.heap.size + 1) #[.string ⟨#[]⟩, .slice none 0 0] 25 ∧ Blk wr O #[.string s, u] 25 ∧ Blk wr F cF 92 ∧ O < wr.heap.size

theorem kn_set {w wr w1 w3 : World} {F O : Nat} {s : ByteArray} {u v : Value} {cF cF' : Array Value} {o2 : Obj} (hFw : F < w.heap.size) (hO : w.heap.size + 2 ≤ O) (h : KnSet w F O s u cF wr) (hu : ∀ k, u.ownBlock = some k → O + 1 ≤ k)
    (he1 : Ex F wr w1) (hF1 : Blk w1 F cF' 92) (hg : (w1.alloc o2).grownBy w3 u.ownBlock) : KnSet w F O s v cF' (w3.setCell ⟨O, 1, none⟩ v) := by
  obtain ⟨h1, h2, h3, h4, h5⟩ := h
  have hne : ∀ b, b < O + 1 → some b ≠ u.ownBlock := fun b hb e => by have := hu b e.symm; omega
  have hs1 := he1.size
  have hs3 := hg.size
  simp at hs3
  refine ⟨(((h1.trans he1).alloc o2).grown hg (fun k hk => by have := hu k hk; omega)).setNew (by omega) _ _, ?_, ?_, ?_, by simp [World.setCell]; omega⟩
  · exact (((h2.ex he1 (by omega)).alloc o2).grown hg (hne _ (by omega))).setOther _ _ (by omega)
  · exact (((h3.ex he1 (by omega)).alloc o2).grown hg (hne _ (by omega))).set 1 _
  · exact ((hF1.alloc o2).grown hg (hne _ (by omega))).setOther _ _ (by omega)

theorem kn_row {wr w1 w3 : World} {F O : Nat} {u : Value} {L : List Tm} {xs : List Value} {o2 : Obj} {s' : ByteArray} {a1 : Option Addr} {n1 c1 g cap : Nat} {t : Tm} (hFO : F < O) (hOr : O < wr.heap.size) (hrow : Row wr (O + 1) 25 (fun _ => False) u L xs)
    (he1 : Ex F wr w1) (ht : TV w1 (fun b => wr.heap.size ≤ b) (.agg #[.string s', .slice a1 n1 c1]) t)
    (hown : w3.ownsRow (O + 1) 25 2 (.slice (some ⟨g, 0, none⟩) (L.length + 1) cap) (L.length + 1) (xs ++ [.string s', .slice a1 n1 c1])) (hg : (w1.alloc o2).grownBy w3 u.ownBlock) (hat : u.ownBlock = some g ∨ g = (w1.alloc o2).heap.size) :
    Row (w3.setCell ⟨O, 1, none⟩ (.slice (some ⟨g, 0, none⟩) (L.length + 1) cap)) (O + 1) 25 (fun _ => False) (.slice (some ⟨g, 0, none⟩) (L.length + 1) cap) (L ++ [t]) (xs ++ [.string s', .slice a1 n1 c1]) := by
  obtain ⟨wm, hbm, hsm, hem⟩ := he1.mid
  have hrm := hrow.ex hem (by omega) (fun h => h)
  exact (hrm.push (w1 := w1) (w2 := w1.alloc o2) (w3 := w3) (by omega) (fun _ h => h.elim) hbm (ht.mono fun b h _ => Or.inr (by omega)) o2 rfl hown hg hat).setCell (by omega) (fun h => h) _

def KnInv (w : World) (F O : Nat) (s : ByteArray) (sv : Value) (l : List Tm) (n : Nat) (i : Value) (wr : World) : Prop :=
  ∃ (k : Nat) (u : Value), k ≤ l.length ∧ i = .int .i64 (k : Int) ∧
    ((∃ (m : Nat) (xs : List Value), (m : Int) = (n : Int) - 1 - sizeL (l.take k) ∧ KnSet w F O s u #[.int .i64 (m : Int), sv] wr ∧ Row wr (O + 1) 25 (fun _ => False) u (l.take k) xs) ∨
     (n < 1 + sizeL l ∧ KnSet w F O s u #[.int .i64 (-1), sv] wr ∧ ∃ a9 l9 c9, u = .slice a9 l9 c9))

set_option maxHeartbeats 1000000 in
theorem knotC_any (F : Nat) (sv : Value) (t : Tm) : ∀ (n : Nat) (v : Value) (w : World) (X : Nat → Prop), TV w X v t → (∀ b, X b → b ≠ F) → n ≤ 1000000 → Blk w F #[.int .i64 (n : Int), sv] 92 →
    Calls Try.prog 85 #[.pointer (some ⟨F, 0, none⟩), v, .func (.func 86) #[.pointer (some ⟨F, 0, none⟩)] #[]] w fun e w' => CpPost w F sv t n e w' := by
  induction t using Tm.ind with
  | h s l ih =>
    intro n v w X hv hXF hn hF
    obtain ⟨a, c, rfl, hs⟩ := hv
    have IH := hide ih
    clear ih
    obtain ⟨i0, hi0, hz0, hz1, hz2⟩ := info_parts Try.infoTerm
    have f0 : ∀ o, (w.alloc o).cell? ⟨F, 0, none⟩ = some (.int .i64 (n : Int)) := fun o => (hF.alloc o).cell 0
    have ff : ∀ o, (w.alloc o).frozen? ⟨F, 0, none⟩ = false := fun o => (hF.alloc o).frozen 0
    have hFl : F < w.heap.size := hF.lt
    go_enter Try.func85, Try.ntmps85
    go_wp2_with fail
    have E3 : Hid (KnSet w F (w.heap.size + 1 + 1) s (.slice none 0 0) #[.int .i64 ((n : Int) - 1), sv] ((((w.setCell ⟨F, 0, none⟩ (.int .i64 ((n : Int) - 1))).alloc (.cells #[.string s, .slice a l.length c] 25)).alloc (.cells #[.string ⟨#[]⟩, .slice none 0 0] 25)).alloc (.cells #[.string s, .slice none 0 0] 25))) := by
      refine ⟨((((Ex.refl F w).set 0 _).alloc _).alloc _).alloc _, ?_, ?_, (((hF.set 0 _).alloc _).alloc _).alloc _, by simp [World.setCell]⟩
      · have h := (Blk.new ((w.setCell ⟨F, 0, none⟩ (.int .i64 ((n : Int) - 1))).alloc (.cells #[.string s, .slice a l.length c] 25)) #[.string ⟨#[]⟩, .slice none 0 0] 25).alloc (.cells #[.string s, .slice none 0 0] 25)
        simpa [World.setCell] using h
      · have h := Blk.new (((w.setCell ⟨F, 0, none⟩ (.int .i64 ((n : Int) - 1))).alloc (.cells #[.string s, .slice a l.length c] 25)).alloc (.cells #[.string ⟨#[]⟩, .slice none 0 0] 25)) #[.string s, .slice none 0 0] 25
        simpa [World.setCell] using h
    generalize ((((w.setCell ⟨F, 0, none⟩ (.int .i64 ((n : Int) - 1))).alloc (.cells #[.string s, .slice a l.length c] 25)).alloc (.cells #[.string ⟨#[]⟩, .slice none 0 0] 25)).alloc (.cells #[.string s, .slice none 0 0] 25)) = w3 at *
    generalize hOe : w.heap.size + 1 + 1 = O at *
    have hO : w.heap.size + 2 ≤ O := by omega
    clear hOe
    clear f0 ff
    have HS := hide hs
    have hl := hs.1
    have HXF := hide hXF
    have hz : sizeL [(⟨s, l⟩ : Tm)] = 1 + sizeL l := by simp [sizeL]
    clear hs hXF
    go_loopw [23] (fun i wr => KnInv w F O s sv l n i wr) (fun i wr => l.length - (intOf i).toNat)
    case atStart =>
      refine ⟨0, .slice none 0 0, Nat.zero_le _, rfl, ?_⟩
      by_cases hn0 : n = 0
      · subst hn0
        exact Or.inr ⟨by omega, E3.out, none, 0, 0, rfl⟩
      · refine Or.inl ⟨n - 1, [], by simp [sizeL]; omega, ?_, Row.start _ _ _ _⟩
        rw [show ((n - 1 : Nat) : Int) = (n : Int) - 1 by omega]
        exact E3.out
    case round =>
      obtain ⟨k, u, hk, rfl, hcase⟩ := hrel
      rcases hcase with ⟨m, xs, hm, hset, hrow⟩ | ⟨hbig, hset, a9, l9, c9, rfl⟩
      · have XS := hide hset
        have XW := hide hrow
        have HMM := hide hm
        clear hset hrow
        by_cases hlt : k < l.length
        · obtain ⟨b, o, a', c', rfl, d0, d1, hx⟩ := (HS.out.ex XS.out.1 HXF.out).get (Below.refl _ _) (fun _ _ h => h) k hlt
          obtain ⟨av, cv, ev, hsx⟩ := hx
          simp at ev
          obtain ⟨rfl, rfl⟩ := ev
          have hmn : m ≤ 1000000 := by omega
          have HOF : Hid (O ≠ F) := by unfold Hid; omega
          have HFO1 : Hid (F < O + 1) := by unfold Hid; omega
          have hlen := sizeL_len l
          have hsk : (l.take k).length = k := by simp; omega
          have hkn : k ≤ 1000000 := by have h1 := sizeL_len (l.take k); rw [hsk] at h1; omega
          have HL1 : Hid ((l.take k).length + 1 ≤ maxLen ∧ ((l.take k).length + 1) * 40 ≤ 140737488355328) := by unfold Hid; rw [hsk]; exact ⟨by unfold maxLen; omega, by omega⟩
          clear hsk
          have IHQ : Hid (Calls Try.prog 86 #[.pointer (some ⟨F, 0, none⟩), .agg #[.string l[k].name, .slice a' l[k].args.length c']] (wr.alloc (.cells #[.string l[k].name, .slice a' l[k].args.length c'] 25)).drew fun e w'' => CpPost (wr.alloc (.cells #[.string l[k].name, .slice a' l[k].args.length c'] 25)).drew F sv l[k] m e w'') := fcopy_of F sv l[k] m a' c' _ (by have := XS.out.1.size; simp; omega) (IH.out l[k] (List.getElem_mem hlt) m _ _ X ⟨a', c', rfl, ((hsx.later ((Below.refl _ _).alloc (Nat.le_refl _) (.cells #[.string l[k].name, .slice a' l[k].args.length c'] 25))).later ((Below.refl _ _).drew)).later (((Below.refl _ _).alloc (Nat.le_refl _) _).alloc (by simp) _)⟩ HXF.out hmn (by exact ((((XS.out.2.2.2.1.alloc _).drewN 1).alloc _).alloc _)))
          have f0 : ∀ o, (wr.alloc o).cell? ⟨F, 0, none⟩ = some (.int .i64 (m : Int)) := fun o => (XS.out.2.2.2.1.alloc o).cell 0
          have o1 : ∀ o, (wr.alloc o).cell? ⟨O, 1, none⟩ = some u := fun o => (XS.out.2.2.1.alloc o).cell 1
          have hm0 : ¬ (m : Int) < 0 := by omega
          by_cases hle : sizeL [l[k]] ≤ m
          · have IHG : Hid (Calls Try.prog 86 #[.pointer (some ⟨F, 0, none⟩), .agg #[.string l[k].name, .slice a' l[k].args.length c']] (wr.alloc (.cells #[.string l[k].name, .slice a' l[k].args.length c'] 25)).drew fun e w'' => ∃ a1 c1, e = .returned (.agg #[.string l[k].name, .slice a1 l[k].args.length c1]) ∧ Blk w'' F #[.int .i64 ((m : Int) - sizeL [l[k]]), sv] 92 ∧ Ex F wr w'' ∧ Sl w'' (fun b => wr.heap.size ≤ b) a1 l[k].args) := IHQ.out.mono fun e w'' hp => by
              obtain ⟨s1, a1, l1, c1, m1, h1, h2, h3, h4, _⟩ := hp
              obtain ⟨rfl, rfl, rfl, h5⟩ := h4 hle
              exact ⟨a1, c1, h1, h2, (((Ex.refl F wr).alloc _).drew).trans h3, h5.mono fun b hb _ => by simp at hb; omega⟩
            clear IHQ
            go_wp2_with fail
            go_region_law (first
              | (go_simp; go_at_call 86; refine IHG.out.mono ?_; rintro e w1 ⟨a1, c1, rfl, hF1, he1, hs1⟩; have hc3 : ∀ o, (w1.alloc o).cell? ⟨O, 1, none⟩ = some u := fun o => ((Blk.ex XS.out.2.2.1 he1 HOF.out).alloc o).cell 1; have hc4 : w1.cell? ⟨O, 1, none⟩ = some u := (Blk.ex XS.out.2.2.1 he1 HOF.out).cell 1)
              | (refine step_append_lies _ rfl _ _ 23 rfl (O + 1) 25 i0 _ 2 40 Try.underlying23 hi0 hz0 hz1 hz2 rfl (by decide) u (l.take k).length xs rfl (by exact (Row.ex (B := F) XW.out he1 HFO1.out (fun h => h)).own.alloc _) ⟨w1.heap.size, 0, none⟩ 1 1 [.string l[k].name, .slice a1 l[k].args.length c1] rfl rfl (cell_two_new _ _ _ _) (fun x hx => by simp at hx; rcases hx with rfl | rfl <;> rfl) (by decide) HL1.out.1 HL1.out.2 (by have := he1.size; have := XS.out.2.2.2.2; simp; omega) _ rfl ?_; intro g cap w3 hown3 hgrow3 hat3 hlt3; have hB3 := hide (((Blk.ex XS.out.2.2.1 he1 HOF.out).alloc _).grown hgrow3 (XW.out.ne (Nat.lt_succ_self _))); have hc5 : w3.cell? ⟨O, 1, none⟩ = some u := hB3.out.cell 1; have hf5 := hB3.out.frozen 1))
            all_goals
              have HK := hide (kn_set (v := .slice (some ⟨g, 0, none⟩) ((l.take k).length + 1) cap) hFl hO XS.out (fun j hj => (XW.out.own.lt j hj).1) he1 hF1 hgrow3)
              have HRW := hide (kn_row (by omega) XS.out.2.2.2.2 XW.out he1 ⟨a1, c1, rfl, hs1⟩ hown3 hgrow3 hat3)
              clear hown3 hgrow3 hat3 hc3 hc4 hc5 hf5 hB3 hF1 he1 hs1 hlt3
              go_wp2_with fail
              go_roundw
              case rel =>
                have hkl : (l.take k).length = k := by simp; omega
                have h1 := HK.out
                have h2 := HRW.out
                have hmm := HMM.out
                simp only [hkl] at h1 h2
                refine ⟨k + 1, .slice (some ⟨g, 0, none⟩) (k + 1) cap, by omega, by go_num, Or.inl ⟨m - sizeL [l[k]], xs ++ [.string l[k].name, .slice a1 l[k].args.length c1], by rw [sizeL_take l k hlt]; omega, ?_, ?_⟩⟩
                · rw [show ((m - sizeL [l[k]] : Nat) : Int) = (m : Int) - sizeL [l[k]] by omega]
                  exact h1
                · rw [List.take_succ_eq_append_getElem hlt]
                  exact h2
              case measure => simp [intOf]; omega
          · have IHG : Hid (Calls Try.prog 86 #[.pointer (some ⟨F, 0, none⟩), .agg #[.string l[k].name, .slice a' l[k].args.length c']] (wr.alloc (.cells #[.string l[k].name, .slice a' l[k].args.length c'] 25)).drew fun e w'' => ∃ s1 a1 l1 c1, e = .returned (.agg #[.string s1, .slice a1 l1 c1]) ∧ Blk w'' F #[.int .i64 (-1), sv] 92 ∧ Ex F wr w'') := IHQ.out.mono fun e w'' hp => by
              obtain ⟨s1, a1, l1, c1, m1, h1, h2, h3, _, h4⟩ := hp
              obtain rfl := h4 (by omega)
              exact ⟨s1, a1, l1, c1, h1, h2, (((Ex.refl F wr).alloc _).drew).trans h3⟩
            clear IHQ
            go_wp2_with fail
            go_region_law (first
              | (go_simp; go_at_call 86; refine IHG.out.mono ?_; rintro e w1 ⟨s1, a1, l1, c1, rfl, hF1, he1⟩; have hc3 : ∀ o, (w1.alloc o).cell? ⟨O, 1, none⟩ = some u := fun o => ((Blk.ex XS.out.2.2.1 he1 HOF.out).alloc o).cell 1; have hc4 : w1.cell? ⟨O, 1, none⟩ = some u := (Blk.ex XS.out.2.2.1 he1 HOF.out).cell 1)
              | (refine step_append_lies _ rfl _ _ 23 rfl (O + 1) 25 i0 _ 2 40 Try.underlying23 hi0 hz0 hz1 hz2 rfl (by decide) u (l.take k).length xs rfl (by exact (Row.ex (B := F) XW.out he1 HFO1.out (fun h => h)).own.alloc _) ⟨w1.heap.size, 0, none⟩ 1 1 [.string s1, .slice a1 l1 c1] rfl rfl (cell_two_new _ _ _ _) (fun x hx => by simp at hx; rcases hx with rfl | rfl <;> rfl) (by decide) HL1.out.1 HL1.out.2 (by have := he1.size; have := XS.out.2.2.2.2; simp; omega) _ rfl ?_; intro g cap w3 hown3 hgrow3 hat3 hlt3; have hB3 := hide (((Blk.ex XS.out.2.2.1 he1 HOF.out).alloc _).grown hgrow3 (XW.out.ne (Nat.lt_succ_self _))); have hc5 : w3.cell? ⟨O, 1, none⟩ = some u := hB3.out.cell 1; have hf5 := hB3.out.frozen 1))
            all_goals
              have HK := hide (kn_set (v := .slice (some ⟨g, 0, none⟩) ((l.take k).length + 1) cap) hFl hO XS.out (fun j hj => (XW.out.own.lt j hj).1) he1 hF1 hgrow3)
              clear hown3 hgrow3 hat3 hc3 hc4 hc5 hf5 hB3 hF1 he1 hlt3
              go_wp2_with fail
              go_roundw
              case rel =>
                have hkl : (l.take k).length = k := by simp; omega
                have h0 := HK.out
                have hmm := HMM.out
                simp only [hkl] at h0
                refine ⟨k + 1, .slice (some ⟨g, 0, none⟩) (k + 1) cap, by omega, by go_num, Or.inr ⟨?_, h0, _, _, _, rfl⟩⟩
                have h1 := sizeL_take l k hlt
                have h2 := sizeL_take_le l (k + 1)
                omega
              case measure => simp [intOf]; omega
        · have htk : l.take k = l := List.take_of_length_le (by omega)
          rw [htk] at XW HMM
          obtain ⟨a9, c9, hu9, hsl9⟩ := XW.out.sl
          subst hu9
          have S9 := hide hsl9
          clear hsl9
          have r0 : wr.cell? ⟨w.heap.size + 1, 0, none⟩ = some (.string ⟨#[]⟩) := XS.out.2.1.cell 0
          have r1 : wr.cell? ⟨w.heap.size + 1, 1, none⟩ = some (.slice none 0 0) := XS.out.2.1.cell 1
          have rf := XS.out.2.1.frozen
          have o0 : wr.cell? ⟨O, 0, none⟩ = some (.string s) := XS.out.2.2.1.cell 0
          have o1 : wr.cell? ⟨O, 1, none⟩ = some (.slice a9 l.length c9) := XS.out.2.2.1.cell 1
          go_wp2_with fail
          refine bodyPost_ret (v := .agg #[.string s, .slice a9 l.length c9]) (by simp [results, Try.results85, go_sem, World.cell?_setCell_same, World.cell?_setCell_other, r0, r1]) rfl ?_
          have hmm := HMM.out
          refine ⟨s, a9, l.length, c9, m, rfl, (XS.out.2.2.2.1.setOther _ _ (by omega)).setOther _ _ (by omega), (XS.out.1.setNew (by omega) _ _).setNew (by omega) _ _, fun h => ⟨by rw [hz]; omega, rfl, rfl, (S9.out.kept fun b hb => ?_).mono fun b hb _ => ?_⟩, fun h => by omega⟩
          · have hb' : O + 1 ≤ b := hb.elim False.elim id
            rw [Below.heap_setCell _ _ _ _ (by simp; omega), Below.heap_setCell _ _ _ _ (by simp; omega)]
          · have hb' : O + 1 ≤ b := hb.elim False.elim id
            omega
      · have XS := hide hset
        clear hset
        have f0 : ∀ o, (wr.alloc o).cell? ⟨F, 0, none⟩ = some (.int .i64 (-1)) := fun o => (XS.out.2.2.2.1.alloc o).cell 0
        by_cases hlt : k < l.length
        · obtain ⟨b, o, a', c', rfl, d0, d1, hx⟩ := (HS.out.ex XS.out.1 HXF.out).get (Below.refl _ _) (fun _ _ h => h) k hlt
          clear hx
          have o0 : ∀ o, (wr.alloc o).cell? ⟨O, 0, none⟩ = some (.string s) := fun o => (XS.out.2.2.1.alloc o).cell 0
          have o1 : ∀ o, (wr.alloc o).cell? ⟨O, 1, none⟩ = some (.slice a9 l9 c9) := fun o => (XS.out.2.2.1.alloc o).cell 1
          have r0 : wr.cell? ⟨w.heap.size + 1, 0, none⟩ = some (.string ⟨#[]⟩) := XS.out.2.1.cell 0
          have r1 : wr.cell? ⟨w.heap.size + 1, 1, none⟩ = some (.slice none 0 0) := XS.out.2.1.cell 1
          have rf := XS.out.2.1.frozen
          have hRl : w.heap.size + 1 < wr.heap.size := XS.out.2.1.lt
          go_wp2_with fail
          refine bodyPost_ret (v := .agg #[.string s, .slice a9 l9 c9]) (by simp [results, Try.results85, go_sem, World.cell?_setCell_same, World.cell?_setCell_other, r0, r1, hRl, World.cell?_alloc_old]) rfl ?_
          exact ⟨s, a9, l9, c9, -1, rfl, ((XS.out.2.2.2.1.setOther _ _ (by omega)).setOther _ _ (by omega)).alloc _, ((XS.out.1.setNew (by omega) _ _).setNew (by omega) _ _).alloc _, fun h => by omega, fun _ => rfl⟩
        · have r0 : wr.cell? ⟨w.heap.size + 1, 0, none⟩ = some (.string ⟨#[]⟩) := XS.out.2.1.cell 0
          have r1 : wr.cell? ⟨w.heap.size + 1, 1, none⟩ = some (.slice none 0 0) := XS.out.2.1.cell 1
          have rf := XS.out.2.1.frozen
          have o0 : wr.cell? ⟨O, 0, none⟩ = some (.string s) := XS.out.2.2.1.cell 0
          have o1 : wr.cell? ⟨O, 1, none⟩ = some (.slice a9 l9 c9) := XS.out.2.2.1.cell 1
          go_wp2_with fail
          refine bodyPost_ret (v := .agg #[.string s, .slice a9 l9 c9]) (by simp [results, Try.results85, go_sem, World.cell?_setCell_same, World.cell?_setCell_other, r0, r1]) rfl ?_
          exact ⟨s, a9, l9, c9, -1, rfl, (XS.out.2.2.2.1.setOther _ _ (by omega)).setOther _ _ (by omega), (XS.out.1.setNew (by omega) _ _).setNew (by omega) _ _, fun h => by omega, fun _ => rfl⟩
#print axioms knotC_any
end Go.Proofs.Ytmkomemjhfafnaa
