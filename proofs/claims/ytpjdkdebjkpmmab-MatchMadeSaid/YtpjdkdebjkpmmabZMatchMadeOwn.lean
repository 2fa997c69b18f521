/- Several texts in one. -/
import Derived.Test.YtpjdkdebjkpmmabExM
import Derived.Test.YtpjdkdebjkpmmabW9
import Derived.Deep.RegionHeld3
import Derived.Test.YtpjdkdebjkpmmabW56
import Derived.Laws.EntriesVeiled
import Derived.Test.YtpjdkdebjkpmmabBmE
import Derived.Test.YtpjdkdebjkpmmabOnM
import Derived.Test.YtpjdkdebjkpmmabRow
import Derived.Test.YtpjdkdebjkpmmabRows
import Derived.Test.YtpjdkdebjkpmmabW2
import Derived.BigQuiet
import Derived.Test.YtpjdkdebjkpmmabW6
import Derived.Test.YtpjdkdebjkpmmabMem
import Derived.Test.YtpjdkdebjkpmmabSrt
import Derived.Test.YtpjdkdebjkpmmabW82
import Derived.Test.YtpjdkdebjkpmmabW81
import Derived.Test.YtpjdkdebjkpmmabW100
import Derived.Test.YtpjdkdebjkpmmabW99
import Derived.Test.YtpjdkdebjkpmmabW53
import Derived.Test.YtpjdkdebjkpmmabW7
import Derived.ProofKit
import Derived.Test.YtpjdkdebjkpmmabW28
/- Walks: copies of terms, counted. -/
namespace Go.Proofs.Ytpjdkdebjkpmmab
open Go.RowKit
set_option linter.unusedSimpArgs false
set_option linter.unusedVariables false
set_option maxRecDepth 8000

/-- What a counted making of a term gives: all of it, if it is not too great; else the count is below nought. -/
def CpPost (w : World) (F : Nat) (sv : Value) (t : Tm) (n : Nat) (e : Ending) (w' : World) : Prop :=
  ∃ (s' : ByteArray) (a' : Option Addr) (l' c' : Nat) (m : Int), e = .returned (.agg #[.string s', .slice a' l' c']) ∧ Blk w' F #[.int .i64 m, sv] 140 ∧ Ex F w w' ∧ (sizeL [t] ≤ n → m = (n : Int) - sizeL [t] ∧ s' = t.name ∧ l' = t.args.length ∧ Sl w' (fun b => w.heap.size ≤ b) a' t.args) ∧ (n < sizeL [t] → m = -1)

theorem fcopy_of (F : Nat) (sv : Value) (t : Tm) (n : Nat) (a : Option Addr) (c : Nat) (w : World) (hFl : F < w.heap.size) (h : Calls Try.prog 127 #[.pointer (some ⟨F, 0, none⟩), .agg #[.string t.name, .slice a t.args.length c], .func (.func 128) #[.pointer (some ⟨F, 0, none⟩)] #[]] ((w.alloc (.cells #[.string t.name, .slice a t.args.length c] 29)).alloc (.cells #[.string ⟨#[]⟩, .slice none 0 0] 29)) fun e w' => CpPost ((w.alloc (.cells #[.string t.name, .slice a t.args.length c] 29)).alloc (.cells #[.string ⟨#[]⟩, .slice none 0 0] 29)) F sv t n e w') :
    Calls Try.prog 128 #[.pointer (some ⟨F, 0, none⟩), .agg #[.string t.name, .slice a t.args.length c]] w fun e w' => CpPost w F sv t n e w' := by
  have hmf : ∀ (fn : Fn) (first cap : Array Value) (w : World), (Instr.makeFunc fn first cap).run Try.prog w = .ok (.func fn first cap) w := fun _ _ _ _ => rfl
  have H := hide h
  clear h
  go_enter Try.func128, Try.ntmps128
  go_wp2_with fail
  refine H.out.mono ?_
  rintro e w1 ⟨s', a', l', c', m, rfl, hF1, hx1, hy1, hn1⟩
  have R1 : Hid (Blk w1 (w.heap.size + 1) #[.string ⟨#[]⟩, .slice none 0 0] 29) := by
    have h := (Blk.new (w.alloc (.cells #[.string t.name, .slice a t.args.length c] 29)) #[.string ⟨#[]⟩, .slice none 0 0] 29).ex hx1 (by simp; omega)
    unfold Hid
    simpa using h
  have HX := hide ((((Ex.refl F w).alloc (.cells #[.string t.name, .slice a t.args.length c] 29)).alloc (.cells #[.string ⟨#[]⟩, .slice none 0 0] 29)).trans hx1)
  have HF := hide hF1
  have HY := hide hy1
  have HN := hide hn1
  clear hF1 hx1 hy1 hn1
  have r0 : w1.cell? ⟨w.heap.size + 1, 0, none⟩ = some (.string ⟨#[]⟩) := R1.out.cell 0
  have r1 : w1.cell? ⟨w.heap.size + 1, 1, none⟩ = some (.slice none 0 0) := R1.out.cell 1
  have rf := R1.out.frozen
  go_wp2_with fail
  refine bodyPost_ret (v := .agg #[.string s', .slice a' l' c']) (by simp [results, Try.results128, go_sem, World.cell?_setCell_same, World.cell?_setCell_other, r0, r1]) rfl ?_
  refine ⟨s', a', l', c', m, rfl, (HF.out.setOther _ _ (by omega)).setOther _ _ (by omega), (HX.out.setNew (by omega) _ _).setNew (by omega) _ _, fun h => ?_, HN.out⟩
  obtain ⟨h1, h2, h3, h4⟩ := HY.out h
  refine ⟨h1, h2, h3, (h4.kept fun b hb => ?_).mono fun b hb _ => by simp at hb; omega⟩
  simp at hb
  rw [Below.heap_setCell _ _ _ _ (by simp; omega), Below.heap_setCell _ _ _ _ (by simp; omega)]

theorem Sl.ex {w w' : World} {F : Nat} {X : Nat → Prop} {a : Option Addr} {l : List Tm} (h : Sl w X a l) (he : Ex F w w') (hX : ∀ b, X b → b ≠ F) : Sl w' X a l :=
  ((h.mono (Y := fun b => X b ∧ b < w.heap.size) fun b h1 h2 => ⟨h1, h2⟩).kept fun b hb => he.block b hb.2 (hX b hb.1)).mono fun b hb _ => hb.1

/-- What stands beside the row. -/
def KnSet (w : World) (F O : Nat) (s : ByteArray) (u : Value) (cF : Array Value) (wr : World) : Prop :=
  Ex F w wr ∧ Blk wr (w.heap.size + 1) #[.string ⟨#[]⟩, .slice none 0 0] 29 ∧ Blk wr O #[.string s, u] 29 ∧ Blk wr F cF 140 ∧ O < wr.heap.size

theorem kn_set {w wr w1 w3 : World} {F O : Nat} {s : ByteArray} {u v : Value} {cF cF' : Array Value} {o2 : Obj} (hFw : F < w.heap.size) (hO : w.heap.size + 2 ≤ O) (h : KnSet w F O s u cF wr) (hu : ∀ k, u.ownBlock = some k → O + 1 ≤ k)
    (he1 : Ex F wr w1) (hF1 : Blk w1 F cF' 140) (hg : (w1.alloc o2).grownBy w3 u.ownBlock) : KnSet w F O s v cF' (w3.setCell ⟨O, 1, none⟩ v) := by
  obtain ⟨h1, h2, h3, h4, h5⟩ := h
  have hne : ∀ b, b < O + 1 → some b ≠ u.ownBlock := fun b hb e => by have := hu b e.symm; omega
  have hs1 := he1.size
  have hs3 := hg.size
  simp at hs3
  refine ⟨(((h1.trans he1).alloc o2).grown hg (fun k hk => by have := hu k hk; omega)).setNew (by omega) _ _, ?_, ?_, ?_, by simp [World.setCell]; omega⟩
  · exact (((h2.ex he1 (by omega)).alloc o2).grown hg (hne _ (by omega))).setOther _ _ (by omega)
  · exact (((h3.ex he1 (by omega)).alloc o2).grown hg (hne _ (by omega))).set 1 _
  · exact ((hF1.alloc o2).grown hg (hne _ (by omega))).setOther _ _ (by omega)

theorem kn_row {wr w1 w3 : World} {F O : Nat} {u : Value} {L : List Tm} {xs : List Value} {o2 : Obj} {s' : ByteArray} {a1 : Option Addr} {n1 c1 g cap : Nat} {t : Tm} (hFO : F < O) (hOr : O < wr.heap.size) (hrow : Row wr (O + 1) 29 (fun _ => False) u L xs)
    (he1 : Ex F wr w1) (ht : TV w1 (fun b => wr.heap.size ≤ b) (.agg #[.string s', .slice a1 n1 c1]) t)
    (hown : w3.ownsRow (O + 1) 29 2 (.slice (some ⟨g, 0, none⟩) (L.length + 1) cap) (L.length + 1) (xs ++ [.string s', .slice a1 n1 c1])) (hg : (w1.alloc o2).grownBy w3 u.ownBlock) (hat : u.ownBlock = some g ∨ g = (w1.alloc o2).heap.size) :
    Row (w3.setCell ⟨O, 1, none⟩ (.slice (some ⟨g, 0, none⟩) (L.length + 1) cap)) (O + 1) 29 (fun _ => False) (.slice (some ⟨g, 0, none⟩) (L.length + 1) cap) (L ++ [t]) (xs ++ [.string s', .slice a1 n1 c1]) := by
  obtain ⟨wm, hbm, hsm, hem⟩ := he1.mid
  have hrm := hrow.ex hem (by omega) (fun h => h)
  exact (hrm.push (w1 := w1) (w2 := w1.alloc o2) (w3 := w3) (by omega) (fun _ h => h.elim) hbm (ht.mono fun b h _ => Or.inr (by omega)) o2 rfl hown hg hat).setCell (by omega) (fun h => h) _

def KnInv (w : World) (F O : Nat) (s : ByteArray) (sv : Value) (l : List Tm) (n : Nat) (i : Value) (wr : World) : Prop :=
  ∃ (k : Nat) (u : Value), k ≤ l.length ∧ i = .int .i64 (k : Int) ∧
    ((∃ (m : Nat) (xs : List Value), (m : Int) = (n : Int) - 1 - sizeL (l.take k) ∧ KnSet w F O s u #[.int .i64 (m : Int), sv] wr ∧ Row wr (O + 1) 29 (fun _ => False) u (l.take k) xs) ∨
     (n < 1 + sizeL l ∧ KnSet w F O s u #[.int .i64 (-1), sv] wr ∧ ∃ a9 l9 c9, u = .slice a9 l9 c9))

set_option maxHeartbeats 1000000 in
theorem knotC_any (F : Nat) (sv : Value) (t : Tm) : ∀ (n : Nat) (v : Value) (w : World) (X : Nat → Prop), TV w X v t → (∀ b, X b → b ≠ F) → n ≤ 1000000 → Blk w F #[.int .i64 (n : Int), sv] 140 →
    Calls Try.prog 127 #[.pointer (some ⟨F, 0, none⟩), v, .func (.func 128) #[.pointer (some ⟨F, 0, none⟩)] #[]] w fun e w' => CpPost w F sv t n e w' := by
  induction t using Tm.ind with
  | h s l ih =>
    intro n v w X hv hXF hn hF
    obtain ⟨a, c, rfl, hs⟩ := hv
    have IH := hide ih
    clear ih
    obtain ⟨i0, hi0, hz0, hz1, hz2⟩ := info_parts Try.infoTerm
    have f0 : ∀ o, (w.alloc o).cell? ⟨F, 0, none⟩ = some (.int .i64 (n : Int)) := fun o => (hF.alloc o).cell 0
    have ff : ∀ o, (w.alloc o).frozen? ⟨F, 0, none⟩ = false := fun o => (hF.alloc o).frozen 0
    have hFl : F < w.heap.size := hF.lt
    go_enter Try.func127, Try.ntmps127
    go_wp2_with fail
    have E3 : Hid (KnSet w F (w.heap.size + 1 + 1) s (.slice none 0 0) #[.int .i64 ((n : Int) - 1), sv] ((((w.setCell ⟨F, 0, none⟩ (.int .i64 ((n : Int) - 1))).alloc (.cells #[.string s, .slice a l.length c] 29)).alloc (.cells #[.string ⟨#[]⟩, .slice none 0 0] 29)).alloc (.cells #[.string s, .slice none 0 0] 29))) := by
      refine ⟨((((Ex.refl F w).set 0 _).alloc _).alloc _).alloc _, ?_, ?_, (((hF.set 0 _).alloc _).alloc _).alloc _, by simp [World.setCell]⟩
      · have h := (Blk.new ((w.setCell ⟨F, 0, none⟩ (.int .i64 ((n : Int) - 1))).alloc (.cells #[.string s, .slice a l.length c] 29)) #[.string ⟨#[]⟩, .slice none 0 0] 29).alloc (.cells #[.string s, .slice none 0 0] 29)
        simpa [World.setCell] using h
      · have h := Blk.new (((w.setCell ⟨F, 0, none⟩ (.int .i64 ((n : Int) - 1))).alloc (.cells #[.string s, .slice a l.length c] 29)).alloc (.cells #[.string ⟨#[]⟩, .slice none 0 0] 29)) #[.string s, .slice none 0 0] 29
        simpa [World.setCell] using h
    generalize ((((w.setCell ⟨F, 0, none⟩ (.int .i64 ((n : Int) - 1))).alloc (.cells #[.string s, .slice a l.length c] 29)).alloc (.cells #[.string ⟨#[]⟩, .slice none 0 0] 29)).alloc (.cells #[.string s, .slice none 0 0] 29)) = w3 at *
    generalize hOe : w.heap.size + 1 + 1 = O at *
    have hO : w.heap.size + 2 ≤ O := by omega
    clear hOe
    clear f0 ff
    have HS := hide hs
    have hl := hs.1
    have HXF := hide hXF
    have hz : sizeL [(⟨s, l⟩ : Tm)] = 1 + sizeL l := by simp [sizeL]
    clear hs hXF
    go_loopw [23] (fun i wr => KnInv w F O s sv l n i wr) (fun i wr => l.length - (intOf i).toNat)
    case atStart =>
      refine ⟨0, .slice none 0 0, Nat.zero_le _, rfl, ?_⟩
      by_cases hn0 : n = 0
      · subst hn0
        exact Or.inr ⟨by omega, E3.out, none, 0, 0, rfl⟩
      · refine Or.inl ⟨n - 1, [], by simp [sizeL]; omega, ?_, Row.start _ _ _ _⟩
        rw [show ((n - 1 : Nat) : Int) = (n : Int) - 1 by omega]
        exact E3.out
    case round =>
      obtain ⟨k, u, hk, rfl, hcase⟩ := hrel
      rcases hcase with ⟨m, xs, hm, hset, hrow⟩ | ⟨hbig, hset, a9, l9, c9, rfl⟩
      · have XS := hide hset
        have XW := hide hrow
        have HMM := hide hm
        clear hset hrow
        by_cases hlt : k < l.length
        · obtain ⟨b, o, a', c', rfl, d0, d1, hx⟩ := (HS.out.ex XS.out.1 HXF.out).get (Below.refl _ _) (fun _ _ h => h) k hlt
          obtain ⟨av, cv, ev, hsx⟩ := hx
          simp at ev
          obtain ⟨rfl, rfl⟩ := ev
          have hmn : m ≤ 1000000 := by omega
          have HOF : Hid (O ≠ F) := by unfold Hid; omega
          have HFO1 : Hid (F < O + 1) := by unfold Hid; omega
          have hlen := sizeL_len l
          have hsk : (l.take k).length = k := by simp; omega
          have hkn : k ≤ 1000000 := by have h1 := sizeL_len (l.take k); rw [hsk] at h1; omega
          have HL1 : Hid ((l.take k).length + 1 ≤ maxLen ∧ ((l.take k).length + 1) * 40 ≤ 140737488355328) := by unfold Hid; rw [hsk]; exact ⟨by unfold maxLen; omega, by omega⟩
          clear hsk
          have IHQ : Hid (Calls Try.prog 128 #[.pointer (some ⟨F, 0, none⟩), .agg #[.string l[k].name, .slice a' l[k].args.length c']] (wr.alloc (.cells #[.string l[k].name, .slice a' l[k].args.length c'] 29)).drew fun e w'' => CpPost (wr.alloc (.cells #[.string l[k].name, .slice a' l[k].args.length c'] 29)).drew F sv l[k] m e w'') := fcopy_of F sv l[k] m a' c' _ (by have := XS.out.1.size; simp; omega) (IH.out l[k] (List.getElem_mem hlt) m _ _ X ⟨a', c', rfl, ((hsx.later ((Below.refl _ _).alloc (Nat.le_refl _) (.cells #[.string l[k].name, .slice a' l[k].args.length c'] 29))).later ((Below.refl _ _).drew)).later (((Below.refl _ _).alloc (Nat.le_refl _) _).alloc (by simp) _)⟩ HXF.out hmn (by exact ((((XS.out.2.2.2.1.alloc _).drewN 1).alloc _).alloc _)))
          have f0 : ∀ o, (wr.alloc o).cell? ⟨F, 0, none⟩ = some (.int .i64 (m : Int)) := fun o => (XS.out.2.2.2.1.alloc o).cell 0
          have o1 : ∀ o, (wr.alloc o).cell? ⟨O, 1, none⟩ = some u := fun o => (XS.out.2.2.1.alloc o).cell 1
          have hm0 : ¬ (m : Int) < 0 := by omega
          by_cases hle : sizeL [l[k]] ≤ m
          · have IHG : Hid (Calls Try.prog 128 #[.pointer (some ⟨F, 0, none⟩), .agg #[.string l[k].name, .slice a' l[k].args.length c']] (wr.alloc (.cells #[.string l[k].name, .slice a' l[k].args.length c'] 29)).drew fun e w'' => ∃ a1 c1, e = .returned (.agg #[.string l[k].name, .slice a1 l[k].args.length c1]) ∧ Blk w'' F #[.int .i64 ((m : Int) - sizeL [l[k]]), sv] 140 ∧ Ex F wr w'' ∧ Sl w'' (fun b => wr.heap.size ≤ b) a1 l[k].args) := IHQ.out.mono fun e w'' hp => by
              obtain ⟨s1, a1, l1, c1, m1, h1, h2, h3, h4, _⟩ := hp
              obtain ⟨rfl, rfl, rfl, h5⟩ := h4 hle
              exact ⟨a1, c1, h1, h2, (((Ex.refl F wr).alloc _).drew).trans h3, h5.mono fun b hb _ => by simp at hb; omega⟩
            clear IHQ
            go_wp2_with fail
            go_region_law (first
              | (go_simp; go_at_call 128; refine IHG.out.mono ?_; rintro e w1 ⟨a1, c1, rfl, hF1, he1, hs1⟩; have hc3 : ∀ o, (w1.alloc o).cell? ⟨O, 1, none⟩ = some u := fun o => ((Blk.ex XS.out.2.2.1 he1 HOF.out).alloc o).cell 1; have hc4 : w1.cell? ⟨O, 1, none⟩ = some u := (Blk.ex XS.out.2.2.1 he1 HOF.out).cell 1)
              | (refine step_append_lies _ rfl _ _ 27 rfl (O + 1) 29 i0 _ 2 40 Try.underlying27 hi0 hz0 hz1 hz2 rfl (by decide) u (l.take k).length xs rfl (by exact (Row.ex (B := F) XW.out he1 HFO1.out (fun h => h)).own.alloc _) ⟨w1.heap.size, 0, none⟩ 1 1 [.string l[k].name, .slice a1 l[k].args.length c1] rfl rfl (cell_two_new _ _ _ _) (fun x hx => by simp at hx; rcases hx with rfl | rfl <;> rfl) (by decide) HL1.out.1 HL1.out.2 (by have := he1.size; have := XS.out.2.2.2.2; simp; omega) _ rfl ?_; intro g cap w3 hown3 hgrow3 hat3 hlt3; have hB3 := hide (((Blk.ex XS.out.2.2.1 he1 HOF.out).alloc _).grown hgrow3 (XW.out.ne (Nat.lt_succ_self _))); have hc5 : w3.cell? ⟨O, 1, none⟩ = some u := hB3.out.cell 1; have hf5 := hB3.out.frozen 1))
            all_goals
              have HK := hide (kn_set (v := .slice (some ⟨g, 0, none⟩) ((l.take k).length + 1) cap) hFl hO XS.out (fun j hj => (XW.out.own.lt j hj).1) he1 hF1 hgrow3)
              have HRW := hide (kn_row (by omega) XS.out.2.2.2.2 XW.out he1 ⟨a1, c1, rfl, hs1⟩ hown3 hgrow3 hat3)
              clear hown3 hgrow3 hat3 hc3 hc4 hc5 hf5 hB3 hF1 he1 hs1 hlt3
              go_wp2_with fail
              go_roundw
              case rel =>
                have hkl : (l.take k).length = k := by simp; omega
                have h1 := HK.out
                have h2 := HRW.out
                have hmm := HMM.out
                simp only [hkl] at h1 h2
                refine ⟨k + 1, .slice (some ⟨g, 0, none⟩) (k + 1) cap, by omega, by go_num, Or.inl ⟨m - sizeL [l[k]], xs ++ [.string l[k].name, .slice a1 l[k].args.length c1], by rw [sizeL_take l k hlt]; omega, ?_, ?_⟩⟩
                · rw [show ((m - sizeL [l[k]] : Nat) : Int) = (m : Int) - sizeL [l[k]] by omega]
                  exact h1
                · rw [List.take_succ_eq_append_getElem hlt]
                  exact h2
              case measure => simp [intOf]; omega
          · have IHG : Hid (Calls Try.prog 128 #[.pointer (some ⟨F, 0, none⟩), .agg #[.string l[k].name, .slice a' l[k].args.length c']] (wr.alloc (.cells #[.string l[k].name, .slice a' l[k].args.length c'] 29)).drew fun e w'' => ∃ s1 a1 l1 c1, e = .returned (.agg #[.string s1, .slice a1 l1 c1]) ∧ Blk w'' F #[.int .i64 (-1), sv] 140 ∧ Ex F wr w'') := IHQ.out.mono fun e w'' hp => by
              obtain ⟨s1, a1, l1, c1, m1, h1, h2, h3, _, h4⟩ := hp
              obtain rfl := h4 (by omega)
              exact ⟨s1, a1, l1, c1, h1, h2, (((Ex.refl F wr).alloc _).drew).trans h3⟩
            clear IHQ
            go_wp2_with fail
            go_region_law (first
              | (go_simp; go_at_call 128; refine IHG.out.mono ?_; rintro e w1 ⟨s1, a1, l1, c1, rfl, hF1, he1⟩; have hc3 : ∀ o, (w1.alloc o).cell? ⟨O, 1, none⟩ = some u := fun o => ((Blk.ex XS.out.2.2.1 he1 HOF.out).alloc o).cell 1; have hc4 : w1.cell? ⟨O, 1, none⟩ = some u := (Blk.ex XS.out.2.2.1 he1 HOF.out).cell 1)
              | (refine step_append_lies _ rfl _ _ 27 rfl (O + 1) 29 i0 _ 2 40 Try.underlying27 hi0 hz0 hz1 hz2 rfl (by decide) u (l.take k).length xs rfl (by exact (Row.ex (B := F) XW.out he1 HFO1.out (fun h => h)).own.alloc _) ⟨w1.heap.size, 0, none⟩ 1 1 [.string s1, .slice a1 l1 c1] rfl rfl (cell_two_new _ _ _ _) (fun x hx => by simp at hx; rcases hx with rfl | rfl <;> rfl) (by decide) HL1.out.1 HL1.out.2 (by have := he1.size; have := XS.out.2.2.2.2; simp; omega) _ rfl ?_; intro g cap w3 hown3 hgrow3 hat3 hlt3; have hB3 := hide (((Blk.ex XS.out.2.2.1 he1 HOF.out).alloc _).grown hgrow3 (XW.out.ne (Nat.lt_succ_self _))); have hc5 : w3.cell? ⟨O, 1, none⟩ = some u := hB3.out.cell 1; have hf5 := hB3.out.frozen 1))
            all_goals
              have HK := hide (kn_set (v := .slice (some ⟨g, 0, none⟩) ((l.take k).length + 1) cap) hFl hO XS.out (fun j hj => (XW.out.own.lt j hj).1) he1 hF1 hgrow3)
              clear hown3 hgrow3 hat3 hc3 hc4 hc5 hf5 hB3 hF1 he1 hlt3
              go_wp2_with fail
              go_roundw
              case rel =>
                have hkl : (l.take k).length = k := by simp; omega
                have h0 := HK.out
                have hmm := HMM.out
                simp only [hkl] at h0
                refine ⟨k + 1, .slice (some ⟨g, 0, none⟩) (k + 1) cap, by omega, by go_num, Or.inr ⟨?_, h0, _, _, _, rfl⟩⟩
                have h1 := sizeL_take l k hlt
                have h2 := sizeL_take_le l (k + 1)
                omega
              case measure => simp [intOf]; omega
        · have htk : l.take k = l := List.take_of_length_le (by omega)
          rw [htk] at XW HMM
          obtain ⟨a9, c9, hu9, hsl9⟩ := XW.out.sl
          subst hu9
          have S9 := hide hsl9
          clear hsl9
          have r0 : wr.cell? ⟨w.heap.size + 1, 0, none⟩ = some (.string ⟨#[]⟩) := XS.out.2.1.cell 0
          have r1 : wr.cell? ⟨w.heap.size + 1, 1, none⟩ = some (.slice none 0 0) := XS.out.2.1.cell 1
          have rf := XS.out.2.1.frozen
          have o0 : wr.cell? ⟨O, 0, none⟩ = some (.string s) := XS.out.2.2.1.cell 0
          have o1 : wr.cell? ⟨O, 1, none⟩ = some (.slice a9 l.length c9) := XS.out.2.2.1.cell 1
          go_wp2_with fail
          refine bodyPost_ret (v := .agg #[.string s, .slice a9 l.length c9]) (by simp [results, Try.results127, go_sem, World.cell?_setCell_same, World.cell?_setCell_other, r0, r1]) rfl ?_
          have hmm := HMM.out
          refine ⟨s, a9, l.length, c9, m, rfl, (XS.out.2.2.2.1.setOther _ _ (by omega)).setOther _ _ (by omega), (XS.out.1.setNew (by omega) _ _).setNew (by omega) _ _, fun h => ⟨by rw [hz]; omega, rfl, rfl, (S9.out.kept fun b hb => ?_).mono fun b hb _ => ?_⟩, fun h => by omega⟩
          · have hb' : O + 1 ≤ b := hb.elim False.elim id
            rw [Below.heap_setCell _ _ _ _ (by simp; omega), Below.heap_setCell _ _ _ _ (by simp; omega)]
          · have hb' : O + 1 ≤ b := hb.elim False.elim id
            omega
      · have XS := hide hset
        clear hset
        have f0 : ∀ o, (wr.alloc o).cell? ⟨F, 0, none⟩ = some (.int .i64 (-1)) := fun o => (XS.out.2.2.2.1.alloc o).cell 0
        by_cases hlt : k < l.length
        · obtain ⟨b, o, a', c', rfl, d0, d1, hx⟩ := (HS.out.ex XS.out.1 HXF.out).get (Below.refl _ _) (fun _ _ h => h) k hlt
          clear hx
          have o0 : ∀ o, (wr.alloc o).cell? ⟨O, 0, none⟩ = some (.string s) := fun o => (XS.out.2.2.1.alloc o).cell 0
          have o1 : ∀ o, (wr.alloc o).cell? ⟨O, 1, none⟩ = some (.slice a9 l9 c9) := fun o => (XS.out.2.2.1.alloc o).cell 1
          have r0 : wr.cell? ⟨w.heap.size + 1, 0, none⟩ = some (.string ⟨#[]⟩) := XS.out.2.1.cell 0
          have r1 : wr.cell? ⟨w.heap.size + 1, 1, none⟩ = some (.slice none 0 0) := XS.out.2.1.cell 1
          have rf := XS.out.2.1.frozen
          have hRl : w.heap.size + 1 < wr.heap.size := XS.out.2.1.lt
          go_wp2_with fail
          refine bodyPost_ret (v := .agg #[.string s, .slice a9 l9 c9]) (by simp [results, Try.results127, go_sem, World.cell?_setCell_same, World.cell?_setCell_other, r0, r1, hRl, World.cell?_alloc_old]) rfl ?_
          exact ⟨s, a9, l9, c9, -1, rfl, ((XS.out.2.2.2.1.setOther _ _ (by omega)).setOther _ _ (by omega)).alloc _, ((XS.out.1.setNew (by omega) _ _).setNew (by omega) _ _).alloc _, fun h => by omega, fun _ => rfl⟩
        · have r0 : wr.cell? ⟨w.heap.size + 1, 0, none⟩ = some (.string ⟨#[]⟩) := XS.out.2.1.cell 0
          have r1 : wr.cell? ⟨w.heap.size + 1, 1, none⟩ = some (.slice none 0 0) := XS.out.2.1.cell 1
          have rf := XS.out.2.1.frozen
          have o0 : wr.cell? ⟨O, 0, none⟩ = some (.string s) := XS.out.2.2.1.cell 0
          have o1 : wr.cell? ⟨O, 1, none⟩ = some (.slice a9 l9 c9) := XS.out.2.2.1.cell 1
          go_wp2_with fail
          refine bodyPost_ret (v := .agg #[.string s, .slice a9 l9 c9]) (by simp [results, Try.results127, go_sem, World.cell?_setCell_same, World.cell?_setCell_other, r0, r1]) rfl ?_
          exact ⟨s, a9, l9, c9, -1, rfl, (XS.out.2.2.2.1.setOther _ _ (by omega)).setOther _ _ (by omega), (XS.out.1.setNew (by omega) _ _).setNew (by omega) _ _, fun h => by omega, fun _ => rfl⟩
#print axioms knotC_any
end Go.Proofs.Ytpjdkdebjkpmmab

/- Walks: bindings looked for by a closure. -/
namespace Go.Proofs.Ytpjdkdebjkpmmab
open Go.RowKit
set_option linter.unusedSimpArgs false
set_option linter.unusedVariables false
set_option maxRecDepth 8000

theorem look_any (r : Nat) (w : World) :
    Calls Try.prog 63 #[.map (some r)] w fun e w' => e = .returned (.func (.func 90) #[] #[.pointer (some ⟨w.heap.size, 0, none⟩)]) ∧ w' = w.alloc (.cells #[.map (some r)] 73) := by
  have hmf : ∀ (fn : Fn) (first cap : Array Value) (w : World), (Instr.makeFunc fn first cap).run Try.prog w = .ok (.func fn first cap) w := fun _ _ _ _ => rfl
  go_enter Try.func63, Try.ntmps63
  go_wp2_with fail
  go_ret
  exact ⟨rfl, rfl⟩

set_option maxHeartbeats 1000000 in
theorem look1_any (ls : List Bd) (n : ByteArray) (B r : Nat) (L : List (ByteArray × Value)) (w : World) (X : Nat → Prop) (hB : Blk w B #[.map (some r)] 73) (hM : MapAt w r L) (hP : PairsL w X ls L) :
    Calls Try.prog 90 #[.string n, .pointer (some ⟨B, 0, none⟩)] w fun e w' => Below w.heap.size w w' ∧ ((∃ t a c, forT ls n = some t ∧ e = .returned (.tuple #[.agg #[.string t.name, .slice a t.args.length c], .bool true]) ∧ Sl w X a t.args) ∨ (forT ls n = none ∧ e = .returned (.tuple #[.agg #[.string ⟨#[]⟩, .slice none 0 0], .bool false]))) := by
  have c0 : ∀ o, (w.alloc o).cell? ⟨B, 0, none⟩ = some (.map (some r)) := fun o => (hB.alloc o).cell 0
  have hlt : B < w.heap.size := hB.lt
  have hz : ∀ w', (zeroValue 29).run Try.prog w' = .ok (.agg #[.string ⟨#[]⟩, .slice none 0 0]) w' := fun w' => Try.zeroValue29 w'
  have hM' := fun o : Obj => hM.kept (Below.heap_alloc w o _ hM.lt)
  cases hf : forT ls n with
  | none =>
    have hg := (hP.get n).1 hf
    have hlook : ∀ o, (Instr.lookup 73 (.map (some r)) (.string n) true).run Try.prog (w.alloc o) = .ok (.tuple #[.agg #[.string ⟨#[]⟩, .slice none 0 0], .bool false]) (w.alloc o) := fun o => by
      rw [run_look (P := Try.prog) Try.underlying73 Try.underlying9 (hz _) (hM' o) n, hg]; rfl
    have HF := hide hf
    clear hf hg hM' hP hM hB
    go_enter Try.func90, Try.ntmps90
    go_wp2_with fail
    have q0 := ((Blk.new w #[.string ⟨#[]⟩, .slice none 0 0] 29).alloc (.cells #[.string ⟨#[]⟩, .slice none 0 0] 29)).cell 0
    have q1 := ((Blk.new w #[.string ⟨#[]⟩, .slice none 0 0] 29).alloc (.cells #[.string ⟨#[]⟩, .slice none 0 0] 29)).cell 1
    simp at q0 q1
    refine bodyPost_ret (v := .tuple #[.agg #[.string ⟨#[]⟩, .slice none 0 0], .bool false]) (by simp [results, Try.results90, go_sem, q0, q1]) rfl ?_
    exact ⟨((Below.refl _ _).alloc (Nat.le_refl _) _).alloc (by simp) _, Or.inr ⟨by trivial, rfl⟩⟩
  | some t =>
    obtain ⟨a, c, hg, hs⟩ := (hP.get n).2 t hf
    have hlook : ∀ o, (Instr.lookup 73 (.map (some r)) (.string n) true).run Try.prog (w.alloc o) = .ok (.tuple #[.agg #[.string t.name, .slice a t.args.length c], .bool true]) (w.alloc o) := fun o => by
      rw [run_look (P := Try.prog) Try.underlying73 Try.underlying9 (hz _) (hM' o) n, hg]; rfl
    have HF := hide hf
    have HS := hide hs
    clear hf hg hs hM' hP hM hB
    go_enter Try.func90, Try.ntmps90
    go_wp2_with fail
    have q0 := ((Blk.new w #[.string t.name, .slice a t.args.length c] 29).alloc (.cells #[.string t.name, .slice a t.args.length c] 29)).cell 0
    have q1 := ((Blk.new w #[.string t.name, .slice a t.args.length c] 29).alloc (.cells #[.string t.name, .slice a t.args.length c] 29)).cell 1
    simp at q0 q1
    refine bodyPost_ret (v := .tuple #[.agg #[.string t.name, .slice a t.args.length c], .bool true]) (by simp [results, Try.results90, go_sem, q0, q1]) rfl ?_
    exact ⟨((Below.refl _ _).alloc (Nat.le_refl _) _).alloc (by simp) _, Or.inl ⟨t, a, c, rfl, rfl, HS.out⟩⟩
#print axioms look1_any
end Go.Proofs.Ytpjdkdebjkpmmab

/- Walks: a term is filled. -/
namespace Go.Proofs.Ytpjdkdebjkpmmab
open Go.RowKit
set_option linter.unusedSimpArgs false
set_option linter.unusedVariables false
set_option maxRecDepth 8000

def fN (ls : List Bd) (s : ByteArray) (bs : List Tm) : Tm := if varB s = true then (match forT ls s with | some x => x | none => ⟨s, bs⟩) else ⟨s, bs⟩
def fL (ls : List Bd) : List Tm → List Tm
  | [] => []
  | ⟨s, a⟩ :: r => fN ls s (fL ls a) :: fL ls r
def fT (ls : List Bd) (t : Tm) : Tm := fN ls t.name (fL ls t.args)

/-- What is looked at while a term is filled. -/
def Env (w : World) (B r : Nat) (X : Nat → Prop) (ls : List Bd) (L : List (ByteArray × Value)) : Prop := Blk w B #[.map (some r)] 73 ∧ MapAt w r L ∧ PairsL w X ls L
theorem Env.ex {w w' : World} {B r F : Nat} {X : Nat → Prop} {ls : List Bd} {L : List (ByteArray × Value)} (h : Env w B r X ls L) (he : Ex F w w') (hB : B ≠ F) (hr : r ≠ F) (hX : ∀ b, X b → b ≠ F) : Env w' B r X ls L :=
  ⟨h.1.ex he hB, h.2.1.kept (he.block r h.2.1.lt hr), h.2.2.imp fun a l hs => hs.ex he hX⟩
theorem Env.later {w w' : World} {B r : Nat} {X : Nat → Prop} {ls : List Bd} {L : List (ByteArray × Value)} (h : Env w B r X ls L) (hb : Below w.heap.size w w') : Env w' B r X ls L :=
  ⟨h.1.below hb h.1.lt, h.2.1.below hb h.2.1.lt, h.2.2.imp fun a l hs => hs.later hb⟩

theorem way1 {w0 w1 : World} (h : Below w0.drew.heap.size w0.drew w1) : Below w0.heap.size w0 w1 := ((Below.refl w0.heap.size w0).drew).trans h
theorem way2 {w0 w1 : World} {o : Obj} (h : Below (w0.alloc o).drew.heap.size (w0.alloc o).drew w1) : Below w0.heap.size w0 w1 := (((Below.refl w0.heap.size w0).alloc (Nat.le_refl _) o).drew).trans (h.mono (by simp))
theorem way2b {w0 w1 : World} {cs : Array Value} {T : Nat} (h : Below (w0.alloc (.cells cs T)).drew.heap.size (w0.alloc (.cells cs T)).drew w1) : Blk w1 w0.heap.size cs T := ((Blk.new w0 cs T).drewN 1).below h (by simp)

theorem ff_end {w W w9 : World} {F : Nat} {sv : Value} {t : Tm} {n : Nat} {s' : ByteArray} {a' : Option Addr} {l' c' : Nat} {m : Int} {v0 v1 : Value} (hF : F < w.heap.size) (hW : w.heap.size + 2 ≤ W.heap.size) (h1 : Blk w9 F #[.int .i64 m, sv] 140) (hx : Ex F w w9) (hy : sizeL [t] ≤ n → m = (n : Int) - sizeL [t] ∧ s' = t.name ∧ l' = t.args.length ∧ Sl w9 (fun b => W.heap.size ≤ b) a' t.args) (hn : n < sizeL [t] → m = -1) :
    CpPost w F sv t n (.returned (.agg #[.string s', .slice a' l' c'])) ((w9.setCell ⟨w.heap.size + 1, 0, none⟩ v0).setCell ⟨w.heap.size + 1, 1, none⟩ v1) := by
  refine ⟨s', a', l', c', m, rfl, (h1.setOther _ _ (by omega)).setOther _ _ (by omega), (hx.setNew (by omega) _ _).setNew (by omega) _ _, fun h => ?_, hn⟩
  obtain ⟨e1, e2, e3, e4⟩ := hy h
  refine ⟨e1, e2, e3, (e4.kept fun b hb => ?_).mono fun b hb _ => by omega⟩
  rw [Below.heap_setCell _ _ _ _ (by simp; omega), Below.heap_setCell _ _ _ _ (by simp; omega)]

theorem Ex.ofBelow {B : Nat} {w w' : World} (h : Below w.heap.size w w') : Ex B w w' := ⟨h.os, h.tape, h.output, h.size, fun k hk _ => h.block k hk⟩
theorem two_keep {w : World} {F T b : Nat} {u v x : Value} {i j k : Nat} (h : w.cell? ⟨F, i, none⟩ = some u ∧ w.cell? ⟨T, j, none⟩ = some v) (h1 : b ≠ F) (h2 : b ≠ T) : (w.setCell ⟨b, k, none⟩ x).cell? ⟨F, i, none⟩ = some u ∧ (w.setCell ⟨b, k, none⟩ x).cell? ⟨T, j, none⟩ = some v :=
  ⟨(World.cell?_setCell_other _ _ _ _ (fun e => h1 (by injection e))).trans h.1, (World.cell?_setCell_other _ _ _ _ (fun e => h2 (by injection e))).trans h.2⟩

set_option maxHeartbeats 1000000 in
theorem ffill_of (F B r : Nat) (ls : List Bd) (L : List (ByteArray × Value)) (t : Tm) (n : Nat) (a : Option Addr) (c : Nat) (w : World) (X : Nat → Prop) (hn : n ≤ 1000000) (hXF : ∀ b, X b → b ≠ F) (hBF : B ≠ F) (hrF : r ≠ F) (hs : Sl w X a t.args) (hF : Blk w F #[.int .i64 (n : Int), .func (.func 90) #[] #[.pointer (some ⟨B, 0, none⟩)]] 140) (hE : Env w B r X ls L)
    (h : ∀ w', Sl w' X a t.args → Blk w' F #[.int .i64 (n : Int), .func (.func 90) #[] #[.pointer (some ⟨B, 0, none⟩)]] 140 → Env w' B r X ls L → Calls Try.prog 127 #[.pointer (some ⟨F, 0, none⟩), .agg #[.string t.name, .slice a t.args.length c], .func (.func 110) #[.pointer (some ⟨F, 0, none⟩)] #[]] w' fun e w'' => CpPost w' F (.func (.func 90) #[] #[.pointer (some ⟨B, 0, none⟩)]) ⟨t.name, fL ls t.args⟩ n e w'') :
    Calls Try.prog 110 #[.pointer (some ⟨F, 0, none⟩), .agg #[.string t.name, .slice a t.args.length c]] w fun e w' => CpPost w F (.func (.func 90) #[] #[.pointer (some ⟨B, 0, none⟩)]) (fT ls t) n e w' := by
  have hmf : ∀ (fn : Fn) (first cap : Array Value) (w : World), (Instr.makeFunc fn first cap).run Try.prog w = .ok (.func fn first cap) w := fun _ _ _ _ => rfl
  have H := hide h
  have HS := hide hs
  have HF := hide hF
  have HE := hide hE
  have hFl : F < w.heap.size := hF.lt
  clear h hs hF hE
  have HB0 := hide (((Below.refl w.heap.size w).alloc (Nat.le_refl _) (.cells #[.string t.name, .slice a t.args.length c] 29)).alloc (by simp) (.cells #[.string ⟨#[]⟩, .slice none 0 0] 29))
  have f1 : ∀ o o', ((w.alloc o).alloc o').cell? ⟨F, 1, none⟩ = some (.func (.func 90) #[] #[.pointer (some ⟨B, 0, none⟩)]) := fun o o' => ((HF.out.alloc o).alloc o').cell 1
  cases hv : varB t.name with
  | false =>
    have HV := hide hv
    have HT : Hid (fT ls t = ⟨t.name, fL ls t.args⟩) := by unfold Hid fT fN; rw [hv]; rfl
    clear hv
    go_enter Try.func110, Try.ntmps110
    go_wp2_with (go_at_call 68; refine (isVariable_all _ _).mono ?_; rintro e w' ⟨rfl, rfl⟩; rw [HV.out])
    have RW : Hid (Blk ((w.alloc (.cells #[.string t.name, .slice a t.args.length c] 29)).alloc (.cells #[.string ⟨#[]⟩, .slice none 0 0] 29)) (w.heap.size + 1) #[.string ⟨#[]⟩, .slice none 0 0] 29) := by
      have h := Blk.new (w.alloc (.cells #[.string t.name, .slice a t.args.length c] 29)) #[.string ⟨#[]⟩, .slice none 0 0] 29
      unfold Hid
      simpa using h
    have EXW := hide (((Ex.refl F w).alloc (.cells #[.string t.name, .slice a t.args.length c] 29)).alloc (.cells #[.string ⟨#[]⟩, .slice none 0 0] 29))
    have hW2 : Hid (w.heap.size + 2 ≤ ((w.alloc (.cells #[.string t.name, .slice a t.args.length c] 29)).alloc (.cells #[.string ⟨#[]⟩, .slice none 0 0] 29)).heap.size) := by unfold Hid; simp
    refine (H.out _ (HS.out.later HB0.out) (by exact (HF.out.alloc _).alloc _) (HE.out.later HB0.out)).mono ?_
    rintro e w9 ⟨s', a', l', c', m, rfl, hF1, hx1, hy1, hn1⟩
    have R9 := hide (RW.out.ex hx1 (by omega))
    have HX9 := hide (EXW.out.trans hx1)
    have HF9 := hide hF1
    have HY := hide hy1
    have HN := hide hn1
    have HSZ := hide (EXW.out.size)
    clear hF1 hx1 hy1 hn1
    have r0 : w9.cell? ⟨w.heap.size + 1, 0, none⟩ = some (.string ⟨#[]⟩) := R9.out.cell 0
    have r1 : w9.cell? ⟨w.heap.size + 1, 1, none⟩ = some (.slice none 0 0) := R9.out.cell 1
    have rf := R9.out.frozen
    go_wp2_with fail
    refine bodyPost_ret (v := .agg #[.string s', .slice a' l' c']) (by simp [results, Try.results110, go_sem, World.cell?_setCell_same, World.cell?_setCell_other, r0, r1]) rfl ?_
    rw [HT.out]
    exact ff_end (by omega) hW2.out HF9.out HX9.out HY.out HN.out
  | true =>
    have HV := hide hv
    clear hv
    have RW : Hid (Blk ((w.alloc (.cells #[.string t.name, .slice a t.args.length c] 29)).alloc (.cells #[.string ⟨#[]⟩, .slice none 0 0] 29)) (w.heap.size + 1) #[.string ⟨#[]⟩, .slice none 0 0] 29) := by
      have h := Blk.new (w.alloc (.cells #[.string t.name, .slice a t.args.length c] 29)) #[.string ⟨#[]⟩, .slice none 0 0] 29
      unfold Hid
      simpa using h
    have EXW := hide (((Ex.refl F w).alloc (.cells #[.string t.name, .slice a t.args.length c] 29)).alloc (.cells #[.string ⟨#[]⟩, .slice none 0 0] 29))
    have hW2 : Hid (w.heap.size + 2 ≤ ((w.alloc (.cells #[.string t.name, .slice a t.args.length c] 29)).alloc (.cells #[.string ⟨#[]⟩, .slice none 0 0] 29)).heap.size) := by unfold Hid; simp
    have E0 := hide (HE.out.later HB0.out)
    have F0 := hide ((HF.out.alloc (.cells #[.string t.name, .slice a t.args.length c] 29)).alloc (.cells #[.string ⟨#[]⟩, .slice none 0 0] 29))
    have S0 := hide (HS.out.later HB0.out)
    have T0 := hide ((Blk.new w #[.string t.name, .slice a t.args.length c] 29).alloc (.cells #[.string ⟨#[]⟩, .slice none 0 0] 29))
    have g1 := F0.out.cell 1
    have g0 := T0.out.cell 0
    simp only [List.getElem?_toArray, List.getElem?_cons_succ, List.getElem?_cons_zero] at g1 g0
    cases hf : forT ls t.name with
    | some x =>
      have HT : Hid (fT ls t = x) := by unfold Hid fT fN; rw [HV.out, hf]; rfl
      have LKA : Hid (∀ w', Below ((w.alloc (.cells #[.string t.name, .slice a t.args.length c] 29)).alloc (.cells #[.string ⟨#[]⟩, .slice none 0 0] 29)).heap.size ((w.alloc (.cells #[.string t.name, .slice a t.args.length c] 29)).alloc (.cells #[.string ⟨#[]⟩, .slice none 0 0] 29)) w' → Calls Try.prog 90 #[.string t.name, .pointer (some ⟨B, 0, none⟩)] w' fun e w'' => ∃ ax cx, e = .returned (.tuple #[.agg #[.string x.name, .slice ax x.args.length cx], .bool true]) ∧ Below w'.heap.size w' w'' ∧ Sl w'' (fun b => X b ∧ b < w.heap.size) ax x.args) := fun w' hb => by
        have E1 : Env w B r (fun b => X b ∧ b < w.heap.size) ls L := ⟨HE.out.1, HE.out.2.1, HE.out.2.2.imp fun a l hs => hs.mono fun b h1 h2 => ⟨h1, h2⟩⟩
        obtain ⟨h1, h2, h3⟩ := (E1.later HB0.out).later hb
        refine (look1_any ls t.name B r L w' _ h1 h2 h3).mono fun e w'' hp => ?_
        obtain ⟨hb2, hc⟩ := hp
        rcases hc with ⟨y, ay, cy, hy, he, hsy⟩ | ⟨hy, _⟩
        · rw [hf] at hy; cases hy; exact ⟨ay, cy, he, hb2, hsy.later hb2⟩
        · rw [hf] at hy; cases hy
      have HKP : Hid (∀ w', Below ((w.alloc (.cells #[.string t.name, .slice a t.args.length c] 29)).alloc (.cells #[.string ⟨#[]⟩, .slice none 0 0] 29)).heap.size ((w.alloc (.cells #[.string t.name, .slice a t.args.length c] 29)).alloc (.cells #[.string ⟨#[]⟩, .slice none 0 0] 29)) w' → w'.cell? ⟨F, 1, none⟩ = some (.func (.func 90) #[] #[.pointer (some ⟨B, 0, none⟩)]) ∧ w'.cell? ⟨w.heap.size, 0, none⟩ = some (.string t.name)) := fun w' hb => ⟨(F0.out.below hb F0.out.lt).cell 1, (T0.out.below hb T0.out.lt).cell 0⟩
      have nF : ((w.alloc (.cells #[.string t.name, .slice a t.args.length c] 29)).alloc (.cells #[.string ⟨#[]⟩, .slice none 0 0] 29)).heap.size ≠ F := by have := hW2.out; omega
      have nT : ((w.alloc (.cells #[.string t.name, .slice a t.args.length c] 29)).alloc (.cells #[.string ⟨#[]⟩, .slice none 0 0] 29)).heap.size ≠ w.heap.size := by have := hW2.out; omega
      clear hf f1
      go_enter Try.func110, Try.ntmps110
      go_wp2_with (go_at_call 68; refine (isVariable_all _ _).mono ?_; rintro e w' ⟨rfl, rfl⟩; rw [HV.out])
      generalize ((w.alloc (.cells #[.string t.name, .slice a t.args.length c] 29)).alloc (.cells #[.string ⟨#[]⟩, .slice none 0 0] 29)) = w0 at *
      go_region_held3 (fun w' => w'.cell? ⟨F, 1, none⟩ = some (.func (.func 90) #[] #[.pointer (some ⟨B, 0, none⟩)]) ∧ w'.cell? ⟨w.heap.size, 0, none⟩ = some (.string t.name)) (first | exact hS | exact ⟨g1, g0⟩ | exact two_keep hS nF nT | exact two_keep (two_keep hS nF nT) nF nT | go_keep)
        ((go_at_call 90; refine (LKA.out _ (by first | exact (Below.refl _ _).drew | exact ((Below.refl _ _).alloc (Nat.le_refl _) _).drew)).mono ?_; rintro e w1 ⟨ax, cx, rfl, hb1, hsx⟩; have HSX := hide hsx; clear hsx; (first | (have hB0 := way1 hb1; have hS := HKP.out _ hB0) | (have hB0 := way2 hb1; have xb := hide (way2b hb1); have x0 := xb.out.cell 0; have x1 := xb.out.cell 1; have xf := xb.out.frozen; have hS := HKP.out _ hB0))))
      · generalize hz : (w1.alloc (Obj.cells #[Value.string x.name, Value.slice ax x.args.length cx] 29)) = wz at *
        have hbz : Below w0.heap.size w0 wz := by rw [← hz]; exact hB0.alloc hB0.size _
        have HSZ : Hid (Sl wz (fun b => X b ∧ b < w.heap.size) ax x.args) := by rw [← hz]; exact HSX.out.later ((Below.refl _ _).alloc (Nat.le_refl _) _)
        have q0 : wz.cell? ⟨w1.heap.size, 0, none⟩ = some (.string x.name) := by rw [← hz]; exact (Blk.new w1 _ _).cell 0
        have q1 : wz.cell? ⟨w1.heap.size, 1, none⟩ = some (.slice ax x.args.length cx) := by rw [← hz]; exact (Blk.new w1 _ _).cell 1
        have hwz : Hid (w.heap.size + 2 ≤ wz.heap.size) := Nat.le_trans hW2.out hbz.size
        have HBZ := hide hbz
        clear hbz hz
        go_wp2_with fail
        refine (knotC_any F _ x n _ wz (fun b => X b ∧ b < w.heap.size) ⟨ax, cx, rfl, HSZ.out⟩ (fun b hb => hXF b hb.1) hn (F0.out.below HBZ.out F0.out.lt)).mono ?_
        rintro e w9 ⟨s', a', l', c', m, rfl, hF1, hx1, hy1, hn1⟩
        have R9 := hide ((RW.out.below HBZ.out RW.out.lt).ex hx1 (by omega))
        have HX9 := hide ((EXW.out.trans (Ex.ofBelow HBZ.out)).trans hx1)
        have HF9 := hide hF1
        have HY := hide hy1
        have HN := hide hn1
        clear hF1 hx1 hy1 hn1
        have r0 : w9.cell? ⟨w.heap.size + 1, 0, none⟩ = some (.string ⟨#[]⟩) := R9.out.cell 0
        have r1 : w9.cell? ⟨w.heap.size + 1, 1, none⟩ = some (.slice none 0 0) := R9.out.cell 1
        have rf := R9.out.frozen
        go_wp2_with fail
        refine bodyPost_ret (v := .agg #[.string s', .slice a' l' c']) (by simp [results, Try.results110, go_sem, World.cell?_setCell_same, World.cell?_setCell_other, r0, r1]) rfl ?_
        rw [HT.out]
        exact ff_end (by omega) hwz.out HF9.out HX9.out HY.out HN.out
      · generalize hz : ((w1.setCell { block := w0.heap.size, off := 0 } (Value.string x.name)).setCell { block := w0.heap.size, off := 1 } (Value.slice ax x.args.length cx)) = wz at *
        have hbz : Below w0.heap.size w0 wz := by rw [← hz]; exact (hB0.setCell (Nat.le_refl _) _).setCell (Nat.le_refl _) _
        have HSZ : Hid (Sl wz (fun b => X b ∧ b < w.heap.size) ax x.args) := by
          rw [← hz]
          refine HSX.out.kept fun b hb => ?_
          have hb2 := hb.2
          have hb3 := hW2.out
          rw [Below.heap_setCell _ _ _ _ (by simp; omega), Below.heap_setCell _ _ _ _ (by simp; omega)]
        have q0 : wz.cell? ⟨w0.heap.size, 0, none⟩ = some (.string x.name) := by rw [← hz]; simp [World.cell?_setCell_same, World.cell?_setCell_other, x0, x1]
        have q1 : wz.cell? ⟨w0.heap.size, 1, none⟩ = some (.slice ax x.args.length cx) := by rw [← hz]; simp [World.cell?_setCell_same, World.cell?_setCell_other, x0, x1]
        have hwz : Hid (w.heap.size + 2 ≤ wz.heap.size) := Nat.le_trans hW2.out hbz.size
        have HBZ := hide hbz
        clear hbz hz
        go_wp2_with fail
        refine (knotC_any F _ x n _ wz (fun b => X b ∧ b < w.heap.size) ⟨ax, cx, rfl, HSZ.out⟩ (fun b hb => hXF b hb.1) hn (F0.out.below HBZ.out F0.out.lt)).mono ?_
        rintro e w9 ⟨s', a', l', c', m, rfl, hF1, hx1, hy1, hn1⟩
        have R9 := hide ((RW.out.below HBZ.out RW.out.lt).ex hx1 (by omega))
        have HX9 := hide ((EXW.out.trans (Ex.ofBelow HBZ.out)).trans hx1)
        have HF9 := hide hF1
        have HY := hide hy1
        have HN := hide hn1
        clear hF1 hx1 hy1 hn1
        have r0 : w9.cell? ⟨w.heap.size + 1, 0, none⟩ = some (.string ⟨#[]⟩) := R9.out.cell 0
        have r1 : w9.cell? ⟨w.heap.size + 1, 1, none⟩ = some (.slice none 0 0) := R9.out.cell 1
        have rf := R9.out.frozen
        go_wp2_with fail
        refine bodyPost_ret (v := .agg #[.string s', .slice a' l' c']) (by simp [results, Try.results110, go_sem, World.cell?_setCell_same, World.cell?_setCell_other, r0, r1]) rfl ?_
        rw [HT.out]
        exact ff_end (by omega) hwz.out HF9.out HX9.out HY.out HN.out
    | none =>
      have HT : Hid (fT ls t = ⟨t.name, fL ls t.args⟩) := by unfold Hid fT fN; rw [HV.out, hf]; rfl
      have LKA : Hid (∀ w', Below ((w.alloc (.cells #[.string t.name, .slice a t.args.length c] 29)).alloc (.cells #[.string ⟨#[]⟩, .slice none 0 0] 29)).heap.size ((w.alloc (.cells #[.string t.name, .slice a t.args.length c] 29)).alloc (.cells #[.string ⟨#[]⟩, .slice none 0 0] 29)) w' → Calls Try.prog 90 #[.string t.name, .pointer (some ⟨B, 0, none⟩)] w' fun e w'' => e = .returned (.tuple #[.agg #[.string ⟨#[]⟩, .slice none 0 0], .bool false]) ∧ Below w'.heap.size w' w'') := fun w' hb => by
        obtain ⟨h1, h2, h3⟩ := E0.out.later hb
        refine (look1_any ls t.name B r L w' X h1 h2 h3).mono fun e w'' hp => ?_
        obtain ⟨hb2, hc⟩ := hp
        rcases hc with ⟨x, _, _, hx, _⟩ | ⟨_, he⟩
        · rw [hf] at hx; cases hx
        · exact ⟨he, hb2⟩
      have HKP : Hid (∀ w', Below ((w.alloc (.cells #[.string t.name, .slice a t.args.length c] 29)).alloc (.cells #[.string ⟨#[]⟩, .slice none 0 0] 29)).heap.size ((w.alloc (.cells #[.string t.name, .slice a t.args.length c] 29)).alloc (.cells #[.string ⟨#[]⟩, .slice none 0 0] 29)) w' → w'.cell? ⟨F, 1, none⟩ = some (.func (.func 90) #[] #[.pointer (some ⟨B, 0, none⟩)]) ∧ w'.cell? ⟨w.heap.size, 0, none⟩ = some (.string t.name)) := fun w' hb => ⟨(F0.out.below hb F0.out.lt).cell 1, (T0.out.below hb T0.out.lt).cell 0⟩
      have nF : ((w.alloc (.cells #[.string t.name, .slice a t.args.length c] 29)).alloc (.cells #[.string ⟨#[]⟩, .slice none 0 0] 29)).heap.size ≠ F := by have := hW2.out; omega
      have nT : ((w.alloc (.cells #[.string t.name, .slice a t.args.length c] 29)).alloc (.cells #[.string ⟨#[]⟩, .slice none 0 0] 29)).heap.size ≠ w.heap.size := by have := hW2.out; omega
      clear hf f1
      go_enter Try.func110, Try.ntmps110
      go_wp2_with (go_at_call 68; refine (isVariable_all _ _).mono ?_; rintro e w' ⟨rfl, rfl⟩; rw [HV.out])
      generalize ((w.alloc (.cells #[.string t.name, .slice a t.args.length c] 29)).alloc (.cells #[.string ⟨#[]⟩, .slice none 0 0] 29)) = w0 at *
      go_region_held3 (fun w' => w'.cell? ⟨F, 1, none⟩ = some (.func (.func 90) #[] #[.pointer (some ⟨B, 0, none⟩)]) ∧ w'.cell? ⟨w.heap.size, 0, none⟩ = some (.string t.name)) (first | exact hS | exact ⟨g1, g0⟩ | exact two_keep hS nF nT | exact two_keep (two_keep hS nF nT) nF nT | go_keep)
        ((go_at_call 90; refine (LKA.out _ (by first | exact (Below.refl _ _).drew | exact ((Below.refl _ _).alloc (Nat.le_refl _) _).drew)).mono ?_; rintro e w1 ⟨rfl, hb1⟩; (first | (have hB0 := way1 hb1; have hS := HKP.out _ hB0) | (have hB0 := way2 hb1; have xb := hide (way2b hb1); have x0 := xb.out.cell 0; have x1 := xb.out.cell 1; have xf := xb.out.frozen; have hS := HKP.out _ hB0))))
      · generalize hz : (w1.alloc (Obj.cells #[Value.string { data := #[] }, Value.slice none 0 0] 29)) = wz at *
        have hbz : Below w0.heap.size w0 wz := by rw [← hz]; exact hB0.alloc hB0.size _
        have t0 : wz.cell? ⟨w.heap.size, 0, none⟩ = some (.string t.name) := (T0.out.below hbz T0.out.lt).cell 0
        have t1 : wz.cell? ⟨w.heap.size, 1, none⟩ = some (.slice a t.args.length c) := (T0.out.below hbz T0.out.lt).cell 1
        have hwz : Hid (w.heap.size + 2 ≤ wz.heap.size) := Nat.le_trans hW2.out hbz.size
        have HBZ := hide hbz
        clear hbz
        go_wp2_with fail
        refine (H.out _ (S0.out.later HBZ.out) (F0.out.below HBZ.out F0.out.lt) (E0.out.later HBZ.out)).mono ?_
        rintro e w9 ⟨s', a', l', c', m, rfl, hF1, hx1, hy1, hn1⟩
        have R9 := hide ((RW.out.below HBZ.out RW.out.lt).ex hx1 (by omega))
        have HX9 := hide ((EXW.out.trans (Ex.ofBelow HBZ.out)).trans hx1)
        have HF9 := hide hF1
        have HY := hide hy1
        have HN := hide hn1
        clear hF1 hx1 hy1 hn1
        have r0 : w9.cell? ⟨w.heap.size + 1, 0, none⟩ = some (.string ⟨#[]⟩) := R9.out.cell 0
        have r1 : w9.cell? ⟨w.heap.size + 1, 1, none⟩ = some (.slice none 0 0) := R9.out.cell 1
        have rf := R9.out.frozen
        go_wp2_with fail
        refine bodyPost_ret (v := .agg #[.string s', .slice a' l' c']) (by simp [results, Try.results110, go_sem, World.cell?_setCell_same, World.cell?_setCell_other, r0, r1]) rfl ?_
        rw [HT.out]
        exact ff_end (by omega) hwz.out HF9.out HX9.out HY.out HN.out
      · generalize hz : ((w1.setCell { block := w0.heap.size, off := 0 } (Value.string { data := #[] })).setCell { block := w0.heap.size, off := 1 } (Value.slice none 0 0)) = wz at *
        have hbz : Below w0.heap.size w0 wz := by rw [← hz]; exact (hB0.setCell (Nat.le_refl _) _).setCell (Nat.le_refl _) _
        have t0 : wz.cell? ⟨w.heap.size, 0, none⟩ = some (.string t.name) := (T0.out.below hbz T0.out.lt).cell 0
        have t1 : wz.cell? ⟨w.heap.size, 1, none⟩ = some (.slice a t.args.length c) := (T0.out.below hbz T0.out.lt).cell 1
        have hwz : Hid (w.heap.size + 2 ≤ wz.heap.size) := Nat.le_trans hW2.out hbz.size
        have HBZ := hide hbz
        clear hbz
        go_wp2_with fail
        refine (H.out _ (S0.out.later HBZ.out) (F0.out.below HBZ.out F0.out.lt) (E0.out.later HBZ.out)).mono ?_
        rintro e w9 ⟨s', a', l', c', m, rfl, hF1, hx1, hy1, hn1⟩
        have R9 := hide ((RW.out.below HBZ.out RW.out.lt).ex hx1 (by omega))
        have HX9 := hide ((EXW.out.trans (Ex.ofBelow HBZ.out)).trans hx1)
        have HF9 := hide hF1
        have HY := hide hy1
        have HN := hide hn1
        clear hF1 hx1 hy1 hn1
        have r0 : w9.cell? ⟨w.heap.size + 1, 0, none⟩ = some (.string ⟨#[]⟩) := R9.out.cell 0
        have r1 : w9.cell? ⟨w.heap.size + 1, 1, none⟩ = some (.slice none 0 0) := R9.out.cell 1
        have rf := R9.out.frozen
        go_wp2_with fail
        refine bodyPost_ret (v := .agg #[.string s', .slice a' l' c']) (by simp [results, Try.results110, go_sem, World.cell?_setCell_same, World.cell?_setCell_other, r0, r1]) rfl ?_
        rw [HT.out]
        exact ff_end (by omega) hwz.out HF9.out HX9.out HY.out HN.out
end Go.Proofs.Ytpjdkdebjkpmmab

/- Walks: what lies below a knot is filled. -/
namespace Go.Proofs.Ytpjdkdebjkpmmab
open Go.RowKit
set_option linter.unusedSimpArgs false
set_option linter.unusedVariables false
set_option maxRecDepth 8000

theorem fL_map (ls : List Bd) : ∀ l : List Tm, fL ls l = l.map (fT ls)
  | [] => by simp [fL]
  | ⟨s, a⟩ :: r => by rw [fL, fL_map ls r]; rfl

set_option maxHeartbeats 1000000 in
theorem knotF_any (F B r : Nat) (ls : List Bd) (L : List (ByteArray × Value)) (hBF : B ≠ F) (hrF : r ≠ F) (t : Tm) : ∀ (n : Nat) (v : Value) (w : World) (X : Nat → Prop), TV w X v t → (∀ b, X b → b ≠ F) → n ≤ 1000000 → Blk w F #[.int .i64 (n : Int), .func (.func 90) #[] #[.pointer (some ⟨B, 0, none⟩)]] 140 → Env w B r X ls L →
    Calls Try.prog 127 #[.pointer (some ⟨F, 0, none⟩), v, .func (.func 110) #[.pointer (some ⟨F, 0, none⟩)] #[]] w fun e w' => CpPost w F (.func (.func 90) #[] #[.pointer (some ⟨B, 0, none⟩)]) ⟨t.name, fL ls t.args⟩ n e w' := by
  induction t using Tm.ind with
  | h s l ih =>
    intro n v w X hv hXF hn hF hE
    obtain ⟨a, c, rfl, hs⟩ := hv
    dsimp only
    generalize hsv : Value.func (.func 90) #[] #[.pointer (some ⟨B, 0, none⟩)] = sv at *
    obtain ⟨M, hM⟩ : ∃ M, fL ls l = M := ⟨_, rfl⟩
    rw [hM]
    have hML : M.length = l.length := by rw [← hM, fL_map]; simp
    have HMK : Hid (∀ k (h : k < M.length) (h' : k < l.length), M[k] = fT ls l[k]) := fun k h h' => by subst hM; simp [fL_map]
    have HE := hide hE
    clear hE hM
    have IH := hide ih
    clear ih
    obtain ⟨i0, hi0, hz0, hz1, hz2⟩ := info_parts Try.infoTerm
    have f0 : ∀ o, (w.alloc o).cell? ⟨F, 0, none⟩ = some (.int .i64 (n : Int)) := fun o => (hF.alloc o).cell 0
    have ff : ∀ o, (w.alloc o).frozen? ⟨F, 0, none⟩ = false := fun o => (hF.alloc o).frozen 0
    have hFl : F < w.heap.size := hF.lt
    go_enter Try.func127, Try.ntmps127
    go_wp2_with fail
    have E3 : Hid (KnSet w F (w.heap.size + 1 + 1) s (.slice none 0 0) #[.int .i64 ((n : Int) - 1), sv] ((((w.setCell ⟨F, 0, none⟩ (.int .i64 ((n : Int) - 1))).alloc (.cells #[.string s, .slice a l.length c] 29)).alloc (.cells #[.string ⟨#[]⟩, .slice none 0 0] 29)).alloc (.cells #[.string s, .slice none 0 0] 29))) := by
      refine ⟨((((Ex.refl F w).set 0 _).alloc _).alloc _).alloc _, ?_, ?_, (((hF.set 0 _).alloc _).alloc _).alloc _, by simp [World.setCell]⟩
      · have h := (Blk.new ((w.setCell ⟨F, 0, none⟩ (.int .i64 ((n : Int) - 1))).alloc (.cells #[.string s, .slice a l.length c] 29)) #[.string ⟨#[]⟩, .slice none 0 0] 29).alloc (.cells #[.string s, .slice none 0 0] 29)
        simpa [World.setCell] using h
      · have h := Blk.new (((w.setCell ⟨F, 0, none⟩ (.int .i64 ((n : Int) - 1))).alloc (.cells #[.string s, .slice a l.length c] 29)).alloc (.cells #[.string ⟨#[]⟩, .slice none 0 0] 29)) #[.string s, .slice none 0 0] 29
        simpa [World.setCell] using h
    generalize ((((w.setCell ⟨F, 0, none⟩ (.int .i64 ((n : Int) - 1))).alloc (.cells #[.string s, .slice a l.length c] 29)).alloc (.cells #[.string ⟨#[]⟩, .slice none 0 0] 29)).alloc (.cells #[.string s, .slice none 0 0] 29)) = w3 at *
    generalize hOe : w.heap.size + 1 + 1 = O at *
    have hO : w.heap.size + 2 ≤ O := by omega
    clear hOe
    clear f0 ff
    have HS := hide hs
    have hl := hs.1
    have HXF := hide hXF
    have hz : sizeL [(⟨s, M⟩ : Tm)] = 1 + sizeL M := by simp [sizeL]
    clear hs hXF
    go_loopw [23] (fun i wr => KnInv w F O s sv M n i wr) (fun i wr => l.length - (intOf i).toNat)
    case atStart =>
      refine ⟨0, .slice none 0 0, Nat.zero_le _, rfl, ?_⟩
      by_cases hn0 : n = 0
      · subst hn0
        exact Or.inr ⟨by omega, E3.out, none, 0, 0, rfl⟩
      · refine Or.inl ⟨n - 1, [], by simp [sizeL]; omega, ?_, Row.start _ _ _ _⟩
        rw [show ((n - 1 : Nat) : Int) = (n : Int) - 1 by omega]
        exact E3.out
    case round =>
      obtain ⟨k, u, hk, rfl, hcase⟩ := hrel
      rcases hcase with ⟨m, xs, hm, hset, hrow⟩ | ⟨hbig, hset, a9, l9, c9, rfl⟩
      · have XS := hide hset
        have XW := hide hrow
        have HMM := hide hm
        clear hset hrow
        by_cases hlt : k < l.length
        · obtain ⟨b, o, a', c', rfl, d0, d1, hx⟩ := (HS.out.ex XS.out.1 HXF.out).get (Below.refl _ _) (fun _ _ h => h) k hlt
          obtain ⟨av, cv, ev, hsx⟩ := hx
          simp at ev
          obtain ⟨rfl, rfl⟩ := ev
          have hltM : k < M.length := by omega
          obtain ⟨y, hy⟩ : ∃ y, fT ls l[k] = y := ⟨_, rfl⟩
          have hMy : Hid (M[k] = y) := by unfold Hid; rw [HMK.out k hltM hlt, hy]
          have hmn : m ≤ 1000000 := by omega
          have HOF : Hid (O ≠ F) := by unfold Hid; omega
          have HFO1 : Hid (F < O + 1) := by unfold Hid; omega
          have hlen := sizeL_len M
          have hsk : (M.take k).length = k := by simp; omega
          have hkn : k ≤ 1000000 := by have h1 := sizeL_len (M.take k); rw [hsk] at h1; omega
          have HL1 : Hid ((M.take k).length + 1 ≤ maxLen ∧ ((M.take k).length + 1) * 40 ≤ 140737488355328) := by unfold Hid; rw [hsk]; exact ⟨by unfold maxLen; omega, by omega⟩
          clear hsk
          have IHQ : Hid (Calls Try.prog 110 #[.pointer (some ⟨F, 0, none⟩), .agg #[.string l[k].name, .slice a' l[k].args.length c']] (wr.alloc (.cells #[.string l[k].name, .slice a' l[k].args.length c'] 29)).drew fun e w'' => CpPost (wr.alloc (.cells #[.string l[k].name, .slice a' l[k].args.length c'] 29)).drew F sv y m e w'') := by
            have hEr : Env (wr.alloc (.cells #[.string l[k].name, .slice a' l[k].args.length c'] 29)).drew B r X ls L := ((HE.out.ex XS.out.1 hBF hrF HXF.out).later ((Below.refl _ _).alloc (Nat.le_refl _) _)).later ((Below.refl _ _).drew)
            have hFr : Blk (wr.alloc (.cells #[.string l[k].name, .slice a' l[k].args.length c'] 29)).drew F #[.int .i64 (m : Int), sv] 140 := (XS.out.2.2.2.1.alloc _).drewN 1
            have hSr : Sl (wr.alloc (.cells #[.string l[k].name, .slice a' l[k].args.length c'] 29)).drew X a' l[k].args := (hsx.later ((Below.refl _ _).alloc (Nat.le_refl _) _)).later ((Below.refl _ _).drew)
            have IH2 := IH.out l[k] (List.getElem_mem hlt) m
            rw [← hy]
            clear HMM XS XW
            subst hsv
            exact ffill_of F B r ls L l[k] m a' c' _ X hmn HXF.out hBF hrF hSr hFr hEr (fun w' h1 h2 h3 => IH2 _ w' X ⟨a', c', rfl, h1⟩ HXF.out hmn h2 h3)
          have f0 : ∀ o, (wr.alloc o).cell? ⟨F, 0, none⟩ = some (.int .i64 (m : Int)) := fun o => (XS.out.2.2.2.1.alloc o).cell 0
          have o1 : ∀ o, (wr.alloc o).cell? ⟨O, 1, none⟩ = some u := fun o => (XS.out.2.2.1.alloc o).cell 1
          have hm0 : ¬ (m : Int) < 0 := by omega
          by_cases hle : sizeL [y] ≤ m
          · have IHG : Hid (Calls Try.prog 110 #[.pointer (some ⟨F, 0, none⟩), .agg #[.string l[k].name, .slice a' l[k].args.length c']] (wr.alloc (.cells #[.string l[k].name, .slice a' l[k].args.length c'] 29)).drew fun e w'' => ∃ a1 c1, e = .returned (.agg #[.string y.name, .slice a1 y.args.length c1]) ∧ Blk w'' F #[.int .i64 ((m : Int) - sizeL [y]), sv] 140 ∧ Ex F wr w'' ∧ Sl w'' (fun b => wr.heap.size ≤ b) a1 y.args) := IHQ.out.mono fun e w'' hp => by
              obtain ⟨s1, a1, l1, c1, m1, h1, h2, h3, h4, _⟩ := hp
              obtain ⟨rfl, rfl, rfl, h5⟩ := h4 hle
              exact ⟨a1, c1, h1, h2, (((Ex.refl F wr).alloc _).drew).trans h3, h5.mono fun b hb _ => by simp at hb; omega⟩
            clear IHQ
            go_wp2_with fail
            go_region_law (first
              | (go_simp; go_at_call 110; refine IHG.out.mono ?_; rintro e w1 ⟨a1, c1, rfl, hF1, he1, hs1⟩; have hc3 : ∀ o, (w1.alloc o).cell? ⟨O, 1, none⟩ = some u := fun o => ((Blk.ex XS.out.2.2.1 he1 HOF.out).alloc o).cell 1; have hc4 : w1.cell? ⟨O, 1, none⟩ = some u := (Blk.ex XS.out.2.2.1 he1 HOF.out).cell 1)
              | (refine step_append_lies _ rfl _ _ 27 rfl (O + 1) 29 i0 _ 2 40 Try.underlying27 hi0 hz0 hz1 hz2 rfl (by decide) u (M.take k).length xs rfl (by exact (Row.ex (B := F) XW.out he1 HFO1.out (fun h => h)).own.alloc _) ⟨w1.heap.size, 0, none⟩ 1 1 [.string y.name, .slice a1 y.args.length c1] rfl rfl (cell_two_new _ _ _ _) (fun x hx => by simp at hx; rcases hx with rfl | rfl <;> rfl) (by decide) HL1.out.1 HL1.out.2 (by have := he1.size; have := XS.out.2.2.2.2; simp; omega) _ rfl ?_; intro g cap w3 hown3 hgrow3 hat3 hlt3; have hB3 := hide (((Blk.ex XS.out.2.2.1 he1 HOF.out).alloc _).grown hgrow3 (XW.out.ne (Nat.lt_succ_self _))); have hc5 : w3.cell? ⟨O, 1, none⟩ = some u := hB3.out.cell 1; have hf5 := hB3.out.frozen 1))
            all_goals
              have HK := hide (kn_set (v := .slice (some ⟨g, 0, none⟩) ((M.take k).length + 1) cap) hFl hO XS.out (fun j hj => (XW.out.own.lt j hj).1) he1 hF1 hgrow3)
              have HRW := hide (kn_row (by omega) XS.out.2.2.2.2 XW.out he1 ⟨a1, c1, rfl, hs1⟩ hown3 hgrow3 hat3)
              clear hown3 hgrow3 hat3 hc3 hc4 hc5 hf5 hB3 hF1 he1 hs1 hlt3
              go_wp2_with fail
              go_roundw
              case rel =>
                have hkl : (M.take k).length = k := by simp; omega
                have h1 := HK.out
                have h2 := HRW.out
                have hmm := HMM.out
                simp only [hkl] at h1 h2
                have hmk : min k l.length = k := by omega
                simp only [hmk]
                refine ⟨k + 1, .slice (some ⟨g, 0, none⟩) (k + 1) cap, by omega, by go_num, Or.inl ⟨m - sizeL [y], xs ++ [.string y.name, .slice a1 y.args.length c1], by rw [sizeL_take M k hltM, hMy.out]; omega, ?_, ?_⟩⟩
                · rw [show ((m - sizeL [y] : Nat) : Int) = (m : Int) - sizeL [y] by omega]
                  exact h1
                · rw [List.take_succ_eq_append_getElem hltM, hMy.out]
                  exact h2
              case measure => simp [intOf]; omega
          · have IHG : Hid (Calls Try.prog 110 #[.pointer (some ⟨F, 0, none⟩), .agg #[.string l[k].name, .slice a' l[k].args.length c']] (wr.alloc (.cells #[.string l[k].name, .slice a' l[k].args.length c'] 29)).drew fun e w'' => ∃ s1 a1 l1 c1, e = .returned (.agg #[.string s1, .slice a1 l1 c1]) ∧ Blk w'' F #[.int .i64 (-1), sv] 140 ∧ Ex F wr w'') := IHQ.out.mono fun e w'' hp => by
              obtain ⟨s1, a1, l1, c1, m1, h1, h2, h3, _, h4⟩ := hp
              obtain rfl := h4 (by omega)
              exact ⟨s1, a1, l1, c1, h1, h2, (((Ex.refl F wr).alloc _).drew).trans h3⟩
            clear IHQ
            go_wp2_with fail
            go_region_law (first
              | (go_simp; go_at_call 110; refine IHG.out.mono ?_; rintro e w1 ⟨s1, a1, l1, c1, rfl, hF1, he1⟩; have hc3 : ∀ o, (w1.alloc o).cell? ⟨O, 1, none⟩ = some u := fun o => ((Blk.ex XS.out.2.2.1 he1 HOF.out).alloc o).cell 1; have hc4 : w1.cell? ⟨O, 1, none⟩ = some u := (Blk.ex XS.out.2.2.1 he1 HOF.out).cell 1)
              | (refine step_append_lies _ rfl _ _ 27 rfl (O + 1) 29 i0 _ 2 40 Try.underlying27 hi0 hz0 hz1 hz2 rfl (by decide) u (M.take k).length xs rfl (by exact (Row.ex (B := F) XW.out he1 HFO1.out (fun h => h)).own.alloc _) ⟨w1.heap.size, 0, none⟩ 1 1 [.string s1, .slice a1 l1 c1] rfl rfl (cell_two_new _ _ _ _) (fun x hx => by simp at hx; rcases hx with rfl | rfl <;> rfl) (by decide) HL1.out.1 HL1.out.2 (by have := he1.size; have := XS.out.2.2.2.2; simp; omega) _ rfl ?_; intro g cap w3 hown3 hgrow3 hat3 hlt3; have hB3 := hide (((Blk.ex XS.out.2.2.1 he1 HOF.out).alloc _).grown hgrow3 (XW.out.ne (Nat.lt_succ_self _))); have hc5 : w3.cell? ⟨O, 1, none⟩ = some u := hB3.out.cell 1; have hf5 := hB3.out.frozen 1))
            all_goals
              have HK := hide (kn_set (v := .slice (some ⟨g, 0, none⟩) ((M.take k).length + 1) cap) hFl hO XS.out (fun j hj => (XW.out.own.lt j hj).1) he1 hF1 hgrow3)
              clear hown3 hgrow3 hat3 hc3 hc4 hc5 hf5 hB3 hF1 he1 hlt3
              go_wp2_with fail
              go_roundw
              case rel =>
                have hkl : (M.take k).length = k := by simp; omega
                have h0 := HK.out
                have hmm := HMM.out
                simp only [hkl] at h0
                have hmk : min k l.length = k := by omega
                simp only [hmk]
                refine ⟨k + 1, .slice (some ⟨g, 0, none⟩) (k + 1) cap, by omega, by go_num, Or.inr ⟨?_, h0, _, _, _, rfl⟩⟩
                have h1 := sizeL_take M k hltM
                rw [hMy.out] at h1
                have h2 := sizeL_take_le M (k + 1)
                omega
              case measure => simp [intOf]; omega
        · have htk : M.take k = M := List.take_of_length_le (by omega)
          rw [htk] at XW HMM
          obtain ⟨a9, c9, hu9, hsl9⟩ := XW.out.sl
          subst hu9
          have S9 := hide hsl9
          clear hsl9
          have r0 : wr.cell? ⟨w.heap.size + 1, 0, none⟩ = some (.string ⟨#[]⟩) := XS.out.2.1.cell 0
          have r1 : wr.cell? ⟨w.heap.size + 1, 1, none⟩ = some (.slice none 0 0) := XS.out.2.1.cell 1
          have rf := XS.out.2.1.frozen
          have o0 : wr.cell? ⟨O, 0, none⟩ = some (.string s) := XS.out.2.2.1.cell 0
          have o1 : wr.cell? ⟨O, 1, none⟩ = some (.slice a9 M.length c9) := XS.out.2.2.1.cell 1
          go_wp2_with fail
          refine bodyPost_ret (v := .agg #[.string s, .slice a9 M.length c9]) (by simp [results, Try.results127, go_sem, World.cell?_setCell_same, World.cell?_setCell_other, r0, r1, hML]) rfl ?_
          have hmm := HMM.out
          refine ⟨s, a9, M.length, c9, m, rfl, (XS.out.2.2.2.1.setOther _ _ (by omega)).setOther _ _ (by omega), (XS.out.1.setNew (by omega) _ _).setNew (by omega) _ _, fun h => ⟨by rw [hz]; omega, rfl, rfl, (S9.out.kept fun b hb => ?_).mono fun b hb _ => ?_⟩, fun h => by omega⟩
          · have hb' : O + 1 ≤ b := hb.elim False.elim id
            rw [Below.heap_setCell _ _ _ _ (by simp; omega), Below.heap_setCell _ _ _ _ (by simp; omega)]
          · have hb' : O + 1 ≤ b := hb.elim False.elim id
            omega
      · have XS := hide hset
        clear hset
        have f0 : ∀ o, (wr.alloc o).cell? ⟨F, 0, none⟩ = some (.int .i64 (-1)) := fun o => (XS.out.2.2.2.1.alloc o).cell 0
        by_cases hlt : k < l.length
        · obtain ⟨b, o, a', c', rfl, d0, d1, hx⟩ := (HS.out.ex XS.out.1 HXF.out).get (Below.refl _ _) (fun _ _ h => h) k hlt
          clear hx
          have o0 : ∀ o, (wr.alloc o).cell? ⟨O, 0, none⟩ = some (.string s) := fun o => (XS.out.2.2.1.alloc o).cell 0
          have o1 : ∀ o, (wr.alloc o).cell? ⟨O, 1, none⟩ = some (.slice a9 l9 c9) := fun o => (XS.out.2.2.1.alloc o).cell 1
          have r0 : wr.cell? ⟨w.heap.size + 1, 0, none⟩ = some (.string ⟨#[]⟩) := XS.out.2.1.cell 0
          have r1 : wr.cell? ⟨w.heap.size + 1, 1, none⟩ = some (.slice none 0 0) := XS.out.2.1.cell 1
          have rf := XS.out.2.1.frozen
          have hRl : w.heap.size + 1 < wr.heap.size := XS.out.2.1.lt
          go_wp2_with fail
          refine bodyPost_ret (v := .agg #[.string s, .slice a9 l9 c9]) (by simp [results, Try.results127, go_sem, World.cell?_setCell_same, World.cell?_setCell_other, r0, r1, hRl, World.cell?_alloc_old]) rfl ?_
          exact ⟨s, a9, l9, c9, -1, rfl, ((XS.out.2.2.2.1.setOther _ _ (by omega)).setOther _ _ (by omega)).alloc _, ((XS.out.1.setNew (by omega) _ _).setNew (by omega) _ _).alloc _, fun h => by omega, fun _ => rfl⟩
        · have r0 : wr.cell? ⟨w.heap.size + 1, 0, none⟩ = some (.string ⟨#[]⟩) := XS.out.2.1.cell 0
          have r1 : wr.cell? ⟨w.heap.size + 1, 1, none⟩ = some (.slice none 0 0) := XS.out.2.1.cell 1
          have rf := XS.out.2.1.frozen
          have o0 : wr.cell? ⟨O, 0, none⟩ = some (.string s) := XS.out.2.2.1.cell 0
          have o1 : wr.cell? ⟨O, 1, none⟩ = some (.slice a9 l9 c9) := XS.out.2.2.1.cell 1
          go_wp2_with fail
          refine bodyPost_ret (v := .agg #[.string s, .slice a9 l9 c9]) (by simp [results, Try.results127, go_sem, World.cell?_setCell_same, World.cell?_setCell_other, r0, r1]) rfl ?_
          exact ⟨s, a9, l9, c9, -1, rfl, (XS.out.2.2.2.1.setOther _ _ (by omega)).setOther _ _ (by omega), (XS.out.1.setNew (by omega) _ _).setNew (by omega) _ _, fun h => by omega, fun _ => rfl⟩
#print axioms knotF_any
end Go.Proofs.Ytpjdkdebjkpmmab

/- Walks: Fill. -/
namespace Go.Proofs.Ytpjdkdebjkpmmab
open Go.RowKit
set_option linter.unusedSimpArgs false
set_option linter.unusedVariables false
set_option maxRecDepth 8000

theorem ffill_any (F B r : Nat) (ls : List Bd) (L : List (ByteArray × Value)) (t : Tm) (n : Nat) (a : Option Addr) (c : Nat) (w : World) (X : Nat → Prop) (hn : n ≤ 1000000) (hXF : ∀ b, X b → b ≠ F) (hBF : B ≠ F) (hrF : r ≠ F) (hs : Sl w X a t.args) (hF : Blk w F #[.int .i64 (n : Int), .func (.func 90) #[] #[.pointer (some ⟨B, 0, none⟩)]] 140) (hE : Env w B r X ls L) :
    Calls Try.prog 110 #[.pointer (some ⟨F, 0, none⟩), .agg #[.string t.name, .slice a t.args.length c]] w fun e w' => CpPost w F (.func (.func 90) #[] #[.pointer (some ⟨B, 0, none⟩)]) (fT ls t) n e w' :=
  ffill_of F B r ls L t n a c w X hn hXF hBF hrF hs hF hE (fun w' h1 h2 h3 => knotF_any F B r ls L hBF hrF t n _ w' X ⟨a, c, rfl, h1⟩ hXF hn h2 h3)

set_option maxHeartbeats 1000000 in
theorem fill_any (B r : Nat) (ls : List Bd) (L : List (ByteArray × Value)) (t : Tm) (n : Nat) (a : Option Addr) (c : Nat) (w : World) (X : Nat → Prop) (hn : n ≤ 1000000) (hs : Sl w X a t.args) (hE : Env w B r X ls L) :
    Calls Try.prog 89 #[.agg #[.string t.name, .slice a t.args.length c], .int .i64 (n : Int), .func (.func 90) #[] #[.pointer (some ⟨B, 0, none⟩)]] w fun e w' => Below w.heap.size w w' ∧
      ((sizeL [fT ls t] ≤ n ∧ ∃ a' c', e = .returned (.tuple #[.agg #[.string (fT ls t).name, .slice a' (fT ls t).args.length c'], .bool true]) ∧ Sl w' (fun b => w.heap.size ≤ b) a' (fT ls t).args) ∨ (n < sizeL [fT ls t] ∧ e = .returned (.tuple #[.agg #[.string ⟨#[]⟩, .slice none 0 0], .bool false]))) := by
  have hmf : ∀ (fn : Fn) (first cap : Array Value) (w : World), (Instr.makeFunc fn first cap).run Try.prog w = .ok (.func fn first cap) w := fun _ _ _ _ => rfl
  have HS := hide (hs.mono (Y := fun b => X b ∧ b < w.heap.size) fun b h1 h2 => ⟨h1, h2⟩)
  have HE : Hid (Env w B r (fun b => X b ∧ b < w.heap.size) ls L) := ⟨hE.1, hE.2.1, hE.2.2.imp fun a l hs => hs.mono fun b h1 h2 => ⟨h1, h2⟩⟩
  have hBl : B < w.heap.size := hE.1.lt
  have hrl : r < w.heap.size := hE.2.1.lt
  clear hs hE
  go_enter Try.func89, Try.ntmps89
  go_wp2_with fail
  have HB3 : Hid (Below w.heap.size w (((w.alloc (.cells #[.string t.name, .slice a t.args.length c] 29)).alloc (.cells #[.string ⟨#[]⟩, .slice none 0 0] 29)).alloc (.cells #[.int .i64 (n : Int), .func (.func 90) #[] #[.pointer (some ⟨B, 0, none⟩)]] 140))) := ((((Below.refl w.heap.size w).alloc (Nat.le_refl _) _).alloc (by simp) _).alloc (by simp; omega) _)
  have F3 : Hid (Blk (((w.alloc (.cells #[.string t.name, .slice a t.args.length c] 29)).alloc (.cells #[.string ⟨#[]⟩, .slice none 0 0] 29)).alloc (.cells #[.int .i64 (n : Int), .func (.func 90) #[] #[.pointer (some ⟨B, 0, none⟩)]] 140)) (w.heap.size + 1 + 1) #[.int .i64 (n : Int), .func (.func 90) #[] #[.pointer (some ⟨B, 0, none⟩)]] 140) := by
    have h := Blk.new ((w.alloc (.cells #[.string t.name, .slice a t.args.length c] 29)).alloc (.cells #[.string ⟨#[]⟩, .slice none 0 0] 29)) #[.int .i64 (n : Int), .func (.func 90) #[] #[.pointer (some ⟨B, 0, none⟩)]] 140
    unfold Hid
    simpa using h
  have R3 : Hid (Blk (((w.alloc (.cells #[.string t.name, .slice a t.args.length c] 29)).alloc (.cells #[.string ⟨#[]⟩, .slice none 0 0] 29)).alloc (.cells #[.int .i64 (n : Int), .func (.func 90) #[] #[.pointer (some ⟨B, 0, none⟩)]] 140)) (w.heap.size + 1) #[.string ⟨#[]⟩, .slice none 0 0] 29) := by
    have h := (Blk.new (w.alloc (.cells #[.string t.name, .slice a t.args.length c] 29)) #[.string ⟨#[]⟩, .slice none 0 0] 29).alloc (.cells #[.int .i64 (n : Int), .func (.func 90) #[] #[.pointer (some ⟨B, 0, none⟩)]] 140)
    unfold Hid
    simpa using h
  have z3 : (((w.alloc (.cells #[.string t.name, .slice a t.args.length c] 29)).alloc (.cells #[.string ⟨#[]⟩, .slice none 0 0] 29)).alloc (.cells #[.int .i64 (n : Int), .func (.func 90) #[] #[.pointer (some ⟨B, 0, none⟩)]] 140)).heap.size = w.heap.size + 3 := by simp
  generalize (((w.alloc (.cells #[.string t.name, .slice a t.args.length c] 29)).alloc (.cells #[.string ⟨#[]⟩, .slice none 0 0] 29)).alloc (.cells #[.int .i64 (n : Int), .func (.func 90) #[] #[.pointer (some ⟨B, 0, none⟩)]] 140)) = w3 at *
  refine (ffill_any (w.heap.size + 1 + 1) B r ls L t n a c w3 (fun b => X b ∧ b < w.heap.size) hn (fun b hb => by have := hb.2; omega) (by omega) (by omega) (HS.out.later HB3.out) F3.out (HE.out.later HB3.out)).mono ?_
  rintro e w9 ⟨s', a', l', c', m, rfl, hF9, hx9, hy, hno⟩
  have HF9 := hide hF9
  have HX9 := hide hx9
  have R9 := hide (R3.out.ex hx9 (by omega))
  have hz9 := hx9.size
  clear hF9 hx9
  have r0 : w9.cell? ⟨w.heap.size + 1, 0, none⟩ = some (.string ⟨#[]⟩) := R9.out.cell 0
  have r1 : w9.cell? ⟨w.heap.size + 1, 1, none⟩ = some (.slice none 0 0) := R9.out.cell 1
  have rf := R9.out.frozen
  have hRl : w.heap.size + 1 < w9.heap.size := R9.out.lt
  have HBW : Hid (Below w.heap.size w w9) := ⟨HX9.out.os.trans HB3.out.os, HX9.out.tape.trans HB3.out.tape, HX9.out.output.trans HB3.out.output, by omega, fun k hk => (HX9.out.block k (by omega) (by omega)).trans (HB3.out.block k hk)⟩
  by_cases hle : sizeL [fT ls t] ≤ n
  · obtain ⟨rfl, rfl, rfl, hsl⟩ := hy hle
    have HSL := hide hsl
    clear hy hno hsl
    have f0 : ∀ o, (w9.alloc o).cell? ⟨w.heap.size + 1 + 1, 0, none⟩ = some (.int .i64 ((n : Int) - sizeL [fT ls t])) := fun o => (HF9.out.alloc o).cell 0
    have hlt : ¬ ((n : Int) - sizeL [fT ls t]) < 0 := by omega
    go_wp2_with fail
    refine bodyPost_ret (v := .tuple #[.agg #[.string (fT ls t).name, .slice a' (fT ls t).args.length c'], .bool true]) (by simp [results, Try.results89, go_sem, World.cell?_setCell_same, World.cell?_setCell_other, r0, r1, hRl, World.cell?_alloc_old]) rfl ?_
    refine ⟨((HBW.out.setCell (by simp) _).setCell (by simp) _).alloc (by simp [World.setCell]; omega) _, Or.inl ⟨hle, a', c', rfl, ((HSL.out.kept fun b hb => ?_).later ((Below.refl _ _).alloc (Nat.le_refl _) _)).mono fun b hb _ => by omega⟩⟩
    rw [Below.heap_setCell _ _ _ _ (by simp; omega), Below.heap_setCell _ _ _ _ (by simp; omega)]
  · obtain rfl := hno (by omega)
    clear hy hno
    have f0 : ∀ o, (w9.alloc o).cell? ⟨w.heap.size + 1 + 1, 0, none⟩ = some (.int .i64 (-1)) := fun o => (HF9.out.alloc o).cell 0
    go_wp2_with fail
    refine bodyPost_ret (v := .tuple #[.agg #[.string ⟨#[]⟩, .slice none 0 0], .bool false]) (by simp [results, Try.results89, go_sem, World.cell?_setCell_same, World.cell?_setCell_other, r0, r1, hRl, World.cell?_alloc_old]) rfl ?_
    exact ⟨((HBW.out.setCell (by simp) _).setCell (by simp) _).alloc (by simp [World.setCell]; omega) _, Or.inr ⟨by omega, rfl⟩⟩
#print axioms fill_any
end Go.Proofs.Ytpjdkdebjkpmmab

/- Walks: subst's fill. -/
namespace Go.Proofs.Ytpjdkdebjkpmmab
open Go.RowKit
set_option linter.unusedSimpArgs false
set_option linter.unusedVariables false
set_option maxRecDepth 8000

set_option maxHeartbeats 1000000 in
theorem sfill_any (B r : Nat) (ls : List Bd) (L : List (ByteArray × Value)) (t : Tm) (a : Option Addr) (c : Nat) (w : World) (X : Nat → Prop) (hs : Sl w X a t.args) (hE : Env w B r X ls L) :
    Calls Try.prog 62 #[.agg #[.string t.name, .slice a t.args.length c], .func (.func 90) #[] #[.pointer (some ⟨B, 0, none⟩)]] w fun e w' => Below w.heap.size w w' ∧
      ((sizeL [fT ls t] ≤ 2000 ∧ ∃ a' c', e = .returned (.tuple #[.agg #[.string (fT ls t).name, .slice a' (fT ls t).args.length c'], .int .i64 0]) ∧ Sl w' (fun b => w.heap.size ≤ b) a' (fT ls t).args) ∨ (2000 < sizeL [fT ls t] ∧ e = .returned (.tuple #[.agg #[.string ⟨#[]⟩, .slice none 0 0], .int .i64 8]))) := by
  have HS := hide hs
  have HE := hide hE
  clear hs hE
  go_enter Try.func62, Try.ntmps62
  go_wp2_with fail
  have HB3 : Hid (Below w.heap.size w ((w.alloc (.cells #[.string t.name, .slice a t.args.length c] 29)).alloc (.cells #[.string ⟨#[]⟩, .slice none 0 0] 29))) := (((Below.refl w.heap.size w).alloc (Nat.le_refl _) _).alloc (by simp) _)
  have R3 : Hid (Blk ((w.alloc (.cells #[.string t.name, .slice a t.args.length c] 29)).alloc (.cells #[.string ⟨#[]⟩, .slice none 0 0] 29)) (w.heap.size + 1) #[.string ⟨#[]⟩, .slice none 0 0] 29) := by
    have h := (Blk.new (w.alloc (.cells #[.string t.name, .slice a t.args.length c] 29)) #[.string ⟨#[]⟩, .slice none 0 0] 29)
    unfold Hid
    simpa using h
  have z3 : ((w.alloc (.cells #[.string t.name, .slice a t.args.length c] 29)).alloc (.cells #[.string ⟨#[]⟩, .slice none 0 0] 29)).heap.size = w.heap.size + 2 := by simp
  generalize ((w.alloc (.cells #[.string t.name, .slice a t.args.length c] 29)).alloc (.cells #[.string ⟨#[]⟩, .slice none 0 0] 29)) = w3 at *
  refine (fill_any B r ls L t 2000 a c w3 X (by decide) (HS.out.later HB3.out) (HE.out.later HB3.out)).mono ?_
  rintro e w9 ⟨hb9, hcase⟩
  have R9 := hide (R3.out.below hb9 R3.out.lt)
  have HBW := hide (HB3.out.trans (hb9.mono (by omega)))
  have hz9 := hb9.size
  clear hb9
  have r0 : w9.cell? ⟨w.heap.size + 1, 0, none⟩ = some (.string ⟨#[]⟩) := R9.out.cell 0
  have r1 : w9.cell? ⟨w.heap.size + 1, 1, none⟩ = some (.slice none 0 0) := R9.out.cell 1
  have rf := R9.out.frozen
  have hRl : w.heap.size + 1 < w9.heap.size := R9.out.lt
  rcases hcase with ⟨hle, a', c', rfl, hsl⟩ | ⟨hle, rfl⟩
  · have HSL := hide hsl
    clear hsl
    go_wp2_with fail
    refine bodyPost_ret (v := .tuple #[.agg #[.string (fT ls t).name, .slice a' (fT ls t).args.length c'], .int .i64 0]) (by simp [results, Try.results62, go_sem, World.cell?_setCell_same, World.cell?_setCell_other, r0, r1, hRl, World.cell?_alloc_old]) rfl ?_
    refine ⟨((HBW.out.setCell (by simp) _).setCell (by simp) _).alloc (by simp [World.setCell]; omega) _, Or.inl ⟨hle, a', c', rfl, ((HSL.out.kept fun b hb => ?_).later ((Below.refl _ _).alloc (Nat.le_refl _) _)).mono fun b hb _ => by omega⟩⟩
    rw [Below.heap_setCell _ _ _ _ (by simp; omega), Below.heap_setCell _ _ _ _ (by simp; omega)]
  · go_wp2_with fail
    refine bodyPost_ret (v := .tuple #[.agg #[.string ⟨#[]⟩, .slice none 0 0], .int .i64 8]) (by simp [results, Try.results62, go_sem, World.cell?_setCell_same, World.cell?_setCell_other, r0, r1, hRl, World.cell?_alloc_old]) rfl ?_
    exact ⟨((HBW.out.setCell (by simp) _).setCell (by simp) _).alloc (by simp [World.setCell]; omega) _, Or.inr ⟨hle, rfl⟩⟩
#print axioms sfill_any
end Go.Proofs.Ytpjdkdebjkpmmab

/- Walks: whether bindings may be. -/
namespace Go.Proofs.Ytpjdkdebjkpmmab
open Go.RowKit
set_option linter.unusedSimpArgs false
set_option linter.unusedVariables false
set_option maxRecDepth 8000

def ScInv (ls : List Bd) (w : World) (v : Value) (wr : World) : Prop := ∃ k : Nat, v = .int .i64 (k : Int) ∧ k ≤ ls.length ∧ bmT ls k = 0 ∧ Below w.heap.size w wr

set_option maxHeartbeats 2000000 in
theorem scheck_any (ls : List Bd) (u : Value) (w : World) (X : Nat → Prop) (hu : BV w X u ls) :
    Calls Try.prog 37 #[u] w fun e w' => e = .returned (.int .i64 (bindsE ls)) ∧ Below w.heap.size w w' := by
  have HU := hide hu
  obtain ⟨a, c, rfl, hl, hu2⟩ := hu
  clear hu2
  go_enter Try.func37, Try.ntmps37
  by_cases h40 : 40 < ls.length
  · go_wp2_with fail
    go_ret
    exact ⟨ret_int (by unfold bindsE; rw [if_pos h40]), Below.refl _ _⟩
  · go_wp2_with fail
    go_loopw [11] (fun v wr => ScInv ls w v wr) (fun v wr => ls.length - (intOf v).toNat)
    case atStart => exact ⟨0, rfl, Nat.zero_le _, rfl, Below.refl _ _⟩
    case round =>
      obtain ⟨k, rfl, hk, hT, hb⟩ := hrel
      have HB := hide hb
      have HT := hide hT
      clear hT
      by_cases hlt : k < ls.length
      · obtain ⟨b, o, a', c', rfl, d0, d1, d2, hs⟩ := (HU.out.later hb).get k hlt
        have hlt2 : (k : Int) < (ls.length : Int) := by omega
        have HX := hide hs
        clear hb hs
        cases hn : nameB ls[k].nm with
        | false =>
          have HK := hide (bmK_name hlt (by rw [hn]; rfl))
          have HN := hide hn
          have HV := hide (rfl : varB ls[k].nm = varB ls[k].nm)
          clear hn
          generalize ls[k] = d at *
          go_wp2_with (first | (go_at_call 67; refine (isName_any _ _).mono ?_; rintro e w' ⟨rfl, rfl⟩; rw [HN.out]) | (go_at_call 68; refine (isVariable_all _ _).mono ?_; rintro e w' ⟨rfl, rfl⟩; rw [HV.out]))
          go_ret
          exact ⟨ret_int (bmT_err hlt h40 HT.out HK.out (by decide)).symm, HB.out.alloc HB.out.size _⟩
        | true =>
          have HN := hide hn
          clear hn
          cases hv : varB ls[k].nm with
          | false =>
            have HK := hide (bmK_name hlt (by rw [HN.out, hv]; rfl))
            have HV := hide hv
            clear hv
            generalize ls[k] = d at *
            go_wp2_with (first | (go_at_call 67; refine (isName_any _ _).mono ?_; rintro e w' ⟨rfl, rfl⟩; rw [HN.out]) | (go_at_call 68; refine (isVariable_all _ _).mono ?_; rintro e w' ⟨rfl, rfl⟩; rw [HV.out]))
            go_ret
            exact ⟨ret_int (bmT_err hlt h40 HT.out HK.out (by decide)).symm, HB.out.alloc HB.out.size _⟩
          | true =>
            have HV := hide hv
            clear hv
            by_cases hk0 : 0 < k
            · obtain ⟨j, rfl⟩ : ∃ j, k = j + 1 := ⟨k - 1, by omega⟩
              have p0 : ∀ ob, (wr.alloc ob).cell? ⟨b, o + j * 3, none⟩ = some (.string ls[j].nm) := fun ob => by
                obtain ⟨b2, o2, a2, c2, e2, p0, p1, p2, hs2⟩ := ((HU.out.later HB.out).alloc ob).get j (by omega)
                simp at e2
                obtain ⟨rfl, rfl⟩ := e2
                exact p0
              have hj0 : (0 : Int) ≤ (j : Int) := by omega
              have hj1 : (j : Int) < (ls.length : Int) := by omega
              have hw1 : IntKind.i64.wrap ((j : Int) + 1 - 1) = (j : Int) := by rw [IntKind.wrap_i64]; omega
              have hw2 : IntKind.i64.wrap (j : Int) = (j : Int) := by rw [IntKind.wrap_i64]; omega
              cases hle : leB ls[j + 1].nm ls[j].nm with
              | true =>
                have HK := hide (bmK_order hlt (by rw [HN.out, HV.out]; rfl) hle)
                have hle2 : (Op.bytesLess ls[j + 1].nm.toList ls[j].nm.toList || ls[j + 1].nm.toList == ls[j].nm.toList) = true := hle
                clear hle
                generalize ls[j + 1] = d at *
                generalize ls[j] = d' at *
                go_wp2_with (first | (go_at_call 67; refine (isName_any _ _).mono ?_; rintro e w' ⟨rfl, rfl⟩; rw [HN.out]) | (go_at_call 68; refine (isVariable_all _ _).mono ?_; rintro e w' ⟨rfl, rfl⟩; rw [HV.out]))
                go_quiet (fail)
                go_wp2_with fail
                go_ret
                exact ⟨ret_int (bmT_err hlt h40 HT.out HK.out (by decide)).symm, below_drewN (HB.out.alloc HB.out.size _) _⟩
              | false =>
                have HK := hide (bmK_may hlt (by rw [HN.out, HV.out]; rfl) hle)
                have hle2 : (Op.bytesLess ls[j + 1].nm.toList ls[j].nm.toList || ls[j + 1].nm.toList == ls[j].nm.toList) = false := hle
                clear hle
                generalize ls[j + 1] = d at *
                generalize ls[j] = d' at *
                go_wp2_with (first | (go_at_call 67; refine (isName_any _ _).mono ?_; rintro e w' ⟨rfl, rfl⟩; rw [HN.out]) | (go_at_call 68; refine (isVariable_all _ _).mono ?_; rintro e w' ⟨rfl, rfl⟩; rw [HV.out]))
                go_quiet (fail)
                go_wp2_with fail
                refine (check_any d.t _ _ X (by exact ⟨a', c', rfl, (HX.out.later ((Below.refl _ _).alloc (Nat.le_refl _) _)).kept fun _ _ => rfl⟩)).mono ?_
                rintro e w5 ⟨rfl, hb5⟩
                have HB5 := hide ((below_drewN (HB.out.alloc HB.out.size (.cells #[.string d.nm, .string d.t.name, .slice a' d.t.args.length c'] 55)) nq).trans (hb5.mono (by have := HB.out.size; simp; omega)))
                clear hb5
                by_cases hm : mayE d.t = 0
                · have HM := hide hm
                  rw [hm]
                  clear hm
                  go_wp2_with fail
                  go_roundw
                  case rel => exact ⟨j + 1 + 1, by go_num, by omega, bmT_next HT.out (HK.out.trans HM.out), HB5.out⟩
                  case measure => simp [intOf]; omega
                · have hm2 : (mayE d.t == 0) = false := by simpa using hm
                  have HM := hide hm
                  clear hm
                  go_wp2_with fail
                  go_ret
                  exact ⟨ret_int (bmT_err hlt h40 HT.out HK.out HM.out).symm, HB5.out⟩
            · have hk00 : k = 0 := by omega
              subst hk00
              have HK := hide (bmK_first hlt (by rw [HN.out, HV.out]; rfl))
              simp only [Nat.zero_mul, Nat.add_zero] at d0 d1 d2
              generalize ls[0] = d at *
              go_wp2_with (first | (go_at_call 67; refine (isName_any _ _).mono ?_; rintro e w' ⟨rfl, rfl⟩; rw [HN.out]) | (go_at_call 68; refine (isVariable_all _ _).mono ?_; rintro e w' ⟨rfl, rfl⟩; rw [HV.out]))
              go_quiet (fail)
              go_wp2_with fail
              refine (check_any d.t _ _ X (by exact ⟨a', c', rfl, (HX.out.later ((Below.refl _ _).alloc (Nat.le_refl _) _)).kept fun _ _ => rfl⟩)).mono ?_
              rintro e w5 ⟨rfl, hb5⟩
              have HB5 := hide ((below_drewN (HB.out.alloc HB.out.size (.cells #[.string d.nm, .string d.t.name, .slice a' d.t.args.length c'] 55)) nq).trans (hb5.mono (by have := HB.out.size; simp; omega)))
              clear hb5
              by_cases hm : mayE d.t = 0
              · have HM := hide hm
                rw [hm]
                clear hm
                go_wp2_with fail
                go_roundw
                case rel => exact ⟨1, by go_num, by omega, bmT_next HT.out (HK.out.trans HM.out), HB5.out⟩
                case measure => simp [intOf]; omega
              · have hm2 : (mayE d.t == 0) = false := by simpa using hm
                have HM := hide hm
                clear hm
                go_wp2_with fail
                go_ret
                exact ⟨ret_int (bmT_err hlt h40 HT.out HK.out HM.out).symm, HB5.out⟩
      · have hkl : k = ls.length := by omega
        go_wp2_with fail
        go_ret
        exact ⟨ret_int (by unfold bindsE; rw [if_neg h40, ← hkl]; exact HT.out.symm), HB.out⟩
#print axioms scheck_any
end Go.Proofs.Ytpjdkdebjkpmmab

/- Walks: Apply. -/
namespace Go.Proofs.Ytpjdkdebjkpmmab
open Go.RowKit
set_option linter.unusedSimpArgs false
set_option linter.unusedVariables false
set_option maxRecDepth 8000

def ApPost (w : World) (ls : List Bd) (t : Tm) (e : Ending) (w' : World) : Prop :=
  Below w.heap.size w w' ∧ ((bindsE ls ≠ 0 ∧ e = .returned (.tuple #[.agg #[.string ⟨#[]⟩, .slice none 0 0], .int .i64 (bindsE ls)])) ∨ (bindsE ls = 0 ∧ mayE t ≠ 0 ∧ e = .returned (.tuple #[.agg #[.string ⟨#[]⟩, .slice none 0 0], .int .i64 (mayE t)])) ∨
    (bindsE ls = 0 ∧ mayE t = 0 ∧ ((sizeL [fT ls t] ≤ 2000 ∧ ∃ a' c', e = .returned (.tuple #[.agg #[.string (fT ls t).name, .slice a' (fT ls t).args.length c'], .int .i64 0]) ∧ Sl w' (fun b => w.heap.size ≤ b) a' (fT ls t).args) ∨ (2000 < sizeL [fT ls t] ∧ e = .returned (.tuple #[.agg #[.string ⟨#[]⟩, .slice none 0 0], .int .i64 8])))))

set_option maxHeartbeats 1000000 in
theorem apply_any (ls : List Bd) (t : Tm) (u v : Value) (w : World) (X : Nat → Prop) (hu : BV w X u ls) (hv : TV w X v t) (ho : bindsE ls = 0 → Once ls) :
    Calls Try.prog 35 #[u, v] w fun e w' => ApPost w ls t e w' := by
  obtain ⟨a, c, rfl, hs⟩ := hv
  have HU := hide (hu.mono (Y := fun b => X b ∧ b < w.heap.size) fun b h1 h2 => ⟨h1, h2⟩)
  have HS := hide (hs.mono (Y := fun b => X b ∧ b < w.heap.size) fun b h1 h2 => ⟨h1, h2⟩)
  have HO := hide ho
  clear hu hs ho
  have HB2 : Hid (∀ o o', Below w.heap.size w ((w.alloc o).alloc o')) := fun o o' => ((Below.refl w.heap.size w).alloc (Nat.le_refl _) _).alloc (by simp) _
  go_enter Try.func35, Try.ntmps35
  go_wp2_with fail
  have HB3 : Hid (Below w.heap.size w ((w.alloc (.cells #[.string t.name, .slice a t.args.length c] 29)).alloc (.cells #[.string ⟨#[]⟩, .slice none 0 0] 29))) := (((Below.refl w.heap.size w).alloc (Nat.le_refl _) _).alloc (by simp) _)
  have T3 := hide ((Blk.new w #[.string t.name, .slice a t.args.length c] 29).alloc (.cells #[.string ⟨#[]⟩, .slice none 0 0] 29))
  have R3 : Hid (Blk ((w.alloc (.cells #[.string t.name, .slice a t.args.length c] 29)).alloc (.cells #[.string ⟨#[]⟩, .slice none 0 0] 29)) (w.heap.size + 1) #[.string ⟨#[]⟩, .slice none 0 0] 29) := by
    have h := (Blk.new (w.alloc (.cells #[.string t.name, .slice a t.args.length c] 29)) #[.string ⟨#[]⟩, .slice none 0 0] 29)
    unfold Hid
    simpa using h
  have z3 : ((w.alloc (.cells #[.string t.name, .slice a t.args.length c] 29)).alloc (.cells #[.string ⟨#[]⟩, .slice none 0 0] 29)).heap.size = w.heap.size + 2 := by simp
  clear HB2
  generalize ((w.alloc (.cells #[.string t.name, .slice a t.args.length c] 29)).alloc (.cells #[.string ⟨#[]⟩, .slice none 0 0] 29)) = w3 at *
  refine (scheck_any ls u w3 _ (HU.out.later HB3.out)).mono ?_
  rintro e w4 ⟨rfl, hb4⟩
  have HB4 := hide hb4
  clear hb4
  have r04 : w4.cell? ⟨w.heap.size + 1, 0, none⟩ = some (.string ⟨#[]⟩) := (R3.out.below HB4.out R3.out.lt).cell 0
  have r14 : w4.cell? ⟨w.heap.size + 1, 1, none⟩ = some (.slice none 0 0) := (R3.out.below HB4.out R3.out.lt).cell 1
  have rf4 := (R3.out.below HB4.out R3.out.lt).frozen
  have t04 : w4.cell? ⟨w.heap.size, 0, none⟩ = some (.string t.name) := (T3.out.below HB4.out T3.out.lt).cell 0
  have t14 : w4.cell? ⟨w.heap.size, 1, none⟩ = some (.slice a t.args.length c) := (T3.out.below HB4.out T3.out.lt).cell 1
  by_cases hbe : bindsE ls = 0
  case neg =>
    go_wp2_with fail
    refine bodyPost_ret (v := .tuple #[.agg #[.string ⟨#[]⟩, .slice none 0 0], .int .i64 (bindsE ls)]) (by simp [results, Try.results35, go_sem, World.cell?_setCell_same, World.cell?_setCell_other, r04, r14]) rfl ?_
    exact ⟨((HB3.out.trans (HB4.out.mono (by omega))).setCell (by simp) _).setCell (by simp) _, Or.inl ⟨hbe, rfl⟩⟩
  have HOO := hide (HO.out hbe)
  have HBE := hide hbe
  rw [hbe]
  clear hbe
  go_wp2_with fail
  refine (check_any t _ w4 _ ⟨a, c, rfl, (HS.out.later HB3.out).later HB4.out⟩).mono ?_
  rintro e w5 ⟨rfl, hb5⟩
  have HB5 := hide (HB4.out.trans (hb5.mono HB4.out.size))
  clear hb5 r04 r14 rf4 t04 t14
  have r05 : w5.cell? ⟨w.heap.size + 1, 0, none⟩ = some (.string ⟨#[]⟩) := (R3.out.below HB5.out R3.out.lt).cell 0
  have r15 : w5.cell? ⟨w.heap.size + 1, 1, none⟩ = some (.slice none 0 0) := (R3.out.below HB5.out R3.out.lt).cell 1
  have rf5 := (R3.out.below HB5.out R3.out.lt).frozen
  have t05 : w5.cell? ⟨w.heap.size, 0, none⟩ = some (.string t.name) := (T3.out.below HB5.out T3.out.lt).cell 0
  have t15 : w5.cell? ⟨w.heap.size, 1, none⟩ = some (.slice a t.args.length c) := (T3.out.below HB5.out T3.out.lt).cell 1
  by_cases hme : mayE t = 0
  case neg =>
    go_wp2_with fail
    refine bodyPost_ret (v := .tuple #[.agg #[.string ⟨#[]⟩, .slice none 0 0], .int .i64 (mayE t)]) (by simp [results, Try.results35, go_sem, World.cell?_setCell_same, World.cell?_setCell_other, r05, r15]) rfl ?_
    exact ⟨((HB3.out.trans (HB5.out.mono (by omega))).setCell (by simp) _).setCell (by simp) _, Or.inr (Or.inl ⟨HBE.out, hme, rfl⟩)⟩
  have HME := hide hme
  rw [hme]
  clear hme
  go_wp2_with fail
  have nR : w.heap.size + 1 ≠ w.heap.size := by omega
  have KP : Hid (∀ w', Below w3.heap.size w3 w' → w'.cell? ⟨w.heap.size, 0, none⟩ = some (.string t.name) ∧ w'.cell? ⟨w.heap.size, 1, none⟩ = some (.slice a t.args.length c)) := fun w' hb => ⟨(T3.out.below hb T3.out.lt).cell 0, (T3.out.below hb T3.out.lt).cell 1⟩
  have BYA : Hid (∀ w', Below w3.heap.size w3 w' → Calls Try.prog 64 #[u] w' fun e w'' => ∃ q L, e = .returned (.map (some q)) ∧ MapAt w'' q L ∧ PairsL w'' (fun b => X b ∧ b < w.heap.size) ls L ∧ Below w3.heap.size w3 w'') := fun w' hb => by
    refine (byName_any ls HOO.out u w' _ ((HU.out.later HB3.out).later hb)).mono ?_
    rintro e w6 ⟨L, rfl, hm6, hp6, hb6⟩
    exact ⟨_, L, rfl, hm6, hp6.imp fun a l hs => hs.mono fun b h _ => h.1, hb.trans (hb6.mono hb.size)⟩
  have LKA : Hid (∀ q w', Calls Try.prog 63 #[.map (some q)] w' fun e w'' => ∃ B, e = .returned (.func (.func 90) #[] #[.pointer (some ⟨B, 0, none⟩)]) ∧ (∀ L, MapAt w' q L → PairsL w' (fun b => X b ∧ b < w.heap.size) ls L → Env w'' B q (fun b => X b ∧ b < w.heap.size) ls L) ∧ (Below w3.heap.size w3 w' → Below w3.heap.size w3 w'')) := fun q w' => by
    refine (look_any q w').mono ?_
    rintro e w7 ⟨rfl, hw7⟩
    have hb7 : Below w'.heap.size w' w7 := by rw [hw7]; exact (Below.refl _ _).alloc (Nat.le_refl _) _
    exact ⟨_, rfl, fun L h1 h2 => ⟨by rw [hw7]; exact Blk.new w' _ _, h1.below hb7 h1.lt, h2.imp fun a l hs => hs.later hb7⟩, fun h => h.trans (hb7.mono h.size)⟩
  clear r05 r15 rf5
  by_cases hle : sizeL [fT ls t] ≤ 2000
  · have FIA : Hid (∀ B q L w', Env w' B q (fun b => X b ∧ b < w.heap.size) ls L → Below w3.heap.size w3 w' → Calls Try.prog 62 #[.agg #[.string t.name, .slice a t.args.length c], .func (.func 90) #[] #[.pointer (some ⟨B, 0, none⟩)]] w' fun e w'' => ∃ a' c', e = .returned (.tuple #[.agg #[.string (fT ls t).name, .slice a' (fT ls t).args.length c'], .int .i64 0]) ∧ Below w3.heap.size w3 w'' ∧ Sl w'' (fun b => w3.heap.size ≤ b) a' (fT ls t).args) := fun B q L w' hE hb => by
      refine (sfill_any B q ls L t a c w' _ ((HS.out.later HB3.out).later hb) hE).mono ?_
      rintro e w8 ⟨hb8, ⟨_, a', c', rfl, h8⟩ | ⟨h8, _⟩⟩
      · have := hb.size
        exact ⟨a', c', rfl, hb.trans (hb8.mono hb.size), h8.mono fun b hb _ => by omega⟩
      · omega
    go_region_held3 (fun w' => w'.cell? ⟨w.heap.size, 0, none⟩ = some (.string t.name) ∧ w'.cell? ⟨w.heap.size, 1, none⟩ = some (.slice a t.args.length c)) (first | exact hS | exact ⟨t05, t15⟩ | exact two_keep hS nR nR | exact two_keep (two_keep hS nR nR) nR nR | go_keep)
      (first
        | (go_at_call 64; refine (BYA.out _ (by first | exact HB5.out | exact HB5.out.drew | exact HB5.out.drew.drew)).mono ?_; rintro e w6 ⟨q, L, rfl, hm6, hp6, hb6⟩; have hS := KP.out _ hb6)
        | (go_at_call 63; refine (LKA.out _ _).mono ?_; rintro e w7 ⟨B, rfl, hf7, hg7⟩; have hb7 := hg7 (by first | exact hb6 | exact hb6.drew | exact hb6.drew.drew); have hE7 := hide (hf7 L hm6 hp6); have hS := KP.out _ hb7)
        | (go_at_call 62; refine (FIA.out _ _ L _ (by exact hE7.out) (by first | exact hb7 | exact hb7.drew | exact hb7.drew.drew)).mono ?_; rintro e w8 ⟨a8, c8, rfl, hb8, hs8⟩; have hS := KP.out _ hb8; have hR8 := hide (R3.out.below hb8 R3.out.lt); have r08 := hR8.out.cell 0; have r18 := hR8.out.cell 1; have rf8 := hR8.out.frozen))
    have HS8 := hide hs8
    have HB8 := hide hb8
    clear hs8 hb8
    go_wp2_with fail
    refine bodyPost_ret (v := .tuple #[.agg #[.string (fT ls t).name, .slice a8 (fT ls t).args.length c8], .int .i64 0]) (by simp [results, Try.results35, go_sem, World.cell?_setCell_same, World.cell?_setCell_other, r08, r18]) rfl ?_
    refine ⟨((HB3.out.trans (HB8.out.mono (by omega))).setCell (by simp) _).setCell (by simp) _, Or.inr (Or.inr ⟨HBE.out, HME.out, Or.inl ⟨hle, a8, c8, rfl, (HS8.out.kept fun b hb => ?_).mono fun b hb _ => by omega⟩⟩)⟩
    rw [Below.heap_setCell _ _ _ _ (by simp; omega), Below.heap_setCell _ _ _ _ (by simp; omega)]
  · have FIA : Hid (∀ B q L w', Env w' B q (fun b => X b ∧ b < w.heap.size) ls L → Below w3.heap.size w3 w' → Calls Try.prog 62 #[.agg #[.string t.name, .slice a t.args.length c], .func (.func 90) #[] #[.pointer (some ⟨B, 0, none⟩)]] w' fun e w'' => e = .returned (.tuple #[.agg #[.string ⟨#[]⟩, .slice none 0 0], .int .i64 8]) ∧ Below w3.heap.size w3 w'') := fun B q L w' hE hb => by
      refine (sfill_any B q ls L t a c w' _ ((HS.out.later HB3.out).later hb) hE).mono ?_
      rintro e w8 ⟨hb8, ⟨h8, _⟩ | ⟨_, rfl⟩⟩
      · omega
      · exact ⟨rfl, hb.trans (hb8.mono hb.size)⟩
    go_region_held3 (fun w' => w'.cell? ⟨w.heap.size, 0, none⟩ = some (.string t.name) ∧ w'.cell? ⟨w.heap.size, 1, none⟩ = some (.slice a t.args.length c)) (first | exact hS | exact ⟨t05, t15⟩ | exact two_keep hS nR nR | exact two_keep (two_keep hS nR nR) nR nR | go_keep)
      (first
        | (go_at_call 64; refine (BYA.out _ (by first | exact HB5.out | exact HB5.out.drew | exact HB5.out.drew.drew)).mono ?_; rintro e w6 ⟨q, L, rfl, hm6, hp6, hb6⟩; have hS := KP.out _ hb6)
        | (go_at_call 63; refine (LKA.out _ _).mono ?_; rintro e w7 ⟨B, rfl, hf7, hg7⟩; have hb7 := hg7 (by first | exact hb6 | exact hb6.drew | exact hb6.drew.drew); have hE7 := hide (hf7 L hm6 hp6); have hS := KP.out _ hb7)
        | (go_at_call 62; refine (FIA.out _ _ L _ (by exact hE7.out) (by first | exact hb7 | exact hb7.drew | exact hb7.drew.drew)).mono ?_; rintro e w8 ⟨rfl, hb8⟩; have hS := KP.out _ hb8; have hR8 := hide (R3.out.below hb8 R3.out.lt); have r08 := hR8.out.cell 0; have r18 := hR8.out.cell 1; have rf8 := hR8.out.frozen))
    have HB8 := hide hb8
    clear hb8
    go_wp2_with fail
    refine bodyPost_ret (v := .tuple #[.agg #[.string ⟨#[]⟩, .slice none 0 0], .int .i64 8]) (by simp [results, Try.results35, go_sem, World.cell?_setCell_same, World.cell?_setCell_other, r08, r18]) rfl ?_
    exact ⟨((HB3.out.trans (HB8.out.mono (by omega))).setCell (by simp) _).setCell (by simp) _, Or.inr (Or.inr ⟨HBE.out, HME.out, Or.inr ⟨by omega, rfl⟩⟩)⟩
#print axioms apply_any
end Go.Proofs.Ytpjdkdebjkpmmab

/- What is filled is what the document says; bindings that may be have each name once. -/
namespace Go.Proofs.Ytpjdkdebjkpmmab
open Go.RowKit
set_option linter.unusedSimpArgs false
set_option linter.unusedVariables false

theorem bmT_all {ls : List Bd} : ∀ n, bmT ls n = 0 → ∀ k, k < n → bmK ls k = 0
  | 0, _, k, hk => by omega
  | n + 1, h, k, hk => by
    rw [bmT] at h
    by_cases h0 : bmT ls n = 0
    · rw [if_pos h0] at h
      by_cases e : k = n
      · rw [e]; exact h
      · exact bmT_all n h0 k (by omega)
    · rw [if_neg h0] at h
      exact absurd h h0
theorem bindsE_all {ls : List Bd} (h : bindsE ls = 0) : ∀ k, k < ls.length → bmK ls k = 0 := by
  unfold bindsE at h
  split at h
  · cases h
  · exact bmT_all _ h
theorem bindsE_at {ls : List Bd} (h : bindsE ls = 0) (k : Nat) (hk : k < ls.length) : varB ls[k].nm = true ∧ mayE ls[k].t = 0 := by
  have h1 := bindsE_all h k hk
  cases hv : (nameB ls[k].nm && varB ls[k].nm) with
  | false => rw [bmK_name hk hv] at h1; cases h1
  | true =>
    refine ⟨by simp at hv; exact hv.2, ?_⟩
    cases k with
    | zero => rw [bmK_first hk hv] at h1; exact h1
    | succ j =>
      cases hl : leB ls[j + 1].nm (ls[j]'(by omega)).nm with
      | true => rw [bmK_order hk hv hl] at h1; cases h1
      | false => rw [bmK_may hk hv hl] at h1; exact h1
theorem bindsE_rise {ls : List Bd} (h : bindsE ls = 0) (j : Nat) (hk : j + 1 < ls.length) : leB ls[j + 1].nm (ls[j]'(by omega)).nm = false := by
  have h1 := bindsE_all h (j + 1) hk
  cases hv : (nameB ls[j + 1].nm && varB ls[j + 1].nm) with
  | false => rw [bmK_name hk hv] at h1; cases h1
  | true =>
    cases hl : leB ls[j + 1].nm (ls[j]'(by omega)).nm with
    | true => rw [bmK_order hk hv hl] at h1; cases h1
    | false => rfl

theorem forT_mem {s : ByteArray} {x : Tm} : ∀ {ls : List Bd}, forT ls s = some x → ∃ d, d ∈ ls ∧ d.nm = s ∧ d.t = x
  | [], h => by cases h
  | d :: r, h => by
    rw [forT] at h
    split at h
    · rename_i e
      exact ⟨d, by simp, e, by simpa using h⟩
    · obtain ⟨d', h1, h2, h3⟩ := forT_mem h
      exact ⟨d', by simp [h1], h2, h3⟩
theorem forT_var {ls : List Bd} (h : bindsE ls = 0) {s : ByteArray} {x : Tm} (hf : forT ls s = some x) : varB s = true ∧ mayE x = 0 := by
  obtain ⟨d, hd, rfl, rfl⟩ := forT_mem hf
  obtain ⟨k, hk, rfl⟩ := List.getElem_of_mem hd
  exact bindsE_at h k hk

theorem fN_onN {ls : List Bd} (h : bindsE ls = 0) (s : ByteArray) (a bs : List Tm) (hv : varB s = true → a = []) : fN ls s bs = onN ls s a bs := by
  unfold fN onN
  cases hs : varB s with
  | true => rw [hv hs]; cases forT ls s <;> rfl
  | false =>
    cases hf : forT ls s with
    | none => rfl
    | some x => rw [(forT_var h hf).1] at hs; cases hs
theorem errL_parts {s : ByteArray} {a r : List Tm} (h : errL (⟨s, a⟩ :: r) = 0) : (varB s = true → a = []) ∧ errL a = 0 ∧ errL r = 0 := by
  rw [errL] at h
  split at h
  · split at h
    · cases h
    · rename_i h1 h2
      split at h
      · rename_i h3
        refine ⟨fun hv => ?_, h3, h⟩
        cases a with
        | nil => rfl
        | cons x y => simp [hv] at h2
      · rename_i h3; exact absurd h h3
  · cases h
theorem fL_onL {ls : List Bd} (h : bindsE ls = 0) : ∀ l : List Tm, errL l = 0 → fL ls l = onL ls l
  | [], _ => by simp [fL, onL]
  | ⟨s, a⟩ :: r, he => by
    obtain ⟨h1, h2, h3⟩ := errL_parts he
    rw [fL, onL, fL_onL h a h2, fL_onL h r h3, fN_onN h s a _ h1]
theorem fT_onT {ls : List Bd} (h : bindsE ls = 0) (t : Tm) (ht : mayE t = 0) : fT ls t = onT ls t := by
  unfold mayE at ht
  split at ht
  · cases ht
  · obtain ⟨s, a⟩ := t
    obtain ⟨h1, h2, _⟩ := errL_parts ht
    unfold fT onT
    rw [fL_onL h a h2, fN_onN h s a _ h1]

theorem leL_cons (x y : UInt8) (xs ys : List UInt8) : (Op.bytesLess (x :: xs) (y :: ys) || (x :: xs == y :: ys)) = (decide (x < y) || ((x == y) && (Op.bytesLess xs ys || (xs == ys)))) := by
  rw [Op.bytesLess]
  have e : (x :: xs == y :: ys) = ((x == y) && (xs == ys)) := rfl
  rw [e]
  cases decide (x < y) <;> cases (x == y) <;> cases Op.bytesLess xs ys <;> cases (xs == ys) <;> rfl
theorem leL_trans : ∀ a b c : List UInt8, (Op.bytesLess b a || (b == a)) = false → (Op.bytesLess c b || (c == b)) = false → (Op.bytesLess c a || (c == a)) = false
  | [], [], _, h, _ => by simp at h
  | _ :: _, [], _, h, _ => by simp [Op.bytesLess] at h
  | _, _ :: _, [], _, h => by simp [Op.bytesLess] at h
  | [], b :: bs, c :: cs, _, _ => by simp [Op.bytesLess]
  | a :: ar, b :: bs, c :: cs, h1, h2 => by
    rw [leL_cons] at h1 h2 ⊢
    have ih := leL_trans ar bs cs
    simp only [Bool.or_eq_false_iff, decide_eq_false_iff_not] at h1 h2 ⊢
    obtain ⟨h1, h3⟩ := h1
    obtain ⟨h2, h4⟩ := h2
    rw [UInt8.lt_iff_toNat_lt] at h1 h2 ⊢
    refine ⟨by omega, ?_⟩
    cases hc : (c == a) with
    | false => rfl
    | true =>
      have e : c = a := by simpa using hc
      subst e
      have e2 : b = c := UInt8.toNat_inj.mp (by omega)
      subst e2
      simp only [BEq.rfl, Bool.true_and, Bool.or_eq_false_iff] at h3 h4 ⊢
      have h5 := ih (by simp [h3.1, h3.2]) (by simp [h4.1, h4.2])
      simpa using h5
theorem bindsE_far {ls : List Bd} (h : bindsE ls = 0) (i : Nat) : ∀ d (hk : i + 1 + d < ls.length), leB (ls[i + 1 + d]).nm (ls[i]'(by omega)).nm = false
  | 0, hk => bindsE_rise h i hk
  | d + 1, hk => by
    have h1 := bindsE_far h i d (by omega)
    have h2 := bindsE_rise h (i + 1 + d) hk
    exact leL_trans _ _ _ h1 h2
theorem bindsE_once {ls : List Bd} (h : bindsE ls = 0) : Once ls := by
  intro k hk
  cases hf : forT (ls.take k) ls[k].nm with
  | none => rfl
  | some x =>
    obtain ⟨d, hd, hn, _⟩ := forT_mem hf
    obtain ⟨i, hi, rfl⟩ := List.getElem_of_mem hd
    have hik : i < k := by simp at hi; omega
    rw [List.getElem_take] at hn
    obtain ⟨e, rfl⟩ : ∃ e, k = i + 1 + e := ⟨k - (i + 1), by omega⟩
    have h1 := bindsE_far h i e hk
    rw [hn] at h1
    simp [leB] at h1

/-- Apply, in the document's words. -/
theorem apply_on (ls : List Bd) (t : Tm) (u v : Value) (w : World) (X : Nat → Prop) (hu : BV w X u ls) (hv : TV w X v t) :
    Calls Try.prog 35 #[u, v] w fun e w' => ApPost w ls t e w' := apply_any ls t u v w X hu hv bindsE_once
#print axioms apply_on
end Go.Proofs.Ytpjdkdebjkpmmab

/- Lists of things of one cell each. -/
namespace Go.Proofs.Ytpjdkdebjkpmmab
open Go.RowKit
set_option linter.unusedSimpArgs false
set_option linter.unusedVariables false

/-- A list in memory, a cell each. -/
def LV {α : Type} (f : α → Value) (w : World) (X : Nat → Prop) (v : Value) (l : List α) : Prop :=
  ∃ a c, v = .slice a l.length c ∧ (l.length ≤ 9223372036854775807 ∧ l.length ≤ c) ∧ (l = [] ∨ ∃ b o, a = some ⟨b, o, none⟩ ∧ X b ∧ ∀ i (h : i < l.length), w.cell? ⟨b, o + i, none⟩ = some (f l[i]))

theorem LV.kept {α : Type} {f : α → Value} {w w' : World} {X : Nat → Prop} {v : Value} {l : List α} (h : LV f w X v l) (hk : ∀ b, X b → w'.heap[b]? = w.heap[b]?) : LV f w' X v l := by
  obtain ⟨a, c, e, hl, h⟩ := h
  refine ⟨a, c, e, hl, ?_⟩
  rcases h with h | ⟨b, o, e, hx, h⟩
  · exact Or.inl h
  · exact Or.inr ⟨b, o, e, hx, fun i hi => by rw [World.cell?_of_block (hk b hx)]; exact h i hi⟩

theorem LV.mono {α : Type} {f : α → Value} {w : World} {X Y : Nat → Prop} {v : Value} {l : List α} (h : LV f w X v l) (hk : ∀ b, X b → b < w.heap.size → Y b) : LV f w Y v l := by
  obtain ⟨a, c, e, hl, h⟩ := h
  refine ⟨a, c, e, hl, ?_⟩
  rcases h with h | ⟨b, o, e, hx, h⟩
  · exact Or.inl h
  · by_cases h0 : l = []
    · exact Or.inl h0
    · have hp : 0 < l.length := List.length_pos_iff.2 h0
      exact Or.inr ⟨b, o, e, hk b hx (World.block_lt_of_cell? w _ (h 0 hp)), h⟩

theorem LV.below {α : Type} {f : α → Value} {w w' : World} {X : Nat → Prop} {v : Value} {l : List α} {B : Nat} (h : LV f w X v l) (hb : Below B w w') (hX : ∀ b, X b → b < w.heap.size → b < B) : LV f w' X v l := by
  have h1 : LV f w (fun b => X b ∧ b < B) v l := h.mono fun b hx hs => ⟨hx, hX b hx hs⟩
  have h2 : LV f w' (fun b => X b ∧ b < B) v l := h1.kept fun b hx => hb.block b hx.2
  exact h2.mono fun b hx _ => hx.1

theorem LV.later {α : Type} {f : α → Value} {w w' : World} {X : Nat → Prop} {v : Value} {l : List α} (h : LV f w X v l) (hb : Below w.heap.size w w') : LV f w' X v l := h.below hb (fun _ _ h => h)
theorem LV.alloc {α : Type} {f : α → Value} {w : World} {X : Nat → Prop} {v : Value} {l : List α} (h : LV f w X v l) (o : Obj) : LV f (w.alloc o) X v l := h.later ((Below.refl _ _).alloc (Nat.le_refl _) o)

/-- Out of a row that a call owns. -/
theorem LV.of_own {α : Type} {f : α → Value} {w : World} {N T : Nat} {v : Value} {l : List α} (h : w.ownsRow N T 1 v l.length (l.map f)) : LV f w (fun b => N ≤ b) v l := by
  have h' := h
  obtain ⟨_, h1⟩ := h
  rcases h1 with ⟨rfl, h0⟩ | ⟨g, cap, cur, hv, hg, hh, hnc, hcm, _⟩
  · have e : l = [] := List.length_eq_zero_iff.1 h0
    subst e
    exact ⟨none, 0, rfl, by simp, Or.inl rfl⟩
  · unfold maxLen at hcm
    refine ⟨some ⟨g, 0, none⟩, cap, hv, ⟨by omega, hnc⟩, ?_⟩
    by_cases h0 : l = []
    · exact Or.inl h0
    · have hp : 0 < l.length := List.length_pos_iff.2 h0
      obtain ⟨g2, cap2, hv2, _, _, hc⟩ := owned_val h' hp
      rw [hv] at hv2
      simp at hv2
      obtain ⟨rfl, rfl⟩ := hv2
      exact Or.inr ⟨g, 0, rfl, hg, fun i hi => by rw [Nat.zero_add]; exact hc i _ (by simp [hi])⟩
#print axioms LV.of_own
end Go.Proofs.Ytpjdkdebjkpmmab


/- Walks: lists that are the same; whether a text is in a list. -/
namespace Go.Proofs.Ytpjdkdebjkpmmab
open Go.RowKit
set_option linter.unusedSimpArgs false
set_option linter.unusedVariables false

/-- Is a text in a list? -/
def inB (x : ByteArray) (l : List ByteArray) : Bool := l.any fun y => y.toList == x.toList
theorem inB_take {x : ByteArray} {l : List ByteArray} {k : Nat} (h : k < l.length) (h0 : inB x (l.take k) = false) (h1 : (l[k].toList == x.toList) = false) : inB x (l.take (k + 1)) = false := by
  unfold inB at *
  rw [List.take_succ_eq_append_getElem h, List.any_append, h0]
  simpa using h1
theorem inB_yes {x : ByteArray} {l : List ByteArray} {k : Nat} (h : k < l.length) (h1 : (l[k].toList == x.toList) = true) : inB x l = true := by
  unfold inB
  rw [List.any_eq_true]
  exact ⟨l[k], List.getElem_mem h, h1⟩

set_option maxHeartbeats 400000 in
theorem in_any (x : ByteArray) (l : List ByteArray) (v : Value) (w : World) (X : Nat → Prop) (hv : LV Value.string w X v l) :
    Calls Try.prog 55 #[.string x, v] w fun e w' => e = .returned (.bool (inB x l)) ∧ w' = w := by
  obtain ⟨a, c, rfl, ⟨hl, _⟩, h1⟩ := hv
  go_enter Try.func55, Try.ntmps55
  go_wp2_with fail
  go_loop [5] (fun i => ∃ k : Nat, k ≤ l.length ∧ i = .int .i64 k ∧ inB x (l.take k) = false) (fun i => l.length - (intOf i).toNat)
  case atStart => exact ⟨0, Nat.zero_le _, rfl, by simp [inB]⟩
  case round =>
    obtain ⟨k, hk, rfl, ha⟩ := hrel
    have HA := hide ha
    clear ha
    by_cases hlt : k < l.length
    · obtain ⟨b, o, rfl, _, hc⟩ := h1.resolve_left (fun h => by rw [h] at hlt; simp at hlt)
      have d1 := hc k hlt
      clear hc h1
      cases hq : (l[k].toList == x.toList) with
      | true =>
        have HQ := hide (inB_yes hlt hq)
        go_wp2_with fail
        go_ret
        exact ⟨ret_bool HQ.out.symm, rfl⟩
      | false =>
        have HQ := hide (inB_take hlt HA.out hq)
        go_wp2_with fail
        go_round
        case rel => exact ⟨k + 1, by omega, by go_num, HQ.out⟩
        case measure => simp [intOf]; omega
    · have htk : l.take k = l := List.take_of_length_le (by omega)
      have HF : Hid (false = inB x l) := by unfold Hid; rw [← HA.out, htk]
      go_wp2_with fail
      go_ret
      exact ⟨ret_bool HF.out, rfl⟩
#print axioms in_any
end Go.Proofs.Ytpjdkdebjkpmmab


/- Walks: the variables of a term, each once. -/
namespace Go.Proofs.Ytpjdkdebjkpmmab
open Go.RowKit
set_option linter.unusedSimpArgs false
set_option linter.unusedVariables false

theorem Try.infoStr : (Try.prog.info? 9).map (fun i => (i.zero, i.size, i.bytes)) = some (some (.string ByteArray.empty), 1, 16) := by kernel_rfl

theorem beq_comm' (a b : ByteArray) : (a.toList == b.toList) = (b.toList == a.toList) := by
  rw [Bool.eq_iff_iff]; simp; exact eq_comm

/-- A variable more. -/
def addV (acc : List ByteArray) (s : ByteArray) : List ByteArray := if (varB s && !inB s acc) = true then acc ++ [s] else acc
/-- The variables of knots, as they come. -/
def varsP (acc : List ByteArray) (ks : List Tm) : List ByteArray := ks.foldl (fun acc k => addV acc k.name) acc

theorem addV_yes {acc : List ByteArray} {s : ByteArray} (h : varB s = true) (h2 : inB s acc = false) : addV acc s = acc ++ [s] := by simp [addV, h, h2]
theorem addV_in {acc : List ByteArray} {s : ByteArray} (h : varB s = true) (h2 : inB s acc = true) : addV acc s = acc := by simp [addV, h, h2]
theorem addV_no {acc : List ByteArray} {s : ByteArray} (h : varB s = false) : addV acc s = acc := by simp [addV, h]
theorem addV_len (acc : List ByteArray) (s : ByteArray) : (addV acc s).length ≤ acc.length + 1 := by
  unfold addV; split <;> simp
theorem varsP_append (acc : List ByteArray) (a b : List Tm) : varsP acc (a ++ b) = varsP (varsP acc a) b := by simp [varsP, List.foldl_append]
theorem varsP_len (ks : List Tm) : ∀ acc, (varsP acc ks).length ≤ acc.length + ks.length := by
  induction ks with
  | nil => intro acc; simp [varsP]
  | cons k r ih => intro acc; have := ih (addV acc k.name); have h2 := addV_len acc k.name; simp only [varsP, List.foldl_cons, List.length_cons] at *; omega
theorem varsP_take (acc : List ByteArray) (ks : List Tm) (k : Nat) (h : k < ks.length) : varsP acc (ks.take (k + 1)) = addV (varsP acc (ks.take k)) ks[k].name := by
  rw [List.take_succ_eq_append_getElem h, varsP_append]; rfl

set_option maxHeartbeats 1000000 in
theorem varsOf_any (t : Tm) (v : Value) (w : World) (X : Nat → Prop) (hv : TV w X v t) (hsm : sizeL [t] ≤ 1000000) :
    Calls Try.prog 56 #[v] w fun e w' => ∃ v', e = .returned v' ∧ LV Value.string w' (fun b => w.heap.size ≤ b) v' (varsP [] (preL [t])) ∧ Below w.heap.size w w' := by
  obtain ⟨a, c, rfl, hs⟩ := hv
  have HV := hide (show TV w X (.agg #[.string t.name, .slice a t.args.length c]) t from ⟨a, c, rfl, hs⟩)
  clear hs
  obtain ⟨i0, hi, hz0, hz1, hz2⟩ := info_parts Try.infoStr
  go_enter Try.func56, Try.ntmps56
  go_wp2_with fail
  refine (knots_any t _ _ X (by exact HV.out.alloc _) hsm).mono ?_
  rintro e w2 ⟨v2, xs, rfl, hown, hrow, hb3⟩
  have hpos : 0 < sizeL [t] := by obtain ⟨s', l'⟩ := t; simp [sizeL]; omega
  obtain ⟨g, cap, rfl, hg, hg', hcel⟩ := owned_val hown hpos
  have hb4 := hide (((Below.refl w.heap.size w).alloc (Nat.le_refl _) (.cells #[.string t.name, .slice a t.args.length c] 29)).trans (hb3.mono (by simp)))
  have HROW := hide hrow
  have HCEL := hide hcel
  have hpl := preL_length [t]
  generalize hkse : preL [t] = ks at *
  have HKSE := hide hkse
  clear hkse
  have hks : ks.length ≤ 1000000 := by omega
  rw [← hpl]
  clear hown hrow hcel hb3 hpl hpos hsm
  go_wp2_with fail
  go_loopw [4, 5] (fun q i wr => ∃ k : Nat, k ≤ ks.length ∧ i = .int .i64 k ∧ wr.ownsRow w2.heap.size 9 1 q (varsP [] (ks.take k)).length ((varsP [] (ks.take k)).map Value.string) ∧ Below w2.heap.size w2 wr) (fun q i wr => ks.length - (intOf i).toNat)
  case atStart => exact ⟨0, Nat.zero_le _, rfl, by simpa [varsP] using World.ownsRow_nil w2 w2.heap.size 9 1, Below.refl _ _⟩
  case round =>
    obtain ⟨k, hk, rfl, hown, hb⟩ := hrel
    have HOWN := hide hown
    have HB := hide hb
    by_cases hlt : k < ks.length
    · obtain ⟨x0, a', c', x1, hsl⟩ := HROW.out.get k hlt
      have d0 := cell_later hb (HCEL.out _ _ x0)
      have HT := hide (varsP_take [] ks k hlt)
      have hlen0 := varsP_len (ks.take k) []
      have hlen : (varsP [] (ks.take k)).length ≤ 1000000 := by
        have : (ks.take k).length ≤ k := List.length_take_le _ _
        simp at hlen0; omega
      clear x0 x1 hsl hown hb hlen0
      generalize hacc : varsP [] (ks.take k) = acc at *
      have HACC := hide hacc
      clear hacc
      cases hvb : varB ks[k].name with
      | false =>
        have HN := hide (addV_no (acc := acc) hvb)
        have HVB := hide hvb
        clear hvb
        go_wp2_with (go_at_call 54; refine (isVarR_any _ _).mono ?_; rintro e w' ⟨rfl, rfl⟩; rw [HVB.out])
        go_roundw
        case rel => exact ⟨k + 1, by omega, by go_num, by rw [HT.out, HN.out]; exact HOWN.out, HB.out⟩
        case measure => simp [intOf]; omega
      | true =>
        have HVB := hide hvb
        cases hin : inB ks[k].name acc with
        | true =>
          have HN := hide (addV_in hvb hin)
          have HIN := hide hin
          clear hvb hin
          go_wp2_with (first | (go_at_call 54; refine (isVarR_any _ _).mono ?_; rintro e w' ⟨rfl, rfl⟩; rw [HVB.out]) | (go_at_call 55; refine (in_any _ _ _ _ _ (LV.of_own HOWN.out)).mono ?_; rintro e w' ⟨rfl, rfl⟩; rw [HIN.out]))
          go_roundw
          case rel => exact ⟨k + 1, by omega, by go_num, by rw [HT.out, HN.out]; exact HOWN.out, HB.out⟩
          case measure => simp [intOf]; omega
        | false =>
          have HN := hide (addV_yes hvb hin)
          have HIN := hide hin
          clear hvb hin
          obtain ⟨q2, w3, hr2, hown2, hgr2, _⟩ := run_append_own (P := Try.prog) (wr.alloc (.cells #[.string ks[k].name] 9)) w2.heap.size 52 52 9 i0 _ 1 16 Try.underlying52 hi hz0 hz1 hz2 rfl (by decide) _ acc.length (acc.map Value.string) (HOWN.out.alloc _)
            ⟨wr.heap.size, 0, none⟩ 1 1 [.string ks[k].name] rfl (cell_one_new _ _ _) (fun x hx => by simp at hx; subst hx; rfl) (by unfold maxLen; omega) (by omega) (by have := HB.out.size; simp; omega)
          have HR := hide hr2
          have HO2 := hide hown2
          have HB2 := hide ((HB.out.alloc HB.out.size _).grown hgr2 (by have := HB.out.size; simp; omega) (fun j hj => (HOWN.out.lt j hj).1))
          clear hr2 hown2 hgr2
          go_wp2_with (first | (go_at_call 54; refine (isVarR_any _ _).mono ?_; rintro e w' ⟨rfl, rfl⟩; rw [HVB.out]) | (go_at_call 55; refine (in_any _ _ _ _ _ (LV.of_own HOWN.out)).mono ?_; rintro e w' ⟨rfl, rfl⟩; rw [HIN.out]) | (at_builtin; refine wpList_append_eq rfl _ _ _ _ rfl rfl rfl HR.out ?_))
          go_roundw
          case rel => exact ⟨k + 1, by omega, by go_num, by rw [HT.out, HN.out]; simpa using HO2.out, HB2.out⟩
          case measure => simp [intOf]; omega
    · have htk : ks.take k = ks := List.take_of_length_le (by omega)
      rw [htk] at hown
      have HO := hide hown
      clear hown hb
      go_wp2_with fail
      go_ret
      exact ⟨_, rfl, by rw [HKSE.out]; exact (LV.of_own HO.out).mono fun b hb _ => Nat.le_trans hb4.out.size hb, hb4.out.trans (HB.out.mono hb4.out.size)⟩

theorem grown_trans {w w1 w2 : World} {r r1 : Option Nat} (h : w.grownBy w1 r) (h1 : w1.grownBy w2 r1) (hr : ∀ k, r1 = some k → r = some k ∨ w.heap.size ≤ k) : w.grownBy w2 r :=
  ⟨h1.os.trans h.os, h1.tape.trans h.tape, h1.output.trans h.output, Nat.le_trans h.size h1.size, fun k hk hne => (h1.block k (Nat.lt_of_lt_of_le hk h.size) (fun e => by
    rcases hr k e.symm with h2 | h2
    · exact hne h2.symm
    · omega)).trans (h.block k hk hne)⟩

theorem grown_of_below {w w' : World} (hb : Below w.heap.size w w') (r : Option Nat) : w.grownBy w' r := ⟨hb.os, hb.tape, hb.output, hb.size, fun k hk _ => hb.block k hk⟩

theorem TV.grown {w w' : World} {X : Nat → Prop} {v : Value} {t : Tm} {r : Option Nat} (h : TV w X v t) (hg : w.grownBy w' r) (hX : ∀ b, X b → some b ≠ r) : TV w' X v t := by
  have h1 : TV w (fun b => X b ∧ b < w.heap.size) v t := h.mono fun b h1 h2 => ⟨h1, h2⟩
  have h2 : TV w' (fun b => X b ∧ b < w.heap.size) v t := h1.kept fun b hx => hg.block b hx.2 (hX b hx.1)
  exact h2.mono fun b hx _ => hx.1

/-- What stays true of a row of texts while it is added to. -/
def NamesAt (w0 : World) (B : Nat) (q0 : Value) (acc : List ByteArray) (q : Value) (wr : World) : Prop :=
  wr.ownsRow B 9 1 q acc.length (acc.map Value.string) ∧ w0.grownBy wr q0.ownBlock ∧ (∀ k, q.ownBlock = some k → q0.ownBlock = some k ∨ w0.heap.size ≤ k)

theorem NamesAt.step {w0 w1 w2 : World} {B : Nat} {q0 q1 q2 : Value} {acc1 acc2 : List ByteArray} (h1 : NamesAt w0 B q0 acc1 q1 w1) (h2 : NamesAt w1 B q1 acc2 q2 w2) : NamesAt w0 B q0 acc2 q2 w2 := by
  refine ⟨h2.1, grown_trans h1.2.1 h2.2.1 h1.2.2, fun k hk => ?_⟩
  rcases h2.2.2 k hk with h | h
  · exact h1.2.2 k h
  · exact Or.inr (Nat.le_trans h1.2.1.size h)

theorem NamesAt.below {w0 w1 w2 : World} {B : Nat} {q0 q1 : Value} {acc1 : List ByteArray} (h1 : NamesAt w0 B q0 acc1 q1 w1) (hb : Below w1.heap.size w1 w2) : NamesAt w0 B q0 acc1 q1 w2 :=
  ⟨h1.1.kept (w' := w2) (row := none) ⟨hb.os, hb.tape, hb.output, hb.size, fun j hj _ => hb.block j hj⟩ (by rcases Option.eq_none_or_eq_some (Value.ownBlock q1) with h | ⟨x, h⟩; exact Or.inl h; exact Or.inr (by rw [h]; simp)),
   grown_trans h1.2.1 (grown_of_below hb q1.ownBlock) h1.2.2, h1.2.2⟩
#print axioms varsOf_any
#print axioms NamesAt.step
end Go.Proofs.Ytpjdkdebjkpmmab

/- Small facts on terms and bindings: plain. -/
namespace Go.Proofs.Ytpjdkdebjkpmmab
open Go.RowKit
set_option linter.unusedSimpArgs false
set_option linter.unusedVariables false

theorem errL_name {s : ByteArray} {a r : List Tm} (h : errL (⟨s, a⟩ :: r) = 0) : nameB s = true := by
  rw [errL] at h
  split at h
  · assumption
  · cases h
theorem forT_of {l : List Bd} (ha : ApartB l) {d : Bd} (hd : d ∈ l) : forT l d.nm = some d.t := by
  induction l with
  | nil => cases hd
  | cons a r ih =>
    obtain ⟨h1, h2⟩ := List.pairwise_cons.1 ha
    rcases List.mem_cons.1 hd with rfl | hd
    · simp [forT]
    · rw [forT, if_neg (h1 d hd)]
      exact ih h2 hd
theorem forT_append (a b : List Bd) (n : ByteArray) : forT (a ++ b) n = (forT a n).or (forT b n) := by
  induction a with
  | nil => simp [forT]
  | cons d r ih =>
    rw [List.cons_append, forT, forT]
    split
    · rfl
    · exact ih
theorem onT_leaf (l : List Bd) (n : ByteArray) : onT l ⟨n, []⟩ = (forT l n).getD ⟨n, []⟩ := by
  cases h : forT l n with
  | none => rw [onT_deep (Or.inr h)]; simp [onL]
  | some t => rw [onT_some h]; rfl
theorem forT_some_of {ls : List Bd} {d : Bd} (h : d ∈ ls) : ∃ t, forT ls d.nm = some t := by
  induction ls with
  | nil => cases h
  | cons a r ih =>
    rw [forT]
    split
    · exact ⟨_, rfl⟩
    · rename_i hne
      rcases List.mem_cons.1 h with rfl | h
      · exact absurd rfl hne
      · exact ih h

theorem varsP_sub : ∀ (ks : List Tm) (acc : List ByteArray) (n : ByteArray), n ∈ varsP acc ks → n ∈ acc ∨ ∃ k ∈ ks, k.name = n ∧ varB n = true
  | [], acc, n, h => Or.inl (by simpa [varsP] using h)
  | k :: r, acc, n, h => by
    have e : varsP acc (k :: r) = varsP (addV acc k.name) r := rfl
    rw [e] at h
    rcases varsP_sub r _ n h with h1 | ⟨k', h1, h2⟩
    · cases hv : varB k.name with
      | false => rw [addV_no hv] at h1; exact Or.inl h1
      | true =>
        cases hi : inB k.name acc with
        | true => rw [addV_in hv hi] at h1; exact Or.inl h1
        | false =>
          rw [addV_yes hv hi] at h1
          rcases List.mem_append.1 h1 with h1 | h1
          · exact Or.inl h1
          · have e2 : n = k.name := by simpa using h1
            exact Or.inr ⟨k, by simp, e2.symm, by rw [e2]; exact hv⟩
    · exact Or.inr ⟨k', by simp [h1], h2⟩
theorem varsP_has : ∀ (ks : List Tm) (acc : List ByteArray), (∀ n ∈ acc, n ∈ varsP acc ks) ∧ ∀ k ∈ ks, varB k.name = true → k.name ∈ varsP acc ks
  | [], acc => ⟨fun n h => by simpa [varsP] using h, fun k h => by cases h⟩
  | k :: r, acc => by
    have e : varsP acc (k :: r) = varsP (addV acc k.name) r := rfl
    rw [e]
    obtain ⟨h1, h2⟩ := varsP_has r (addV acc k.name)
    have hsub : ∀ n ∈ acc, n ∈ addV acc k.name := fun n hn => by
      cases hv : varB k.name with
      | false => rw [addV_no hv]; exact hn
      | true =>
        cases hi : inB k.name acc with
        | true => rw [addV_in hv hi]; exact hn
        | false => rw [addV_yes hv hi]; simp [hn]
    refine ⟨fun n hn => h1 n (hsub n hn), fun k' hk' hv' => ?_⟩
    rcases List.mem_cons.1 hk' with rfl | hk'
    · refine h1 _ ?_
      cases hi : inB k'.name acc with
      | true =>
        rw [addV_in hv' hi]
        unfold inB at hi
        obtain ⟨y, hy, e2⟩ := List.any_eq_true.1 hi
        have e3 : y = k'.name := bytes_inj (by simpa using e2)
        rw [← e3]; exact hy
      | false => rw [addV_yes hv' hi]; simp
    · exact h2 k' hk' hv'
end Go.Proofs.Ytpjdkdebjkpmmab

/- Walks: what stands for itself is struck out of a map. -/
namespace Go.Proofs.Ytpjdkdebjkpmmab
open Go.RowKit
set_option linter.unusedSimpArgs false
set_option linter.unusedVariables false
set_option maxRecDepth 8000

/-- A binding of which something is seen. -/
def keepB (d : Bd) : Bool := !(d.t.name.toList == d.nm.toList)

theorem standsForItself_any (n : ByteArray) (t : Tm) (a : Option Addr) (c : Nat) (w : World) :
    Calls Try.prog 71 #[.string n, .agg #[.string t.name, .slice a t.args.length c]] w fun e w' => e = .returned (.bool (t.name.toList == n.toList)) ∧ Below w.heap.size w w' := by
  go_enter Try.func71, Try.ntmps71
  go_wp2_with fail
  go_ret
  exact ⟨rfl, (Below.refl _ _).alloc (Nat.le_refl _) _⟩

theorem mapGet_toP {Z : List Bc} (ha : ApartB (Z.map (·.1))) : ∀ x ∈ Z, mapGet (Z.map toP) x.1.nm = some (toP x).2 := by
  induction Z with
  | nil => intro x hx; cases hx
  | cons y r ih =>
    intro x hx
    simp only [List.map_cons] at ha ⊢
    obtain ⟨h1, h2⟩ := List.pairwise_cons.1 ha
    rcases List.mem_cons.1 hx with rfl | hx
    · simp [mapGet, toP]
    · have hne : y.1.nm ≠ x.1.nm := h1 x.1 (List.mem_map.2 ⟨x, hx, rfl⟩)
      rw [mapGet, if_neg (by simpa [toP] using hne)]
      exact ih h2 x hx
theorem delP_toP {Z : List Bc} (ha : ApartB (Z.map (·.1))) : ∀ x ∈ Z, ∃ Z' : List Bc, delP (Z.map toP) x.1.nm = Z'.map toP ∧ Z.Perm (x :: Z') := by
  induction Z with
  | nil => intro x hx; cases hx
  | cons y r ih =>
    intro x hx
    simp only [List.map_cons] at ha ⊢
    obtain ⟨h1, h2⟩ := List.pairwise_cons.1 ha
    rcases List.mem_cons.1 hx with rfl | hx
    · exact ⟨r, by simp [delP, toP], List.Perm.refl _⟩
    · have hne : y.1.nm ≠ x.1.nm := h1 x.1 (List.mem_map.2 ⟨x, hx, rfl⟩)
      obtain ⟨Z', h3, h4⟩ := ih h2 x hx
      refine ⟨y :: Z', ?_, (h4.cons y).trans (List.Perm.swap x y Z')⟩
      rw [delP, if_neg (by simpa [toP] using hne), h3]; rfl

def DfInv (w : World) (Z : List Bc) (b : Nat) (wr : World) : Prop :=
  ∃ Zc Zr K : List Bc, RangeAt wr b w.heap.size (Zc.map toP) (Zr.map toP) ∧ Zc.Perm (K ++ Zr) ∧ (K ++ Zr.filter (fun x => keepB x.1)).Perm (Z.filter fun x => keepB x.1) ∧ ApartB (Zc.map (·.1)) ∧ w.grownBy wr (some b)

set_option maxHeartbeats 1000000 in
theorem deleteFunc_any (Z : List Bc) (b : Nat) (w : World) (hM : MapAt w b (Z.map toP)) (hap : ApartB (Z.map (·.1))) :
    Calls Try.prog 70 #[.map (some b), .func (.func 71) #[] #[]] w fun e w' => e = .returned (.tuple #[]) ∧ ∃ Z' : List Bc, MapAt w' b (Z'.map toP) ∧ Z'.Perm (Z.filter fun x => keepB x.1) ∧ w.grownBy w' (some b) := by
  have hbl := hM.lt
  obtain ⟨o, hrange, hR0⟩ := hM.range (P := Try.prog) Try.underlying73
  have HR0 := hide hR0
  have HAP := hide hap
  clear hR0 hap hM
  go_enter Try.func70, Try.ntmps70
  go_wp2_with fail
  go_loopw [8] (fun _ wr => DfInv w Z b wr) (fun _ wr => leftAt wr b w.heap.size)
  case atStart =>
    exact ⟨Z, Z, [], HR0.out, List.Perm.refl _, List.Perm.refl _, HAP.out, World.grownBy_alloc w _ _⟩
  case round =>
    obtain ⟨Zc, Zr, K, hR, hP, hK, hA, hg⟩ := hrel
    have HR := hide hR
    have HP := hide hP
    have HK := hide hK
    have HA := hide hA
    have HG := hide hg
    clear hP hK hA
    rcases hR.next (P := Try.prog) 0 with ⟨he, hnx⟩ | ⟨p, rem', w1, hpm, hnx, hR1, hz1, ho1, ht1, hu1, hk1, hen⟩
    · have hZr : Zr = [] := by simpa using he
      subst hZr
      clear hR hg he
      go_wp2_with fail
      go_end0
      exact ⟨rfl, Zc, HR.out.map, HP.out.trans (by simpa using HK.out), HG.out⟩
    · obtain ⟨x, Z', hpx, rfl, rfl⟩ := next_lift hpm
      simp only [toP] at hnx hen
      have hxZ : x ∈ Zc := HP.out.symm.subset (by simp [hpx.symm.subset (List.mem_cons_self (a := x))])
      have HG1 : Hid (w.grownBy w1 (some b)) := ⟨ho1.trans hg.os, ht1.trans hg.tape, hu1.trans hg.output, by rw [hz1]; exact hg.size, fun j hj hne => (hk1 j (by omega)).trans (hg.block j hj hne)⟩
      have HR1 := hide hR1
      have hr1 := hR1.lt
      have HMS : Hid (Z'.length < Zr.length) := by have := hpx.length_eq; simp at this; unfold Hid; omega
      have HPX := hide hpx
      have HXZ := hide hxZ
      have hb1 : b < w1.heap.size := hR1.map.lt
      clear hR hg hz1 ho1 ht1 hu1 hk1 hR1 hpm hpx hxZ
      have HG2 := hide (HG1.out.andThen (World.grownBy_alloc w1 (.cells #[.string x.1.t.name, .slice x.2.1 x.1.t.args.length x.2.2] 29) none) (by simp))
      have HR2 := hide (HR1.out.below ((Below.refl _ _).alloc (Nat.le_refl _) (.cells #[.string x.1.t.name, .slice x.2.1 x.1.t.args.length x.2.2] 29)) hb1 hr1)
      go_wp2_with fail
      clear hnx hen hb1 hr1
      generalize w1.alloc (.cells #[.string x.1.t.name, .slice x.2.1 x.1.t.args.length x.2.2] 29) = w2 at *
      refine (standsForItself_any x.1.nm x.1.t x.2.1 x.2.2 w2).mono ?_
      rintro e w3 ⟨rfl, hb3⟩
      have HG3 := hide (HG2.out.andThen (World.grownBy.but ⟨hb3.os, hb3.tape, hb3.output, hb3.size, fun j hj _ => hb3.block j hj⟩ none) (by simp))
      have HR3 := hide (HR2.out.below hb3 HR2.out.map.lt HR2.out.lt)
      clear hb3
      cases hkp : (x.1.t.name.toList == x.1.nm.toList) with
      | false =>
        have HKK : Hid ((K ++ [x] ++ Z'.filter (fun x => keepB x.1)).Perm (Z.filter fun x => keepB x.1)) := by
          have h1 := (HPX.out.filter (fun x => keepB x.1))
          rw [List.filter_cons_of_pos (by simp [keepB, hkp])] at h1
          have h2 := (h1.append_left K).symm.trans HK.out
          unfold Hid
          simpa using h2
        have HPP : Hid (Zc.Perm (K ++ [x] ++ Z')) := by
          have h2 := HP.out.trans (HPX.out.append_left K)
          unfold Hid
          simpa using h2
        clear hkp
        go_wp2_with fail
        go_roundw
        case rel => exact ⟨Zc, Z', K ++ [x], HR3.out, HPP.out, HKK.out, HA.out, HG3.out⟩
        case measure =>
          rw [HR3.out.left, HR.out.left]
          have := HMS.out
          simpa using this
      | true =>
        obtain ⟨Zc', hd1, hd2⟩ := delP_toP HA.out x HXZ.out
        have hAx : ApartB ((x :: Zc').map (·.1)) := HA.out.perm (hd2.map _).symm
        have hZ'c : Zc'.Perm (K ++ Z') := by
          have h2 := hd2.symm.trans (HP.out.trans (HPX.out.append_left K))
          exact (h2.trans List.perm_middle).cons_inv
        have hne : ∀ p ∈ Z'.map toP, p.1 ≠ x.1.nm := fun p hp => by
          obtain ⟨y, hy, rfl⟩ := List.mem_map.1 hp
          have h3 : y ∈ Zc' := hZ'c.symm.subset (by simp [hy])
          simp only [List.map_cons] at hAx
          exact fun e => (List.pairwise_cons.1 hAx).1 y.1 (List.mem_map.2 ⟨y, h3, rfl⟩) e.symm
        obtain ⟨w4, hdel, hR4, hz4, ho4, ht4, hu4, hk4⟩ := HR3.out.drop (P := Try.prog) (ty := 0) Try.underlying73 Try.underlying9 x.1.nm hne _ (mapGet_toP HA.out x HXZ.out)
        rw [hd1] at hR4
        have HR4 := hide hR4
        have HG4 : Hid (w.grownBy w4 (some b)) := ⟨ho4.trans HG3.out.os, ht4.trans HG3.out.tape, hu4.trans HG3.out.output, by rw [hz4]; exact HG3.out.size, fun j hj hne => (hk4 j (fun e => hne (by rw [e]))).trans (HG3.out.block j hj hne)⟩
        have HKK : Hid ((K ++ Z'.filter (fun x => keepB x.1)).Perm (Z.filter fun x => keepB x.1)) := by
          have h1 := (HPX.out.filter (fun x => keepB x.1))
          rw [List.filter_cons_of_neg (by simp [keepB, hkp])] at h1
          exact (h1.append_left K).symm.trans HK.out
        have HPP := hide hZ'c
        have HAA : Hid (ApartB (Zc'.map (·.1))) := by
          simp only [List.map_cons] at hAx
          exact (List.pairwise_cons.1 hAx).2
        clear hkp hd1 hd2 hAx hZ'c hne hR4 hz4 ho4 ht4 hu4 hk4
        go_wp2_with fail
        go_roundw
        case rel => exact ⟨Zc', Z', K, HR4.out, HPP.out, HKK.out, HAA.out, HG4.out⟩
        case measure =>
          rw [HR4.out.left, HR.out.left]
          have := HMS.out
          simpa using this
#print axioms deleteFunc_any
end Go.Proofs.Ytpjdkdebjkpmmab

/- Walks: Then. -/
namespace Go.Proofs.Ytpjdkdebjkpmmab
open Go.RowKit
set_option linter.unusedSimpArgs false
set_option linter.unusedVariables false
set_option maxRecDepth 8000

theorem pairsL_Z {w : World} {X : Nat → Prop} : ∀ {ls : List Bd} {L : List (ByteArray × Value)}, PairsL w X ls L → ∃ Z : List Bc, L = Z.map toP ∧ Z.map (·.1) = ls ∧ ∀ x ∈ Z, Sl w X x.2.1 x.1.t.args
  | [], L, h => by
    have e : L = [] := h
    subst e
    exact ⟨[], rfl, rfl, by simp⟩
  | d :: r, L, h => by
    obtain ⟨a, c, L', rfl, h1, h2⟩ := h
    obtain ⟨Z, rfl, e, h3⟩ := pairsL_Z h2
    refine ⟨(d, a, c) :: Z, rfl, by simp [e], fun x hx => ?_⟩
    rcases List.mem_cons.1 hx with rfl | hx
    · exact h1
    · exact h3 x hx

/-- A binding with another list of them in its term. -/
def fB (rs : List Bd) (d : Bd) : Bd := ⟨d.nm, fT rs d.t⟩
/-- Is one of the terms too great? -/
def fullB (ls rs : List Bd) : Bool := ls.any fun d => decide (2000 < sizeL [fT rs d.t])
theorem fullB_yes {ls rs : List Bd} {k : Nat} (h : k < ls.length) (h0 : 2000 < sizeL [fT rs ls[k].t]) : fullB ls rs = true := by
  unfold fullB
  rw [List.any_eq_true]
  exact ⟨ls[k], List.getElem_mem h, by simpa using h0⟩
theorem fullB_no {ls rs : List Bd} (h : ∀ d ∈ ls, sizeL [fT rs d.t] ≤ 2000) : fullB ls rs = false := by
  unfold fullB
  rw [List.any_eq_false]
  intro d hd
  have := h d hd
  simp; omega
/-- Both, before what stands for itself is struck. -/
def bothB (ls rs : List Bd) : List Bd := ls.map (fB rs) ++ rs.filter fun d => (forT ls d.nm).isNone
def ThPost (w : World) (ls rs : List Bd) (e : Ending) (w' : World) : Prop :=
  Below w.heap.size w w' ∧ ((bindsE ls ≠ 0 ∧ e = .returned (.tuple #[.slice none 0 0, .int .i64 (bindsE ls)])) ∨ (bindsE ls = 0 ∧ bindsE rs ≠ 0 ∧ e = .returned (.tuple #[.slice none 0 0, .int .i64 (bindsE rs)])) ∨
    (bindsE ls = 0 ∧ bindsE rs = 0 ∧ fullB ls rs = true ∧ e = .returned (.tuple #[.slice none 0 0, .int .i64 8])) ∨
    (bindsE ls = 0 ∧ bindsE rs = 0 ∧ fullB ls rs = false ∧ ∃ v ls', e = .returned (.tuple #[v, .int .i64 0]) ∧ BV w' (fun b => w.heap.size ≤ b) v ls' ∧ ls'.Perm ((bothB ls rs).filter keepB) ∧ SortedB ls'))

theorem bindsE_sorted {ls : List Bd} (h : bindsE ls = 0) : SortedB ls := by
  unfold SortedB
  rw [List.pairwise_iff_getElem]
  intro i j hi hj hij
  obtain ⟨e, rfl⟩ : ∃ e, j = i + 1 + e := ⟨j - (i + 1), by omega⟩
  have h1 := bindsE_far h i e hj
  unfold leB at h1
  simp only [Bool.or_eq_false_iff] at h1
  cases h2 : ltB ls[i].nm ls[i + 1 + e].nm with
  | true => rfl
  | false =>
    have e2 := ltB_conn h2 h1.1
    rw [e2] at h1
    simp at h1
theorem mapGet_no {Z : List Bc} {n : ByteArray} (h : ∀ x ∈ Z, x.1.nm ≠ n) : mapGet (Z.map toP) n = none := by
  induction Z with
  | nil => rfl
  | cons y r ih =>
    rw [List.map_cons, mapGet, if_neg (by simpa [toP] using h y (by simp))]
    exact ih fun x hx => h x (by simp [hx])
/-- What the region of the first loop leaves. -/
def ThB (w4 : World) (P : Nat) (s : ByteArray) (a : Option Addr) (n c : Nat) (l0 : List Tm) (w9 : World) : Prop := Blk w9 P #[.string s, .slice a n c] 29 ∧ Below w4.heap.size w4 w9 ∧ Sl w9 (fun b => w4.heap.size ≤ b) a l0
theorem thB_set {w4 w8 : World} {P Q n c : Nat} {s : ByteArray} {a : Option Addr} {l0 : List Tm} (hP : Blk w8 P #[.string ⟨#[]⟩, .slice none 0 0] 29) (hw : w4.heap.size ≤ P) (hb : Below w4.heap.size w4 w8) (hs : Sl w8 (fun b => Q ≤ b) a l0) (hQ : P < Q) :
    ThB w4 P s a n c l0 ((w8.setCell ⟨P, 0, none⟩ (.string s)).setCell ⟨P, 1, none⟩ (.slice a n c)) :=
  ⟨(hP.set 0 _).set 1 _, (hb.setCell (by simpa using hw) _).setCell (by simpa using hw) _, (hs.kept fun b hb => by
    rw [Below.heap_setCell _ _ _ _ (by simp; omega), Below.heap_setCell _ _ _ _ (by simp; omega)]).mono fun b hb _ => by omega⟩
/-- What is known in the first loop. -/
def T1Inv (w3 : World) (ls rs : List Bd) (v : Value) (wr : World) : Prop :=
  ∃ (k : Nat) (Z : List Bc), v = .int .i64 (k : Int) ∧ k ≤ ls.length ∧ MapAt wr w3.heap.size (Z.map toP) ∧ Z.map (·.1) = (ls.take k).map (fB rs) ∧ (∀ x ∈ Z, Sl wr (fun b => w3.heap.size < b) x.2.1 x.1.t.args) ∧ (∀ d ∈ ls.take k, sizeL [fT rs d.t] ≤ 2000) ∧ Below w3.heap.size w3 wr

/-- What is known in the second loop. -/
def T2Inv (w3 w5 : World) (q I : Nat) (ls : List Bd) (Z Zq : List Bc) (wr : World) : Prop :=
  ∃ Zr K Zb : List Bc, RangeAt wr q I (Zq.map toP) (Zr.map toP) ∧ Zq.Perm (K ++ Zr) ∧ MapAt wr w3.heap.size (Zb.map toP) ∧ Zb.Perm (Z ++ K.filter fun x => (forT ls x.1.nm).isNone) ∧ ApartB (Zb.map (·.1)) ∧ Below w3.heap.size w3 wr ∧ (∀ b, b < I → b ≠ w3.heap.size → wr.heap[b]? = w5.heap[b]?)
theorem bindsE_len {ls : List Bd} (h : bindsE ls = 0) : ls.length ≤ 40 := by
  unfold bindsE at h
  split at h
  · cases h
  · omega
set_option maxHeartbeats 2000000 in
theorem then_of (HSORT : Hid SortBinds) (ls rs : List Bd) (u v : Value) (w : World) (X : Nat → Prop) (hu : BV w X u ls) (hv : BV w X v rs) :
    Calls Try.prog 41 #[u, v] w fun e w' => ThPost w ls rs e w' := by
  have HU := hide (hu.mono (Y := fun b => X b ∧ b < w.heap.size) fun b h1 h2 => ⟨h1, h2⟩)
  have HV := hide (hv.mono (Y := fun b => X b ∧ b < w.heap.size) fun b h1 h2 => ⟨h1, h2⟩)
  obtain ⟨au, cu, rfl, hlu, hu2⟩ := hu
  clear hv hu2
  have hmm := @run_makeMap Try.prog
  go_enter Try.func41, Try.ntmps41
  go_wp2_with fail
  refine (scheck_any ls _ w _ HU.out).mono ?_
  rintro e w1 ⟨rfl, hb1⟩
  have HB1 := hide hb1
  clear hb1
  by_cases hbe : bindsE ls = 0
  case neg =>
    have hbe' : (bindsE ls == 0) = false := by simpa using hbe
    have HBE := hide hbe
    clear hbe
    go_wp2_with fail
    refine bodyPost_ret (v := .tuple #[.slice none 0 0, .int .i64 (bindsE ls)]) (by simp [results, Try.results41, go_sem]) rfl ?_
    exact ⟨HB1.out, Or.inl ⟨HBE.out, rfl⟩⟩
  have HBE := hide hbe
  rw [hbe]
  clear hbe
  go_wp2_with fail
  refine (scheck_any rs _ w1 _ (HV.out.later HB1.out)).mono ?_
  rintro e w2 ⟨rfl, hb2⟩
  have HB2 := hide (HB1.out.trans (hb2.mono HB1.out.size))
  clear hb2
  by_cases hbr : bindsE rs = 0
  case neg =>
    have hbe' : (bindsE rs == 0) = false := by simpa using hbr
    have HBR := hide hbr
    clear hbr
    go_wp2_with fail
    refine bodyPost_ret (v := .tuple #[.slice none 0 0, .int .i64 (bindsE rs)]) (by simp [results, Try.results41, go_sem]) rfl ?_
    exact ⟨HB2.out, Or.inr (Or.inl ⟨HBE.out, HBR.out, rfl⟩)⟩
  have HBR := hide hbr
  rw [hbr]
  clear hbr
  go_wp2_with fail
  refine (byName_any rs (bindsE_once HBR.out) _ w2 _ (HV.out.later HB2.out)).mono ?_
  rintro e w3 ⟨L, rfl, hM3, hP3, hb3⟩
  have hq3 := hM3.lt
  have HM3 := hide hM3
  have HP3 : Hid (PairsL w3 (fun b => X b ∧ b < w.heap.size) rs L) := hP3.imp fun a l hs => hs.mono fun b h _ => h.1
  have HB3 := hide (HB2.out.trans (hb3.mono HB2.out.size))
  have hq : w.heap.size ≤ w2.heap.size := HB2.out.size
  clear hM3 hP3 hb3
  generalize w2.heap.size = q at *
  go_wp2_with fail
  go_loopw [33] (fun v wr => T1Inv w3 ls rs v wr) (fun v wr => ls.length - (intOf v).toNat)
  case atStart =>
    exact ⟨0, [], rfl, Nat.zero_le _, MapAt.new w3, rfl, by simp, by simp, (Below.refl _ _).alloc (Nat.le_refl _) _⟩
  case round =>
    obtain ⟨k, Z, rfl, hk, hM, hZe, hZs, hsz, hb⟩ := hrel
    have HM := hide hM
    have HZE := hide hZe
    have HZS := hide hZs
    have HSZ := hide hsz
    have HB := hide hb
    have hMr := hM.lt
    clear hM hZe hZs hsz
    by_cases hlt : k < ls.length
    · obtain ⟨b, o, a', c', rfl, d0, d1, d2, hs⟩ := ((HU.out.later HB3.out).later hb).get k hlt
      have hlt2 : (k : Int) < (ls.length : Int) := by omega
      have HS := hide hs
      clear hb hs
      have hBw0 : w3.heap.size < wr.heap.size := hMr
      have HNO : Hid (mapGet (Z.map toP) ls[k].nm = none) := mapGet_no fun x hx e => by
        have h1 : x.1 ∈ (ls.take k).map (fB rs) := by rw [← HZE.out]; exact List.mem_map.2 ⟨x, hx, rfl⟩
        obtain ⟨d', hd', e'⟩ := List.mem_map.1 h1
        have h2 := (bindsE_sorted HBE.out).apart
        obtain ⟨i, hi, rfl⟩ := List.getElem_of_mem hd'
        have hi' : i < k := by simp at hi; omega
        unfold ApartB at h2
        rw [List.pairwise_iff_getElem] at h2
        have h3 := h2 i k (by omega) hlt hi'
        rw [← e'] at e
        rw [List.getElem_take] at e
        exact h3 e
      have HZE1 : Hid (∀ (a8 : Option Addr) (c8 : Nat), (Z ++ [(fB rs ls[k], a8, c8)]).map (·.1) = (ls.take (k + 1)).map (fB rs)) := fun a8 c8 => by
        rw [List.take_succ_eq_append_getElem hlt, List.map_append, List.map_append, HZE.out]; rfl
      have HSZ1 : Hid (sizeL [fT rs ls[k].t] ≤ 2000 → ∀ d ∈ ls.take (k + 1), sizeL [fT rs d.t] ≤ 2000) := fun h d hd => by
        rw [List.take_succ_eq_append_getElem hlt] at hd
        rcases List.mem_append.1 hd with hd | hd
        · exact HSZ.out d hd
        · have e : d = ls[k] := by simpa using hd
          rw [e]; exact h
      have HFU := hide (fullB_yes (rs := rs) hlt)
      generalize ls[k] = d at *
      go_wp2_with fail
      have BK := hide (Blk.new wr #[.string d.nm, .string d.t.name, .slice a' d.t.args.length c'] 55)
      have HBW := hide (HB.out.alloc HB.out.size (.cells #[.string d.nm, .string d.t.name, .slice a' d.t.args.length c'] 55))
      have HSW := hide (HS.out.later ((Below.refl _ _).alloc (Nat.le_refl _) (.cells #[.string d.nm, .string d.t.name, .slice a' d.t.args.length c'] 55)))
      have HMW := hide (HM.out.below ((Below.refl _ _).alloc (Nat.le_refl _) (.cells #[.string d.nm, .string d.t.name, .slice a' d.t.args.length c'] 55)) hMr)
      have HZW : Hid (∀ x ∈ Z, Sl (wr.alloc (.cells #[.string d.nm, .string d.t.name, .slice a' d.t.args.length c'] 55)) (fun b => w3.heap.size < b) x.2.1 x.1.t.args) := fun x hx => (HZS.out x hx).later ((Below.refl _ _).alloc (Nat.le_refl _) _)
      have hBw : w3.heap.size < (wr.alloc (.cells #[.string d.nm, .string d.t.name, .slice a' d.t.args.length c'] 55)).heap.size := by simp; omega
      have hAw : wr.heap.size < (wr.alloc (.cells #[.string d.nm, .string d.t.name, .slice a' d.t.args.length c'] 55)).heap.size := by simp
      clear d0 d1 d2
      generalize wr.alloc (.cells #[.string d.nm, .string d.t.name, .slice a' d.t.args.length c'] 55) = w4 at *
      generalize wr.heap.size = A at *
      have KP : Hid (∀ w', Below w4.heap.size w4 w' → w'.cell? ⟨A, 1, none⟩ = some (.string d.t.name) ∧ w'.cell? ⟨A, 2, none⟩ = some (.slice a' d.t.args.length c')) := fun w' hb => ⟨(BK.out.below hb hAw).cell 1, (BK.out.below hb hAw).cell 2⟩
      have t05 := (KP.out w4 (Below.refl _ _)).1
      have t15 := (KP.out w4 (Below.refl _ _)).2
      have LKA : Hid (∀ w', Below w4.heap.size w4 w' → Calls Try.prog 63 #[.map (some q)] w' fun e w'' => ∃ B, e = .returned (.func (.func 90) #[] #[.pointer (some ⟨B, 0, none⟩)]) ∧ Env w'' B q (fun b => X b ∧ b < w.heap.size) rs L ∧ Below w4.heap.size w4 w'' ∧ Below w'.heap.size w' w'') := fun w' hb => by
        refine (look_any q w').mono ?_
        rintro e w7 ⟨rfl, hw7⟩
        have hb7 : Below w'.heap.size w' w7 := by rw [hw7]; exact (Below.refl _ _).alloc (Nat.le_refl _) _
        have hb8 : Below w3.heap.size w3 w7 := (HBW.out.trans (hb.mono HBW.out.size)).trans (hb7.mono (Nat.le_trans HBW.out.size hb.size))
        exact ⟨_, rfl, ⟨by rw [hw7]; exact Blk.new w' _ _, HM3.out.below hb8 hq3, HP3.out.imp fun a l hs => hs.later hb8⟩, hb.trans (hb7.mono hb.size), hb7⟩
      by_cases hle : sizeL [fT rs d.t] ≤ 2000
      · have FIA : Hid (∀ B w', Env w' B q (fun b => X b ∧ b < w.heap.size) rs L → Below w4.heap.size w4 w' → Calls Try.prog 62 #[.agg #[.string d.t.name, .slice a' d.t.args.length c'], .func (.func 90) #[] #[.pointer (some ⟨B, 0, none⟩)]] w' fun e w'' => ∃ a8 c8, e = .returned (.tuple #[.agg #[.string (fT rs d.t).name, .slice a8 (fT rs d.t).args.length c8], .int .i64 0]) ∧ Below w4.heap.size w4 w'' ∧ Below w'.heap.size w' w'' ∧ Sl w'' (fun b => w'.heap.size ≤ b) a8 (fT rs d.t).args) := fun B w' hE hb => by
          refine (sfill_any B q rs L d.t a' c' w' _ (HSW.out.later hb) hE).mono ?_
          rintro e w8 ⟨hb8, ⟨_, a8, c8, rfl, h8⟩ | ⟨h8, _⟩⟩
          · exact ⟨a8, c8, rfl, hb.trans (hb8.mono hb.size), hb8, h8⟩
          · omega
        go_region_held3 (fun w' => w'.cell? ⟨A, 1, none⟩ = some (.string d.t.name) ∧ w'.cell? ⟨A, 2, none⟩ = some (.slice a' d.t.args.length c')) (first | exact hS | exact ⟨t05, t15⟩ | exact two_keep (two_keep hS nP nP) nP nP | exact two_keep hS nP nP | go_keep)
          (first
            | (go_at_call 63; refine (LKA.out _ (by first | exact Below.refl _ _ | exact (Below.refl _ _).drew | exact ((Below.refl _ _).alloc (Nat.le_refl _) _) | exact ((Below.refl _ _).drew.alloc (Nat.le_refl _) _) | exact ((Below.refl _ _).alloc (Nat.le_refl _) _).drew)).mono ?_; rintro e w7 ⟨B, rfl, hE7, hb7, hbl7⟩; have hS := KP.out _ hb7)
            | (go_at_call 62; refine (FIA.out _ _ (by first | exact hE7 | exact hE7.later ((Below.refl _ _).alloc (Nat.le_refl _) _)) (by first | exact hb7 | exact hb7.drew | exact hb7.alloc hb7.size _)).mono ?_; rintro e w8 ⟨a8, c8, rfl, hb8, hbl8, hs8⟩; have hS := KP.out _ hb8;
                first
                  | (have PB : Blk w8 w7.heap.size #[.string ⟨#[]⟩, .slice none 0 0] 29 := (Blk.new w7 _ _).below hbl8 (by simp); have p0 := PB.cell 0; have p1 := PB.cell 1; have pf := PB.frozen; have pl := PB.lt; have hPN : w4.heap.size ≤ w7.heap.size := hb7.size; have nP : w7.heap.size ≠ A := by omega)
                  | (have PB : Blk w8 w4.heap.size #[.string ⟨#[]⟩, .slice none 0 0] 29 := (((Blk.new w4 _ _).drewN 1).below hbl7 (by simp)).below hbl8 (by have := hbl7.size; simp at this; omega); have p0 := PB.cell 0; have p1 := PB.cell 1; have pf := PB.frozen; have pl := PB.lt; have hPN : w4.heap.size ≤ w4.heap.size := Nat.le_refl _; have nP : w4.heap.size ≠ A := by omega)
                  | skip))
        all_goals first
          | (have TB : Hid (ThB w4 w7.heap.size (fT rs d.t).name a8 (fT rs d.t).args.length c8 (fT rs d.t).args ((w8.setCell ⟨w7.heap.size, 0, none⟩ (.string (fT rs d.t).name)).setCell ⟨w7.heap.size, 1, none⟩ (.slice a8 (fT rs d.t).args.length c8))) := thB_set PB hPN hb8 hs8 (by simp); generalize ((w8.setCell ⟨w7.heap.size, 0, none⟩ (.string (fT rs d.t).name)).setCell ⟨w7.heap.size, 1, none⟩ (.slice a8 (fT rs d.t).args.length c8)) = w9 at *)
          | (have TB : Hid (ThB w4 w4.heap.size (fT rs d.t).name a8 (fT rs d.t).args.length c8 (fT rs d.t).args ((w8.setCell ⟨w4.heap.size, 0, none⟩ (.string (fT rs d.t).name)).setCell ⟨w4.heap.size, 1, none⟩ (.slice a8 (fT rs d.t).args.length c8))) := thB_set PB hPN hb8 hs8 (by have := hbl7.size; simp at this; omega); generalize ((w8.setCell ⟨w4.heap.size, 0, none⟩ (.string (fT rs d.t).name)).setCell ⟨w4.heap.size, 1, none⟩ (.slice a8 (fT rs d.t).args.length c8)) = w9 at *)
          | (have TB : Hid (ThB w4 w8.heap.size (fT rs d.t).name a8 (fT rs d.t).args.length c8 (fT rs d.t).args (w8.alloc (.cells #[.string (fT rs d.t).name, .slice a8 (fT rs d.t).args.length c8] 29))) := ⟨Blk.new w8 _ _, hb8.alloc hb8.size _, (hs8.later ((Below.refl _ _).alloc (Nat.le_refl _) _)).mono fun b hb _ => by have := hb7.size; omega⟩; generalize (w8.alloc (.cells #[.string (fT rs d.t).name, .slice a8 (fT rs d.t).args.length c8] 29)) = w9 at *)
        all_goals
          have c0 : w9.cell? ⟨A, 0, none⟩ = some (.string d.nm) := (BK.out.below TB.out.2.1 hAw).cell 0
          have p0' := TB.out.1.cell 0
          have p1' := TB.out.1.cell 1
          obtain ⟨w10, hrun, hM10, hz10, ho10, ht10, hu10, hk10⟩ := run_put (P := Try.prog) Try.underlying73 Try.underlying9 (HMW.out.below TB.out.2.1 hBw) d.nm (.agg #[.string (fT rs d.t).name, .slice a8 (fT rs d.t).args.length c8]) HNO.out
          have HM10 : Hid (MapAt w10 w3.heap.size ((Z ++ [(fB rs d, a8, c8)]).map toP)) := by unfold Hid; rw [List.map_append]; exact hM10
          have HB9 := hide (HBW.out.trans (TB.out.2.1.mono HBW.out.size))
          have HB10 : Hid (Below w3.heap.size w3 w10) := ⟨ho10.trans HB9.out.os, ht10.trans HB9.out.tape, hu10.trans HB9.out.output, by rw [hz10]; exact HB9.out.size, fun j hj => (hk10 j (by omega)).trans (HB9.out.block j hj)⟩
          have HZ10 : Hid (∀ x ∈ Z ++ [(fB rs d, a8, c8)], Sl w10 (fun b => w3.heap.size < b) x.2.1 x.1.t.args) := fun x hx => by
            rcases List.mem_append.1 hx with hx | hx
            · exact ((HZW.out x hx).later TB.out.2.1).kept fun b hb => hk10 b (by omega)
            · have e : x = (fB rs d, a8, c8) := by simpa using hx
              subst e
              exact (TB.out.2.2.kept fun b hb => hk10 b (by omega)).mono fun b hb _ => by omega
          clear hM10 hz10 ho10 ht10 hu10 hk10
          go_wp2_with fail
          go_roundw
          case rel => exact ⟨k + 1, Z ++ [(fB rs d, a8, c8)], by go_num, by omega, HM10.out, HZE1.out a8 c8, HZ10.out, HSZ1.out hle, HB10.out⟩
          case measure => simp [intOf]; omega
      · have FIA : Hid (∀ B w', Env w' B q (fun b => X b ∧ b < w.heap.size) rs L → Below w4.heap.size w4 w' → Calls Try.prog 62 #[.agg #[.string d.t.name, .slice a' d.t.args.length c'], .func (.func 90) #[] #[.pointer (some ⟨B, 0, none⟩)]] w' fun e w'' => e = .returned (.tuple #[.agg #[.string ⟨#[]⟩, .slice none 0 0], .int .i64 8]) ∧ Below w4.heap.size w4 w'' ∧ Below w'.heap.size w' w'') := fun B w' hE hb => by
          refine (sfill_any B q rs L d.t a' c' w' _ (HSW.out.later hb) hE).mono ?_
          rintro e w8 ⟨hb8, ⟨h8, _⟩ | ⟨_, rfl⟩⟩
          · omega
          · exact ⟨rfl, hb.trans (hb8.mono hb.size), hb8⟩
        go_region_held3 (fun w' => w'.cell? ⟨A, 1, none⟩ = some (.string d.t.name) ∧ w'.cell? ⟨A, 2, none⟩ = some (.slice a' d.t.args.length c')) (first | exact hS | exact ⟨t05, t15⟩ | exact two_keep (two_keep hS nP nP) nP nP | exact two_keep hS nP nP | go_keep)
          (first
            | (go_at_call 63; refine (LKA.out _ (by first | exact Below.refl _ _ | exact (Below.refl _ _).drew | exact ((Below.refl _ _).alloc (Nat.le_refl _) _) | exact ((Below.refl _ _).drew.alloc (Nat.le_refl _) _) | exact ((Below.refl _ _).alloc (Nat.le_refl _) _).drew)).mono ?_; rintro e w7 ⟨B, rfl, hE7, hb7, hbl7⟩; have hS := KP.out _ hb7)
            | (go_at_call 62; refine (FIA.out _ _ (by first | exact hE7 | exact hE7.later ((Below.refl _ _).alloc (Nat.le_refl _) _)) (by first | exact hb7 | exact hb7.drew | exact hb7.alloc hb7.size _)).mono ?_; rintro e w8 ⟨rfl, hb8, hbl8⟩; have hS := KP.out _ hb8;
                first
                  | (have PB : Blk w8 w7.heap.size #[.string ⟨#[]⟩, .slice none 0 0] 29 := (Blk.new w7 _ _).below hbl8 (by simp); have p0 := PB.cell 0; have p1 := PB.cell 1; have pf := PB.frozen; have pl := PB.lt; have hPN : w4.heap.size ≤ w7.heap.size := hb7.size; have nP : w7.heap.size ≠ A := by omega)
                  | (have PB : Blk w8 w4.heap.size #[.string ⟨#[]⟩, .slice none 0 0] 29 := (((Blk.new w4 _ _).drewN 1).below hbl7 (by simp)).below hbl8 (by have := hbl7.size; simp at this; omega); have p0 := PB.cell 0; have p1 := PB.cell 1; have pf := PB.frozen; have pl := PB.lt; have hPN : w4.heap.size ≤ w4.heap.size := Nat.le_refl _; have nP : w4.heap.size ≠ A := by omega)
                  | skip))
        all_goals first
          | (have TB : Hid (Below w4.heap.size w4 ((w8.setCell ⟨w7.heap.size, 0, none⟩ (.string ⟨#[]⟩)).setCell ⟨w7.heap.size, 1, none⟩ (.slice none 0 0))) := ((hb8.setCell (by simpa using hPN) _).setCell (by simpa using hPN) _); generalize ((w8.setCell ⟨w7.heap.size, 0, none⟩ (.string ⟨#[]⟩)).setCell ⟨w7.heap.size, 1, none⟩ (.slice none 0 0)) = w9 at *)
          | (have TB : Hid (Below w4.heap.size w4 ((w8.setCell ⟨w4.heap.size, 0, none⟩ (.string ⟨#[]⟩)).setCell ⟨w4.heap.size, 1, none⟩ (.slice none 0 0))) := ((hb8.setCell (by exact hPN) _).setCell (by exact hPN) _); generalize ((w8.setCell ⟨w4.heap.size, 0, none⟩ (.string ⟨#[]⟩)).setCell ⟨w4.heap.size, 1, none⟩ (.slice none 0 0)) = w9 at *)
          | (have TB : Hid (Below w4.heap.size w4 (w8.alloc (.cells #[.string ⟨#[]⟩, .slice none 0 0] 29))) := hb8.alloc hb8.size _; generalize (w8.alloc (.cells #[.string ⟨#[]⟩, .slice none 0 0] 29)) = w9 at *)
        all_goals
          have HFL := hide (HFU.out (by omega))
          go_wp2_with fail
          refine bodyPost_ret (v := .tuple #[.slice none 0 0, .int .i64 8]) (by simp [results, Try.results41, go_sem]) rfl ?_
          exact ⟨HB3.out.trans ((HBW.out.trans (TB.out.mono HBW.out.size)).mono HB3.out.size), Or.inr (Or.inr (Or.inl ⟨HBE.out, HBR.out, HFL.out, rfl⟩))⟩
    · have hkl : k = ls.length := by omega
      have htk : ls.take k = ls := List.take_of_length_le (by omega)
      have HFN : Hid (fullB ls rs = false) := fullB_no (by rw [← htk]; exact HSZ.out)
      have HZL : Hid (Z.map (·.1) = ls.map (fB rs)) := by have h := HZE.out; rw [htk] at h; exact h
      obtain ⟨Zq, rfl, hZq, hZqs⟩ := pairsL_Z HP3.out
      have HZQ := hide hZq
      have HZQS := hide hZqs
      obtain ⟨o, hrange, hR0⟩ := (HM3.out.below hb hq3).range (P := Try.prog) Try.underlying73
      have HR0 := hide hR0
      have HAZ : Hid (ApartB (Z.map (·.1))) := by
        unfold Hid
        rw [HZL.out]
        unfold ApartB
        rw [List.pairwise_map]
        exact (bindsE_sorted HBE.out).apart
      have HAQ : Hid (ApartB (Zq.map (·.1))) := by unfold Hid; rw [hZq]; exact (bindsE_sorted HBR.out).apart
      have hqI : q < wr.heap.size := by have := hb.size; omega
      clear hb hkl htk hZq hZqs hR0
      have hz : ∀ w', (zeroValue 29).run Try.prog w' = .ok (.agg #[.string ⟨#[]⟩, .slice none 0 0]) w' := fun w' => Try.zeroValue29 w'
      go_wp2_with fail
      have HM5 := hide (HM.out.below ((Below.refl _ _).alloc (Nat.le_refl _) o) hMr)
      have HB5 := hide (HB.out.alloc HB.out.size o)
      have HZ5 : Hid (∀ x ∈ Z, Sl (wr.alloc o) (fun b => w3.heap.size < b ∧ b < wr.heap.size) x.2.1 x.1.t.args) := fun x hx => ((HZS.out x hx).mono (Y := fun b => w3.heap.size < b ∧ b < wr.heap.size) fun b h1 h2 => ⟨h1, h2⟩).later ((Below.refl _ _).alloc (Nat.le_refl _) o)
      clear hrange
      generalize wr.alloc o = w5 at *
      generalize wr.heap.size = I at *
      go_loopw [55] (fun _ wr' => T2Inv w3 w5 q I ls Z Zq wr') (fun _ wr' => leftAt wr' q I)
      case atStart => exact ⟨Zq, [], Z, HR0.out, List.Perm.refl _, HM5.out, by simp, HAZ.out, HB5.out, fun _ _ _ => rfl⟩
      case round =>
        obtain ⟨Zr, K, Zb, hR, hPq, hMb, hPb, hAb, hbb, hfr⟩ := hrel
        have HR := hide hR
        have HPQ := hide hPq
        have HMB := hide hMb
        have HPB := hide hPb
        have HAB := hide hAb
        have HBB := hide hbb
        have HFR := hide hfr
        have hIl := hR.lt
        clear hPq hPb hAb hMb
        rcases hR.next (P := Try.prog) 0 with ⟨he, hnx⟩ | ⟨p, rem', w1', hpm, hnx, hR1, hz1, ho1, ht1, hu1, hk1, hen⟩
        · have hZr : Zr = [] := by simpa using he
          subst hZr
          have HZK : Hid (Zb.Perm (Z ++ Zq.filter fun x => (forT ls x.1.nm).isNone)) := by
            have h1 : Zq.Perm K := by simpa using HPQ.out
            exact HPB.out.trans ((h1.symm.filter _).append_left Z)
          have hz5 := HBB.out.size
          clear hR hbb hfr he
          go_wp2_with fail
          refine (deleteFunc_any Zb w3.heap.size wr HMB.out HAB.out).mono ?_
          rintro e w6 ⟨rfl, Z6, hM6, hP6, hg6⟩
          have HM6 := hide hM6
          have HP6 := hide hP6
          have HB6 : Hid (Below w3.heap.size w3 w6) := HBB.out.grown hg6 HBB.out.size (fun j hj => by cases hj; exact Nat.le_refl _)
          have HIN : Hid (∀ x ∈ Z6, x ∈ Z ∨ x ∈ Zq) := fun x hx => by
            have h1 := (List.mem_filter.1 (hP6.subset hx)).1
            rcases List.mem_append.1 (HZK.out.subset h1) with h2 | h2
            · exact Or.inl h2
            · exact Or.inr (List.mem_filter.1 h2).1
          have HS6 : Hid (∀ x ∈ Z6, Sl w6 (fun b => (w3.heap.size < b ∧ b < I) ∨ (X b ∧ b < w.heap.size)) x.2.1 x.1.t.args) := fun x hx => by
            rcases HIN.out x hx with h1 | h1
            · refine ((HZ5.out x h1).kept (w' := w6) fun b hb => ?_).mono fun b hb _ => Or.inl hb
              rw [hg6.block b (by omega) (by simp; omega), HFR.out b hb.2 (by omega)]
            · exact ((HZQS.out x h1).below HB6.out fun b hb _ => by have := HB3.out.size; omega).mono fun b hb _ => Or.inr hb
          have HSZ6 : Hid (∀ x ∈ Z6, sizeL [x.1.t] ≤ 1000000) := fun x hx => by
            rcases HIN.out x hx with h1 | h1
            · have h2 : x.1 ∈ ls.map (fB rs) := by rw [← HZL.out]; exact List.mem_map.2 ⟨x, h1, rfl⟩
              obtain ⟨d, hd, e⟩ := List.mem_map.1 h2
              rw [← e]
              have h3 : ¬ (2000 < sizeL [fT rs d.t]) := fun h => by
                obtain ⟨i, hi, rfl⟩ := List.getElem_of_mem hd
                have := fullB_yes hi h
                rw [HFN.out] at this; cases this
              show sizeL [fT rs d.t] ≤ 1000000
              omega
            · have h2 : x.1 ∈ rs := by rw [← HZQ.out]; exact List.mem_map.2 ⟨x, h1, rfl⟩
              obtain ⟨i, hi, e⟩ := List.getElem_of_mem h2
              have h3 := (bindsE_at HBR.out i hi).2
              rw [e] at h3
              unfold mayE at h3
              split at h3
              · cases h3
              · omega
          have HL6 : Hid (Z6.length ≤ 1000000) := by
            have h1 := HP6.out.length_eq
            have h2 := List.length_filter_le (fun x : Bc => keepB x.1) Zb
            have h3 := HZK.out.length_eq
            have h4 := List.length_filter_le (fun x : Bc => (forT ls x.1.nm).isNone) Zq
            have h5 := congrArg List.length HZL.out
            have h6 := congrArg List.length HZQ.out
            have h7 := bindsE_len HBE.out
            have h8 := bindsE_len HBR.out
            simp at h3 h5 h6
            unfold Hid
            omega
          have HA6 : Hid (ApartB (Z6.map (·.1))) := by
            refine ApartB.perm ?_ (HP6.out.map (·.1))
            exact HAB.out.sublist (List.Sublist.map _ List.filter_sublist)
          have HPF : Hid ((Z6.map (·.1)).Perm ((bothB ls rs).filter keepB)) := by
            have h1 := HP6.out.map (·.1)
            have h2 : ((Zb.filter fun x => keepB x.1).map (·.1)).Perm ((bothB ls rs).filter keepB) := by
              have h3 := (HZK.out.map (·.1)).filter keepB
              have e1 : (Z ++ Zq.filter fun x => (forT ls x.1.nm).isNone).map (·.1) = bothB ls rs := by
                rw [List.map_append, HZL.out]
                unfold bothB
                rw [← HZQ.out, List.filter_map]
                rfl
              rw [e1] at h3
              rw [List.filter_map] at h3
              exact h3
            exact h1.trans h2
          clear hM6 hP6 hg6
          go_wp2_with fail
          refine (inOrder_of HSORT Z6 w3.heap.size w6 _ HM6.out HS6.out HSZ6.out HL6.out HA6.out).mono ?_
          rintro e w7 ⟨v7, l7, rfl, hbv7, hp7, hs7, hb7⟩
          have HBV7 := hide hbv7
          have HP7 := hide (hp7.trans HPF.out)
          have HS7 := hide hs7
          have HB7 := hide (HB3.out.trans ((HB6.out.trans (hb7.mono HB6.out.size)).mono HB3.out.size))
          have hz6 := HB6.out.size
          have hz3 := HB3.out.size
          clear hbv7 hp7 hs7 hb7
          go_wp2_with fail
          refine bodyPost_ret (v := .tuple #[v7, .int .i64 0]) (by simp [results, Try.results41, go_sem]) rfl ?_
          exact ⟨HB7.out, Or.inr (Or.inr (Or.inr ⟨HBE.out, HBR.out, HFN.out, v7, l7, rfl, HBV7.out.mono fun b hb _ => by omega, HP7.out, HS7.out⟩))⟩
        · obtain ⟨x, Z', hpx, rfl, rfl⟩ := next_lift hpm
          simp only [toP] at hnx hen
          have hxq : x ∈ Zq := HPQ.out.symm.subset (by simp [hpx.symm.subset (List.mem_cons_self (a := x))])
          have hBI : w3.heap.size < I := hMr
          have HBB1 : Hid (Below w3.heap.size w3 w1') := ⟨ho1.trans hbb.os, ht1.trans hbb.tape, hu1.trans hbb.output, by rw [hz1]; exact hbb.size, fun j hj => (hk1 j (by omega)).trans (hbb.block j hj)⟩
          have HFR1 : Hid (∀ b, b < I → b ≠ w3.heap.size → w1'.heap[b]? = w5.heap[b]?) := fun b h1 h2 => (hk1 b (by omega)).trans (hfr b h1 h2)
          have HMB1 := hide (HMB.out.kept (hk1 w3.heap.size (by omega)))
          have HR1 := hide hR1
          have hI1 : I < w1'.heap.size := hR1.lt
          have HPQ1 : Hid (Zq.Perm (K ++ [x] ++ Z')) := by
            have h2 := HPQ.out.trans (hpx.append_left K)
            unfold Hid
            simpa using h2
          have HMS : Hid (Z'.length < Zr.length) := by have := hpx.length_eq; simp at this; unfold Hid; omega
          clear hR hbb hfr hz1 ho1 ht1 hu1 hk1 hR1 hpm hpx
          have J0 := hide (Blk.new w1' #[.string x.1.t.name, .slice x.2.1 x.1.t.args.length x.2.2] 29)
          have bA := hide ((Below.refl w1'.heap.size w1').alloc (Nat.le_refl _) (.cells #[.string x.1.t.name, .slice x.2.1 x.1.t.args.length x.2.2] 29))
          generalize hw6 : w1'.alloc (.cells #[.string x.1.t.name, .slice x.2.1 x.1.t.args.length x.2.2] 29) = w6 at *
          have HBB2 := hide (HBB1.out.trans (bA.out.mono HBB1.out.size))
          have HFR2 : Hid (∀ b, b < I → b ≠ w3.heap.size → w6.heap[b]? = w5.heap[b]?) := fun b h1 h2 => (bA.out.block b (by omega)).trans (HFR1.out b h1 h2)
          have HMB2 := hide (HMB1.out.below bA.out (by omega))
          have HR2 := hide (HR1.out.below bA.out (by omega) hI1)
          have hI2 : I < w6.heap.size := by have := bA.out.size; omega
          cases hf : forT ls x.1.nm with
          | none =>
            have hno : mapGet (Zb.map toP) x.1.nm = none := mapGet_no fun y hy e => by
              rcases List.mem_append.1 (HPB.out.subset hy) with h1 | h1
              · have h2 : y.1 ∈ ls.map (fB rs) := by rw [← HZL.out]; exact List.mem_map.2 ⟨y, h1, rfl⟩
                obtain ⟨d, hd, e2⟩ := List.mem_map.1 h2
                obtain ⟨t, ht⟩ := forT_some_of hd
                have e3 : d.nm = x.1.nm := by rw [← e, ← e2]; rfl
                rw [e3, hf] at ht; cases ht
              · have h2 := HAQ.out.perm ((HPQ1.out.map (·.1)).symm)
                rw [List.map_append, List.map_append] at h2
                have h3 := (List.pairwise_append.1 (List.pairwise_append.1 h2).1).2.2 y.1 (List.mem_map.2 ⟨y, (List.mem_filter.1 h1).1, rfl⟩) x.1 (by simp)
                exact h3 e
            have hlk : (Instr.lookup 73 (.map (some w3.heap.size)) (.string x.1.nm) true).run Try.prog w6 = .ok (.tuple #[.agg #[.string ⟨#[]⟩, .slice none 0 0], .bool false]) w6 := by
              rw [run_look (P := Try.prog) Try.underlying73 Try.underlying9 (hz _) HMB2.out x.1.nm, hno]; rfl
            have bB := hide ((Below.refl w6.heap.size w6).alloc (Nat.le_refl _) (.cells #[.string ⟨#[]⟩, .slice none 0 0] 29))
            have J1 := hide (J0.out.alloc (.cells #[.string ⟨#[]⟩, .slice none 0 0] 29))
            have HMB3 := hide (HMB2.out.below bB.out (by omega))
            have HR3 := hide (HR2.out.below bB.out (by omega) hI2)
            have HBB3 := hide (HBB2.out.trans (bB.out.mono HBB2.out.size))
            have j0 := J1.out.cell 0
            have j1 := J1.out.cell 1
            have hF3 : ∀ b, b < I → b ≠ w3.heap.size → (w6.alloc (.cells #[.string ⟨#[]⟩, .slice none 0 0] 29)).heap[b]? = w5.heap[b]? := fun b h1 h2 => (bB.out.block b (by omega)).trans (HFR2.out b h1 h2)
            have HF3 := hide hF3
            clear hF3
            obtain ⟨w8, hrun, hM8, hz8, ho8, ht8, hu8, hk8⟩ := run_put (P := Try.prog) Try.underlying73 Try.underlying9 HMB3.out x.1.nm (.agg #[.string x.1.t.name, .slice x.2.1 x.1.t.args.length x.2.2]) hno
            have HM8 : Hid (MapAt w8 w3.heap.size ((Zb ++ [x]).map toP)) := by unfold Hid; rw [List.map_append]; exact hM8
            have HB8 : Hid (Below w3.heap.size w3 w8) := ⟨ho8.trans HBB3.out.os, ht8.trans HBB3.out.tape, hu8.trans HBB3.out.output, by rw [hz8]; exact HBB3.out.size, fun j hj => (hk8 j (by omega)).trans (HBB3.out.block j hj)⟩
            have HF8 : Hid (∀ b, b < I → b ≠ w3.heap.size → w8.heap[b]? = w5.heap[b]?) := fun b h1 h2 => (hk8 b h2).trans (HF3.out b h1 h2)
            have HR8 := hide (HR3.out.kept (w' := w8) (hk8 q (by omega)) (hk8 I (by omega)))
            have HP8 : Hid ((Zb ++ [x]).Perm (Z ++ (K ++ [x]).filter fun x => (forT ls x.1.nm).isNone)) := by
              unfold Hid
              rw [List.filter_append, List.filter_cons_of_pos (by rw [hf]; rfl), List.filter_nil, ← List.append_assoc]
              exact HPB.out.append_right [x]
            have HA8 : Hid (ApartB ((Zb ++ [x]).map (·.1))) := by
              unfold Hid
              rw [List.map_append]
              refine List.pairwise_append.2 ⟨HAB.out, by simp, fun a ha b hb e => ?_⟩
              obtain ⟨y, hy, rfl⟩ := List.mem_map.1 ha
              have eb : b = x.1 := by simpa using hb
              rw [eb] at e
              have h2 := mapGet_toP HAB.out y hy
              rw [e, hno] at h2
              cases h2
            clear hM8 hz8 ho8 ht8 hu8 hk8 hf hno
            go_wp2_with fail
            go_roundw
            case rel => exact ⟨Z', K ++ [x], Zb ++ [x], HR8.out, HPQ1.out, HM8.out, HP8.out, HA8.out, HB8.out, HF8.out⟩
            case measure =>
              rw [HR8.out.left, HR.out.left]
              have := HMS.out
              simpa using this
          | some t0 =>
            obtain ⟨d, hd, hn, _⟩ := forT_mem hf
            have h2 : fB rs d ∈ Z.map (·.1) := by rw [HZL.out]; exact List.mem_map.2 ⟨d, hd, rfl⟩
            obtain ⟨y, hy, ey⟩ := List.mem_map.1 h2
            have hyb : y ∈ Zb := HPB.out.symm.subset (by simp [hy])
            have hyn : y.1.nm = x.1.nm := by rw [ey]; exact hn
            have hsome := mapGet_toP HAB.out y hyb
            rw [hyn] at hsome
            have hlk : (Instr.lookup 73 (.map (some w3.heap.size)) (.string x.1.nm) true).run Try.prog w6 = .ok (.tuple #[.agg #[.string y.1.t.name, .slice y.2.1 y.1.t.args.length y.2.2], .bool true]) w6 := by
              rw [run_look (P := Try.prog) Try.underlying73 Try.underlying9 (hz _) HMB2.out x.1.nm, hsome]; rfl
            have bB := hide ((Below.refl w6.heap.size w6).alloc (Nat.le_refl _) (.cells #[.string y.1.t.name, .slice y.2.1 y.1.t.args.length y.2.2] 29))
            have HMB3 := hide (HMB2.out.below bB.out (by omega))
            have HR3 := hide (HR2.out.below bB.out (by omega) hI2)
            have HBB3 := hide (HBB2.out.trans (bB.out.mono HBB2.out.size))
            have HF3 : Hid (∀ b, b < I → b ≠ w3.heap.size → (w6.alloc (.cells #[.string y.1.t.name, .slice y.2.1 y.1.t.args.length y.2.2] 29)).heap[b]? = w5.heap[b]?) := fun b h1 h2 => (bB.out.block b (by omega)).trans (HFR2.out b h1 h2)
            have HP8 : Hid (Zb.Perm (Z ++ (K ++ [x]).filter fun x => (forT ls x.1.nm).isNone)) := by
              unfold Hid
              rw [List.filter_append, List.filter_cons_of_neg (by rw [hf]; simp), List.filter_nil, List.append_nil]
              exact HPB.out
            clear hd hn h2 hy ey hyb hyn hsome hf
            go_wp2_with fail
            go_roundw
            case rel => exact ⟨Z', K ++ [x], Zb, HR3.out, HPQ1.out, HMB3.out, HP8.out, HAB.out, HBB3.out, HF3.out⟩
            case measure =>
              rw [HR3.out.left, HR.out.left]
              have := HMS.out
              simpa using this
#print axioms then_of
/-- Then. -/
theorem then_any (ls rs : List Bd) (u v : Value) (w : World) (X : Nat → Prop) (hu : BV w X u ls) (hv : BV w X v rs) :
    Calls Try.prog 41 #[u, v] w fun e w' => ThPost w ls rs e w' := then_of (hide sortBinds) ls rs u v w X hu hv
end Go.Proofs.Ytpjdkdebjkpmmab

/- The law on matching a term made of raw numbers: it answers true. -/
namespace Go.Proofs.Ytpjdkdebjkpmmab
open Go.RowKit
set_option linter.unusedSimpArgs false
set_option linter.unusedVariables false
set_option maxRecDepth 8000

/-- How great a term is with bindings in it. -/
theorem onL_size {ls : List Bd} {M : Nat} (hM : 1 ≤ M) (h : ∀ d ∈ ls, sizeL [d.t] ≤ M) : ∀ l : List Tm, sizeL (onL ls l) ≤ sizeL l * M := by
  intro l
  induction l using Tm.indL with
  | h0 => simp [onL, sizeL]
  | h s l r ihl ihr =>
    have e1 : sizeL (onL ls (⟨s, l⟩ :: r)) = sizeL [onT ls ⟨s, l⟩] + sizeL (onL ls r) := by
      rw [onL_cons]
      generalize onT ls ⟨s, l⟩ = x
      obtain ⟨s2, m⟩ := x
      simp [sizeL]
    have e2 : sizeL (⟨s, l⟩ :: r) = (1 + sizeL l) + sizeL r := by simp [sizeL]
    have h1 : sizeL [onT ls ⟨s, l⟩] ≤ (1 + sizeL l) * M := by
      have hdeep : sizeL [(⟨s, onL ls l⟩ : Tm)] ≤ (1 + sizeL l) * M := by
        simp only [sizeL]
        rw [Nat.add_mul]
        omega
      unfold onT onN
      cases hf : forT ls s with
      | none => exact hdeep
      | some x =>
        dsimp only
        split
        · obtain ⟨d, hd, _, rfl⟩ := forT_mem hf
          have := h d hd
          rw [Nat.add_mul]
          omega
        · exact hdeep
    rw [e1, e2, Nat.add_mul]
    omega
theorem onT_size {ls : List Bd} {M : Nat} (hM : 1 ≤ M) (h : ∀ d ∈ ls, sizeL [d.t] ≤ M) (t : Tm) : sizeL [onT ls t] ≤ sizeL [t] * M := by
  have h1 := onL_size hM h [t]
  rw [onL_cons] at h1
  simpa [onL] using h1

/-- What the region that makes the instance leaves. -/
def MmB (w3 : World) (Q : Nat) (s : ByteArray) (a : Option Addr) (n c : Nat) (l0 : List Tm) (w9 : World) : Prop := Blk w9 Q #[.string s, .slice a n c] 29 ∧ Below w3.heap.size w3 w9 ∧ Sl w9 (fun _ => True) a l0
theorem mmB_set {w3 w8 : World} {Q n c : Nat} {s : ByteArray} {a : Option Addr} {l0 : List Tm} (hQ : Blk w8 Q #[.string ⟨#[]⟩, .slice none 0 0] 29) (hw : w3.heap.size ≤ Q) (hb : Below w3.heap.size w3 w8) (hs : Sl w8 (fun b => b ≠ Q) a l0) :
    MmB w3 Q s a n c l0 ((w8.setCell ⟨Q, 0, none⟩ (.string s)).setCell ⟨Q, 1, none⟩ (.slice a n c)) :=
  ⟨(hQ.set 0 _).set 1 _, (hb.setCell (by exact hw) _).setCell (by exact hw) _, (hs.kept fun b hb => by
    rw [Below.heap_setCell _ _ _ _ (by simpa using hb), Below.heap_setCell _ _ _ _ (by simpa using hb)]).mono fun b hb _ => trivial⟩

set_option maxHeartbeats 3000000 in
theorem matchMade_any (zs : List Int) (hr : ∀ z ∈ zs, Rng z) (y y2 : Int) (hy : Rng y) (hy2 : Rng y2) (u : Value) (w : World) (X : Nat → Prop) (hu : PV w X u zs) :
    Calls Try.prog 5 #[u, .int .i64 y, .int .i64 y2] w fun e w' => e = .returned (.bool true) ∧ Below w.heap.size w w' := by
  have HU := hide hu
  obtain ⟨a, c, rfl, hlc, hu2⟩ := hu
  clear hu2
  by_cases h256 : 256 < zs.length
  · go_enter Try.func5, Try.ntmps5
    go_wp2_with fail
    go_ret
    exact ⟨rfl, Below.refl _ _⟩
  · go_enter Try.func5, Try.ntmps5
    go_wp2_with fail
    refine (pick_any _ 14 (by decide) (by decide) hy _).mono ?_
    rintro e w1 ⟨k1, rfl, hk1, rfl⟩
    go_wp2_with fail
    refine (termOf_any 3 (by decide) (by decide) zs hr (by omega) k1 0 _ _ X HU.out (by omega) (by unfold top; split <;> omega)).mono ?_
    rintro e w2 ⟨t2, a2, c2, rfl, hs2, hz2, hb2, _⟩
    have htop : sizeL [t2] ≤ 1000000 := by
      have : top k1 ≤ 100 := by unfold top; split <;> omega
      omega
    have hbA : Below w2.heap.size w2 (w2.alloc (.cells #[.string t2.name, .slice a2 t2.args.length c2] 29)) := (Below.refl _ _).alloc (Nat.le_refl _) _
    have P3 := hide (Blk.new w2 #[.string t2.name, .slice a2 t2.args.length c2] 29)
    have B3 := hide ((hb2.trans (hbA.mono hb2.size)))
    have S3 := hide ((hs2.later hbA).mono (Y := fun _ => True) fun _ _ _ => trivial)
    have hz2' := hb2.size
    clear hb2 hs2 hbA
    go_wp2_with fail
    have p0 := P3.out.cell 0
    have p1 := P3.out.cell 1
    generalize w2.alloc (.cells #[.string t2.name, .slice a2 t2.args.length c2] 29) = w3 at *
    generalize w2.heap.size = P at *
    have PKA : Hid (∀ w', Calls Try.prog 9 #[.int .i64 y2, .int .i64 6] w' fun e w'' => e = .returned (.int .i64 (pickN y2 6 : Int)) ∧ w'' = w') := fun w' => pick_eq y2 6 (by decide) (by decide) hy2 w'
    have hp6 := pickN_lt y2 6 (by decide)
    generalize pickN y2 6 = k3 at *
    have BFA : Hid (∀ w', Below w3.heap.size w3 w' → Calls Try.prog 8 #[.slice a zs.length c, .int .i64 30, .int .i64 (k3 : Int), .int .i64 3] w' fun e w'' => ∃ v ls, e = .returned v ∧ BV w'' (fun b => w'.heap.size ≤ b) v ls ∧ (∀ d ∈ ls, sizeL [d.t] ≤ 9) ∧ Below w3.heap.size w3 w'' ∧ Below w'.heap.size w' w'') := fun w' hb => by
      refine (bindsFrom_any 3 (by decide) (by decide) zs hr (by omega) k3 30 _ w' X ((HU.out.later B3.out).later hb) (by omega) (by unfold top; split <;> omega)).mono ?_
      rintro e w5 ⟨v, ls, rfl, hv, _, hsz, hb5⟩
      have ht : top k3 ≤ 9 := by unfold top; split <;> omega
      exact ⟨v, ls, rfl, hv, fun d hd => by have := (hsz d hd).1; omega, hb.trans (hb5.mono hb.size), hb5⟩
    have hsz2 : sizeL [t2] ≤ 25 := by
      have : top k1 ≤ 25 := by unfold top; split <;> omega
      omega
    have ONA : Hid (∀ (Y : Nat → Prop) v ls w', (∀ b, b < w3.heap.size → Y b) → Below w3.heap.size w3 w' → BV w' Y v ls → (∀ d ∈ ls, sizeL [d.t] ≤ 9) → Calls Try.prog 22 #[v, .agg #[.string t2.name, .slice a2 t2.args.length c2]] w' fun e w'' => ∃ a6 c6, e = .returned (.tuple #[.agg #[.string (onT ls t2).name, .slice a6 (onT ls t2).args.length c6], .bool true]) ∧ Below w3.heap.size w3 w'' ∧ Below w'.heap.size w' w'' ∧ Sl w'' (fun b => Y b ∨ w'.heap.size ≤ b) a6 (onT ls t2).args ∧ sizeL [onT ls t2] ≤ 2000) := fun Y v ls w' hY hb hv hd => by
      refine (onAll_any ls t2 v _ w' Y hv ⟨_, _, rfl, (((S3.out.mono (Y := fun b => b < w3.heap.size) fun b _ h => h).later hb).mono fun b h _ => hY b h)⟩ htop).mono ?_
      rintro e w6 ⟨hb6, ⟨h6, _⟩ | ⟨h6, a6, c6, rfl, hs6⟩⟩
      · have := onT_size (by decide) hd t2
        omega
      · exact ⟨a6, c6, rfl, hb.trans (hb6.mono hb.size), hb6, hs6.mono fun b h _ => h.imp (fun h => h.1) id, h6⟩
    have KP : Hid (∀ w', Below w3.heap.size w3 w' → w'.cell? ⟨P, 0, none⟩ = some (.string t2.name) ∧ w'.cell? ⟨P, 1, none⟩ = some (.slice a2 t2.args.length c2)) := fun w' hb => ⟨(P3.out.below hb P3.out.lt).cell 0, (P3.out.below hb P3.out.lt).cell 1⟩
    have hPl : P < w3.heap.size := P3.out.lt
    go_region_held3 (fun w' => w'.cell? ⟨P, 0, none⟩ = some (.string t2.name) ∧ w'.cell? ⟨P, 1, none⟩ = some (.slice a2 t2.args.length c2)) (first | exact hS | exact ⟨p0, p1⟩ | exact two_keep (two_keep hS nQ nQ) nQ nQ | exact two_keep hS nQ nQ | go_keep)
      (first
        | (go_at_call 9; refine (PKA.out _).mono ?_; rintro e w4 ⟨rfl, rfl⟩)
        | (go_at_call 8; refine (BFA.out _ (by first | exact Below.refl _ _ | exact (Below.refl _ _).drew | exact ((Below.refl _ _).alloc (Nat.le_refl _) _) | exact ((Below.refl _ _).drew.alloc (Nat.le_refl _) _) | exact ((Below.refl _ _).alloc (Nat.le_refl _) _).drew)).mono ?_; rintro e w5 ⟨v5, l5, rfl, hv5, hz5, hb5, hbl5⟩; have hS := KP.out _ hb5)
        | (go_at_call 22;
            first
              | (refine (ONA.out (fun b => b ≠ w5.heap.size) _ _ _ (fun b h => by have := hb5.size; omega) (by exact hb5.alloc hb5.size _) (by exact ((hv5.mono (Y := fun b => b ≠ w5.heap.size) (fun b _ h => by omega)).alloc _)) hz5).mono ?_; rintro e w6 ⟨a6, c6, rfl, hb6, hbl6, hs6, hz6⟩; have hS := KP.out _ hb6; have QB : Blk w6 w5.heap.size #[.string ⟨#[]⟩, .slice none 0 0] 29 := (Blk.new w5 _ _).below hbl6 (by simp); have q0 := QB.cell 0; have q1 := QB.cell 1; have qf := QB.frozen; have ql := QB.lt; have hQN : w3.heap.size ≤ w5.heap.size := hb5.size; have nQ : w5.heap.size ≠ P := by omega)
              | (have BVq : BV w5 (fun b => b ≠ w3.heap.size) v5 l5 := hv5.mono (fun b h _ => by simp at h; omega); refine (ONA.out (fun b => b ≠ w3.heap.size) _ _ _ (fun b h => by omega) (by exact hb5) (by exact BVq) hz5).mono ?_; rintro e w6 ⟨a6, c6, rfl, hb6, hbl6, hs6, hz6⟩; have hS := KP.out _ hb6; have QB : Blk w6 w3.heap.size #[.string ⟨#[]⟩, .slice none 0 0] 29 := (((Blk.new w3 _ _).drewN 1).below hbl5 (by simp)).below hbl6 (by have := hbl5.size; simp at this; omega); have q0 := QB.cell 0; have q1 := QB.cell 1; have qf := QB.frozen; have ql := QB.lt; have hQN : w3.heap.size ≤ w3.heap.size := Nat.le_refl _; have nQ : w3.heap.size ≠ P := by omega)
              | (refine (ONA.out (fun _ => True) _ _ _ (fun _ _ => trivial) (by exact hb5) (by exact hv5.mono fun _ _ _ => trivial) hz5).mono ?_; rintro e w6 ⟨a6, c6, rfl, hb6, hbl6, hs6, hz6⟩; have hS := KP.out _ hb6)))
    all_goals first
      | (have TB : Hid (MmB w3 w5.heap.size (onT l5 t2).name a6 (onT l5 t2).args.length c6 (onT l5 t2).args ((w6.setCell ⟨w5.heap.size, 0, none⟩ (.string (onT l5 t2).name)).setCell ⟨w5.heap.size, 1, none⟩ (.slice a6 (onT l5 t2).args.length c6))) := mmB_set QB hQN hb6 (hs6.mono fun b hb _ => by rcases hb with h | h; exact h; simp at h; omega); generalize ((w6.setCell ⟨w5.heap.size, 0, none⟩ (.string (onT l5 t2).name)).setCell ⟨w5.heap.size, 1, none⟩ (.slice a6 (onT l5 t2).args.length c6)) = w9 at *; generalize w5.heap.size = Q at *)
      | (have hz35 : w3.heap.size < w5.heap.size := by (have := hbl5.size; simp at this; omega)
         have TB : Hid (MmB w3 w3.heap.size (onT l5 t2).name a6 (onT l5 t2).args.length c6 (onT l5 t2).args ((w6.setCell ⟨w3.heap.size, 0, none⟩ (.string (onT l5 t2).name)).setCell ⟨w3.heap.size, 1, none⟩ (.slice a6 (onT l5 t2).args.length c6))) := mmB_set QB (by exact hQN) hb6 (hs6.mono fun b hb _ => by rcases hb with h | h; exact h; omega)
         generalize ((w6.setCell ⟨w3.heap.size, 0, none⟩ (.string (onT l5 t2).name)).setCell ⟨w3.heap.size, 1, none⟩ (.slice a6 (onT l5 t2).args.length c6)) = w9 at *
         obtain ⟨Q, hQe⟩ : ∃ Q, Q = w3.heap.size := ⟨_, rfl⟩
         rw [← hQe] at TB ⊢
         clear hQe)
      | (have TB : Hid (MmB w3 w6.heap.size (onT l5 t2).name a6 (onT l5 t2).args.length c6 (onT l5 t2).args (w6.alloc (.cells #[.string (onT l5 t2).name, .slice a6 (onT l5 t2).args.length c6] 29))) := ⟨Blk.new w6 _ _, hb6.alloc hb6.size _, (hs6.later ((Below.refl _ _).alloc (Nat.le_refl _) _)).mono fun _ _ _ => trivial⟩; generalize (w6.alloc (.cells #[.string (onT l5 t2).name, .slice a6 (onT l5 t2).args.length c6] 29)) = w9 at *; generalize w6.heap.size = Q at *)
    all_goals
      clear PKA BFA ONA
      generalize onT l5 t2 = x at *
      have HB9 := hide TB.out.2.1
      have q0 : w9.cell? ⟨Q, 0, none⟩ = some (.string x.name) := TB.out.1.cell 0
      have q1 : w9.cell? ⟨Q, 1, none⟩ = some (.slice a6 x.args.length c6) := TB.out.1.cell 1
      have p0' : w9.cell? ⟨P, 0, none⟩ = some (.string t2.name) := (KP.out w9 HB9.out).1
      have p1' : w9.cell? ⟨P, 1, none⟩ = some (.slice a2 t2.args.length c2) := (KP.out w9 HB9.out).2
      have K4 : Hid (∀ w', Below w9.heap.size w9 w' → w'.cell? ⟨P, 0, none⟩ = some (.string t2.name) ∧ w'.cell? ⟨P, 1, none⟩ = some (.slice a2 t2.args.length c2) ∧ w'.cell? ⟨Q, 0, none⟩ = some (.string x.name) ∧ w'.cell? ⟨Q, 1, none⟩ = some (.slice a6 x.args.length c6)) := fun w' hb => ⟨cell_later hb p0', cell_later hb p1', cell_later hb q0, cell_later hb q1⟩
      have TX : Hid (∀ w', Below w9.heap.size w9 w' → TV w' (fun _ => True) (.agg #[.string x.name, .slice a6 x.args.length c6]) x) := fun w' hb => ⟨_, _, rfl, TB.out.2.2.later hb⟩
      have TT : Hid (∀ w', Below w9.heap.size w9 w' → TV w' (fun _ => True) (.agg #[.string t2.name, .slice a2 t2.args.length c2]) t2) := fun w' hb => ⟨_, _, rfl, (S3.out.later HB9.out).later hb⟩
      have M1 : Hid (∀ w', Below w9.heap.size w9 w' → Calls Try.prog 4 #[.agg #[.string t2.name, .slice a2 t2.args.length c2], .agg #[.string x.name, .slice a6 x.args.length c6]] w' fun e w'' => e = .returned (.bool true) ∧ Below w9.heap.size w9 w'') := fun w' hb => (matchSays_any t2 x _ _ w' _ (TT.out w' hb) (TX.out w' hb)).mono fun e w'' h => ⟨h.1, hb.trans (h.2.mono hb.size)⟩
      have M2 : Hid (∀ w', Below w9.heap.size w9 w' → Calls Try.prog 4 #[.agg #[.string x.name, .slice a6 x.args.length c6], .agg #[.string t2.name, .slice a2 t2.args.length c2]] w' fun e w'' => e = .returned (.bool true) ∧ Below w9.heap.size w9 w'') := fun w' hb => (matchSays_any x t2 _ _ w' _ (TX.out w' hb) (TT.out w' hb)).mono fun e w'' h => ⟨h.1, hb.trans (h.2.mono hb.size)⟩
      have M3 : Hid (∀ w', Below w9.heap.size w9 w' → Calls Try.prog 11 #[.slice a zs.length c, .int .i64 70, .int .i64 7, .int .i64 2] w' fun e w'' => ∃ (t : Tm) (a : Option Addr) (c : Nat), e = .returned (.agg #[.string t.name, .slice a t.args.length c]) ∧ Sl w'' (fun _ => True) a t.args ∧ Below w9.heap.size w9 w'') := fun w' hb => by
        refine (termOf_any 2 (by decide) (by decide) zs hr (by omega) 7 70 _ w' X (((HU.out.later B3.out).later HB9.out).later hb) (by omega) (by unfold top; split <;> omega)).mono ?_
        rintro e w'' ⟨t, a, c, rfl, hs, _, hb2, _⟩
        exact ⟨t, a, c, rfl, hs.mono fun _ _ _ => trivial, hb.trans (hb2.mono hb.size)⟩
      have M4 : Hid (∀ (t : Tm) a c w', Below w9.heap.size w9 w' → Sl w' (fun _ => True) a t.args → Calls Try.prog 4 #[.agg #[.string t2.name, .slice a2 t2.args.length c2], .agg #[.string t.name, .slice a t.args.length c]] w' fun e w'' => e = .returned (.bool true) ∧ Below w9.heap.size w9 w'') := fun t a c w' hb hs => (matchSays_any t2 t _ _ w' _ (TT.out w' hb) ⟨_, _, rfl, hs⟩).mono fun e w'' h => ⟨h.1, hb.trans (h.2.mono hb.size)⟩
      have BW9 := hide (B3.out.trans (HB9.out.mono B3.out.size))
      have HS0 := hide (And.intro p0' (And.intro p1' (And.intro q0 q1)))
      clear KP
      go_wp2_with fail
      go_region_held3 (fun w' => w'.cell? ⟨P, 0, none⟩ = some (.string t2.name) ∧ w'.cell? ⟨P, 1, none⟩ = some (.slice a2 t2.args.length c2) ∧ w'.cell? ⟨Q, 0, none⟩ = some (.string x.name) ∧ w'.cell? ⟨Q, 1, none⟩ = some (.slice a6 x.args.length c6)) (first | exact HS0.out | exact hT4 | exact hT3 | exact hT2 | exact hT1 | go_keep)
        (first
          | (go_at_call 11; have hgd := hd2; clear hgd; refine (M3.out _ (by first | exact hd2 | exact hd2.drew)).mono ?_; rintro e w13 ⟨t3, a13, c13, rfl, hs13, hd3⟩; have hT3 := K4.out _ hd3)
          | (go_at_call 4;
              first
                | (have hgd := hd3; clear hgd; refine (M4.out t3 a13 c13 _ (by first | exact hd3 | exact hd3.drew) (by exact hs13)).mono ?_; rintro e w14 ⟨rfl, hd4⟩; have hT4 := K4.out _ hd4)
                | (have hgd := hd1; clear hgd; refine (M2.out _ (by first | exact hd1 | exact hd1.drew)).mono ?_; rintro e w12 ⟨rfl, hd2⟩; have hT2 := K4.out _ hd2)
                | (refine (M1.out _ (by first | exact Below.refl _ _ | exact (Below.refl _ _).drew)).mono ?_; rintro e w11 ⟨rfl, hd1⟩; have hT1 := K4.out _ hd1)))
      all_goals
        have BWF := hide (BW9.out.trans (hd4.mono BW9.out.size))
        clear hd1 hd2 hd3 hd4 hT1 hT2 hT3 hT4
        go_wp2_with fail
        go_ret
        exact ⟨rfl, BWF.out⟩
#print axioms matchMade_any
end Go.Proofs.Ytpjdkdebjkpmmab

/- Terms and lists of numbers as they are read before the call. -/
namespace Go.Proofs.Ytpjdkdebjkpmmab
open Go.ChangeShapes Go.WideShapes Go.ChangeAt Go.RowKit
set_option linter.unusedSimpArgs false
set_option linter.unusedVariables false
set_option maxRecDepth 8000

theorem Try.cellsTerm : Try.prog.cellsOf 29 = 2 := by kernel_rfl
theorem Try.cellsStr : Try.prog.cellsOf 9 = 1 := by kernel_rfl
theorem Try.cellsSl : Try.prog.cellsOf 27 = 1 := by kernel_rfl
theorem Try.cellsInt : Try.prog.cellsOf 3 = 1 := by kernel_rfl

theorem cells2 {w : World} {a : Addr} {cs : List Value} (h : w.cells? 0 a 2 = some cs) : ∃ c0 c1, cs = [c0, c1] ∧ w.cell? a = some c0 ∧ w.cell? (a.add 1) = some c1 := by
  have e : (List.range 2) = [0, 1] := rfl
  simp only [World.cells?, Nat.zero_le, if_true, e] at h
  simp only [List.mapM_cons, List.mapM_nil, Option.bind_eq_bind, Option.bind_eq_some_iff, Option.pure_def] at h
  obtain ⟨c0, h0, r, ⟨c1, h1, r2, h2, h3⟩, h4⟩ := h
  simp only [Option.some.injEq] at h2 h3 h4
  subst h2; subst h3; subst h4
  exact ⟨c0, c1, rfl, by simpa [Addr.add] using h0, h1⟩

theorem cells1 {w : World} {a : Addr} {cs : List Value} (h : w.cells? 0 a 1 = some cs) : ∃ c0, cs = [c0] ∧ w.cell? a = some c0 := by
  have e : (List.range 1) = [0] := rfl
  simp only [World.cells?, Nat.zero_le, if_true, e] at h
  simp only [List.mapM_cons, List.mapM_nil, Option.bind_eq_bind, Option.bind_eq_some_iff, Option.pure_def] at h
  obtain ⟨c0, h0, r, h1, h2⟩ := h
  simp only [Option.some.injEq] at h1 h2
  subst h1; subst h2
  exact ⟨c0, rfl, by simpa [Addr.add] using h0⟩

theorem open_term {H : Type} {enc : TypeId × Value → H} {w : World} {sp : Nat → Bool} {held : Bool} : ∀ (fuel : Nat) (cs : List Value) (x : DataW H × List MemPlace), DataW.trod enc Try.prog w 0 sp held fuel 29 cs = some x →
    ∃ (t : Tm) (a : Option Addr) (c : Nat), cs = [.string t.name, .slice a t.args.length c] ∧ Sl w (fun _ => True) a t.args := by
  intro fuel
  induction fuel using Nat.strongRecOn with
  | ind fuel ih =>
    intro cs x h
    obtain ⟨xs, n, hfu, hx, hl, hxl, hf⟩ := DataW.trod_struct Try.underlying29 h
    have f0 := hf 0 _ rfl
    have f1 := hf 1 _ rfl
    rw [Try.cellsTerm] at hl
    match cs, hl with
    | [c0, c1], _ =>
      match xs, hxl with
      | [y0, y1], _ =>
        simp [Try.cellsStr, Try.cellsSl] at f0 f1
        obtain ⟨s, e0, _, hs⟩ := DataW.trod_string Try.underlying9 f0
        simp at e0
        subst e0
        rcases DataW.trod_slice Try.underlying27 f1 with ⟨e1, _⟩ | ⟨a, len, cap, elems, rest, n2, hn2, e1, _, hb, hlc, hcm, hel, helem, _⟩
        · simp at e1
          subst e1
          exact ⟨⟨s, []⟩, none, 0, rfl, by simp, Or.inl rfl⟩
        · simp at e1
          subst e1
          unfold maxLen at hcm
          rw [Try.cellsTerm] at helem
          have key : ∀ i, ∃ t : Tm, i < len → ∃ a' c', w.cell? (a.add (i * 2)) = some (.string t.name) ∧ w.cell? ((a.add (i * 2)).add 1) = some (.slice a' t.args.length c') ∧ Sl w (fun _ => True) a' t.args := by
            intro i
            by_cases hi : i < len
            · have h1 := helem i hi
              have hie : i < elems.length := by omega
              rw [List.getElem?_eq_getElem hie, Option.bind_eq_some_iff] at h1
              obtain ⟨cs', h2, h3⟩ := h1
              obtain ⟨d0, d1, rfl, g0, g1⟩ := cells2 h2
              obtain ⟨t, a', c', e3, hsl⟩ := ih n2 (by omega) _ _ h3
              simp at e3
              obtain ⟨rfl, rfl⟩ := e3
              exact ⟨t, fun _ => ⟨a', c', g0, g1, hsl⟩⟩
            · exact ⟨⟨s, []⟩, fun h => absurd h hi⟩
          obtain ⟨T, hT⟩ := Classical.skolem.1 key
          refine ⟨⟨s, (List.range len).map T⟩, some a, cap, by simp, by simp; omega, ?_⟩
          by_cases h0 : len = 0
          · subst h0; exact Or.inl rfl
          · right
            obtain ⟨b, o, sp⟩ := a
            obtain ⟨a0, c0, g0, _, _⟩ := hT 0 (by omega)
            have hsp : sp = none := by simpa [Addr.add] using World.cell?_spot g0
            subst hsp
            refine ⟨b, o, rfl, lies_mk _ _ _ fun i hi => ?_⟩
            simp at hi
            obtain ⟨a', c', g0, g1, hsl⟩ := hT i hi
            refine ⟨trivial, ?_, a', c', ?_, ?_⟩
            · simp only [List.getElem_map, List.getElem_range]
              by_cases h00 : i = 0
              · subst h00; simpa [Addr.add] using g0
              · have : i * 2 ≠ 0 := by omega
                simpa [Addr.add, this] using g0
            · simp only [List.getElem_map, List.getElem_range]
              by_cases h00 : i = 0
              · subst h00; simpa [Addr.add] using g1
              · have : i * 2 ≠ 0 := by omega
                simpa [Addr.add, this] using g1
            · simpa using hsl

theorem open_tv {H : Type} {enc : TypeId × Value → H} {w : World} {sp : Nat → Bool} {held : Bool} {r : Reach} {b0 : Nat} {v : Value} {d : DataW H} {p : List MemPlace} (hv : Value.okWide Try.prog w r b0 29 v) (h : DataW.Trod enc Try.prog w 0 sp held 29 v d p) : ∃ t, TV w (fun _ => True) v t := by
  obtain ⟨cs, rfl, hsz⟩ := okWide_struct Try.underlying29 hv
  obtain ⟨fuel, hf⟩ := h
  obtain ⟨t, a, c, e, hs⟩ := open_term fuel _ _ hf
  refine ⟨t, a, c, ?_, hs⟩
  simp [Value.cells] at e
  congr 1
  apply Array.ext'
  simpa using e

theorem open_pv {H : Type} {enc : TypeId × Value → H} {w : World} {sp : Nat → Bool} {held : Bool} {r : Reach} {b0 : Nat} {v : Value} {d : DataW H} {p : List MemPlace} (hv : Value.okWide Try.prog w r b0 22 v) (h : DataW.Trod enc Try.prog w 0 sp held 22 v d p) : ∃ zs, PV w (fun _ => True) v zs := by
  obtain ⟨a0, len0, cap0, rfl⟩ := okWide_slice Try.underlying22 hv
  obtain ⟨fuel, hf⟩ := h
  rcases DataW.trod_slice Try.underlying22 hf with ⟨e1, _⟩ | ⟨a, len, cap, elems, rest, n2, hn2, e1, _, hb, hlc, hcm, hel, helem, _⟩
  · simp [Value.cells] at e1
    obtain ⟨rfl, rfl, rfl⟩ := e1
    exact ⟨[], none, 0, rfl, by simp, Or.inl rfl⟩
  · simp [Value.cells] at e1
    obtain ⟨rfl, rfl, rfl⟩ := e1
    unfold maxLen at hcm
    rw [Try.cellsInt] at helem
    have key : ∀ i, ∃ z : Int, i < len0 → w.cell? (a.add i) = some (.int .i64 z) := by
      intro i
      by_cases hi : i < len0
      · have h1 := helem i hi
        have hie : i < elems.length := by omega
        rw [List.getElem?_eq_getElem hie, Option.bind_eq_some_iff, Nat.mul_one] at h1
        obtain ⟨cs', h2, h3⟩ := h1
        obtain ⟨d0, rfl, g0⟩ := cells1 h2
        obtain ⟨z, e3, _⟩ := DataW.trod_int Try.underlying3 h3
        simp at e3
        subst e3
        exact ⟨z, fun _ => g0⟩
      · exact ⟨0, fun h => absurd h hi⟩
    obtain ⟨Z, hZ⟩ := Classical.skolem.1 key
    refine ⟨(List.range len0).map Z, some a, cap0, by simp, by simp; omega, ?_⟩
    by_cases h0 : len0 = 0
    · subst h0; exact Or.inl rfl
    · right
      obtain ⟨b, o, sp⟩ := a
      have g0 := hZ 0 (by omega)
      have hsp : sp = none := by simpa [Addr.add] using World.cell?_spot g0
      subst hsp
      refine ⟨b, o, rfl, trivial, fun i hi => ?_⟩
      simp at hi
      have g1 := hZ i hi
      simp only [List.getElem_map, List.getElem_range]
      by_cases h00 : i = 0
      · subst h00; simpa [Addr.add] using g1
      · simpa [Addr.add, h00] using g1
#print axioms open_tv
#print axioms open_pv
end Go.Proofs.Ytpjdkdebjkpmmab

/- Lists of numbers as they are read before the call, with their bounds. -/
namespace Go.Proofs.Ytpjdkdebjkpmmab
open Go.ChangeShapes Go.WideShapes Go.ChangeAt Go.RowKit
set_option linter.unusedSimpArgs false
set_option linter.unusedVariables false
set_option maxRecDepth 8000

theorem rng_wf {n : Int} (h : (Lit.int .i64 n).wf = true) : Rng n := by
  have h1 : IntKind.i64.min = -9223372036854775808 := by decide
  have h2 : IntKind.i64.max = 9223372036854775807 := by decide
  simp only [Lit.wf, h1, h2, Bool.and_eq_true, decide_eq_true_eq] at h
  exact h

theorem open_int {H : Type} {enc : TypeId × Value → H} {w : World} {sp : Nat → Bool} {held : Bool} {r : Reach} {b0 : Nat} {v : Value} {d : DataW H} {p : List MemPlace} (hv : Value.okWide Try.prog w r b0 3 v) (h : DataW.Trod enc Try.prog w 0 sp held 3 v d p) : ∃ z, v = .int .i64 z ∧ Rng z := by
  obtain ⟨z, rfl⟩ := okWide_int Try.underlying3 hv
  obtain ⟨fuel, hf⟩ := h
  obtain ⟨z', e3, _, hwf⟩ := DataW.trod_int Try.underlying3 hf
  simp [Value.cells] at e3
  subst e3
  exact ⟨_, rfl, rng_wf hwf⟩

theorem open_pvr {H : Type} {enc : TypeId × Value → H} {w : World} {sp : Nat → Bool} {held : Bool} {r : Reach} {b0 : Nat} {v : Value} {d : DataW H} {p : List MemPlace} (hv : Value.okWide Try.prog w r b0 22 v) (h : DataW.Trod enc Try.prog w 0 sp held 22 v d p) : ∃ zs, PV w (fun _ => True) v zs ∧ ∀ z ∈ zs, Rng z := by
  obtain ⟨a0, len0, cap0, rfl⟩ := okWide_slice Try.underlying22 hv
  obtain ⟨fuel, hf⟩ := h
  rcases DataW.trod_slice Try.underlying22 hf with ⟨e1, _⟩ | ⟨a, len, cap, elems, rest, n2, hn2, e1, _, hb, hlc, hcm, hel, helem, _⟩
  · simp [Value.cells] at e1
    obtain ⟨rfl, rfl, rfl⟩ := e1
    exact ⟨[], ⟨none, 0, rfl, by simp, Or.inl rfl⟩, by simp⟩
  · simp [Value.cells] at e1
    obtain ⟨rfl, rfl, rfl⟩ := e1
    unfold maxLen at hcm
    rw [Try.cellsInt] at helem
    have key : ∀ i, ∃ z : Int, Rng z ∧ (i < len0 → w.cell? (a.add i) = some (.int .i64 z)) := by
      intro i
      by_cases hi : i < len0
      · have h1 := helem i hi
        have hie : i < elems.length := by omega
        rw [List.getElem?_eq_getElem hie, Option.bind_eq_some_iff, Nat.mul_one] at h1
        obtain ⟨cs', h2, h3⟩ := h1
        obtain ⟨d0, rfl, g0⟩ := cells1 h2
        obtain ⟨z, e3, _, hwf⟩ := DataW.trod_int Try.underlying3 h3
        simp at e3
        subst e3
        exact ⟨z, rng_wf hwf, fun _ => g0⟩
      · exact ⟨0, by unfold Rng; omega, fun h => absurd h hi⟩
    obtain ⟨Z, hZ⟩ := Classical.skolem.1 key
    refine ⟨(List.range len0).map Z, ⟨some a, cap0, by simp, by simp; omega, ?_⟩, fun z hz => by obtain ⟨i, _, rfl⟩ := List.mem_map.1 hz; exact (hZ i).1⟩
    by_cases h0 : len0 = 0
    · subst h0; exact Or.inl rfl
    · right
      obtain ⟨b, o, sp⟩ := a
      have g0 := (hZ 0).2 (by omega)
      have hsp : sp = none := by simpa [Addr.add] using World.cell?_spot g0
      subst hsp
      refine ⟨b, o, rfl, trivial, fun i hi => ?_⟩
      simp at hi
      have g1 := (hZ i).2 hi
      simp only [List.getElem_map, List.getElem_range]
      by_cases h00 : i = 0
      · subst h00; simpa [Addr.add] using g1
      · simpa [Addr.add, h00] using g1
#print axioms open_pvr
#print axioms open_int
end Go.Proofs.Ytpjdkdebjkpmmab
