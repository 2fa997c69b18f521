/- Walks: what lies below a knot is filled by such a function. -/
import Derived.Test.YteojdfmdhgnmfaaGreatFl1
import Derived.Test.YteojdfmdhgnmfaaGreatZDTopEmbedOwn
namespace Go.Proofs.YteojdfmdhgnmfaaGreat
open Go.RowKit
set_option linter.unusedSimpArgs false
set_option linter.unusedVariables false
set_option maxRecDepth 8000

/-- What stands beside the row. -/
def KlSet (Mt : Nat → Prop) (w : World) (F O : Nat) (s : ByteArray) (u : Value) (cF : Array Value) (wr : World) : Prop :=
  ExQ (fun b => b = F ∨ Mt b) w wr ∧ Blk wr (w.heap.size + 1) #[.string ⟨#[]⟩, .slice none 0 0] 25 ∧ Blk wr O #[.string s, u] 25 ∧ Blk wr F cF 167 ∧ O < wr.heap.size

theorem kl_set {Mt : Nat → Prop} {w wr w1 w3 : World} {F O : Nat} {s : ByteArray} {u v : Value} {cF cF' : Array Value} {o2 : Obj} (hFw : F < w.heap.size) (hM : ∀ b, Mt b → b < w.heap.size) (hO : w.heap.size + 2 ≤ O) (h : KlSet Mt w F O s u cF wr) (hu : ∀ k, u.ownBlock = some k → O + 1 ≤ k)
    (he1 : ExQ (fun b => b = F ∨ Mt b) wr w1) (hF1 : Blk w1 F cF' 167) (hg : (w1.alloc o2).grownBy w3 u.ownBlock) : KlSet Mt w F O s v cF' (w3.setCell ⟨O, 1, none⟩ v) := by
  obtain ⟨h1, h2, h3, h4, h5⟩ := h
  have hne : ∀ b, b < O + 1 → some b ≠ u.ownBlock := fun b hb e => by have := hu b e.symm; omega
  have hQ : ∀ b, w.heap.size ≤ b → ¬ (b = F ∨ Mt b) := fun b hb h => by
    rcases h with h | h
    · omega
    · have := hM b h; omega
  have hs1 := he1.size
  have hs3 := hg.size
  simp at hs3
  refine ⟨(((h1.trans he1).alloc o2).grown hg (fun k hk => Or.inl (by have := hu k hk; omega))).setNew (by omega) _ _, ?_, ?_, ?_, by simp [World.setCell]; omega⟩
  · exact (((h2.exq he1 (hQ _ (by omega))).alloc o2).grown hg (hne _ (by omega))).setOther _ _ (by omega)
  · exact (((h3.exq he1 (hQ _ (by omega))).alloc o2).grown hg (hne _ (by omega))).set 1 _
  · exact ((hF1.alloc o2).grown hg (hne _ (by omega))).setOther _ _ (by omega)

theorem kl_row {Q : Nat → Prop} {wr w1 w3 : World} {O : Nat} {u : Value} {L : List Tm} {xs : List Value} {o2 : Obj} {s' : ByteArray} {a1 : Option Addr} {n1 c1 g cap : Nat} {t : Tm} (hQ : ∀ b, Q b → b < O) (hOr : O < wr.heap.size) (hrow : Row wr (O + 1) 25 (fun _ => False) u L xs)
    (he1 : ExQ Q wr w1) (ht : TV w1 (fun b => wr.heap.size ≤ b) (.agg #[.string s', .slice a1 n1 c1]) t)
    (hown : w3.ownsRow (O + 1) 25 2 (.slice (some ⟨g, 0, none⟩) (L.length + 1) cap) (L.length + 1) (xs ++ [.string s', .slice a1 n1 c1])) (hg : (w1.alloc o2).grownBy w3 u.ownBlock) (hat : u.ownBlock = some g ∨ g = (w1.alloc o2).heap.size) :
    Row (w3.setCell ⟨O, 1, none⟩ (.slice (some ⟨g, 0, none⟩) (L.length + 1) cap)) (O + 1) 25 (fun _ => False) (.slice (some ⟨g, 0, none⟩) (L.length + 1) cap) (L ++ [t]) (xs ++ [.string s', .slice a1 n1 c1]) := by
  obtain ⟨wm, hbm, hsm, hem⟩ := he1.mid
  have hrm := hrow.exq hem (fun b hb => by have := hQ b hb; omega) (fun _ _ h => h)
  exact (hrm.push (w1 := w1) (w2 := w1.alloc o2) (w3 := w3) (by omega) (fun _ h => h.elim) hbm (ht.mono fun b h _ => Or.inr (by omega)) o2 rfl hown hg hat).setCell (by omega) (fun h => h) _

/-- What is known midway. -/
def KlE (E : Ev) (O : Nat) (f : Bool) (Y : Nat → Prop) (u : Value) (f' : Bool) (Y' : Nat → Prop) (wr : World) : Prop :=
  E f' Y' wr ∧ (∀ b, Y' b → Y b ∨ O + 1 ≤ b) ∧ (∀ b, Y' b → some b ≠ u.ownBlock) ∧ (f = true → f' = true)
def KlInv (E : Ev) (Mt : Nat → Prop) (lk : ByteArray → Option Tm) (w : World) (F O : Nat) (s : ByteArray) (sv : Value) (l : List Tm) (n : Nat) (f : Bool) (Y : Nat → Prop) (i : Value) (wr : World) : Prop :=
  ∃ (k : Nat) (u : Value) (f' : Bool) (Y' : Nat → Prop), k ≤ l.length ∧ i = .int .i64 (k : Int) ∧ KlE E O f Y u f' Y' wr ∧
    ((∃ (m : Nat) (xs : List Value) (Mk : List Tm), Mk.length = k ∧ (m : Int) = (n : Int) - 1 - sizeL Mk ∧ KlSet Mt w F O s u #[.int .i64 (m : Int), sv] wr ∧ Row wr (O + 1) 25 (fun _ => False) u Mk xs ∧ (f' = false → Mk = gL lk (l.take k))) ∨
     (KlSet Mt w F O s u #[.int .i64 (-1), sv] wr ∧ (∃ a9 l9 c9, u = .slice a9 l9 c9) ∧ (f' = false → n < 1 + sizeL (gL lk l))))

theorem kl_ev {E : Ev} {Mt : Nat → Prop} (hE : EvOk E Mt) {O : Nat} {f f' f1 : Bool} {Y Y' Y1 : Nat → Prop} {u : Value} {wr w1 w3 : World} {o2 : Obj} {g cap n9 : Nat} {x : Value} (hYw : ∀ b, Y b → b < O) (h : KlE E O f Y u f' Y' wr) (hu : ∀ k, u.ownBlock = some k → k < wr.heap.size) (hOr : O < wr.heap.size) (hsz : wr.heap.size ≤ w1.heap.size)
    (hE1 : E f1 Y1 w1) (hsub : ∀ b, Y1 b → Y' b ∨ wr.heap.size ≤ b) (hff : f' = true → f1 = true) (hg : (w1.alloc o2).grownBy w3 u.ownBlock) (hat : u.ownBlock = some g ∨ g = (w1.alloc o2).heap.size) :
    KlE E O f Y (.slice (some ⟨g, 0, none⟩) n9 cap) f1 Y1 (w3.setCell ⟨O, 1, none⟩ x) := by
  obtain ⟨h1, h2, h3, h4⟩ := h
  have hin := hE.inY _ _ _ hE1
  have hno : ∀ b, Y1 b → some b ≠ u.ownBlock := fun b hb e => by
    rcases hsub b hb with h | h
    · exact h3 b h e
    · have := hu b e.symm; omega
  have hsb : ∀ b, Y1 b → Y b ∨ O + 1 ≤ b := fun b hb => by
    rcases hsub b hb with h | h
    · exact h2 b h
    · right; omega
  refine ⟨hE.keep _ _ _ _ hE1 fun b hb => ?_, hsb, fun b hb e => ?_, fun h => hff (h4 h)⟩
  · have hbO : b ≠ O := fun e => by
      rcases hsb b hb with h | h
      · have := hYw b h; omega
      · omega
    have hbl := hin b hb
    rw [Below.heap_setCell _ _ _ _ (by simpa using hbO), hg.block b (by simp; omega) (hno b hb), Below.heap_alloc _ _ _ hbl]
  · have e2 : b = g := by simpa [Value.ownBlock] using e
    subst e2
    rcases hat with h | h
    · exact hno b hb h.symm
    · have := hin b hb; simp at h; omega

theorem kl_end {E : Ev} {Mt : Nat → Prop} (hE : EvOk E Mt) {w wr : World} {F O : Nat} {s : ByteArray} {u sv : Value} {tgt : Tm} {n : Nat} {f f' : Bool} {Y Y' : Nat → Prop} {a' : Option Addr} {l' c' : Nat} {m : Int} {v0 v1 : Value} (hF : F < w.heap.size) (hY : ∀ b, Y b → b < w.heap.size) (hO : w.heap.size + 2 ≤ O)
    (h1 : KlSet Mt w F O s u #[.int .i64 m, sv] wr) (h2 : KlE E O f Y u f' Y' wr) (hc : FlC w tgt n f' s a' l' m 2 wr) :
    FlPost E Mt F sv tgt n f Y w (.returned (.agg #[.string s, .slice a' l' c'])) ((wr.setCell ⟨w.heap.size + 1, 0, none⟩ v0).setCell ⟨w.heap.size + 1, 1, none⟩ v1) :=
  fl_end hE hF hY h1.2.2.2.1 h1.1 h2.1 (fun b hb => (h2.2.1 b hb).imp id fun h => by omega) h2.2.2.2 hc
theorem fl_alloc {E : Ev} {Mt : Nat → Prop} (hE : EvOk E Mt) {w w' : World} {F : Nat} {sv : Value} {tgt : Tm} {n : Nat} {f : Bool} {Y : Nat → Prop} {e : Ending} (h : FlPost E Mt F sv tgt n f Y w e w') (o : Obj) : FlPost E Mt F sv tgt n f Y w e (w'.alloc o) := by
  obtain ⟨s', a', l', c', m, f', Y', he, h1, h2, h3, h4, h5, h6⟩ := h
  refine ⟨s', a', l', c', m, f', Y', he, h1.alloc o, h2.alloc o, hE.below h3 ((Below.refl _ _).alloc (Nat.le_refl _) o), h4, h5, ?_⟩
  rcases h6 with ⟨y, e1, e2, e3, e4, e5, e6⟩ | h6
  · exact Or.inl ⟨y, e1, e2, e3, e4, e5.later ((Below.refl _ _).alloc (Nat.le_refl _) o), e6⟩
  · exact Or.inr h6
theorem occ_get {nm : ByteArray} {l : List Tm} {k : Nat} (h : k < l.length) (ho : occL nm [l[k]]) : occL nm l := by
  have : l = l.take k ++ (l[k] :: l.drop (k + 1)) := by rw [List.getElem_cons_drop, List.take_append_drop]
  rw [this, occL_append, occL_cons]
  exact Or.inr (Or.inl ho)

set_option maxHeartbeats 1000000 in
theorem knotL_any {E : Ev} {Mt : Nat → Prop} (hE : EvOk E Mt) (F S : Nat) (lk : ByteArray → Option Tm) (t : Tm) : ∀ (n : Nat) (v : Value) (w : World) (X Y : Nat → Prop) (f : Bool), TV w X v t → (∀ b, X b → b ≠ F ∧ ¬ Mt b) → n ≤ 1000000 → Blk w F #[.int .i64 (n : Int), sV S] 167 → E f Y w → ¬ Y F → (∀ nm, occL nm t.args → varB nm = true → LkC E Mt S (lk nm) nm) →
    Calls Tryz.prog 113 #[.pointer (some ⟨F, 0, none⟩), v, .func (.func 99) #[.pointer (some ⟨F, 0, none⟩)] #[]] w fun e w' => FlPost E Mt F (sV S) ⟨t.name, gL lk t.args⟩ n f Y w e w' := by
  induction t using Tm.ind with
  | h s l ih =>
    intro n v w X Y f hv hXF hn hF hEv hYF hL
    obtain ⟨a, c, rfl, hs⟩ := hv
    dsimp only
    have HYW : Hid (∀ b, Y b → b < w.heap.size) := hE.inY _ _ _ hEv
    have HMT : Hid (∀ b, Mt b → b < w.heap.size) := fun b hb => HYW.out b (hE.mt _ _ _ hEv b hb)
    have HL := hide hL
    have HEV := hide hEv
    clear hL hEv
    generalize hsv : sV S = sv at *
    have IH := hide ih
    clear ih
    obtain ⟨i0, hi0, hz0, hz1, hz2⟩ := info_parts Tryz.infoTerm
    have f0 : ∀ o, (w.alloc o).cell? ⟨F, 0, none⟩ = some (.int .i64 (n : Int)) := fun o => (hF.alloc o).cell 0
    have ff : ∀ o, (w.alloc o).frozen? ⟨F, 0, none⟩ = false := fun o => (hF.alloc o).frozen 0
    have hFl : F < w.heap.size := hF.lt
    go_enter Tryz.func113, Tryz.ntmps113
    go_wp2_with fail
    have E3 : Hid (KlSet Mt w F (w.heap.size + 1 + 1) s (.slice none 0 0) #[.int .i64 ((n : Int) - 1), sv] ((((w.setCell ⟨F, 0, none⟩ (.int .i64 ((n : Int) - 1))).alloc (.cells #[.string s, .slice a l.length c] 25)).alloc (.cells #[.string ⟨#[]⟩, .slice none 0 0] 25)).alloc (.cells #[.string s, .slice none 0 0] 25))) := by
      refine ⟨((((ExQ.refl _ w).set (Or.inl rfl) 0 _).alloc _).alloc _).alloc _, ?_, ?_, (((hF.set 0 _).alloc _).alloc _).alloc _, by simp [World.setCell]⟩
      · have h := (Blk.new ((w.setCell ⟨F, 0, none⟩ (.int .i64 ((n : Int) - 1))).alloc (.cells #[.string s, .slice a l.length c] 25)) #[.string ⟨#[]⟩, .slice none 0 0] 25).alloc (.cells #[.string s, .slice none 0 0] 25)
        simpa [World.setCell] using h
      · have h := Blk.new (((w.setCell ⟨F, 0, none⟩ (.int .i64 ((n : Int) - 1))).alloc (.cells #[.string s, .slice a l.length c] 25)).alloc (.cells #[.string ⟨#[]⟩, .slice none 0 0] 25)) #[.string s, .slice none 0 0] 25
        simpa [World.setCell] using h
    have EV3 : Hid (KlE E (w.heap.size + 1 + 1) f Y (.slice none 0 0) f Y ((((w.setCell ⟨F, 0, none⟩ (.int .i64 ((n : Int) - 1))).alloc (.cells #[.string s, .slice a l.length c] 25)).alloc (.cells #[.string ⟨#[]⟩, .slice none 0 0] 25)).alloc (.cells #[.string s, .slice none 0 0] 25))) := by
      refine ⟨hE.keep _ _ _ _ HEV.out fun b hb => ?_, fun b hb => Or.inl hb, fun b _ e => by simp [Value.ownBlock] at e, fun h => h⟩
      have h1 := HYW.out b hb
      rw [Below.heap_alloc _ _ _ (by simp [World.setCell]; omega), Below.heap_alloc _ _ _ (by simp [World.setCell]; omega), Below.heap_alloc _ _ _ (by simpa [World.setCell] using h1), Below.heap_setCell _ _ _ _ (by simp; intro e; subst e; exact hYF hb)]
    generalize ((((w.setCell ⟨F, 0, none⟩ (.int .i64 ((n : Int) - 1))).alloc (.cells #[.string s, .slice a l.length c] 25)).alloc (.cells #[.string ⟨#[]⟩, .slice none 0 0] 25)).alloc (.cells #[.string s, .slice none 0 0] 25)) = w3 at *
    generalize hOe : w.heap.size + 1 + 1 = O at *
    have hO : w.heap.size + 2 ≤ O := by omega
    clear hOe
    clear f0 ff
    have HS := hide hs
    have hl := hs.1
    have HXF := hide hXF
    clear hs hXF
    have HQ : Hid (∀ b, w.heap.size ≤ b → ¬ (b = F ∨ Mt b)) := fun b hb h => by
      rcases h with h | h
      · omega
      · have := HMT.out b h; omega
    go_loopw [23] (fun i wr => KlInv E Mt lk w F O s sv l n f Y i wr) (fun i wr => l.length - (intOf i).toNat)
    case atStart =>
      refine ⟨0, .slice none 0 0, f, Y, Nat.zero_le _, rfl, EV3.out, ?_⟩
      by_cases hn0 : n = 0
      · subst hn0
        exact Or.inr ⟨E3.out, ⟨none, 0, 0, rfl⟩, fun _ => by omega⟩
      · refine Or.inl ⟨n - 1, [], [], rfl, by simp [sizeL]; omega, ?_, Row.start _ _ _ _, fun _ => by simp [gL]⟩
        rw [show ((n - 1 : Nat) : Int) = (n : Int) - 1 by omega]
        exact E3.out
    case round =>
      obtain ⟨k, u, f', Y', hk, rfl, hev, hcase⟩ := hrel
      have EV := hide hev
      clear hev
      rcases hcase with ⟨m, xs, Mk, hMk, hm, hset, hrow, hgd⟩ | ⟨hset, ⟨a9, l9, c9, rfl⟩, hbig⟩
      · have XS := hide hset
        have XW := hide hrow
        have HMM := hide hm
        have HGD := hide hgd
        clear hset hrow hgd
        by_cases hlt : k < l.length
        · obtain ⟨b, o, a', c', rfl, d0, d1, hx⟩ := (HS.out.exq XS.out.1 (fun b hb h => by rcases h with h | h; exact (HXF.out b hb).1 h; exact (HXF.out b hb).2 h)).get (Below.refl _ _) (fun _ _ h => h) k hlt
          obtain ⟨av, cv, ev, hsx⟩ := hx
          simp at ev
          obtain ⟨rfl, rfl⟩ := ev
          have hmn : m ≤ 1000000 := by omega
          have hOF : ¬ (O = F ∨ Mt O) := HQ.out O (by omega)
          have HQO : Hid (∀ b, (b = F ∨ Mt b) → b < O) := fun b h => by
            rcases h with h | h
            · omega
            · have := HMT.out b h; omega
          have hkn : k ≤ 1000000 := by have h1 := sizeL_len Mk; rw [hMk] at h1; omega
          have HL1 : Hid (Mk.length + 1 ≤ maxLen ∧ (Mk.length + 1) * 40 ≤ 140737488355328) := by unfold Hid; rw [hMk]; exact ⟨by unfold maxLen; omega, by omega⟩
          have hY'F : ¬ Y' F := fun h => by
            rcases EV.out.2.1 F h with h1 | h1
            · exact hYF h1
            · omega
          have IHQ : Hid (Calls Tryz.prog 99 #[.pointer (some ⟨F, 0, none⟩), .agg #[.string l[k].name, .slice a' l[k].args.length c']] (wr.alloc (.cells #[.string l[k].name, .slice a' l[k].args.length c'] 25)).drew fun e w'' => FlPost E Mt F sv (gT lk l[k]) m f' Y' (wr.alloc (.cells #[.string l[k].name, .slice a' l[k].args.length c'] 25)).drew e w'') := by
            have hB1 : Below wr.heap.size wr (wr.alloc (.cells #[.string l[k].name, .slice a' l[k].args.length c'] 25)).drew := ((Below.refl _ _).alloc (Nat.le_refl _) _).drew
            have hEr : E f' Y' (wr.alloc (.cells #[.string l[k].name, .slice a' l[k].args.length c'] 25)).drew := hE.below EV.out.1 hB1
            have hFr : Blk (wr.alloc (.cells #[.string l[k].name, .slice a' l[k].args.length c'] 25)).drew F #[.int .i64 (m : Int), sv] 167 := (XS.out.2.2.2.1.alloc _).drewN 1
            have hSr : Sl (wr.alloc (.cells #[.string l[k].name, .slice a' l[k].args.length c'] 25)).drew X a' l[k].args := hsx.later hB1
            have IH2 := IH.out l[k] (List.getElem_mem hlt) m
            clear HMM XS XW
            subst hsv
            refine ffillL_of hE F S lk l[k] m a' c' _ X Y' f' hmn HXF.out hY'F hSr hFr hEr (fun hv => HL.out _ (occ_get hlt ?_) hv) (fun w' f2 Y2 h1 h2 h3 h4 => IH2 _ w' X Y2 f2 ⟨a', c', rfl, h1⟩ HXF.out hmn h2 h3 h4 (fun nm ho hv => HL.out nm (occ_get hlt ?_) hv))
            · generalize l[k] = y
              obtain ⟨n1, k1⟩ := y
              exact occL_node.2 (Or.inl rfl)
            · generalize l[k] = y at ho ⊢
              obtain ⟨n1, k1⟩ := y
              exact occL_node.2 (Or.inr (Or.inl ho))
          have f0 : ∀ o, (wr.alloc o).cell? ⟨F, 0, none⟩ = some (.int .i64 (m : Int)) := fun o => (XS.out.2.2.2.1.alloc o).cell 0
          have o1 : ∀ o, (wr.alloc o).cell? ⟨O, 1, none⟩ = some u := fun o => (XS.out.2.2.1.alloc o).cell 1
          have hm0 : ¬ (m : Int) < 0 := by omega
          go_wp2_with fail
          go_region_law (first
            | (go_simp; go_at_call 99; refine IHQ.out.mono ?_; rintro e w1 ⟨s1, a1, l1, c1, m1, f1, Y1, rfl, hF1, he0, hE1, hsub1, hff1, hc1⟩; have he1 := (((ExQ.refl (fun b => b = F ∨ Mt b) wr).alloc (.cells #[.string l[k].name, .slice a' l[k].args.length c'] 25)).drew).trans he0; have HSUB := hide hsub1; have HFF := hide hff1; have HC1 := hide hc1; have HE1 := hide hE1; clear he0 hsub1 hff1 hc1 hE1; have hc3 : ∀ o, (w1.alloc o).cell? ⟨O, 1, none⟩ = some u := fun o => ((Blk.exq XS.out.2.2.1 he1 hOF).alloc o).cell 1; have hc4 : w1.cell? ⟨O, 1, none⟩ = some u := (Blk.exq XS.out.2.2.1 he1 hOF).cell 1)
            | (refine step_append_lies _ rfl _ _ 23 rfl (O + 1) 25 i0 _ 2 40 Tryz.underlying23 hi0 hz0 hz1 hz2 rfl (by decide) u Mk.length xs rfl (by exact (Row.exq XW.out he1 (fun b hb => by have := HQO.out b hb; omega) (fun _ _ h => h)).own.alloc _) ⟨w1.heap.size, 0, none⟩ 1 1 [.string s1, .slice a1 l1 c1] rfl rfl (cell_two_new _ _ _ _) (fun x hx => by simp at hx; rcases hx with rfl | rfl <;> rfl) (by decide) HL1.out.1 HL1.out.2 (by have := he1.size; have := XS.out.2.2.2.2; simp; omega) _ rfl ?_; intro g cap w3 hown3 hgrow3 hat3 hlt3; have hB3 := hide (((Blk.exq XS.out.2.2.1 he1 hOF).alloc _).grown hgrow3 (XW.out.ne (Nat.lt_succ_self _))); have hc5 : w3.cell? ⟨O, 1, none⟩ = some u := hB3.out.cell 1; have hf5 := hB3.out.frozen 1))
          all_goals
            have HK := hide (kl_set (v := .slice (some ⟨g, 0, none⟩) (Mk.length + 1) cap) hFl HMT.out hO XS.out (fun j hj => (XW.out.own.lt j hj).1) he1 hF1 hgrow3)
            have HEV2 := hide (kl_ev (n9 := Mk.length + 1) (cap := cap) (x := .slice (some ⟨g, 0, none⟩) (Mk.length + 1) cap) hE (fun b hb => by have := HYW.out b hb; omega) EV.out (fun j hj => (XW.out.own.lt j hj).2) XS.out.2.2.2.2 he1.size HE1.out (fun b hb => (HSUB.out b hb).imp id fun h => by simp at h; omega) HFF.out hgrow3 hat3)
            have HRW : Hid (∀ y : Tm, TV w1 (fun b => wr.heap.size ≤ b) (.agg #[.string s1, .slice a1 l1 c1]) y → Row (w3.setCell ⟨O, 1, none⟩ (.slice (some ⟨g, 0, none⟩) (Mk.length + 1) cap)) (O + 1) 25 (fun _ => False) (.slice (some ⟨g, 0, none⟩) (Mk.length + 1) cap) (Mk ++ [y]) (xs ++ [.string s1, .slice a1 l1 c1])) := fun y hy => kl_row HQO.out XS.out.2.2.2.2 XW.out he1 hy hown3 hgrow3 hat3
            clear hown3 hgrow3 hat3 hc3 hc4 hc5 hf5 hB3 hF1 he1 hlt3
            go_wp2_with fail
            go_roundw
            case rel =>
              have h1 := HK.out
              have h2 := HRW.out
              have h3 := HEV2.out
              have hmm := HMM.out
              simp only [hMk] at h1 h2 h3
              refine ⟨k + 1, .slice (some ⟨g, 0, none⟩) (k + 1) cap, f1, Y1, by omega, by go_num, h3, ?_⟩
              have hgl : gL lk (l.take (k + 1)) = gL lk (l.take k) ++ [gT lk l[k]] := by rw [List.take_succ_eq_append_getElem hlt, gL_append]; simp [gL_map]
              have hf1 : f1 = false → f' = false := fun hf => by
                cases h : f' with
                | false => rfl
                | true => have := HFF.out h; rw [hf] at this; cases this
              rcases HC1.out with ⟨y, rfl, rfl, rfl, e4, e5, e6⟩ | ⟨rfl, e2⟩
              · refine Or.inl ⟨m - sizeL [y], xs ++ [.string y.name, .slice a1 y.args.length c1], Mk ++ [y], by simp [hMk], by rw [sizeL_append]; omega, ?_, h2 y ⟨a1, c1, rfl, e5.mono fun b hb _ => by simp at hb; omega⟩, fun hf => by rw [hgl, HGD.out (hf1 hf), e6 hf]⟩
                rw [show ((m - sizeL [y] : Nat) : Int) = (m : Int) - sizeL [y] by omega]
                exact h1
              · refine Or.inr ⟨h1, ⟨_, _, _, rfl⟩, fun hf => ?_⟩
                have h4 := e2 hf
                have h5 := HGD.out (hf1 hf)
                have h6 : sizeL (gL lk (l.take (k + 1))) = sizeL Mk + sizeL [gT lk l[k]] := by rw [hgl, sizeL_append, h5]
                have h7 : gL lk l = gL lk (l.take (k + 1)) ++ gL lk (l.drop (k + 1)) := by rw [← gL_append, List.take_append_drop]
                rw [h7, sizeL_append]
                omega
            case measure => simp [intOf]; omega
        · have htk : l.take k = l := List.take_of_length_le (by omega)
          rw [htk] at HGD
          obtain ⟨a9, c9, hu9, hsl9⟩ := XW.out.sl
          subst hu9
          have S9 := hide hsl9
          clear hsl9
          have r0 : wr.cell? ⟨w.heap.size + 1, 0, none⟩ = some (.string ⟨#[]⟩) := XS.out.2.1.cell 0
          have r1 : wr.cell? ⟨w.heap.size + 1, 1, none⟩ = some (.slice none 0 0) := XS.out.2.1.cell 1
          have rf := XS.out.2.1.frozen
          have o0 : wr.cell? ⟨O, 0, none⟩ = some (.string s) := XS.out.2.2.1.cell 0
          have o1 : wr.cell? ⟨O, 1, none⟩ = some (.slice a9 Mk.length c9) := XS.out.2.2.1.cell 1
          go_wp2_with fail
          refine bodyPost_ret (v := .agg #[.string s, .slice a9 Mk.length c9]) (by simp [results, Tryz.results113, go_sem, World.cell?_setCell_same, World.cell?_setCell_other, r0, r1, hMk]) rfl ?_
          have hmm := HMM.out
          have hzy : sizeL [(⟨s, Mk⟩ : Tm)] = 1 + sizeL Mk := by simp [sizeL]
          refine kl_end hE hFl HYW.out hO XS.out EV.out (Or.inl ⟨⟨s, Mk⟩, rfl, rfl, by rw [hzy]; omega, by rw [hzy]; omega, S9.out.mono fun b hb _ => ?_, fun hf => by rw [HGD.out hf]⟩)
          have hb' : O + 1 ≤ b := hb.elim False.elim id
          omega
      · have XS := hide hset
        have HBIG := hide hbig
        clear hset hbig
        have hzt : sizeL [(⟨s, gL lk l⟩ : Tm)] = 1 + sizeL (gL lk l) := by simp [sizeL]
        have f0 : ∀ o, (wr.alloc o).cell? ⟨F, 0, none⟩ = some (.int .i64 (-1)) := fun o => (XS.out.2.2.2.1.alloc o).cell 0
        by_cases hlt : k < l.length
        · obtain ⟨b, o, a', c', rfl, d0, d1, hx⟩ := (HS.out.exq XS.out.1 (fun b hb h => by rcases h with h | h; exact (HXF.out b hb).1 h; exact (HXF.out b hb).2 h)).get (Below.refl _ _) (fun _ _ h => h) k hlt
          clear hx
          have o0 : ∀ o, (wr.alloc o).cell? ⟨O, 0, none⟩ = some (.string s) := fun o => (XS.out.2.2.1.alloc o).cell 0
          have o1 : ∀ o, (wr.alloc o).cell? ⟨O, 1, none⟩ = some (.slice a9 l9 c9) := fun o => (XS.out.2.2.1.alloc o).cell 1
          have r0 : wr.cell? ⟨w.heap.size + 1, 0, none⟩ = some (.string ⟨#[]⟩) := XS.out.2.1.cell 0
          have r1 : wr.cell? ⟨w.heap.size + 1, 1, none⟩ = some (.slice none 0 0) := XS.out.2.1.cell 1
          have rf := XS.out.2.1.frozen
          have hRl : w.heap.size + 1 < wr.heap.size := XS.out.2.1.lt
          go_wp2_with fail
          refine bodyPost_ret (v := .agg #[.string s, .slice a9 l9 c9]) (by simp [results, Tryz.results113, go_sem, World.cell?_setCell_same, World.cell?_setCell_other, r0, r1, hRl, World.cell?_alloc_old]) rfl ?_
          exact fl_alloc hE (kl_end hE hFl HYW.out hO XS.out EV.out (Or.inr ⟨rfl, fun hf => by rw [hzt]; exact HBIG.out hf⟩)) _
        · have r0 : wr.cell? ⟨w.heap.size + 1, 0, none⟩ = some (.string ⟨#[]⟩) := XS.out.2.1.cell 0
          have r1 : wr.cell? ⟨w.heap.size + 1, 1, none⟩ = some (.slice none 0 0) := XS.out.2.1.cell 1
          have rf := XS.out.2.1.frozen
          have o0 : wr.cell? ⟨O, 0, none⟩ = some (.string s) := XS.out.2.2.1.cell 0
          have o1 : wr.cell? ⟨O, 1, none⟩ = some (.slice a9 l9 c9) := XS.out.2.2.1.cell 1
          go_wp2_with fail
          refine bodyPost_ret (v := .agg #[.string s, .slice a9 l9 c9]) (by simp [results, Tryz.results113, go_sem, World.cell?_setCell_same, World.cell?_setCell_other, r0, r1]) rfl ?_
          exact kl_end hE hFl HYW.out hO XS.out EV.out (Or.inr ⟨rfl, fun hf => by rw [hzt]; exact HBIG.out hf⟩)
#print axioms knotL_any
end Go.Proofs.YteojdfmdhgnmfaaGreat
