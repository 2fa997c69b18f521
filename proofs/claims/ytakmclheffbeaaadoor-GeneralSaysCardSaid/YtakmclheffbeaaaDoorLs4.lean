/- Walks: the law GeneralSays. -/
import Derived.Test.YtakmclheffbeaaaDoorLs3
import Derived.Test.YtakmclheffbeaaaDoorBxt
namespace Go.Proofs.YtakmclheffbeaaaDoor
open Go.RowKit
set_option linter.unusedSimpArgs false
set_option linter.unusedVariables false
set_option maxRecDepth 8000

theorem LRow.exqC {w w' : World} {N : Nat} {Q Y : Nat → Prop} {v : Value} {cs : List Pc} (h : LRow w N Y v cs) (he : ExQ Q w w') (hv : ∀ b, v.ownBlock = some b → ¬ Q b) (hY : ∀ b, Y b → ¬ Q b) : LRow w' N Y v cs :=
  ⟨ownsRow_at h.own fun g hg => he.block g (h.own.lt g hg).2 (hv g hg), fun x hx => ⟨(h.row x hx).1.exq he hY, (h.row x hx).2.exq he hY⟩⟩
theorem cell_below {w w' : World} {b o : Nat} {v : Value} (hb : Below w.heap.size w w') (h : w.cell? ⟨b, o, none⟩ = some v) : w'.cell? ⟨b, o, none⟩ = some v := cell_later hb h
theorem mayE_errG {t : Tm} (h : mayE t = 0) : errL [t] = 0 ∧ sizeL [t] ≤ 200 := by
  unfold mayE at h
  split at h
  · exact absurd h (by decide)
  · exact ⟨by assumption, by omega⟩
theorem gnT_okG {a b : Tm} (h0 : errL [a] = 0) (h1 : errL [b] = 0) : (gnT [] a b).2.length ≤ sizeL [a] := by
  have h := (gn_ok [a] [b] [] h0 h1 (by simp)).2
  rw [gnL_cons, gnL_nil] at h
  simpa using h
/-- The two terms' boxes. -/
structure GsB (w : World) (va vb : Array Value) (w' : World) : Prop where
  bl : Below w.heap.size w w'
  ka : Blk w' w.heap.size va 24
  kb : Blk w' (w.heap.size + 1) vb 24
theorem GsB.later {w w' w2 : World} {va vb : Array Value} (h : GsB w va vb w') (hb : Below w'.heap.size w' w2) : GsB w va vb w2 :=
  ⟨h.bl.trans (hb.mono h.bl.size), h.ka.below hb h.ka.lt, h.kb.below hb h.kb.lt⟩
theorem GsB.set {w w' : World} {va vb : Array Value} (h : GsB w va vb w') {C : Nat} (hC : w.heap.size + 2 ≤ C) (i : Nat) (v : Value) : GsB w va vb (w'.setCell ⟨C, i, none⟩ v) :=
  ⟨h.bl.setCell (p := ⟨C, i, none⟩) (by simp; omega) v, h.ka.setOther (b' := C) i v (by omega), h.kb.setOther (b' := C) i v (by omega)⟩
/-- A box whose term lies elsewhere. -/
structure BxE (w : World) (C : Nat) (t : Tm) (a : Option Addr) (c : Nat) : Prop where
  blk : Blk w C #[.string t.name, .slice a t.args.length c] 24
  sl : Sl w (fun b => b ≠ C) a t.args
theorem BxE.later {w w' : World} {C : Nat} {t : Tm} {a : Option Addr} {c : Nat} (h : BxE w C t a c) (hb : Below w.heap.size w w') : BxE w' C t a c := ⟨h.blk.below hb h.blk.lt, h.sl.later hb⟩
theorem BxE.put {w : World} {C : Nat} {t z : Tm} {a az : Option Addr} {c cz : Nat} (h : Blk w C #[.string t.name, .slice a t.args.length c] 24) (hs : Sl w (fun b => b ≠ C) az z.args) : BxE ((w.setCell ⟨C, 0, none⟩ (.string z.name)).setCell ⟨C, 1, none⟩ (.slice az z.args.length cz)) C z az cz :=
  ⟨(h.set 0 _).set 1 _, hs.kept fun b h => by rw [Below.heap_setCell _ _ _ _ (by simpa using h), Below.heap_setCell _ _ _ _ (by simpa using h)]⟩
/-- What was wanted. -/
structure GsC (w : World) (a b : Tm) (va vb : Array Value) (C : Nat) (L R : Value) (w' : World) : Prop where
  bx : GsB w va vb w'
  cl : w.heap.size + 2 ≤ C
  ex : ∃ wt aw cw, BxE w' C wt aw cw ∧ ((twoE a b = 0 ∧ wt = (gnT [] a b).1 ∧ BV w' (fun b => b ≠ C) L (bdL (·.l) 0 (gnT [] a b).2) ∧ BV w' (fun b => b ≠ C) R (bdL (·.r) 0 (gnT [] a b).2)) ∨ (twoE a b ≠ 0 ∧ L = .slice none 0 0 ∧ R = .slice none 0 0))
/-- What the program told. -/
structure GsE (w : World) (a b : Tm) (va vb : Array Value) (C : Nat) (L R P vl vr er : Value) (w' : World) : Prop where
  bx : GsB w va vb w'
  ex : ∃ T wt aw cw tt x c, P = .pointer (some ⟨T, 0, none⟩) ∧ (w.heap.size + 2 ≤ T ∧ T ≠ C) ∧ BxE w' C wt aw cw ∧ BxT w' T tt x c ∧
    ((twoE a b = 0 ∧ er = .int .i64 0 ∧ tt = wt ∧ ∃ ls rs, (BV w' (fun _ => True) vl ls ∧ BV w' (fun _ => True) vr rs) ∧ (BV w' (fun _ => True) L (bdL (·.l) 0 (gnT [] a b).2) ∧ BV w' (fun _ => True) R (bdL (·.r) 0 (gnT [] a b).2)) ∧ (ls.Perm (bdL (·.l) 0 (gnT [] a b).2) ∧ SortedB ls) ∧ rs.Perm (bdL (·.r) 0 (gnT [] a b).2) ∧ SortedB rs) ∨
     (twoE a b ≠ 0 ∧ er = .int .i64 (twoE a b) ∧ (tt = ⟨⟨#[]⟩, []⟩ ∧ x = none ∧ c = 0) ∧ vl = .slice none 0 0 ∧ vr = .slice none 0 0 ∧ L = .slice none 0 0 ∧ R = .slice none 0 0))
structure GsF (w : World) (va vb : Array Value) (C T : Nat) (w' : World) : Prop where
  bx : GsB w va vb w'
  ex : ∃ wt aw cw, BxE w' C wt aw cw ∧ ∃ tt x c, Blk w' T #[.string (Tm.name tt), .slice x (Tm.args tt).length c] 24
structure GsG (w : World) (a : Tm) (va vb : Array Value) (C T : Nat) (w' : World) : Prop where
  bx : GsB w va vb w'
  ez : ∃ z az cz, Blk w' C #[.string (Tm.name z), .slice az (Tm.args z).length cz] 24 ∧ (mayE a = 0 → z = (renT [] a).1 ∧ Sl w' (fun b => b ≠ C ∧ b ≠ T) az z.args)
  ex : ∃ tt x c, Blk w' T #[.string (Tm.name tt), .slice x (Tm.args tt).length c] 24
theorem twoE_partsG {a b : Tm} (h0 : twoE a b = 0) : mayE a = 0 ∧ mayE b = 0 := by
  unfold twoE at h0
  split at h0
  · rename_i h; exact ⟨h, h0⟩
  · exact absurd h0 (by assumption)
theorem term2_okE (E : Int) (hE : E = 0) (t : Tm) (v u : Value) (w : World) (X Y : Nat → Prop) (hv : TV w X v t) (hu : TV w Y u t) :
    Calls Tryd.prog 10 #[v, .int .i64 0, u, .int .i64 E] w fun e w' => e = .returned (.bool true) ∧ Below w.heap.size w w' := by
  subst hE; exact term2_ok t v u w X Y hv hu
theorem binds2_okE (E : Int) (hE : E = 0) (ls : List Bd) (u v : Value) (w : World) (X Y : Nat → Prop) (hu : BV w X u ls) (hv : BV w Y v ls) :
    Calls Tryd.prog 11 #[u, .int .i64 0, v, .int .i64 E] w fun r w' => r = .returned (.bool true) ∧ Below w.heap.size w w' := by
  subst hE; exact binds2_ok ls u v w X Y hu hv
theorem bdL_lenG {a b : Tm} (f : Pr → Tm) (h0 : twoE a b = 0) : (bdL f 0 (gnT [] a b).2).length ≤ 1000000 := by
  rw [bdL_len]
  have h1 := mayE_errG (twoE_partsG h0).1
  have := gnT_okG h1.1 (mayE_errG (twoE_partsG h0).2).1
  omega
theorem TV.slG {w : World} {X : Nat → Prop} {s : ByteArray} {a : Option Addr} {n c : Nat} {t : Tm} (h : TV w X (.agg #[.string s, .slice a n c]) t) : Sl w X a t.args := by
  obtain ⟨a', c', e, hs⟩ := h
  simp at e
  rw [e.2.1]
  exact hs
theorem sl_oneG {w : World} {X : Nat → Prop} {b : Nat} {t : Tm} {a : Option Addr} {c : Nat} (hB : Blk w b #[.string t.name, .slice a t.args.length c] 24) (hs : Sl w X a t.args) (hb : X b) : Sl w X (some ⟨b, 0, none⟩) [t] := by
  refine ⟨by simp, Or.inr ⟨b, 0, rfl, ?_⟩⟩
  obtain ⟨s, l⟩ := t
  simp only [Lies]
  exact ⟨hb, hB.cell 0, ⟨a, c, hB.cell 1, hs.1, hs.2⟩, trivial⟩
theorem sl_getG {w : World} {X : Nat → Prop} {a : Option Addr} {z : Tm} (h : Sl w X a [z]) : ∃ b o az cz, a = some ⟨b, o, none⟩ ∧ w.cell? ⟨b, o, none⟩ = some (.string z.name) ∧ w.cell? ⟨b, o + 1, none⟩ = some (.slice az z.args.length cz) ∧ Sl w X az z.args := by
  obtain ⟨_, h | ⟨b, o, rfl, h⟩⟩ := h
  · cases h
  · obtain ⟨s, l⟩ := z
    simp only [Lies] at h
    obtain ⟨_, h1, ⟨a1, c1, h2, h3, h4⟩, _⟩ := h
    exact ⟨b, o, a1, c1, rfl, h1, h2, h3, h4⟩
theorem renL_oneG (a : Tm) : (renL [] [a]).1 = [(renT [] a).1] := by
  rw [renL_cons, renL_nil]
/-- How far the rows are. -/
def GsI (w9 : World) (Y : Nat → Prop) (ps : List Pr) (L R i : Value) (wr : World) : Prop :=
  ∃ (k : Nat) (cL cR : List Bc), k ≤ ps.length ∧ i = .int .i64 (k : Int) ∧ (BLs wr w9.heap.size Y L cL ∧ cL.map (·.1) = bdL (·.l) 0 (ps.take k)) ∧ (BLs wr w9.heap.size Y R cR ∧ cR.map (·.1) = bdL (·.r) 0 (ps.take k)) ∧ (∀ b, L.ownBlock = some b → some b ≠ R.ownBlock) ∧ Below w9.heap.size w9 wr

set_option maxHeartbeats 8000000 in
theorem generalSays_any (HSORT : Hid SortBinds) (a b : Tm) (va vb : Value) (w : World) (X : Nat → Prop) (ha : TV w X va a) (hb : TV w X vb b) (hT : Tb w.heap.size w) :
    Calls Tryd.prog 3 #[va, vb] w fun e w' => e = .returned (.bool true) ∧ Below w.heap.size w w' := by
  obtain ⟨aa, ca, rfl, hsa⟩ := ha
  obtain ⟨ab, cb, rfl, hsb⟩ := hb
  have HT : Hid (∀ w', Below w.heap.size w w' → Tb w'.heap.size w') := fun w' hb w'' h2 => hT w'' (hb.trans (h2.mono hb.size))
  have W2 : Hid (GsB w #[.string a.name, .slice aa a.args.length ca] #[.string b.name, .slice ab b.args.length cb] ((w.alloc (.cells #[.string a.name, .slice aa a.args.length ca] 24)).alloc (.cells #[.string b.name, .slice ab b.args.length cb] 24))) := by
    refine ⟨((Below.refl _ _).alloc (Nat.le_refl _) _).alloc (by simp) _, (Blk.new w _ _).alloc _, ?_⟩
    have h := Blk.new (w.alloc (.cells #[.string a.name, .slice aa a.args.length ca] 24)) #[.string b.name, .slice ab b.args.length cb] 24
    rw [World.size_alloc] at h
    exact h
  have VA : Hid (∀ w', Below w.heap.size w w' → TV w' (fun b => X b ∧ b < w.heap.size) (.agg #[.string a.name, .slice aa a.args.length ca]) a) := fun w' hb => ⟨_, _, rfl, (hsa.mono (Y := fun b => X b ∧ b < w.heap.size) fun b h1 h2 => ⟨h1, h2⟩).later hb⟩
  have VB : Hid (∀ w', Below w.heap.size w w' → TV w' (fun b => X b ∧ b < w.heap.size) (.agg #[.string b.name, .slice ab b.args.length cb]) b) := fun w' hb => ⟨_, _, rfl, (hsb.mono (Y := fun b => X b ∧ b < w.heap.size) fun b h1 h2 => ⟨h1, h2⟩).later hb⟩
  have c0 := W2.out.ka.cell 0
  have c1 := W2.out.ka.cell 1
  clear hsa hsb hT
  go_enter Tryd.func3, Tryd.ntmps3
  go_wp2_with fail
  generalize ((w.alloc (.cells #[.string a.name, .slice aa a.args.length ca] 24)).alloc (.cells #[.string b.name, .slice ab b.args.length cb] 24)) = w2 at *
  refine (huge_any a _ _ _ (VA.out _ W2.out.bl)).mono ?_
  rintro e w3 ⟨rfl, hb3⟩
  have W3 := hide (W2.out.later hb3)
  clear hb3 c0 c1 W2
  by_cases ha3 : 3000 < sizeL [a]
  · rw [decide_eq_true ha3]
    go_wp2_with fail
    go_ret
    exact ⟨rfl, W3.out.bl⟩
  · rw [decide_eq_false ha3]
    have c0 := W3.out.kb.cell 0
    have c1 := W3.out.kb.cell 1
    go_wp2_with fail
    refine (huge_any b _ _ _ (VB.out _ W3.out.bl)).mono ?_
    rintro e w4 ⟨rfl, hb4⟩
    have W4 := hide (W3.out.later hb4)
    clear hb4 c0 c1 W3
    by_cases hb3 : 3000 < sizeL [b]
    · rw [decide_eq_true hb3]
      go_wp2_with fail
      go_ret
      exact ⟨rfl, W4.out.bl⟩
    · rw [decide_eq_false hb3]
      clear ha3 hb3
      have c0 := W4.out.ka.cell 0
      have c1 := W4.out.ka.cell 1
      have d0 := W4.out.kb.cell 0
      have d1 := W4.out.kb.cell 1
      go_wp2_with fail
      refine (twoMay_any a b _ _ _ _ (VA.out _ W4.out.bl) (VB.out _ W4.out.bl)).mono ?_
      rintro e w5 ⟨rfl, hb5⟩
      have W5 := hide (W4.out.later hb5)
      have W6 := hide (W5.out.later (one1 w5 (.cells #[.string ⟨#[]⟩, .slice none 0 0] 24)))
      have C6 : Hid (Blk (w5.alloc (.cells #[.string ⟨#[]⟩, .slice none 0 0] 24)) w5.heap.size #[.string ⟨#[]⟩, .slice none 0 0] 24) := Blk.new _ _ _
      have CL : Hid (w.heap.size + 2 ≤ w5.heap.size) := W5.out.kb.lt
      clear hb5 c0 c1 d0 d1 W4
      go_upto_if 28 with fail
      generalize w5.alloc (.cells #[.string ⟨#[]⟩, .slice none 0 0] 24) = w6 at *
      generalize w5.heap.size = C at *
      clear W5
      go_cut [7, 8] (fun L R w' => GsC w a b #[.string a.name, .slice aa a.args.length ca] #[.string b.name, .slice ab b.args.length cb] C L R w')
      case first =>
        by_cases h0 : twoE a b = 0
        · have H0 := hide h0
          have hma : mayE a = 0 := by
            unfold twoE at h0
            split at h0
            · rename_i h; exact h
            · exact absurd h0 (by assumption)
          have hmb : mayE b = 0 := by
            unfold twoE at h0
            rw [if_pos hma] at h0
            exact h0
          have MA := hide (mayE_errG hma)
          have MB := hide (mayE_errG hmb)
          clear hma hmb
          have c0 := W6.out.ka.cell 0
          have c1 := W6.out.ka.cell 1
          have d0 := W6.out.kb.cell 0
          have d1 := W6.out.kb.cell 1
          have hz0 : (twoE a b == 0) = true := by simp [h0]
          clear h0
          go_wp2_with fail
          refine (generalOf_any a b _ _ _ _ (VA.out _ W6.out.bl) (VB.out _ W6.out.bl) MA.out.1 MB.out.1 (by have := MA.out.2; omega)).mono ?_
          rintro e w7 ⟨x, c, hv, cs, rfl, hs7, hl7, hc7, hb7⟩
          obtain ⟨y, hy⟩ : ∃ y, y = gnT [] a b := ⟨_, rfl⟩
          have HY := hide hy
          have hok := (gnT_okG MA.out.1 MB.out.1)
          rw [← hy] at hs7 hc7 hok ⊢
          have hpl : y.2.length ≤ 100000 := by have := hok; have := MA.out.2; omega
          have HCS := hide hc7
          have hcl : cs.length = y.2.length := by have := congrArg List.length hc7; simpa using this
          obtain ⟨ah, ch, rfl, _⟩ := id hl7.qv
          have hml : cs.length ≤ 1000000 := by omega
          have W8 := hide ((W6.out.later hb7).later (one1 w7 (.cells #[.string y.1.name, .slice x y.1.args.length c] 24)))
          have C8 := hide ((C6.out.below hb7 C6.out.lt).alloc (.cells #[.string y.1.name, .slice x y.1.args.length c] 24))
          have D8 : Hid (Blk (w7.alloc (.cells #[.string y.1.name, .slice x y.1.args.length c] 24)) w7.heap.size #[.string y.1.name, .slice x y.1.args.length c] 24) := Blk.new _ _ _
          have L8 := hide (hl7.below (one1 w7 (.cells #[.string y.1.name, .slice x y.1.args.length c] 24)))
          have S8 := hide (hs7.later (one1 w7 (.cells #[.string y.1.name, .slice x y.1.args.length c] 24)))
          have HC6 : Hid (C < w6.heap.size) := C6.out.lt
          have HD6 : Hid (w6.heap.size ≤ w7.heap.size) := hb7.size
          clear hs7 hc7 hb7 hl7 c0 c1 d0 d1 hok hy
          go_upto_region 9 with fail
          generalize w7.alloc (.cells #[.string y.1.name, .slice x y.1.args.length c] 24) = w8 at *
          have e0 := C8.out.cell 0
          have e1 := C8.out.cell 1
          have ef := C8.out.frozen
          have el := C8.out.lt
          have f0 := D8.out.cell 0
          have f1 := D8.out.cell 1
          go_wp2_with fail
          have W9 := hide ((W8.out.set (C := C) CL.out 0 (.string y.1.name)).set (C := C) CL.out 1 (.slice x y.1.args.length c))
          have B9 : Hid (BxE ((w8.setCell ⟨C, 0, none⟩ (.string y.1.name)).setCell ⟨C, 1, none⟩ (.slice x y.1.args.length c)) C y.1 x c) := BxE.put (t := ⟨⟨#[]⟩, []⟩) C8.out (S8.out.mono fun b h _ => by have := HC6.out; omega)
          have HLV : Hid (∀ b, Value.ownBlock (Value.slice ah (cs.map (·.1)).length ch) = some b → ¬ b = C) := fun b hb e => by have := (L8.out.own.lt b hb).1; have := HC6.out; omega
          have L9 : Hid (LRow ((w8.setCell ⟨C, 0, none⟩ (.string y.1.name)).setCell ⟨C, 1, none⟩ (.slice x y.1.args.length c)) w6.heap.size (fun b => (X b ∧ b < w.heap.size) ∧ b < w6.heap.size) (.slice ah (cs.map (·.1)).length ch) cs) :=
            (L8.out.exqC (exq_setA _ C 0 _) HLV.out (fun b h => by have := h.1.2; have := CL.out; omega)).exqC (exq_setA _ C 1 _) HLV.out (fun b h => by have := h.1.2; have := CL.out; omega)
          clear e0 e1 ef el f0 f1 W8 C8 D8 L8 S8 HLV
          rw [List.length_map, hcl] at *
          generalize ((w8.setCell ⟨C, 0, none⟩ (.string y.1.name)).setCell ⟨C, 1, none⟩ (.slice x y.1.args.length c)) = w9 at *
          have HCL : Hid (cs.length = y.2.length) := by unfold Hid; have := congrArg List.length HCS.out; simpa using this
          have HPL := hide hpl
          clear hcl hpl
          go_loopw [7, 8, 11] (fun L R i wr => GsI w9 (fun b => b < w.heap.size) y.2 L R i wr) (fun L R i wr => y.2.length - (intOf i).toNat)
          case atStart => exact ⟨0, [], [], Nat.zero_le _, rfl, ⟨BLs.start _ _ _, by simp [bdL]⟩, ⟨BLs.start _ _ _, by simp [bdL]⟩, fun b h => by simp [Value.ownBlock] at h, Below.refl _ _⟩
          case round =>
            obtain ⟨k, cL, cR, hk, rfl, ⟨hL, hcL⟩, ⟨hR, hcR⟩, hne, hbr⟩ := hrel
            have HL := hide hL
            have HR := hide hR
            have HcL := hide hcL
            have HcR := hide hcR
            have HNE := hide hne
            have HBR := hide hbr
            clear hL hR hcL hcR hne hbr
            by_cases hlt : k < y.2.length
            · have hltc : k < cs.length := by rw [HCL.out]; exact hlt
              have hlt2 : (k : Int) < (y.2.length : Int) := by omega
              obtain ⟨g, o, rfl, ⟨x0, x1⟩, x2, x3⟩ := L9.out.at k hltc
              obtain ⟨r1, r2⟩ := L9.out.row cs[k] (List.getElem_mem hltc)
              have hpk : cs[k].1 = y.2[k] := by
                have := HCS.out
                simp only [← this, List.getElem_map]
              have R1 := hide (r1.mono (Y := fun b => b < w.heap.size) fun b h _ => h.1.2)
              have R2 := hide (r2.mono (Y := fun b => b < w.heap.size) fun b h _ => h.1.2)
              have X0 := hide x0
              have X1 := hide x1
              have X2 := hide x2
              have X3 := hide x3
              have HPK := hide hpk
              have hcl1 : cL.length ≤ 1000000 := by
                have h1 := congrArg List.length HcL.out
                rw [List.length_map, bdL_len, List.length_take] at h1
                have := HPL.out
                omega
              have hcr1 : cR.length ≤ 1000000 := by
                have h1 := congrArg List.length HcR.out
                rw [List.length_map, bdL_len, List.length_take] at h1
                have := HPL.out
                omega
              have hk6 : (k : Int) + 1 = ((k + 1 : Nat) : Int) := by omega
              have HK6 := hide hk6
              clear hk6 x0 x1 x2 x3 r1 r2 hpk
              have hdl3 : 1 + (Lib.decDigits (k + 1)).length ≤ 9223372036854775807 := by have := dec_len (k + 1); have := HPL.out; omega
              have hdl2 : ¬ 9223372036854775807 < 1 + (Lib.decDigits (k + 1)).length := by omega
              go_wp2_with fail
              rw [HK6.out]
              refine (dec_any (k + 1) (by have := HPL.out; omega) _).mono ?_
              rintro e w10 ⟨rfl, hb10⟩
              have B10 := hide (HBR.out.trans (hb10.mono HBR.out.size))
              have HL10 := hide (HL.out.below hb10)
              have HR10 := hide (HR.out.below hb10)
              clear hb10
              have hcat : (⟨#[90]⟩ : ByteArray) ++ ⟨(Lib.decDigits (k + 1)).toArray⟩ = nmZ (k + 1) := str_catL [90] (Lib.decDigits (k + 1))
              have HCAT := hide hcat
              clear hcat
              have hY9 : ∀ b, b < w.heap.size → b < w9.heap.size := fun b h => Nat.lt_of_lt_of_le h W9.out.bl.size
              obtain ⟨g1, cap1, w11, hr1, hl11, he11, hat1⟩ := app_bindL (⟨nmZ (k + 1), cs[k].1.l⟩, cs[k].2.1.1, cs[k].2.1.2) HL10.out B10.out.size hY9 hcl1 ((R1.out.below B10.out (fun b h _ => hY9 b h)))
              have hb11 : Below w9.heap.size w10 w11 := he11.below B10.out.size (fun b e => (HL10.out.own.lt b e.symm).1)
              have B11 := hide (B10.out.trans hb11)
              have HR11 := hide (HR10.out.exq he11 (fun b e => (HL10.out.own.lt b e.symm).1) hY9 (fun b h e => HNE.out b e.symm h.symm))
              obtain ⟨g2, cap2, w12, hr2, hl12, he12, hat2⟩ := app_bindL (⟨nmZ (k + 1), cs[k].1.r⟩, cs[k].2.2.1, cs[k].2.2.2) HR11.out B11.out.size hY9 hcr1 ((R2.out.below B11.out (fun b h _ => hY9 b h)))
              have hb12 : Below w9.heap.size w11 w12 := he12.below B11.out.size (fun b e => (HR11.out.own.lt b e.symm).1)
              have B12 := hide (B11.out.trans hb12)
              have n1 : ∀ b, (Value.slice (some ⟨g1, 0, none⟩) (cL.length + 1) cap1).ownBlock = some b → ¬ some b = Value.ownBlock u8 := fun b h e => by
                have hbg : b = g1 := by simpa [Value.ownBlock, eq_comm] using h
                rw [hbg] at e
                rcases hat1 with h1 | h1
                · exact HNE.out g1 h1 e
                · have := (HR10.out.own.lt g1 e.symm).2; omega
              have HL12 := hide (hl11.exq he12 (fun b e => (HR11.out.own.lt b e.symm).1) hY9 n1)
              have HR12 := hide hl12
              have HNE12 : Hid (∀ b, (Value.slice (some ⟨g1, 0, none⟩) (cL.length + 1) cap1).ownBlock = some b → some b ≠ (Value.slice (some ⟨g2, 0, none⟩) (cR.length + 1) cap2).ownBlock) := fun b h e => by
                have hbg : b = g1 := by simpa [Value.ownBlock, eq_comm] using h
                have hbg2 : b = g2 := by simpa [Value.ownBlock] using e
                rcases hat2 with h2 | h2
                · exact n1 b h (by rw [hbg2, h2])
                · have := (hl11.own.lt b h).2; omega
              have HR1 := hide hr1
              have HR2 := hide hr2
              have y0 := cell_below B10.out X0.out
              have y1 := cell_below B10.out X1.out
              have y2 := cell_below B11.out X2.out
              have y3 := cell_below B11.out X3.out
              clear hr1 hr2 hl11 hl12 he11 he12 hat1 hat2 hb11 hb12 n1 hY9 HL HR HL10 HR10 HR11
              go_upto_region 15 with (first | (rw [HCAT.out]; fail) | (at_builtin; (try rw [HCAT.out]); refine wpList_append_eq rfl _ _ _ _ rfl rfl rfl HR1.out ?_))
              go_wp2_with (at_builtin; (try rw [HCAT.out]); refine wpList_append_eq rfl _ _ _ _ rfl rfl rfl HR2.out ?_)
              go_roundw
              case rel => exact ⟨k + 1, _, _, by omega, by go_num, ⟨HL12.out, by rw [bdL_take _ hlt, List.map_append, HcL.out, ← HPK.out]; rfl⟩, ⟨HR12.out, by rw [bdL_take _ hlt, List.map_append, HcR.out, ← HPK.out]; rfl⟩, HNE12.out, B12.out⟩
              case measure => simp [intOf]; omega
            · have hge : ¬ ((k : Int) < (y.2.length : Int)) := by omega
              have htk : y.2.take k = y.2 := List.take_of_length_le (by omega)
              rw [htk] at HcL HcR
              go_wp2_with fail
              go_meet
              refine ⟨⟨W9.out.bl.trans (HBR.out.mono W9.out.bl.size), W9.out.ka.below HBR.out W9.out.ka.lt, W9.out.kb.below HBR.out W9.out.kb.lt⟩, CL.out, y.1, x, c, B9.out.later HBR.out, Or.inl ⟨H0.out, by rw [HY.out], ?_, ?_⟩⟩
              · have h := HL.out.bv
                rw [HcL.out, HY.out] at h
                refine h.mono fun b h1 _ => ?_
                have := B9.out.blk.lt
                have := CL.out
                omega
              · have h := HR.out.bv
                rw [HcR.out, HY.out] at h
                refine h.mono fun b h1 _ => ?_
                have := B9.out.blk.lt
                have := CL.out
                omega
        · have hz0 : (twoE a b == 0) = false := by simp [h0]
          have H0 := hide h0
          clear h0
          go_wp2_with fail
          go_meet
          exact ⟨W6.out, CL.out, ⟨⟨#[]⟩, []⟩, none, 0, ⟨C6.out, by simp, Or.inl rfl⟩, Or.inr ⟨H0.out, rfl, rfl⟩⟩
      case rest =>
        rename World => w7
        have S7 := hide hcut
        clear hcut W6 C6
        go_upto_region 16 with fail
        go_cut [13, 14, 15, 16] (fun P vl vr er w' => GsE w a b #[.string a.name, .slice aa a.args.length ca] #[.string b.name, .slice ab b.args.length cb] C u7 u8 P vl vr er w')
        case first =>
          obtain ⟨hbx, _, wt, aw, cw, hbe, hor⟩ := S7.out
          have B7 := hide hbx
          have E7 := hide hbe
          have HOR := hide hor
          have c0 := B7.out.ka.cell 0
          have c1 := B7.out.ka.cell 1
          have d0 := B7.out.kb.cell 0
          have d1 := B7.out.kb.cell 1
          clear hbx hbe hor S7
          go_wp2_with fail
          refine (general_any HSORT a b _ _ _ _ (VA.out _ B7.out.bl) (VB.out _ B7.out.bl) (HT.out _ B7.out.bl)).mono ?_
          rintro e w8 ⟨hb8, hg⟩
          clear c0 c1 d0 d1
          have B8 := hide (B7.out.later hb8)
          have E8 := hide (E7.out.later hb8)
          have hC8 : C < w8.heap.size := E8.out.blk.lt
          have hw8 : w.heap.size + 2 ≤ w8.heap.size := by have := CL.out; omega
          rcases HOR.out with ⟨h0, hwt, hL, hR⟩ | ⟨h0, hL, hR⟩
          · rcases hg with ⟨-, x, c, vl, vr, ls, rs, rfl, hs, ⟨hl, pl, sl⟩, hr, pr, sr⟩ | ⟨hn, _⟩
            · have OUT : Hid (GsE w a b #[.string a.name, .slice aa a.args.length ca] #[.string b.name, .slice ab b.args.length cb] C u7 u8 (.pointer (some ⟨w8.heap.size, 0, none⟩)) vl vr (.int .i64 0) (w8.alloc (.cells #[.string (gnT [] a b).1.name, .slice x (gnT [] a b).1.args.length c] 24))) :=
                ⟨B8.out.later (one1 w8 _), w8.heap.size, wt, aw, cw, (gnT [] a b).1, x, c, rfl, ⟨hw8, by omega⟩, E8.out.later (one1 w8 _), BxT.new hs, Or.inl ⟨h0, rfl, hwt.symm, ls, rs, ⟨(hl.mono fun _ _ _ => trivial).later (one1 w8 _), (hr.mono fun _ _ _ => trivial).later (one1 w8 _)⟩, ⟨((hL.mono fun _ _ _ => trivial).later hb8).later (one1 w8 _), ((hR.mono fun _ _ _ => trivial).later hb8).later (one1 w8 _)⟩, ⟨pl, sl⟩, pr, sr⟩⟩
              clear h0 hwt hL hR hs hl pl sl hr pr sr HOR hb8 B7 E7
              go_wp2_with fail
              go_meet
              exact OUT.out
            · exact absurd h0 hn
          · rcases hg with ⟨hn, _⟩ | ⟨-, rfl⟩
            · exact absurd hn h0
            · have OUT : Hid (GsE w a b #[.string a.name, .slice aa a.args.length ca] #[.string b.name, .slice ab b.args.length cb] C u7 u8 (.pointer (some ⟨w8.heap.size, 0, none⟩)) (.slice none 0 0) (.slice none 0 0) (.int .i64 (twoE a b)) (w8.alloc (.cells #[.string ⟨#[]⟩, .slice none 0 0] 24))) :=
                ⟨B8.out.later (one1 w8 _), w8.heap.size, wt, aw, cw, ⟨⟨#[]⟩, []⟩, none, 0, rfl, ⟨hw8, by omega⟩, E8.out.later (one1 w8 _), BxT.new (t := ⟨⟨#[]⟩, []⟩) (X := fun _ => True) ⟨Nat.zero_le _, Or.inl rfl⟩, Or.inr ⟨h0, rfl, ⟨rfl, rfl, rfl⟩, rfl, rfl, hL, hR⟩⟩
              clear h0 hL hR HOR hb8 B7 E7
              go_wp2_with fail
              go_meet
              exact OUT.out
        case rest =>
          obtain ⟨hbx, T, wt, aw, cw, tt, x, c, rfl, hT2, hbe, hbt, hor⟩ := hcut
          rename World => w9
          have B9 := hide hbx
          have E9 := hide hbe
          have T9 := hide hbt
          have HT2 := hide hT2
          have HOR := hide hor
          clear hbx hbe hbt hT2 hor S7
          go_upto_region 17 with fail
          go_cut [97] (fun v w' => v = .bool false ∧ GsF w #[.string a.name, .slice aa a.args.length ca] #[.string b.name, .slice ab b.args.length cb] C T w')
          case first =>
            have c0 := E9.out.blk.cell 0
            have c1 := E9.out.blk.cell 1
            have d0 := T9.out.1.cell 0
            have d1 := T9.out.1.cell 1
            rcases HOR.out with ⟨h0, rfl, rfl, ls, rs, ⟨hl, hr⟩, ⟨hL, hR⟩, ⟨pl, sl⟩, pr, sr⟩ | ⟨h0, rfl, ⟨rfl, rfl, rfl⟩, rfl, rfl, rfl, rfl⟩
            · have H0 := hide h0
              obtain ⟨xl, cl, rfl, _⟩ := id hl
              obtain ⟨xr, cr, rfl, _⟩ := id hr
              obtain ⟨xL, cL, hLe, _⟩ := id hL
              obtain ⟨xR, cR, hRe, _⟩ := id hR
              have HLn : Hid ((bdL (·.l) 0 (gnT [] a b).2).length ≤ 1000000) := bdL_lenG _ h0
              have HRn : Hid ((bdL (·.r) 0 (gnT [] a b).2).length ≤ 1000000) := bdL_lenG _ h0
              subst hLe hRe
              have PL := hide pl
              have PR := hide pr
              have SL := hide sl
              have SR := hide sr
              have VL := hide hl
              have VR := hide hr
              have VL2 := hide hL
              have VR2 := hide hR
              clear h0 hl hr hL hR pl sl pr sr HOR
              go_wp2_with fail
              refine (term2_okE _ H0.out tt _ _ _ (fun _ => True) _ ⟨_, _, rfl, T9.out.2⟩ ⟨_, _, rfl, E9.out.sl⟩).mono ?_
              rintro e w10 ⟨rfl, hb10⟩
              have B10 := hide (B9.out.later hb10)
              have E10 := hide (E9.out.later hb10)
              have T10 := hide (T9.out.later hb10)
              have VLa := hide (VL.out.later hb10)
              have VRa := hide (VR.out.later hb10)
              have VL2a := hide (VL2.out.later hb10)
              have VR2a := hide (VR2.out.later hb10)
              clear hb10 B9 E9 T9 VL VR VL2 VR2 c0 c1 d0 d1
              go_wp2_with fail
              refine (sorted_any _ _ _ _ VL2a.out HLn.out).mono ?_
              rintro e w11 ⟨v1, cs1, rfl, hrow1, hp1, hw1, hb11⟩
              have V1 := hrow1.bv
              rw [sorted_same PL.out SL.out hp1 hw1] at V1
              obtain ⟨x1, k1, rfl, _⟩ := id V1
              have HV1 := hide V1
              have B11 := hide (B10.out.later hb11)
              have E11 := hide (E10.out.later hb11)
              have T11 := hide (T10.out.later hb11)
              have VLb := hide (VLa.out.later hb11)
              have VRb := hide (VRa.out.later hb11)
              have VR2b := hide (VR2a.out.later hb11)
              clear hb11 hrow1 hp1 hw1 V1 B10 E10 T10 VLa VRa VR2a VL2a
              go_wp2_with fail
              refine (binds2_okE _ H0.out ls _ _ _ _ _ VLb.out HV1.out).mono ?_
              rintro e w12 ⟨rfl, hb12⟩
              have B12 := hide (B11.out.later hb12)
              have E12 := hide (E11.out.later hb12)
              have T12 := hide (T11.out.later hb12)
              have VRc := hide (VRb.out.later hb12)
              have VR2c := hide (VR2b.out.later hb12)
              clear hb12 B11 E11 T11 VLb VRb VR2b HV1
              go_wp2_with fail
              refine (sorted_any _ _ _ _ VR2c.out HRn.out).mono ?_
              rintro e w13 ⟨v2, cs2, rfl, hrow2, hp2, hw2, hb13⟩
              have V2 := hrow2.bv
              rw [sorted_same PR.out SR.out hp2 hw2] at V2
              obtain ⟨x2, k2, rfl, _⟩ := id V2
              have HV2 := hide V2
              have B13 := hide (B12.out.later hb13)
              have E13 := hide (E12.out.later hb13)
              have T13 := hide (T12.out.later hb13)
              have VRd := hide (VRc.out.later hb13)
              clear hb13 hrow2 hp2 hw2 V2 B12 E12 T12 VRc VR2c
              go_wp2_with fail
              refine (binds2_okE _ H0.out rs _ _ _ _ _ VRd.out HV2.out).mono ?_
              rintro e w14 ⟨rfl, hb14⟩
              have OUT : Hid (GsF w #[.string a.name, .slice aa a.args.length ca] #[.string b.name, .slice ab b.args.length cb] C T w14) := ⟨B13.out.later hb14, tt, aw, cw, E13.out.later hb14, tt, x, c, (T13.out.later hb14).1⟩
              clear hb14 B13 E13 T13 VRd HV2
              go_wp2_with fail
              go_meet
              exact ⟨rfl, OUT.out⟩
            · have H0 := hide h0
              clear h0 HOR
              go_wp2_with fail
              refine (term2_err (twoE a b) _ wt.name aw wt.args.length cw rfl _ H0.out).mono ?_
              rintro e w10 ⟨rfl, hb10⟩
              have B10 := hide (B9.out.later hb10)
              have E10 := hide (E9.out.later hb10)
              have T10 := hide (T9.out.later hb10)
              clear hb10 B9 E9 T9 c0 c1 d0 d1
              go_wp2_with fail
              refine (sorted_any [] _ _ (fun _ => True) ⟨none, 0, rfl, by simp, Or.inl rfl⟩ (by simp)).mono ?_
              rintro e w11 ⟨v1, cs1, rfl, hrow1, hp1, hw1, hb11⟩
              obtain ⟨x1, k1, rfl, _⟩ := id hrow1.bv
              have B11 := hide (B10.out.later hb11)
              have E11 := hide (E10.out.later hb11)
              have T11 := hide (T10.out.later hb11)
              clear hb11 hrow1 hp1 hw1 B10 E10 T10
              go_wp2_with fail
              refine (binds2_err (twoE a b) 0 _ _ H0.out).mono ?_
              rintro e w12 ⟨rfl, rfl⟩
              go_wp2_with fail
              refine (sorted_any [] _ _ (fun _ => True) ⟨none, 0, rfl, by simp, Or.inl rfl⟩ (by simp)).mono ?_
              rintro e w13 ⟨v2, cs2, rfl, hrow2, hp2, hw2, hb13⟩
              obtain ⟨x2, k2, rfl, _⟩ := id hrow2.bv
              have OUT : Hid (GsF w #[.string a.name, .slice aa a.args.length ca] #[.string b.name, .slice ab b.args.length cb] C T w13) := ⟨B11.out.later hb13, wt, aw, cw, E11.out.later hb13, ⟨⟨#[]⟩, []⟩, none, 0, (T11.out.later hb13).1⟩
              clear hb13 hrow2 hp2 hw2 B11 E11 T11
              go_wp2_with fail
              refine (binds2_err (twoE a b) 0 _ _ H0.out).mono ?_
              rintro e w14 ⟨rfl, rfl⟩
              go_wp2_with fail
              go_meet
              exact ⟨rfl, OUT.out⟩
          case rest =>
            obtain ⟨rfl, hbx, wt2, aw2, cw2, hbe, tt2, x2, c2, hbt⟩ := hcut
            rename World => w14
            have B14 := hide hbx
            have E14 := hide hbe
            have T14 := hide hbt
            clear hbx hbe hbt B9 E9 T9 HOR
            have c0 := B14.out.ka.cell 0
            have c1 := B14.out.ka.cell 1
            go_upto_region 19 with fail
            go_wp2_with fail
            refine (termMay_any a _ _ _ (VA.out _ B14.out.bl)).mono ?_
            rintro e w15 ⟨rfl, hb15⟩
            have B15 := hide (B14.out.later hb15)
            have E15 := hide (E14.out.later hb15)
            have T15 := hide (T14.out.below hb15 T14.out.lt)
            clear hb15 c0 c1 B14 E14 T14
            go_upto_if 101 with fail
            go_cut [106] (fun _ w' => GsG w a #[.string a.name, .slice aa a.args.length ca] #[.string b.name, .slice ab b.args.length cb] C T w')
            case first =>
              by_cases h0 : mayE a = 0
              · have hz0 : (mayE a == 0) = true := by simp [h0]
                have MA := hide (mayE_errG h0)
                have H0 := hide h0
                clear h0
                have c0 := B15.out.ka.cell 0
                have c1 := B15.out.ka.cell 1
                have B16 := hide (B15.out.later (one1 w15 (.cells #[.string a.name, .slice aa a.args.length ca] 24)))
                have E16 := hide (E15.out.later (one1 w15 (.cells #[.string a.name, .slice aa a.args.length ca] 24)))
                have T16 := hide (T15.out.alloc (.cells #[.string a.name, .slice aa a.args.length ca] 24))
                have hC15 := E15.out.blk.lt
                have hT15 := T15.out.lt
                have S16 : Hid (Sl (w15.alloc (.cells #[.string a.name, .slice aa a.args.length ca] 24)) (fun b => b ≠ C ∧ b ≠ T) (some ⟨w15.heap.size, 0, none⟩) [a]) := sl_oneG (Blk.new w15 _ _) (((VA.out _ B16.out.bl).slG).mono fun b h _ => by have := h.2; have := CL.out; have := HT2.out.1; omega) (by omega)
                have HCT : Hid (C < (w15.alloc (.cells #[.string a.name, .slice aa a.args.length ca] 24)).heap.size ∧ T < (w15.alloc (.cells #[.string a.name, .slice aa a.args.length ca] 24)).heap.size) := by unfold Hid; simp; omega
                go_upto_region 21 with fail
                clear hC15 hT15
                go_wp2_with fail
                generalize (w15.alloc (.cells #[.string a.name, .slice aa a.args.length ca] 24)) = w16 at *
                refine (canonR_any [a] _ _ _ _ S16.out MA.out.1 (by have := MA.out.2; omega)).mono ?_
                rintro e w17 ⟨a', c', rfl, hs17, hb17⟩
                rw [renL_oneG] at hs17
                obtain ⟨bz, oz, az, cz, rfl, z0, z1, hsz⟩ := sl_getG hs17
                have HSZ := hide (hsz.mono (Y := fun b => b ≠ C ∧ b ≠ T) fun b h _ => by have := HCT.out; rcases h with h | h; exact h.1; omega)
                have B17 := hide (B16.out.later hb17)
                have E17 := hide (E16.out.later hb17)
                have T17 := hide (T16.out.below hb17 T16.out.lt)
                clear c0 c1 hs17 hb17 hsz B15 E15 T15 B16 E16 T16
                obtain ⟨z, hz⟩ : ∃ z, z = (renT [] a).1 := ⟨_, rfl⟩
                have HZE := hide hz
                rw [← hz] at z0 z1 HSZ
                clear hz
                have e0 := E17.out.blk.cell 0
                have e1 := E17.out.blk.cell 1
                have ef := E17.out.blk.frozen
                have el := E17.out.blk.lt
                have OUT : Hid (GsG w a #[.string a.name, .slice aa a.args.length ca] #[.string b.name, .slice ab b.args.length cb] C T ((w17.setCell ⟨C, 0, none⟩ (.string z.name)).setCell ⟨C, 1, none⟩ (.slice az z.args.length cz))) :=
                  ⟨(B17.out.set CL.out 0 _).set CL.out 1 _, ⟨z, az, cz, (E17.out.blk.set 0 _).set 1 _, fun _ => ⟨HZE.out, HSZ.out.kept fun b h => by rw [Below.heap_setCell _ _ _ _ (by simpa using h.1), Below.heap_setCell _ _ _ _ (by simpa using h.1)]⟩⟩, tt2, x2, c2, (T17.out.setOther (b' := C) 0 _ HT2.out.2).setOther (b' := C) 1 _ HT2.out.2⟩
                simp only [List.length_singleton]
                go_wp2_with fail
                go_meet
                exact OUT.out
              · have hz0 : (mayE a == 0) = false := by simp [h0]
                have H0 := hide h0
                clear h0
                go_wp2_with fail
                go_meet
                exact ⟨B15.out, ⟨wt2, aw2, cw2, E15.out.blk, fun h => absurd h H0.out⟩, tt2, x2, c2, T15.out⟩
            case rest =>
              obtain ⟨hbx, ⟨z, az, cz, hbe, hze⟩, t3, x3, c3, hbt⟩ := hcut
              rename World => w18
              have B18 := hide hbx
              have E18 := hide hbe
              have Z18 := hide hze
              have T18 := hide hbt
              clear hbx hbe hze hbt B15 E15 T15
              have c0 := B18.out.ka.cell 0
              have c1 := B18.out.ka.cell 1
              go_upto_region 22 with fail
              go_wp2_with fail
              refine (gCanon_any a _ _ _ (VA.out _ B18.out.bl) (HT.out _ B18.out.bl)).mono ?_
              rintro e w19 ⟨hb19, hc⟩
              have B19 := hide (B18.out.later hb19)
              have E19 := hide (E18.out.below hb19 E18.out.lt)
              have T19 := hide (T18.out.below hb19 T18.out.lt)
              have hT18 := T18.out.lt
              have hC18 := E18.out.lt
              clear c0 c1
              have e0 := T19.out.cell 0
              have e1 := T19.out.cell 1
              have ef := T19.out.frozen
              have el := T19.out.lt
              rcases hc with ⟨h0, x4, c4, rfl, hs4⟩ | ⟨h0, rfl⟩
              · obtain ⟨hze, hsz⟩ := Z18.out h0
                have H0 := hide h0
                have HS4 := hide (hs4.mono (Y := fun b => b ≠ T ∧ b ≠ C) fun b h _ => by omega)
                have HSZ := hide (hsz.later hb19)
                rw [← hze] at HS4 ⊢
                clear h0 hs4 hsz hb19 hT18 hC18 hze Z18 B18 E18 T18
                have B20 := hide ((B19.out.set HT2.out.1 0 (.string z.name)).set HT2.out.1 1 (.slice x4 z.args.length c4))
                have T20 : Hid (Blk ((w19.setCell ⟨T, 0, none⟩ (.string z.name)).setCell ⟨T, 1, none⟩ (.slice x4 z.args.length c4)) T #[.string z.name, .slice x4 z.args.length c4] 24) := (T19.out.set 0 _).set 1 _
                have E20 : Hid (Blk ((w19.setCell ⟨T, 0, none⟩ (.string z.name)).setCell ⟨T, 1, none⟩ (.slice x4 z.args.length c4)) C #[.string z.name, .slice az z.args.length cz] 24) := (E19.out.setOther (b' := T) 0 _ (fun e => HT2.out.2 e.symm)).setOther (b' := T) 1 _ (fun e => HT2.out.2 e.symm)
                have S20 : Hid (Sl ((w19.setCell ⟨T, 0, none⟩ (.string z.name)).setCell ⟨T, 1, none⟩ (.slice x4 z.args.length c4)) (fun b => b ≠ T ∧ b ≠ C) x4 z.args) := HS4.out.kept fun b h => by rw [Below.heap_setCell _ _ _ _ (by simpa using h.1), Below.heap_setCell _ _ _ _ (by simpa using h.1)]
                have S21 : Hid (Sl ((w19.setCell ⟨T, 0, none⟩ (.string z.name)).setCell ⟨T, 1, none⟩ (.slice x4 z.args.length c4)) (fun b => b ≠ C ∧ b ≠ T) az z.args) := HSZ.out.kept fun b h => by rw [Below.heap_setCell _ _ _ _ (by simpa using h.2), Below.heap_setCell _ _ _ _ (by simpa using h.2)]
                go_upto_region 23 with fail
                generalize ((w19.setCell ⟨T, 0, none⟩ (.string z.name)).setCell ⟨T, 1, none⟩ (.slice x4 z.args.length c4)) = w20 at *
                clear e0 e1 ef el
                have t0 := T20.out.cell 0
                have t1 := T20.out.cell 1
                have s0 := E20.out.cell 0
                have s1 := E20.out.cell 1
                rw [H0.out]
                go_wp2_with fail
                refine (term2_ok z _ _ _ _ _ ⟨_, _, rfl, S20.out⟩ ⟨_, _, rfl, S21.out⟩).mono ?_
                rintro e w21 ⟨rfl, hb21⟩
                have HB21 := hide (B20.out.bl.trans (hb21.mono B20.out.bl.size))
                clear hb21 t0 t1 s0 s1
                go_wp2_with fail
                go_ret
                exact ⟨rfl, HB21.out⟩
              · have H0 := hide h0
                clear h0 hb19 hT18 hC18 Z18 B18 E18 T18
                have B20 := hide ((B19.out.set HT2.out.1 0 (.string ⟨#[]⟩)).set HT2.out.1 1 (.slice none 0 0))
                have T20 : Hid (Blk ((w19.setCell ⟨T, 0, none⟩ (.string ⟨#[]⟩)).setCell ⟨T, 1, none⟩ (.slice none 0 0)) T #[.string ⟨#[]⟩, .slice none 0 0] 24) := (T19.out.set 0 _).set 1 _
                have E20 : Hid (Blk ((w19.setCell ⟨T, 0, none⟩ (.string ⟨#[]⟩)).setCell ⟨T, 1, none⟩ (.slice none 0 0)) C #[.string z.name, .slice az z.args.length cz] 24) := (E19.out.setOther (b' := T) 0 _ (fun e => HT2.out.2 e.symm)).setOther (b' := T) 1 _ (fun e => HT2.out.2 e.symm)
                go_upto_region 23 with fail
                generalize ((w19.setCell ⟨T, 0, none⟩ (.string ⟨#[]⟩)).setCell ⟨T, 1, none⟩ (.slice none 0 0)) = w20 at *
                clear e0 e1 ef el
                have t0 := T20.out.cell 0
                have t1 := T20.out.cell 1
                have s0 := E20.out.cell 0
                have s1 := E20.out.cell 1
                go_wp2_with fail
                refine (term2_err (mayE a) _ z.name az z.args.length cz rfl _ H0.out).mono ?_
                rintro e w21 ⟨rfl, hb21⟩
                have HB21 := hide (B20.out.bl.trans (hb21.mono B20.out.bl.size))
                clear hb21 t0 t1 s0 s1
                go_wp2_with fail
                go_ret
                exact ⟨rfl, HB21.out⟩
end Go.Proofs.YtakmclheffbeaaaDoor
