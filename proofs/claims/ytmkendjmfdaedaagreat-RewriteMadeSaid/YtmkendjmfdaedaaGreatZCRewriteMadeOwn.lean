/- Several texts in one. -/
import Derived.Test.YtmkendjmfdaedaaGreatZBRewriteMadeOwn
import Derived.Test.YtmkendjmfdaedaaGreatShelf
import Derived.Test.YtmkendjmfdaedaaGreatZRewriteMadeOwn
import Derived.RangeFuncNested
import Derived.RangeFuncBound
import Derived.RangeFuncCalls
import Derived.RangeFuncLeaves
import Derived.RangeFuncWrites
import Derived.Shelf.Abstract
import Derived.Shelf.RegionOpen
import Derived.OwnWalkIn
import Derived.TacticsInMore
import Derived.LoopNIn
import Derived.LoopIn
import Derived.Deep.RegionHeld3
import Derived.Laws.EntriesVeiled
namespace Go.Proofs.YtmkendjmfdaedaaGreat
open Go.RowKit
set_option linter.unusedSimpArgs false
set_option linter.unusedVariables false
set_option maxRecDepth 8000
theorem name_le {s : ByteArray} (h : nameB s = true) : s.size ≤ 8 := by
 simp [nameB] at h; omega
theorem txt_len (l : List Tm) (h : errL l = 0) : (txtL l).length ≤ 11 * sizeL l := by
 induction l using Tm.indL with
 | h0 => simp [txtL]
 | h s l r ihl ihr =>
  rw [errL_cons] at h
  by_cases h0 : errL [(⟨s, l⟩ : Tm)] = 0
  ·rw [if_pos h0] at h
   obtain ⟨hn, hl⟩ := err_name h0
   have h1 := ihl hl
   have h2 := ihr h
   have h3 := name_le hn
   have h4 : s.data.toList.length = s.size := by rw [Array.length_toList]; rfl
   simp only [txtL, sizeL, List.length_append]
   split <;> split <;> simp only [List.length_nil, List.length_cons, List.length_append] <;> omega
  ·rw [if_neg h0] at h; exact absurd h h0
theorem bytes_cells (l : List UInt8) : bytesV l = Lib.byteCells l := rfl
set_option maxHeartbeats 1000000 in
theorem ktext_any (t : Tm) (v : Value) (w : World) (X : Nat → Prop) (hv : TV w X v t) (hlen : (txtL [t]).length ≤ 1000000) :
  Calls Tryz.prog 54 #[v] w fun e w' => e = .returned (.string ⟨(txtL [t]).toArray⟩) ∧ Below w.heap.size w w' := by
 obtain ⟨X', hX, hv'⟩ : ∃ X' : Nat → Prop, (∀ b, X' b → b < w.heap.size) ∧ TV w X' v t := ⟨fun b => X b ∧ b < w.heap.size, fun _ h => h.2, hv.mono fun b h1 h2 => ⟨h1, h2⟩⟩
 clear hv
 obtain ⟨a, c, rfl, hs⟩ := hv'
 have HV := hide (show TV w X' (.agg #[.string t.name, .slice a t.args.length c]) t from ⟨a, c, rfl, hs⟩)
 clear hs
 generalize hR : (.string ⟨(txtL [t]).toArray⟩ : Value) = R
 have HR := hide hR
 clear hR
 have K1 := hide (Blk.new w #[.string t.name, .slice a t.args.length c] 27)
 have HB := hide ((Below.refl w.heap.size w).alloc (Nat.le_refl _) (.cells #[.string t.name, .slice a t.args.length c] 27))
 have c0 : ∀ o, ((w.alloc (.cells #[.string t.name, .slice a t.args.length c] 27)).alloc o).cell? ⟨w.heap.size, 0, none⟩ = some (.string t.name) := fun o => (K1.out.alloc o).cell 0
 have c1 : ∀ o, ((w.alloc (.cells #[.string t.name, .slice a t.args.length c] 27)).alloc o).cell? ⟨w.heap.size, 1, none⟩ = some (.slice a t.args.length c) := fun o => (K1.out.alloc o).cell 1
 have HBD : Hid (Bld ((w.alloc (.cells #[.string t.name, .slice a t.args.length c] 27)).alloc (.cells #[.pointer none, .slice none 0 0] 117)) (w.heap.size + 1) (w.heap.size + 1) (bytesV []) (.slice none 0 0)) := ⟨Nat.le_refl _, ⟨_, Or.inl rfl, by have h := heap_alloc_new (w.alloc (.cells #[.string t.name, .slice a t.args.length c] 27)) (.cells #[.pointer none, .slice none 0 0] 117); simpa using h⟩, World.ownsRow_nil _ _ _ _⟩
 go_enter Tryz.func54, Tryz.ntmps54
 go_wp2_with fail
 have hz1 : (w.alloc (.cells #[.string t.name, .slice a t.args.length c] 27)).heap.size = w.heap.size + 1 := by simp
 generalize (w.alloc (.cells #[.string t.name, .slice a t.args.length c] 27)) = w1 at *
 rw [← hz1] at HBD ⊢
 clear hz1
 refine (write_any t _ _ [] w1.heap.size w1.heap.size _ X' (by exact (HV.out.later HB.out).alloc _) (fun b hb => by have := hX b hb; have := HB.out.size; omega) (by exact HBD.out) (by simp) (by simp; omega)).mono ?_
 rintro e w3 ⟨rfl, q3, hbd3, hfr3⟩
 have HISB : Hid (Lib.IsBuilder 117 5 w1.heap.size w1.heap.size (Lib.byteCells (txtL [t])) w3) := by
  have h1 : Bld w3 w1.heap.size w1.heap.size (Lib.byteCells (txtL [t])) q3 := by simpa [bytes_cells] using hbd3
  have hne := bd_ne h1
  obtain ⟨g1, ⟨p, hp, hb⟩, hown⟩ := h1
  rcases hp with rfl | rfl
  ·exact Or.inl ⟨g1, q3, hb, hown, hne⟩
  ·exact Or.inr ⟨g1, q3, hb, hown, hne⟩
 have hsz3 : w1.heap.size ≤ w3.heap.size := by have := hfr3.2.2.2.1; simp at this; omega
 have HB3 : Hid (Below w.heap.size w w3) := by
  refine HB.out.trans ⟨hfr3.1, hfr3.2.1, hfr3.2.2.1, hsz3, fun k hk => ?_⟩
  have hk1 : k < w1.heap.size := Nat.lt_of_lt_of_le hk HB.out.size
  rw [hfr3.2.2.2.2.1 k (by simp; omega) (by omega) (by simp [Value.ownBlock]), Below.heap_alloc _ _ _ hk1]
 clear hbd3 hfr3 c0 c1
 go_wp2_with fail
 refine (Tryz.Builder_String_any w1.heap.size w1.heap.size (txtL [t]) _ HISB.out hsz3).mono ?_
 rintro e w4 ⟨rfl, hb4⟩
 go_wp2_with fail
 go_ret
 exact ⟨by rw [← HR.out]; rfl, HB3.out.trans (hb4.mono HB.out.size)⟩
def RchPost (rs : List Pr) (t : Tm) (w : World) (e : Ending) (w' : World) : Prop :=
  Below w.heap.size w w' ∧ ((rchG rs 201 0 [t] = none ∧ e = .returned (.tuple #[.slice none 0 0, .int .i64 3])) ∨
    ∃ all v out, rchG rs 201 0 [t] = some all ∧ AscB out ∧ (∀ s, s ∈ out ↔ s ∈ all.map tx8) ∧ e = .returned (.tuple #[v, .int .i64 0]) ∧ LV Value.string w' (fun _ => True) v out)
theorem txt_may {t : Tm} (h : mayE t = 0) : (txtL [t]).length ≤ 1000000 := by
  have h0 : errL [t] = 0 := by
    unfold mayE at h
    split at h
    · cases h
    · exact h
  have h1 := txt_len [t] h0
  have h2 := may200 h
  omega
theorem own_lit (w : World) (N T z n : Nat) (cs : Array Value) (hN : N ≤ w.heap.size) (hn : cs.size = n * z) (hm : n ≤ maxLen) : (w.alloc (.cells cs T)).ownsRow N T z (.slice (some ⟨w.heap.size, 0, none⟩) n n) n cs.toList :=
  ⟨by simpa using hn, Or.inr ⟨w.heap.size, n, cs, rfl, hN, heap_alloc_new w _, Nat.le_refl _, hm, hn, by rw [← hn, ← Array.length_toList, List.take_length]⟩⟩
theorem rc_start (D : Value → Prop) (w w1 w2 : World) (t : Tm) (aa : Option Addr) (ca : Nat) (o0 : Obj) (h1 : w1 = w.alloc o0) (h2 : w2 = w1.alloc (.cells #[.string t.name, .slice aa t.args.length ca] 27)) {X : Nat → Prop} (hs : Sl w X aa t.args) :
    RcW D w (w.heap.size + 1 + 1) [t] [] [] (.slice (some ⟨w.heap.size + 1, 0, none⟩) 1 1) (.slice none 0 0) (w2.alloc (.map #[] 0)) := by
  have hz1 : w1.heap.size = w.heap.size + 1 := by rw [h1]; simp
  have hz2 : w2.heap.size = w.heap.size + 1 + 1 := by rw [h2]; simp [hz1]
  have hb2 : Below w.heap.size w w2 := by
    rw [h2, h1]
    exact ((Below.refl _ _).alloc (Nat.le_refl _) _).alloc (by simp) _
  have hb : Below w.heap.size w (w2.alloc (.map #[] 0)) := hb2.alloc hb2.size _
  have ho : w2.ownsRow w.heap.size 27 2 (.slice (some ⟨w.heap.size + 1, 0, none⟩) 1 1) 1 [.string t.name, .slice aa t.args.length ca] := by
    have := own_lit w1 w.heap.size 27 2 1 #[.string t.name, .slice aa t.args.length ca] (by omega) rfl (by decide)
    rw [h2, ← hz1]
    exact this
  have hs2 : Sl w2 (fun b => b < w.heap.size) aa t.args := (hs.mono (Y := fun b => b < w.heap.size) fun b _ h => h).later hb2
  refine ⟨⟨_, (ho.alloc _), ⟨aa, ca, [], rfl, (hs2.later ((Below.refl _ _).alloc (Nat.le_refl _) _)).mono fun b hx _ => ⟨?_, ?_, ?_⟩, rfl⟩⟩, World.ownsRow_nil _ _ _ _, ⟨[], ?_, rfl, by simp⟩, (fun b hb e => by cases e), ⟨?_, by simp [Value.ownBlock]⟩, by omega, hb⟩
  · have : b < w.heap.size := hx
    intro e
    simp [Value.ownBlock] at e
    omega
  · simp [Value.ownBlock]
  · have : b < w.heap.size := hx
    omega
  · have := MapAt.new w2
    rw [hz2] at this
    exact this
  · simp [Value.ownBlock]
theorem RcW.startS {D : Value → Prop} {wN : World} {M : Nat} {all : List Tm} {ks : List ByteArray} {ov : Value} {w : World} (h : RcW D wN M all [] ks ov (.slice none 0 0) w) (s : ByteArray) :
    RcW D wN M all [s] ks ov (.slice (some ⟨w.heap.size, 0, none⟩) 1 1) (w.alloc (.cells #[.string s] 9)) := by
  obtain ⟨xs, hR⟩ := h.ex
  obtain ⟨L, hm1, hm2, hm3⟩ := h.mp
  have hb : Below w.heap.size w (w.alloc (.cells #[.string s] 9)) := (Below.refl _ _).alloc (Nat.le_refl _) _
  refine ⟨⟨xs, ((hR.mono (Z' := fun b => Zr ov (.slice none 0 0) M b ∧ b < w.heap.size) fun b h1 h2 => ⟨h1, h2⟩).below hb).mono fun b hx _ => ⟨hx.1.1, fun e => ?_, hx.1.2.2⟩⟩, own_lit w wN.heap.size 9 1 1 #[.string s] h.bl.size rfl (by decide), ⟨L, hm1.below hb hm1.lt, hm2, hm3⟩, fun b hb e => ?_, ⟨h.nm.1, fun e => ?_⟩, h.hM, h.bl.trans (hb.mono h.bl.size)⟩
  · have : b = w.heap.size := by simpa [Value.ownBlock] using e
    have := hx.2
    omega
  · have : w.heap.size = b := by simpa [Value.ownBlock] using e
    have := (hR.own.lt b hb).2
    omega
  · have : w.heap.size = M := by simpa [Value.ownBlock] using e
    have := hm1.lt
    omega
def RcO (rs : List Pr) (t : Tm) (P : Tm → Prop) (D : Value → Prop) (wN : World) (M : Nat) (ov ev o : Value) (wr : World) : Prop :=
  ∃ (i : Nat) (all : List Tm), o = .int .i64 (i : Int) ∧ i ≤ all.length ∧ all.length ≤ 200 ∧ rchG rs 201 0 [t] = rchG rs (201 - i) i all ∧ (∀ x ∈ all, P x) ∧ RcW D wN M all (all.map tx8) (all.map tx8) ov ev wr
def RcI (st all0 : List Tm) (P : Tm → Prop) (D : Value → Prop) (wN : World) (M : Nat) (ov0 ev0 : Value) (w2 : World) (ov ev o : Value) (wr : World) : Prop :=
  ∃ (k : Nat) (all : List Tm), o = .int .i64 (k : Int) ∧ k ≤ st.length ∧ all.length ≤ 200 ∧ addK st all0 = addK (st.drop k) all ∧ all0.length ≤ all.length ∧ (∀ x ∈ all, P x) ∧ RcW D wN M all (all.map tx8) (all.map tx8) ov ev wr ∧ Fsh w2.heap.size ov0 ov ∧ Fsh w2.heap.size ev0 ev ∧ ExQ (fun b => ¬ Zr ov0 ev0 M b) w2 wr
theorem fst_kept {w2 wr : World} {ov0 ev0 : Value} {M : Nat} {a : Option Addr} {l : List Tm} (h : Sl w2 (Zr ov0 ev0 M) a l) (he : ExQ (fun b => ¬ Zr ov0 ev0 M b) w2 wr) : Sl wr (Fst w2.heap.size ov0 ev0 M) a l :=
  (h.mono (Y := Fst w2.heap.size ov0 ev0 M) fun b h1 h2 => ⟨h2, h1⟩).exq he fun b hb hn => hn hb.2
theorem exq_own {w2 wr w3 : World} {ov0 ev0 ov ev : Value} {M : Nat} (he : ExQ (fun b => ¬ Zr ov0 ev0 M b) w2 wr) (hn : ExQ (fun b => some b = ov.ownBlock ∨ some b = ev.ownBlock ∨ b = M) wr w3) (h1 : Fsh w2.heap.size ov0 ov) (h2 : Fsh w2.heap.size ev0 ev) : ExQ (fun b => ¬ Zr ov0 ev0 M b) w2 w3 :=
  he.transN hn fun b hb hlt hz => by
    have := Fst.zr (b := b) ⟨hlt, hz⟩ h1 h2
    rcases hb with e | e | e
    · exact this.1 e
    · exact this.2.1 e
    · exact this.2.2 e
theorem qv_zr {w wr : World} {X : Nat → Prop} {u : Value} {rs : List Pr} {ov ev : Value} {M : Nat} (hu : QV w X u rs) (hb : Below w.heap.size w wr) (h1 : ∀ b, ov.ownBlock = some b → w.heap.size ≤ b) (h2 : ∀ b, ev.ownBlock = some b → w.heap.size ≤ b) (hM : w.heap.size ≤ M) : QV wr (Zr ov ev M) u rs :=
  ((hu.mono (Y := fun b => b < w.heap.size) fun b _ h => h).later hb).mono fun b hx _ => ⟨fun e => by have := h1 b e.symm; omega, fun e => by have := h2 b e.symm; omega, by omega⟩
set_option maxHeartbeats 4000000 in
theorem reachOf_any (rs : List Pr) (t : Tm) (P : Tm → Prop) (hm : ∀ x, P x → mayE x = 0) (hst : ∀ x y, P x → y ∈ stAll rs x → P y) (ht : P t) (u : Value) (aa : Option Addr) (ca : Nat) (w : World) (X : Nat → Prop) (hu : QV w X u rs) (hs : Sl w X aa t.args) (h40 : rs.length ≤ 40) (hrz : ∀ p ∈ rs, sizeL [p.l] ≤ 1000000 ∧ sizeL [p.r] ≤ 1000000) :
    Calls Tryz.prog 28 #[u, .agg #[.string t.name, .slice aa t.args.length ca]] w fun e w' => RchPost rs t w e w' := by
  have HU := hide hu
  have HS := hide hs
  have HM := hide hm
  have HST := hide hst
  have HT := hide ht
  obtain ⟨au, cu, rfl, hlu, _⟩ := hu
  clear hs hm hst ht
  have hmm := @run_makeMap Tryz.prog
  have hT0 : Blk (((w.alloc (.cells #[.string t.name, .slice aa t.args.length ca] 27)).alloc (.cells #[.string t.name, .slice aa t.args.length ca] 27)).alloc (.map #[] 0)) w.heap.size #[.string t.name, .slice aa t.args.length ca] 27 := ((Blk.new w _ _).alloc _).alloc _
  have hR0 := rc_start (fun v => v = .bool true) w _ _ t aa ca (.cells #[.string t.name, .slice aa t.args.length ca] 27) rfl rfl HS.out
  go_enter Tryz.func28, Tryz.ntmps28
  go_wp2_with fail
  generalize (((w.alloc (.cells #[.string t.name, .slice aa t.args.length ca] 27)).alloc (.cells #[.string t.name, .slice aa t.args.length ca] 27)).alloc (.map #[] 0)) = W1 at *
  refine (show_any t _ _ X ⟨aa, ca, rfl, HS.out.later hR0.bl⟩ (txt_may (HM.out t HT.out))).mono ?_
  rintro e w3 ⟨rfl, hb3⟩
  have e8 : (⟨(txtL [t]).toArray⟩ : ByteArray) = tx8 t := rfl
  rw [e8]
  have hT3 := hT0.below hb3 hT0.lt
  have hR3 := hR0.later hb3
  clear hT0 hR0 hb3
  obtain ⟨w4, hput, hR4, hx4, hz4⟩ := hR3.pushM (s := tx8 t) (v := .bool true) (T := 82) Tryz.underlying82 (by simp) rfl
  have hT4 : Blk w4 w.heap.size #[.string t.name, .slice aa t.args.length ca] 27 := hT3.exq hx4 (by omega)
  have c40 := hT4.cell 0
  have c41 := hT4.cell 1
  clear hT3 hR3 hx4
  generalize hMM : w.heap.size + 1 + 1 = M at *
  have HMM := hide hMM
  clear hMM
  generalize hOO : w.heap.size + 1 = O at *
  have HOO := hide hOO
  clear hOO
  go_wp2_with fail
  refine (show_any t _ _ X ⟨aa, ca, rfl, HS.out.later hR4.bl⟩ (txt_may (HM.out t HT.out))).mono ?_
  rintro e w5 ⟨rfl, hb5⟩
  rw [e8]
  have HR6 := hide ((hR4.later hb5).startS (tx8 t))
  clear hR4 hb5 hput c40 c41 hT4 hz4 e8
  go_wp2_with fail
  generalize hw6 : w5.alloc (.cells #[.string (tx8 t)] 9) = w6 at *
  clear hw6
  go_loopw [6, 8, 9] (fun ov ev o wr => RcO rs t P (fun v => v = .bool true) w M ov ev o wr) (fun ov ev o wr => 201 - (intOf o).toNat)
  case atStart => exact ⟨0, [t], rfl, Nat.zero_le _, by simp, rfl, fun x hx => by simp at hx; subst hx; exact HT.out, HR6.out⟩
  case round =>
    obtain ⟨i, all, rfl, hi, hal, hrg, hP, hR⟩ := hrel
    have HRG := hide hrg
    have HP := hide hP
    have HR := hide hR
    clear hrg hP
    obtain ⟨xs, hRow⟩ := hR.ex
    have HOL := hide hRow.own.lt
    have HEL := hide hR.es.lt
    by_cases hlt : i < all.length
    · obtain ⟨g, cap, ax, cx, e, d0, d1, hsx, _⟩ := rowH_at hRow hlt
      subst e
      have HPX := hide (HP.out _ (List.getElem_mem hlt))
      have HNX := hide (fun a => rchG_next (rs := rs) (f := 200 - i) (a := a) hlt)
      have HFX := hide (rchG_full (rs := rs) (f := 200 - i) hlt)
      have hlt2 : (i : Int) < (all.length : Int) := by omega
      have hqv := qv_zr HU.out HR.out.bl (fun b e => (HOL.out b e).1) (fun b e => (HEL.out b e).1) HR.out.hM
      have HQV := hide hqv
      have HSX := hide hsx
      generalize hx : all[i] = x at *
      clear hx hRow hR hsx hqv
      obtain ⟨n, hn⟩ : ∃ n, n = all.length := ⟨_, rfl⟩
      rw [← hn] at HOL HR HQV HSX hlt hlt2 hal ⊢
      have HN := hide hn
      clear hn
      obtain ⟨ea, ec, he⟩ := own_shape HR.out.es
      have HLX : Hid (sizeL [x] ≤ 200) := may200 (HM.out x HPX.out)
      subst he
      have hmn : (all.map tx8).length = n := by rw [List.length_map, ← HN.out]
      rw [hmn] at HR HEL HQV HSX ⊢
      clear hmn
      go_wp2_with fail
      refine (stepsOfY_any rs x ax cx _ _ (Zr (.slice (some ⟨g, 0, none⟩) n cap) (.slice ea n ec) M) HQV.out HSX.out h40 hrz (by have := HLX.out; omega)).mono ?_
      rintro e w7 ⟨hb7, hans⟩
      have HB7 := hide hb7
      clear hb7 d0 d1
      rcases hans with ⟨v7, hsm, rfl, N7, xs7, hN7, hrow7⟩ | ⟨⟨y, hy, hyz⟩, rfl⟩
      · have HST2 := hide (fun y hy => HST.out x y HPX.out hy)
        have HL7 : Hid ((stAll rs x).length ≤ 100000) := by
          have h1 := flat_len (rs := rs) (t := x) h40 (plcT x)
          have h2 := HLX.out
          unfold Hid
          unfold stAll
          rw [plcT_len] at h1
          omega
        have HRW := hide hrow7
        have HN7 := hide hN7
        clear hsm hrow7 hN7
        generalize hst7 : stAll rs x = st at *
        clear hst7
        obtain ⟨a7, c7, e7⟩ := own_shape HRW.out.own
        subst e7
        have HR7 := hide (HR.out.later HB7.out)
        obtain ⟨w1, hw1⟩ : ∃ w1, w1 = wr := ⟨wr, rfl⟩
        subst hw1
        have HLT7 := hide HRW.out.own.lt
        have HKY : Hid (∀ b, w1.heap.size ≤ b → Zr (.slice (some ⟨g, 0, none⟩) n cap) (.slice ea n ec) M b) := fun b h => by
          have hM1 : M < w1.heap.size := by obtain ⟨L, h1, _⟩ := HR.out.mp; exact h1.lt
          exact ⟨fun e => by have := (HOL.out b e.symm).2; omega, fun e => by have := (HEL.out b e.symm).2; omega, by omega⟩
        have HZ7 : Hid (∀ b, (YB (Zr (.slice (some ⟨g, 0, none⟩) n cap) (.slice ea n ec) M) w1.heap.size N7 b ∨ (N7 ≤ b ∧ some b ≠ (Value.slice a7 st.length c7).ownBlock)) → Zr (.slice (some ⟨g, 0, none⟩) n cap) (.slice ea n ec) M b) := fun b hb => by
          have hN := HN7.out
          rcases hb with ⟨_, h | h⟩ | ⟨h, _⟩
          · exact h
          · exact HKY.out b h
          · exact HKY.out b (by omega)
        have HC7 : Hid (∀ (k : Nat) (h : k < st.length), ∃ g7 ak ck, a7 = some ⟨g7, 0, none⟩ ∧ Zr (.slice (some ⟨g, 0, none⟩) n cap) (.slice ea n ec) M g7 ∧ w7.cell? ⟨g7, k * 2, none⟩ = some (.string st[k].name) ∧ w7.cell? ⟨g7, k * 2 + 1, none⟩ = some (.slice ak st[k].args.length ck) ∧ Sl w7 (Zr (.slice (some ⟨g, 0, none⟩) n cap) (.slice ea n ec) M) ak st[k].args) := fun k h => by
          obtain ⟨g7, cap7, ak, ck, e, h1, h2, h3, h4⟩ := rowH_at (Z := _) ⟨HRW.out.own, HRW.out.row⟩ h
          cases e
          have h5 := (HLT7.out g7 rfl).1
          have h6 := HN7.out
          exact ⟨g7, ak, ck, rfl, HKY.out g7 (by omega), h1, h2, h3.mono fun b hb _ => HZ7.out b hb⟩
        clear HZ7
        go_wp2_with fail
        go_loopw [6, 8, 12] (fun ov ev o w9 => RcI st all P (fun v => v = .bool true) w M (.slice (some ⟨g, 0, none⟩) n cap) (.slice ea n ec) w7 ov ev o w9) (fun ov ev o w9 => st.length - (intOf o).toNat)
        case atStart => exact ⟨0, all, rfl, Nat.zero_le _, by have := HN.out; omega, rfl, Nat.le_refl _, HP.out, HR7.out, Or.inl rfl, Or.inl rfl, ExQ.refl _ _⟩
        case round =>
          obtain ⟨k, all2, rfl, hk, hal2, hadd, hlen, hP2, hR2, hf1, hf2, hex⟩ := hrel
          have HADD := hide hadd
          have HP2 := hide hP2
          have HR2 := hide hR2
          have HF1 := hide hf1
          have HF2 := hide hf2
          have HEX := hide hex
          clear hadd hP2 hR2 hf1 hf2 hex
          by_cases hk2 : k < st.length
          · obtain ⟨g7, ak, ck, e, hg7, d0, d1, hs7⟩ := HC7.out k hk2
            subst e
            have hg7l : g7 < w7.heap.size := World.block_lt_of_cell? w7 _ d0
            have f0 : wr.cell? ⟨g7, k * 2, none⟩ = some (.string st[k].name) := (World.cell?_of_block (HEX.out.block g7 hg7l fun h => h hg7)).trans d0
            have f1 : wr.cell? ⟨g7, k * 2 + 1, none⟩ = some (.slice ak st[k].args.length ck) := (World.cell?_of_block (HEX.out.block g7 hg7l fun h => h hg7)).trans d1
            have HSY := hide (fst_kept hs7 HEX.out)
            have HPY := hide (HST2.out _ (List.getElem_mem hk2))
            have HDR := hide (List.drop_eq_getElem_cons hk2)
            have hk3 : (k : Int) < (st.length : Int) := by omega
            have hk5 : k ≤ 100000 := by have := HL7.out; omega
            generalize hy : st[k] = y at *
            clear hy d0 d1 hs7 hg7
            obtain ⟨oa, oc, e1⟩ := own_shape (HR2.out.ex).choose_spec.own
            subst e1
            obtain ⟨ea2, ec2, e2⟩ := own_shape HR2.out.es
            subst e2
            obtain ⟨m, hm2⟩ : ∃ m, m = all2.length := ⟨_, rfl⟩
            have hmn : (all2.map tx8).length = m := by rw [List.length_map, ← hm2]
            rw [hmn] at HR2 HF2 ⊢
            rw [← hm2] at HR2 HF1 ⊢
            have HMN := hide hmn
            have HM2 := hide hm2
            have hm200 : m ≤ 200 := by omega
            clear hmn hm2 hal2
            go_wp2_with fail
            refine (show_any y _ _ _ ⟨ak, ck, rfl, HSY.out⟩ (txt_may (HM.out y HPY.out))).mono ?_
            rintro e w10 ⟨rfl, hb10⟩
            rw [show (⟨(txtL [y]).toArray⟩ : ByteArray) = tx8 y from rfl]
            have HR10 := hide (HR2.out.later hb10)
            have HEX10 := hide (HEX.out.transN (ExQ.ofBelow (Q := fun _ => False) hb10) (fun i h => absurd h id))
            have g0 := (World.cell?_of_block (hb10.block g7 (World.block_lt_of_cell? wr _ f0))).trans f0
            have g1 := (World.cell?_of_block (hb10.block g7 (World.block_lt_of_cell? wr _ f0))).trans f1
            have HSY10 := hide (HSY.out.later hb10)
            clear hb10 f0 f1 HSY HR2 HEX
            obtain ⟨L, hL1, hL2, hL3⟩ := HR10.out.mp
            have hlook := run_look1 (P := Tryz.prog) Tryz.underlying82 Tryz.underlying9 (Tryz.zeroValue4 w10) hL1 (tx8 y)
            by_cases hin : tx8 y ∈ all2.map tx8
            · have hv : (mapGet L (tx8 y)).getD (.bool false) = .bool true := by
                have h1 := mapGet_key.2 (show tx8 y ∈ L.map (·.1) by rw [hL2]; exact hin)
                cases h2 : mapGet L (tx8 y) with
                | none => rw [h2] at h1; cases h1
                | some v =>
                  obtain ⟨p, hp, rfl⟩ := mapGet_in h2
                  exact hL3 p hp
              rw [hv] at hlook
              have HA : Hid (addK st all = addK (st.drop (k + 1)) all2) := HADD.out.trans (by rw [HDR.out]; exact addK_old hin)
              clear hv hL1 hL2 hL3
              go_wp2_with fail
              go_roundw
              case rel => exact ⟨k + 1, all2, by go_num, by omega, by have := HM2.out; omega, HA.out, hlen, HP2.out, HR10.out, HF1.out, HF2.out, HEX10.out⟩
              case measure => simp [intOf]; omega
            · have hv : (mapGet L (tx8 y)).getD (.bool false) = .bool false := by
                cases h2 : mapGet L (tx8 y) with
                | none => rfl
                | some v => exact absurd (by rw [← hL2]; exact mapGet_key.1 (by rw [h2]; rfl)) hin
              rw [hv] at hlook
              obtain ⟨w11, hput, hR11, hx11, hz11⟩ := HR10.out.pushM (s := tx8 y) (v := .bool true) (T := 82) Tryz.underlying82 hin rfl
              obtain ⟨g8, cap8, w12, hr12, hR12, hx12, ha12⟩ := hR11.pushS (s := tx8 y) (by rw [HMN.out]; omega)
              have hZ0 : Sl w10 (Zr (.slice oa m oc) (.slice ea2 m ec2) M) ak y.args := HSY10.out.mono fun b hb _ => hb.zr HF1.out HF2.out
              have hZ1 := hZ0.exq hx11 fun b hb e => hb.2.2 e
              have hZ2 := (hZ1.mono (Y := fun b => Zr (.slice oa m oc) (.slice ea2 m ec2) M b ∧ b < w11.heap.size) fun b h1 h2 => ⟨h1, h2⟩).exq hx12 fun b hb e => hb.1.2.1 e
              have hZ3 : Sl w12 (Zr (.slice oa m oc) (.slice (some ⟨g8, 0, none⟩) ((all2.map tx8).length + 1) cap8) M) ak y.args := hZ2.mono fun b hb _ => ⟨hb.1.1, fun e => by
                have e9 : b = g8 := by simpa [Value.ownBlock] using e
                rcases ha12 with e2 | e2
                · exact hb.1.2.1 (by rw [e2, e9])
                · have := hb.2; omega, hb.1.2.2⟩
              obtain ⟨g9, cap9, w13, hr13, hR13, hx13, ha13⟩ := hR12.pushT (z := y) (c := ck) hZ3 (by have := HM2.out; omega)
              have hw712 := HEX10.out.size
              have hF2n := HF2.out.next (w := w11) (n := (all2.map tx8).length + 1) (cap := cap8) (by omega) ha12
              have hF1n := HF1.out.next (w := w12) (n := all2.length + 1) (cap := cap9) (by have := hx12.size; omega) ha13
              have hE11 := exq_own HEX10.out (hx11.mono (R := fun b => some b = (Value.slice oa m oc).ownBlock ∨ some b = (Value.slice ea2 m ec2).ownBlock ∨ b = M) fun i h _ => Or.inr (Or.inr h)) HF1.out HF2.out
              have hE12 := exq_own hE11 (hx12.mono (R := fun b => some b = (Value.slice oa m oc).ownBlock ∨ some b = (Value.slice ea2 m ec2).ownBlock ∨ b = M) fun i h _ => Or.inr (Or.inl h)) HF1.out HF2.out
              have hE13 := exq_own hE12 (hx13.mono (R := fun b => some b = (Value.slice oa m oc).ownBlock ∨ some b = (Value.slice (some ⟨g8, 0, none⟩) ((all2.map tx8).length + 1) cap8).ownBlock ∨ b = M) fun i h _ => Or.inl h) HF1.out hF2n
              have hg7Z : ∀ b, b = g7 → w12.cell? ⟨b, k * 2, none⟩ = some (.string y.name) ∧ w12.cell? ⟨b, k * 2 + 1, none⟩ = some (.slice ak y.args.length ck) := fun b e => by
                subst e
                obtain ⟨_, _, _, e3, hz3, _⟩ := HC7.out k hk2
                cases e3
                have hzz : ¬ ¬ Zr (.slice (some ⟨g, 0, none⟩) n cap) (.slice ea n ec) M b := fun h => h hz3
                have q1 := (hE12.block b hg7l hzz).trans (HEX10.out.block b hg7l hzz).symm
                exact ⟨(World.cell?_of_block (a := ⟨b, k * 2, none⟩) q1).trans g0, (World.cell?_of_block (a := ⟨b, k * 2 + 1, none⟩) q1).trans g1⟩
              obtain ⟨i0, i1⟩ := hg7Z g7 rfl
              have HR8 := hide hr12
              have HR9 := hide hr13
              have HRN := hide hR13
              have HF1N := hide hF1n
              have HF2N := hide hF2n
              have HEN := hide hE13
              rw [HMN.out] at HR8 HRN HF2N
              rw [← HM2.out] at HR9 HRN HF1N
              clear hR11 hx11 hr12 hR12 hx12 ha12 hZ0 hZ1 hZ2 hZ3 hr13 hR13 hx13 ha13 hF2n hF1n hE11 hE12 hE13 hg7Z hv hL1 hL2 hL3 hz11 hw712 g0 g1
              by_cases h200 : m = 200
              · have HA : Hid (addK st all = none) := HADD.out.trans (by rw [HDR.out]; exact addK_full hin (by rw [← HM2.out]; exact h200))
                have hm1 : (200 : Int) < (m : Int) + 1 := by omega
                clear h200
                go_wp2_with (first | (at_builtin; refine wpList_append_eq rfl _ _ _ _ rfl rfl rfl HR8.out ?_; clear HR8) | (at_builtin; refine wpList_append_eq rfl _ _ _ _ rfl rfl rfl HR9.out ?_))
                refine bodyPost_ret (v := .tuple #[.slice none 0 0, .int .i64 3]) (by simp [results, Tryz.results28, go_sem]) rfl ?_
                refine ⟨HRN.out.bl, Or.inl ⟨HRG.out.trans ?_, rfl⟩⟩
                have h9 := HN.out
                rw [show 201 - i = 200 - i + 1 by omega]
                exact HFX.out HA.out
              · have HA : Hid (addK st all = addK (st.drop (k + 1)) (all2 ++ [y])) := HADD.out.trans (by rw [HDR.out]; exact addK_new hin (by rw [← HM2.out]; exact h200))
                have hm1 : ¬ (200 : Int) < (m : Int) + 1 := by omega
                have H200 := hide h200
                clear h200
                go_wp2_with (first | (at_builtin; refine wpList_append_eq rfl _ _ _ _ rfl rfl rfl HR8.out ?_; clear HR8) | (at_builtin; refine wpList_append_eq rfl _ _ _ _ rfl rfl rfl HR9.out ?_))
                go_roundw
                case rel => exact ⟨k + 1, all2 ++ [y], by go_num, by omega, by simp; have := HM2.out; have := H200.out; omega, HA.out, by simp; omega, (fun z hz => by
                    rcases List.mem_append.1 hz with h | h
                    · exact HP2.out z h
                    · simp at h; subst h; exact HPY.out), by rw [List.map_append]; exact HRN.out, HF1N.out, HF2N.out, HEN.out⟩
                case measure => simp [intOf]; omega
          · have hke : k = st.length := by omega
            have HA : Hid (addK st all = some all2) := by
              have h := HADD.out
              rw [hke, List.drop_length] at h
              exact h
            have hsz : Below w.heap.size w wr := HR2.out.bl
            go_wp2_with fail
            go_roundw
            case rel =>
              have h9 := HN.out
              refine ⟨i + 1, all2, by go_num, by omega, hal2, HRG.out.trans ?_, HP2.out, HR2.out⟩
              rw [show 201 - i = 200 - i + 1 by omega, show 201 - (i + 1) = 200 - i by omega]
              exact HNX.out _ HA.out
            case measure => simp [intOf]; have h9 := HN.out; omega
      · have := may200 (HM.out y (HST.out x y HPX.out hy))
        omega
    · have hie : i = all.length := by omega
      have HE : Hid (rchG rs 201 0 [t] = some all) := HRG.out.trans (rchG_end hlt)
      obtain ⟨oa, oc, e1⟩ := own_shape hRow.own
      subst e1
      obtain ⟨ea, ec, e2⟩ := own_shape HR.out.es
      subst e2
      have hlt3 : ¬ (i : Int) < (all.length : Int) := by omega
      have hl8 : (all.map tx8).length ≤ 1000 := by simp; omega
      clear hRow hR
      generalize htx : all.map tx8 = tx at *
      have HTX := hide htx
      clear htx
      go_wp2_with fail
      refine (sortedTexts_any tx hl8 _ _ _ (LV.of_own HR.out.es)).mono ?_
      rintro e w7 ⟨ov, out, rfl, h1, h2, h3, hb7⟩
      go_wp2_with fail
      refine bodyPost_ret (v := .tuple #[ov, .int .i64 0]) (by simp [results, Tryz.results28, go_sem]) rfl ?_
      exact ⟨HR.out.bl.trans (hb7.mono HR.out.bl.size), Or.inr ⟨all, ov, out, HE.out, h1, (by rw [HTX.out]; exact h2), rfl, h3.mono fun _ _ _ => trivial⟩⟩
theorem step_append_eq {P : Program} {ops : Array Oper} {o : Oper} {a : Act} {K : Act → World → Prop} {Q : Exit → Act → World → Prop} {E : Prop} {w w' : World} {v u v' : Value} (hgd : o.guard = none) (s x : Operand) (t t' : TypeId)
  (ho : o.op = .call { callee := .builtin .append, args := #[s, x], argTypes := #[t, t'] }) (hs : a.eval s = v) (hx : a.eval x = u)
  (hr : (Builtin.append_ #[t, t'] o.type #[v, u]).run P w = .ok v' w') (h : K (a.put o.dst v') w') : if Region.wanted o (yielded ops a.tmps) = true then Oper.wp P o a w K Q else E := by
 have hw : Region.wanted o (yielded ops a.tmps) = true := by simp [Region.wanted, hgd]
 rw [if_pos hw]
 unfold Oper.wp execOp
 simp only [ho, resolve, invoke, builtin, Sem.run_bind, Sem.run_pure, Result.andThen_ok, List.map_toArray, List.map_cons, List.map_nil, hs, hx, hr]
 exact h
theorem own_far {w : World} {N N' T T' n m : Nat} {q u : Value} {xs ys : List Value} (h : w.ownsRow N T 1 q n xs) (h' : w.ownsRow N' T' 1 u m ys) (hT : T ≠ T') (k : Nat) (hk : q.ownBlock = some k) : u.ownBlock ≠ some k := by
 intro e
 obtain ⟨_, h⟩ := h
 obtain ⟨_, h'⟩ := h'
 rcases h with ⟨rfl, _⟩ | ⟨g, cap, cur, rfl, _, hg, _⟩
 ·simp [Value.ownBlock] at hk
 ·rcases h' with ⟨rfl, _⟩ | ⟨g', cap', cur', rfl, _, hg', _⟩
  ·simp [Value.ownBlock] at e
  ·simp [Value.ownBlock] at hk e
   subst hk; subst e
   rw [hg] at hg'; simp at hg'; exact hT hg'.2
def Ext (W W' : World) (u u' : Value) (n : Nat) : Prop :=
 (∃ g cap, u = .slice (some ⟨g, 0, none⟩) n cap ∧ u' = .slice (some ⟨g, 0, none⟩) (n + 1) cap) ∨ ((∀ k, u'.ownBlock = some k → W.heap.size ≤ k) ∧ Below W.heap.size W W')
theorem here_step {W : World} {N : Nat} {u : Value} {hs : List Int} (h : W.ownsRow N 3 1 u hs.length (hs.map fun z => .int .i64 z)) (hN : N ≤ W.heap.size) (i : Int) (F : Nat) (hF : W.heap[F]? = some (.cells #[.int .i64 i] 3 (0, 0))) (hn : hs.length ≤ 1000000) :
  ∃ u' W', (Builtin.append_ #[22, 22] 22 #[u, .slice (some ⟨F, 0, none⟩) 1 1]).run Tryz.prog W = .ok u' W' ∧ W'.ownsRow N 3 1 u' (hs ++ [i]).length ((hs ++ [i]).map fun z => .int .i64 z) ∧ W.grownBy W' u.ownBlock ∧ Ext W W' u u' hs.length := by
 obtain ⟨i0, hi, hz0, hz1, hz2⟩ := info_parts Tryz.infoInt
 have hFc : W.cell? ⟨F, 0, none⟩ = some (.int .i64 i) := by simp [World.cell?, hF]
 have hsrc : Src Tryz.prog i0.size 22 (.slice (some ⟨F, 0, none⟩) 1 1) 1 [.int .i64 i] W := by
  rw [hz1]
  refine Src.ofSlice W Tryz.underlying22 ⟨F, 0, none⟩ 1 1 _ (by simp) (fun j v hj => ?_) (by intro v hv; simp at hv; subst hv; rfl)
  match j, hj with
  | 0, hj => simp at hj; subst hj; simpa [Addr.add] using hFc
 have h' := h
 obtain ⟨hl, h1⟩ := h
 have grow : ∀ (base : Option Addr) (cap : Nat), u = .slice base hs.length cap → (Builtin.firstCells i0.size hs.length (.slice base hs.length cap)).run Tryz.prog W.drew = .ok (hs.map fun z => Value.int .i64 z).toArray W.drew → cap < hs.length + 1 → cap ≤ 1000000 → 
   ∃ u' W', (Builtin.append_ #[22, 22] 22 #[u, .slice (some ⟨F, 0, none⟩) 1 1]).run Tryz.prog W = .ok u' W' ∧ W'.ownsRow N 3 1 u' (hs ++ [i]).length ((hs ++ [i]).map fun z => .int .i64 z) ∧ W.grownBy W' u.ownBlock ∧ Ext W W' u u' hs.length := by
  intro base cap hu hfc hcap hcm
  subst hu
  have hg := run_append_grow_src (P := Tryz.prog) W 22 22 22 3 i0 (.int .i64 0) Tryz.underlying22 hi hz0 base hs.length cap _ hfc _ 1 _ hsrc (by omega) (by omega) (by rw [hz2]; exact growslice_fits (by omega) (by omega))
  have hge := grownCap_ge W (hs.length + 1) cap 3
  have hcm := grownCap_le_maxLen W (hs.length + 1) cap 3 (by unfold maxLen; omega)
  have hbl : Below W.heap.size W (W.drew.alloc (.cells (((hs.map fun z => Value.int .i64 z) ++ [Value.int .i64 i]).toArray ++ Builtin.zeroCells (Value.int .i64 0).cells (grownCap W (hs.length + 1) cap 3 - (hs.length + 1))) 3)) := ((Below.refl W.heap.size W).drew).alloc (Nat.le_refl _) _
  refine ⟨_, _, hg, ⟨by simp, Or.inr ⟨W.heap.size, _, _, by simp, hN, heap_alloc_new W.drew _, by simp; omega, hcm, ?_, ?_⟩⟩, grown_of_below hbl _, Or.inr ⟨fun k hk => ?_, hbl⟩⟩
  ·simp [Builtin.zeroCells, Value.cells]; omega
  ·rw [Array.toList_append, List.take_append_of_le_length (by simp), List.take_of_length_le (by simp)]; simp
  ·simp [Value.ownBlock] at hk; omega
 rcases h1 with ⟨hu, h0⟩ | ⟨g, cap, cur, hu, hgN, hgb, hnc, hcm, hcs, htk⟩
 ·have e : hs = [] := List.length_eq_zero_iff.1 h0
  subst e
  exact grow none 0 hu (by simp [Builtin.firstCells, go_sem]) (by simp) (by omega)
 ·by_cases hroom : hs.length + 1 ≤ cap
  ·subst hu
   simp only [Nat.mul_one] at hcs htk
   have hgl : g < W.heap.size := (h'.lt g rfl).2
   have hnz : hs.length < cur.size := by omega
   have hg := run_append_room_src (P := Tryz.prog) W 22 22 22 3 i0 Tryz.underlying22 hi g 0 hs.length cap _ 1 _ hsrc hroom (fun j hj => by simp at hj; subst hj; rw [hz1]; simp [World.cell?, hgb, hnz]) (fun j hj => by simp at hj; subst hj; rw [hz1]; simp [World.frozen?, hgb])
   rw [hz1] at hg
   simp only [World.setCells, Nat.zero_add, Nat.mul_one] at hg
   refine ⟨_, _, hg, ⟨by simp, Or.inr ⟨g, cap, cur.setIfInBounds hs.length (.int .i64 i), by simp, hgN, ?_, by simpa using hroom, hcm, by simp [hcs], ?_⟩⟩, ⟨rfl, rfl, rfl, by simp [World.setCell], fun k hk hkb => Below.heap_setCell _ _ _ _ (by simp [Value.ownBlock] at hkb; simpa using hkb)⟩, Or.inl ⟨g, cap, rfl, rfl⟩⟩
   ·simp [World.setCell, Array.getElem?_modify, hgb]
   ·simp only [Array.toList_setIfInBounds, List.length_append, List.length_singleton, Nat.mul_one, List.map_append, List.map_cons, List.map_nil]
    rw [List.take_succ_eq_append_getElem (by simpa using hnz), List.take_set_of_le (by omega), htk]
    simp
  ·exact grow (some ⟨g, 0, none⟩) cap hu (by
    have hc := h'.cells (g := g) (by rw [hu]; rfl)
    exact run_firstCells_some (P := Tryz.prog) W.drew i0.size hs.length ⟨g, 0, none⟩ hs.length cap _ (by rw [hz1]; simp) (fun j v hj => hc j v hj)) (by omega) (by omega)
def Fr2 (A : Nat) (w w' : World) (q u : Value) : Prop :=
 w'.os = w.os ∧ w'.tape = w.tape ∧ w'.output = w.output ∧ w.heap.size ≤ w'.heap.size ∧ ∀ b, b < w.heap.size → b ≠ A → some b ≠ q.ownBlock → some b ≠ u.ownBlock → w'.heap[b]? = w.heap[b]?
theorem Fr2.of_below {A : Nat} {w w' : World} (hb : Below w.heap.size w w') (q u : Value) : Fr2 A w w' q u := ⟨hb.os, hb.tape, hb.output, hb.size, fun k hk _ _ _ => hb.block k hk⟩
theorem Fr2.of_grown {A : Nat} {w w' : World} {q : Value} (hb : w.grownBy w' q.ownBlock) (u : Value) : Fr2 A w w' q u := ⟨hb.os, hb.tape, hb.output, hb.size, fun k hk _ h _ => hb.block k hk h⟩
theorem Fr2.of_grown' {A : Nat} {w w' : World} {u : Value} (hb : w.grownBy w' u.ownBlock) (q : Value) : Fr2 A w w' q u := ⟨hb.os, hb.tape, hb.output, hb.size, fun k hk _ _ h => hb.block k hk h⟩
theorem Fr2.trans {A : Nat} {w w1 w2 : World} {q q1 u u1 : Value} (h : Fr2 A w w1 q u) (h1 : Fr2 A w1 w2 q1 u1) (hq : ∀ k, q1.ownBlock = some k → q.ownBlock = some k ∨ w.heap.size ≤ k) (hu : ∀ k, u1.ownBlock = some k → u.ownBlock = some k ∨ w.heap.size ≤ k) : Fr2 A w w2 q u :=
 ⟨h1.1.trans h.1, h1.2.1.trans h.2.1, h1.2.2.1.trans h.2.2.1, Nat.le_trans h.2.2.2.1 h1.2.2.2.1, fun b hb hbA hbq hbu => (h1.2.2.2.2 b (Nat.lt_of_lt_of_le hb h.2.2.2.1) hbA
  (fun e => by rcases hq b e.symm with h2 | h2; exact hbq h2.symm; omega) (fun e => by rcases hu b e.symm with h2 | h2; exact hbu h2.symm; omega)).trans (h.2.2.2.2 b hb hbA hbq hbu)⟩
theorem Fr2.own {A : Nat} {w w' : World} {q u v : Value} {N T n : Nat} {xs : List Value} (hAN : A < N) (h : Fr2 A w w' q u) (hv : w.ownsRow N T 1 v n xs) (hq : ∀ k, v.ownBlock = some k → q.ownBlock ≠ some k) (hu : ∀ k, v.ownBlock = some k → u.ownBlock ≠ some k) : w'.ownsRow N T 1 v n xs := by
 have hlt := hv.lt
 obtain ⟨h1, h2⟩ := hv
 refine ⟨h1, h2.imp id ?_⟩
 rintro ⟨g, cap, cur, rfl, hg, hh, hr⟩
 exact ⟨g, cap, cur, rfl, hg, by rw [h.2.2.2.2 g (hlt g rfl).2 (by have := (hlt g rfl).1; omega) (fun e => hq g rfl e.symm) (fun e => hu g rfl e.symm)]; exact hh, hr⟩
def PlAt (A : Nat) (w0 : World) (N : Nat) (q0 u : Value) (hs : List Int) (Y : Nat → Prop) (ps : List (List Int)) (q : Value) (xs : List Value) (wr : World) : Prop :=
 wr.ownsRow N 22 1 q ps.length xs ∧ wr.ownsRow N 3 1 u hs.length (hs.map fun z => .int .i64 z) ∧ RowP wr (fun b => N ≤ b ∧ some b ≠ q.ownBlock ∧ some b ≠ u.ownBlock ∧ ¬ Y b) ps xs ∧ Fr2 A w0 wr q0 u ∧ (∀ k, q.ownBlock = some k → q0.ownBlock = some k ∨ w0.heap.size ≤ k)
theorem pl_ne : (22 : Nat) ≠ 3 := by decide
theorem PlAt.far {A : Nat} {w0 wr : World} {N : Nat} {q0 q u : Value} {hs : List Int} {Y : Nat → Prop} {ps : List (List Int)} {xs : List Value} (h : PlAt A w0 N q0 u hs Y ps q xs wr) (k : Nat) (hk : q.ownBlock = some k) : u.ownBlock ≠ some k := own_far h.1 h.2.1 pl_ne k hk
theorem PlAt.far' {A : Nat} {w0 wr : World} {N : Nat} {q0 q u : Value} {hs : List Int} {Y : Nat → Prop} {ps : List (List Int)} {xs : List Value} (h : PlAt A w0 N q0 u hs Y ps q xs wr) (k : Nat) (hk : u.ownBlock = some k) : q.ownBlock ≠ some k := own_far h.2.1 h.1 (Ne.symm pl_ne) k hk
theorem PlAt.later {A : Nat} {w0 w1 w2 : World} {N : Nat} {q0 q u : Value} {hs : List Int} {Y : Nat → Prop} {ps : List (List Int)} {xs : List Value} (hAN : A < N) (h : PlAt A w0 N q0 u hs Y ps q xs w1) (hb : Below w1.heap.size w1 w2) : PlAt A w0 N q0 u hs Y ps q xs w2 := by
 refine ⟨Fr2.own hAN (Fr2.of_below (A := A) hb (.slice none 0 0) (.slice none 0 0)) h.1 (by simp [Value.ownBlock]) (by simp [Value.ownBlock]), Fr2.own hAN (Fr2.of_below (A := A) hb (.slice none 0 0) (.slice none 0 0)) h.2.1 (by simp [Value.ownBlock]) (by simp [Value.ownBlock]), h.2.2.1.imp fun u z hp => hp.later hb, h.2.2.2.1.trans (Fr2.of_below hb q u) h.2.2.2.2 (fun k h => Or.inl h), h.2.2.2.2⟩
theorem PlAt.here {A : Nat} {w0 w1 : World} {N : Nat} {q0 q u : Value} {hs : List Int} {Y : Nat → Prop} {ps : List (List Int)} {xs : List Value} (h : PlAt A w0 N q0 u hs Y ps q xs w1) : PlAt A w1 N q u hs Y ps q xs w1 := ⟨h.1, h.2.1, h.2.2.1, Fr2.of_below (Below.refl _ _) _ _, fun _ h => Or.inl h⟩
theorem PlAt.push {A : Nat} {w0 wr w1 : World} {N : Nat} {q0 q u : Value} {hs : List Int} {Y : Nat → Prop} {ps : List (List Int)} {xs : List Value} (hAN : A < N) (h : PlAt A w0 N q0 u hs Y ps q xs wr) (hN : N ≤ wr.heap.size) (hY : ∀ b, Y b → b < wr.heap.size) (hb : Below wr.heap.size wr w1) {x : Value} {z : List Int} (hx : PV w1 (fun b => wr.heap.size ≤ b) x z) (hn : ps.length ≤ 1000000) (B0 : Nat) (hA : w1.heap.size = B0) :
  ∃ q' w3, (Builtin.append_ #[68, 68] 68 #[q, .slice (some ⟨B0, 0, none⟩) 1 1]).run Tryz.prog (w1.alloc (.cells #[x] 22)) = .ok q' w3 ∧ PlAt A w0 N q0 u hs Y (ps ++ [z]) q' (xs ++ [x]) w3 ∧ (w1.alloc (.cells #[x] 22)).grownBy w3 q.ownBlock := by
 subst hA
 obtain ⟨i0, hi, hz0, hz1, hz2⟩ := info_parts Tryz.infoInts
 have hb2 : Below wr.heap.size wr (w1.alloc (.cells #[x] 22)) := hb.alloc hb.size _
 have h2 := PlAt.later hAN h hb2
 have hfar := h2.far
 have hfar' := h2.far'
 have hs1 := hb.size
 have hltq := h.1.lt
 have hltu := h.2.1.lt
 obtain ⟨g, cap, w3, hr, ho, hg, hga, hgl⟩ := run_append_lies (P := Tryz.prog) (w := w1.alloc (.cells #[x] 22)) 68 68 N 22 i0 _ 1 24 Tryz.underlying68 hi hz0 hz1 hz2 rfl (by decide) q ps.length xs h2.1
  ⟨w1.heap.size, 0, none⟩ 1 1 [x] rfl (cell_one_new _ _ _) (fun y hy => by simp at hy; subst hy; exact hx.one) (by decide) (by unfold maxLen; omega) (by omega) (by simp; omega) _ rfl
 have hgu : ∀ b, some b = Value.ownBlock (.slice (some ⟨g, 0, none⟩) (ps.length + 1) cap) → q.ownBlock = some b ∨ w1.heap.size + 1 ≤ b := fun b e => by
  simp [Value.ownBlock] at e
  subst e
  rcases hga with e | e
  ·exact Or.inl e
  ·right; simp at e; omega
 have hF : Fr2 A (w1.alloc (.cells #[x] 22)) w3 q (.slice none 0 0) := Fr2.of_grown hg _
 refine ⟨_, w3, hr, ⟨by simpa using ho, Fr2.own hAN hF h2.2.1 hfar' (by simp [Value.ownBlock]), ?_, ?_, fun k hk => ?_⟩, hg⟩
 ·refine RowP.append (h.2.2.1.imp fun u' z' hp => ?_) ⟨x, [], rfl, ?_, rfl⟩
  ·refine ((hp.mono (Y := fun b => (N ≤ b ∧ some b ≠ q.ownBlock ∧ some b ≠ u.ownBlock ∧ ¬ Y b) ∧ b < wr.heap.size) fun b h1 h2 => ⟨h1, h2⟩).kept (w' := w3) fun b hx => ?_).mono fun b hx _ => ⟨hx.1.1, fun e => ?_, hx.1.2.2⟩
   ·rw [hg.block b (by simp; omega) hx.1.2.1, hb2.block b hx.2]
   ·rcases hgu b e with e | e
    ·exact hx.1.2.1 e.symm
    ·omega
  ·refine ((hx.mono (Y := fun b => wr.heap.size ≤ b ∧ b < w1.heap.size) fun b h1 h2 => ⟨h1, h2⟩).kept (w' := w3) fun b hx => ?_).mono fun b hx _ => ⟨by omega, fun e => ?_, fun e => ?_, fun e => ?_⟩
   ·rw [hg.block b (by simp; omega) (fun e => by have := (hltq b e.symm).2; omega), Below.heap_alloc _ _ _ hx.2]
   ·rcases hgu b e with e | e
    ·have := (hltq b e).2; omega
    ·omega
   ·have := (hltu b e.symm).2; omega
   ·have := hY b e; omega
 ·exact h2.2.2.2.1.trans (Fr2.of_grown hg u) h2.2.2.2.2 (fun k h => Or.inl h)
 ·rcases hgu k hk.symm with e | e
  ·exact h.2.2.2.2 k e
  ·right; have := h.2.2.2.1.2.2.2.1; omega
theorem PlAt.store {A : Nat} {w0 wr : World} {N : Nat} {q0 q u : Value} {hs : List Int} {Y : Nat → Prop} {ps : List (List Int)} {xs : List Value} (hAN : A < N) (h : PlAt A w0 N q0 u hs Y ps q xs wr) (v : Value) : PlAt A w0 N q0 u hs Y ps q xs (wr.setCell ⟨A, 0, none⟩ v) := by
 have hf : Fr2 A wr (wr.setCell ⟨A, 0, none⟩ v) (.slice none 0 0) (.slice none 0 0) := ⟨rfl, rfl, rfl, by simp [World.setCell], fun b hb hA _ _ => Below.heap_setCell _ _ _ _ (by simpa using hA)⟩
 refine ⟨Fr2.own hAN hf h.1 (by simp [Value.ownBlock]) (by simp [Value.ownBlock]), Fr2.own hAN hf h.2.1 (by simp [Value.ownBlock]) (by simp [Value.ownBlock]), h.2.2.1.imp fun x z hp => hp.kept fun b hb => Below.heap_setCell _ _ _ _ (by have := hb.1; simp; omega), h.2.2.2.1.trans hf (by simp [Value.ownBlock]) (by simp [Value.ownBlock]), h.2.2.2.2⟩
theorem here_back {A : Nat} {W W' W'' : World} {N : Nat} {q u u' : Value} {hs : List Int} {i : Int} (hAN : A < N) (h : W.ownsRow N 3 1 u hs.length (hs.map fun z => .int .i64 z)) (hg : W.grownBy W' u.ownBlock) (he : Ext W W' u u' hs.length) (h' : W''.ownsRow N 3 1 u' (hs ++ [i]).length ((hs ++ [i]).map fun z => .int .i64 z)) (hf : Fr2 A W' W'' q u') (hq : ∀ k, u.ownBlock = some k → q.ownBlock ≠ some k) :
  W''.ownsRow N 3 1 u hs.length (hs.map fun z => .int .i64 z) := by
 rcases he with ⟨g, cap, rfl, rfl⟩ | ⟨hnew, hbl⟩
 ·obtain ⟨_, h1⟩ := h
  obtain ⟨_, h2⟩ := h'
  rcases h1 with ⟨h1, _⟩ | ⟨g1, cap1, cur1, h1, hN, _, hnc, hcm, _, _⟩
  ·simp at h1
  ·rcases h2 with ⟨h2, _⟩ | ⟨g2, cap2, cur2, h2, _, hh, _, _, hcs, htk⟩
   ·simp at h2
   ·simp at h1 h2
    obtain ⟨rfl, rfl⟩ := h1
    obtain ⟨rfl, rfl⟩ := h2
    refine ⟨by simp, Or.inr ⟨g, cap, cur2, rfl, hN, hh, hnc, hcm, hcs, ?_⟩⟩
    have h3 := congrArg (List.take hs.length) htk
    rw [List.take_take] at h3
    simpa [List.take_append_of_le_length, Nat.min_eq_left] using h3
 ·have hlt := h.lt
  exact Fr2.own hAN ((Fr2.of_below hbl q u').trans hf (fun k h => Or.inl h) (fun k h => Or.inl h)) h hq (fun k hk e => by have := hnew k e; have := (hlt k hk).2; omega)
theorem PlAt.down {A : Nat} {w0 wr W W' : World} {N : Nat} {q0 q u u' : Value} {hs : List Int} {Y : Nat → Prop} {ps : List (List Int)} {xs : List Value} {i : Int} (hAN : A < N) (h : PlAt A w0 N q0 u hs Y ps q xs wr) (hb : Below wr.heap.size wr W) (h' : W'.ownsRow N 3 1 u' (hs ++ [i]).length ((hs ++ [i]).map fun z => .int .i64 z)) (hg : W.grownBy W' u.ownBlock) (he : Ext W W' u u' hs.length) :
  PlAt A W' N q u' (hs ++ [i]) (fun b => b < wr.heap.size ∧ (Y b ∨ some b = u.ownBlock)) ps q xs W' := by
 have h2 := PlAt.later hAN h hb
 have hltu := h.2.1.lt
 have hs1 := hb.size
 have hu : ∀ b, b < wr.heap.size → some b = u'.ownBlock → some b = u.ownBlock := fun b hb e => by
  rcases he with ⟨g, cap, rfl, rfl⟩ | ⟨hnew, _⟩
  ·simpa [Value.ownBlock] using e
  ·have := hnew b e.symm; omega
 refine ⟨Fr2.own hAN (Fr2.of_grown' (A := A) hg (.slice none 0 0)) h2.1 (by simp [Value.ownBlock]) h2.far, h', h.2.2.1.imp fun x z hp => ?_, Fr2.of_below (Below.refl _ _) _ _, fun _ h => Or.inl h⟩
 refine ((hp.mono (Y := fun b => (N ≤ b ∧ some b ≠ q.ownBlock ∧ some b ≠ u.ownBlock ∧ ¬ Y b) ∧ b < wr.heap.size) fun b h1 h2 => ⟨h1, h2⟩).kept (w' := W') fun b hx => ?_).mono fun b hx _ => ⟨hx.1.1, hx.1.2.1, fun e => hx.1.2.2.1 (hu b hx.2 e), fun e => ?_⟩
 ·rw [hg.block b (by omega) hx.1.2.2.1, hb.block b hx.2]
 ·rcases e.2 with e | e
  ·exact hx.1.2.2.2 e
  ·exact hx.1.2.2.1 e
theorem PlAt.up {A : Nat} {w0 wr W W' W'' : World} {N : Nat} {q0 q q' u u' : Value} {hs : List Int} {Y : Nat → Prop} {ps ps' : List (List Int)} {xs xs' : List Value} {i : Int} (hAN : A < N) (h : PlAt A w0 N q0 u hs Y ps q xs wr) (hY : ∀ b, Y b → b < wr.heap.size) (hb : Below wr.heap.size wr W) (hg : W.grownBy W' u.ownBlock) (he : Ext W W' u u' hs.length)
  (h' : PlAt A W' N q u' (hs ++ [i]) (fun b => b < wr.heap.size ∧ (Y b ∨ some b = u.ownBlock)) ps' q' xs' W'') : PlAt A w0 N q0 u hs Y ps' q' xs' W'' := by
 have h2 := PlAt.later hAN h hb
 have hltu := h.2.1.lt
 have hs1 := hb.size
 have hs2 := hg.size
 have hs0 := h.2.2.2.1.2.2.2.1
 have hext : ∀ k, u'.ownBlock = some k → u.ownBlock = some k ∨ W.heap.size ≤ k := fun k hk => by
  rcases he with ⟨g, cap, rfl, rfl⟩ | ⟨hnew, _⟩
  ·exact Or.inl hk
  ·exact Or.inr (hnew k hk)
 refine ⟨h'.1, here_back hAN h2.2.1 hg he h'.2.1 h'.2.2.2.1 h2.far', h'.2.2.1.imp fun x z hp => hp.mono fun b hx _ => ⟨hx.1, hx.2.1, fun e => hx.2.2.2 ⟨(hltu b e.symm).2, Or.inr e⟩, fun e => hx.2.2.2 ⟨hY b e, Or.inl e⟩⟩, ?_, fun k hk => ?_⟩
 ·exact h2.2.2.2.1.trans ((Fr2.of_grown' hg q).trans h'.2.2.2.1 (fun k h => Or.inl h) hext) h2.2.2.2.2 (fun k h => Or.inl h)
 ·rcases h'.2.2.2.2 k hk with e | e
  ·exact h.2.2.2.2 k e
  ·right; omega
abbrev Dn := List Int × Tm
def hdN (q : List Int) : Nat := (q.headD 0).toNat
def dnL : List Int → Nat → Nat → List Int → List Tm → List Dn
 | _, _, _, _, [] => []
 | hs, j, st, r, ⟨s, l⟩ :: rest => (if j < st then [] else (hs ++ [(j : Int)], ⟨s, l⟩) :: dnL (hs ++ [(j : Int)]) 0 (hdN (if j = st then r else [])) (if j = st then r else []).tail l) ++ dnL hs (j + 1) st r rest
def dnT (hs fs : List Int) (t : Tm) : List Dn := (hs, t) :: dnL hs 0 (hdN fs) fs.tail t.args
theorem dnL_cons (hs : List Int) (j st : Nat) (r : List Int) (t : Tm) (rest : List Tm) : dnL hs j st r (t :: rest) = (if j < st then [] else dnT (hs ++ [(j : Int)]) (if j = st then r else []) t) ++ dnL hs (j + 1) st r rest := by
 obtain ⟨s, l⟩ := t
 rw [dnL]
 rfl
theorem dnL_append (hs : List Int) (st : Nat) (r : List Int) (a b : List Tm) : ∀ j, dnL hs j st r (a ++ b) = dnL hs j st r a ++ dnL hs (j + a.length) st r b := by
 induction a with
 | nil => intro j; simp [dnL]
 | cons t a ih =>
  intro j
  rw [List.cons_append, dnL_cons, dnL_cons, ih, List.append_assoc, List.length_cons]
  congr 3
  omega
theorem dnL_take (hs : List Int) (st : Nat) (r : List Int) (l : List Tm) (k : Nat) (h : k < l.length) (hst : st ≤ k) : dnL hs 0 st r (l.take (k + 1)) = dnL hs 0 st r (l.take k) ++ dnT (hs ++ [(k : Int)]) (if k = st then r else []) l[k] := by
 rw [List.take_succ_eq_append_getElem h, dnL_append, dnL_cons]
 have e : 0 + (l.take k).length = k := by rw [List.length_take]; omega
 rw [e, if_neg (by omega)]
 simp [dnL]
theorem dnL_before (hs : List Int) (st : Nat) (r : List Int) : ∀ (l : List Tm) (j : Nat), j + l.length ≤ st → dnL hs j st r l = []
 | [], _, _ => by simp [dnL]
 | t :: l, j, h => by
  rw [dnL_cons, dnL_before hs st r l (j + 1) (by simp at h; omega), if_pos (by simp at h; omega)]
  rfl
theorem plc_dn {β : Type} (g : List Int → Tm → List β) : ∀ (l : List Tm) (hs : List Int) (j : Nat) (G : List Int → List β), (∀ k p x, (h : k < l.length) → atT l[k] p = some x → G (((j + k : Nat) : Int) :: p) = g (hs ++ (((j + k : Nat) : Int) :: p)) x) → (dnL hs j 0 [] l).flatMap (fun d => g d.1 d.2) = (plcL j l).flatMap G := by
 intro l
 induction l using Tm.indL with
 | h0 => intro hs j G h; simp [dnL, plcL]
 | h s l rest ih1 ih2 =>
  intro hs j G h
  have h1 : (dnT (hs ++ [(j : Int)]) [] ⟨s, l⟩).flatMap (fun d => g d.1 d.2) = (plcT (⟨s, l⟩ : Tm)).flatMap fun p => G ((j : Int) :: p) := by
   unfold dnT plcT
   rw [List.flatMap_cons, List.flatMap_cons]
   congr 1
   ·have := h 0 [] ⟨s, l⟩ (by simp) rfl
    simpa using this.symm
   ·refine ih1 (hs ++ [(j : Int)]) 0 _ fun k p x hk hx => ?_
    have := h 0 (((0 + k : Nat) : Int) :: p) x (by simp) (by
     simp only [List.getElem_cons_zero, atT]
     have e : ((0 + k : Nat) : Int).toNat = k := by omega
     rw [dif_pos ⟨by omega, by rw [e]; exact hk⟩]
     simp only [e]
     exact hx)
    simpa using this
  rw [dnL_cons, plcL_cons, List.flatMap_append, List.flatMap_append, List.flatMap_map]
  congr 1
  ·rw [if_neg (by omega)]
   have e : (if j = 0 then ([] : List Int) else []) = [] := by split <;> rfl
   rw [e]
   exact h1
  ·refine ih2 hs (j + 1) G fun k p x hk hx => ?_
   have := h (k + 1) p x (by simp; omega) (by simpa using hx)
   have e : ((j + (k + 1) : Nat) : Int) = ((j + 1 + k : Nat) : Int) := by omega
   rw [e] at this
   exact this
theorem plc_dnT {β : Type} (g : List Int → Tm → List β) (t : Tm) (G : List Int → List β) (h : ∀ p x, atT t p = some x → G p = g p x) : (dnT [] [] t).flatMap (fun d => g d.1 d.2) = (plcT t).flatMap G := by
 unfold dnT plcT
 rw [List.flatMap_cons, List.flatMap_cons]
 congr 1
 ·exact (h [] t rfl).symm
 ·refine plc_dn g t.args [] 0 G fun k p x hk hx => ?_
  refine h _ _ ?_
  have e : ((0 + k : Nat) : Int).toNat = k := by omega
  simp only [atT]
  rw [dif_pos ⟨by omega, by rw [e]; exact hk⟩]
  simp only [e]
  exact hx
theorem here_backQ {W W' W'' : World} {N : Nat} {u u' : Value} {hs : List Int} {i : Int} {Q : Nat → Prop} (h : W.ownsRow N 3 1 u hs.length (hs.map fun z => .int .i64 z)) (hg : W.grownBy W' u.ownBlock) (he : Ext W W' u u' hs.length) (h' : W''.ownsRow N 3 1 u' (hs ++ [i]).length ((hs ++ [i]).map fun z => .int .i64 z)) (hf : ExQ Q W' W'') (hq : ∀ k, u.ownBlock = some k → u'.ownBlock ≠ some k → ¬ Q k) :
  W''.ownsRow N 3 1 u hs.length (hs.map fun z => .int .i64 z) := by
 rcases he with ⟨g, cap, rfl, rfl⟩ | ⟨hnew, hbl⟩
 ·obtain ⟨_, h1⟩ := h
  obtain ⟨_, h2⟩ := h'
  rcases h1 with ⟨h1, _⟩ | ⟨g1, cap1, cur1, h1, hN, _, hnc, hcm, _, _⟩
  ·simp at h1
  ·rcases h2 with ⟨h2, _⟩ | ⟨g2, cap2, cur2, h2, _, hh, _, _, hcs, htk⟩
   ·simp at h2
   ·simp at h1 h2
    obtain ⟨rfl, rfl⟩ := h1
    obtain ⟨rfl, rfl⟩ := h2
    refine ⟨by simp, Or.inr ⟨g, cap, cur2, rfl, hN, hh, hnc, hcm, hcs, ?_⟩⟩
    have h3 := congrArg (List.take hs.length) htk
    rw [List.take_take] at h3
    simpa [List.take_append_of_le_length, Nat.min_eq_left] using h3
 ·have hlt := h.lt
  refine ownsRow_at h fun g hk => ?_
  have hl := (hlt g hk).2
  have hs2 := hbl.size
  rw [hf.block g (by omega) (hq g hk (fun e => by have := hnew g e; omega)), hbl.block g hl]
open Go.RowKit Go.Shelf
def rndPost (l : Nat) (r rb rd : Loop) (Post : Bool → World → Prop) : Exit → Act → World → Prop
 | .normal, _, w3 => w3.heap[l]? = some (.loop rb) ∧ Post true (w3.putObj l (.loop r))
 | .ret, _, w3 => w3.heap[l]? = some (.loop rb) ∧ Post false (w3.putObj l (.loop rd))
 | _, _, _ => False
theorem yield_two {P : Program} {n l : Nat} {r : Loop} {args : Array Value} {W : World} {Post : Bool → World → Prop} {assign body : Code} {ps : Array Tmp} {tmps : Array Value} {rb rd : Loop} (hrbz : rb = { r with state := .busy }) (hrdz : rd = { r with state := .done, pending := some .ret }) (hra : r.assign = assign) (hrb : r.body = body) (hrp : r.params = ps) (hrt : r.tmps = tmps) (hl : W.heap[l]? = some (.loop r)) (hr : r.state = .ready) (hp0 : r.pending = none) (hps : args.size = ps.size)
  (h : assign.wpIn (Fence.wide.inRound l) n P (Exit.then (fun a₁ w₁ => w₁.heap[l]? = some (.loop r) ∧ body.wpIn (Fence.wide.inRound l) n P (rndPost l r rb rd Post) a₁ (w₁.putObj l (.loop rb))) (fun _ _ _ => False)) { tmps := (ps.zip args).foldl (fun t (p, v) => t.setIfInBounds p v) tmps, defers := [] } W) :
  YieldAt Fence.wide n P l args W fun e W' => ∃ s, e = .returned (.bool s) ∧ Post s W' := by
 subst hrbz; subst hrdz; subst hra; subst hrb; subst hrp; subst hrt
 refine ⟨r.fn, _, r.assign, r.body, run_yield hl hps, roundIn_of_wpIn trivial (wpIn_mono h ?_)⟩
 rintro e a w1 hp
 cases e with
 | normal =>
  obtain ⟨h1, h2⟩ := hp
  refine ⟨_, run_beginRound h1 hr, wpIn_mono h2 ?_⟩
  rintro e3 a3 w3 h3
  cases e3 with
  | normal =>
   obtain ⟨h3, h4⟩ := h3
   refine ⟨_, _, run_endRound none h3, true, rfl, ?_⟩
   have e4 : ({ r with state := .ready, pending := none } : Loop) = r := by
    obtain ⟨_, _, _, _, _, _, _, _⟩ := r
    simp at hr hp0
    subst hr; subst hp0
    rfl
   have e5 : ({ ({ r with state := .busy } : Loop) with state := if (none : Option Code).isNone then .ready else .done, pending := none } : Loop) = r := by rw [← e4]; rfl
   rw [e5]
   exact h4
  | ret =>
   obtain ⟨h3, h4⟩ := h3
   exact ⟨_, _, run_endRound (some .ret) h3, false, rfl, h4⟩
  | exit id => exact h3.elim
  | goto t => exact h3.elim
  | panic c => exact h3.elim
  | outgrown => exact h3.elim
 | ret => exact hp.elim
 | exit id => exact hp.elim
 | goto t => exact hp.elim
 | panic c => exact hp.elim
 | outgrown => exact hp.elim
theorem wp_range2 {P : Program} {n : Nat} {g : Operand} {ps : Array Tmp} {assign body : Code} {Q : Exit → Act → World → Prop} {a : Act} {w : World} {gf : Nat} {lb : Array Value} (hg : a.eval g = .func (.func gf) #[] lb) (eg : ∀ args w, (callFunc gf args).run P w = .ok (.enter gf args) w)
  (h : ∀ (r : Loop), r.state = .ready → r.pending = none → r.tmps = a.tmps → r.params = ps → r.assign = assign → r.body = body → 
   Calls P gf (#[.func (.yield (w.heap.size + 1)) #[] #[]] ++ lb) ((w.alloc (.deferred (some []))).alloc (.loop r)) fun e W => (∃ v, e = .returned v) ∧ ((W.heap[w.heap.size + 1]? = some (.loop r) ∧ Q .normal { a with defers := { target := .collected w.heap.size, args := #[] } :: a.defers } (W.putObj (w.heap.size + 1) (.loop { r with state := .exhausted }))) ∨
    (W.heap[w.heap.size + 1]? = some (.loop { r with state := .done, pending := some .ret }) ∧ Q .ret { a with defers := { target := .collected w.heap.size, args := #[] } :: a.defers } (W.putObj (w.heap.size + 1) (.loop { r with state := .exhausted, pending := some .ret }))))) :
  (Code.rangeFunc g ps assign body).wpIn Fence.wide n P Q a w := by
 refine wpIn_rangeFunc ?_
 intro fn hfn
 obtain ⟨r, hr⟩ : ∃ r : Loop, r = { state := .ready, pending := none, fn, tmps := a.tmps, params := ps, assign, body, defers := w.heap.size } := ⟨_, rfl⟩
 refine ⟨w.heap.size + 1, [{ target := .collected w.heap.size, args := #[] }], (w.alloc (.deferred (some []))).alloc (.loop r), { target := .fn (.func gf) lb, args := #[.func (.yield (w.heap.size + 1)) #[] #[]] }, (w.alloc (.deferred (some []))).alloc (.loop r), gf, #[.func (.yield (w.heap.size + 1)) #[] #[]] ++ lb, (w.alloc (.deferred (some []))).alloc (.loop r), ?_, ?_, ?_, ?_, ?_, ?_⟩
 ·rw [hr]; exact run_enterLoop_outer _ _ _ _ _
 ·simp only [resolve, hg]
  simp [go_sem]
 ·intro f' hf'; trivial
 ·simp [invoke, go_sem, eg]
 ·intro h; simp [Fence.wide] at h
 ·refine (callsIn_wide.2 (h r (by rw [hr]) (by rw [hr]) (by rw [hr]) (by rw [hr]) (by rw [hr]) (by rw [hr]))).mono ?_
  rintro e W ⟨⟨v, rfl⟩, hc⟩
  rcases hc with ⟨hl, hq⟩ | ⟨hl, hq⟩
  ·have e1 := run_endLoop (P := P) hl (by rw [hr]; simp)
   have e2 : r.pending = none := by rw [hr]
   exact ⟨none, _, e1.trans (by rw [e2]), hq⟩
  ·have e1 := run_endLoop (P := P) hl (by simp)
   exact ⟨some .ret, _, e1, wpIn_ret hq⟩
theorem wp_rangeN {P : Program} {n : Nat} {g : Operand} {ps : Array Tmp} {assign body : Code} {Q : Exit → Act → World → Prop} {a : Act} {w : World} {l₀ : Nat} {r₀ : Loop} (hl₀ : w.heap[l₀]? = some (.loop r₀)) {gf : Nat} {lb : Array Value} (hg : a.eval g = .func (.func gf) #[] lb) (eg : ∀ args w, (callFunc gf args).run P w = .ok (.enter gf args) w)
  (h : ∀ (r : Loop), r.state = .ready → r.pending = none → r.tmps = a.tmps → r.params = ps → r.assign = assign → r.body = body → 
   Calls P gf (#[.func (.yield w.heap.size) #[] #[]] ++ lb) (w.alloc (.loop r)) fun e W => (∃ v, e = .returned v) ∧ ((W.heap[w.heap.size]? = some (.loop r) ∧ Q .normal a (W.putObj w.heap.size (.loop { r with state := .exhausted }))) ∨
    (W.heap[w.heap.size]? = some (.loop { r with state := .done, pending := some .ret }) ∧ Q .ret a (W.putObj w.heap.size (.loop { r with state := .exhausted, pending := some .ret }))))) :
  (Code.rangeFunc g ps assign body).wpIn (Fence.wide.inRound l₀) n P Q a w := by
 refine wpIn_rangeFunc ?_
 intro fn hfn
 obtain ⟨r, hr⟩ : ∃ r : Loop, r = { state := .ready, pending := none, fn, tmps := a.tmps, params := ps, assign, body, defers := r₀.defers } := ⟨_, rfl⟩
 refine ⟨w.heap.size, [], w.alloc (.loop r), { target := .fn (.func gf) lb, args := #[.func (.yield w.heap.size) #[] #[]] }, w.alloc (.loop r), gf, #[.func (.yield w.heap.size) #[] #[]] ++ lb, w.alloc (.loop r), ?_, ?_, ?_, ?_, ?_, ?_⟩
 ·rw [hr]; exact run_enterLoop_inner hl₀ _ _ _ _ _
 ·simp only [resolve, hg]
  simp [go_sem]
 ·intro f' hf'; trivial
 ·simp [invoke, go_sem, eg]
 ·intro h; simp [Fence.wide] at h
 ·refine (CallsIn.inRound l₀ (callsIn_wide.2 (h r (by rw [hr]) (by rw [hr]) (by rw [hr]) (by rw [hr]) (by rw [hr]) (by rw [hr])))).mono ?_
  rintro e W ⟨⟨v, rfl⟩, hc⟩
  rcases hc with ⟨hl, hq⟩ | ⟨hl, hq⟩
  ·have e1 := run_endLoop (P := P) hl (by rw [hr]; simp)
   have e2 : r.pending = none := by rw [hr]
   exact ⟨none, _, e1.trans (by rw [e2]), hq⟩
  ·have e1 := run_endLoop (P := P) hl (by simp)
   exact ⟨some .ret, _, e1, wpIn_ret hq⟩
abbrev Tk (α : Type) := List α → Bool → (Nat → Prop) → World → Prop
structure TkOk {α : Type} (J : Tk α) (K : Nat → Prop) : Prop where
 inside : ∀ {pre s f W}, J pre s f W → ∀ b, f b ∨ K b → b < W.heap.size
 apart : ∀ {pre s f W}, J pre s f W → ∀ b, K b → ¬ f b
 abide : ∀ {pre s f W W'}, J pre s f W → W.heap.size ≤ W'.heap.size → (∀ b, f b ∨ K b → W'.heap[b]? = W.heap[b]?) → J pre s f W'
theorem TkOk.exq {α : Type} {J : Tk α} {K : Nat → Prop} (h : TkOk J K) {pre : List α} {s : Bool} {f g : Nat → Prop} {W W' : World} (hj : J pre s f W) (he : ExQ g W W') (hg : ∀ b, f b ∨ K b → ¬ g b) : J pre s f W' :=
 h.abide hj he.size fun b hb => he.block b (h.inside hj b hb) (hg b hb)
def Rnd {α : Type} (lp : Nat) (L : α → Array Value → World → (Nat → Prop) → Prop) (J : Tk α) (all : List α) : Prop :=
 ∀ (n : Nat) (pre : List α) (x : α) (args : Array Value) (Z f : Nat → Prop) (W : World), (pre ++ [x]) <+: all → J pre true f W → L x args W Z → (∀ b, Z b → b < W.heap.size ∧ ¬ f b) →
  YieldAt Fence.wide n Tryz.prog lp args W fun e W' => ∃ s, e = .returned (.bool s) ∧ ∃ f', J (pre ++ [x]) s f' W' ∧ ExQ f W W' ∧ ∀ b, f' b → f b ∨ W.heap.size ≤ b
def IfNo (s : Bool) (P : Prop) : Prop := s = false → P
def RndS {α : Type} (lp : Nat) (L : α → Array Value → World → (Nat → Prop) → Prop) (J : Tk α) (all : List α) (S : World → Prop) : Prop :=
 ∀ (n : Nat) (pre : List α) (x : α) (args : Array Value) (Z f : Nat → Prop) (W : World), (pre ++ [x]) <+: all → J pre true f W → L x args W Z → (∀ b, Z b → b < W.heap.size ∧ ¬ f b) →
  YieldAt Fence.wide n Tryz.prog lp args W fun e W' => ∃ s, e = .returned (.bool s) ∧ ∃ f', J (pre ++ [x]) s f' W' ∧ ExQ f W W' ∧ (∀ b, f' b → f b ∨ W.heap.size ≤ b) ∧ IfNo s (S W')
def StopOk (S : World → Prop) : Prop := ∀ (W W' : World), S W → W.heap.size ≤ W'.heap.size → (∀ b, b < W.heap.size → W'.heap[b]? = W.heap[b]? ∨ (∃ r, W.heap[b]? = some (.loop r)) ∨ ∃ d, W.heap[b]? = some (.deferred d)) → S W'
theorem StopOk.put {S : World → Prop} (h : StopOk S) {W : World} (hs : S W) {l : Nat} {r : Loop} (hl : W.heap[l]? = some (.loop r)) (o : Obj) : S (W.putObj l o) :=
 h _ _ hs (by simp) fun b hb => by
  by_cases e : b = l
  ·subst e; exact Or.inr (Or.inl ⟨r, hl⟩)
  ·exact Or.inl (World.putObj_heap_other e)
theorem StopOk.putD {S : World → Prop} (h : StopOk S) {W : World} (hs : S W) {l : Nat} {d : Option (List Deferred)} (hl : W.heap[l]? = some (.deferred d)) (o : Obj) : S (W.putObj l o) :=
 h _ _ hs (by simp) fun b hb => by
  by_cases e : b = l
  ·subst e; exact Or.inr (Or.inr ⟨d, hl⟩)
  ·exact Or.inl (World.putObj_heap_other e)
theorem StopOk.triv : StopOk fun _ => True := fun _ _ _ _ _ => trivial
theorem Rnd.toS {α : Type} {lp : Nat} {L : α → Array Value → World → (Nat → Prop) → Prop} {J : Tk α} {all : List α} (h : Rnd lp L J all) : RndS lp L J all (fun _ => True) := by
 intro n pre x args Z f W h1 h2 h3 h4
 obtain ⟨hfn, htmps, hasg, hbody, hy, hR⟩ := h n pre x args Z f W h1 h2 h3 h4
 refine ⟨hfn, htmps, hasg, hbody, hy, RoundIn.mono hR ?_⟩
 rintro e W' ⟨s, he, f', a, b, c⟩
 exact ⟨s, he, f', a, b, c, fun _ => trivial⟩
def Went {α : Type} (J : Tk α) (all pre : List α) (f g : Nat → Prop) (W : World) (s : Bool) (W' : World) : Prop :=
 ∃ (m : Nat) (f' : Nat → Prop), m ≤ all.length ∧ (s = true → m = all.length) ∧ J (pre ++ all.take m) s f' W' ∧ ExQ (fun b => f b ∨ g b) W W' ∧ ∀ b, f' b → f b ∨ W.heap.size ≤ b
theorem Went.nil {α : Type} {J : Tk α} {pre : List α} {f g : Nat → Prop} {W : World} (h : J pre true f W) : Went J [] pre f g W true W :=
 ⟨0, f, Nat.le_refl _, fun _ => rfl, by simpa using h, ExQ.refl _ _, fun b hb => Or.inl hb⟩
theorem Went.one {α : Type} {J : Tk α} {pre : List α} {x : α} {f f' g : Nat → Prop} {W W' : World} {s : Bool} (h : J (pre ++ [x]) s f' W') (he : ExQ f W W') (hf : ∀ b, f' b → f b ∨ W.heap.size ≤ b) : Went J [x] pre f g W s W' :=
 ⟨1, f', by simp, fun _ => rfl, by simpa using h, he.mono fun b hb _ => Or.inl hb, hf⟩
theorem Went.end_true {α : Type} {J : Tk α} {all pre : List α} {f g : Nat → Prop} {W W' : World} (h : Went J all pre f g W true W') : ∃ f', J (pre ++ all) true f' W' ∧ ExQ (fun b => f b ∨ g b) W W' ∧ ∀ b, f' b → f b ∨ W.heap.size ≤ b := by
 obtain ⟨m, f', hm, hs, hj, he, hf⟩ := h
 obtain rfl := hs rfl
 exact ⟨f', by simpa using hj, he, hf⟩
theorem Went.trans {α : Type} {J : Tk α} {a1 a2 pre : List α} {f f1 g g2 : Nat → Prop} {W W1 W2 : World} {s : Bool} (hj : J (pre ++ a1) true f1 W1) (he : ExQ (fun b => f b ∨ g b) W W1) (hf : ∀ b, f1 b → f b ∨ W.heap.size ≤ b) (h : Went J a2 (pre ++ a1) f1 g2 W1 s W2) (hg : ∀ b, g2 b → g b ∨ W.heap.size ≤ b) : Went J (a1 ++ a2) pre f g W s W2 := by
 obtain ⟨m, f', hm, hs, hj2, he2, hf2⟩ := h
 refine ⟨a1.length + m, f', by simp; omega, fun h => by simp [hs h], ?_, he.transN he2 ?_, ?_⟩
 ·rw [List.take_append, List.take_of_length_le (by omega)]
  simpa [List.append_assoc] using hj2
 ·rintro i hi hl
  rcases hi with hi | hi
  ·rcases hf i hi with h | h
   ·exact Or.inl h
   ·omega
  ·rcases hg i hi with h | h
   ·exact Or.inr h
   ·omega
 ·intro b hb
  have := he.size
  rcases hf2 b hb with h | h
  ·exact hf b h
  ·right; omega
theorem Went.stop {α : Type} {J : Tk α} {a1 a2 pre : List α} {f g : Nat → Prop} {W W' : World} (h : Went J a1 pre f g W false W') : Went J (a1 ++ a2) pre f g W false W' := by
 obtain ⟨m, f', hm, hs, hj, he, hf⟩ := h
 exact ⟨m, f', by simp; omega, by simp, by rw [List.take_append_of_le_length hm]; exact hj, he, hf⟩
theorem Went.mono {α : Type} {J : Tk α} {a pre : List α} {f g g' : Nat → Prop} {W W' : World} {s : Bool} (h : Went J a pre f g W s W') (hg : ∀ b, g b → b < W.heap.size → g' b) : Went J a pre f g' W s W' := by
 obtain ⟨m, f', hm, hs, hj, he, hf⟩ := h
 exact ⟨m, f', hm, hs, hj, he.mono fun b hb hl => hb.imp id (fun h => hg b h hl), hf⟩
theorem Went.exq {α : Type} {J : Tk α} {a pre : List α} {f g : Nat → Prop} {W W' : World} {s : Bool} (h : Went J a pre f g W s W') : ExQ (fun b => f b ∨ g b) W W' := by
 obtain ⟨_, _, _, _, _, he, _⟩ := h
 exact he
theorem Went.from {α : Type} {J : Tk α} {a pre : List α} {f g g' : Nat → Prop} {W0 W W' : World} {s : Bool} (h : Went J a pre f g W s W') (he : ExQ g' W0 W) (hg : ∀ b, g b → g' b ∨ W0.heap.size ≤ b) : Went J a pre f g' W0 s W' := by
 obtain ⟨m, f', hm, hs, hj, he2, hf⟩ := h
 refine ⟨m, f', hm, hs, hj, (he.mono (R := fun b => f b ∨ g' b) fun b hb _ => Or.inr hb).transN he2 ?_, fun b hb => ?_⟩
 ·rintro i hi hl
  rcases hi with hi | hi
  ·exact Or.inl hi
  ·rcases hg i hi with h | h
   ·exact Or.inr h
   ·omega
 ·have := he.size
  rcases hf b hb with h | h
  ·exact Or.inl h
  ·right; omega
def WentS {α : Type} (J : Tk α) (all pre : List α) (f : Nat → Prop) (S : World → Prop) (w : World) (e : Ending) (w' : World) : Prop :=
 (∃ v, e = .returned v) ∧ ∃ b, Went J all pre f (fun _ => False) w b w' ∧ IfNo b (S w')
attribute [local go_sem] Oper.semAt_some
theorem step_here {ops : Array Oper} {o : Oper} {a : Act} {K : Act → World → Prop} {Q : Exit → Act → World → Prop} {E : Prop} {W : World} {N : Nat} {u : Value} {hs : List Int} (hgd : o.guard = none) (s x : Operand)
  (ho : o.op = .call { callee := .builtin .append, args := #[s, x], argTypes := #[22, 22] }) (hty : o.type = 22) (hs' : a.eval s = u) (i : Int) (F : Nat) (hx : a.eval x = .slice (some ⟨F, 0, none⟩) 1 1)
  (h : W.ownsRow N 3 1 u hs.length (hs.map fun z => .int .i64 z)) (hN : N ≤ W.heap.size) (hF : W.heap[F]? = some (.cells #[.int .i64 i] 3 (0, 0))) (hn : hs.length ≤ 1000000)
  (hk : ∀ u' W', W'.ownsRow N 3 1 u' (hs ++ [i]).length ((hs ++ [i]).map fun z => .int .i64 z) → W.grownBy W' u.ownBlock → Ext W W' u u' hs.length → K (a.put o.dst u') W') : if Region.wanted o (yielded ops a.tmps) = true then Oper.wp Tryz.prog o a W K Q else E := by
 obtain ⟨u', W', hr, h1, h2, h3⟩ := here_step h hN i F hF hn
 exact step_append_eq hgd s x _ _ ho hs' hx (by rw [hty]; exact hr) (hk u' W' h1 h2 h3)
theorem PlAt.from {A : Nat} {w wr : World} {o : Obj} {N : Nat} {q0 q u : Value} {hs : List Int} {Y : Nat → Prop} {ps : List (List Int)} {xs : List Value} (h : PlAt A (w.alloc o) N q0 u hs Y ps q xs wr) : PlAt A w N q0 u hs Y ps q xs wr := by
 refine ⟨h.1, h.2.1, h.2.2.1, (Fr2.of_below ((Below.refl _ _).alloc (Nat.le_refl _) o) q0 u).trans h.2.2.2.1 (fun k h => Or.inl h) (fun k h => Or.inl h), fun k hk => ?_⟩
 rcases h.2.2.2.2 k hk with e | e
 ·exact Or.inl e
 ·right; simp at e; omega
theorem sizeL_ge1 (l : List Tm) (k : Nat) (h : k < l.length) : 1 + sizeL [l[k]] ≤ 1 + sizeL l := by
 have := sizeL_take l k h
 have := sizeL_take_le l (k + 1)
 omega
attribute [local go_sem] Oper.semAt_some
def LpD (x : Dn) (args : Array Value) (W : World) (Z : Nat → Prop) : Prop := ∃ u v, args = #[u, v] ∧ PV W Z u x.1 ∧ TV W Z v x.2
theorem nextI_any (fs : List Int) (v : Value) (w : World) (X : Nat → Prop) (hv : PV w X v fs) (h0 : ∀ z ∈ fs.take 1, 0 ≤ z) :
  Calls Tryz.prog 116 #[v] w fun e w' => Below w.heap.size w w' ∧ ∃ rv, e = .returned (.tuple #[.int .i64 (hdN fs : Int), rv]) ∧ PV w' X rv fs.tail := by
 obtain ⟨a, c, rfl, hl, hc⟩ := hv
 cases fs with
 | nil =>
  go_enter Tryz.func116, Tryz.ntmps116
  go_wp2_with fail
  refine bodyPost_ret (v := .tuple #[.int .i64 0, .slice none 0 0]) (by simp [results, Tryz.results116, go_sem]) rfl ?_
  exact ⟨Below.refl _ _, _, rfl, none, 0, rfl, by simp, Or.inl rfl⟩
 | cons z zs =>
  have hz := h0 z (by simp)
  have e : (hdN (z :: zs) : Int) = z := by unfold hdN; simp; omega
  rcases hc with hc | ⟨b, o, rfl, hxb, hcell⟩
  ·cases hc
  obtain ⟨hzl1, hzl2⟩ := hl
  simp only [List.length_cons] at hzl1 hzl2
  have hz0 := hcell 0 (by simp)
  simp only [Nat.add_zero, List.getElem_cons_zero] at hz0
  have HE := hide e
  by_cases h1 : c = 1
  ·have h2 : zs = [] := List.length_eq_zero_iff.1 (by omega)
   subst h1; subst h2
   clear hcell h0 e
   go_enter Tryz.func116, Tryz.ntmps116
   go_wp2_with fail
   go_region_held3 (fun w' => w'.cell? ⟨b, o, none⟩ = some (.int .i64 z)) (go_keep) (fail)
   go_wp2_with fail
   refine bodyPost_ret (v := .tuple #[.int .i64 z, .slice (some ⟨b, o, none⟩) 0 0]) (by simp [results, Tryz.results116, go_sem]) rfl ?_
   exact ⟨(Below.refl _ _).drew, .slice (some ⟨b, o, none⟩) 0 0, by rw [HE.out], some ⟨b, o, none⟩, 0, rfl, by simp, Or.inl rfl⟩
  ·have HT : Hid (PV w X (.slice (some ⟨b, o + 1, none⟩) zs.length (c - 1)) zs) := PV.tail ⟨hzl1, hzl2⟩ hxb hcell
   simp only [List.length_cons] at *
   have b1 : ¬ ((zs.length : Int) + 1 < 1) := by omega
   have b2 : ¬ ((c : Int) < (zs.length : Int) + 1) := by omega
   clear hcell h0 e
   go_enter Tryz.func116, Tryz.ntmps116
   go_wp2_with fail
   go_region_held3 (fun w' => w'.cell? ⟨b, o, none⟩ = some (.int .i64 z)) (go_keep) (fail)
   go_wp2_with fail
   refine bodyPost_ret (v := .tuple #[.int .i64 z, .slice (some ⟨b, o + 1, none⟩) zs.length (c - 1)]) (by simp [results, Tryz.results116, go_sem]) rfl ?_
   exact ⟨(Below.refl _ _).drew, _, by rw [HE.out], HT.out.later ((Below.refl _ _).drew)⟩
def DnInv {J : Tk Dn} (w0 : World) (N : Nat) (u : Value) (hs : List Int) (f : Nat → Prop) (pre : List Dn) (t : Tm) (st : Nat) (rl : List Int) (rv : Value) (l : List Tm) (rest i : Value) (wr : World) : Prop :=
 ∃ (k : Nat) (f' : Nat → Prop), st ≤ k ∧ k ≤ l.length ∧ i = .int .i64 (k : Int) ∧ rest = (if k = st then rv else .slice none 0 0) ∧ J (pre ++ (hs, t) :: dnL hs 0 st rl (l.take k)) true f' wr ∧ ExQ (fun b => f b ∨ u.ownBlock = some b) w0 wr ∧ (∀ b, f' b → f b ∨ w0.heap.size ≤ b) ∧ wr.ownsRow N 3 1 u hs.length (hs.map fun z => .int .i64 z)
def DnPost (J : Tk Dn) (N : Nat) (S : World → Prop) (t : Tm) (u : Value) (hs fs : List Int) (pre : List Dn) (f : Nat → Prop) (w : World) (e : Ending) (w' : World) : Prop :=
 ∃ b, e = .returned (.bool b) ∧ Went J (dnT hs fs t) pre f (fun b => u.ownBlock = some b) w b w' ∧ (b = true → w'.ownsRow N 3 1 u hs.length (hs.map fun z => .int .i64 z)) ∧ IfNo b (S w')
set_option maxHeartbeats 2000000 in
theorem downS_any {J : Tk Dn} {K : Nat → Prop} {all : List Dn} (hJ : TkOk J K) (N lp : Nat) (hK : ∀ b, K b → b < N) {S : World → Prop} (RH : RndS lp LpD J all S) (t : Tm) : ∀ (v u fv : Value) (hs fs : List Int) (pre : List Dn) (f : Nat → Prop) (w : World) (X : Nat → Prop), TV w X v t → PV w X fv fs → (atT t fs).isSome = true → (∀ b, X b → b < N ∧ ¬ f b) → N ≤ w.heap.size → w.ownsRow N 3 1 u hs.length (hs.map fun z => .int .i64 z) → (∀ k, u.ownBlock = some k → ¬ f k) → J pre true f w → hs.length + sizeL [t] ≤ 900000 → (pre ++ dnT hs fs t) <+: all →
  Calls Tryz.prog 87 #[v, u, fv, .func (.yield lp) #[] #[]] w fun e w' => DnPost J N S t u hs fs pre f w e w' := by
 induction t using Tm.ind with
 | h s l ih =>
  intro v u fv hs fs pre f w X hv hfv hat hX hN hown huf hj hsm hOk
  have HOK := hide hOk
  clear hOk
  obtain ⟨a, c, rfl, hsl⟩ := hv
  have IH := hide ih
  clear ih
  have hl := hsl.1
  have hz : sizeL [(⟨s, l⟩ : Tm)] = 1 + sizeL l := by simp [sizeL]
  rw [hz] at hsm
  clear hz
  have hB0 : Below w.heap.size w (w.alloc (.cells #[.string s, .slice a l.length c] 27)) := (Below.refl _ _).alloc (Nat.le_refl _) _
  have hE0 : ExQ (fun _ => False) w (w.alloc (.cells #[.string s, .slice a l.length c] 27)) := (ExQ.refl _ _).alloc _
  have HE0 := hide hE0
  have HJ0 := hide (hJ.exq hj hE0 (fun _ _ h => h))
  have HIN := hide (hJ.inside hj)
  have hown0 : ((w.alloc (.cells #[.string s, .slice a l.length c] 27))).ownsRow N 3 1 u hs.length (hs.map fun z => .int .i64 z) := ownsRow_at hown fun g hg => Below.heap_alloc _ _ _ (hown.lt g hg).2
  have hltu := hide hown.lt
  have HXu : Hid (∀ b, X b → some b ≠ u.ownBlock) := fun b hb e => by have := (hltu.out b e.symm).1; have := hX b hb; omega
  have HBu : Hid (u.ownBlock ≠ some w.heap.size) := fun e => by have := (hltu.out _ e).2; omega
  have HBf : Hid (¬ f w.heap.size) := fun e => by have := HIN.out _ (Or.inl e); omega
  have hw0 : Hid (((w.alloc (.cells #[.string s, .slice a l.length c] 27))).heap.size = w.heap.size + 1) := by simp [Hid]
  have HSL := hide (hsl.later hB0)
  have HFV := hide (hfv.later hB0)
  have HX := hide hX
  have HK := hide hK
  clear hK
  have HUF := hide huf
  have hpos : ∀ z ∈ fs.take 1, 0 ≤ z := by
   cases fs with
   | nil => simp
   | cons z zs => intro y hy; simp at hy; subst hy; rw [atT] at hat; split at hat; (next h => exact h.1); (next => cases hat)
  have hstl : hdN fs ≤ l.length := by
   cases fs with
   | nil => simp [hdN]
   | cons z zs => rw [atT] at hat; split at hat; (next h => have := h.2; simp [hdN]; simp at this; omega); (next => cases hat)
  have HAT : Hid (∀ k (h : k < l.length), hdN fs ≤ k → (atT l[k] (if k = hdN fs then fs.tail else [])).isSome = true) := fun k h hk => by
   by_cases e : k = hdN fs
   ·rw [if_pos e]
    cases fs with
    | nil => rfl
    | cons z zs =>
     simp only [atT] at hat
     split at hat
     next h2 =>
      have e2 : z.toNat = k := by rw [e]; simp [hdN]
      simp only [e2] at hat
      exact hat
     next => simp at hat
   ·rw [if_neg e]; rfl
  have HJx := hide hJ
  have hhs : hs.length ≤ 1000000 := by omega
  have RHW := RH 0 pre (hs, ⟨s, l⟩) #[u, .agg #[.string s, .slice a l.length c]] (fun b => (X b ∨ u.ownBlock = some b) ∧ b < ((w.alloc (.cells #[.string s, .slice a l.length c] 27))).heap.size) f (w.alloc (.cells #[.string s, .slice a l.length c] 27)) (List.IsPrefix.trans ⟨dnL hs 0 (hdN fs) fs.tail l, by simp [dnT]⟩ HOK.out) HJ0.out ⟨u, _, rfl, (pv_of_own hown0).mono fun b hb hl => ⟨Or.inr hb.2, hl⟩, a, c, rfl, HSL.out.mono fun b hb hl => ⟨Or.inl hb, hl⟩⟩ (fun b hb => ⟨hb.2, by
   rcases hb.1 with h | h
   ·exact (hX b h).2
   ·exact huf b h⟩)
  obtain ⟨hfn, htmps, hasg, hbody, hy, hR⟩ := RHW
  have HR := hide hR
  have HRH := hide RH
  have HO0 := hide hown0
  clear hsl hfv hX hB0 hE0 hR RH hown hown0 huf hj hat hJ
  have hf1 : Fence.wide.fn 116 := trivial
  go_enter Tryz.func87, Tryz.ntmps87
  refine (wpIn_wide (n := 1)).1 ?_
  gi_wp2
  refine HR.out.mono ?_
  rintro e W1 ⟨s1, rfl, f1, hj1, he1, hff1, hS1⟩
  have HS1 := hide hS1
  clear hS1
  clear hy
  have K1 : W1.cell? ⟨w.heap.size, 1, none⟩ = some (.slice a l.length c) := by
   have h1 := he1.block w.heap.size (by simp) HBf.out
   rw [heap_alloc_new] at h1
   simp [World.cell?, h1]
  cases s1 with
  | false =>
   gi_wp2
   go_ret
   refine ⟨false, rfl, ?_, by simp, fun _ => HS1.out rfl⟩
   exact Went.from (Went.stop (a1 := ([(hs, (⟨s, l⟩ : Tm))] : List Dn)) (Went.one hj1 he1 hff1)) (HE0.out.mono fun _ h _ => h.elim) (fun b hb => Or.inl hb)
  | true =>
   have HJ1 := hide hj1
   have HE1 := hide he1
   have HFF1 := hide hff1
   have hP1 : PV W1 X fv fs := ((HFV.out.mono (Y := fun b => X b ∧ b < (w.alloc (.cells #[.string s, .slice a l.length c] 27)).heap.size) fun b h1 h2 => ⟨h1, h2⟩).kept (w' := W1) fun b hb => HE1.out.block b hb.2 (HX.out b hb.1).2).mono fun b hb _ => hb.1
   have HO1 : Hid (W1.ownsRow N 3 1 u hs.length (hs.map fun z => .int .i64 z)) := ownsRow_at HO0.out fun g hg => HE1.out.block g (by have := (hltu.out g hg).2; have := hw0.out; omega) (HUF.out g hg)
   have hwW : w.heap.size < W1.heap.size := by have := he1.size; have := hw0.out; omega
   clear hj1 he1 hff1
   gi_wp2_with (gi_at_call 116; refine (callsIn_wide.2 (nextI_any fs fv _ X hP1 hpos)).mono ?_; rintro e W2 ⟨hb2, rv, rfl, hrv⟩; have K2 := (hb2.cell (p := ⟨w.heap.size, 1, none⟩) hwW).trans K1)
   have HRV := hide hrv
   have HB2 := hide hb2
   clear hP1 hrv hb2
   refine wpIn_wide.2 ?_
   go_loopw [10, 11] (fun q' i wr => DnInv (J := J) (w.alloc (.cells #[.string s, .slice a l.length c] 27)) N u hs f pre ⟨s, l⟩ (hdN fs) fs.tail rv l q' i wr ∧ PV wr X (if (intOf i).toNat = hdN fs then rv else .slice none 0 0) (if (intOf i).toNat = hdN fs then fs.tail else [])) (fun q' i wr => l.length - (intOf i).toNat)
   case atStart =>
    refine ⟨⟨hdN fs, f1, Nat.le_refl _, hstl, rfl, by rw [if_pos rfl], ?_, (HE1.out.mono fun b hb _ => Or.inl hb).trans (ExQ.ofBelow HB2.out), HFF1.out, ownsRow_at HO1.out fun g hg => HB2.out.block g (HO1.out.lt g hg).2⟩, by simpa [intOf] using HRV.out⟩
    rw [dnL_before hs (hdN fs) fs.tail (l.take (hdN fs)) 0 (by simp; omega)]
    exact HJx.out.abide HJ1.out HB2.out.size fun b hb => HB2.out.block b (HJx.out.inside HJ1.out b hb)
   case round =>
    obtain ⟨⟨k, f2, hst, hk, rfl, rfl, hj2, he2, hff2, ho2⟩, hpv2⟩ := hrel
    have ek : (intOf (.int .i64 (k : Int))).toNat = k := by simp [intOf]
    rw [ek] at hpv2
    clear ek
    have HJ2 := hide hj2
    have HE2 := hide he2
    have HFF2 := hide hff2
    have HO2 := hide ho2
    have HPV2 := hide hpv2
    have hz2 : w.heap.size + 1 ≤ wr.heap.size := by have := he2.size; have := hw0.out; omega
    have HXQ : Hid (∀ b, X b → ¬ (f b ∨ u.ownBlock = some b)) := fun b hb h => by
     rcases h with h | h
     ·exact (HX.out b hb).2 h
     ·exact HXu.out b hb h.symm
    have HX2 : Hid (∀ b, X b → b < N ∧ ¬ f2 b) := fun b hb => ⟨(HX.out b hb).1, fun h => by
     rcases HFF2.out b h with h | h
     ·exact (HX.out b hb).2 h
     ·have := (HX.out b hb).1; have := hw0.out; omega⟩
    have HBf2 : Hid (∀ b, f2 b ∨ K b → b < wr.heap.size) := HJx.out.inside hj2
    have HUF2 : Hid (∀ g, u.ownBlock = some g → ¬ f2 g) := fun g hg h => by
     rcases HFF2.out g h with h | h
     ·exact HUF.out g hg h
     ·have := (hltu.out g hg).2; have := hw0.out; omega
    have HB2 : Hid (¬ f2 w.heap.size) := fun h => by
     rcases HFF2.out _ h with h | h
     ·exact HBf.out h
     ·have := hw0.out; omega
    have K2 : wr.cell? ⟨w.heap.size, 1, none⟩ = some (.slice a l.length c) := by
     have h1 := he2.block w.heap.size (by simp) (fun h => by
      rcases h with h | h
      ·exact HBf.out h
      ·exact HBu.out h)
     rw [heap_alloc_new] at h1
     simp [World.cell?, h1]
    clear hj2 he2 hff2 ho2 hpv2
    have hpre : dnT hs fs ⟨s, l⟩ = (hs, ⟨s, l⟩) :: dnL hs 0 (hdN fs) fs.tail l := rfl
    have HPRE := hide hpre
    clear hpre
    by_cases hlt : k < l.length
    ·have hst2 := sizeL_ge1 l k hlt
     obtain ⟨b, o, a', c', rfl, d0, d1, hx⟩ := (HSL.out.exq HE2.out HXQ.out).get (Below.refl wr.heap.size wr) (fun _ _ h => h) k hlt
     have hbX : X b := by
      obtain ⟨_, h1⟩ := HSL.out
      rcases h1 with h1 | ⟨b', o', e', h1⟩
      ·rw [h1] at hlt; simp at hlt
      ·cases e'; exact (lies_get _ _ _ h1 k hlt).1
     have HXX := hide hx
     have HT := hide (dnL_take hs (hdN fs) fs.tail l k hlt hst)
     have HSM : Hid ((hs ++ [(k : Int)]).length + sizeL [l[k]] ≤ 900000) := by unfold Hid; simp; omega
     have HATk := hide (HAT.out k hlt hst)
     have HSPL : Hid (dnL hs 0 (hdN fs) fs.tail l = dnL hs 0 (hdN fs) fs.tail (l.take k) ++ (dnT (hs ++ [(k : Int)]) (if k = hdN fs then fs.tail else []) l[k] ++ dnL hs (0 + (l.take (k + 1)).length) (hdN fs) fs.tail (l.drop (k + 1)))) := by
      unfold Hid
      rw [← List.append_assoc, ← HT.out, ← dnL_append, List.take_append_drop]
     have HOKk : Hid (((pre ++ (hs, ⟨s, l⟩) :: dnL hs 0 (hdN fs) fs.tail (l.take k)) ++ dnT (hs ++ [(k : Int)]) (if k = hdN fs then fs.tail else []) l[k]) <+: all) := List.IsPrefix.trans ⟨dnL hs (0 + (l.take (k + 1)).length) (hdN fs) fs.tail (l.drop (k + 1)), by rw [HPRE.out, HSPL.out]; simp⟩ HOK.out
     generalize hqv : (if k = hdN fs then rv else .slice none 0 0) = qv at *
     clear hqv
     generalize (if k = hdN fs then fs.tail else []) = ql at *
     clear hx hst2
     have HS0 := hide (And.intro K2 (And.intro d0 d1))
     go_wp2_with fail
     have hbW : Below wr.heap.size wr (wr.alloc (.cells #[.int .i64 (k : Int)] 3)).drew := ((Below.refl _ _).alloc (Nat.le_refl _) _).drew
     have HBW := hide hbW
     have HOU : Hid (((wr.alloc (.cells #[.int .i64 (k : Int)] 3)).drew).ownsRow N 3 1 u hs.length (hs.map fun z => .int .i64 z)) := ownsRow_at HO2.out fun g hg => hbW.block g (HO2.out.lt g hg).2
     have HNW : Hid (N ≤ ((wr.alloc (.cells #[.int .i64 (k : Int)] 3)).drew).heap.size) := by unfold Hid; simp; omega
     have HFW : Hid (((wr.alloc (.cells #[.int .i64 (k : Int)] 3)).drew).heap[wr.heap.size]? = some (.cells #[.int .i64 (k : Int)] 3 (0, 0))) := heap_alloc_new wr (.cells #[.int .i64 (k : Int)] 3)
     have HSE : Hid (∀ u2 W2, ((wr.alloc (.cells #[.int .i64 (k : Int)] 3)).drew).grownBy W2 u.ownBlock → Ext (wr.alloc (.cells #[.int .i64 (k : Int)] 3)).drew W2 u u2 hs.length → (W2.cell? ⟨w.heap.size, 1, none⟩ = some (.slice (some ⟨b, o, none⟩) l.length c) ∧ W2.cell? ⟨b, o + k * 2, none⟩ = some (.string l[k].name) ∧ W2.cell? ⟨b, o + k * 2 + 1, none⟩ = some (.slice a' l[k].args.length c')) ∧ (∀ b, f2 b ∨ K b → W2.heap[b]? = wr.heap[b]?) ∧ (∀ b, X b → W2.heap[b]? = wr.heap[b]?) ∧ wr.heap.size < W2.heap.size ∧ (∀ g, u2.ownBlock = some g → ¬ f2 g) ∧ (∀ g, u2.ownBlock = some g → u.ownBlock = some g ∨ wr.heap.size ≤ g) ∧ ExQ (fun b => u.ownBlock = some b) wr W2 ∧
       ∀ w5, ExQ (fun b => f2 b ∨ u2.ownBlock = some b) W2 w5 → w5.cell? ⟨w.heap.size, 1, none⟩ = some (.slice (some ⟨b, o, none⟩) l.length c) ∧ w5.cell? ⟨b, o + k * 2, none⟩ = some (.string l[k].name) ∧ w5.cell? ⟨b, o + k * 2 + 1, none⟩ = some (.slice a' l[k].args.length c')) := fun u2 W2 hg2 he2 => by
      have hbN := HX.out b hbX
      have hgz := hg2.size
      simp at hgz
      have kp : ∀ j, j < wr.heap.size → u.ownBlock ≠ some j → W2.heap[j]? = wr.heap[j]? := fun j hj hne => (hg2.block j (by simp; omega) (fun e => hne e.symm)).trans (HBW.out.block j hj)
      have hE : ∀ g, u2.ownBlock = some g → u.ownBlock = some g ∨ wr.heap.size ≤ g := fun g hg => by
       rcases he2 with ⟨g2, cap, e3, e4⟩ | ⟨hn, _⟩
       ·left; rw [e4] at hg; rw [e3]; exact hg
       ·right; have := hn g hg; simp at this; omega
      have e0 := kp w.heap.size (by omega) HBu.out
      have e1 := kp b (by omega) (fun e => HXu.out b hbX e.symm)
      refine ⟨⟨(World.cell?_of_block e0).trans HS0.out.1, (World.cell?_of_block e1).trans HS0.out.2.1, (World.cell?_of_block e1).trans HS0.out.2.2⟩, fun j hj => kp j (HBf2.out j hj) (fun e => by
       rcases hj with hj | hj
       ·exact HUF2.out j e hj
       ·have := HK.out j hj; have := (hltu.out j e).1; omega), fun j hj => kp j (by have := HX.out j hj; omega) (fun e => HXu.out j hj e.symm), by omega, fun g hg h => ?_, hE, ⟨hg2.os, hg2.tape, hg2.output, by omega, fun j hj hne => kp j hj hne⟩, fun w5 hf => ?_⟩
      ·rcases hE g hg with e | e
       ·exact HUF2.out g e h
       ·have := HBf2.out g (Or.inl h); omega
      ·have f0 : w5.heap[w.heap.size]? = wr.heap[w.heap.size]? := (hf.block _ (by omega) (fun h => by
        rcases h with h | h
        ·exact HB2.out h
        ·rcases hE _ h with h | h
         ·exact HBu.out h
         ·omega)).trans e0
       have f1 : w5.heap[b]? = wr.heap[b]? := (hf.block _ (by omega) (fun h => by
        rcases h with h | h
        ·exact (HX2.out b hbX).2 h
        ·rcases hE _ h with h | h
         ·exact HXu.out b hbX h.symm
         ·omega)).trans e1
       exact ⟨(World.cell?_of_block f0).trans HS0.out.1, (World.cell?_of_block f1).trans HS0.out.2.1, (World.cell?_of_block f1).trans HS0.out.2.2⟩
     clear hbW
     go_region_held3 (fun w' => w'.cell? ⟨w.heap.size, 1, none⟩ = some (.slice (some ⟨b, o, none⟩) l.length c) ∧ w'.cell? ⟨b, o + k * 2, none⟩ = some (.string l[k].name) ∧ w'.cell? ⟨b, o + k * 2 + 1, none⟩ = some (.slice a' l[k].args.length c')) (first | exact HS0.out | exact hS5 | exact hS2 | go_keep)
      (first
       | (refine step_here (N := N) (hs := hs) (u := u) rfl _ _ rfl rfl rfl (k : Int) _ rfl HOU.out HNW.out HFW.out hhs ?_; intro u2 W2 ho2 hg2 he2; obtain ⟨hS2, kf, kX, hw2, hu2, hu2', hq2, hK3⟩ := HSE.out u2 W2 hg2 he2; have HO22 := hide ho2; have HG2 := hide hg2; have HX22 := hide he2; have HQ2 := hide hq2; have HU2 := hide hu2'; have hx2 := HXX.out.kept kX; have hp2 := HPV2.out.kept kX; have hj2 := HJx.out.abide HJ2.out (by omega) kf)
       | (go_at_call 87; refine (IH.out _ (List.getElem_mem hlt) _ _ _ _ _ _ f2 _ X hx2 hp2 HATk.out HX2.out (by omega) ho2 hu2 hj2 HSM.out HOKk.out).mono ?_; rintro e w5 ⟨s5, rfl, hw5, ho5, hss5⟩; have HSS5 := hide hss5; clear hss5; have HW5 := hide hw5; have hS5 := hK3 w5 hw5.exq; have HO5 := hide ho5; clear hw5 ho5))
     clear hS5 hx2 hp2 hS2 ho2 hg2 he2 kf kX hu2 hu2' hq2 hj2 hK3
     cases s5 with
     | false =>
      go_wp2_with fail
      go_ret
      refine ⟨false, rfl, ?_, by simp, fun _ => HSS5.out rfl⟩
      rw [HPRE.out, HSPL.out, ← List.cons_append]
      refine Went.from (Went.trans HJ2.out HE2.out HFF2.out (Went.stop (Went.from (g' := fun b => u.ownBlock = some b) HW5.out HQ2.out HU2.out)) (fun b hb => Or.inl hb)) (HE0.out.mono fun _ h _ => h.elim) (fun b hb => Or.inl hb)
     | true =>
      have hf5 := Went.end_true (Went.trans HJ2.out HE2.out HFF2.out (Went.from (g' := fun b => u.ownBlock = some b) HW5.out HQ2.out HU2.out) (fun b hb => Or.inl hb))
      obtain ⟨f5, hj5, he5, hff5⟩ := hf5
      have HJ5 := hide hj5
      have HE5 := hide he5
      have HFF5 := hide hff5
      clear hj5 he5 hff5
      have HOB : Hid (w5.ownsRow N 3 1 u hs.length (hs.map fun z => .int .i64 z)) := here_backQ HOU.out HG2.out HX22.out (HO5.out rfl) HW5.out.exq (fun g hg hne h => by
       rcases h with h | h
       ·exact HUF2.out g hg h
       ·exact hne h)
      go_wp2_with fail
      go_roundw
      case rel =>
       refine ⟨⟨k + 1, f5, by omega, by omega, by go_num, by rw [if_neg (by omega)], ?_, HE5.out, HFF5.out, HOB.out⟩, ?_⟩
       ·rw [HT.out]
        simpa using HJ5.out
       ·have e1 : (intOf (.int .i64 ((k : Int) + 1))).toNat = k + 1 := by simp [intOf]
        have e2 : ¬ (k + 1 = hdN fs) := by omega
        simp only [e1, e2, if_false]
        exact ⟨none, 0, rfl, by simp, Or.inl rfl⟩
      case measure => simp [intOf]; omega
    ·have htk : l.take k = l := List.take_of_length_le (by omega)
     have HF : Hid (Went J (dnT hs fs ⟨s, l⟩) pre f (fun b => u.ownBlock = some b) w true wr) := by
      rw [htk] at HJ2
      exact ⟨_, f2, Nat.le_refl _, fun _ => rfl, by rw [HPRE.out, List.take_length]; exact HJ2.out, (HE0.out.mono fun _ h _ => h.elim).trans HE2.out, fun b hb => by
       rcases HFF2.out b hb with h | h
       ·exact Or.inl h
       ·right; have := hw0.out; omega⟩
     generalize (if k = hdN fs then rv else .slice none 0 0) = qv at *
     go_wp2_with fail
     gi_wp2
     go_ret
     exact ⟨true, rfl, HF.out, (fun _ => HO2.out), fun h => by cases h⟩
def shL : List Tm → List Tm → Bool
 | [], _ => true
 | ⟨s, a⟩ :: r, ts => match ts with
  | [] => false
  | t :: ts' => (varB s || ((s.toList == t.name.toList) && (a.length == t.args.length) && shL a t.args)) && shL r ts'
def shT (p t : Tm) : Bool := varB p.name || ((p.name.toList == t.name.toList) && (p.args.length == t.args.length) && shL p.args t.args)
theorem shL_cons (p t : Tm) (r ts : List Tm) : shL (p :: r) (t :: ts) = (shT p t && shL r ts) := by obtain ⟨s, a⟩ := p; simp only [shL, shT]
theorem shT_deep {s s2 : ByteArray} {l m : List Tm} (hv : varB s = false) : shT ⟨s, l⟩ ⟨s2, m⟩ = ((s.toList == s2.toList) && (l.length == m.length) && shL l m) := by simp [shT, hv]
theorem shT_var {s : ByteArray} {l : List Tm} {t : Tm} (hv : varB s = true) : shT ⟨s, l⟩ t = true := by simp [shT, hv]
theorem shL_iff : ∀ (l m : List Tm), l.length = m.length → (shL l m = true ↔ ∀ k (h : k < l.length) (h2 : k < m.length), shT l[k] m[k] = true)
 | [], m, _ => by simp [shL]
 | _ :: _, [], e => by simp at e
 | p :: r, t :: ts, e => by
  have ih := shL_iff r ts (by simpa using e)
  rw [shL_cons, Bool.and_eq_true, ih]
  refine ⟨fun h k h1 h2 => ?_, fun h => ⟨h 0 (by simp) (by simp), fun k h1 h2 => h (k + 1) (by simpa using h1) (by simpa using h2)⟩⟩
  cases k with
  | zero => exact h.1
  | succ k => exact h.2 k (by simpa using h1) (by simpa using h2)
theorem shL_no {l m : List Tm} {k : Nat} (hlm : l.length = m.length) (h : k < l.length) (h2 : k < m.length) (h0 : shT l[k] m[k] = false) : shL l m = false := by
 cases hs : shL l m with
 | false => rfl
 | true => rw [(shL_iff l m hlm).1 hs k h h2] at h0; cases h0
theorem mtL_unshaped : ∀ (l m : List Tm) (h : List Bd), l.length = m.length → shL l m = false → mtL l m h = none := by
 intro l
 induction l using Tm.indL with
 | h0 => intro m h _ hs; simp [shL] at hs
 | h s a r iha ihr =>
  intro m h hlm hs
  cases m with
  | nil => simp at hlm
  | cons t ts =>
   rw [shL_cons] at hs
   rw [mtL_cons]
   cases h1 : shT ⟨s, a⟩ t with
   | true =>
    rw [h1, Bool.true_and] at hs
    cases mtT ⟨s, a⟩ t h with
    | none => rfl
    | some h' => exact ihr ts h' (by simpa using hlm) hs
   | false =>
    obtain ⟨s2, m2⟩ := t
    have hv : varB s = false := by
     cases hv : varB s with
     | false => rfl
     | true => rw [shT_var hv] at h1; cases h1
    rw [shT_deep hv] at h1
    have e : mtT ⟨s, a⟩ ⟨s2, m2⟩ h = none := by
     cases hn : ((s.toList == s2.toList) && (a.length == m2.length)) with
     | false => exact mtT_off hv hn
     | true =>
      rw [hn, Bool.true_and] at h1
      rw [Bool.and_eq_true] at hn
      have hl : a.length = m2.length := by simpa using hn.2
      rw [mtT_deep hv hn.1 hl]
      exact iha m2 h hl h1
    rw [e]
theorem mtT_unshaped {p t : Tm} (h : List Bd) (hs : shT p t = false) : mtT p t h = none := by
 have := mtL_unshaped [p] [t] h rfl (by rw [shL_cons, hs]; rfl)
 rw [mtL_cons] at this
 cases hm : mtT p t h with
 | none => rfl
 | some h' => rw [hm] at this; simp [mtL] at this
set_option maxHeartbeats 2000000 in
theorem sameK_all (t : Tm) : ∀ (x : Tm) (v u : Value) (w : World) (X Y : Nat → Prop), TV w X v t → TV w Y u x →
  Calls Tryz.prog 74 #[v, u] w fun e w' => e = .returned (.bool (sameB t x)) ∧ Below w.heap.size w w' := by
 induction t using Tm.ind with
 | h s l ih =>
  intro x v u w X Y hv hu
  obtain ⟨s2, m⟩ := x
  have IH := hide ih
  clear ih
  obtain ⟨a, c, rfl, hs⟩ := hv
  obtain ⟨a2, c2, rfl, hs2⟩ := hu
  have hl := hs.1
  have hl2 := hs2.1
  dsimp only
  cases hn : (s.toList == s2.toList) with
  | false =>
   have HR : Hid (false = sameB ⟨s, l⟩ ⟨s2, m⟩) := by unfold Hid sameB; rw [hn]; rfl
   go_enter Tryz.func74, Tryz.ntmps74
   go_wp2_with fail
   go_ret
   exact ⟨ret_bool HR.out, below2 _ _⟩
  | true =>
   by_cases hm : l.length = m.length
   ·have HR : Hid (eqL l m = sameB ⟨s, l⟩ ⟨s2, m⟩) := by unfold Hid sameB; simp [hn, hm]
    have HM := hide hm
    rw [← hm]
    clear hm
    go_enter Tryz.func74, Tryz.ntmps74
    go_wp2_with fail
    go_loopw [23] (fun i wr => SaInv w l m a a2 c c2 i wr) (fun i wr => l.length - (intOf i).toNat)
    case atStart => exact ⟨0, Nat.zero_le _, rfl, by simp [eqL], below2 _ _, by simp, by simp, by simp⟩
    case round =>
     obtain ⟨k, hk, rfl, hq, hb, hc1, hc2, hsz⟩ := hrel
     have HQ := hide hq
     clear hq
     by_cases hlt : k < l.length
     ·obtain ⟨b, o, a', c', rfl, d0, d1, hx⟩ := hs.get hb (fun _ _ h => h) k hlt
      obtain ⟨b2, o2, a2', c2', rfl, e0, e1, hx2⟩ := hs2.get hb (fun _ _ h => h) k (by have := HM.out; omega)
      have hltm : k < m.length := by have := HM.out; omega
      have HX := hide hx
      have HX2 := hide hx2
      have HB := hide hb
      have HS0 := hide (And.intro hc1 (And.intro hc2 (And.intro d0 (And.intro d1 (And.intro e0 e1)))))
      have IHK := hide (fun (w' : World) => IH.out l[k] (List.getElem_mem hlt) m[k] (.agg #[.string l[k].name, .slice a' l[k].args.length c']) (.agg #[.string m[k].name, .slice a2' m[k].args.length c2']) w' X Y)
      have HT := hide (eqL_take hlt hltm)
      have HNO := hide (eqL_no hlt HM.out)
      clear hx hx2 hb
      generalize l[k] = y at *
      generalize m[k] = z at *
      go_wp2_with fail
      cases hsm : sameB y z with
      | true =>
       rw [hsm] at IHK HT
       go_region_held3 (fun w' => w'.cell? ⟨w.heap.size, 1, none⟩ = some (.slice (some ⟨b, o, none⟩) l.length c) ∧ w'.cell? ⟨w.heap.size + 1, 1, none⟩ = some (.slice (some ⟨b2, o2, none⟩) l.length c2) ∧ w'.cell? ⟨b, o + k * 2, none⟩ = some (.string y.name) ∧ w'.cell? ⟨b, o + k * 2 + 1, none⟩ = some (.slice a' y.args.length c') ∧ w'.cell? ⟨b2, o2 + k * 2, none⟩ = some (.string z.name) ∧ w'.cell? ⟨b2, o2 + k * 2 + 1, none⟩ = some (.slice a2' z.args.length c2')) (first | exact HS0.out | exact hS1 | go_keep)
        ((go_at_call 74; refine (IHK.out _ (by exact HX.out.later (below_drewN (Below.refl _ _) 1)) (by exact HX2.out.later (below_drewN (Below.refl _ _) 1))).mono ?_; rintro e w1 ⟨rfl, hb1⟩; have hS1 := same_cells (n := 1) hb1 HS0.out))
       go_wp2_with fail
       go_roundw
       case rel => exact ⟨k + 1, by omega, by go_num, by rw [HT.out, HQ.out]; rfl, (HB.out.trans (below_drewN (Below.refl _ _) 1)).trans (hb1.mono (by simp; omega)), hS1.1, hS1.2.1, by have := hb1.size; simp at this; omega⟩
       case measure => simp [intOf]; omega
      | false =>
       have HF : Hid (false = sameB ⟨s, l⟩ ⟨s2, m⟩) := by unfold Hid; rw [← HR.out, HNO.out hsm]
       rw [hsm] at IHK
       go_region_held3 (fun w' => w'.cell? ⟨w.heap.size, 1, none⟩ = some (.slice (some ⟨b, o, none⟩) l.length c) ∧ w'.cell? ⟨w.heap.size + 1, 1, none⟩ = some (.slice (some ⟨b2, o2, none⟩) l.length c2) ∧ w'.cell? ⟨b, o + k * 2, none⟩ = some (.string y.name) ∧ w'.cell? ⟨b, o + k * 2 + 1, none⟩ = some (.slice a' y.args.length c') ∧ w'.cell? ⟨b2, o2 + k * 2, none⟩ = some (.string z.name) ∧ w'.cell? ⟨b2, o2 + k * 2 + 1, none⟩ = some (.slice a2' z.args.length c2')) (first | exact HS0.out | exact hS1 | go_keep)
        ((go_at_call 74; refine (IHK.out _ (by exact HX.out.later (below_drewN (Below.refl _ _) 1)) (by exact HX2.out.later (below_drewN (Below.refl _ _) 1))).mono ?_; rintro e w1 ⟨rfl, hb1⟩; have hS1 := same_cells (n := 1) hb1 HS0.out))
       go_wp2_with fail
       go_ret
       exact ⟨ret_bool HF.out, (HB.out.trans (below_drewN (Below.refl _ _) 1)).trans (hb1.mono (by simp; omega))⟩
     ·have HF : Hid (true = sameB ⟨s, l⟩ ⟨s2, m⟩) := by
       unfold Hid
       rw [← HR.out, ← HQ.out, List.take_of_length_le (by omega), List.take_of_length_le (by have := HM.out; omega)]
      go_wp2_with fail
      go_ret
      exact ⟨ret_bool HF.out, hb⟩
   ·have HR : Hid (false = sameB ⟨s, l⟩ ⟨s2, m⟩) := by unfold Hid sameB; simp [hn, hm]
    have hm2 : ((l.length : Int) == (m.length : Int)) = false := beq_eq_false_iff_ne.2 (by omega)
    clear hm
    go_enter Tryz.func74, Tryz.ntmps74
    go_wp2_with fail
    go_ret
    exact ⟨ret_bool HR.out, below2 _ _⟩
def PairsL (w : World) (X : Nat → Prop) : List Bd → List (ByteArray × Value) → Prop
 | [], L => L = []
 | d :: r, L => ∃ a c L', L = (d.nm, .agg #[.string d.t.name, .slice a d.t.args.length c]) :: L' ∧ Sl w X a d.t.args ∧ PairsL w X r L'
theorem PairsL.imp {w w' : World} {X Y : Nat → Prop} (hs : ∀ a l, Sl w X a l → Sl w' Y a l) : ∀ {l : List Bd} {L : List (ByteArray × Value)}, PairsL w X l L → PairsL w' Y l L
 | [], L, h => h
 | d :: r, L, h => by obtain ⟨a, c, L', e, h1, h2⟩ := h; exact ⟨a, c, L', e, hs _ _ h1, PairsL.imp hs h2⟩
theorem PairsL.push {w : World} {X : Nat → Prop} {d : Bd} {a : Option Addr} {c : Nat} (hs : Sl w X a d.t.args) : ∀ {l : List Bd} {L : List (ByteArray × Value)}, PairsL w X l L → PairsL w X (l ++ [d]) (L ++ [(d.nm, .agg #[.string d.t.name, .slice a d.t.args.length c])])
 | [], L, h => by
  have e : L = [] := h
  subst e
  exact ⟨a, c, [], rfl, hs, rfl⟩
 | d' :: r, L, h => by obtain ⟨a', c', L', e, h1, h2⟩ := h; subst e; exact ⟨a', c', _, rfl, h1, PairsL.push hs h2⟩
theorem PairsL.get {w : World} {X : Nat → Prop} (n : ByteArray) : ∀ {l : List Bd} {L : List (ByteArray × Value)}, PairsL w X l L → (forT l n = none → mapGet L n = none) ∧ (∀ t, forT l n = some t → ∃ a c, mapGet L n = some (.agg #[.string t.name, .slice a t.args.length c]) ∧ Sl w X a t.args)
 | [], L, h => by
  have e : L = [] := h
  subst e
  exact ⟨fun _ => rfl, fun t h => by simp [forT] at h⟩
 | d :: r, L, h => by
  obtain ⟨a, c, L', rfl, h1, h2⟩ := h
  obtain ⟨g1, g2⟩ := PairsL.get n h2
  by_cases hd : d.nm = n
  ·refine ⟨fun h => by simp [forT, hd] at h, fun t h => ?_⟩
   rw [forT, if_pos hd] at h
   cases h
   exact ⟨a, c, by simp [mapGet, hd], h1⟩
  ·refine ⟨fun h => ?_, fun t h => ?_⟩
   ·rw [forT, if_neg hd] at h
    simp only [mapGet, hd, if_false]
    exact g1 h
   ·rw [forT, if_neg hd] at h
    simp only [mapGet, hd, if_false]
    exact g2 t h
def FtM (w : World) (q : Nat) (Y : Nat → Prop) (Z : List Bc) : Prop := MapAt w q (Z.map toP) ∧ ∀ x ∈ Z, Sl w Y x.2.1 x.1.t.args
def FtPost (w : World) (q : Nat) (Y : Nat → Prop) (r : Option (List Bd)) (e : Ending) (w' : World) : Prop :=
 w.grownBy w' (some q) ∧ ((r = none ∧ e = .returned (.bool false)) ∨ ∃ (h' : List Bd) (Z' : List Bc), r = some h' ∧ e = .returned (.bool true) ∧ Z'.map (·.1) = h' ∧ FtM w' q Y Z')
theorem FtM.kept {w w' : World} {q : Nat} {Y : Nat → Prop} {Z : List Bc} (h : FtM w q Y Z) (hY : ∀ b, Y b → b < w.heap.size) (hk : ∀ b, b < w.heap.size → w'.heap[b]? = w.heap[b]?) : FtM w' q Y Z :=
 ⟨h.1.kept (hk q h.1.lt), fun x hx => (h.2 x hx).kept fun b hb => hk b (hY b hb)⟩
theorem FtM.below {w w' : World} {q : Nat} {Y : Nat → Prop} {Z : List Bc} (h : FtM w q Y Z) (hY : ∀ b, Y b → b < w.heap.size) (hb : Below w.heap.size w w') : FtM w' q Y Z := h.kept hY fun b hb' => hb.block b hb'
theorem mapGet_forT {Z : List Bc} {n : ByteArray} : (forT (Z.map (·.1)) n = none → mapGet (Z.map toP) n = none) ∧ (∀ t, forT (Z.map (·.1)) n = some t → ∃ x ∈ Z, x.1.t = t ∧ mapGet (Z.map toP) n = some (.agg #[.string t.name, .slice x.2.1 t.args.length x.2.2])) := by
 induction Z with
 | nil => exact ⟨fun _ => rfl, fun t h => by simp [forT] at h⟩
 | cons y r ih =>
  simp only [List.map_cons]
  by_cases hn : y.1.nm = n
  ·refine ⟨fun h => by simp [forT, hn] at h, fun t h => ?_⟩
   rw [forT, if_pos hn] at h
   cases h
   exact ⟨y, by simp, rfl, by simp [mapGet, toP, hn]⟩
  ·refine ⟨fun h => ?_, fun t h => ?_⟩
   ·rw [forT, if_neg hn] at h
    rw [mapGet, if_neg (by simpa [toP] using hn)]
    exact ih.1 h
   ·rw [forT, if_neg hn] at h
    obtain ⟨x, hx, h1, h2⟩ := ih.2 t h
    exact ⟨x, by simp [hx], h1, by rw [mapGet, if_neg (by simpa [toP] using hn)]; exact h2⟩
def FlInv (w2 : World) (q : Nat) (Y : Nat → Prop) (l m : List Tm) (h : List Bd) (i : Value) (wr : World) : Prop :=
 ∃ (k : Nat) (Z' : List Bc), k ≤ l.length ∧ i = .int .i64 (k : Int) ∧ mtL (l.take k) (m.take k) h = some (Z'.map (·.1)) ∧ FtM wr q Y Z' ∧ w2.grownBy wr (some q)
theorem grown2_below {w w' w'' : World} {row : Option Nat} (h : w.grownBy w' row) (hb : Below w'.heap.size w' w'') : w.grownBy w'' row :=
 h.andThen (row' := none) ⟨hb.os, hb.tape, hb.output, hb.size, fun j hj _ => hb.block j hj⟩ (by simp)
set_option maxHeartbeats 1000000 in
theorem fits_any (S F q : Nat) (Y : Nat → Prop) (p : Tm) : ∀ (t : Tm) (Z : List Bc) (pv tv : Value) (w : World), TV w Y pv p → TV w Y tv t → Blk w S #[.map (some q)] 100 → Blk w F #[.func (.func 133) #[] #[.pointer (some ⟨S, 0, none⟩), .pointer (some ⟨F, 0, none⟩)]] 49 → FtM w q Y Z → (∀ b, Y b → b < w.heap.size ∧ b ≠ q) → shT p t = true →
  Calls Tryz.prog 133 #[pv, tv, .pointer (some ⟨S, 0, none⟩), .pointer (some ⟨F, 0, none⟩)] w fun e w' => FtPost w q Y (mtT p t (Z.map (·.1))) e w' := by
 induction p using Tm.ind with
 | h s l ih =>
  intro t Z pv tv w hp ht hS hF hM hY hsh
  obtain ⟨s2, m⟩ := t
  obtain ⟨a, c, rfl, hs⟩ := hp
  obtain ⟨a2, c2, rfl, hs2⟩ := ht
  have IH := hide ih
  have HS := hide hs
  have HS2 := hide hs2
  have HSB := hide hS
  have HFB := hide hF
  have HM := hide hM
  have HY := hide hY
  have hl := hs.1
  have hl2 := hs2.1
  have hql := hM.1.lt
  have hSq : S ≠ q := fun e => by
   obtain ⟨es, clk, h1, _⟩ := hM.1
   subst e
   unfold Blk at hS
   rw [h1] at hS; cases hS
  have hFq : F ≠ q := fun e => by
   obtain ⟨es, clk, h1, _⟩ := hM.1
   subst e
   unfold Blk at hF
   rw [h1] at hF; cases hF
  have hSl := hS.lt
  have hFl := hF.lt
  clear ih hs hs2 hS hF hM hY
  dsimp only
  have HB2 : Hid (Below w.heap.size w ((w.alloc (.cells #[.string s, .slice a l.length c] 27)).alloc (.cells #[.string s2, .slice a2 m.length c2] 27))) := below2 _ _
  have PA := hide ((Blk.new w #[.string s, .slice a l.length c] 27).alloc (.cells #[.string s2, .slice a2 m.length c2] 27))
  have PB : Hid (Blk ((w.alloc (.cells #[.string s, .slice a l.length c] 27)).alloc (.cells #[.string s2, .slice a2 m.length c2] 27)) (w.heap.size + 1) #[.string s2, .slice a2 m.length c2] 27) := by
   have h := Blk.new (w.alloc (.cells #[.string s, .slice a l.length c] 27)) #[.string s2, .slice a2 m.length c2] 27
   unfold Hid
   simpa using h
  have hz2 : ((w.alloc (.cells #[.string s, .slice a l.length c] 27)).alloc (.cells #[.string s2, .slice a2 m.length c2] 27)).heap.size = w.heap.size + 2 := by simp
  have HG2 : Hid (w.grownBy ((w.alloc (.cells #[.string s, .slice a l.length c] 27)).alloc (.cells #[.string s2, .slice a2 m.length c2] 27)) (some q)) := (World.grownBy_alloc w _ _).andThen (World.grownBy_alloc _ _ none) (by simp)
  have hz : ∀ w', (zeroValue 27).run Tryz.prog w' = .ok (.agg #[.string ⟨#[]⟩, .slice none 0 0]) w' := fun w' => Tryz.zeroValue27 w'
  cases hvb : varB s with
  | true =>
   have HVB := hide hvb
   clear hvb
   have HM2 := hide (HM.out.below (fun b hb => (HY.out b hb).1) HB2.out)
   have HS22 := hide (HS2.out.later HB2.out)
   have s0 : ((w.alloc (.cells #[.string s, .slice a l.length c] 27)).alloc (.cells #[.string s2, .slice a2 m.length c2] 27)).cell? ⟨S, 0, none⟩ = some (.map (some q)) := (HSB.out.below HB2.out hSl).cell 0
   have a0 := PA.out.cell 0
   have b0 := PB.out.cell 0
   have b1 := PB.out.cell 1
   cases hf : forT (Z.map (·.1)) s with
   | some x =>
    obtain ⟨y, hy, rfl, hg⟩ := mapGet_forT.2 x hf
    have HR := hide (mtT_old (l := l) (t := ⟨s2, m⟩) HVB.out hf)
    have HSY := hide (HM2.out.2 y hy)
    have hlk : (Instr.lookup 100 (.map (some q)) (.string s) true).run Tryz.prog ((w.alloc (.cells #[.string s, .slice a l.length c] 27)).alloc (.cells #[.string s2, .slice a2 m.length c2] 27)) = .ok (.tuple #[.agg #[.string y.1.t.name, .slice y.2.1 y.1.t.args.length y.2.2], .bool true]) ((w.alloc (.cells #[.string s, .slice a l.length c] 27)).alloc (.cells #[.string s2, .slice a2 m.length c2] 27)) := by
     rw [run_look (P := Tryz.prog) Tryz.underlying100 Tryz.underlying9 (hz _) HM2.out.1 s, hg]; rfl
    clear hf hg hy
    have b0' : ∀ o, (((w.alloc (.cells #[.string s, .slice a l.length c] 27)).alloc (.cells #[.string s2, .slice a2 m.length c2] 27)).alloc o).cell? ⟨w.heap.size + 1, 0, none⟩ = some (.string s2) := fun o => (PB.out.alloc o).cell 0
    have b1' : ∀ o, (((w.alloc (.cells #[.string s, .slice a l.length c] 27)).alloc (.cells #[.string s2, .slice a2 m.length c2] 27)).alloc o).cell? ⟨w.heap.size + 1, 1, none⟩ = some (.slice a2 m.length c2) := fun o => (PB.out.alloc o).cell 1
    have SK : Hid (Calls Tryz.prog 74 #[.agg #[.string y.1.t.name, .slice y.2.1 y.1.t.args.length y.2.2], .agg #[.string s2, .slice a2 m.length c2]] (((w.alloc (.cells #[.string s, .slice a l.length c] 27)).alloc (.cells #[.string s2, .slice a2 m.length c2] 27)).alloc (.cells #[.string y.1.t.name, .slice y.2.1 y.1.t.args.length y.2.2] 27)) fun e w' => e = .returned (.bool (sameB y.1.t ⟨s2, m⟩)) ∧ Below ((w.alloc (.cells #[.string s, .slice a l.length c] 27)).alloc (.cells #[.string s2, .slice a2 m.length c2] 27)).heap.size ((w.alloc (.cells #[.string s, .slice a l.length c] 27)).alloc (.cells #[.string s2, .slice a2 m.length c2] 27)) w') := by
     refine (sameK_all y.1.t ⟨s2, m⟩ _ _ _ Y Y ⟨_, _, rfl, HSY.out.later ((Below.refl _ _).alloc (Nat.le_refl _) _)⟩ ⟨_, _, rfl, HS22.out.later ((Below.refl _ _).alloc (Nat.le_refl _) _)⟩).mono ?_
     rintro e w5 ⟨rfl, hb5⟩
     exact ⟨rfl, ((Below.refl _ _).alloc (Nat.le_refl _) _).trans (hb5.mono (by simp))⟩
    go_enter Tryz.func133, Tryz.ntmps133
    go_wp2_with (go_at_call 65; refine (isVariable_all _ _).mono ?_; rintro e w' ⟨rfl, rfl⟩; rw [HVB.out])
    refine SK.out.mono ?_
    rintro e w5 ⟨rfl, hb5⟩
    have HG5 := hide (grown2_below HG2.out hb5)
    have HM5 := hide (HM2.out.below (fun b hb => by have := (HY.out b hb).1; omega) hb5)
    clear hb5 b0' b1' hlk
    go_wp2_with fail
    go_ret
    refine ⟨HG5.out, ?_⟩
    rw [HR.out]
    cases hsm : sameB y.1.t ⟨s2, m⟩ with
    | true => exact Or.inr ⟨_, Z, by rw [if_pos rfl], rfl, rfl, HM5.out⟩
    | false => exact Or.inl ⟨by rw [if_neg (by simp)], rfl⟩
   | none =>
    have hg := mapGet_forT.1 hf
    have HR := hide (mtT_new (l := l) (t := ⟨s2, m⟩) HVB.out hf)
    have hlk : (Instr.lookup 100 (.map (some q)) (.string s) true).run Tryz.prog ((w.alloc (.cells #[.string s, .slice a l.length c] 27)).alloc (.cells #[.string s2, .slice a2 m.length c2] 27)) = .ok (.tuple #[.agg #[.string ⟨#[]⟩, .slice none 0 0], .bool false]) ((w.alloc (.cells #[.string s, .slice a l.length c] 27)).alloc (.cells #[.string s2, .slice a2 m.length c2] 27)) := by
     rw [run_look (P := Tryz.prog) Tryz.underlying100 Tryz.underlying9 (hz _) HM2.out.1 s, hg]; rfl
    have hbA : Below ((w.alloc (.cells #[.string s, .slice a l.length c] 27)).alloc (.cells #[.string s2, .slice a2 m.length c2] 27)).heap.size ((w.alloc (.cells #[.string s, .slice a l.length c] 27)).alloc (.cells #[.string s2, .slice a2 m.length c2] 27)) (((w.alloc (.cells #[.string s, .slice a l.length c] 27)).alloc (.cells #[.string s2, .slice a2 m.length c2] 27)).alloc (.cells #[.string ⟨#[]⟩, .slice none 0 0] 27)) := (Below.refl _ _).alloc (Nat.le_refl _) _
    have HM3 := hide (HM2.out.below (fun b hb => by have := (HY.out b hb).1; omega) hbA)
    have HG3 := hide (grown2_below HG2.out hbA)
    have HB3 := hide (HB2.out.trans (hbA.mono HB2.out.size))
    have s0' : (((w.alloc (.cells #[.string s, .slice a l.length c] 27)).alloc (.cells #[.string s2, .slice a2 m.length c2] 27)).alloc (.cells #[.string ⟨#[]⟩, .slice none 0 0] 27)).cell? ⟨S, 0, none⟩ = some (.map (some q)) := (HSB.out.below HB3.out hSl).cell 0
    have a0' : (((w.alloc (.cells #[.string s, .slice a l.length c] 27)).alloc (.cells #[.string s2, .slice a2 m.length c2] 27)).alloc (.cells #[.string ⟨#[]⟩, .slice none 0 0] 27)).cell? ⟨w.heap.size, 0, none⟩ = some (.string s) := (PA.out.alloc _).cell 0
    have b0' : (((w.alloc (.cells #[.string s, .slice a l.length c] 27)).alloc (.cells #[.string s2, .slice a2 m.length c2] 27)).alloc (.cells #[.string ⟨#[]⟩, .slice none 0 0] 27)).cell? ⟨w.heap.size + 1, 0, none⟩ = some (.string s2) := (PB.out.alloc _).cell 0
    have b1' : (((w.alloc (.cells #[.string s, .slice a l.length c] 27)).alloc (.cells #[.string s2, .slice a2 m.length c2] 27)).alloc (.cells #[.string ⟨#[]⟩, .slice none 0 0] 27)).cell? ⟨w.heap.size + 1, 1, none⟩ = some (.slice a2 m.length c2) := (PB.out.alloc _).cell 1
    obtain ⟨w8, hrun, hM8, hz8, ho8, ht8, hu8, hk8⟩ := run_put (P := Tryz.prog) Tryz.underlying100 Tryz.underlying9 HM3.out.1 s (.agg #[.string s2, .slice a2 m.length c2]) hg
    have HM8 : Hid (FtM w8 q Y (Z ++ [(⟨s, ⟨s2, m⟩⟩, a2, c2)])) := ⟨by rw [List.map_append]; exact hM8, fun x hx => by
     rcases List.mem_append.1 hx with hx | hx
     ·exact (HM3.out.2 x hx).kept fun b hb => hk8 b (HY.out b hb).2
     ·have e : x = (⟨s, ⟨s2, m⟩⟩, a2, c2) := by simpa using hx
      subst e
      exact (HS2.out.later HB3.out).kept fun b hb => hk8 b (HY.out b hb).2⟩
    have HG8 : Hid (w.grownBy w8 (some q)) := ⟨ho8.trans HG3.out.os, ht8.trans HG3.out.tape, hu8.trans HG3.out.output, by rw [hz8]; exact HG3.out.size, fun j hj hne => (hk8 j (fun e => hne (by rw [e]))).trans (HG3.out.block j hj hne)⟩
    clear hf hg hbA hM8 hz8 ho8 ht8 hu8 hk8
    go_enter Tryz.func133, Tryz.ntmps133
    go_wp2_with (go_at_call 65; refine (isVariable_all _ _).mono ?_; rintro e w' ⟨rfl, rfl⟩; rw [HVB.out])
    go_ret
    refine ⟨HG8.out, ?_⟩
    rw [HR.out]
    exact Or.inr ⟨_, _, rfl, rfl, by simp, HM8.out⟩
  | false =>
   have HVB := hide hvb
   clear hvb
   rw [shT_deep HVB.out, Bool.and_eq_true, Bool.and_eq_true] at hsh
   obtain ⟨⟨hn, hm⟩, hsh⟩ := hsh
   have hm : l.length = m.length := by simpa using hm
   have HSH := hide ((shL_iff l m hm).1 hsh)
   clear hsh
   have HR := hide (mtT_deep (h := Z.map (·.1)) HVB.out hn hm)
   have HLM := hide hm
   rw [← hm] at HG2 HB2 PA PB hz2 hl2 ⊢
   clear hm
   go_enter Tryz.func133, Tryz.ntmps133
   go_wp2_with (go_at_call 65; refine (isVariable_all _ _).mono ?_; rintro e w' ⟨rfl, rfl⟩; rw [HVB.out])
   generalize (w.alloc (.cells #[.string s, .slice a l.length c] 27)).alloc (.cells #[.string s2, .slice a2 l.length c2] 27) = w2 at *
   go_loopw [36] (fun i wr => FlInv w2 q Y l m (Z.map (·.1)) i wr) (fun i wr => l.length - (intOf i).toNat)
   case atStart => exact ⟨0, Z, Nat.zero_le _, rfl, by simp [mtL], HM.out.below (fun b hb => (HY.out b hb).1) HB2.out, ⟨rfl, rfl, rfl, Nat.le_refl _, fun _ _ _ => rfl⟩⟩
   case round =>
    obtain ⟨k, Z', hk, rfl, hT, hMk, hg⟩ := hrel
    have HT := hide hT
    have HMK := hide hMk
    have HGK := hide hg
    have hwr : w.heap.size + 2 ≤ wr.heap.size := by have := hg.size; omega
    have PAK : Hid (Blk wr w.heap.size #[.string s, .slice a l.length c] 27) := (hg.block w.heap.size (by omega) (by simp; omega)).trans PA.out
    have PBK : Hid (Blk wr (w.heap.size + 1) #[.string s2, .slice a2 l.length c2] 27) := (hg.block (w.heap.size + 1) (by omega) (by simp; omega)).trans PB.out
    have FBK : Hid (Blk wr F #[.func (.func 133) #[] #[.pointer (some ⟨S, 0, none⟩), .pointer (some ⟨F, 0, none⟩)]] 49) := (hg.block F (by omega) (by simpa using hFq)).trans (HFB.out.below HB2.out hFl)
    have SBK : Hid (Blk wr S #[.map (some q)] 100) := (hg.block S (by omega) (by simpa using hSq)).trans (HSB.out.below HB2.out hSl)
    have HSK : Hid (Sl wr Y a l) := (HS.out.later HB2.out).kept fun b hb => by
     have h1 := HY.out b hb
     exact hg.block b (by omega) (by simpa using h1.2)
    have HSK2 : Hid (Sl wr Y a2 m) := (HS2.out.later HB2.out).kept fun b hb => by
     have h1 := HY.out b hb
     exact hg.block b (by omega) (by simpa using h1.2)
    have f0 := FBK.out.c0
    have a1 := PAK.out.c1
    clear hT hMk hg
    by_cases hlt' : k < l.length
    ·have hlt2 : (k : Int) < (l.length : Int) := by omega
     have hltm : k < m.length := by have := HLM.out; omega
     obtain ⟨b, o, a', c', rfl, d0, d1, hx⟩ := HSK.out.get (Below.refl _ _) (fun _ _ h => h) k hlt'
     obtain ⟨b2, o2, a2', c2', rfl, e0, e1, hx2⟩ := HSK2.out.get (Below.refl _ _) (fun _ _ h => h) k hltm
     have HX := hide hx
     have HX2 := hide hx2
     have b1 : wr.cell? ⟨w.heap.size + 1, 1, none⟩ = some (.slice (some ⟨b2, o2, none⟩) l.length c2) := PBK.out.cell 1
     have HS0 := hide (And.intro f0 (And.intro a1 (And.intro b1 (And.intro d0 (And.intro d1 (And.intro e0 e1))))))
     have hbY : b < w.heap.size ∧ b ≠ q := by
      obtain ⟨_, h1⟩ := HSK.out
      rcases h1 with h1 | ⟨b', o', e', h1⟩
      ·rw [h1] at hlt'; simp at hlt'
      ·cases e'; exact HY.out _ (lies_get _ _ _ h1 k hlt').1
     have hb2Y : b2 < w.heap.size ∧ b2 ≠ q := by
      obtain ⟨_, h1⟩ := HSK2.out
      rcases h1 with h1 | ⟨b', o', e', h1⟩
      ·rw [h1] at hltm; simp at hltm
      ·cases e'; exact HY.out _ (lies_get _ _ _ h1 k hltm).1
     have IHK := hide (IH.out l[k] (List.getElem_mem hlt') m[k] Z' (.agg #[.string l[k].name, .slice a' l[k].args.length c']) (.agg #[.string m[k].name, .slice a2' m[k].args.length c2']) wr.drew (by exact HX.out.later (below_drewN (Below.refl _ _) 1)) (by exact HX2.out.later (below_drewN (Below.refl _ _) 1)) (by exact SBK.out) (by exact FBK.out) (by exact HMK.out.below (fun b hb => by have := (HY.out b hb).1; omega) (below_drewN (Below.refl _ _) 1)) (fun b hb => by have := HY.out b hb; exact ⟨by simp; omega, this.2⟩) (HSH.out k hlt' hltm))
     have SEV : Hid (∀ w1, wr.drew.grownBy w1 (some q) → w1.cell? ⟨F, 0, none⟩ = some (.func (.func 133) #[] #[.pointer (some ⟨S, 0, none⟩), .pointer (some ⟨F, 0, none⟩)]) ∧ w1.cell? ⟨w.heap.size, 1, none⟩ = some (.slice (some ⟨b, o, none⟩) l.length c) ∧ w1.cell? ⟨w.heap.size + 1, 1, none⟩ = some (.slice (some ⟨b2, o2, none⟩) l.length c2) ∧ w1.cell? ⟨b, o + k * 2, none⟩ = some (.string l[k].name) ∧ w1.cell? ⟨b, o + k * 2 + 1, none⟩ = some (.slice a' l[k].args.length c') ∧ w1.cell? ⟨b2, o2 + k * 2, none⟩ = some (.string m[k].name) ∧ w1.cell? ⟨b2, o2 + k * 2 + 1, none⟩ = some (.slice a2' m[k].args.length c2')) := fun w1 hg1 => by
      have kp : ∀ b o, b < wr.heap.size → b ≠ q → w1.cell? ⟨b, o, none⟩ = wr.cell? ⟨b, o, none⟩ := fun b o hb hne => hg1.cell_far ⟨b, o, none⟩ (by simpa using hb) (by simpa using hne)
      have h := HS0.out
      exact ⟨(kp _ _ (by omega) hFq).trans h.1, (kp _ _ (by omega) (by omega)).trans h.2.1, (kp _ _ (by omega) (by omega)).trans h.2.2.1, (kp _ _ (by omega) hbY.2).trans h.2.2.2.1, (kp _ _ (by omega) hbY.2).trans h.2.2.2.2.1, (kp _ _ (by omega) hb2Y.2).trans h.2.2.2.2.2.1, (kp _ _ (by omega) hb2Y.2).trans h.2.2.2.2.2.2⟩
     have HNO := hide (fun h0 => mtL_no hlt' HLM.out HT.out h0)
     have HNX := hide (fun h'' (h0 : mtT l[k] m[k] (Z'.map (·.1)) = some h'') => mtL_next hlt' hltm HT.out h0)
     have HGO : Hid (∀ w1, wr.drew.grownBy w1 (some q) → w2.grownBy w1 (some q)) := fun w1 hg1 => (grown2_below HGK.out (below_drewN (Below.refl _ _) 1)).andThen hg1 (fun j hj => Or.inr hj)
     clear hx hx2 hbY hb2Y
     generalize l[k] = y at *
     generalize m[k] = z at *
     go_wp2_with fail
     cases hr : mtT y z (Z'.map (·.1)) with
     | none =>
      have IHN : Hid (Calls Tryz.prog 133 #[.agg #[.string y.name, .slice a' y.args.length c'], .agg #[.string z.name, .slice a2' z.args.length c2'], .pointer (some ⟨S, 0, none⟩), .pointer (some ⟨F, 0, none⟩)] wr.drew fun e w' => e = .returned (.bool false) ∧ wr.drew.grownBy w' (some q)) := by
       refine IHK.out.mono ?_
       rintro e w1 ⟨hg1, ⟨_, rfl⟩ | ⟨h', Z1, h0, _⟩⟩
       ·exact ⟨rfl, hg1⟩
       ·rw [hr] at h0; cases h0
      have HF : Hid (mtT ⟨s, l⟩ ⟨s2, m⟩ (Z.map (·.1)) = none) := by unfold Hid; rw [HR.out, HNO.out hr]
      go_region_held3 (fun w' => w'.cell? ⟨F, 0, none⟩ = some (.func (.func 133) #[] #[.pointer (some ⟨S, 0, none⟩), .pointer (some ⟨F, 0, none⟩)]) ∧ w'.cell? ⟨w.heap.size, 1, none⟩ = some (.slice (some ⟨b, o, none⟩) l.length c) ∧ w'.cell? ⟨w.heap.size + 1, 1, none⟩ = some (.slice (some ⟨b2, o2, none⟩) l.length c2) ∧ w'.cell? ⟨b, o + k * 2, none⟩ = some (.string y.name) ∧ w'.cell? ⟨b, o + k * 2 + 1, none⟩ = some (.slice a' y.args.length c') ∧ w'.cell? ⟨b2, o2 + k * 2, none⟩ = some (.string z.name) ∧ w'.cell? ⟨b2, o2 + k * 2 + 1, none⟩ = some (.slice a2' z.args.length c2')) (first | exact HS0.out | exact hS1 | go_keep)
       ((go_at_call 133; refine IHN.out.mono ?_; rintro e w1 ⟨rfl, hg1⟩; have hS1 := SEV.out w1 hg1))
      have HG1 := hide (HGO.out w1 hg1)
      clear hg1 hS1
      go_wp2_with fail
      go_ret
      exact ⟨HG2.out.andThen HG1.out (fun j hj => Or.inr hj), Or.inl ⟨HF.out, rfl⟩⟩
     | some h' =>
      have IHS : Hid (Calls Tryz.prog 133 #[.agg #[.string y.name, .slice a' y.args.length c'], .agg #[.string z.name, .slice a2' z.args.length c2'], .pointer (some ⟨S, 0, none⟩), .pointer (some ⟨F, 0, none⟩)] wr.drew fun e w' => e = .returned (.bool true) ∧ wr.drew.grownBy w' (some q) ∧ ∃ Z1 : List Bc, Z1.map (·.1) = h' ∧ FtM w' q Y Z1) := by
       refine IHK.out.mono ?_
       rintro e w1 ⟨hg1, ⟨h0, _⟩ | ⟨h'', Z1, h0, rfl, h2, h3⟩⟩
       ·rw [hr] at h0; cases h0
       ·rw [hr] at h0
        cases h0
        exact ⟨rfl, hg1, Z1, h2, h3⟩
      have HN := hide (HNX.out h' hr)
      go_region_held3 (fun w' => w'.cell? ⟨F, 0, none⟩ = some (.func (.func 133) #[] #[.pointer (some ⟨S, 0, none⟩), .pointer (some ⟨F, 0, none⟩)]) ∧ w'.cell? ⟨w.heap.size, 1, none⟩ = some (.slice (some ⟨b, o, none⟩) l.length c) ∧ w'.cell? ⟨w.heap.size + 1, 1, none⟩ = some (.slice (some ⟨b2, o2, none⟩) l.length c2) ∧ w'.cell? ⟨b, o + k * 2, none⟩ = some (.string y.name) ∧ w'.cell? ⟨b, o + k * 2 + 1, none⟩ = some (.slice a' y.args.length c') ∧ w'.cell? ⟨b2, o2 + k * 2, none⟩ = some (.string z.name) ∧ w'.cell? ⟨b2, o2 + k * 2 + 1, none⟩ = some (.slice a2' z.args.length c2')) (first | exact HS0.out | exact hS1 | go_keep)
       ((go_at_call 133; refine IHS.out.mono ?_; rintro e w1 ⟨rfl, hg1, Z1, hc1, hm1⟩; have hS1 := SEV.out w1 hg1))
      have HG1 := hide (HGO.out w1 hg1)
      have HC1 := hide hc1
      have HM1 := hide hm1
      clear hg1 hS1 hc1 hm1
      go_wp2_with fail
      go_roundw
      case rel => exact ⟨k + 1, Z1, by omega, by go_num, by rw [HC1.out]; exact HN.out, HM1.out, HG1.out⟩
      case measure => simp [intOf]; omega
    ·have HF : Hid (mtT ⟨s, l⟩ ⟨s2, m⟩ (Z.map (·.1)) = some (Z'.map (·.1))) := by
      unfold Hid
      rw [HR.out, ← HT.out, List.take_of_length_le (by omega), List.take_of_length_le (by have := HLM.out; omega)]
     have HGF := hide (HG2.out.andThen HGK.out (fun j hj => Or.inr hj))
     go_wp2_with fail
     go_ret
     exact ⟨HGF.out, Or.inr ⟨_, Z', HF.out, rfl, rfl, HMK.out⟩⟩
def PtT (w : World) (X : Nat → Prop) (b o : Nat) (t : Tm) : Prop := ∃ a c, w.cell? ⟨b, o, none⟩ = some (.string t.name) ∧ w.cell? ⟨b, o + 1, none⟩ = some (.slice a t.args.length c) ∧ Sl w X a t.args ∧ b < w.heap.size
theorem PtT.later {w w' : World} {X : Nat → Prop} {b o : Nat} {t : Tm} (h : PtT w X b o t) (hb : Below w.heap.size w w') : PtT w' X b o t := by
 obtain ⟨a, c, h1, h2, h3, h4⟩ := h
 exact ⟨a, c, (hb.cell (p := ⟨b, o, none⟩) h4).trans h1, (hb.cell (p := ⟨b, o + 1, none⟩) h4).trans h2, h3.later hb, Nat.lt_of_lt_of_le h4 hb.size⟩
theorem PtT.lt {w : World} {X : Nat → Prop} {b o : Nat} {t : Tm} (h : PtT w X b o t) : b < w.heap.size := by
 obtain ⟨a, c, h1, h2, h3, h4⟩ := h
 exact h4
theorem PtT.sub {w : World} {X : Nat → Prop} {b o : Nat} {t : Tm} (h : PtT w X b o t) : ∃ a c, w.cell? ⟨b, o + 1, none⟩ = some (.slice a t.args.length c) ∧ ∀ k (hk : k < t.args.length), ∃ b' o', a = some ⟨b', o', none⟩ ∧ PtT w X b' (o' + k * 2) t.args[k] := by
 obtain ⟨a, c, h1, h2, h3, h4⟩ := h
 refine ⟨a, c, h2, fun k hk => ?_⟩
 obtain ⟨b', o', a', c', rfl, d0, d1, hx⟩ := h3.get (Below.refl _ _) (fun _ _ h => h) k hk
 obtain ⟨a2, c2, e2, hx⟩ := hx
 cases e2
 exact ⟨b', o', rfl, a', c', d0, d1, hx, cell_lt d0⟩
def ShInv (w : World) (l m : List Tm) (i : Value) (wr : World) : Prop :=
 ∃ k : Nat, k ≤ l.length ∧ i = .int .i64 (k : Int) ∧ (∀ j (h : j < l.length) (h2 : j < m.length), j < k → shT l[j] m[j] = true) ∧ Below w.heap.size w wr
set_option maxHeartbeats 1000000 in
theorem isShaped_any (X : Nat → Prop) (p : Tm) : ∀ (t : Tm) (b o b2 o2 : Nat) (w : World), PtT w X b o p → PtT w X b2 o2 t →
  Calls Tryz.prog 132 #[.pointer (some ⟨b, o, none⟩), .pointer (some ⟨b2, o2, none⟩)] w fun e w' => e = .returned (.bool (shT p t)) ∧ Below w.heap.size w w' := by
 induction p using Tm.ind with
 | h s l ih =>
  intro t b o b2 o2 w hp ht
  obtain ⟨s2, m⟩ := t
  have IH := hide ih
  have HP := hide hp
  have HT := hide ht
  obtain ⟨a, c, p0, p1, hs, hbl⟩ := hp
  obtain ⟨a2, c2, t0, t1, hs2, hbl2⟩ := ht
  dsimp only at p0 p1 hs t0 t1 hs2 ⊢
  have hl := hs.1
  have hl2 := hs2.1
  clear ih hs hs2
  cases hvb : varB s with
  | true =>
   have HR := hide (shT_var (l := l) (t := ⟨s2, m⟩) hvb)
   go_enter Tryz.func132, Tryz.ntmps132
   go_wp2_with (go_at_call 65; refine (isVariable_all _ _).mono ?_; rintro e w ⟨rfl, rfl⟩; rw [hvb])
   refine bodyPost_ret (v := .bool true) (by simp [results, Tryz.results132, go_sem]) rfl ?_
   exact ⟨by rw [HR.out], Below.refl _ _⟩
  | false =>
   have HVB := hide hvb
   cases hn : (s.toList == s2.toList) with
   | false =>
    have HR : Hid (shT ⟨s, l⟩ ⟨s2, m⟩ = false) := by unfold Hid; rw [shT_deep hvb, hn]; rfl
    go_enter Tryz.func132, Tryz.ntmps132
    have HS0 := hide (And.intro p0 (And.intro p1 (And.intro t0 t1)))
    go_wp2_with (go_at_call 65; refine (isVariable_all _ _).mono ?_; rintro e w ⟨rfl, rfl⟩; rw [hvb])
    refine wp_region_held_drew (S := fun w' => w'.cell? ⟨b, o, none⟩ = some (.string s) ∧ w'.cell? ⟨b, o + 1, none⟩ = some (.slice a l.length c) ∧ w'.cell? ⟨b2, o2, none⟩ = some (.string s2) ∧ w'.cell? ⟨b2, o2 + 1, none⟩ = some (.slice a2 m.length c2)) (by kernel_rfl) HS0.out (fun hHeld => ?_)
    refine tkq (v := ?_) 0 rfl ?_ ?_
    rotate_left
    ·intro w' hSw
     obtain ⟨k1, k2, k3, k4⟩ := hSw
     go_simp <;> with_reducible rfl
    try simp only [Act.put, sq]
    refine tkq (v := ?_) 1 rfl ?_ ?_
    rotate_left
    ·intro w' hSw
     obtain ⟨k1, k2, k3, k4⟩ := hSw
     go_simp <;> with_reducible rfl
    try simp only [Act.put, sq]
    refine tkq (v := ?_) 2 rfl ?_ ?_
    rotate_left
    ·intro w' hSw
     obtain ⟨k1, k2, k3, k4⟩ := hSw
     go_simp <;> with_reducible rfl
    try simp only [Act.put, sq]
    refine tkq (v := ?_) 3 rfl ?_ ?_
    rotate_left
    ·intro w' hSw
     obtain ⟨k1, k2, k3, k4⟩ := hSw
     go_simp <;> with_reducible rfl
    try simp only [Act.put, sq]
    refine tkq (v := ?_) 4 rfl ?_ ?_
    rotate_left
    ·intro w' hSw
     obtain ⟨k1, k2, k3, k4⟩ := hSw
     go_simp <;> with_reducible rfl
    try simp only [Act.put, sq]
    refine tkq (v := ?_) 5 rfl ?_ ?_
    rotate_left
    ·intro w' hSw
     obtain ⟨k1, k2, k3, k4⟩ := hSw
     go_simp <;> with_reducible rfl
    try simp only [Act.put, sq]
    refine tkq (v := ?_) 6 rfl ?_ ?_
    rotate_left
    ·intro w' hSw
     obtain ⟨k1, k2, k3, k4⟩ := hSw
     go_simp <;> with_reducible rfl
    try simp only [Act.put, sq]
    refine tkq (v := ?_) 7 rfl ?_ ?_
    rotate_left
    ·intro w' hSw
     obtain ⟨k1, k2, k3, k4⟩ := hSw
     go_simp <;> with_reducible rfl
    try simp only [Act.put, sq]
    refine tkq (v := ?_) 8 rfl ?_ ?_
    rotate_left
    ·intro w' hSw
     obtain ⟨k1, k2, k3, k4⟩ := hSw
     go_simp <;> with_reducible rfl
    try simp only [Act.put, sq]
    refine tkq (v := ?_) 9 rfl ?_ ?_
    rotate_left
    ·intro w' hSw
     obtain ⟨k1, k2, k3, k4⟩ := hSw
     go_simp <;> with_reducible rfl
    try simp only [Act.put, sq]
    refine wpAnyH_take (i := 10) (v := undef) rfl (by kernel_rfl) (by kernel_rfl) (by kernel_rfl) (fun _ _ _ h => h) (Or.inr ⟨by rfl, rfl⟩) (by assumption) ?_
    try simp only [Act.put, sq]
    refine wpAnyH_take (i := 11) (v := undef) rfl (by kernel_rfl) (by kernel_rfl) (by kernel_rfl) (fun _ _ _ h => h) (Or.inr ⟨by rfl, rfl⟩) (by assumption) ?_
    try simp only [Act.put, sq]
    refine wpAnyH_take (i := 12) (v := undef) rfl (by kernel_rfl) (by kernel_rfl) (by kernel_rfl) (fun _ _ _ h => h) (Or.inr ⟨by rfl, rfl⟩) (by assumption) ?_
    try simp only [Act.put, sq]
    refine wpAnyH_take (i := 13) (v := undef) rfl (by kernel_rfl) (by kernel_rfl) (by kernel_rfl) (fun _ _ _ h => h) (Or.inr ⟨by rfl, rfl⟩) (by assumption) ?_
    try simp only [Act.put, sq]
    refine wpAnyH_take (i := 14) (v := undef) rfl (by kernel_rfl) (by kernel_rfl) (by kernel_rfl) (fun _ _ _ h => h) (Or.inr ⟨by rfl, rfl⟩) (by assumption) ?_
    try simp only [Act.put, sq]
    refine wpAnyH_take (i := 15) (v := undef) rfl (by kernel_rfl) (by kernel_rfl) (by kernel_rfl) (fun _ _ _ h => h) (Or.inr ⟨by rfl, rfl⟩) (by assumption) ?_
    try simp only [Act.put, sq]
    refine wpAnyH_take (i := 16) (v := undef) rfl (by kernel_rfl) (by kernel_rfl) (by kernel_rfl) (fun _ _ _ h => h) (Or.inr ⟨by rfl, rfl⟩) (by assumption) ?_
    try simp only [Act.put, sq]
    refine wpAnyH_take (i := 17) (v := undef) rfl (by kernel_rfl) (by kernel_rfl) (by kernel_rfl) (fun _ _ _ h => h) (Or.inr ⟨by rfl, rfl⟩) (by assumption) ?_
    try simp only [Act.put, sq]
    refine wpAnyH_take (i := 18) (v := undef) rfl (by kernel_rfl) (by kernel_rfl) (by kernel_rfl) (fun _ _ _ h => h) (Or.inr ⟨by rfl, rfl⟩) (by assumption) ?_
    try simp only [Act.put, sq]
    refine wpAnyH_take (i := 19) (v := undef) rfl (by kernel_rfl) (by kernel_rfl) (by kernel_rfl) (fun _ _ _ h => h) (Or.inr ⟨by rfl, rfl⟩) (by assumption) ?_
    try simp only [Act.put, sq]
    refine wpAnyH_take (i := 20) (v := undef) rfl (by kernel_rfl) (by kernel_rfl) (by kernel_rfl) (fun _ _ _ h => h) (Or.inr ⟨by rfl, rfl⟩) (by assumption) ?_
    try simp only [Act.put, sq]
    refine tkq (v := ?_) 21 rfl ?_ ?_
    rotate_left
    ·intro w' hSw
     obtain ⟨k1, k2, k3, k4⟩ := hSw
     go_simp <;> with_reducible rfl
    try simp only [Act.put, sq]
    refine wpAnyH_done (by kernel_rfl) ?_ _
    go_wp2_with fail
    refine bodyPost_ret (v := .bool false) (by simp [results, Tryz.results132, go_sem]) rfl ?_
    exact ⟨by rw [HR.out], (Below.refl _ _).drew⟩
   | true =>
    by_cases hm : l.length = m.length
    case neg =>
     have HR : Hid (shT ⟨s, l⟩ ⟨s2, m⟩ = false) := by unfold Hid; rw [shT_deep hvb, hn]; simp [hm]
     have hm2 : ((l.length : Int) == (m.length : Int)) = false := beq_eq_false_iff_ne.2 (by omega)
     have hm3 : ((l.length : Int) != (m.length : Int)) = true := by simp [bne, hm2]
     clear hm
     go_enter Tryz.func132, Tryz.ntmps132
     have HS0 := hide (And.intro p0 (And.intro p1 (And.intro t0 t1)))
     go_wp2_with (go_at_call 65; refine (isVariable_all _ _).mono ?_; rintro e w ⟨rfl, rfl⟩; rw [hvb])
     go_region_held3 (fun w' => w'.cell? ⟨b, o, none⟩ = some (.string s) ∧ w'.cell? ⟨b, o + 1, none⟩ = some (.slice a l.length c) ∧ w'.cell? ⟨b2, o2, none⟩ = some (.string s2) ∧ w'.cell? ⟨b2, o2 + 1, none⟩ = some (.slice a2 m.length c2)) (first | exact HS0.out | go_keep) (fail)
     go_wp2_with fail
     refine bodyPost_ret (v := .bool false) (by simp [results, Tryz.results132, go_sem]) rfl ?_
     exact ⟨by rw [HR.out], (Below.refl _ _).drew⟩
    case pos =>
     have HR : Hid (shT ⟨s, l⟩ ⟨s2, m⟩ = shL l m) := by unfold Hid; rw [shT_deep hvb, hn]; simp [hm]
     have HLM := hide hm
     rw [← hm] at t1 hl2
     clear hm
     go_enter Tryz.func132, Tryz.ntmps132
     have HS0 := hide (And.intro p0 (And.intro p1 (And.intro t0 t1)))
     go_wp2_with (go_at_call 65; refine (isVariable_all _ _).mono ?_; rintro e w ⟨rfl, rfl⟩; rw [hvb])
     go_region_held3 (fun w' => w'.cell? ⟨b, o, none⟩ = some (.string s) ∧ w'.cell? ⟨b, o + 1, none⟩ = some (.slice a l.length c) ∧ w'.cell? ⟨b2, o2, none⟩ = some (.string s2) ∧ w'.cell? ⟨b2, o2 + 1, none⟩ = some (.slice a2 l.length c2)) (first | exact HS0.out | go_keep) (fail)
     go_wp2_with fail
     go_loopw [38] (fun i wr => ShInv w l m i wr) (fun i wr => l.length - (intOf i).toNat)
     case atStart => exact ⟨0, Nat.zero_le _, rfl, fun j _ _ h => absurd h (by omega), (Below.refl _ _).drew⟩
     case round =>
      obtain ⟨k, hk, rfl, hT, hB⟩ := hrel
      have HTK := hide hT
      have HB := hide hB
      have HPK := hide (HP.out.later hB)
      have HTT := hide (HT.out.later hB)
      clear hT hB
      by_cases hlt : k < l.length
      ·have hltm : k < m.length := by have := HLM.out; omega
       obtain ⟨a', c', q1, hsub⟩ := HPK.out.sub
       obtain ⟨b', o', rfl, hx⟩ := hsub k hlt
       obtain ⟨a2', c2', r1, hsub2⟩ := HTT.out.sub
       obtain ⟨b2', o2', rfl, hx2⟩ := hsub2 k hltm
       dsimp only at q1 r1 hx hx2
       rw [← HLM.out] at r1
       have hk2 : (k : Int) < (l.length : Int) := by omega
       have HS1 := hide (And.intro q1 r1)
       have HI : Hid (Calls Tryz.prog 132 #[.pointer (some ⟨b', o' + k * 2, none⟩), .pointer (some ⟨b2', o2' + k * 2, none⟩)] wr.drew fun e w' => e = .returned (.bool (shT l[k] m[k])) ∧ Below wr.drew.heap.size wr.drew w') := IH.out l[k] (List.getElem_mem hlt) m[k] b' (o' + k * 2) b2' (o2' + k * 2) wr.drew (hx.later ((Below.refl _ _).drew)) (hx2.later ((Below.refl _ _).drew))
       have HNO := hide (fun h0 => shL_no HLM.out hlt hltm h0)
       have HNX : Hid (shT l[k] m[k] = true → ∀ j (h : j < l.length) (h2 : j < m.length), j < k + 1 → shT l[j] m[j] = true) := fun h0 j h h2 hj => by
        by_cases e : j = k
        ·subst e; exact h0
        ·exact HTK.out j h h2 (by omega)
       have hkp : ∀ w5, Below wr.drew.heap.size wr.drew w5 → w5.cell? ⟨b, o + 1, none⟩ = some (.slice (some ⟨b', o', none⟩) l.length c') ∧ w5.cell? ⟨b2, o2 + 1, none⟩ = some (.slice (some ⟨b2', o2', none⟩) l.length c2') := fun w5 h5 => ⟨(h5.cell (p := ⟨b, o + 1, none⟩) (HPK.out.lt)).trans HS1.out.1, (h5.cell (p := ⟨b2, o2 + 1, none⟩) (HTT.out.lt)).trans HS1.out.2⟩
       have HKP := hide hkp
       clear hsub hsub2 hx hx2 hkp
       generalize shT l[k] m[k] = y at *
       go_wp2_with fail
       go_region_held3 (fun w' => w'.cell? ⟨b, o + 1, none⟩ = some (.slice (some ⟨b', o', none⟩) l.length c') ∧ w'.cell? ⟨b2, o2 + 1, none⟩ = some (.slice (some ⟨b2', o2', none⟩) l.length c2')) (first | exact HS1.out | exact hS5 | go_keep)
        ((go_at_call 132; refine HI.out.mono ?_; rintro e w5 ⟨rfl, hb5⟩; have hS5 := HKP.out w5 hb5))
       have HB5 := hide (HB.out.trans (((Below.refl _ _).drew.trans hb5).mono HB.out.size))
       clear hb5 hS5
       cases y with
       | false =>
        have HF := hide (HR.out.trans (HNO.out rfl))
        go_wp2_with fail
        refine bodyPost_ret (v := .bool false) (by simp [results, Tryz.results132, go_sem]) rfl ?_
        exact ⟨by rw [HF.out], HB5.out⟩
       | true =>
        go_wp2_with fail
        go_roundw
        case rel => exact ⟨k + 1, by omega, by go_num, HNX.out rfl, HB5.out⟩
        case measure => simp [intOf]; omega
      ·have HF : Hid (shT ⟨s, l⟩ ⟨s2, m⟩ = true) := by
        unfold Hid
        rw [HR.out, shL_iff l m HLM.out]
        exact fun j h h2 => HTK.out j h h2 (by omega)
       go_wp2_with fail
       refine bodyPost_ret (v := .bool true) (by simp [results, Tryz.results132, go_sem]) rfl ?_
       exact ⟨by rw [HF.out], HB.out⟩
def FitPostN (w : World) (Y : Nat → Prop) (p t : Tm) (e : Ending) (w' : World) : Prop :=
 Below w.heap.size w w' ∧ ((mtT p t [] = none ∧ e = .returned (.tuple #[.map none, .bool false])) ∨
  ∃ (h' : List Bd) (q : Nat) (Z' : List Bc), mtT p t [] = some h' ∧ e = .returned (.tuple #[.map (some q), .bool true]) ∧ Z'.map (·.1) = h' ∧ FtM w' q Y Z' ∧ w.heap.size ≤ q)
theorem fit_start (w : World) (m v : Value) (T1 T2 : Nat) : Below w.heap.size w (((w.alloc (.map #[] 0)).alloc (.cells #[m] T1)).alloc (.cells #[v] T2)) ∧
  MapAt (((w.alloc (.map #[] 0)).alloc (.cells #[m] T1)).alloc (.cells #[v] T2)) w.heap.size [] ∧ Blk (((w.alloc (.map #[] 0)).alloc (.cells #[m] T1)).alloc (.cells #[v] T2)) (w.heap.size + 1) #[m] T1 ∧ Blk (((w.alloc (.map #[] 0)).alloc (.cells #[m] T1)).alloc (.cells #[v] T2)) (w.heap.size + 1 + 1) #[v] T2 := by
 refine ⟨((((Below.refl _ _).alloc (Nat.le_refl _) _).alloc (by simp) _).alloc (by simp; omega) _), ?_, ?_, ?_⟩
 ·have h := MapAt.new w
  have h1 := (h.below ((Below.refl _ _).alloc (Nat.le_refl _) (.cells #[m] T1)) h.lt)
  have h2 := (h1.below ((Below.refl _ _).alloc (Nat.le_refl _) (.cells #[v] T2)) h1.lt)
  simpa using h2
 ·have h := (Blk.new (w.alloc (.map #[] 0)) #[m] T1).alloc (.cells #[v] T2)
  simpa using h
 ·have h := Blk.new ((w.alloc (.map #[] 0)).alloc (.cells #[m] T1)) #[v] T2
  simpa using h
theorem PtT.of_blk {w : World} {X : Nat → Prop} {b : Nat} {t : Tm} {a : Option Addr} {c T : Nat} (h : Blk w b #[.string t.name, .slice a t.args.length c] T) (hs : Sl w X a t.args) : PtT w X b 0 t := ⟨a, c, h.cell 0, h.cell 1, hs, h.lt⟩
set_option maxHeartbeats 400000 in
theorem fitN_any (p t : Tm) (pv tv : Value) (w : World) (X : Nat → Prop) (hp : TV w X pv p) (ht : TV w X tv t) :
  Calls Tryz.prog 115 #[pv, tv] w fun e w' => FitPostN w (fun b => X b ∧ b < w.heap.size) p t e w' := by
 obtain ⟨a, c, rfl, hs⟩ := hp
 obtain ⟨a2, c2, rfl, hs2⟩ := ht
 have HS := hide (hs.mono (Y := fun b => X b ∧ b < w.heap.size) fun b h1 h2 => ⟨h1, h2⟩)
 have HS2 := hide (hs2.mono (Y := fun b => X b ∧ b < w.heap.size) fun b h1 h2 => ⟨h1, h2⟩)
 clear hs hs2
 have hmm := @run_makeMap Tryz.prog
 have hmf : ∀ (fn : Fn) (first cap : Array Value) (w : World), (Instr.makeFunc fn first cap).run Tryz.prog w = .ok (.func fn first cap) w := fun _ _ _ _ => rfl
 have hB2 : Below w.heap.size w ((w.alloc (.cells #[.string p.name, .slice a p.args.length c] 27)).alloc (.cells #[.string t.name, .slice a2 t.args.length c2] 27)) := below2 _ _
 have hP2 : Blk ((w.alloc (.cells #[.string p.name, .slice a p.args.length c] 27)).alloc (.cells #[.string t.name, .slice a2 t.args.length c2] 27)) w.heap.size #[.string p.name, .slice a p.args.length c] 27 := (Blk.new w _ _).alloc _
 have hT2 : Blk ((w.alloc (.cells #[.string p.name, .slice a p.args.length c] 27)).alloc (.cells #[.string t.name, .slice a2 t.args.length c2] 27)) (w.heap.size + 1) #[.string t.name, .slice a2 t.args.length c2] 27 := by
  have h := Blk.new (w.alloc (.cells #[.string p.name, .slice a p.args.length c] 27)) #[.string t.name, .slice a2 t.args.length c2] 27
  simpa using h
 go_enter Tryz.func115, Tryz.ntmps115
 go_wp2_with fail
 generalize (w.alloc (.cells #[.string p.name, .slice a p.args.length c] 27)).alloc (.cells #[.string t.name, .slice a2 t.args.length c2] 27) = w2 at *
 refine (isShaped_any (fun b => X b ∧ b < w.heap.size) p t _ _ _ _ w2 (PtT.of_blk hP2 (HS.out.later hB2)) (PtT.of_blk hT2 (HS2.out.later hB2))).mono ?_
 rintro e w3 ⟨rfl, hb3⟩
 have HB3 := hide (hB2.trans (hb3.mono hB2.size))
 have HP3 := hide (hP2.below hb3 hP2.lt)
 have HT3 := hide (hT2.below hb3 hT2.lt)
 have hlP := HP3.out.lt
 have hlT := HT3.out.lt
 clear hb3 hP2 hT2 hB2
 cases hsh : shT p t with
 | false =>
  have H0 := hide (mtT_unshaped (p := p) (t := t) [] hsh)
  clear hsh
  go_wp2_with fail
  refine bodyPost_ret (v := .tuple #[.map none, .bool false]) (by simp [results, Tryz.results115, go_sem]) rfl ?_
  exact ⟨HB3.out, Or.inl ⟨H0.out, rfl⟩⟩
 | true =>
  have HSH := hide hsh
  clear hsh
  have FS := hide (fit_start w3 (.map (some w3.heap.size)) (.func (.func 133) #[] #[.pointer (some ⟨w3.heap.size + 1, 0, none⟩), .pointer (some ⟨w3.heap.size + 1 + 1, 0, none⟩)]) 100 49)
  have p0 : (((w3.alloc (.map #[] 0)).alloc (.cells #[.map (some w3.heap.size)] 100)).alloc (.cells #[.func (.func 133) #[] #[.pointer (some ⟨w3.heap.size + 1, 0, none⟩), .pointer (some ⟨w3.heap.size + 1 + 1, 0, none⟩)]] 49)).cell? ⟨w.heap.size, 0, none⟩ = some (.string p.name) := (HP3.out.below FS.out.1 hlP).cell 0
  have p1 : (((w3.alloc (.map #[] 0)).alloc (.cells #[.map (some w3.heap.size)] 100)).alloc (.cells #[.func (.func 133) #[] #[.pointer (some ⟨w3.heap.size + 1, 0, none⟩), .pointer (some ⟨w3.heap.size + 1 + 1, 0, none⟩)]] 49)).cell? ⟨w.heap.size, 1, none⟩ = some (.slice a p.args.length c) := (HP3.out.below FS.out.1 hlP).cell 1
  have t0 : (((w3.alloc (.map #[] 0)).alloc (.cells #[.map (some w3.heap.size)] 100)).alloc (.cells #[.func (.func 133) #[] #[.pointer (some ⟨w3.heap.size + 1, 0, none⟩), .pointer (some ⟨w3.heap.size + 1 + 1, 0, none⟩)]] 49)).cell? ⟨w.heap.size + 1, 0, none⟩ = some (.string t.name) := (HT3.out.below FS.out.1 hlT).cell 0
  have t1 : (((w3.alloc (.map #[] 0)).alloc (.cells #[.map (some w3.heap.size)] 100)).alloc (.cells #[.func (.func 133) #[] #[.pointer (some ⟨w3.heap.size + 1, 0, none⟩), .pointer (some ⟨w3.heap.size + 1 + 1, 0, none⟩)]] 49)).cell? ⟨w.heap.size + 1, 1, none⟩ = some (.slice a2 t.args.length c2) := (HT3.out.below FS.out.1 hlT).cell 1
  go_wp2_with fail
  generalize (((w3.alloc (.map #[] 0)).alloc (.cells #[.map (some w3.heap.size)] 100)).alloc (.cells #[.func (.func 133) #[] #[.pointer (some ⟨w3.heap.size + 1, 0, none⟩), .pointer (some ⟨w3.heap.size + 1 + 1, 0, none⟩)]] 49)) = w5 at *
  have HB5 := hide (HB3.out.trans (FS.out.1.mono HB3.out.size))
  have SB5 := hide FS.out.2.2.1
  have hz5 := HB5.out.size
  have hz3 := HB3.out.size
  refine (fits_any (w3.heap.size + 1) (w3.heap.size + 1 + 1) w3.heap.size (fun b => X b ∧ b < w.heap.size) p t [] _ _ w5 ⟨a, c, rfl, HS.out.later HB5.out⟩ ⟨a2, c2, rfl, HS2.out.later HB5.out⟩ FS.out.2.2.1 FS.out.2.2.2 ⟨FS.out.2.1, by simp⟩ (fun b hb => ⟨by omega, by omega⟩) HSH.out).mono ?_
  rintro e w6 ⟨hg6, hc6⟩
  have HB6 : Hid (Below w.heap.size w w6) := HB5.out.grown hg6 HB5.out.size (fun j hj => by cases hj; omega)
  have SB6 : Hid (Blk w6 (w3.heap.size + 1) #[.map (some w3.heap.size)] 100) := (hg6.block _ SB5.out.lt (by simp)).trans SB5.out
  have s0 := SB6.out.c0
  clear hg6
  rcases hc6 with ⟨h0, rfl⟩ | ⟨h', Z', h0, rfl, hz', hm'⟩
  ·have H0 := hide h0
   clear h0
   go_wp2_with fail
   refine bodyPost_ret (v := .tuple #[.map none, .bool false]) (by simp [results, Tryz.results115, go_sem]) rfl ?_
   exact ⟨HB6.out, Or.inl ⟨H0.out, rfl⟩⟩
  ·have H0 := hide h0
   have HZ := hide hz'
   have HM := hide hm'
   clear h0 hz' hm'
   go_wp2_with fail
   refine bodyPost_ret (v := .tuple #[.map (some w3.heap.size), .bool true]) (by simp [results, Tryz.results115, go_sem]) rfl ?_
   exact ⟨HB6.out, Or.inr ⟨h', _, Z', H0.out, rfl, HZ.out, HM.out, hz3⟩⟩
def CpPost (w : World) (F : Nat) (sv : Value) (t : Tm) (n : Nat) (e : Ending) (w' : World) : Prop :=
 ∃ (s' : ByteArray) (a' : Option Addr) (l' c' : Nat) (m : Int), e = .returned (.agg #[.string s', .slice a' l' c']) ∧ Blk w' F #[.int .i64 m, sv] 167 ∧ Ex F w w' ∧ (sizeL [t] ≤ n → m = (n : Int) - sizeL [t] ∧ s' = t.name ∧ l' = t.args.length ∧ Sl w' (fun b => w.heap.size ≤ b) a' t.args) ∧ (n < sizeL [t] → m = -1)
theorem fcopy_of (F : Nat) (sv : Value) (t : Tm) (n : Nat) (a : Option Addr) (c : Nat) (w : World) (hFl : F < w.heap.size) (h : Calls Tryz.prog 134 #[.pointer (some ⟨F, 0, none⟩), .agg #[.string t.name, .slice a t.args.length c], .func (.func 135) #[.pointer (some ⟨F, 0, none⟩)] #[]] ((w.alloc (.cells #[.string t.name, .slice a t.args.length c] 27)).alloc (.cells #[.string ⟨#[]⟩, .slice none 0 0] 27)) fun e w' => CpPost ((w.alloc (.cells #[.string t.name, .slice a t.args.length c] 27)).alloc (.cells #[.string ⟨#[]⟩, .slice none 0 0] 27)) F sv t n e w') :
  Calls Tryz.prog 135 #[.pointer (some ⟨F, 0, none⟩), .agg #[.string t.name, .slice a t.args.length c]] w fun e w' => CpPost w F sv t n e w' := by
 have hmf : ∀ (fn : Fn) (first cap : Array Value) (w : World), (Instr.makeFunc fn first cap).run Tryz.prog w = .ok (.func fn first cap) w := fun _ _ _ _ => rfl
 have H := hide h
 clear h
 go_enter Tryz.func135, Tryz.ntmps135
 go_wp2_with fail
 refine H.out.mono ?_
 rintro e w1 ⟨s', a', l', c', m, rfl, hF1, hx1, hy1, hn1⟩
 have R1 : Hid (Blk w1 (w.heap.size + 1) #[.string ⟨#[]⟩, .slice none 0 0] 27) := by
  have h := (Blk.new (w.alloc (.cells #[.string t.name, .slice a t.args.length c] 27)) #[.string ⟨#[]⟩, .slice none 0 0] 27).ex hx1 (by simp; omega)
  unfold Hid
  simpa using h
 have HX := hide ((((Ex.refl F w).alloc (.cells #[.string t.name, .slice a t.args.length c] 27)).alloc (.cells #[.string ⟨#[]⟩, .slice none 0 0] 27)).trans hx1)
 have HF := hide hF1
 have HY := hide hy1
 have HN := hide hn1
 clear hF1 hx1 hy1 hn1
 have r0 := R1.out.c0
 have r1 := R1.out.c1
 have rf := R1.out.frozen
 go_wp2_with fail
 refine bodyPost_ret (v := .agg #[.string s', .slice a' l' c']) (by simp [results, Tryz.results135, go_sem, World.cell?_setCell_same, World.cell?_setCell_other, r0, r1]) rfl ?_
 refine ⟨s', a', l', c', m, rfl, (HF.out.setOther _ _ (by omega)).setOther _ _ (by omega), (HX.out.setNew (by omega) _ _).setNew (by omega) _ _, fun h => ?_, HN.out⟩
 obtain ⟨h1, h2, h3, h4⟩ := HY.out h
 refine ⟨h1, h2, h3, (h4.kept fun b hb => ?_).mono fun b hb _ => by simp at hb; omega⟩
 simp at hb
 rw [Below.heap_setCell _ _ _ _ (by simp; omega), Below.heap_setCell _ _ _ _ (by simp; omega)]
theorem Sl.ex {w w' : World} {F : Nat} {X : Nat → Prop} {a : Option Addr} {l : List Tm} (h : Sl w X a l) (he : Ex F w w') (hX : ∀ b, X b → b ≠ F) : Sl w' X a l :=
 ((h.mono (Y := fun b => X b ∧ b < w.heap.size) fun b h1 h2 => ⟨h1, h2⟩).kept fun b hb => he.block b hb.2 (hX b hb.1)).mono fun b hb _ => hb.1
def KnSet (w : World) (F O : Nat) (s : ByteArray) (u : Value) (cF : Array Value) (wr : World) : Prop :=
 Ex F w wr ∧ Blk wr (w.heap.size + 1) #[.string ⟨#[]⟩, .slice none 0 0] 27 ∧ Blk wr O #[.string s, u] 27 ∧ Blk wr F cF 167 ∧ O < wr.heap.size
theorem kn_set {w wr w1 w3 : World} {F O : Nat} {s : ByteArray} {u v : Value} {cF cF' : Array Value} {o2 : Obj} (hFw : F < w.heap.size) (hO : w.heap.size + 2 ≤ O) (h : KnSet w F O s u cF wr) (hu : ∀ k, u.ownBlock = some k → O + 1 ≤ k)
  (he1 : Ex F wr w1) (hF1 : Blk w1 F cF' 167) (hg : (w1.alloc o2).grownBy w3 u.ownBlock) : KnSet w F O s v cF' (w3.setCell ⟨O, 1, none⟩ v) := by
 obtain ⟨h1, h2, h3, h4, h5⟩ := h
 have hne : ∀ b, b < O + 1 → some b ≠ u.ownBlock := fun b hb e => by have := hu b e.symm; omega
 have hs1 := he1.size
 have hs3 := hg.size
 simp at hs3
 refine ⟨(((h1.trans he1).alloc o2).grown hg (fun k hk => by have := hu k hk; omega)).setNew (by omega) _ _, ?_, ?_, ?_, by simp [World.setCell]; omega⟩
 ·exact (((h2.ex he1 (by omega)).alloc o2).grown hg (hne _ (by omega))).setOther _ _ (by omega)
 ·exact (((h3.ex he1 (by omega)).alloc o2).grown hg (hne _ (by omega))).set 1 _
 ·exact ((hF1.alloc o2).grown hg (hne _ (by omega))).setOther _ _ (by omega)
theorem kn_row {wr w1 w3 : World} {F O : Nat} {u : Value} {L : List Tm} {xs : List Value} {o2 : Obj} {s' : ByteArray} {a1 : Option Addr} {n1 c1 g cap : Nat} {t : Tm} (hFO : F < O) (hOr : O < wr.heap.size) (hrow : Row wr (O + 1) 27 (fun _ => False) u L xs)
  (he1 : Ex F wr w1) (ht : TV w1 (fun b => wr.heap.size ≤ b) (.agg #[.string s', .slice a1 n1 c1]) t)
  (hown : w3.ownsRow (O + 1) 27 2 (.slice (some ⟨g, 0, none⟩) (L.length + 1) cap) (L.length + 1) (xs ++ [.string s', .slice a1 n1 c1])) (hg : (w1.alloc o2).grownBy w3 u.ownBlock) (hat : u.ownBlock = some g ∨ g = (w1.alloc o2).heap.size) :
  Row (w3.setCell ⟨O, 1, none⟩ (.slice (some ⟨g, 0, none⟩) (L.length + 1) cap)) (O + 1) 27 (fun _ => False) (.slice (some ⟨g, 0, none⟩) (L.length + 1) cap) (L ++ [t]) (xs ++ [.string s', .slice a1 n1 c1]) := by
 obtain ⟨wm, hbm, hsm, hem⟩ := he1.mid
 have hrm := hrow.ex hem (by omega) (fun h => h)
 exact (hrm.push (w1 := w1) (w2 := w1.alloc o2) (w3 := w3) (by omega) (fun _ h => h.elim) hbm (ht.mono fun b h _ => Or.inr (by omega)) o2 rfl hown hg hat).setCell (by omega) (fun h => h) _
def KnInv (w : World) (F O : Nat) (s : ByteArray) (sv : Value) (l : List Tm) (n : Nat) (i : Value) (wr : World) : Prop :=
 ∃ (k : Nat) (u : Value), k ≤ l.length ∧ i = .int .i64 (k : Int) ∧
  ((∃ (m : Nat) (xs : List Value), (m : Int) = (n : Int) - 1 - sizeL (l.take k) ∧ KnSet w F O s u #[.int .i64 (m : Int), sv] wr ∧ Row wr (O + 1) 27 (fun _ => False) u (l.take k) xs) ∨
   (n < 1 + sizeL l ∧ KnSet w F O s u #[.int .i64 (-1), sv] wr ∧ ∃ a9 l9 c9, u = .slice a9 l9 c9))
set_option maxHeartbeats 1000000 in
theorem knotC_any (F : Nat) (sv : Value) (t : Tm) : ∀ (n : Nat) (v : Value) (w : World) (X : Nat → Prop), TV w X v t → (∀ b, X b → b ≠ F) → n ≤ 1000000 → Blk w F #[.int .i64 (n : Int), sv] 167 →
  Calls Tryz.prog 134 #[.pointer (some ⟨F, 0, none⟩), v, .func (.func 135) #[.pointer (some ⟨F, 0, none⟩)] #[]] w fun e w' => CpPost w F sv t n e w' := by
 induction t using Tm.ind with
 | h s l ih =>
  intro n v w X hv hXF hn hF
  obtain ⟨a, c, rfl, hs⟩ := hv
  have IH := hide ih
  clear ih
  obtain ⟨i0, hi0, hz0, hz1, hz2⟩ := info_parts Tryz.infoTerm
  have f0 : ∀ o, (w.alloc o).cell? ⟨F, 0, none⟩ = some (.int .i64 (n : Int)) := fun o => (hF.alloc o).cell 0
  have ff : ∀ o, (w.alloc o).frozen? ⟨F, 0, none⟩ = false := fun o => (hF.alloc o).frozen 0
  have hFl : F < w.heap.size := hF.lt
  go_enter Tryz.func134, Tryz.ntmps134
  go_wp2_with fail
  have E3 : Hid (KnSet w F (w.heap.size + 1 + 1) s (.slice none 0 0) #[.int .i64 ((n : Int) - 1), sv] ((((w.setCell ⟨F, 0, none⟩ (.int .i64 ((n : Int) - 1))).alloc (.cells #[.string s, .slice a l.length c] 27)).alloc (.cells #[.string ⟨#[]⟩, .slice none 0 0] 27)).alloc (.cells #[.string s, .slice none 0 0] 27))) := by
   refine ⟨((((Ex.refl F w).set 0 _).alloc _).alloc _).alloc _, ?_, ?_, (((hF.set 0 _).alloc _).alloc _).alloc _, by simp [World.setCell]⟩
   ·have h := (Blk.new ((w.setCell ⟨F, 0, none⟩ (.int .i64 ((n : Int) - 1))).alloc (.cells #[.string s, .slice a l.length c] 27)) #[.string ⟨#[]⟩, .slice none 0 0] 27).alloc (.cells #[.string s, .slice none 0 0] 27)
    simpa [World.setCell] using h
   ·have h := Blk.new (((w.setCell ⟨F, 0, none⟩ (.int .i64 ((n : Int) - 1))).alloc (.cells #[.string s, .slice a l.length c] 27)).alloc (.cells #[.string ⟨#[]⟩, .slice none 0 0] 27)) #[.string s, .slice none 0 0] 27
    simpa [World.setCell] using h
  generalize ((((w.setCell ⟨F, 0, none⟩ (.int .i64 ((n : Int) - 1))).alloc (.cells #[.string s, .slice a l.length c] 27)).alloc (.cells #[.string ⟨#[]⟩, .slice none 0 0] 27)).alloc (.cells #[.string s, .slice none 0 0] 27)) = w3 at *
  generalize hOe : w.heap.size + 1 + 1 = O at *
  have hO : w.heap.size + 2 ≤ O := by omega
  clear hOe
  clear f0 ff
  have HS := hide hs
  have hl := hs.1
  have HXF := hide hXF
  have hz : sizeL [(⟨s, l⟩ : Tm)] = 1 + sizeL l := by simp [sizeL]
  clear hs hXF
  go_loopw [23] (fun i wr => KnInv w F O s sv l n i wr) (fun i wr => l.length - (intOf i).toNat)
  case atStart =>
   refine ⟨0, .slice none 0 0, Nat.zero_le _, rfl, ?_⟩
   by_cases hn0 : n = 0
   ·subst hn0
    exact Or.inr ⟨by omega, E3.out, none, 0, 0, rfl⟩
   ·refine Or.inl ⟨n - 1, [], by simp [sizeL]; omega, ?_, Row.start _ _ _ _⟩
    rw [show ((n - 1 : Nat) : Int) = (n : Int) - 1 by omega]
    exact E3.out
  case round =>
   obtain ⟨k, u, hk, rfl, hcase⟩ := hrel
   rcases hcase with ⟨m, xs, hm, hset, hrow⟩ | ⟨hbig, hset, a9, l9, c9, rfl⟩
   ·have XS := hide hset
    have XW := hide hrow
    have HMM := hide hm
    clear hset hrow
    by_cases hlt : k < l.length
    ·obtain ⟨b, o, a', c', rfl, d0, d1, hx⟩ := (HS.out.ex XS.out.1 HXF.out).get (Below.refl _ _) (fun _ _ h => h) k hlt
     obtain ⟨av, cv, ev, hsx⟩ := hx
     simp at ev
     obtain ⟨rfl, rfl⟩ := ev
     have hmn : m ≤ 1000000 := by omega
     have HOF : Hid (O ≠ F) := by unfold Hid; omega
     have HFO1 : Hid (F < O + 1) := by unfold Hid; omega
     have hlen := sizeL_len l
     have hsk : (l.take k).length = k := by simp; omega
     have hkn : k ≤ 1000000 := by have h1 := sizeL_len (l.take k); rw [hsk] at h1; omega
     have HL1 : Hid ((l.take k).length + 1 ≤ maxLen ∧ ((l.take k).length + 1) * 40 ≤ 140737488355328) := by unfold Hid; rw [hsk]; exact ⟨by unfold maxLen; omega, by omega⟩
     clear hsk
     have IHQ : Hid (Calls Tryz.prog 135 #[.pointer (some ⟨F, 0, none⟩), .agg #[.string l[k].name, .slice a' l[k].args.length c']] (wr.alloc (.cells #[.string l[k].name, .slice a' l[k].args.length c'] 27)).drew fun e w'' => CpPost (wr.alloc (.cells #[.string l[k].name, .slice a' l[k].args.length c'] 27)).drew F sv l[k] m e w'') := fcopy_of F sv l[k] m a' c' _ (by have := XS.out.1.size; simp; omega) (IH.out l[k] (List.getElem_mem hlt) m _ _ X ⟨a', c', rfl, ((hsx.later ((Below.refl _ _).alloc (Nat.le_refl _) (.cells #[.string l[k].name, .slice a' l[k].args.length c'] 27))).later ((Below.refl _ _).drew)).later (((Below.refl _ _).alloc (Nat.le_refl _) _).alloc (by simp) _)⟩ HXF.out hmn (by exact ((((XS.out.2.2.2.1.alloc _).drewN 1).alloc _).alloc _)))
     have f0 : ∀ o, (wr.alloc o).cell? ⟨F, 0, none⟩ = some (.int .i64 (m : Int)) := fun o => (XS.out.2.2.2.1.alloc o).cell 0
     have o1 : ∀ o, (wr.alloc o).cell? ⟨O, 1, none⟩ = some u := fun o => (XS.out.2.2.1.alloc o).cell 1
     have hm0 : ¬ (m : Int) < 0 := by omega
     by_cases hle : sizeL [l[k]] ≤ m
     ·have IHG : Hid (Calls Tryz.prog 135 #[.pointer (some ⟨F, 0, none⟩), .agg #[.string l[k].name, .slice a' l[k].args.length c']] (wr.alloc (.cells #[.string l[k].name, .slice a' l[k].args.length c'] 27)).drew fun e w'' => ∃ a1 c1, e = .returned (.agg #[.string l[k].name, .slice a1 l[k].args.length c1]) ∧ Blk w'' F #[.int .i64 ((m : Int) - sizeL [l[k]]), sv] 167 ∧ Ex F wr w'' ∧ Sl w'' (fun b => wr.heap.size ≤ b) a1 l[k].args) := IHQ.out.mono fun e w'' hp => by
       obtain ⟨s1, a1, l1, c1, m1, h1, h2, h3, h4, _⟩ := hp
       obtain ⟨rfl, rfl, rfl, h5⟩ := h4 hle
       exact ⟨a1, c1, h1, h2, (((Ex.refl F wr).alloc _).drew).trans h3, h5.mono fun b hb _ => by simp at hb; omega⟩
      clear IHQ
      go_wp2_with fail
      go_region_law (first
       | (go_simp; go_at_call 135; refine IHG.out.mono ?_; rintro e w1 ⟨a1, c1, rfl, hF1, he1, hs1⟩; have hc3 : ∀ o, (w1.alloc o).cell? ⟨O, 1, none⟩ = some u := fun o => ((Blk.ex XS.out.2.2.1 he1 HOF.out).alloc o).cell 1; have hc4 : w1.cell? ⟨O, 1, none⟩ = some u := (Blk.ex XS.out.2.2.1 he1 HOF.out).cell 1)
       | (refine step_append_lies _ rfl _ _ 25 rfl (O + 1) 27 i0 _ 2 40 Tryz.underlying25 hi0 hz0 hz1 hz2 rfl (by decide) u (l.take k).length xs rfl (by exact (Row.ex (B := F) XW.out he1 HFO1.out (fun h => h)).own.alloc _) ⟨w1.heap.size, 0, none⟩ 1 1 [.string l[k].name, .slice a1 l[k].args.length c1] rfl rfl (cell_two_new _ _ _ _) (fun x hx => by simp at hx; rcases hx with rfl | rfl <;> rfl) (by decide) HL1.out.1 HL1.out.2 (by have := he1.size; have := XS.out.2.2.2.2; simp; omega) _ rfl ?_; intro g cap w3 hown3 hgrow3 hat3 hlt3; have hB3 := hide (((Blk.ex XS.out.2.2.1 he1 HOF.out).alloc _).grown hgrow3 (XW.out.ne (Nat.lt_succ_self _))); have hc5 : w3.cell? ⟨O, 1, none⟩ = some u := hB3.out.cell 1; have hf5 := hB3.out.frozen 1))
      all_goals
       have HK := hide (kn_set (v := .slice (some ⟨g, 0, none⟩) ((l.take k).length + 1) cap) hFl hO XS.out (fun j hj => (XW.out.own.lt j hj).1) he1 hF1 hgrow3)
       have HRW := hide (kn_row (by omega) XS.out.2.2.2.2 XW.out he1 ⟨a1, c1, rfl, hs1⟩ hown3 hgrow3 hat3)
       clear hown3 hgrow3 hat3 hc3 hc4 hc5 hf5 hB3 hF1 he1 hs1 hlt3
       go_wp2_with fail
       go_roundw
       case rel =>
        have hkl : (l.take k).length = k := by simp; omega
        have h1 := HK.out
        have h2 := HRW.out
        have hmm := HMM.out
        simp only [hkl] at h1 h2
        refine ⟨k + 1, .slice (some ⟨g, 0, none⟩) (k + 1) cap, by omega, by go_num, Or.inl ⟨m - sizeL [l[k]], xs ++ [.string l[k].name, .slice a1 l[k].args.length c1], by rw [sizeL_take l k hlt]; omega, ?_, ?_⟩⟩
        ·rw [show ((m - sizeL [l[k]] : Nat) : Int) = (m : Int) - sizeL [l[k]] by omega]
         exact h1
        ·rw [List.take_succ_eq_append_getElem hlt]
         exact h2
       case measure => simp [intOf]; omega
     ·have IHG : Hid (Calls Tryz.prog 135 #[.pointer (some ⟨F, 0, none⟩), .agg #[.string l[k].name, .slice a' l[k].args.length c']] (wr.alloc (.cells #[.string l[k].name, .slice a' l[k].args.length c'] 27)).drew fun e w'' => ∃ s1 a1 l1 c1, e = .returned (.agg #[.string s1, .slice a1 l1 c1]) ∧ Blk w'' F #[.int .i64 (-1), sv] 167 ∧ Ex F wr w'') := IHQ.out.mono fun e w'' hp => by
       obtain ⟨s1, a1, l1, c1, m1, h1, h2, h3, _, h4⟩ := hp
       obtain rfl := h4 (by omega)
       exact ⟨s1, a1, l1, c1, h1, h2, (((Ex.refl F wr).alloc _).drew).trans h3⟩
      clear IHQ
      go_wp2_with fail
      go_region_law (first
       | (go_simp; go_at_call 135; refine IHG.out.mono ?_; rintro e w1 ⟨s1, a1, l1, c1, rfl, hF1, he1⟩; have hc3 : ∀ o, (w1.alloc o).cell? ⟨O, 1, none⟩ = some u := fun o => ((Blk.ex XS.out.2.2.1 he1 HOF.out).alloc o).cell 1; have hc4 : w1.cell? ⟨O, 1, none⟩ = some u := (Blk.ex XS.out.2.2.1 he1 HOF.out).cell 1)
       | (refine step_append_lies _ rfl _ _ 25 rfl (O + 1) 27 i0 _ 2 40 Tryz.underlying25 hi0 hz0 hz1 hz2 rfl (by decide) u (l.take k).length xs rfl (by exact (Row.ex (B := F) XW.out he1 HFO1.out (fun h => h)).own.alloc _) ⟨w1.heap.size, 0, none⟩ 1 1 [.string s1, .slice a1 l1 c1] rfl rfl (cell_two_new _ _ _ _) (fun x hx => by simp at hx; rcases hx with rfl | rfl <;> rfl) (by decide) HL1.out.1 HL1.out.2 (by have := he1.size; have := XS.out.2.2.2.2; simp; omega) _ rfl ?_; intro g cap w3 hown3 hgrow3 hat3 hlt3; have hB3 := hide (((Blk.ex XS.out.2.2.1 he1 HOF.out).alloc _).grown hgrow3 (XW.out.ne (Nat.lt_succ_self _))); have hc5 : w3.cell? ⟨O, 1, none⟩ = some u := hB3.out.cell 1; have hf5 := hB3.out.frozen 1))
      all_goals
       have HK := hide (kn_set (v := .slice (some ⟨g, 0, none⟩) ((l.take k).length + 1) cap) hFl hO XS.out (fun j hj => (XW.out.own.lt j hj).1) he1 hF1 hgrow3)
       clear hown3 hgrow3 hat3 hc3 hc4 hc5 hf5 hB3 hF1 he1 hlt3
       go_wp2_with fail
       go_roundw
       case rel =>
        have hkl : (l.take k).length = k := by simp; omega
        have h0 := HK.out
        have hmm := HMM.out
        simp only [hkl] at h0
        refine ⟨k + 1, .slice (some ⟨g, 0, none⟩) (k + 1) cap, by omega, by go_num, Or.inr ⟨?_, h0, _, _, _, rfl⟩⟩
        have h1 := sizeL_take l k hlt
        have h2 := sizeL_take_le l (k + 1)
        omega
       case measure => simp [intOf]; omega
    ·have htk : l.take k = l := List.take_of_length_le (by omega)
     rw [htk] at XW HMM
     obtain ⟨a9, c9, hu9, hsl9⟩ := XW.out.sl
     subst hu9
     have S9 := hide hsl9
     clear hsl9
     have r0 := XS.out.2.1.c0
     have r1 := XS.out.2.1.c1
     have rf := XS.out.2.1.frozen
     have o0 := XS.out.2.2.1.c0
     have o1 := XS.out.2.2.1.c1
     go_wp2_with fail
     refine bodyPost_ret (v := .agg #[.string s, .slice a9 l.length c9]) (by simp [results, Tryz.results134, go_sem, World.cell?_setCell_same, World.cell?_setCell_other, r0, r1]) rfl ?_
     have hmm := HMM.out
     refine ⟨s, a9, l.length, c9, m, rfl, (XS.out.2.2.2.1.setOther _ _ (by omega)).setOther _ _ (by omega), (XS.out.1.setNew (by omega) _ _).setNew (by omega) _ _, fun h => ⟨by rw [hz]; omega, rfl, rfl, (S9.out.kept fun b hb => ?_).mono fun b hb _ => ?_⟩, fun h => by omega⟩
     ·have hb' : O + 1 ≤ b := hb.elim False.elim id
      rw [Below.heap_setCell _ _ _ _ (by simp; omega), Below.heap_setCell _ _ _ _ (by simp; omega)]
     ·have hb' : O + 1 ≤ b := hb.elim False.elim id
      omega
   ·have XS := hide hset
    clear hset
    have f0 : ∀ o, (wr.alloc o).cell? ⟨F, 0, none⟩ = some (.int .i64 (-1)) := fun o => (XS.out.2.2.2.1.alloc o).cell 0
    by_cases hlt : k < l.length
    ·obtain ⟨b, o, a', c', rfl, d0, d1, hx⟩ := (HS.out.ex XS.out.1 HXF.out).get (Below.refl _ _) (fun _ _ h => h) k hlt
     clear hx
     have o0 : ∀ o, (wr.alloc o).cell? ⟨O, 0, none⟩ = some (.string s) := fun o => (XS.out.2.2.1.alloc o).cell 0
     have o1 : ∀ o, (wr.alloc o).cell? ⟨O, 1, none⟩ = some (.slice a9 l9 c9) := fun o => (XS.out.2.2.1.alloc o).cell 1
     have r0 := XS.out.2.1.c0
     have r1 := XS.out.2.1.c1
     have rf := XS.out.2.1.frozen
     have hRl : w.heap.size + 1 < wr.heap.size := XS.out.2.1.lt
     go_wp2_with fail
     refine bodyPost_ret (v := .agg #[.string s, .slice a9 l9 c9]) (by simp [results, Tryz.results134, go_sem, World.cell?_setCell_same, World.cell?_setCell_other, r0, r1, hRl, World.cell?_alloc_old]) rfl ?_
     exact ⟨s, a9, l9, c9, -1, rfl, ((XS.out.2.2.2.1.setOther _ _ (by omega)).setOther _ _ (by omega)).alloc _, ((XS.out.1.setNew (by omega) _ _).setNew (by omega) _ _).alloc _, fun h => by omega, fun _ => rfl⟩
    ·have r0 := XS.out.2.1.c0
     have r1 := XS.out.2.1.c1
     have rf := XS.out.2.1.frozen
     have o0 := XS.out.2.2.1.c0
     have o1 := XS.out.2.2.1.c1
     go_wp2_with fail
     refine bodyPost_ret (v := .agg #[.string s, .slice a9 l9 c9]) (by simp [results, Tryz.results134, go_sem, World.cell?_setCell_same, World.cell?_setCell_other, r0, r1]) rfl ?_
     exact ⟨s, a9, l9, c9, -1, rfl, (XS.out.2.2.2.1.setOther _ _ (by omega)).setOther _ _ (by omega), (XS.out.1.setNew (by omega) _ _).setNew (by omega) _ _, fun h => by omega, fun _ => rfl⟩
def fN (ls : List Bd) (s : ByteArray) (bs : List Tm) : Tm := if varB s = true then (match forT ls s with | some x => x | none => ⟨s, bs⟩) else ⟨s, bs⟩
def fL (ls : List Bd) : List Tm → List Tm
 | [] => []
 | ⟨s, a⟩ :: r => fN ls s (fL ls a) :: fL ls r
def fT (ls : List Bd) (t : Tm) : Tm := fN ls t.name (fL ls t.args)
def Env (w : World) (B r : Nat) (X : Nat → Prop) (ls : List Bd) (L : List (ByteArray × Value)) : Prop := Blk w B #[.map (some r)] 100 ∧ MapAt w r L ∧ PairsL w X ls L
theorem Env.ex {w w' : World} {B r F : Nat} {X : Nat → Prop} {ls : List Bd} {L : List (ByteArray × Value)} (h : Env w B r X ls L) (he : Ex F w w') (hB : B ≠ F) (hr : r ≠ F) (hX : ∀ b, X b → b ≠ F) : Env w' B r X ls L :=
 ⟨h.1.ex he hB, h.2.1.kept (he.block r h.2.1.lt hr), h.2.2.imp fun a l hs => hs.ex he hX⟩
theorem Env.later {w w' : World} {B r : Nat} {X : Nat → Prop} {ls : List Bd} {L : List (ByteArray × Value)} (h : Env w B r X ls L) (hb : Below w.heap.size w w') : Env w' B r X ls L :=
 ⟨h.1.below hb h.1.lt, h.2.1.below hb h.2.1.lt, h.2.2.imp fun a l hs => hs.later hb⟩
theorem way1 {w0 w1 : World} (h : Below w0.drew.heap.size w0.drew w1) : Below w0.heap.size w0 w1 := ((Below.refl w0.heap.size w0).drew).trans h
theorem way2 {w0 w1 : World} {o : Obj} (h : Below (w0.alloc o).drew.heap.size (w0.alloc o).drew w1) : Below w0.heap.size w0 w1 := (((Below.refl w0.heap.size w0).alloc (Nat.le_refl _) o).drew).trans (h.mono (by simp))
theorem way2b {w0 w1 : World} {cs : Array Value} {T : Nat} (h : Below (w0.alloc (.cells cs T)).drew.heap.size (w0.alloc (.cells cs T)).drew w1) : Blk w1 w0.heap.size cs T := ((Blk.new w0 cs T).drewN 1).below h (by simp)
theorem ff_end {w W w9 : World} {F : Nat} {sv : Value} {t : Tm} {n : Nat} {s' : ByteArray} {a' : Option Addr} {l' c' : Nat} {m : Int} {v0 v1 : Value} (hF : F < w.heap.size) (hW : w.heap.size + 2 ≤ W.heap.size) (h1 : Blk w9 F #[.int .i64 m, sv] 167) (hx : Ex F w w9) (hy : sizeL [t] ≤ n → m = (n : Int) - sizeL [t] ∧ s' = t.name ∧ l' = t.args.length ∧ Sl w9 (fun b => W.heap.size ≤ b) a' t.args) (hn : n < sizeL [t] → m = -1) :
  CpPost w F sv t n (.returned (.agg #[.string s', .slice a' l' c'])) ((w9.setCell ⟨w.heap.size + 1, 0, none⟩ v0).setCell ⟨w.heap.size + 1, 1, none⟩ v1) := by
 refine ⟨s', a', l', c', m, rfl, (h1.setOther _ _ (by omega)).setOther _ _ (by omega), (hx.setNew (by omega) _ _).setNew (by omega) _ _, fun h => ?_, hn⟩
 obtain ⟨e1, e2, e3, e4⟩ := hy h
 refine ⟨e1, e2, e3, (e4.kept fun b hb => ?_).mono fun b hb _ => by omega⟩
 rw [Below.heap_setCell _ _ _ _ (by simp; omega), Below.heap_setCell _ _ _ _ (by simp; omega)]
theorem Ex.ofBelow {B : Nat} {w w' : World} (h : Below w.heap.size w w') : Ex B w w' := ⟨h.os, h.tape, h.output, h.size, fun k hk _ => h.block k hk⟩
theorem two_keep {w : World} {F T b : Nat} {u v x : Value} {i j k : Nat} (h : w.cell? ⟨F, i, none⟩ = some u ∧ w.cell? ⟨T, j, none⟩ = some v) (h1 : b ≠ F) (h2 : b ≠ T) : (w.setCell ⟨b, k, none⟩ x).cell? ⟨F, i, none⟩ = some u ∧ (w.setCell ⟨b, k, none⟩ x).cell? ⟨T, j, none⟩ = some v :=
 ⟨(World.cell?_setCell_other _ _ _ _ (fun e => h1 (by injection e))).trans h.1, (World.cell?_setCell_other _ _ _ _ (fun e => h2 (by injection e))).trans h.2⟩
theorem fL_map (ls : List Bd) : ∀ l : List Tm, fL ls l = l.map (fT ls)
 | [] => by simp [fL]
 | ⟨s, a⟩ :: r => by rw [fL, fL_map ls r]; rfl
def EnvR (w : World) (r : Nat) (X : Nat → Prop) (ls : List Bd) (L : List (ByteArray × Value)) : Prop := MapAt w r L ∧ PairsL w X ls L
theorem EnvR.ex {w w' : World} {r F : Nat} {X : Nat → Prop} {ls : List Bd} {L : List (ByteArray × Value)} (h : EnvR w r X ls L) (he : Ex F w w') (hr : r ≠ F) (hX : ∀ b, X b → b ≠ F) : EnvR w' r X ls L :=
 ⟨h.1.kept (he.block r h.1.lt hr), h.2.imp fun a l hs => hs.ex he hX⟩
theorem EnvR.later {w w' : World} {r : Nat} {X : Nat → Prop} {ls : List Bd} {L : List (ByteArray × Value)} (h : EnvR w r X ls L) (hb : Below w.heap.size w w') : EnvR w' r X ls L :=
 ⟨h.1.below hb h.1.lt, h.2.imp fun a l hs => hs.later hb⟩
set_option maxHeartbeats 1000000 in
theorem fitLook_any (ls : List Bd) (n : ByteArray) (r rl rc : Nat) (rn : ByteArray) (ra : Option Addr) (L : List (ByteArray × Value)) (w : World) (X : Nat → Prop) (hM : MapAt w r L) (hP : PairsL w X ls L) :
  Calls Tryz.prog 89 #[.agg #[.string rn, .slice ra rl rc, .map (some r)], .string n] w fun e w' => Below w.heap.size w w' ∧ ((∃ t a c, forT ls n = some t ∧ e = .returned (.tuple #[.agg #[.string t.name, .slice a t.args.length c], .bool true]) ∧ Sl w X a t.args) ∨ (forT ls n = none ∧ e = .returned (.tuple #[.agg #[.string ⟨#[]⟩, .slice none 0 0], .bool false]))) := by
 have hz : ∀ w', (zeroValue 27).run Tryz.prog w' = .ok (.agg #[.string ⟨#[]⟩, .slice none 0 0]) w' := fun w' => Tryz.zeroValue27 w'
 have hM' := fun o o' : Obj => (hM.kept (Below.heap_alloc w o _ hM.lt)).kept (Below.heap_alloc (w.alloc o) o' _ (by have := hM.lt; simp; omega))
 cases hf : forT ls n with
 | none =>
  have hg := (hP.get n).1 hf
  have hlook : ∀ o o', (Instr.lookup 100 (.map (some r)) (.string n) true).run Tryz.prog ((w.alloc o).alloc o') = .ok (.tuple #[.agg #[.string ⟨#[]⟩, .slice none 0 0], .bool false]) ((w.alloc o).alloc o') := fun o o' => by
   rw [run_look (P := Tryz.prog) Tryz.underlying100 Tryz.underlying9 (hz _) (hM' o o') n, hg]; rfl
  have HF := hide hf
  clear hf hg hM' hP hM
  go_enter Tryz.func89, Tryz.ntmps89
  go_wp2_with fail
  refine bodyPost_ret (v := .tuple #[.agg #[.string ⟨#[]⟩, .slice none 0 0], .bool false]) (by simp [results, Tryz.results89, go_sem, World.cell?_setCell_same, World.cell?_setCell_other]) rfl ?_
  exact ⟨by first | exact below3 _ _ _ | exact ((below3 _ _ _).setCell (by simp) _).setCell (by simp) _, Or.inr ⟨by trivial, rfl⟩⟩
 | some t =>
  obtain ⟨a, c, hg, hs⟩ := (hP.get n).2 t hf
  have hlook : ∀ o o', (Instr.lookup 100 (.map (some r)) (.string n) true).run Tryz.prog ((w.alloc o).alloc o') = .ok (.tuple #[.agg #[.string t.name, .slice a t.args.length c], .bool true]) ((w.alloc o).alloc o') := fun o o' => by
   rw [run_look (P := Tryz.prog) Tryz.underlying100 Tryz.underlying9 (hz _) (hM' o o') n, hg]; rfl
  have HF := hide hf
  have HS := hide hs
  clear hf hg hs hM' hP hM
  go_enter Tryz.func89, Tryz.ntmps89
  go_wp2_with fail
  refine bodyPost_ret (v := .tuple #[.agg #[.string t.name, .slice a t.args.length c], .bool true]) (by simp [results, Tryz.results89, go_sem, World.cell?_setCell_same, World.cell?_setCell_other]) rfl ?_
  exact ⟨by first | exact below3 _ _ _ | exact ((below3 _ _ _).setCell (by simp) _).setCell (by simp) _, Or.inl ⟨t, a, c, rfl, rfl, HS.out⟩⟩
set_option maxHeartbeats 1000000 in
theorem ffillR_of (F : Nat) (r rl rc : Nat) (rn : ByteArray) (ra : Option Addr) (ls : List Bd) (L : List (ByteArray × Value)) (t : Tm) (n : Nat) (a : Option Addr) (c : Nat) (w : World) (X : Nat → Prop) (hn : n ≤ 1000000) (hXF : ∀ b, X b → b ≠ F) (hrF : r ≠ F) (hs : Sl w X a t.args) (hF : Blk w F #[.int .i64 (n : Int), .func (.func 89) #[.agg #[.string rn, .slice ra rl rc, .map (some r)]] #[]] 167) (hE : EnvR w r X ls L)
  (h : ∀ w', Sl w' X a t.args → Blk w' F #[.int .i64 (n : Int), .func (.func 89) #[.agg #[.string rn, .slice ra rl rc, .map (some r)]] #[]] 167 → EnvR w' r X ls L → Calls Tryz.prog 134 #[.pointer (some ⟨F, 0, none⟩), .agg #[.string t.name, .slice a t.args.length c], .func (.func 117) #[.pointer (some ⟨F, 0, none⟩)] #[]] w' fun e w'' => CpPost w' F (.func (.func 89) #[.agg #[.string rn, .slice ra rl rc, .map (some r)]] #[]) ⟨t.name, fL ls t.args⟩ n e w'') :
  Calls Tryz.prog 117 #[.pointer (some ⟨F, 0, none⟩), .agg #[.string t.name, .slice a t.args.length c]] w fun e w' => CpPost w F (.func (.func 89) #[.agg #[.string rn, .slice ra rl rc, .map (some r)]] #[]) (fT ls t) n e w' := by
 have hmf : ∀ (fn : Fn) (first cap : Array Value) (w : World), (Instr.makeFunc fn first cap).run Tryz.prog w = .ok (.func fn first cap) w := fun _ _ _ _ => rfl
 have H := hide h
 have HS := hide hs
 have HF := hide hF
 have HE := hide hE
 have hFl : F < w.heap.size := hF.lt
 clear h hs hF hE
 have HB0 := hide (((Below.refl w.heap.size w).alloc (Nat.le_refl _) (.cells #[.string t.name, .slice a t.args.length c] 27)).alloc (by simp) (.cells #[.string ⟨#[]⟩, .slice none 0 0] 27))
 have f1 : ∀ o o', ((w.alloc o).alloc o').cell? ⟨F, 1, none⟩ = some (.func (.func 89) #[.agg #[.string rn, .slice ra rl rc, .map (some r)]] #[]) := fun o o' => ((HF.out.alloc o).alloc o').cell 1
 cases hv : varB t.name with
 | false =>
  have HV := hide hv
  have HT : Hid (fT ls t = ⟨t.name, fL ls t.args⟩) := by unfold Hid fT fN; rw [hv]; rfl
  clear hv
  go_enter Tryz.func117, Tryz.ntmps117
  go_wp2_with (go_at_call 65; refine (isVariable_all _ _).mono ?_; rintro e w' ⟨rfl, rfl⟩; rw [HV.out])
  have RW : Hid (Blk ((w.alloc (.cells #[.string t.name, .slice a t.args.length c] 27)).alloc (.cells #[.string ⟨#[]⟩, .slice none 0 0] 27)) (w.heap.size + 1) #[.string ⟨#[]⟩, .slice none 0 0] 27) := by
   have h := Blk.new (w.alloc (.cells #[.string t.name, .slice a t.args.length c] 27)) #[.string ⟨#[]⟩, .slice none 0 0] 27
   unfold Hid
   simpa using h
  have EXW := hide (((Ex.refl F w).alloc (.cells #[.string t.name, .slice a t.args.length c] 27)).alloc (.cells #[.string ⟨#[]⟩, .slice none 0 0] 27))
  have hW2 : Hid (w.heap.size + 2 ≤ ((w.alloc (.cells #[.string t.name, .slice a t.args.length c] 27)).alloc (.cells #[.string ⟨#[]⟩, .slice none 0 0] 27)).heap.size) := by unfold Hid; simp
  refine (H.out _ (HS.out.later HB0.out) (by exact (HF.out.alloc _).alloc _) (HE.out.later HB0.out)).mono ?_
  rintro e w9 ⟨s', a', l', c', m, rfl, hF1, hx1, hy1, hn1⟩
  have R9 := hide (RW.out.ex hx1 (by omega))
  have HX9 := hide (EXW.out.trans hx1)
  have HF9 := hide hF1
  have HY := hide hy1
  have HN := hide hn1
  have HSZ := hide (EXW.out.size)
  clear hF1 hx1 hy1 hn1
  have r0 := R9.out.c0
  have r1 := R9.out.c1
  have rf := R9.out.frozen
  go_wp2_with fail
  refine bodyPost_ret (v := .agg #[.string s', .slice a' l' c']) (by simp [results, Tryz.results117, go_sem, World.cell?_setCell_same, World.cell?_setCell_other, r0, r1]) rfl ?_
  rw [HT.out]
  exact ff_end (by omega) hW2.out HF9.out HX9.out HY.out HN.out
 | true =>
  have HV := hide hv
  clear hv
  have RW : Hid (Blk ((w.alloc (.cells #[.string t.name, .slice a t.args.length c] 27)).alloc (.cells #[.string ⟨#[]⟩, .slice none 0 0] 27)) (w.heap.size + 1) #[.string ⟨#[]⟩, .slice none 0 0] 27) := by
   have h := Blk.new (w.alloc (.cells #[.string t.name, .slice a t.args.length c] 27)) #[.string ⟨#[]⟩, .slice none 0 0] 27
   unfold Hid
   simpa using h
  have EXW := hide (((Ex.refl F w).alloc (.cells #[.string t.name, .slice a t.args.length c] 27)).alloc (.cells #[.string ⟨#[]⟩, .slice none 0 0] 27))
  have hW2 : Hid (w.heap.size + 2 ≤ ((w.alloc (.cells #[.string t.name, .slice a t.args.length c] 27)).alloc (.cells #[.string ⟨#[]⟩, .slice none 0 0] 27)).heap.size) := by unfold Hid; simp
  have E0 := hide (HE.out.later HB0.out)
  have F0 := hide ((HF.out.alloc (.cells #[.string t.name, .slice a t.args.length c] 27)).alloc (.cells #[.string ⟨#[]⟩, .slice none 0 0] 27))
  have S0 := hide (HS.out.later HB0.out)
  have T0 := hide ((Blk.new w #[.string t.name, .slice a t.args.length c] 27).alloc (.cells #[.string ⟨#[]⟩, .slice none 0 0] 27))
  have g1 := F0.out.cell 1
  have g0 := T0.out.cell 0
  simp only [List.getElem?_toArray, List.getElem?_cons_succ, List.getElem?_cons_zero] at g1 g0
  cases hf : forT ls t.name with
  | some x =>
   have HT : Hid (fT ls t = x) := by unfold Hid fT fN; rw [HV.out, hf]; rfl
   have LKA : Hid (∀ w', Below ((w.alloc (.cells #[.string t.name, .slice a t.args.length c] 27)).alloc (.cells #[.string ⟨#[]⟩, .slice none 0 0] 27)).heap.size ((w.alloc (.cells #[.string t.name, .slice a t.args.length c] 27)).alloc (.cells #[.string ⟨#[]⟩, .slice none 0 0] 27)) w' → Calls Tryz.prog 89 #[.agg #[.string rn, .slice ra rl rc, .map (some r)], .string t.name] w' fun e w'' => ∃ ax cx, e = .returned (.tuple #[.agg #[.string x.name, .slice ax x.args.length cx], .bool true]) ∧ Below w'.heap.size w' w'' ∧ Sl w'' (fun b => X b ∧ b < w.heap.size) ax x.args) := fun w' hb => by
    have E1 : EnvR w r (fun b => X b ∧ b < w.heap.size) ls L := ⟨HE.out.1, HE.out.2.imp fun a l hs => hs.mono fun b h1 h2 => ⟨h1, h2⟩⟩
    obtain ⟨h2, h3⟩ := (E1.later HB0.out).later hb
    refine (fitLook_any ls t.name r rl rc rn ra L w' _ h2 h3).mono fun e w'' hp => ?_
    obtain ⟨hb2, hc⟩ := hp
    rcases hc with ⟨y, ay, cy, hy, he, hsy⟩ | ⟨hy, _⟩
    ·rw [hf] at hy; cases hy; exact ⟨ay, cy, he, hb2, hsy.later hb2⟩
    ·rw [hf] at hy; cases hy
   have HKP : Hid (∀ w', Below ((w.alloc (.cells #[.string t.name, .slice a t.args.length c] 27)).alloc (.cells #[.string ⟨#[]⟩, .slice none 0 0] 27)).heap.size ((w.alloc (.cells #[.string t.name, .slice a t.args.length c] 27)).alloc (.cells #[.string ⟨#[]⟩, .slice none 0 0] 27)) w' → w'.cell? ⟨F, 1, none⟩ = some (.func (.func 89) #[.agg #[.string rn, .slice ra rl rc, .map (some r)]] #[]) ∧ w'.cell? ⟨w.heap.size, 0, none⟩ = some (.string t.name)) := fun w' hb => ⟨(F0.out.below hb F0.out.lt).cell 1, (T0.out.below hb T0.out.lt).cell 0⟩
   have nF : ((w.alloc (.cells #[.string t.name, .slice a t.args.length c] 27)).alloc (.cells #[.string ⟨#[]⟩, .slice none 0 0] 27)).heap.size ≠ F := by have := hW2.out; omega
   have nT : ((w.alloc (.cells #[.string t.name, .slice a t.args.length c] 27)).alloc (.cells #[.string ⟨#[]⟩, .slice none 0 0] 27)).heap.size ≠ w.heap.size := by have := hW2.out; omega
   clear hf f1
   go_enter Tryz.func117, Tryz.ntmps117
   go_wp2_with (go_at_call 65; refine (isVariable_all _ _).mono ?_; rintro e w' ⟨rfl, rfl⟩; rw [HV.out])
   generalize ((w.alloc (.cells #[.string t.name, .slice a t.args.length c] 27)).alloc (.cells #[.string ⟨#[]⟩, .slice none 0 0] 27)) = w0 at *
   go_region_held3 (fun w' => w'.cell? ⟨F, 1, none⟩ = some (.func (.func 89) #[.agg #[.string rn, .slice ra rl rc, .map (some r)]] #[]) ∧ w'.cell? ⟨w.heap.size, 0, none⟩ = some (.string t.name)) (first | exact hS | exact ⟨g1, g0⟩ | exact two_keep hS nF nT | exact two_keep (two_keep hS nF nT) nF nT | go_keep)
    ((go_at_call 89; refine (LKA.out _ (by first | exact (Below.refl _ _).drew | exact ((Below.refl _ _).alloc (Nat.le_refl _) _).drew)).mono ?_; rintro e w1 ⟨ax, cx, rfl, hb1, hsx⟩; have HSX := hide hsx; clear hsx; (first | (have hB0 := way1 hb1; have hS := HKP.out _ hB0) | (have hB0 := way2 hb1; have xb := hide (way2b hb1); have x0 := xb.out.cell 0; have x1 := xb.out.cell 1; have xf := xb.out.frozen; have hS := HKP.out _ hB0))))
   ·generalize hz : (w1.alloc (Obj.cells #[Value.string x.name, Value.slice ax x.args.length cx] 27)) = wz at *
    have hbz : Below w0.heap.size w0 wz := by rw [← hz]; exact hB0.alloc hB0.size _
    have HSZ : Hid (Sl wz (fun b => X b ∧ b < w.heap.size) ax x.args) := by rw [← hz]; exact HSX.out.later ((Below.refl _ _).alloc (Nat.le_refl _) _)
    have q0 : wz.cell? ⟨w1.heap.size, 0, none⟩ = some (.string x.name) := by rw [← hz]; exact (Blk.new w1 _ _).cell 0
    have q1 : wz.cell? ⟨w1.heap.size, 1, none⟩ = some (.slice ax x.args.length cx) := by rw [← hz]; exact (Blk.new w1 _ _).cell 1
    have hwz : Hid (w.heap.size + 2 ≤ wz.heap.size) := Nat.le_trans hW2.out hbz.size
    have HBZ := hide hbz
    clear hbz hz
    go_wp2_with fail
    refine (knotC_any F _ x n _ wz (fun b => X b ∧ b < w.heap.size) ⟨ax, cx, rfl, HSZ.out⟩ (fun b hb => hXF b hb.1) hn (F0.out.below HBZ.out F0.out.lt)).mono ?_
    rintro e w9 ⟨s', a', l', c', m, rfl, hF1, hx1, hy1, hn1⟩
    have R9 := hide ((RW.out.below HBZ.out RW.out.lt).ex hx1 (by omega))
    have HX9 := hide ((EXW.out.trans (Ex.ofBelow HBZ.out)).trans hx1)
    have HF9 := hide hF1
    have HY := hide hy1
    have HN := hide hn1
    clear hF1 hx1 hy1 hn1
    have r0 := R9.out.c0
    have r1 := R9.out.c1
    have rf := R9.out.frozen
    go_wp2_with fail
    refine bodyPost_ret (v := .agg #[.string s', .slice a' l' c']) (by simp [results, Tryz.results117, go_sem, World.cell?_setCell_same, World.cell?_setCell_other, r0, r1]) rfl ?_
    rw [HT.out]
    exact ff_end (by omega) hwz.out HF9.out HX9.out HY.out HN.out
   ·generalize hz : ((w1.setCell { block := w0.heap.size, off := 0 } (Value.string x.name)).setCell { block := w0.heap.size, off := 1 } (Value.slice ax x.args.length cx)) = wz at *
    have hbz : Below w0.heap.size w0 wz := by rw [← hz]; exact (hB0.setCell (Nat.le_refl _) _).setCell (Nat.le_refl _) _
    have HSZ : Hid (Sl wz (fun b => X b ∧ b < w.heap.size) ax x.args) := by
     rw [← hz]
     refine HSX.out.kept fun b hb => ?_
     have hb2 := hb.2
     have hb3 := hW2.out
     rw [Below.heap_setCell _ _ _ _ (by simp; omega), Below.heap_setCell _ _ _ _ (by simp; omega)]
    have q0 : wz.cell? ⟨w0.heap.size, 0, none⟩ = some (.string x.name) := by rw [← hz]; simp [World.cell?_setCell_same, World.cell?_setCell_other, x0, x1]
    have q1 : wz.cell? ⟨w0.heap.size, 1, none⟩ = some (.slice ax x.args.length cx) := by rw [← hz]; simp [World.cell?_setCell_same, World.cell?_setCell_other, x0, x1]
    have hwz : Hid (w.heap.size + 2 ≤ wz.heap.size) := Nat.le_trans hW2.out hbz.size
    have HBZ := hide hbz
    clear hbz hz
    go_wp2_with fail
    refine (knotC_any F _ x n _ wz (fun b => X b ∧ b < w.heap.size) ⟨ax, cx, rfl, HSZ.out⟩ (fun b hb => hXF b hb.1) hn (F0.out.below HBZ.out F0.out.lt)).mono ?_
    rintro e w9 ⟨s', a', l', c', m, rfl, hF1, hx1, hy1, hn1⟩
    have R9 := hide ((RW.out.below HBZ.out RW.out.lt).ex hx1 (by omega))
    have HX9 := hide ((EXW.out.trans (Ex.ofBelow HBZ.out)).trans hx1)
    have HF9 := hide hF1
    have HY := hide hy1
    have HN := hide hn1
    clear hF1 hx1 hy1 hn1
    have r0 := R9.out.c0
    have r1 := R9.out.c1
    have rf := R9.out.frozen
    go_wp2_with fail
    refine bodyPost_ret (v := .agg #[.string s', .slice a' l' c']) (by simp [results, Tryz.results117, go_sem, World.cell?_setCell_same, World.cell?_setCell_other, r0, r1]) rfl ?_
    rw [HT.out]
    exact ff_end (by omega) hwz.out HF9.out HX9.out HY.out HN.out
  | none =>
   have HT : Hid (fT ls t = ⟨t.name, fL ls t.args⟩) := by unfold Hid fT fN; rw [HV.out, hf]; rfl
   have LKA : Hid (∀ w', Below ((w.alloc (.cells #[.string t.name, .slice a t.args.length c] 27)).alloc (.cells #[.string ⟨#[]⟩, .slice none 0 0] 27)).heap.size ((w.alloc (.cells #[.string t.name, .slice a t.args.length c] 27)).alloc (.cells #[.string ⟨#[]⟩, .slice none 0 0] 27)) w' → Calls Tryz.prog 89 #[.agg #[.string rn, .slice ra rl rc, .map (some r)], .string t.name] w' fun e w'' => e = .returned (.tuple #[.agg #[.string ⟨#[]⟩, .slice none 0 0], .bool false]) ∧ Below w'.heap.size w' w'') := fun w' hb => by
    obtain ⟨h2, h3⟩ := E0.out.later hb
    refine (fitLook_any ls t.name r rl rc rn ra L w' X h2 h3).mono fun e w'' hp => ?_
    obtain ⟨hb2, hc⟩ := hp
    rcases hc with ⟨x, _, _, hx, _⟩ | ⟨_, he⟩
    ·rw [hf] at hx; cases hx
    ·exact ⟨he, hb2⟩
   have HKP : Hid (∀ w', Below ((w.alloc (.cells #[.string t.name, .slice a t.args.length c] 27)).alloc (.cells #[.string ⟨#[]⟩, .slice none 0 0] 27)).heap.size ((w.alloc (.cells #[.string t.name, .slice a t.args.length c] 27)).alloc (.cells #[.string ⟨#[]⟩, .slice none 0 0] 27)) w' → w'.cell? ⟨F, 1, none⟩ = some (.func (.func 89) #[.agg #[.string rn, .slice ra rl rc, .map (some r)]] #[]) ∧ w'.cell? ⟨w.heap.size, 0, none⟩ = some (.string t.name)) := fun w' hb => ⟨(F0.out.below hb F0.out.lt).cell 1, (T0.out.below hb T0.out.lt).cell 0⟩
   have nF : ((w.alloc (.cells #[.string t.name, .slice a t.args.length c] 27)).alloc (.cells #[.string ⟨#[]⟩, .slice none 0 0] 27)).heap.size ≠ F := by have := hW2.out; omega
   have nT : ((w.alloc (.cells #[.string t.name, .slice a t.args.length c] 27)).alloc (.cells #[.string ⟨#[]⟩, .slice none 0 0] 27)).heap.size ≠ w.heap.size := by have := hW2.out; omega
   clear hf f1
   go_enter Tryz.func117, Tryz.ntmps117
   go_wp2_with (go_at_call 65; refine (isVariable_all _ _).mono ?_; rintro e w' ⟨rfl, rfl⟩; rw [HV.out])
   generalize ((w.alloc (.cells #[.string t.name, .slice a t.args.length c] 27)).alloc (.cells #[.string ⟨#[]⟩, .slice none 0 0] 27)) = w0 at *
   go_region_held3 (fun w' => w'.cell? ⟨F, 1, none⟩ = some (.func (.func 89) #[.agg #[.string rn, .slice ra rl rc, .map (some r)]] #[]) ∧ w'.cell? ⟨w.heap.size, 0, none⟩ = some (.string t.name)) (first | exact hS | exact ⟨g1, g0⟩ | exact two_keep hS nF nT | exact two_keep (two_keep hS nF nT) nF nT | go_keep)
    ((go_at_call 89; refine (LKA.out _ (by first | exact (Below.refl _ _).drew | exact ((Below.refl _ _).alloc (Nat.le_refl _) _).drew)).mono ?_; rintro e w1 ⟨rfl, hb1⟩; (first | (have hB0 := way1 hb1; have hS := HKP.out _ hB0) | (have hB0 := way2 hb1; have xb := hide (way2b hb1); have x0 := xb.out.cell 0; have x1 := xb.out.cell 1; have xf := xb.out.frozen; have hS := HKP.out _ hB0))))
   ·generalize hz : (w1.alloc (Obj.cells #[Value.string { data := #[] }, Value.slice none 0 0] 27)) = wz at *
    have hbz : Below w0.heap.size w0 wz := by rw [← hz]; exact hB0.alloc hB0.size _
    have t0 : wz.cell? ⟨w.heap.size, 0, none⟩ = some (.string t.name) := (T0.out.below hbz T0.out.lt).cell 0
    have t1 : wz.cell? ⟨w.heap.size, 1, none⟩ = some (.slice a t.args.length c) := (T0.out.below hbz T0.out.lt).cell 1
    have hwz : Hid (w.heap.size + 2 ≤ wz.heap.size) := Nat.le_trans hW2.out hbz.size
    have HBZ := hide hbz
    clear hbz
    go_wp2_with fail
    refine (H.out _ (S0.out.later HBZ.out) (F0.out.below HBZ.out F0.out.lt) (E0.out.later HBZ.out)).mono ?_
    rintro e w9 ⟨s', a', l', c', m, rfl, hF1, hx1, hy1, hn1⟩
    have R9 := hide ((RW.out.below HBZ.out RW.out.lt).ex hx1 (by omega))
    have HX9 := hide ((EXW.out.trans (Ex.ofBelow HBZ.out)).trans hx1)
    have HF9 := hide hF1
    have HY := hide hy1
    have HN := hide hn1
    clear hF1 hx1 hy1 hn1
    have r0 := R9.out.c0
    have r1 := R9.out.c1
    have rf := R9.out.frozen
    go_wp2_with fail
    refine bodyPost_ret (v := .agg #[.string s', .slice a' l' c']) (by simp [results, Tryz.results117, go_sem, World.cell?_setCell_same, World.cell?_setCell_other, r0, r1]) rfl ?_
    rw [HT.out]
    exact ff_end (by omega) hwz.out HF9.out HX9.out HY.out HN.out
   ·generalize hz : ((w1.setCell { block := w0.heap.size, off := 0 } (Value.string { data := #[] })).setCell { block := w0.heap.size, off := 1 } (Value.slice none 0 0)) = wz at *
    have hbz : Below w0.heap.size w0 wz := by rw [← hz]; exact (hB0.setCell (Nat.le_refl _) _).setCell (Nat.le_refl _) _
    have t0 : wz.cell? ⟨w.heap.size, 0, none⟩ = some (.string t.name) := (T0.out.below hbz T0.out.lt).cell 0
    have t1 : wz.cell? ⟨w.heap.size, 1, none⟩ = some (.slice a t.args.length c) := (T0.out.below hbz T0.out.lt).cell 1
    have hwz : Hid (w.heap.size + 2 ≤ wz.heap.size) := Nat.le_trans hW2.out hbz.size
    have HBZ := hide hbz
    clear hbz
    go_wp2_with fail
    refine (H.out _ (S0.out.later HBZ.out) (F0.out.below HBZ.out F0.out.lt) (E0.out.later HBZ.out)).mono ?_
    rintro e w9 ⟨s', a', l', c', m, rfl, hF1, hx1, hy1, hn1⟩
    have R9 := hide ((RW.out.below HBZ.out RW.out.lt).ex hx1 (by omega))
    have HX9 := hide ((EXW.out.trans (Ex.ofBelow HBZ.out)).trans hx1)
    have HF9 := hide hF1
    have HY := hide hy1
    have HN := hide hn1
    clear hF1 hx1 hy1 hn1
    have r0 := R9.out.c0
    have r1 := R9.out.c1
    have rf := R9.out.frozen
    go_wp2_with fail
    refine bodyPost_ret (v := .agg #[.string s', .slice a' l' c']) (by simp [results, Tryz.results117, go_sem, World.cell?_setCell_same, World.cell?_setCell_other, r0, r1]) rfl ?_
    rw [HT.out]
    exact ff_end (by omega) hwz.out HF9.out HX9.out HY.out HN.out
attribute [local go_sem] Oper.semAt_some
abbrev Ft := Pr × List Bd
def fitsL (rs : List Pr) (x : Tm) : List Ft := rs.filterMap fun p => (mtT p.l x []).map fun h => (p, h)
theorem fitsL_no {rs : List Pr} {x : Tm} {k : Nat} (h : k < rs.length) (h0 : mtT rs[k].l x [] = none) : fitsL (rs.take (k + 1)) x = fitsL (rs.take k) x := by
 unfold fitsL
 rw [List.take_succ_eq_append_getElem h, List.filterMap_append]
 simp [h0]
theorem fitsL_yes {rs : List Pr} {x : Tm} {k : Nat} {g : List Bd} (h : k < rs.length) (h0 : mtT rs[k].l x [] = some g) : fitsL (rs.take (k + 1)) x = fitsL (rs.take k) x ++ [(rs[k], g)] := by
 unfold fitsL
 rw [List.take_succ_eq_append_getElem h, List.filterMap_append]
 simp [h0]
theorem fitsL_split (rs : List Pr) (x : Tm) (k : Nat) : fitsL rs x = fitsL (rs.take k) x ++ fitsL (rs.drop k) x := by
 unfold fitsL
 rw [← List.filterMap_append, List.take_append_drop]
def LpF (x : Ft) (args : Array Value) (W : World) (Z : Nat → Prop) : Prop :=
 ∃ ra rc q L, args = #[.agg #[.string x.1.r.name, .slice ra x.1.r.args.length rc, .map (some q)]] ∧ Sl W Z ra x.1.r.args ∧ Z q ∧ EnvR W q Z x.2 L
theorem pairsL_of {w : World} {Y : Nat → Prop} : ∀ {Z' : List Bc}, (∀ x ∈ Z', Sl w Y x.2.1 x.1.t.args) → PairsL w Y (Z'.map (·.1)) (Z'.map toP)
 | [], _ => rfl
 | x :: r, h => ⟨x.2.1, x.2.2, _, rfl, h x (by simp), pairsL_of fun y hy => h y (by simp [hy])⟩
def FtInv {J : Tk Ft} (w : World) (f : Nat → Prop) (pre : List Ft) (rs : List Pr) (x : Tm) (i : Value) (wr : World) : Prop :=
 ∃ (k : Nat) (f' : Nat → Prop), k ≤ rs.length ∧ i = .int .i64 (k : Int) ∧ J (pre ++ fitsL (rs.take k) x) true f' wr ∧ ExQ f w wr ∧ ∀ b, f' b → f b ∨ w.heap.size ≤ b
set_option maxHeartbeats 2000000 in
theorem fits1S_any {J : Tk Ft} {K : Nat → Prop} {all : List Ft} (hJ : TkOk J K) (lp : Nat) {S : World → Prop} (RH : RndS lp LpF J all S) (rs : List Pr) (x : Tm) (R T : Nat) (uv : Value) (aa : Option Addr) (ca : Nat) (pre : List Ft) (f : Nat → Prop) (w : World) (X : Nat → Prop) (hR : Blk w R #[uv] 23) (hu : QV w X uv rs) (hT : Blk w T #[.string x.name, .slice aa x.args.length ca] 27) (hs : Sl w X aa x.args) (hX : ∀ b, X b → b < w.heap.size ∧ ¬ f b) (hRf : ¬ f R) (hTf : ¬ f T) (hj : J pre true f w) (hOk : (pre ++ fitsL rs x) <+: all) :
  Calls Tryz.prog 114 #[.func (.yield lp) #[] #[], .pointer (some ⟨R, 0, none⟩), .pointer (some ⟨T, 0, none⟩)] w fun e w' => WentS J (fitsL rs x) pre f S w e w' := by
 have HOK := hide hOk
 clear hOk
 have HU := hide hu
 have HS := hide hs
 have HX := hide hX
 have HJ := hide hJ
 have HRH := hide RH
 have HT := hide hT
 have HJ0 := hide hj
 have r0 := hR.cell 0
 have hRl := hR.lt
 have hTl := hT.lt
 obtain ⟨ua, uc, rfl, hul, _⟩ := hu
 clear hs hX hJ RH hT hj hR
 simp only [List.getElem?_toArray, List.getElem?_cons_zero] at r0
 go_enter Tryz.func114, Tryz.ntmps114
 go_wp2_with fail
 go_loopw [10] (fun v wr => FtInv (J := J) w f pre rs x v wr) (fun v wr => rs.length - (intOf v).toNat)
 case atStart => exact ⟨0, f, Nat.zero_le _, rfl, by simpa [fitsL] using HJ0.out, ExQ.refl _ _, fun b hb => Or.inl hb⟩
 case round =>
  obtain ⟨k, f2, hk, rfl, hj2, he2, hff2⟩ := hrel
  have HJ2 := hide hj2
  have HE2 := hide he2
  have HFF2 := hide hff2
  have HX2 : Hid (∀ b, X b → b < wr.heap.size ∧ ¬ f2 b) := fun b hb => ⟨Nat.lt_of_lt_of_le (HX.out b hb).1 he2.size, fun h => by
   rcases HFF2.out b h with h | h
   ·exact (HX.out b hb).2 h
   ·have := (HX.out b hb).1; omega⟩
  have HTr := hide (HT.out.exq he2 hTf)
  have HSr := hide (HS.out.exq he2 fun b hb => (HX.out b hb).2)
  have HUr : Hid (QV wr X (.slice ua rs.length uc) rs) := ((HU.out.mono (Y := fun b => X b ∧ b < w.heap.size) fun b h1 h2 => ⟨h1, h2⟩).kept fun b hb => HE2.out.block b hb.2 (HX.out b hb.1).2).mono fun b hb _ => hb.1
  clear hj2 he2 hff2
  by_cases hlt : k < rs.length
  ·obtain ⟨b, o, a1, c1, a2, c2, rfl, d0, d1, d2, d3, hs1, hs2⟩ := HUr.out.get k hlt
   have hlt2 : (k : Int) < (rs.length : Int) := by omega
   have HX1 := hide hs1
   have HX3 := hide hs2
   have HNO := fun h => hide (fitsL_no (x := x) hlt h)
   have HYES := fun g h => hide (fitsL_yes (x := x) (g := g) hlt h)
   have HSPL := hide (fitsL_split rs x (k + 1))
   have hTr := HTr.out.lt
   clear hs1 hs2
   generalize rs[k] = d at *
   have t0 : ∀ o, (wr.alloc o).cell? ⟨T, 0, none⟩ = some (.string x.name) := fun o => (HTr.out.alloc o).cell 0
   have t1 : ∀ o, (wr.alloc o).cell? ⟨T, 1, none⟩ = some (.slice aa x.args.length ca) := fun o => (HTr.out.alloc o).cell 1
   have hbA : Below wr.heap.size wr (wr.alloc (.cells #[.string d.l.name, .slice a1 d.l.args.length c1, .string d.r.name, .slice a2 d.r.args.length c2] 40)) := (Below.refl _ _).alloc (Nat.le_refl _) _
   have HBA := hide hbA
   have P0 := hide (Blk.new wr #[.string d.l.name, .slice a1 d.l.args.length c1, .string d.r.name, .slice a2 d.r.args.length c2] 40)
   refine (wpIn_wide (n := 1)).1 ?_
   gi_wp2
   clear t0 t1 d0 d1 d2 d3
   refine ⟨trivial, (callsIn_wide.2 (fitN_any d.l x _ _ _ X ⟨a1, c1, rfl, HX1.out.later hbA⟩ ⟨aa, ca, rfl, HSr.out.later hbA⟩)).mono ?_⟩
   clear hbA
   rintro e w3 ⟨hb3, ⟨h0, rfl⟩ | ⟨h', q, Z', h0, rfl, hz', hm', hq⟩⟩
   ·have HJ3 : Hid (J (pre ++ fitsL (rs.take k) x) true f2 w3) := HJ.out.abide HJ2.out (Nat.le_trans HBA.out.size hb3.size) fun j hj => ((hb3.block j (by have := HJ.out.inside HJ2.out j hj; simp; omega))).trans (HBA.out.block j (HJ.out.inside HJ2.out j hj))
    have HE3 : Hid (ExQ f w w3) := (HE2.out.trans (ExQ.ofBelow HBA.out)).trans (ExQ.ofBelow hb3)
    have HN := HNO h0
    clear hb3 h0
    gi_wp2
    refine ⟨fun _ h => (by cases h), ?_⟩
    gi_wp2
    go_roundw
    case rel => exact ⟨k + 1, f2, by omega, by go_num, by rw [HN.out]; exact HJ3.out, HE3.out, HFF2.out⟩
    case measure => simp [intOf]; omega
   ·have hz3 := Nat.le_trans HBA.out.size hb3.size
    have HJ3 : Hid (J (pre ++ fitsL (rs.take k) x) true f2 w3) := HJ.out.abide HJ2.out (Nat.le_trans HBA.out.size hb3.size) fun j hj => ((hb3.block j (by have := HJ.out.inside HJ2.out j hj; simp; omega))).trans (HBA.out.block j (HJ.out.inside HJ2.out j hj))
    have HE3 : Hid (ExQ f w w3) := (HE2.out.trans (ExQ.ofBelow HBA.out)).trans (ExQ.ofBelow hb3)
    have HY := HYES h' h0
    have P3 := hide (P0.out.below hb3 P0.out.lt)
    have p2 := P3.out.c2
    have p3 := P3.out.c3
    have hqn : wr.heap.size ≤ q := by simp at hq; omega
    have hsr : Sl w3 X a2 d.r.args := (HX3.out.later HBA.out).later hb3
    have RHW := HRH.out 0 _ (d, h') #[.agg #[.string d.r.name, .slice a2 d.r.args.length c2, .map (some q)]] (fun b => (X b ∨ b = q) ∧ b < w3.heap.size) f2 w3 (List.IsPrefix.trans ⟨fitsL (rs.drop (k + 1)) x, by rw [HSPL.out, HY.out]; simp⟩ HOK.out) HJ3.out ⟨a2, c2, q, Z'.map toP, rfl, hsr.mono fun b hb hl => ⟨Or.inl hb, hl⟩, ⟨Or.inr rfl, hm'.1.lt⟩, hm'.1, by rw [← hz']; exact pairsL_of fun y hy => (hm'.2 y hy).mono fun b hb hl => ⟨Or.inl hb.1, hl⟩⟩ (fun b hb => ⟨hb.2, fun h => by
     rcases hb.1 with h1 | h1
     ·exact (HX2.out b h1).2 h
     ·have := HJ.out.inside HJ2.out b (Or.inl h); omega⟩)
    obtain ⟨hfn, htmps, hasg, hbody, hy, hR⟩ := RHW
    have HR := hide hR
    clear hR hm' hz' h0 hb3 hsr
    gi_wp2
    refine HR.out.mono ?_
    rintro e W5 ⟨s5, rfl, f5, hj5, he5, hff5, hS5⟩
    have HS5 := hide hS5
    clear hS5
    have HJ5 := hide hj5
    have HE5 := hide he5
    have HFF5 := hide hff5
    have hz5 := he5.size
    have HE9 : Hid (ExQ f w W5) := HE3.out.transN he5 fun i hi hl => by
     rcases HFF2.out i hi with h | h
     ·exact h
     ·omega
    have HFF9 : Hid (∀ b, f5 b → f b ∨ w.heap.size ≤ b) := fun b hb => by
     have := HE3.out.size
     rcases HFF5.out b hb with h | h
     ·exact HFF2.out b h
     ·right; omega
    clear hj5 he5 hff5 hy
    cases s5 with
    | true =>
     gi_wp2
     go_roundw
     case rel => exact ⟨k + 1, f5, by omega, by go_num, by rw [HY.out]; simpa using HJ5.out, HE9.out, HFF9.out⟩
     case measure => simp [intOf]; omega
    | false =>
     gi_wp2
     refine bodyPost_ret (results_none rfl _ _ _) rfl ?_
     refine ⟨⟨_, rfl⟩, false, ⟨(fitsL (rs.take (k + 1)) x).length, f5, by rw [HSPL.out]; simp, by simp, ?_, HE9.out.mono fun b hb _ => Or.inl hb, HFF9.out⟩, fun _ => HS5.out rfl⟩
     rw [HSPL.out, List.take_left, HY.out]
     simpa using HJ5.out
  ·have htk : rs.take k = rs := List.take_of_length_le (by omega)
   rw [htk] at HJ2
   have hge : ¬ ((k : Int) < (rs.length : Int)) := by omega
   go_wp2_with fail
   go_end0
   exact ⟨⟨_, rfl⟩, true, ⟨(fitsL rs x).length, f2, Nat.le_refl _, fun _ => rfl, by rw [List.take_length]; exact HJ2.out, HE2.out.mono fun b hb _ => Or.inl hb, HFF2.out⟩, fun h => by cases h⟩
def JL {α β : Type} (J : Tk α) (K' : Nat → Prop) (G : β → List α) (pre : List α) (L : Nat) (r rd : Loop) (W0 : World) : Tk β := fun pre2 s f2 W =>
 ∃ (f : Nat → Prop) (m : Nat), (∀ b, f2 b ↔ f b ∨ b = L) ∧ m ≤ (pre2.flatMap G).length ∧ (s = true → m = (pre2.flatMap G).length) ∧ J (pre ++ (pre2.flatMap G).take m) s f W ∧ ¬ f L ∧ W.heap[L]? = some (.loop (if s = true then r else rd)) ∧ (∀ b, K' b → b < W0.heap.size ∧ ¬ f b ∧ b ≠ L) ∧ W0.heap.size ≤ W.heap.size ∧ ∀ b, K' b → W.heap[b]? = W0.heap[b]?
theorem JL.ok {α β : Type} {J : Tk α} {K K' : Nat → Prop} {G : β → List α} {pre : List α} {L : Nat} {r rd : Loop} {W0 : World} (hJ : TkOk J K) (hK : ∀ b, K b → K' b) : TkOk (JL J K' G pre L r rd W0) K' where
 inside := by
  rintro pre2 s f2 W ⟨f, m, hf2, hm, hm2, hj, hfL, hL, hK2, hz, hC⟩ b hb
  rcases hb with hb | hb
  ·rcases (hf2 b).1 hb with h | h
   ·exact hJ.inside hj b (Or.inl h)
   ·subst h; exact (Array.getElem?_eq_some_iff.1 hL).1
  ·have := (hK2 b hb).1; omega
 apart := by
  rintro pre2 s f2 W ⟨f, m, hf2, hm, hm2, hj, hfL, hL, hK2, hz, hC⟩ b hb h
  rcases (hf2 b).1 h with h | h
  ·exact (hK2 b hb).2.1 h
  ·exact (hK2 b hb).2.2 h
 abide := by
  rintro pre2 s f2 W W' ⟨f, m, hf2, hm, hm2, hj, hfL, hL, hK2, hz, hC⟩ hs hk
  refine ⟨f, m, hf2, hm, hm2, hJ.abide hj hs (fun b hb => hk b ?_), hfL, (hk L (Or.inl ((hf2 L).2 (Or.inr rfl)))).trans hL, hK2, Nat.le_trans hz hs, fun b hb => (hk b (Or.inr hb)).trans (hC b hb)⟩
  rcases hb with hb | hb
  ·exact Or.inl ((hf2 b).2 (Or.inl hb))
  ·exact Or.inr (hK b hb)
theorem take_flat {α β : Type} (G : β → List α) (all : List β) (m1 m : Nat) (h : m ≤ ((all.take m1).flatMap G).length) : ((all.take m1).flatMap G).take m = (all.flatMap G).take m ∧ m ≤ (all.flatMap G).length := by
 have e : all.flatMap G = (all.take m1).flatMap G ++ (all.drop m1).flatMap G := by rw [← List.flatMap_append, List.take_append_drop]
 rw [e]
 exact ⟨(List.take_append_of_le_length h).symm, by rw [List.length_append]; omega⟩
theorem Went.unJL {α β : Type} {J : Tk α} {K' : Nat → Prop} {G : β → List α} {pre : List α} {L : Nat} {r rd : Loop} {W0 W W' : World} {all : List β} {f2 g : Nat → Prop} {s : Bool} (h : Went (JL J K' G pre L r rd W0) all [] f2 g W s W') :
  ∃ (f' : Nat → Prop) (m : Nat), m ≤ (all.flatMap G).length ∧ (s = true → m = (all.flatMap G).length) ∧ J (pre ++ (all.flatMap G).take m) s f' W' ∧ ¬ f' L ∧ W'.heap[L]? = some (.loop (if s = true then r else rd)) ∧ (∀ b, K' b → b < W'.heap.size ∧ ¬ f' b ∧ b ≠ L ∧ W'.heap[b]? = W0.heap[b]?) ∧ ExQ (fun b => f2 b ∨ g b) W W' ∧ ∀ b, f' b → f2 b ∨ W.heap.size ≤ b := by
 obtain ⟨m1, f3, hm1, hs1, ⟨f, m, hf2, hm, hm2, hj, hfL, hL, hK2, hz, hC⟩, he, hff⟩ := h
 rw [List.nil_append] at hm hm2 hj
 obtain ⟨e1, e2⟩ := take_flat G all m1 m hm
 refine ⟨f, m, e2, fun h => ?_, by rw [← e1]; exact hj, hfL, hL, fun b hb => ⟨by have := (hK2 b hb).1; omega, (hK2 b hb).2.1, (hK2 b hb).2.2, hC b hb⟩, he, fun b hb => hff b ((hf2 b).2 (Or.inl hb))⟩
 have := hs1 h
 subst this
 rw [hm2 h, List.take_length]
theorem JL.start {α β : Type} {J : Tk α} {K' f : Nat → Prop} {G : β → List α} {pre : List α} {L : Nat} {r rd : Loop} {W0 : World} (hj : J pre true f W0) (hfL : ¬ f L) (hL : W0.heap[L]? = some (.loop r)) (hK : ∀ b, K' b → b < W0.heap.size ∧ ¬ f b ∧ b ≠ L) : JL J K' G pre L r rd W0 [] true (fun b => f b ∨ b = L) W0 :=
 ⟨f, 0, fun b => Iff.rfl, Nat.zero_le _, fun _ => rfl, by simpa using hj, hfL, hL, hK, Nat.le_refl _, fun b _ => rfl⟩
attribute [local go_sem] Oper.semAt_some
theorem downCS_any {J : Tk Dn} {K : Nat → Prop} {all : List Dn} (hJ : TkOk J K) (lp : Nat) {S : World → Prop} (RH : RndS lp LpD J all S) (t : Tm) (fs : List Int) (T F : Nat) (aa : Option Addr) (ca : Nat) (fv : Value) (pre : List Dn) (f : Nat → Prop) (w : World) (X : Nat → Prop) (hT : Blk w T #[.string t.name, .slice aa t.args.length ca] 27) (hs : Sl w X aa t.args) (hF : Blk w F #[fv] 22) (hfv : PV w X fv fs) (hat : (atT t fs).isSome = true) (hX : ∀ b, X b → b < w.heap.size ∧ ¬ f b) (hj : J pre true f w) (hz : sizeL [t] ≤ 800000) (hOk : (pre ++ dnT [] fs t) <+: all) :
  Calls Tryz.prog 86 #[.func (.yield lp) #[] #[], .pointer (some ⟨T, 0, none⟩), .pointer (some ⟨F, 0, none⟩)] w fun e w' => WentS J (dnT [] fs t) pre f S w e w' := by
 have t0 := hT.cell 0
 have t1 := hT.cell 1
 have f0 := hF.cell 0
 have hK : ∀ b, K b → b < w.heap.size := fun b hb => hJ.inside hj b (Or.inr hb)
 obtain ⟨fa, fc, rfl, hfl, hfc⟩ := hfv
 have HD := hide (downS_any hJ w.heap.size lp hK RH t (.agg #[.string t.name, .slice aa t.args.length ca]) (.slice none 0 0) (.slice fa fs.length fc) [] fs pre f w X ⟨aa, ca, rfl, hs⟩ ⟨fa, fc, rfl, hfl, hfc⟩ hat hX (Nat.le_refl _) (World.ownsRow_nil _ _ _ _) (by simp [Value.ownBlock]) hj (by simp; omega) hOk)
 simp only [List.getElem?_toArray, List.getElem?_cons_zero, List.getElem?_cons_succ] at t0 t1 f0
 clear hT hs hF hfl hfc hat hX hj hz hK RH hJ hOk
 go_enter Tryz.func86, Tryz.ntmps86
 go_wp2_with fail
 refine HD.out.mono ?_
 rintro e w1 ⟨b, rfl, hw, _, hS⟩
 go_wp2_with fail
 go_end0
 exact ⟨⟨_, rfl⟩, b, (hw.mono fun b hb _ => by simp [Value.ownBlock] at hb), hS⟩
theorem stepsFits_any (uv : Value) (hone : ∃ a n c, uv = .slice a n c) (s : ByteArray) (aa : Option Addr) (n ca : Nat) (w : World) :
  Calls Tryz.prog 85 #[uv, .agg #[.string s, .slice aa n ca]] w fun e w' => e = .returned (.func (.func 114) #[] #[.pointer (some ⟨w.heap.size, 0, none⟩), .pointer (some ⟨w.heap.size + 1, 0, none⟩)]) ∧ w' = (w.alloc (.cells #[uv] 23)).alloc (.cells #[.string s, .slice aa n ca] 27) := by
 obtain ⟨a, n1, c, rfl⟩ := hone
 have hmf : ∀ (fn : Fn) (first cap : Array Value) (w : World), (Instr.makeFunc fn first cap).run Tryz.prog w = .ok (.func fn first cap) w := fun _ _ _ _ => rfl
 go_enter Tryz.func85, Tryz.ntmps85
 go_wp2_with fail
 go_ret
 exact ⟨rfl, rfl⟩
abbrev Ch := Dn × Ft
def chG (rs : List Pr) (d : Dn) : List Ch := (fitsL rs d.2).map fun x => (d, x)
def chL (rs : List Pr) (t : Tm) (fs : List Int) : List Ch := (dnT [] fs t).flatMap (chG rs)
def LpC (x : Ch) (args : Array Value) (W : World) (Z : Nat → Prop) : Prop :=
 ∃ ua uc xa xc ra rc q L, args = #[.agg #[.slice ua x.1.1.length uc, .string x.1.2.name, .slice xa x.1.2.args.length xc, .string x.2.1.r.name, .slice ra x.2.1.r.args.length rc, .map (some q)]] ∧ PV W Z (.slice ua x.1.1.length uc) x.1.1 ∧ Sl W Z xa x.1.2.args ∧ Sl W Z ra x.2.1.r.args ∧ Z q ∧ EnvR W q Z x.2.2 L
set_option maxHeartbeats 2000000 in
theorem chances1S_any {J : Tk Ch} {K : Nat → Prop} {all : List Ch} (hJ : TkOk J K) (lp : Nat) {S : World → Prop} (hSt : StopOk S) (RH : RndS lp LpC J all S) (rs : List Pr) (t : Tm) (fs : List Int) (P R T F : Nat) (uv : Value) (aa : Option Addr) (ca : Nat) (fv : Value) (pre : List Ch) (f : Nat → Prop) (w : World) (X : Nat → Prop) (hP : Blk w P #[.func (.func 86) #[] #[.pointer (some ⟨T, 0, none⟩), .pointer (some ⟨F, 0, none⟩)]] 98) (hR : Blk w R #[uv] 23) (hu : QV w X uv rs) (hT : Blk w T #[.string t.name, .slice aa t.args.length ca] 27) (hs : Sl w X aa t.args) (hF : Blk w F #[fv] 22) (hfv : PV w X fv fs) (hat : (atT t fs).isSome = true) (hX : ∀ b, X b → b < w.heap.size ∧ ¬ f b) (hRf : ¬ f R) (hj : J pre true f w) (hz : sizeL [t] ≤ 800000) (hOk : (pre ++ chL rs t fs) <+: all) :
  Calls Tryz.prog 84 #[.func (.yield lp) #[] #[], .pointer (some ⟨P, 0, none⟩), .pointer (some ⟨R, 0, none⟩)] w fun e w' => WentS J (chL rs t fs) pre f S w e w' := by
 have HST := hide hSt
 clear hSt
 have p0 := hP.cell 0
 have hPl := hP.lt
 have hRl := hR.lt
 have hXa : Hid (∀ b, X b → b < w.heap.size ∧ ¬ f b) := hX
 simp only [List.getElem?_toArray, List.getElem?_cons_zero, List.getElem?_cons_succ] at p0
 have p1 : ∀ o, (w.alloc o).cell? ⟨P, 0, none⟩ = some (.func (.func 86) #[] #[.pointer (some ⟨T, 0, none⟩), .pointer (some ⟨F, 0, none⟩)]) := fun o => (hP.alloc o).cell 0
 have HI : Hid (∀ b, f b ∨ K b → b < w.heap.size) := hJ.inside hj
 have HAP : Hid (∀ b, K b → ¬ f b) := hJ.apart hj
 have hB1 : Below w.heap.size w (w.alloc (.cells #[.func (.yield lp) #[] #[]] 127)) := (Below.refl _ _).alloc (Nat.le_refl _) _
 have HJ := hide hJ
 have HRH := hide RH
 have HR := hide hR
 have HU := hide hu
 have HT := hide hT
 have HS := hide hs
 have HF := hide hF
 have HFV := hide hfv
 have HJ0 := hide hj
 clear hJ RH hR hu hT hs hF hfv hj hX hP
 refine (callsIn_wide (n := 3)).1 ?_
 refine callsIn_of_wp_marks Tryz.func84 rfl trivial ?_ rfl
 simp only [Tryz.ntmps84, List.size_toArray, List.length_cons, List.length_nil, Nat.reduceAdd, Nat.reduceSub, Array.replicate_succ, Array.replicate_zero, List.push_toArray, List.append_toArray, List.nil_append, List.cons_append]
 gi_wp2
 refine wp_range2 (gf := 86) (lb := #[.pointer (some ⟨T, 0, none⟩), .pointer (some ⟨F, 0, none⟩)]) rfl (enters_of Tryz.func86 (by kernel_rfl) rfl) ?_
 intro r hr1 hr2 hr3 hr4 hr5 hr6
 have hz1 : (w.alloc (.cells #[.func (.yield lp) #[] #[]] 127)).heap.size = w.heap.size + 1 := by simp
 rw [hz1]
 have hz5 : (((w.alloc (.cells #[.func (.yield lp) #[] #[]] 127)).alloc (.deferred (some []))).alloc (.loop r)).heap.size = w.heap.size + 3 := by simp
 have hB5 : Below w.heap.size w (((w.alloc (.cells #[.func (.yield lp) #[] #[]] 127)).alloc (.deferred (some []))).alloc (.loop r)) := below3 _ _ _
 have hY5 : Blk (((w.alloc (.cells #[.func (.yield lp) #[] #[]] 127)).alloc (.deferred (some []))).alloc (.loop r)) w.heap.size #[.func (.yield lp) #[] #[]] 127 := ((Blk.new w #[.func (.yield lp) #[] #[]] 127).alloc _).alloc _
 have hD5 : (((w.alloc (.cells #[.func (.yield lp) #[] #[]] 127)).alloc (.deferred (some []))).alloc (.loop r)).heap[w.heap.size + 1]? = some (.deferred (some [])) := by
  have h1 := (Below.heap_alloc ((w.alloc (.cells #[.func (.yield lp) #[] #[]] 127)).alloc (.deferred (some []))) (.loop r) (w.alloc (.cells #[.func (.yield lp) #[] #[]] 127)).heap.size (by simp)).trans (World.alloc_heap_new (w.alloc (.cells #[.func (.yield lp) #[] #[]] 127)) (.deferred (some [])))
  rw [hz1] at h1
  exact h1
 have hL5 : (((w.alloc (.cells #[.func (.yield lp) #[] #[]] 127)).alloc (.deferred (some []))).alloc (.loop r)).heap[w.heap.size + 1 + 1]? = some (.loop r) := by
  have h1 := World.alloc_heap_new ((w.alloc (.cells #[.func (.yield lp) #[] #[]] 127)).alloc (.deferred (some []))) (.loop r)
  rw [World.size_alloc, hz1] at h1
  exact h1
 generalize (((w.alloc (.cells #[.func (.yield lp) #[] #[]] 127)).alloc (.deferred (some []))).alloc (.loop r)) = W5 at *
 have e5 : ∀ b, b < w.heap.size → W5.heap[b]? = w.heap[b]? := fun b hb => hB5.block b hb
 obtain ⟨K2, hK2⟩ : ∃ K2 : Nat → Prop, K2 = fun b => K b ∨ X b ∨ b = R ∨ b = w.heap.size ∨ b = w.heap.size + 1 := ⟨_, rfl⟩
 have HKK : Hid (∀ b, K b → K2 b) := fun b hb => by rw [hK2]; exact Or.inl hb
 have HKX : Hid (∀ b, X b → K2 b) := fun b hb => by rw [hK2]; exact Or.inr (Or.inl hb)
 have HKR : Hid (K2 R) := by unfold Hid; rw [hK2]; exact Or.inr (Or.inr (Or.inl rfl))
 have HKY : Hid (K2 w.heap.size) := by unfold Hid; rw [hK2]; exact Or.inr (Or.inr (Or.inr (Or.inl rfl)))
 have HKD : Hid (K2 (w.heap.size + 1)) := by unfold Hid; rw [hK2]; exact Or.inr (Or.inr (Or.inr (Or.inr rfl)))
 have HK5 : Hid (∀ b, K2 b → b < W5.heap.size ∧ ¬ f b ∧ b ≠ w.heap.size + 1 + 1) := fun b hb => by
  rw [hK2] at hb
  have hfs := HI.out
  rcases hb with h | h | h | h | h
  ·have := HI.out b (Or.inr h); exact ⟨by omega, HAP.out b h, by omega⟩
  ·have := hXa.out b h; exact ⟨by omega, this.2, by omega⟩
  ·subst h; exact ⟨by omega, hRf, by omega⟩
  ·subst h; exact ⟨by omega, fun h => by have := hfs _ (Or.inl h); omega, by omega⟩
  ·subst h; exact ⟨by omega, fun h => by have := hfs _ (Or.inl h); omega, by omega⟩
 clear hK2
 obtain ⟨rd, hrd⟩ : ∃ rd : Loop, rd = { r with state := .done, pending := some .ret } := ⟨_, rfl⟩
 obtain ⟨rb, hrb⟩ : ∃ rb : Loop, rb = { r with state := .busy } := ⟨_, rfl⟩
 have hok : TkOk (JL J K2 (chG rs) pre (w.heap.size + 1 + 1) r rd W5) K2 := JL.ok HJ.out HKK.out
 have HY5 := hide hY5
 have HR5 : Hid (Blk W5 R #[uv] 23) := (e5 R hRl).trans HR.out
 have HU5 := hide (HU.out.later hB5)
 obtain ⟨un, ul, uc0, huv⟩ : ∃ a n c, uv = .slice a n c := by obtain ⟨a, c, e, _⟩ := HU.out; exact ⟨a, _, c, e⟩
 have HOK := hide hOk
 clear hOk
 have RH2 : RndS (w.heap.size + 1 + 1) LpD (JL J K2 (chG rs) pre (w.heap.size + 1 + 1) r rd W5) (dnT [] fs t) S := by
  have HR1 := hide hr1
  have HR2 := hide hr2
  have HR3 := hide hr3
  have HR4 := hide hr4
  have HRR5 := hide hr5
  have HR6 := hide hr6
  clear hr1 hr2 hr3 hr4 hr5 hr6 p0 p1 hD5 hL5 hok hB1 hB5 hat hz
  intro n pre2 x args Z f2 W hokx hjj hl hZ
  have HOKX := hide hokx
  clear hokx
  obtain ⟨f1, m, hf2, hm, hm2, hj1, hfL, hL, hK1, hzW, hC⟩ := hjj
  obtain ⟨u, v, rfl, hu1, hv1⟩ := hl
  obtain ⟨ua, uc, rfl, hul, huc⟩ := hu1
  obtain ⟨xa, xc, rfl, hxs⟩ := hv1
  have HPU : Hid (PV W Z (.slice ua x.1.length uc) x.1) := ⟨ua, uc, rfl, hul, huc⟩
  have HXS := hide hxs
  have em := hm2 rfl
  subst em
  rw [List.take_length] at hj1
  simp only [if_true] at hL
  have HJ1 := hide hj1
  have HIN1 := hide (HJ.out.inside hj1)
  have HF2 := hide hf2
  have HK1 := hide hK1
  have HC := hide hC
  have HZ := hide hZ
  have HL := hide hL
  have hlL : w.heap.size + 1 + 1 < W.heap.size := (Array.getElem?_eq_some_iff.1 hL).1
  clear hul huc hxs hj1 hf2 hK1 hC hZ hm hm2
  refine yield_two hrb hrd HRR5.out HR6.out HR4.out HR3.out hL HR1.out HR2.out rfl ?_
  have hL2 : ((W.alloc (.cells #[.slice ua x.1.length uc] 22)).alloc (.cells #[.string x.2.name, .slice xa x.2.args.length xc] 27)).heap[w.heap.size + 1 + 1]? = some (.loop r) := (Below.heap_alloc _ _ _ (by simp; omega)).trans ((Below.heap_alloc _ _ _ hlL).trans hL)
  have kV : ∀ b, b < W.heap.size → b ≠ w.heap.size + 1 + 1 → (((W.alloc (.cells #[.slice ua x.1.length uc] 22)).alloc (.cells #[.string x.2.name, .slice xa x.2.args.length xc] 27)).putObj (w.heap.size + 1 + 1) (.loop rb)).heap[b]? = W.heap[b]? := fun b hb hne => (World.putObj_heap_other hne).trans ((Below.heap_alloc _ _ _ (by simp; omega)).trans (Below.heap_alloc _ _ _ hb))
  have hzV : (((W.alloc (.cells #[.slice ua x.1.length uc] 22)).alloc (.cells #[.string x.2.name, .slice xa x.2.args.length xc] 27)).putObj (w.heap.size + 1 + 1) (.loop rb)).heap.size = W.heap.size + 2 := by simp
  have hP4 : Blk (((W.alloc (.cells #[.slice ua x.1.length uc] 22)).alloc (.cells #[.string x.2.name, .slice xa x.2.args.length xc] 27)).putObj (w.heap.size + 1 + 1) (.loop rb)) W.heap.size #[.slice ua x.1.length uc] 22 := (World.putObj_heap_other (by omega)).trans ((Blk.new W _ _).alloc _)
  have hP5 : Blk (((W.alloc (.cells #[.slice ua x.1.length uc] 22)).alloc (.cells #[.string x.2.name, .slice xa x.2.args.length xc] 27)).putObj (w.heap.size + 1 + 1) (.loop rb)) (W.heap.size + 1) #[.string x.2.name, .slice xa x.2.args.length xc] 27 := (World.putObj_heap_other (by omega)).trans (by
   have h := Blk.new (W.alloc (.cells #[.slice ua x.1.length uc] 22)) #[.string x.2.name, .slice xa x.2.args.length xc] 27
   rw [World.size_alloc] at h
   exact h)
  have hLV : (((W.alloc (.cells #[.slice ua x.1.length uc] 22)).alloc (.cells #[.string x.2.name, .slice xa x.2.args.length xc] 27)).putObj (w.heap.size + 1 + 1) (.loop rb)).heap[w.heap.size + 1 + 1]? = some (.loop rb) := World.putObj_heap_same (by simp; omega)
  have hRV : Blk (((W.alloc (.cells #[.slice ua x.1.length uc] 22)).alloc (.cells #[.string x.2.name, .slice xa x.2.args.length xc] 27)).putObj (w.heap.size + 1 + 1) (.loop rb)) R #[uv] 23 := (kV R (by have := HK1.out R HKR.out; omega) (HK1.out R HKR.out).2.2).trans ((HC.out R HKR.out).trans HR5.out)
  have cR : (((W.alloc (.cells #[.slice ua x.1.length uc] 22)).alloc (.cells #[.string x.2.name, .slice xa x.2.args.length xc] 27)).putObj (w.heap.size + 1 + 1) (.loop rb)).cell? ⟨R, 0, none⟩ = some uv := hRV.cell 0
  have cX0 : (((W.alloc (.cells #[.slice ua x.1.length uc] 22)).alloc (.cells #[.string x.2.name, .slice xa x.2.args.length xc] 27)).putObj (w.heap.size + 1 + 1) (.loop rb)).cell? ⟨W.heap.size + 1, 0, none⟩ = some (.string x.2.name) := hP5.cell 0
  have cX1 : (((W.alloc (.cells #[.slice ua x.1.length uc] 22)).alloc (.cells #[.string x.2.name, .slice xa x.2.args.length xc] 27)).putObj (w.heap.size + 1 + 1) (.loop rb)).cell? ⟨W.heap.size + 1, 1, none⟩ = some (.slice xa x.2.args.length xc) := hP5.cell 1
  have HOSV : Hid ((((W.alloc (.cells #[.slice ua x.1.length uc] 22)).alloc (.cells #[.string x.2.name, .slice xa x.2.args.length xc] 27)).putObj (w.heap.size + 1 + 1) (.loop rb)).os = W.os ∧ (((W.alloc (.cells #[.slice ua x.1.length uc] 22)).alloc (.cells #[.string x.2.name, .slice xa x.2.args.length xc] 27)).putObj (w.heap.size + 1 + 1) (.loop rb)).tape = W.tape ∧ (((W.alloc (.cells #[.slice ua x.1.length uc] 22)).alloc (.cells #[.string x.2.name, .slice xa x.2.args.length xc] 27)).putObj (w.heap.size + 1 + 1) (.loop rb)).output = W.output) := ⟨rfl, rfl, rfl⟩
  have HP4 := hide hP4
  have HP5 := hide hP5
  have HLV := hide hLV
  have HKV := hide kV
  clear hP4 hP5 hLV kV hRV hrb hrd
  have hf1 : (Fence.wide.inRound (w.heap.size + 1 + 1)).fn 85 := trivial
  subst huv
  gi_wp2
  generalize (((W.alloc (.cells #[.slice ua x.1.length uc] 22)).alloc (.cells #[.string x.2.name, .slice xa x.2.args.length xc] 27)).putObj (w.heap.size + 1 + 1) (.loop rb)) = V at *
  refine ⟨trivial, (fun h => by simp [Fence.wide] at h), ?_⟩
  refine (CallsIn.inRound _ (callsIn_wide.2 (stepsFits_any _ ⟨_, _, _, rfl⟩ _ _ _ _ _))).mono ?_
  rintro e w' ⟨rfl, rfl⟩
  gi_wp2
  clear cR cX0 cX1
  refine wp_rangeN (l₀ := w.heap.size + 1 + 1) (r₀ := rb) (by exact (Below.heap_alloc _ _ _ (by simp; omega)).trans ((Below.heap_alloc _ _ _ (by omega)).trans HLV.out)) (gf := 114) (lb := #[.pointer (some ⟨W.heap.size + 2, 0, none⟩), .pointer (some ⟨W.heap.size + 2 + 1, 0, none⟩)]) rfl (enters_of Tryz.func114 (by kernel_rfl) rfl) ?_
  intro r3 h31 h32 h33 h34 h35 h36
  have hz2 : ((V.alloc (.cells #[.slice un ul uc0] 23)).alloc (.cells #[.string x.2.name, .slice xa x.2.args.length xc] 27)).heap.size = W.heap.size + 4 := by simp; omega
  rw [hz2]
  have hz6 : (((V.alloc (.cells #[.slice un ul uc0] 23)).alloc (.cells #[.string x.2.name, .slice xa x.2.args.length xc] 27)).alloc (.loop r3)).heap.size = W.heap.size + 5 := by simp; omega
  have hB6 : Below V.heap.size V (((V.alloc (.cells #[.slice un ul uc0] 23)).alloc (.cells #[.string x.2.name, .slice xa x.2.args.length xc] 27)).alloc (.loop r3)) := below3 _ _ _
  have hR6 : Blk (((V.alloc (.cells #[.slice un ul uc0] 23)).alloc (.cells #[.string x.2.name, .slice xa x.2.args.length xc] 27)).alloc (.loop r3)) (W.heap.size + 2) #[.slice un ul uc0] 23 := by
   have h := ((Blk.new V #[.slice un ul uc0] 23).alloc (.cells #[.string x.2.name, .slice xa x.2.args.length xc] 27)).alloc (.loop r3)
   rw [hzV] at h
   exact h
  have hT6 : Blk (((V.alloc (.cells #[.slice un ul uc0] 23)).alloc (.cells #[.string x.2.name, .slice xa x.2.args.length xc] 27)).alloc (.loop r3)) (W.heap.size + 2 + 1) #[.string x.2.name, .slice xa x.2.args.length xc] 27 := by
   have h := (Blk.new (V.alloc (.cells #[.slice un ul uc0] 23)) #[.string x.2.name, .slice xa x.2.args.length xc] 27).alloc (.loop r3)
   rw [World.size_alloc, hzV] at h
   exact h
  have hL6 : (((V.alloc (.cells #[.slice un ul uc0] 23)).alloc (.cells #[.string x.2.name, .slice xa x.2.args.length xc] 27)).alloc (.loop r3)).heap[W.heap.size + 4]? = some (.loop r3) := by
   have h1 := World.alloc_heap_new ((V.alloc (.cells #[.slice un ul uc0] 23)).alloc (.cells #[.string x.2.name, .slice xa x.2.args.length xc] 27)) (.loop r3)
   rw [hz2] at h1
   exact h1
  have HOS6 : Hid ((((V.alloc (.cells #[.slice un ul uc0] 23)).alloc (.cells #[.string x.2.name, .slice xa x.2.args.length xc] 27)).alloc (.loop r3)).os = W.os ∧ (((V.alloc (.cells #[.slice un ul uc0] 23)).alloc (.cells #[.string x.2.name, .slice xa x.2.args.length xc] 27)).alloc (.loop r3)).tape = W.tape ∧ (((V.alloc (.cells #[.slice un ul uc0] 23)).alloc (.cells #[.string x.2.name, .slice xa x.2.args.length xc] 27)).alloc (.loop r3)).output = W.output) := HOSV.out
  generalize (((V.alloc (.cells #[.slice un ul uc0] 23)).alloc (.cells #[.string x.2.name, .slice xa x.2.args.length xc] 27)).alloc (.loop r3)) = W6 at *
  have e6 : ∀ b, b < W.heap.size → b ≠ w.heap.size + 1 + 1 → W6.heap[b]? = W.heap[b]? := fun b hb hne => (hB6.block b (by omega)).trans (HKV.out b hb hne)
  have hLb6 : W6.heap[w.heap.size + 1 + 1]? = some (.loop rb) := (hB6.block _ (by omega)).trans HLV.out
  have hP4 : Blk W6 W.heap.size #[.slice ua x.1.length uc] 22 := HP4.out.below hB6 (by omega)
  have hP5 : Blk W6 (W.heap.size + 1) #[.string x.2.name, .slice xa x.2.args.length xc] 27 := HP5.out.below hB6 (by omega)
  obtain ⟨K3, hK3⟩ : ∃ K3 : Nat → Prop, K3 = fun b => K2 b ∨ (Z b ∧ b ≠ w.heap.size + 1 + 1) ∨ b = w.heap.size + 1 + 1 ∨ b = W.heap.size ∨ b = W.heap.size + 1 := ⟨_, rfl⟩
  have k3a : Hid (∀ b, K2 b → K3 b) := fun b hb => by rw [hK3]; exact Or.inl hb
  have k3z : Hid (∀ b, Z b → K3 b) := fun b hb => by
   rw [hK3]
   by_cases h : b = w.heap.size + 1 + 1
   ·exact Or.inr (Or.inr (Or.inl h))
   ·exact Or.inr (Or.inl ⟨hb, h⟩)
  have k3l : Hid (K3 (w.heap.size + 1 + 1)) := by unfold Hid; rw [hK3]; exact Or.inr (Or.inr (Or.inl rfl))
  have k34 : Hid (K3 W.heap.size) := by unfold Hid; rw [hK3]; exact Or.inr (Or.inr (Or.inr (Or.inl rfl)))
  have k35 : Hid (K3 (W.heap.size + 1)) := by unfold Hid; rw [hK3]; exact Or.inr (Or.inr (Or.inr (Or.inr rfl)))
  have hZf : Hid (∀ b, Z b → b < W.heap.size ∧ ¬ f1 b ∧ b ≠ w.heap.size + 1 + 1) := fun b hb => ⟨(HZ.out b hb).1, fun h => (HZ.out b hb).2 ((HF2.out b).2 (Or.inl h)), fun h => (HZ.out b hb).2 ((HF2.out b).2 (Or.inr h))⟩
  have HK6 : Hid (∀ b, K3 b → b < W6.heap.size ∧ ¬ f1 b ∧ b ≠ W.heap.size + 4) := fun b hb => by
   rw [hK3] at hb
   have hfs := HIN1.out
   rcases hb with h | h | h | h | h
   ·have := HK1.out b h; exact ⟨by omega, this.2.1, by omega⟩
   ·have := hZf.out b h.1; exact ⟨by omega, this.2.1, by omega⟩
   ·subst h; exact ⟨by omega, hfL, by omega⟩
   ·subst h; exact ⟨by omega, fun h => by have := hfs _ (Or.inl h); omega, by omega⟩
   ·subst h; exact ⟨by omega, fun h => by have := hfs _ (Or.inl h); omega, by omega⟩
  clear hK3
  obtain ⟨rd3, hrd3⟩ : ∃ rd : Loop, rd = { r3 with state := .done, pending := some .ret } := ⟨_, rfl⟩
  obtain ⟨rb3, hrb3⟩ : ∃ rb : Loop, rb = { r3 with state := .busy } := ⟨_, rfl⟩
  have hJ6 : J (pre ++ pre2.flatMap (chG rs)) true f1 W6 := HJ.out.abide HJ1.out (by omega) fun b hb => e6 b (HIN1.out b hb) (fun h => by
   rcases hb with hb | hb
   ·rw [h] at hb; exact hfL hb
   ·exact (HK1.out b (HKK.out b hb)).2.2 h)
  have hok3 : TkOk (JL J K3 (fun y : Ft => [((x, y) : Ch)]) (pre ++ pre2.flatMap (chG rs)) (W.heap.size + 4) r3 rd3 W6) K3 := JL.ok HJ.out fun b hb => k3a.out b (HKK.out b hb)
  have hU6 : QV W6 X (.slice un ul uc0) rs := ((HU5.out.mono (Y := fun b => X b ∧ b < W5.heap.size) fun b h1 h2 => ⟨h1, h2⟩).kept fun b hb => by
   have h1 := HK1.out b (HKX.out b hb.1)
   exact (e6 b (by omega) h1.2.2).trans (HC.out b (HKX.out b hb.1))).mono fun b hb _ => hb.1
  have HPU6 : Hid (PV W6 Z (.slice ua x.1.length uc) x.1) := HPU.out.kept fun b hb => e6 b (hZf.out b hb).1 (hZf.out b hb).2.2
  have hXS6 : Sl W6 Z xa x.2.args := HXS.out.kept fun b hb => e6 b (hZf.out b hb).1 (hZf.out b hb).2.2
  have HXS6 := hide hXS6
  have hY6 : Blk W6 w.heap.size #[.func (.yield lp) #[] #[]] 127 := (e6 _ (by omega) (by omega)).trans ((HC.out _ HKY.out).trans HY5.out)
  have HY6 := hide hY6
  have HP46 := hide hP4
  have HP56 := hide hP5
  have HLB6 := hide hLb6
  have HE6 := hide e6
  have HL6 := hide hL6
  have HJ6 := hide hJ6
  have HT6 := hide hT6
  have HR6' := hide hR6
  have HU6 := hide hU6
  have HOK3 := hide hok3
  clear hY6 hP4 hP5 hLb6 e6 hL6 hJ6 hT6 hR6 hU6 hXS6 hok3 hB6 hz2
  have RH3 : RndS (W.heap.size + 4) LpF (JL J K3 (fun y : Ft => [((x, y) : Ch)]) (pre ++ pre2.flatMap (chG rs)) (W.heap.size + 4) r3 rd3 W6) (fitsL rs x.2) S := by
   intro n3 pre3 y args Z3 f3 U hoky hjj hl hZ3
   have HOKY := hide hoky
   clear hoky
   obtain ⟨g1, m3, hg3, hm3, hm32, hj3, hgL, hL3, hK3', hzU, hC3⟩ := hjj
   obtain ⟨ra, rc, q, Lm, rfl, hra, hq, henv⟩ := hl
   have em3 := hm32 rfl
   subst em3
   rw [List.take_length] at hj3
   simp only [if_true] at hL3
   have HRA := hide hra
   have HQ := hide hq
   have HEN := hide henv
   have HJ3 := hide hj3
   have HING := hide (HJ.out.inside hj3)
   have HG3 := hide hg3
   have HK3' := hide hK3'
   have HC3 := hide hC3
   have HZ3 := hide hZ3
   have HL3 := hide hL3
   have hlL3 : W.heap.size + 4 < U.heap.size := (Array.getElem?_eq_some_iff.1 hL3).1
   clear hra hq henv hj3 hg3 hK3' hC3 hZ3 hm3 hm32
   refine yield_two hrb3 hrd3 h35 h36 h34 h33 hL3 h31 h32 rfl ?_
   have hL32 : (U.alloc (.cells #[.string y.1.r.name, .slice ra y.1.r.args.length rc, .map (some q)] 102)).heap[W.heap.size + 4]? = some (.loop r3) := (Below.heap_alloc _ _ _ hlL3).trans hL3
   have kU : ∀ b, b < U.heap.size → b ≠ W.heap.size + 4 → ((U.alloc (.cells #[.string y.1.r.name, .slice ra y.1.r.args.length rc, .map (some q)] 102)).putObj (W.heap.size + 4) (.loop rb3)).heap[b]? = U.heap[b]? := fun b hb hne => (World.putObj_heap_other hne).trans (Below.heap_alloc _ _ _ hb)
   have hzU2 : ((U.alloc (.cells #[.string y.1.r.name, .slice ra y.1.r.args.length rc, .map (some q)] 102)).putObj (W.heap.size + 4) (.loop rb3)).heap.size = U.heap.size + 1 := by simp
   have hFB : Blk ((U.alloc (.cells #[.string y.1.r.name, .slice ra y.1.r.args.length rc, .map (some q)] 102)).putObj (W.heap.size + 4) (.loop rb3)) U.heap.size #[.string y.1.r.name, .slice ra y.1.r.args.length rc, .map (some q)] 102 := (World.putObj_heap_other (by omega)).trans (Blk.new U _ _)
   have hLU : ((U.alloc (.cells #[.string y.1.r.name, .slice ra y.1.r.args.length rc, .map (some q)] 102)).putObj (W.heap.size + 4) (.loop rb3)).heap[W.heap.size + 4]? = some (.loop rb3) := World.putObj_heap_same (by simp; omega)
   have k6 : ∀ b, K3 b → ((U.alloc (.cells #[.string y.1.r.name, .slice ra y.1.r.args.length rc, .map (some q)] 102)).putObj (W.heap.size + 4) (.loop rb3)).heap[b]? = W6.heap[b]? := fun b hb => (kU b (by have := (HK3'.out b hb).1; omega) (HK3'.out b hb).2.2).trans (HC3.out b hb)
   have cY : ((U.alloc (.cells #[.string y.1.r.name, .slice ra y.1.r.args.length rc, .map (some q)] 102)).putObj (W.heap.size + 4) (.loop rb3)).cell? ⟨w.heap.size, 0, none⟩ = some (.func (.yield lp) #[] #[]) := Blk.cell (show Blk _ w.heap.size _ _ from (k6 _ (k3a.out _ HKY.out)).trans HY6.out) 0
   have cP : ((U.alloc (.cells #[.string y.1.r.name, .slice ra y.1.r.args.length rc, .map (some q)] 102)).putObj (W.heap.size + 4) (.loop rb3)).cell? ⟨W.heap.size, 0, none⟩ = some (.slice ua x.1.length uc) := Blk.cell (show Blk _ W.heap.size _ _ from (k6 _ k34.out).trans HP46.out) 0
   have cX0 : ((U.alloc (.cells #[.string y.1.r.name, .slice ra y.1.r.args.length rc, .map (some q)] 102)).putObj (W.heap.size + 4) (.loop rb3)).cell? ⟨W.heap.size + 1, 0, none⟩ = some (.string x.2.name) := Blk.cell (show Blk _ (W.heap.size + 1) _ _ from (k6 _ k35.out).trans HP56.out) 0
   have cX1 : ((U.alloc (.cells #[.string y.1.r.name, .slice ra y.1.r.args.length rc, .map (some q)] 102)).putObj (W.heap.size + 4) (.loop rb3)).cell? ⟨W.heap.size + 1, 1, none⟩ = some (.slice xa x.2.args.length xc) := Blk.cell (show Blk _ (W.heap.size + 1) _ _ from (k6 _ k35.out).trans HP56.out) 1
   have cF0 : ((U.alloc (.cells #[.string y.1.r.name, .slice ra y.1.r.args.length rc, .map (some q)] 102)).putObj (W.heap.size + 4) (.loop rb3)).cell? ⟨U.heap.size, 0, none⟩ = some (.string y.1.r.name) := hFB.cell 0
   have cF1 : ((U.alloc (.cells #[.string y.1.r.name, .slice ra y.1.r.args.length rc, .map (some q)] 102)).putObj (W.heap.size + 4) (.loop rb3)).cell? ⟨U.heap.size, 1, none⟩ = some (.slice ra y.1.r.args.length rc) := hFB.cell 1
   have cF2 : ((U.alloc (.cells #[.string y.1.r.name, .slice ra y.1.r.args.length rc, .map (some q)] 102)).putObj (W.heap.size + 4) (.loop rb3)).cell? ⟨U.heap.size, 2, none⟩ = some (.map (some q)) := hFB.cell 2
   have hJU : J ((pre ++ pre2.flatMap (chG rs)) ++ pre3.flatMap (fun y : Ft => [((x, y) : Ch)])) true g1 ((U.alloc (.cells #[.string y.1.r.name, .slice ra y.1.r.args.length rc, .map (some q)] 102)).putObj (W.heap.size + 4) (.loop rb3)) := HJ.out.abide HJ3.out (by omega) fun b hb => kU b (HING.out b hb) (fun h => by
    rcases hb with hb | hb
    ·rw [h] at hb; exact hgL hb
    ·exact (HK3'.out b (k3a.out b (HKK.out b hb))).2.2 h)
   have hZ3f : Hid (∀ b, Z3 b → b < U.heap.size ∧ ¬ g1 b ∧ b ≠ W.heap.size + 4) := fun b hb => ⟨(HZ3.out b hb).1, fun h => (HZ3.out b hb).2 ((HG3.out b).2 (Or.inl h)), fun h => (HZ3.out b hb).2 ((HG3.out b).2 (Or.inr h))⟩
   have HOS : Hid (((U.alloc (.cells #[.string y.1.r.name, .slice ra y.1.r.args.length rc, .map (some q)] 102)).putObj (W.heap.size + 4) (.loop rb3)).os = U.os ∧ ((U.alloc (.cells #[.string y.1.r.name, .slice ra y.1.r.args.length rc, .map (some q)] 102)).putObj (W.heap.size + 4) (.loop rb3)).tape = U.tape ∧ ((U.alloc (.cells #[.string y.1.r.name, .slice ra y.1.r.args.length rc, .map (some q)] 102)).putObj (W.heap.size + 4) (.loop rb3)).output = U.output) := ⟨rfl, rfl, rfl⟩
   have HKU := hide kU
   have HLU := hide hLU
   have HKU6 := hide k6
   clear kU hLU k6 hFB
   have RHW := HRH.out (n3 - 1) _ (x, y) #[.agg #[.slice ua x.1.length uc, .string x.2.name, .slice xa x.2.args.length xc, .string y.1.r.name, .slice ra y.1.r.args.length rc, .map (some q)]] (fun b => Z b ∨ Z3 b) g1 ((U.alloc (.cells #[.string y.1.r.name, .slice ra y.1.r.args.length rc, .map (some q)] 102)).putObj (W.heap.size + 4) (.loop rb3)) (by
     obtain ⟨q3, e3⟩ := HOKY.out
     obtain ⟨q2, e2⟩ := HOKX.out
     refine List.IsPrefix.trans ⟨(q3.map fun z => (x, z)) ++ q2.flatMap (chG rs), ?_⟩ HOK.out
     unfold chL
     rw [← e2, List.flatMap_append, List.flatMap_append, List.flatMap_singleton, chG, ← e3, List.map_append, List.map_append, ← List.map_eq_flatMap]
     simp) hJU
    ⟨ua, uc, xa, xc, ra, rc, q, Lm, rfl, (HPU6.out.kept fun b hb => HKU6.out b (k3z.out b hb)).mono fun b hb _ => Or.inl hb, (HXS6.out.kept fun b hb => HKU6.out b (k3z.out b hb)).mono fun b hb _ => Or.inl hb, (HRA.out.kept fun b hb => HKU.out b (hZ3f.out b hb).1 (hZ3f.out b hb).2.2).mono fun b hb _ => Or.inr hb, Or.inr HQ.out, HEN.out.1.kept (HKU.out q (hZ3f.out q HQ.out).1 (hZ3f.out q HQ.out).2.2), HEN.out.2.imp fun a l hs => (hs.kept fun b hb => HKU.out b (hZ3f.out b hb).1 (hZ3f.out b hb).2.2).mono fun b hb _ => Or.inr hb⟩
    (fun b hb => by
     rcases hb with hb | hb
     ·have h1 := HK3'.out b (k3z.out b hb); exact ⟨by omega, h1.2.1⟩
     ·have h1 := hZ3f.out b hb; exact ⟨by omega, h1.2.1⟩)
   obtain ⟨hfn, htmps, hasg, hbody, hy, hR⟩ := RHW
   have HRR := hide hR
   clear hR hJU hrb3 hrd3
   gi_wp2
   refine ⟨(Array.getElem?_eq_some_iff.1 hL32).2, ?_⟩
   generalize ((U.alloc (.cells #[.string y.1.r.name, .slice ra y.1.r.args.length rc, .map (some q)] 102)).putObj (W.heap.size + 4) (.loop rb3)) = V3 at *
   gi_wp2
   refine ⟨(fun h => by simp [Fence.wide] at h), ?_⟩
   refine RoundIn.mono (F := Fence.wide.inRound (W.heap.size + 4)) HRR.out ?_
   rintro e W9 ⟨s9, rfl, f9, hj9, he9, hff9, hS9⟩
   have HS9 := hide hS9
   clear hS9
   have hz9 := he9.size
   have HL9 : Hid (W9.heap[W.heap.size + 4]? = some (.loop rb3)) := (he9.block _ (by omega) hgL).trans HLU.out
   have HFIN : Hid (∀ o : Loop, o = (if s9 = true then r3 else rd3) → ∃ f', JL J K3 (fun y : Ft => [((x, y) : Ch)]) (pre ++ pre2.flatMap (chG rs)) (W.heap.size + 4) r3 rd3 W6 (pre3 ++ [y]) s9 f' (W9.putObj (W.heap.size + 4) (.loop o)) ∧ ExQ f3 U (W9.putObj (W.heap.size + 4) (.loop o)) ∧ (∀ b, f' b → f3 b ∨ U.heap.size ≤ b) ∧ IfNo s9 (S (W9.putObj (W.heap.size + 4) (.loop o)))) := fun o ho => by
    subst ho
    have h4n : ¬ f9 (W.heap.size + 4) := fun h => by
     rcases hff9 _ h with h | h
     ·exact hgL h
     ·omega
    have hk9 : ∀ b, K3 b → W9.heap[b]? = W6.heap[b]? ∧ ¬ f9 b := fun b hb => by
     have h1 := HK3'.out b hb
     refine ⟨(he9.block b (by omega) h1.2.1).trans (HKU6.out b hb), fun h => ?_⟩
     rcases hff9 _ h with h | h
     ·exact h1.2.1 h
     ·omega
    refine ⟨fun b => f9 b ∨ b = W.heap.size + 4, ⟨f9, _, fun b => Iff.rfl, Nat.le_refl _, fun _ => rfl, ?_, h4n, World.putObj_heap_same (by omega), fun b hb => ⟨(HK3'.out b hb).1, (hk9 b hb).2, (HK3'.out b hb).2.2⟩, by simp; omega, fun b hb => (World.putObj_heap_other (HK3'.out b hb).2.2).trans (hk9 b hb).1⟩, ?_, (fun b hb => ?_), fun h => HST.out.put (HS9.out h) HL9.out _⟩
    ·rw [List.take_length, List.flatMap_append]
     refine HJ.out.abide (by simpa using hj9) (by simp) fun b hb => World.putObj_heap_other fun h => ?_
     rcases hb with hb | hb
     ·rw [h] at hb; exact h4n hb
     ·exact (HK3'.out b (k3a.out b (HKK.out b hb))).2.2 h
    ·refine ⟨?_, ?_, ?_, by simp; omega, fun b hb hn => ?_⟩
     ·exact he9.os.trans HOS.out.1
     ·exact he9.tape.trans HOS.out.2.1
     ·exact he9.output.trans HOS.out.2.2
     ·have h1 : b ≠ W.heap.size + 4 := fun h => hn ((HG3.out b).2 (Or.inr h))
      rw [World.putObj_heap_other h1, he9.block b (by omega) (fun h => hn ((HG3.out b).2 (Or.inl h))), HKU.out b hb h1]
    ·rcases hb with hb | hb
     ·rcases hff9 b hb with h | h
      ·exact Or.inl ((HG3.out b).2 (Or.inl h))
      ·right; omega
     ·exact Or.inl ((HG3.out b).2 (Or.inr hb))
   clear hj9 he9 hff9
   cases s9 with
   | true =>
    gi_wp2
    exact ⟨HL9.out, HFIN.out _ rfl⟩
   | false =>
    gi_wp2
    exact ⟨HL9.out, HFIN.out _ rfl⟩
  have hXf : ∀ b, X b ∨ Z b → b < W6.heap.size ∧ ¬ (f1 b ∨ b = W.heap.size + 4) := fun b hb => by
   have h1 : K3 b := by
    rcases hb with hb | hb
    ·exact k3a.out b (HKX.out b hb)
    ·exact k3z.out b hb
   have h2 := HK6.out b h1
   exact ⟨h2.1, fun h => by
    rcases h with h | h
    ·exact h2.2.1 h
    ·exact h2.2.2 h⟩
  refine (fits1S_any HOK3.out (W.heap.size + 4) RH3 rs x.2 (W.heap.size + 2) (W.heap.size + 2 + 1) (.slice un ul uc0) xa xc [] (fun b => f1 b ∨ b = W.heap.size + 4) W6 (fun b => X b ∨ Z b) HR6'.out (HU6.out.mono fun b hb _ => Or.inl hb) HT6.out (HXS6.out.mono fun b hb _ => Or.inr hb) hXf (fun h => by
   rcases h with h | h
   ·have := HIN1.out _ (Or.inl h); omega
   ·omega) (fun h => by
   rcases h with h | h
   ·have := HIN1.out _ (Or.inl h); omega
   ·omega) (JL.start HJ6.out (fun h => by have := HIN1.out _ (Or.inl h); omega) HL6.out HK6.out) (by simp)).mono ?_
  clear RH3 hXf
  rintro e W7 ⟨hret, s7, hw7, hS7⟩
  have HS7 := hide hS7
  clear hS7
  obtain ⟨f7, m7, hm7, hm72, hj7, hfL7, hL7, hK7, he7, hff7⟩ := hw7.unJL
  have hz7 := he7.size
  have HRET := hide hret
  have HFIN : Hid (∀ (o : Loop) (o3 : Obj), o = (if s7 = true then r else rd) → (W7.putObj (W.heap.size + 4) o3).heap[w.heap.size + 1 + 1]? = some (.loop rb) ∧ ∃ f', JL J K2 (chG rs) pre (w.heap.size + 1 + 1) r rd W5 (pre2 ++ [x]) s7 f' ((W7.putObj (W.heap.size + 4) o3).putObj (w.heap.size + 1 + 1) (.loop o)) ∧ ExQ f2 W ((W7.putObj (W.heap.size + 4) o3).putObj (w.heap.size + 1 + 1) (.loop o)) ∧ (∀ b, f' b → f2 b ∨ W.heap.size ≤ b) ∧ IfNo s7 (S ((W7.putObj (W.heap.size + 4) o3).putObj (w.heap.size + 1 + 1) (.loop o)))) := fun o o3 ho => by
   subst ho
   have hLb := hK7 _ k3l.out
   have kk : ∀ b, b ≠ W.heap.size + 4 → b ≠ w.heap.size + 1 + 1 → ((W7.putObj (W.heap.size + 4) o3).putObj (w.heap.size + 1 + 1) (.loop (if s7 = true then r else rd))).heap[b]? = W7.heap[b]? := fun b h1 h2 => (World.putObj_heap_other h2).trans (World.putObj_heap_other h1)
   have hmap : (fitsL rs x.2).flatMap (fun y : Ft => [((x, y) : Ch)]) = chG rs x := by unfold chG; rw [List.map_eq_flatMap]
   rw [hmap] at hm7 hm72 hj7
   refine ⟨(World.putObj_heap_other (by omega)).trans (hLb.2.2.2.trans HLB6.out), fun b => f7 b ∨ b = w.heap.size + 1 + 1, ⟨f7, (pre2.flatMap (chG rs)).length + m7, fun b => Iff.rfl, by rw [List.flatMap_append, List.length_append]; simp; omega, fun h => by rw [List.flatMap_append, List.length_append, hm72 h]; simp, ?_, hLb.2.1, World.putObj_heap_same (by simp; omega), fun b hb => ⟨(HK1.out b hb).1, (hK7 b (k3a.out b hb)).2.1, (HK1.out b hb).2.2⟩, by simp; omega, fun b hb => ?_⟩, ?_, (fun b hb => ?_), fun h => HST.out.put (HST.out.put (HS7.out h) hL7 _) ((World.putObj_heap_other (by omega)).trans (hLb.2.2.2.trans HLB6.out)) _⟩
   ·refine HJ.out.abide (W := W7) (by
     rw [List.flatMap_append, List.take_append, List.take_of_length_le (by omega)]
     simpa [List.append_assoc] using hj7) (by simp) fun b hb => kk b (fun h => ?_) (fun h => ?_)
    ·rcases hb with hb | hb
     ·rw [h] at hb; exact hfL7 hb
     ·exact (hK7 b (k3a.out b (HKK.out b hb))).2.2.1 h
    ·rcases hb with hb | hb
     ·rw [h] at hb; exact hLb.2.1 hb
     ·exact (HK1.out b (HKK.out b hb)).2.2 h
   ·have h1 := hK7 b (k3a.out b hb)
    have h2 := HK1.out b hb
    exact (kk b h1.2.2.1 h2.2.2).trans (h1.2.2.2.trans ((HE6.out b (by omega) h2.2.2).trans (HC.out b hb)))
   ·refine ⟨?_, ?_, ?_, by simp; omega, fun b hb hn => ?_⟩
    ·exact he7.os.trans HOS6.out.1
    ·exact he7.tape.trans HOS6.out.2.1
    ·exact he7.output.trans HOS6.out.2.2
    ·have h1 : b ≠ w.heap.size + 1 + 1 := fun h => hn ((HF2.out b).2 (Or.inr h))
     have h2 : ¬ f1 b := fun h => hn ((HF2.out b).2 (Or.inl h))
     rw [kk b (by omega) h1, he7.block b (by omega) (fun h => by
      rcases h with (h | h) | h
      ·exact h2 h
      ·omega
      ·exact h), HE6.out b hb h1]
   ·rcases hb with hb | hb
    ·rcases hff7 b hb with (h | h) | h
     ·exact Or.inl ((HF2.out b).2 (Or.inl h))
     ·right; omega
     ·right; omega
    ·exact Or.inl ((HF2.out b).2 (Or.inr hb))
  have HL7 := hide hL7
  clear hw7 hj7 hK7 he7 hff7 hm7 hm72 hret
  refine ⟨HRET.out, ?_⟩
  cases s7 with
  | true =>
   left
   refine ⟨HL7.out, ?_⟩
   gi_wp2
   exact HFIN.out _ _ rfl
  | false =>
   right
   refine ⟨by rw [← hrd3]; exact HL7.out, ?_⟩
   gi_wp2
   exact HFIN.out _ _ rfl
 refine (downCS_any hok (w.heap.size + 1 + 1) RH2 t fs T F aa ca fv [] (fun b => f b ∨ b = w.heap.size + 1 + 1) W5 X (HT.out.below hB5 HT.out.lt) (HS.out.later hB5) (HF.out.below hB5 HF.out.lt) (HFV.out.later hB5) hat (fun b hb => ⟨(HK5.out b (HKX.out b hb)).1, fun h => by
  rcases h with h | h
  ·exact (HK5.out b (HKX.out b hb)).2.1 h
  ·exact (HK5.out b (HKX.out b hb)).2.2 h⟩) (JL.start (HJ.out.abide HJ0.out (by omega) fun b hb => e5 b (HI.out b hb)) (fun h => by have := HI.out _ (Or.inl h); omega) hL5 HK5.out) hz (by simp)).mono ?_
 rintro e W ⟨hret, s, hw, hSS⟩
 have HSS := hide hSS
 clear hSS
 obtain ⟨f', m, hm, hm2, hj', hfL', hL', hK', he', hff'⟩ := hw.unJL
 have hz' := he'.size
 have HDW : Hid (∀ o, (W.putObj (w.heap.size + 1 + 1) o).heap[w.heap.size + 1]? = some (.deferred (some []))) := fun o => (World.putObj_heap_other (by omega)).trans ((hK' _ HKD.out).2.2.2.trans hD5)
 have HFIN : Hid (∀ o o1, Went J (chL rs t fs) pre f (fun _ => False) w s ((W.putObj (w.heap.size + 1 + 1) o).putObj (w.heap.size + 1) o1)) := fun o o1 => by
  have kk : ∀ b, b ≠ w.heap.size + 1 + 1 → b ≠ w.heap.size + 1 → ((W.putObj (w.heap.size + 1 + 1) o).putObj (w.heap.size + 1) o1).heap[b]? = W.heap[b]? := fun b h1 h2 => (World.putObj_heap_other h2).trans (World.putObj_heap_other h1)
  have hKd := hK' _ HKD.out
  refine ⟨m, f', hm, hm2, HJ.out.abide hj' (by simp) fun b hb => kk b (fun h => ?_) (fun h => ?_), ⟨?_, ?_, ?_, by simp; omega, fun b hb hn => ?_⟩, fun b hb => ?_⟩
  ·rcases hb with hb | hb
   ·rw [h] at hb; exact hfL' hb
   ·exact (hK' b (HKK.out b hb)).2.2.1 h
  ·rcases hb with hb | hb
   ·rw [h] at hb; exact hKd.2.1 hb
   ·have := HI.out b (Or.inr hb); omega
  ·exact he'.os.trans hB5.os
  ·exact he'.tape.trans hB5.tape
  ·exact he'.output.trans hB5.output
  ·rw [kk b (by omega) (by omega), he'.block b (by omega) (fun h => by
    rcases h with (h | h) | h
    ·exact hn (Or.inl h)
    ·omega
    ·exact h), e5 b hb]
  ·rcases hff' b hb with (h | h) | h
   ·exact Or.inl h
   ·right; omega
   ·right; omega
 have HFS : Hid (∀ o o1, IfNo s (S ((W.putObj (w.heap.size + 1 + 1) o).putObj (w.heap.size + 1) o1))) := fun o o1 h => HST.out.putD (HST.out.put (HSS.out h) hL' _) (HDW.out _) _
 have HL' := hide hL'
 have HRET := hide hret
 clear hw hj' hK' he' hff' hm hm2 hret RH2 hok hB5 hD5 hL5 e5
 refine ⟨HRET.out, ?_⟩
 cases s with
 | true =>
  left
  refine ⟨HL'.out, ?_⟩
  gi_wp2
  refine ⟨by simp, .inl ⟨_, _, rfl, run_takeDeferred (HDW.out _), ?_⟩⟩
  exact ⟨_, results_none rfl _ _ _, ⟨_, rfl⟩, ⟨true, HFIN.out _ _, HFS.out _ _⟩⟩
 | false =>
  right
  refine ⟨by rw [← hrd]; exact HL'.out, ?_⟩
  gi_wp2
  refine ⟨by simp, .inl ⟨_, _, rfl, run_takeDeferred (HDW.out _), ?_⟩⟩
  exact ⟨_, results_none rfl _ _ _, ⟨_, rfl⟩, ⟨false, HFIN.out _ _, HFS.out _ _⟩⟩
set_option maxHeartbeats 2000000 in
theorem chances1I_any {J : Tk Ch} {K : Nat → Prop} {all : List Ch} (hJ : TkOk J K) (lp : Nat) (RH : Rnd lp LpC J all) (rs : List Pr) (t : Tm) (fs : List Int) (P R T F : Nat) (uv : Value) (aa : Option Addr) (ca : Nat) (fv : Value) (pre : List Ch) (f : Nat → Prop) (w : World) (X : Nat → Prop) (hP : Blk w P #[.func (.func 86) #[] #[.pointer (some ⟨T, 0, none⟩), .pointer (some ⟨F, 0, none⟩)]] 98) (hR : Blk w R #[uv] 23) (hu : QV w X uv rs) (hT : Blk w T #[.string t.name, .slice aa t.args.length ca] 27) (hs : Sl w X aa t.args) (hF : Blk w F #[fv] 22) (hfv : PV w X fv fs) (hat : (atT t fs).isSome = true) (hX : ∀ b, X b → b < w.heap.size ∧ ¬ f b) (hRf : ¬ f R) (hj : J pre true f w) (hz : sizeL [t] ≤ 800000) (hOk : (pre ++ chL rs t fs) <+: all) :
  Calls Tryz.prog 84 #[.func (.yield lp) #[] #[], .pointer (some ⟨P, 0, none⟩), .pointer (some ⟨R, 0, none⟩)] w fun e w' => (∃ v, e = .returned v) ∧ ∃ b, Went J (chL rs t fs) pre f (fun _ => False) w b w' := by
 refine (chances1S_any hJ lp StopOk.triv RH.toS rs t fs P R T F uv aa ca fv pre f w X hP hR hu hT hs hF hfv hat hX hRf hj hz hOk).mono ?_
 rintro e w' ⟨h1, b, h2, _⟩
 exact ⟨h1, b, h2⟩
end Go.Proofs.YtmkendjmfdaedaaGreat
