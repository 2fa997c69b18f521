/- Several texts in one. -/
import Derived.Test.YtdebiiodhkcnkaaGreatZCTopIndexOwn
import Derived.RangeFuncNested
import Derived.RangeFuncBound
import Derived.RangeFuncCalls
import Derived.RangeFuncLeaves
import Derived.RangeFuncWrites
import Derived.Shelf.Abstract
import Derived.Shelf.RegionOpen
import Derived.OwnWalkIn
import Derived.TacticsInMore
import Derived.LoopNIn
import Derived.LoopIn
import Derived.Maps.OwnIn
import Derived.Maps.AppendAt
import Derived.Sort.LoopGhostIn
import Derived.Test.YtdebiiodhkcnkaaGreatZTopIndexOwn
namespace Go.Proofs.YtdebiiodhkcnkaaGreat
open Go.RowKit
set_option linter.unusedSimpArgs false
set_option linter.unusedVariables false
set_option maxRecDepth 8000
theorem inB_occ {x : ByteArray} {t : Tm} (hx : varB x = true) : inB x (varsP [] (preL [t])) = occB x [t] := by
 rw [Bool.eq_iff_iff, occB_iff]
 constructor
 ·intro h
  unfold inB at h
  rw [List.any_eq_true] at h
  obtain ⟨y, hy, e⟩ := h
  have e2 : y = x := bytes_inj (by simpa using e)
  subst e2
  rcases varsP_sub _ _ _ hy with h1 | ⟨k, h1, h2, _⟩
  ·cases h1
  ·exact ⟨k, h1, h2⟩
 ·intro h
  apply Classical.byContradiction
  intro hn
  exact not_inB hx hn h
def WoOut (S q N : Nat) (h : List (ByteArray × Tm)) (cs : List Ec) (ta tb : Tm) (code : Int) (w' : World) : Prop :=
 (code ≠ 0 ∧ ∃ (f' : Bool) (Y' : Nat → Prop) (td' : Value), SolE S q td' h f' Y' w' ∧ (f' = true ∨ ∀ l, uPair false (sAt h) l ta tb = .stop code (sAt h))) ∨
 (code = 0 ∧ sizeL [ta] ≤ 2000 ∧ sizeL [tb] ≤ 2000 ∧ ∃ (h' : List (ByteArray × Tm)) (cs' : List Ec) (new : List Pr), SolT S q N h' cs' w' ∧ cs'.map ecP = cs.map ecP ++ new.reverse.map (fun p => (p, h.length)) ∧ (∀ l, uPair false (sAt h) l ta tb = .go (sAt h') (new ++ l)) ∧
  ((new = [] ∧ h' = h) ∨ (new = [] ∧ ∃ x t, h' = h ++ [(x, t)] ∧ varB x = true ∧ ((x = ta.name ∧ t = tb) ∨ (x = tb.name ∧ t = ta)) ∧ ¬ inB x (varsP [] (preL [t])) = true) ∨ (new = zipP ta.args tb.args ∧ h' = h ∧ ta.args.length = tb.args.length)))
def WoPost (S q N : Nat) (h : List (ByteArray × Tm)) (cs : List Ec) (ta tb : Tm) (td0 : Value) (w : World) (e : Ending) (w' : World) : Prop :=
 ∃ code : Int, e = .returned (.int .i64 code) ∧ ExQ (fun b => b = S ∨ b = q ∨ some b = td0.ownBlock) w w' ∧ WoOut S q N h cs ta tb code w'
theorem wo_bind {S q N : Nat} {h : List (ByteArray × Tm)} {cs : List Ec} {ta tb : Tm} {nm : ByteArray} {t : Tm} {td : Value} {w w3 w4 : World} {X Y' : Nat → Prop} {e : Ending} (hSN : S < N) (hqN : q < N) (hNw : N ≤ w.heap.size) (hR : ERow w N (fun b => b < N ∧ b ≠ S ∧ b ≠ q) td cs) (hY2 : ∀ b, Y' b → some b ≠ td.ownBlock) (hXO : ∀ b, X b → some b ≠ td.ownBlock) (hx3 : ExQ (SolM S q) w w3) (hx4 : ExQ (SolM S q) w3 w4) (hza : sizeL [ta] ≤ 2000) (hzb : sizeL [tb] ≤ 2000)
  (hup : ∀ l, uPair false (sAt h) l ta tb = if nm = t.name then .go (sAt h) l else uBind false (sAt h) l nm t) (hvn : varB nm = true) (hor : (nm = ta.name ∧ t = tb) ∨ (nm = tb.name ∧ t = ta))
  (hc : (t.name = nm ∧ e = .returned (.int .i64 0) ∧ SolE S q td h false Y' w4) ∨ (t.name ≠ nm ∧ occB nm [t] = true ∧ e = .returned (.int .i64 6) ∧ SolE S q td h false Y' w4) ∨ (t.name ≠ nm ∧ occB nm [t] = false ∧ e = .returned (.int .i64 0) ∧ SolE S q td (h ++ [(nm, t)]) false (fun b => Y' b ∨ (X b ∧ b < w3.heap.size)) w4)) :
  ∃ code : Int, e = .returned (.int .i64 code) ∧ ExQ (fun b => b = S ∨ b = q ∨ some b = td.ownBlock) w w4 ∧ WoOut S q N h cs ta tb code w4 := by
 have hx : ExQ (SolM S q) w w4 := hx3.trans hx4
 have hxx : ExQ (fun b => b = S ∨ b = q ∨ some b = td.ownBlock) w w4 := hx.mono fun b hb _ => by
  rcases hb with h1 | h1
  ·exact Or.inl h1
  ·exact Or.inr (Or.inl h1)
 have hR4 : ERow w4 N (fun b => b < N ∧ b ≠ S ∧ b ≠ q) td cs := hR.exq hx (fun b hb => by rcases hb with rfl | rfl; exact hSN; exact hqN) (fun b hb hh => by
  rcases hb with h1 | h1
  ·exact hh.2.1 h1
  ·exact hh.2.2 h1)
 have hN4 : N ≤ w4.heap.size := Nat.le_trans hNw hx.size
 rcases hc with ⟨hn, rfl, hE⟩ | ⟨hn, ho, rfl, hE⟩ | ⟨hn, ho, rfl, hE⟩
 ·exact ⟨0, rfl, hxx, Or.inr ⟨rfl, hza, hzb, h, cs, [], ⟨td, Y', hE, hR4, hY2, hSN, hqN, hN4⟩, by simp, fun l => by rw [hup, if_pos hn.symm]; rfl, Or.inl ⟨rfl, rfl⟩⟩⟩
 ·refine ⟨6, rfl, hxx, Or.inl ⟨by decide, false, Y', td, hE, Or.inr fun l => ?_⟩⟩
  rw [hup, if_neg (fun e => hn e.symm)]
  unfold uBind
  rw [if_pos (by rw [inB_occ hvn]; exact ho)]
 ·refine ⟨0, rfl, hxx, Or.inr ⟨rfl, hza, hzb, h ++ [(nm, t)], cs, [], ⟨td, _, hE, hR4, fun b hb => ?_, hSN, hqN, hN4⟩, by simp, fun l => ?_, Or.inr (Or.inl ⟨rfl, nm, t, rfl, hvn, hor, by rw [inB_occ hvn, ho]; simp⟩)⟩⟩
  ·rcases hb with hb | hb
   ·exact hY2 b hb
   ·exact hXO b hb.1
  ·rw [hup, if_neg (fun e => hn e.symm)]
   unfold uBind
   rw [if_neg (by rw [inB_occ hvn, ho]; simp), if_neg (by simp), sAt_snoc]
   rfl
set_option maxHeartbeats 1000000 in
theorem workOff_any (S q N : Nat) (V : List ByteArray) (h : List (ByteArray × Tm)) (cs : List Ec) (p : Pr) (l : List Pr) (hU : UI V h (p :: l)) (j : Nat) (hj : j ≤ h.length) (hid : j = h.length → (onT (sAt h) p.l = p.l ∧ onT (sAt h) p.r = p.r)) (hsz : cs.length ≤ 900000000) (hV : V.length ≤ 400000) (a1 : Option Addr) (c1 : Nat) (a2 : Option Addr) (c2 : Nat) (w : World) (td : Value) (Y : Nat → Prop) (hE : SolE S q td h false Y w) (hR : ERow w N (fun b => b < N ∧ b ≠ S ∧ b ≠ q) td cs) (hY : ∀ b, Y b → some b ≠ td.ownBlock) (hSN : S < N) (hqN : q < N) (hNw : N ≤ w.heap.size)
  (hs1 : Sl w (fun b => (b < N ∧ b ≠ S ∧ b ≠ q) ∨ (N ≤ b ∧ some b ≠ td.ownBlock)) a1 p.l.args) (hs2 : Sl w (fun b => (b < N ∧ b ≠ S ∧ b ≠ q) ∨ (N ≤ b ∧ some b ≠ td.ownBlock)) a2 p.r.args) :
  Calls Tryz.prog 78 #[.pointer (some ⟨S, 0, none⟩), .agg #[.string p.l.name, .slice a1 p.l.args.length c1, .string p.r.name, .slice a2 p.r.args.length c2, .int .i64 (j : Int)]] w fun e w' => WoPost S q N h cs (onT (sAt h) p.l) (onT (sAt h) p.r) td w e w' := by
 have HE := hide hE
 have HR := hide hR
 have HY := hide hY
 have HS1 := hide hs1
 have HS2 := hide hs2
 have HU := hide hU
 have HID := hide hid
 have hSl : S < w.heap.size := by omega
 clear hE hR hY hs1 hs2 hU hid
 obtain ⟨ta, hta⟩ : ∃ ta, onT (sAt h) p.l = ta := ⟨_, rfl⟩
 obtain ⟨tb, htb⟩ : ∃ tb, onT (sAt h) p.r = tb := ⟨_, rfl⟩
 have HTA := hide hta
 have HTB := hide htb
 rw [hta, htb]
 clear hta htb
 have HB1 : Hid (Below w.heap.size w (w.alloc (.cells #[.string p.l.name, .slice a1 p.l.args.length c1, .string p.r.name, .slice a2 p.r.args.length c2, .int .i64 (j : Int)] 129))) := (Below.refl _ _).alloc (Nat.le_refl _) _
 have hz1 : (w.alloc (.cells #[.string p.l.name, .slice a1 p.l.args.length c1, .string p.r.name, .slice a2 p.r.args.length c2, .int .i64 (j : Int)] 129)).heap.size = w.heap.size + 1 := by simp
 go_enter Tryz.func78, Tryz.ntmps78
 go_wp2_with fail
 generalize (w.alloc (.cells #[.string p.l.name, .slice a1 p.l.args.length c1, .string p.r.name, .slice a2 p.r.args.length c2, .int .i64 (j : Int)] 129)) = w1 at *
 have PT := put_any2 S q td h HU.out.good HU.out.names p HU.out.head j hj HID.out (HU.out.size p (by simp)) a1 c1 a2 c2 w1 _ Y (fun b hb hm => by
  rcases hb with hb | hb
  ·rcases hm with e | e
   ·exact hb.2.1 e
   ·exact hb.2.2 e
  ·rcases hm with e | e <;> omega) (HS1.out.later HB1.out) (HS2.out.later HB1.out) ((solE_ok S q td h).below HE.out HB1.out)
 rw [HTA.out, HTB.out] at PT
 refine PT.mono ?_
 clear PT
 rintro e w2 ⟨s1, y1, n1, k1, s2, y2, n2, k2, ok, f', Y', rfl, hE2, hsub, hx, hc⟩
 have HX2 : Hid (ExQ (SolM S q) w w2) := (ExQ.ofBelow HB1.out).trans hx
 have HE2 := hide hE2
 have HY2 : Hid (∀ b, Y' b → some b ≠ td.ownBlock) := fun b hb e => by
  rcases hsub b hb with h1 | h1
  ·exact HY.out b h1 e
  ·have := (HR.out.own.lt b e.symm).2; omega
 have hz2 : w.heap.size + 1 ≤ w2.heap.size := by have := hx.size; omega
 have HC := hide hc
 clear hE2 hsub hx hc
 have hB3 : Below w2.heap.size w2 ((w2.alloc (.cells #[.string s1, .slice y1 n1 k1] 26)).alloc (.cells #[.string s2, .slice y2 n2 k2] 26)) := below2 _ _
 have HB3 := hide hB3
 have A3 : Hid (Blk ((w2.alloc (.cells #[.string s1, .slice y1 n1 k1] 26)).alloc (.cells #[.string s2, .slice y2 n2 k2] 26)) w2.heap.size #[.string s1, .slice y1 n1 k1] 26) := (Blk.new w2 _ _).alloc _
 have B3 : Hid (Blk ((w2.alloc (.cells #[.string s1, .slice y1 n1 k1] 26)).alloc (.cells #[.string s2, .slice y2 n2 k2] 26)) (w2.heap.size + 1) #[.string s2, .slice y2 n2 k2] 26) := by
  have h1 := Blk.new (w2.alloc (.cells #[.string s1, .slice y1 n1 k1] 26)) #[.string s2, .slice y2 n2 k2] 26
  rw [World.size_alloc] at h1
  exact h1
 have hz3 : ((w2.alloc (.cells #[.string s1, .slice y1 n1 k1] 26)).alloc (.cells #[.string s2, .slice y2 n2 k2] 26)).heap.size = w2.heap.size + 2 := by simp
 have HE3 := hide ((solE_ok S q td h).below HE2.out hB3)
 have HX3 : Hid (ExQ (SolM S q) w ((w2.alloc (.cells #[.string s1, .slice y1 n1 k1] 26)).alloc (.cells #[.string s2, .slice y2 n2 k2] 26))) := HX2.out.trans (ExQ.ofBelow hB3)
 clear hB3
 rcases HC.out with ⟨rfl, rfl, rfl, rfl, rfl, rfl, hza, hzb, hsa, hsb⟩ | ⟨rfl, hbad⟩
 ·have memZ : ∀ (a : Option Addr) (l : List Tm), Sl w2 (fun b => (((b < N ∧ b ≠ S ∧ b ≠ q) ∨ (N ≤ b ∧ some b ≠ td.ownBlock)) ∧ b < w1.heap.size) ∨ w1.heap.size ≤ b) a l → Sl w2 (fun b => (b < N ∧ b ≠ S ∧ b ≠ q) ∨ (N ≤ b ∧ some b ≠ td.ownBlock)) a l := fun a l hsl => hsl.mono fun b hb _ => by
   rcases hb with hb | hb
   ·exact hb.1
   ·refine Or.inr ⟨by omega, fun e => ?_⟩
    have := (HR.out.own.lt b e.symm).2; omega
  have HSA := hide ((memZ _ _ hsa).later HB3.out)
  have HSB := hide ((memZ _ _ hsb).later HB3.out)
  have HXM : Hid (∀ b, ((b < N ∧ b ≠ S ∧ b ≠ q) ∨ (N ≤ b ∧ some b ≠ td.ownBlock)) → ¬ SolM S q b) := fun b hb hm => by
   rcases hb with hb | hb
   ·rcases hm with e | e
    ·exact hb.2.1 e
    ·exact hb.2.2 e
   ·rcases hm with e | e <;> omega
  have HXO : Hid (∀ b, ((b < N ∧ b ≠ S ∧ b ≠ q) ∨ (N ≤ b ∧ some b ≠ td.ownBlock)) → some b ≠ td.ownBlock) := fun b hb => by
   rcases hb with hb | hb
   ·exact HR.out.ne hb.1
   ·exact hb.2
  have HZA := hide hza
  have HZB := hide hzb
  have a0 : ((w2.alloc (.cells #[.string ta.name, .slice y1 ta.args.length k1] 26)).alloc (.cells #[.string tb.name, .slice y2 tb.args.length k2] 26)).cell? ⟨w2.heap.size, 0, none⟩ = some (.string ta.name) := A3.out.cell 0
  have a1' : ((w2.alloc (.cells #[.string ta.name, .slice y1 ta.args.length k1] 26)).alloc (.cells #[.string tb.name, .slice y2 tb.args.length k2] 26)).cell? ⟨w2.heap.size, 1, none⟩ = some (.slice y1 ta.args.length k1) := A3.out.cell 1
  have b0 : ((w2.alloc (.cells #[.string ta.name, .slice y1 ta.args.length k1] 26)).alloc (.cells #[.string tb.name, .slice y2 tb.args.length k2] 26)).cell? ⟨w2.heap.size + 1, 0, none⟩ = some (.string tb.name) := B3.out.cell 0
  have b1' : ((w2.alloc (.cells #[.string ta.name, .slice y1 ta.args.length k1] 26)).alloc (.cells #[.string tb.name, .slice y2 tb.args.length k2] 26)).cell? ⟨w2.heap.size + 1, 1, none⟩ = some (.slice y2 tb.args.length k2) := B3.out.cell 1
  clear memZ hsa hsb hza hzb HC
  cases hva : varB ta.name with
  | true =>
   have HVA := hide hva
   have MAY : Hid (tb.name ≠ ta.name → occB ta.name [tb] = false → MayAdd (sAt h) ta.name tb) := fun _ ho => (HU.out.bindV HVA.out (Or.inl ⟨by rw [HTA.out], by rw [HTB.out]⟩) (by rw [inB_occ HVA.out, ho]; simp)).1
   clear hva
   go_wp2_with (go_at_call 52; refine (isVariable_all _ _).mono ?_; rintro e w' ⟨rfl, rfl⟩; rw [HVA.out])
   generalize ((w2.alloc (.cells #[.string ta.name, .slice y1 ta.args.length k1] 26)).alloc (.cells #[.string tb.name, .slice y2 tb.args.length k2] 26)) = w3 at *
   refine (bind_any2 S q td h HU.out.good ta.name tb MAY.out y2 k2 w3 _ Y' HXM.out HSB.out HE3.out).mono ?_
   rintro e w4 ⟨hx4, hc4⟩
   have HO := hide (wo_bind (ta := ta) (tb := tb) (cs := cs) hSN hqN hNw HR.out HY2.out HXO.out HX3.out hx4 HZA.out HZB.out (fun l => by unfold uPair; rw [if_neg (by have := HZA.out; have := HZB.out; omega), if_pos HVA.out]) HVA.out (Or.inl ⟨rfl, rfl⟩) hc4)
   obtain ⟨code, rfl, hout⟩ := HO.out
   clear hc4
   have HX4 := hide hx4
   have HOUT := hide hout
   clear hx4 hout HO
   go_wp2_with fail
   go_ret
   exact ⟨code, rfl, HOUT.out⟩
  | false =>
   have HVA := hide hva
   clear hva
   cases hvb : varB tb.name with
   | true =>
    have HVB := hide hvb
    have MAY : Hid (ta.name ≠ tb.name → occB tb.name [ta] = false → MayAdd (sAt h) tb.name ta) := fun _ ho => (HU.out.bindV HVB.out (Or.inr ⟨by rw [HTB.out], by rw [HTA.out]⟩) (by rw [inB_occ HVB.out, ho]; simp)).1
    have HNE : Hid (tb.name ≠ ta.name) := fun e => by
     have h1 := HVA.out
     have h2 := HVB.out
     rw [e, h1] at h2; cases h2
    clear hvb
    go_wp2_with (go_at_call 52; refine (isVariable_all _ _).mono ?_; rintro e w' ⟨rfl, rfl⟩; (first | rw [HVA.out] | rw [HVB.out]))
    generalize ((w2.alloc (.cells #[.string ta.name, .slice y1 ta.args.length k1] 26)).alloc (.cells #[.string tb.name, .slice y2 tb.args.length k2] 26)) = w3 at *
    refine (bind_any2 S q td h HU.out.good tb.name ta MAY.out y1 k1 w3 _ Y' HXM.out HSA.out HE3.out).mono ?_
    rintro e w4 ⟨hx4, hc4⟩
    have HO := hide (wo_bind (ta := ta) (tb := tb) (cs := cs) hSN hqN hNw HR.out HY2.out HXO.out HX3.out hx4 HZA.out HZB.out (fun l => by unfold uPair; rw [if_neg (by have := HZA.out; have := HZB.out; omega), if_neg (by rw [HVA.out]; simp), if_pos HVB.out, if_neg HNE.out]) HVB.out (Or.inr ⟨rfl, rfl⟩) hc4)
    obtain ⟨code, rfl, hout⟩ := HO.out
    clear hc4
    have HOUT := hide hout
    clear hx4 hout HO
    go_wp2_with fail
    go_ret
    exact ⟨code, rfl, HOUT.out⟩
   | false =>
    have HVB := hide hvb
    clear hvb
    have HXX : Hid (ExQ (fun b => b = S ∨ b = q ∨ some b = td.ownBlock) w ((w2.alloc (.cells #[.string ta.name, .slice y1 ta.args.length k1] 26)).alloc (.cells #[.string tb.name, .slice y2 tb.args.length k2] 26))) := HX3.out.mono fun b hb _ => by
     rcases hb with h1 | h1
     ·exact Or.inl h1
     ·exact Or.inr (Or.inl h1)
    have HUP : Hid (∀ l, uPair false (sAt h) l ta tb = if ta.name = tb.name ∧ ta.args.length = tb.args.length then .go (sAt h) (zipP ta.args tb.args ++ l) else .stop 5 (sAt h)) := fun l => by
     unfold uPair
     rw [if_neg (by have := HZA.out; have := HZB.out; omega), if_neg (by rw [HVA.out]; simp), if_neg (by rw [HVB.out]; simp)]
    by_cases hnn : ta.name = tb.name
    ·have hnb := bytes_yes hnn
     by_cases hll : ta.args.length = tb.args.length
     ·have HLL := hide hll
      have HNN := hide hnn
      have hla : ta.args.length ≤ 2000 := by
       have h1 := sizeL_len ta.args
       have h2 := size_sub ta
       have h3 := HZA.out
       omega
      have hhl : h.length ≤ 1000000000 := by have := HU.out.hlen; omega
      rw [hll] at HE3 HX3 HXX HSA HSB
      clear hnn A3 B3 HB3 a0 a1' b0 b1' hz3
      have A3 : Hid (Blk ((w2.alloc (.cells #[.string ta.name, .slice y1 tb.args.length k1] 26)).alloc (.cells #[.string tb.name, .slice y2 tb.args.length k2] 26)) w2.heap.size #[.string ta.name, .slice y1 tb.args.length k1] 26) := (Blk.new w2 _ _).alloc _
      have B3 : Hid (Blk ((w2.alloc (.cells #[.string ta.name, .slice y1 tb.args.length k1] 26)).alloc (.cells #[.string tb.name, .slice y2 tb.args.length k2] 26)) (w2.heap.size + 1) #[.string tb.name, .slice y2 tb.args.length k2] 26) := by
       have h1 := Blk.new (w2.alloc (.cells #[.string ta.name, .slice y1 tb.args.length k1] 26)) #[.string tb.name, .slice y2 tb.args.length k2] 26
       rw [World.size_alloc] at h1
       exact h1
      have a0 : ((w2.alloc (.cells #[.string ta.name, .slice y1 tb.args.length k1] 26)).alloc (.cells #[.string tb.name, .slice y2 tb.args.length k2] 26)).cell? ⟨w2.heap.size, 0, none⟩ = some (.string ta.name) := A3.out.cell 0
      have a1' : ((w2.alloc (.cells #[.string ta.name, .slice y1 tb.args.length k1] 26)).alloc (.cells #[.string tb.name, .slice y2 tb.args.length k2] 26)).cell? ⟨w2.heap.size, 1, none⟩ = some (.slice y1 tb.args.length k1) := A3.out.cell 1
      have b0 : ((w2.alloc (.cells #[.string ta.name, .slice y1 tb.args.length k1] 26)).alloc (.cells #[.string tb.name, .slice y2 tb.args.length k2] 26)).cell? ⟨w2.heap.size + 1, 0, none⟩ = some (.string tb.name) := B3.out.cell 0
      have b1' : ((w2.alloc (.cells #[.string ta.name, .slice y1 tb.args.length k1] 26)).alloc (.cells #[.string tb.name, .slice y2 tb.args.length k2] 26)).cell? ⟨w2.heap.size + 1, 1, none⟩ = some (.slice y2 tb.args.length k2) := B3.out.cell 1
      go_wp2_with (go_at_call 52; refine (isVariable_all _ _).mono ?_; rintro e w' ⟨rfl, rfl⟩; (first | rw [HVA.out] | rw [HVB.out]))
      generalize ((w2.alloc (.cells #[.string ta.name, .slice y1 tb.args.length k1] 26)).alloc (.cells #[.string tb.name, .slice y2 tb.args.length k2] 26)) = w3 at *
      have hR3 : ERow w3 N (fun b => b < N ∧ b ≠ S ∧ b ≠ q) td cs := HR.out.exq HX3.out (fun b hb => by rcases hb with rfl | rfl; exact hSN; exact hqN) (fun b hb hh => by
       rcases hb with h1 | h1
       ·exact hh.2.1 h1
       ·exact hh.2.2 h1)
      have AH := ahead_any S q N h cs ta.args tb.args hll (by omega) hhl y1 y2 k1 k2 w3 td Y' HE3.out hR3 HY2.out hSN hqN (Nat.le_trans hNw HX3.out.size) HSA.out HSB.out
      rw [hll] at AH
      refine AH.mono ?_
      clear AH
      rintro e w4 ⟨rfl, cs', hT, hC, hx4⟩
      have HT := hide hT
      have HCC := hide hC
      have HX4 : Hid (ExQ (fun b => b = S ∨ b = q ∨ some b = td.ownBlock) w w4) := HXX.out.trans (hx4.mono fun b hb _ => hb.imp id Or.inr)
      clear hT hC hx4 hR3
      go_wp2_with fail
      go_ret
      exact ⟨0, rfl, HX4.out, Or.inr ⟨rfl, HZA.out, HZB.out, h, cs', zipP ta.args tb.args, HT.out, HCC.out, fun l => by rw [HUP.out, if_pos ⟨HNN.out, HLL.out⟩], Or.inr (Or.inr ⟨rfl, rfl, HLL.out⟩)⟩⟩
     ·have hlb : ((ta.args.length : Int) == (tb.args.length : Int)) = false := beq_eq_false_iff_ne.2 (by omega)
      have HNG : Hid (¬ (ta.name = tb.name ∧ ta.args.length = tb.args.length)) := fun hh => hll hh.2
      clear hll hnn
      go_wp2_with (go_at_call 52; refine (isVariable_all _ _).mono ?_; rintro e w' ⟨rfl, rfl⟩; (first | rw [HVA.out] | rw [HVB.out]))
      go_ret
      exact ⟨5, rfl, HXX.out, Or.inl ⟨by decide, false, Y', td, HE3.out, Or.inr fun l => by rw [HUP.out, if_neg HNG.out]⟩⟩
    ·have hnb := bytes_no hnn
     have HNG : Hid (¬ (ta.name = tb.name ∧ ta.args.length = tb.args.length)) := fun hh => hnn hh.1
     clear hnn
     go_wp2_with (go_at_call 52; refine (isVariable_all _ _).mono ?_; rintro e w' ⟨rfl, rfl⟩; (first | rw [HVA.out] | rw [HVB.out]))
     go_ret
     exact ⟨5, rfl, HXX.out, Or.inl ⟨by decide, false, Y', td, HE3.out, Or.inr fun l => by rw [HUP.out, if_neg HNG.out]⟩⟩
 ·have HBAD := hide hbad
  clear hbad HC
  go_wp2_with fail
  go_ret
  refine ⟨8, rfl, HX3.out.mono fun b hb _ => ?_, Or.inl ⟨by decide, f', Y', td, HE3.out, ?_⟩⟩
  ·rcases hb with h1 | h1
   ·exact Or.inl h1
   ·exact Or.inr (Or.inl h1)
  ·rcases HBAD.out with h1 | h1
   ·exact Or.inl h1
   ·exact Or.inr fun l => by unfold uPair; rw [if_pos h1]
open Go.RowKit Go.Shelf
attribute [local go_sem] Oper.semAt_some
set_option maxHeartbeats 1000000 in
theorem backward_in (F : Fence) (n : Nat) (hf : F.fn 77) (hro : F.round = none) (v : Value) (w : World) (hv : ∃ a k c, v = .slice a k c) :
  CallsIn F n Tryz.prog 77 #[v] w fun e w' => e = .returned (.func (.func 107) #[] #[.pointer (some ⟨w.heap.size, 0, none⟩)]) ∧ w' = w.alloc (.cells #[v] 46) := by
 obtain ⟨a, k, c, rfl⟩ := hv
 refine callsIn_of_wp Tryz.func77 rfl hf ?_ hro
 simp only [Tryz.ntmps77, List.size_toArray, List.length_cons, List.length_nil, Nat.reduceAdd, Nat.reduceSub, Array.replicate_succ, Array.replicate_zero, List.push_toArray, List.append_toArray, List.nil_append, List.cons_append]
 gi_wp2
 go_ret
 exact ⟨rfl, rfl⟩
abbrev Yx := Int × Pc
def encY (x : Yx) : Array Value := #[.int .i64 x.1, .agg #[.string x.2.1.l.name, .slice x.2.2.1.1 x.2.1.l.args.length x.2.2.1.2, .string x.2.1.r.name, .slice x.2.2.2.1 x.2.1.r.args.length x.2.2.2.2]]
def backA {P : Yx → Prop} (xs : List Pc) (hP : ∀ k (h : k < xs.length), P ((k : Int), xs[k])) : (k : Nat) → k ≤ xs.length → List { x : Yx // P x }
 | 0, _ => []
 | k + 1, h => ⟨((k : Int), xs[k]), hP k h⟩ :: backA xs hP k (Nat.le_of_succ_le h)
theorem backA_len {P : Yx → Prop} {xs : List Pc} {hP : ∀ k (h : k < xs.length), P ((k : Int), xs[k])} : ∀ k (h : k ≤ xs.length), (backA xs hP k h).length = k
 | 0, _ => rfl
 | k + 1, h => by rw [backA, List.length_cons, backA_len k]
theorem backA_map {P : Yx → Prop} {xs : List Pc} {hP : ∀ k (h : k < xs.length), P ((k : Int), xs[k])} : ∀ k (h : k ≤ xs.length), (backA xs hP k h).map (fun x => x.1.2.1) = ((xs.take k).map (·.1)).reverse
 | 0, _ => by simp [backA]
 | k + 1, h => by
  rw [backA, List.map_cons, backA_map k, List.take_succ_eq_append_getElem (by omega), List.map_append, List.reverse_append]
  rfl
def PcAt (w : World) (b o : Nat) (xs : List Pc) : Prop := ∀ j u, (flat4 xs)[j]? = some u → w.cell? ⟨b, o + j, none⟩ = some u
set_option maxHeartbeats 1000000 in
theorem back1_in (F : Fence) (n : Nat) (h6 : F.fn 107) (hro : F.round = none) (hn : 1 ≤ n) {P : Yx → Prop} {Kp : World → World → Prop} (hKr : ∀ A, Kp A A) (hKt : ∀ {A B C : World}, Kp A B → Kp B C → Kp A C) (l Bn b o c : Nat) (hKc : ∀ {A B : World}, Kp A B → B.heap[b]? = A.heap[b]? ∧ B.heap[Bn]? = A.heap[Bn]?) (a : Option Addr) (xs : List Pc) (hP : ∀ k (h : k < xs.length), P ((k : Int), xs[k])) (ha : xs = [] ∨ a = some ⟨b, o, none⟩) (hxl : xs.length ≤ 1000000) (J Jx : List { x : Yx // P x } → World → Prop)
  (hY : ∀ pre x W, J pre W → pre.length < xs.length → YieldAt F (n - 1) Tryz.prog l (encY x.1) W fun e W' =>
   (e = .returned (.bool true) ∧ J (pre ++ [x]) W' ∧ Kp W W') ∨ (e = .returned (.bool false) ∧ Jx (pre ++ [x]) W'))
  (W : World) (hBn : W.cell? ⟨Bn, 0, none⟩ = some (.slice a xs.length c)) (hL : PcAt W b o xs) (h0 : J [] W) :
  CallsIn F n Tryz.prog 107 #[.func (.yield l) #[] #[], .pointer (some ⟨Bn, 0, none⟩)] W fun e W' => (∃ v, e = .returned v) ∧
   ((∃ ys, ys = backA xs hP xs.length (Nat.le_refl _) ∧ J ys W') ∨ (∃ pre, pre <+: backA xs hP xs.length (Nat.le_refl _) ∧ Jx pre W')) := by
 refine callsIn_of_wp Tryz.func107 rfl h6 ?_ hro
 simp only [Tryz.ntmps107, List.size_toArray, List.length_cons, List.length_nil, Nat.reduceAdd, Nat.reduceSub, Array.replicate_succ, Array.replicate_zero, List.push_toArray, List.append_toArray, List.nil_append, List.cons_append]
 gi_wp2
 gi_loopw [3] (fun i wr => ∃ (k : Nat) (hk : k ≤ xs.length), i = .int .i64 ((k : Int) - 1) ∧ Kp W wr ∧ ∃ pre, backA xs hP xs.length (Nat.le_refl _) = pre ++ backA xs hP k hk ∧ J pre wr) (fun i wr => (intOf i + 1).toNat)
 case atStart => exact ⟨xs.length, Nat.le_refl _, by go_num, hKr _, [], rfl, h0⟩
 case round =>
  obtain ⟨k, hk, rfl, hb, pre, hpre, hJ⟩ := hrel
  cases k with
  | zero =>
   gi_wp2
   go_end0
   exact ⟨⟨_, rfl⟩, .inl ⟨pre, by rw [hpre]; simp [backA], hJ⟩⟩
  | succ k =>
   have hkk : ((k + 1 : Nat) : Int) - 1 = k := by omega
   rw [hkk]
   obtain rfl : a = some ⟨b, o, none⟩ := ha.resolve_left (fun e => by rw [e] at hk; simp at hk)
   rw [backA] at hpre
   have hpl : pre.length < xs.length := by
    have h1 := congrArg List.length hpre
    rw [backA_len] at h1
    simp at h1
    omega
   have cc : ∀ j u, (enc4 xs[k])[j]? = some u → j < 4 → wr.cell? ⟨b, o + k * 4 + j, none⟩ = some u := fun j u hu hj => by
    rw [World.cell?_of_block (hKc hb).1, Nat.add_assoc]
    exact hL _ _ (by rw [flat4_get xs k (by omega) j hj]; exact hu)
   have c0 := cc 0 _ rfl (by decide)
   have c1 := cc 1 _ rfl (by decide)
   have c2 := cc 2 _ rfl (by decide)
   have c3 := cc 3 _ rfl (by decide)
   simp only [Nat.add_zero] at c0
   have hBr : wr.cell? ⟨Bn, 0, none⟩ = some (.slice (some ⟨b, o, none⟩) xs.length c) := by rw [World.cell?_of_block (hKc hb).2]; exact hBn
   have hkl : (k : Int) < (xs.length : Int) := by omega
   have hPk := hP k (by omega)
   obtain ⟨fn, tmps, assign, body, hy, hR⟩ := hY pre ⟨((k : Int), xs[k]), hPk⟩ wr hJ hpl
   have HP := hide hpre
   dsimp only [encY] at hy hR
   obtain ⟨x, hx⟩ : ∃ x, xs[k] = x := ⟨_, rfl⟩
   have HXK := hide hx
   simp only [hx] at c0 c1 c2 c3 hy
   clear cc hpre hL hBn hx
   gi_wp2
   refine hR.mono ?_
   rintro e W3 (⟨rfl, hJ3, hk3⟩ | ⟨rfl, hJx3⟩)
   ·gi_wp2
    go_roundw
    case rel => exact ⟨k, by omega, by go_num, hKt hb hk3, pre ++ [⟨((k : Int), xs[k]), hPk⟩], by rw [HP.out]; simp, hJ3⟩
    case measure => simp [intOf]
   ·gi_wp2
    refine bodyPost_ret (results_none rfl _ _ _) rfl ?_
    exact ⟨⟨_, rfl⟩, .inr ⟨pre ++ [⟨((k : Int), xs[k]), hPk⟩], ⟨backA xs hP k (by omega), by rw [HP.out]; simp⟩, hJx3⟩⟩
theorem back_stops (F : Fence) (n : Nat) (h6 : F.fn 107) (hro : F.round = none) (hn : 1 ≤ n) {P : Yx → Prop} {Kp : World → World → Prop} (hKr : ∀ A, Kp A A) (hKt : ∀ {A B C : World}, Kp A B → Kp B C → Kp A C) (Bn b o c : Nat) (hKc : ∀ {A B : World}, Kp A B → B.heap[b]? = A.heap[b]? ∧ B.heap[Bn]? = A.heap[Bn]?) (a : Option Addr) (xs : List Pc) (hP : ∀ k (h : k < xs.length), P ((k : Int), xs[k])) (ha : xs = [] ∨ a = some ⟨b, o, none⟩) (hxl : xs.length ≤ 1000000) (w : World) (hbn : b < w.heap.size) (hBn0 : Bn < w.heap.size) (hBn : w.cell? ⟨Bn, 0, none⟩ = some (.slice a xs.length c)) (hL : PcAt w b o xs) :
  SeqStopsK F n Tryz.prog 107 #[.pointer (some ⟨Bn, 0, none⟩)] (fun x : { x : Yx // P x } => encY x.1) Kp (fun ys => ys = backA xs hP xs.length (Nat.le_refl _)) (fun pre => pre <+: backA xs hP xs.length (Nat.le_refl _)) xs.length w := fun l J Jx W hW _ _ hY h0 =>
 back1_in F n h6 hro hn hKr hKt l Bn b o c hKc a xs hP ha hxl J Jx hY W ((hW.cell (p := ⟨Bn, 0, none⟩) hBn0).trans hBn) (fun j u hj => (hW.cell (p := ⟨b, o + j, none⟩) hbn).trans (hL j u hj)) h0
theorem pairs_cells {w : World} {X : Nat → Prop} : ∀ (l : List Pr) (b o : Nat), (∀ i (h : i < l.length), ∃ a1 c1 a2 c2, w.cell? ⟨b, o + i * 4, none⟩ = some (.string l[i].l.name) ∧ w.cell? ⟨b, o + i * 4 + 1, none⟩ = some (.slice a1 l[i].l.args.length c1) ∧ w.cell? ⟨b, o + i * 4 + 2, none⟩ = some (.string l[i].r.name) ∧ w.cell? ⟨b, o + i * 4 + 3, none⟩ = some (.slice a2 l[i].r.args.length c2) ∧ Sl w X a1 l[i].l.args ∧ Sl w X a2 l[i].r.args) →
  ∃ cs : List Pc, cs.map (·.1) = l ∧ (∀ j u, (flat4 cs)[j]? = some u → w.cell? ⟨b, o + j, none⟩ = some u) ∧ ∀ x ∈ cs, Sl w X x.2.1.1 x.1.l.args ∧ Sl w X x.2.2.1 x.1.r.args
 | [], b, o, _ => ⟨[], rfl, fun j u h => by simp [flat4] at h, fun x h => by cases h⟩
 | p :: r, b, o, h => by
  obtain ⟨a1, c1, a2, c2, h1, h2, h3, h4, h5, h6⟩ := h 0 (by simp)
  obtain ⟨cs, e1, e2, e3⟩ := pairs_cells r b (o + 4) fun i hi => by
   have h7 := h (i + 1) (by simpa using hi)
   simp only [List.getElem_cons_succ] at h7
   rw [show o + (i + 1) * 4 = o + 4 + i * 4 by omega] at h7
   exact h7
  simp only [List.getElem_cons_zero, Nat.zero_mul, Nat.add_zero] at h1 h2 h3 h4 h5 h6
  refine ⟨(p, (a1, c1), (a2, c2)) :: cs, by simp [e1], fun j u hj => ?_, fun x hx => ?_⟩
  ·rw [flat4] at hj
   match j, hj with
   | 0, hj => simp [enc4] at hj; subst hj; exact h1
   | 1, hj => simp [enc4] at hj; subst hj; exact h2
   | 2, hj => simp [enc4] at hj; subst hj; exact h3
   | 3, hj => simp [enc4] at hj; subst hj; exact h4
   | j + 4, hj =>
    rw [List.getElem?_append_right (by simp [enc4])] at hj
    have := e2 j u (by simpa [enc4] using hj)
    rwa [show o + (j + 4) = o + 4 + j by omega]
  ·rcases List.mem_cons.1 hx with rfl | hx
   ·exact ⟨h5, h6⟩
   ·exact e3 x hx
attribute [local go_sem] Oper.semAt_some
def OldY (w : World) (x : Yx) : Prop := Sl w (fun b => b < w.heap.size) x.2.2.1.1 x.2.1.l.args ∧ Sl w (fun b => b < w.heap.size) x.2.2.2.1 x.2.1.r.args
def LyI (w : World) (pre : List { x : Yx // OldY w x }) (W : World) : Prop :=
 ∃ (td : Value) (cs : List Ec), Blk W (w.heap.size + 1) #[td, .map (some w.heap.size), .bool false] 124 ∧ MapAt W w.heap.size [] ∧ W.ownsRow (w.heap.size + 3) 129 5 td cs.length (flat5 cs) ∧ (∀ x ∈ cs, Sl W (fun b => b < w.heap.size) x.1.2.1.1 x.1.1.l.args ∧ Sl W (fun b => b < w.heap.size) x.1.2.2.1 x.1.1.r.args) ∧ cs.map ecP = pre.map (fun x => (x.1.2.1, 0)) ∧ Below w.heap.size w W ∧ w.heap.size + 3 ≤ W.heap.size
theorem lyI_own (w : World) : OwnFrom (w.heap.size + 3) (LyI w) := by
 intro pre W W' row hI hg hr
 obtain ⟨td, cs, h1, h2, h3, h4, h5, h6, h7⟩ := hI
 have hgs := hg.size
 have hne : ∀ b, b < w.heap.size + 3 → some b ≠ row := fun b hb e => by have := (hr b e.symm).1; omega
 refine ⟨td, cs, h1.grown hg (hne _ (by omega)), h2.kept (hg.block _ (by omega) (hne _ (by omega))), ownsRow_at h3 fun g hg1 => ?_, fun x hx => ⟨(h4 x hx).1.kept fun b hb => hg.block b (by omega) (hne b (by omega)), (h4 x hx).2.kept fun b hb => hg.block b (by omega) (hne b (by omega))⟩, h5, ?_, by omega⟩
 ·refine hg.block g (h3.lt g hg1).2 fun e => ?_
  obtain ⟨_, o, ho, hc⟩ := hr g e.symm
  rcases h3.2 with ⟨hv, _⟩ | ⟨g', cap, cur, hv, _, hh, _⟩
  ·rw [hv] at hg1; simp [Value.ownBlock] at hg1
  ·rw [hv] at hg1
   have e2 : g' = g := by simpa [Value.ownBlock] using hg1
   subst e2
   rw [ho] at hh
   cases hh
   simp [Obj.isCells] at hc
 ·exact ⟨hg.os.trans h6.os, hg.tape.trans h6.tape, hg.output.trans h6.output, by have := h6.size; omega, fun b hb => (hg.block b (by omega) (hne b (by omega))).trans (h6.block b hb)⟩
theorem owns_shape {w : World} {N e s n : Nat} {v : Value} {xs : List Value} (h : w.ownsRow N e s v (n + 1) xs) : ∃ g cap, v = .slice (some ⟨g, 0, none⟩) (n + 1) cap := by
 rcases h.2 with h1 | ⟨g, cap, cur, hv, _⟩
 ·exact absurd h1.2 (by omega)
 ·exact ⟨g, cap, hv⟩
def LyK (w : World) (A B : World) : Prop := ExQ (fun b => b = w.heap.size + 1 ∨ w.heap.size + 3 ≤ b) A B ∧ ∀ k, k < w.heap.size + 3 → k ≠ w.heap.size + 1 → B.heap[k]? = A.heap[k]?
theorem LyK.refl (w A : World) : LyK w A A := ⟨ExQ.refl _ _, fun _ _ _ => rfl⟩
theorem LyK.trans {w A B C : World} (h : LyK w A B) (k : LyK w B C) : LyK w A C := ⟨h.1.trans k.1, fun i h1 h2 => (k.2 i h1 h2).trans (h.2 i h1 h2)⟩
theorem lyK_c {w A B : World} {b : Nat} (hb : b ≤ w.heap.size) (h : LyK w A B) : B.heap[b]? = A.heap[b]? ∧ B.heap[w.heap.size + 1 + 1]? = A.heap[w.heap.size + 1 + 1]? :=
 ⟨h.2 b (by omega) (by omega), h.2 _ (by omega) (by omega)⟩
theorem lyK_b {w W : World} {l : Nat} {o' : Obj} (hl : w.heap.size + 3 ≤ l) : LyK w W (W.putObj l o') :=
 ⟨⟨rfl, rfl, rfl, by simp, fun k _ hn => World.putObj_heap_other (fun e => hn (Or.inr (by omega)))⟩, fun k h1 h2 => World.putObj_heap_other (by omega)⟩
theorem lyI_step {w W w3 : World} {pre : List { x : Yx // OldY w x }} {x : { x : Yx // OldY w x }} {td v' : Value} {cs : List Ec} {o : Obj} (i1 : Blk W (w.heap.size + 1) #[td, .map (some w.heap.size), .bool false] 124) (i2 : MapAt W w.heap.size []) (i3 : W.ownsRow (w.heap.size + 3) 129 5 td cs.length (flat5 cs)) (i4 : ∀ x ∈ cs, Sl W (fun b => b < w.heap.size) x.1.2.1.1 x.1.1.l.args ∧ Sl W (fun b => b < w.heap.size) x.1.2.2.1 x.1.1.r.args) (i5 : cs.map ecP = pre.map (fun x => (x.1.2.1, 0))) (i6 : Below w.heap.size w W) (i7 : w.heap.size + 3 ≤ W.heap.size)
  (ho : w3.ownsRow (w.heap.size + 3) 129 5 v' (cs.length + 1) (flat5 cs ++ enc5 (x.1.2, 0))) (hg : (W.alloc o).grownBy w3 td.ownBlock) :
  KeepsFrom (w.heap.size + 3) W (w3.setCell ⟨w.heap.size + 1, 0, none⟩ v') ∧ LyK w W (w3.setCell ⟨w.heap.size + 1, 0, none⟩ v') ∧ LyI w (pre ++ [x]) (w3.setCell ⟨w.heap.size + 1, 0, none⟩ v') := by
 have hgs := hg.size
 simp at hgs
 have hne : ∀ b, b < w.heap.size + 3 → some b ≠ td.ownBlock := fun b hb e => by have := (i3.lt b e.symm).1; omega
 have h3 : ∀ k, k < W.heap.size → some k ≠ td.ownBlock → w3.heap[k]? = W.heap[k]? := fun k h1 h2 => (hg.block k (by simp; omega) h2).trans (Below.heap_alloc _ _ _ h1)
 have h4 : ∀ k, k ≠ w.heap.size + 1 → (w3.setCell ⟨w.heap.size + 1, 0, none⟩ v').heap[k]? = w3.heap[k]? := fun k hk => Below.heap_setCell _ _ _ _ (by simpa using hk)
 have hz : (w3.setCell ⟨w.heap.size + 1, 0, none⟩ v').heap.size = w3.heap.size := by simp [World.setCell]
 refine ⟨⟨by omega, fun k ob hk hh hc => ?_⟩, ⟨⟨?_, ?_, ?_, by omega, fun k h1 h2 => ?_⟩, fun k h1 h2 => (h4 k h2).trans (h3 k (by omega) (hne k h1))⟩, ?_⟩
 ·have hkl : k < W.heap.size := (Array.getElem?_eq_some_iff.1 hh).1
  rw [h4 k (by omega), h3 k hkl fun e => ?_, hh]
  rcases i3.2 with ⟨hv, _⟩ | ⟨g', cap, cur, hv, _, hh2, _⟩
  ·rw [hv] at e; simp [Value.ownBlock] at e
  ·rw [hv] at e
   have e2 : k = g' := by simpa [Value.ownBlock] using e
   subst e2
   rw [hh] at hh2
   cases hh2
   simp [Obj.isCells] at hc
 ·exact hg.os
 ·exact hg.tape
 ·exact hg.output
 ·have hk1 : k < w.heap.size + 3 := by
   apply Classical.byContradiction
   intro hn
   exact h2 (Or.inr (by omega))
  exact (h4 k (fun e => h2 (Or.inl e))).trans (h3 k h1 (hne k hk1))
 ·refine ⟨v', cs ++ [(x.1.2, 0)], ?_, i2.kept ((h4 _ (by omega)).trans (h3 _ (by omega) (hne _ (by omega)))), ?_, fun y hy => ?_, ?_, ?_, by omega⟩
  ·have := (((i1.alloc o).grown hg (hne _ (by omega))).set 0 v')
   simpa using this
  ·rw [List.length_append, flat5_append]
   have e5 : flat5 [(x.1.2, 0)] = enc5 (x.1.2, 0) := by simp [flat5]
   rw [e5]
   exact ownsRow_at ho fun g hg1 => h4 g (by have := (ho.lt g hg1).1; omega)
  ·rcases List.mem_append.1 hy with hy | hy
   ·exact ⟨(i4 y hy).1.kept fun b hb => (h4 b (by omega)).trans (h3 b (by omega) (hne b (by omega))), (i4 y hy).2.kept fun b hb => (h4 b (by omega)).trans (h3 b (by omega) (hne b (by omega)))⟩
   ·have e : y = (x.1.2, 0) := by simpa using hy
    subst e
    have hb2 : Below w.heap.size w (w3.setCell ⟨w.heap.size + 1, 0, none⟩ v') := ⟨hg.os.trans i6.os, hg.tape.trans i6.tape, hg.output.trans i6.output, by have := i6.size; omega, fun b hb => ((h4 b (by omega)).trans (h3 b (by omega) (hne b (by omega)))).trans (i6.block b hb)⟩
    exact ⟨x.2.1.later hb2, x.2.2.later hb2⟩
  ·rw [List.map_append, List.map_append, i5]; rfl
  ·exact ⟨hg.os.trans i6.os, hg.tape.trans i6.tape, hg.output.trans i6.output, by have := i6.size; omega, fun b hb => ((h4 b (by omega)).trans (h3 b (by omega) (hne b (by omega)))).trans (i6.block b hb)⟩
def SvL (S q : Nat) (R : Int × List Bd) (ev : Value) (wr : World) : Prop :=
 ∃ (code : Int) (h : List (ByteArray × Tm)) (f : Bool) (Y : Nat → Prop) (td : Value), ev = .int .i64 code ∧ SolE S q td h f Y wr ∧ GoodH h ∧ NamesH h ∧ h.length ≤ 1000000 ∧ (R = (code, sAt h) ∨ (grtB (sAt h) = true ∧ grtB R.2 = true)) ∧ (code ≠ 0 ∨ (code = 0 ∧ ∃ a c, td = .slice a 0 c))
def SvR (S q N : Nat) (V : List ByteArray) (R : Int × List Bd) (g : Nat) (wr : World) : Prop :=
 ∃ (h : List (ByteArray × Tm)) (cs : List Ec), SolT S q N h cs wr ∧ UI V h ((cs.map ecP).reverse.map (·.1)) ∧ (∀ y ∈ cs.map ecP, y.2 ≤ h.length ∧ (y.2 = h.length → onT (sAt h) y.1.l = y.1.l ∧ onT (sAt h) y.1.r = y.1.r)) ∧ uRun false g (sAt h) ((cs.map ecP).reverse.map (·.1)) = some R
def SvI (w : World) (S q N : Nat) (V : List ByteArray) (R : Int × List Bd) (D : Nat) (g : Nat) (ev : Value) (wr : World) : Prop :=
 wr.heap[D]? = some (.deferred (some [])) ∧ Below w.heap.size w wr ∧ ((ev = .int .i64 0 ∧ SvR S q N V R g wr) ∨ SvL S q R ev wr)
def SvN (S q N : Nat) (V : List ByteArray) (R : Int × List Bd) (g : Nat) (wr : World) : Prop :=
 ∃ (h : List (ByteArray × Tm)) (cs : List Ec) (x : Ec), SolT S q N h (cs ++ [x]) wr ∧ UI V h (x.1.1 :: (cs.map ecP).reverse.map (·.1)) ∧ (x.2 ≤ h.length ∧ (x.2 = h.length → onT (sAt h) x.1.1.l = x.1.1.l ∧ onT (sAt h) x.1.1.r = x.1.1.r)) ∧ (∀ y ∈ cs.map ecP, y.2 ≤ h.length ∧ (y.2 = h.length → onT (sAt h) y.1.l = y.1.l ∧ onT (sAt h) y.1.r = y.1.r)) ∧ uRun false g (sAt h) (x.1.1 :: (cs.map ecP).reverse.map (·.1)) = some R
theorem sv_cases {S q N : Nat} {V : List ByteArray} {R : Int × List Bd} {g : Nat} {ev : Value} {wr : World} (hV : V.length ≤ 400000) (h : (ev = .int .i64 0 ∧ SvR S q N V R g wr) ∨ SvL S q R ev wr) : SvL S q R ev wr ∨ (ev = .int .i64 0 ∧ SvN S q N V R g wr) := by
 rcases h with ⟨rfl, h, cs, hT, hU, hb, hr⟩ | h
 ·rcases List.eq_nil_or_concat cs with rfl | ⟨cs, x, rfl⟩
  ·left
   obtain ⟨td, Y, hE, hR, hY, _⟩ := hT
   refine ⟨0, h, false, Y, td, rfl, hE, hU.good, hU.names, by have := hU.hlen; omega, Or.inl ?_, Or.inr ⟨rfl, ?_⟩⟩
   ·cases g with
    | zero => cases hr
    | succ g =>
     simp [uRun, uNext] at hr
     exact hr.symm
   ·rcases hR.own.2 with ⟨h1, _⟩ | ⟨g, cap, cur, h1, _⟩
    ·exact ⟨_, _, h1⟩
    ·exact ⟨_, _, h1⟩
  ·right
   rw [List.concat_eq_append] at *
   simp only [List.map_append, List.map_cons, List.map_nil, List.reverse_append, List.reverse_cons, List.reverse_nil, List.nil_append, List.singleton_append] at hU hr hb
   exact ⟨rfl, h, cs, x, hT, hU, hb (ecP x) (by simp), fun y hy => hb y (by simp [hy]), hr⟩
 ·exact Or.inl h
theorem row_pop {w : World} {N n g cap : Nat} {cs : List Ec} {x : Ec} (hn : cs.length = n) (h : w.ownsRow N 129 5 (.slice (some ⟨g, 0, none⟩) (n + 1) cap) (n + 1) (flat5 (cs ++ [x]))) : w.ownsRow N 129 5 (.slice (some ⟨g, 0, none⟩) n cap) n (flat5 cs) := by
 subst hn
 refine ⟨flat5_length cs, Or.inr ?_⟩
 rcases h.2 with ⟨h1, _⟩ | ⟨g', cap', cur, h1, h2, h3, h4, h5, h6, h7⟩
 ·cases h1
 ·simp at h1
  obtain ⟨rfl, rfl⟩ := h1
  refine ⟨g, cap, cur, rfl, h2, h3, by omega, h5, h6, ?_⟩
  have h8 : (cur.toList.take ((cs.length + 1) * 5)).take (cs.length * 5) = (flat5 (cs ++ [x])).take (cs.length * 5) := by rw [h7]
  rw [List.take_take, Nat.min_eq_left (by omega), flat5_append, List.take_append_of_le_length (by rw [flat5_length]; omega), List.take_of_length_le (l := flat5 cs) (by rw [flat5_length]; omega)] at h8
  exact h8
theorem sv_step {w wr w4 : World} {S q N : Nat} {V : List ByteArray} {R : Int × List Bd} {D g : Nat} {h : List (ByteArray × Tm)} {cs : List Ec} {x : Ec} {td0 : Value} {w3 : World} {e : Ending} (hV : V.length ≤ 400000) (hU : UI V h (x.1.1 :: (cs.map ecP).reverse.map (·.1))) (hb : ∀ y ∈ cs.map ecP, y.2 ≤ h.length ∧ (y.2 = h.length → onT (sAt h) y.1.l = y.1.l ∧ onT (sAt h) y.1.r = y.1.r)) (hr : uRun false g (sAt h) (x.1.1 :: (cs.map ecP).reverse.map (·.1)) = some R)
  (hD : w3.heap[D]? = some (.deferred (some []))) (hDS : D ≠ S) (hDq : D ≠ q) (hDt : some D ≠ td0.ownBlock) (hB : Below w.heap.size w w3) (hS : w.heap.size ≤ S) (hq : w.heap.size ≤ q) (ht : ∀ b, some b = td0.ownBlock → w.heap.size ≤ b)
  (hp : WoPost S q N h cs (onT (sAt h) x.1.1.l) (onT (sAt h) x.1.1.r) td0 w3 e w4) : ∃ (code : Int) (g1 : Nat), e = .returned (.int .i64 code) ∧ g1 < g ∧ SvI w S q N V R D g1 (.int .i64 code) w4 := by
 obtain ⟨code, rfl, hx, hout⟩ := hp
 have hDl : D < w3.heap.size := (Array.getElem?_eq_some_iff.1 hD).1
 cases g with
 | zero => cases hr
 | succ g =>
  refine ⟨code, g, rfl, Nat.lt_succ_self _, (hx.block D hDl (fun hh => ?_)).trans hD, ⟨hx.os.trans hB.os, hx.tape.trans hB.tape, hx.output.trans hB.output, Nat.le_trans hB.size hx.size, fun k hk => (hx.block k (Nat.lt_of_lt_of_le hk hB.size) (fun hh => ?_)).trans (hB.block k hk)⟩, ?_⟩
  ·rcases hh with h1 | h1 | h1
   ·exact hDS h1
   ·exact hDq h1
   ·exact hDt h1
  ·rcases hh with h1 | h1 | h1
   ·omega
   ·omega
   ·have := ht k h1; omega
  ·have hr0 := hr
   rw [uRun, uNext_cons] at hr
   rcases hout with ⟨hne, f', Y', td', hE, hw⟩ | ⟨rfl, hza, hzb, h', cs', new, hT, hC, hgo, hcs⟩
   ·right
    refine ⟨code, h, f', Y', td', rfl, hE, hU.good, hU.names, by have := hU.hlen; omega, ?_, Or.inl hne⟩
    rcases hw with rfl | hw
    ·have hg := hE.2.2.2.2 rfl
     exact Or.inr ⟨hg, uRun_great _ _ _ R.1 R.2 (by rw [hr0]) hg⟩
    ·rw [hw] at hr
     simp at hr
     exact Or.inl hr.symm
   ·left
    rw [hgo] at hr
    have el : (cs'.map ecP).reverse.map (·.1) = new ++ (cs.map ecP).reverse.map (·.1) := by
     rw [hC]
     simp [List.map_reverse, Function.comp_def]
    refine ⟨rfl, h', cs', hT, ?_, ?_, by rw [el]; exact hr⟩
    ·rw [el]
     rcases hcs with ⟨rfl, rfl⟩ | ⟨rfl, y, t, rfl, hv, hor, ho⟩ | ⟨rfl, rfl, hl⟩
     ·exact hU.drop
     ·exact (hU.bindV hv (by rcases hor with ⟨h1, h2⟩ | ⟨h1, h2⟩; exact Or.inl ⟨h1, h2⟩; exact Or.inr ⟨h1, h2⟩) ho).2
     ·exact (hU.deep hza hzb hl).1
    ·rw [hC]
     intro y hy
     rcases List.mem_append.1 hy with hy1 | hy
     ·clear hy
      rcases hcs with ⟨rfl, rfl⟩ | ⟨rfl, z, t, rfl, hv, hor, ho⟩ | ⟨rfl, rfl, hl⟩
      ·exact hb y hy1
      ·have := (hb y hy1).1
       refine ⟨by simp; omega, fun e => ?_⟩
       simp at e; omega
      ·exact hb y hy1
     ·obtain ⟨p, hp, rfl⟩ := List.mem_map.1 hy
      rcases hcs with ⟨rfl, rfl⟩ | ⟨rfl, z, t, rfl, hv, hor, ho⟩ | ⟨rfl, rfl, hl⟩
      ·simp at hp
      ·simp at hp
      ·exact ⟨Nat.le_refl _, fun _ => (hU.deep hza hzb hl).2 p (by simpa using hp)⟩
theorem lyI_solT {w W : World} {pre : List { x : Yx // OldY w x }} (h : LyI w pre W) : ∃ cs : List Ec, SolT (w.heap.size + 1) w.heap.size (w.heap.size + 3) [] cs W ∧ cs.map ecP = pre.map (fun x => (x.1.2.1, 0)) ∧ Below w.heap.size w W := by
 obtain ⟨td, cs, i1, i2, i3, i4, i5, i6, i7⟩ := h
 refine ⟨cs, ⟨td, fun b => b = w.heap.size + 1 ∨ b = w.heap.size, ⟨⟨[], i1, i2, by simp, fun i hi => by simp at hi⟩, Or.inl rfl, Or.inr rfl, fun b hb => by rcases hb with rfl | rfl <;> omega, by simp⟩, ⟨i3, fun x hx => ⟨(i4 x hx).1.mono fun b hb _ => Or.inl ⟨by omega, by omega, by omega⟩, (i4 x hx).2.mono fun b hb _ => Or.inl ⟨by omega, by omega, by omega⟩⟩⟩, fun b hb e => ?_, by omega, by omega, i7⟩, i5, i6⟩
 have := (i3.lt b e.symm).1
 rcases hb with rfl | rfl <;> omega
def SoPost (R : Int × List Bd) (w : World) (e : Ending) (w' : World) : Prop :=
 Below w.heap.size w w' ∧ ((grtB R.2 = true ∧ e = .returned (.tuple #[.slice none 0 0, .int .i64 8])) ∨ (grtB R.2 = false ∧ R.1 ≠ 0 ∧ e = .returned (.tuple #[.slice none 0 0, .int .i64 R.1])) ∨ (grtB R.2 = false ∧ R.1 = 0 ∧ ∃ v, e = .returned (.tuple #[v, .int .i64 0]) ∧ BV w' (fun b => w.heap.size ≤ b) v R.2))
theorem add_off (g n : Nat) : (⟨g, 0, none⟩ : Addr).add n = ⟨g, n, none⟩ := by
 unfold Addr.add
 simp
 intro e
 omega
theorem hB2 {w wr W : World} {v : Value} (h : Below w.heap.size w wr) (hz : (wr.setCell ⟨w.heap.size + 1, 0, none⟩ v).heap.size = wr.heap.size) (hb : Below (wr.setCell ⟨w.heap.size + 1, 0, none⟩ v).heap.size (wr.setCell ⟨w.heap.size + 1, 0, none⟩ v) W) : Below w.heap.size w W := by
 have hs := h.size
 have hs2 := hb.size
 exact ⟨hb.os.trans h.os, hb.tape.trans h.tape, hb.output.trans h.output, by omega, fun k hk => (hb.block k (by omega)).trans ((Below.heap_setCell _ _ _ _ (by simp; omega)).trans (h.block k hk))⟩
theorem so_def {w wr w5 : World} {D : Nat} (hD : w.heap.size + 3 ≤ D) (h : wr.heap[D]? = some (.deferred (some []))) (hx : ExQ (SolM (w.heap.size + 1) w.heap.size) wr w5) : w5.heap[D]? = some (.deferred (some [])) :=
 (hx.block D (Array.getElem?_eq_some_iff.1 h).1 (fun hh => by rcases hh with e | e <;> omega)).trans h
theorem so_below {w wr w5 : World} {D : Nat} (hD : w.heap.size + 3 ≤ D) (h : Below w.heap.size w wr) (hx : ExQ (SolM (w.heap.size + 1) w.heap.size) wr w5) (o : Obj) : Below w.heap.size w (w5.putObj D o) :=
 ⟨hx.os.trans h.os, hx.tape.trans h.tape, hx.output.trans h.output, by rw [World.putObj_size]; exact Nat.le_trans h.size hx.size, fun k hk => by
  rw [World.putObj_heap_other (by omega), hx.block k (Nat.lt_of_lt_of_le hk h.size) (fun hh => by rcases hh with e | e <;> omega), h.block k hk]⟩
theorem so_great {R : Int × List Bd} {code : Int} {s : List Bd} (h : R = (code, s) ∨ (grtB s = true ∧ grtB R.2 = true)) (hg : grtB s = true) : grtB R.2 = true := by
 rcases h with rfl | h
 ·exact hg
 ·exact h.2
theorem so_same {R : Int × List Bd} {code : Int} {s : List Bd} (h : R = (code, s) ∨ (grtB s = true ∧ grtB R.2 = true)) (hg : grtB s = false) : R = (code, s) ∧ grtB s = false := by
 rcases h with rfl | h
 ·exact ⟨rfl, hg⟩
 ·rw [hg] at h; cases h.1
theorem iu_shape {h : List (ByteArray × Tm)} {w : World} {e : Ending} {w' : World} (hc : (grtB (sAt h) = true ∧ e = .returned (.tuple #[.slice none 0 0, .bool false])) ∨ (grtB (sAt h) = false ∧ ∃ v, e = .returned (.tuple #[v, .bool true]) ∧ BV w' (fun b => w.heap.size ≤ b) v (sAt h))) :
  ∃ v ok, e = .returned (.tuple #[v, .bool ok]) ∧ ((grtB (sAt h) = true ∧ ok = false) ∨ (grtB (sAt h) = false ∧ ok = true ∧ BV w' (fun b => w.heap.size ≤ b) v (sAt h))) := by
 rcases hc with ⟨h1, rfl⟩ | ⟨h1, v, rfl, h2⟩
 ·exact ⟨_, _, rfl, Or.inl ⟨h1, rfl⟩⟩
 ·exact ⟨_, _, rfl, Or.inr ⟨h1, rfl, h2⟩⟩
set_option maxHeartbeats 1000000 in
theorem solve_in (HSK : Hid SortedKeys) (n : Nat) (hn : 6 ≤ n) (b o : Nat) (a : Option Addr) (xs : List Pc) (c : Nat) (ha : xs = [] ∨ a = some ⟨b, o, none⟩) (hxl : xs.length ≤ 40) (V : List ByteArray) (hV : V.length ≤ 400000) (hU : UI V [] (xs.map (·.1))) (R : Int × List Bd) (g0 : Nat) (hrun : uRun false g0 [] (xs.map (·.1)) = some R) (w : World) (hbw : b ≤ w.heap.size) (hbx : xs = [] ∨ b < w.heap.size) (hL : PcAt w b o xs) (hS : ∀ x ∈ xs, Sl w (fun b => b < w.heap.size) x.2.1.1 x.1.l.args ∧ Sl w (fun b => b < w.heap.size) x.2.2.1 x.1.r.args) :
  CallsIn Fence.wide n Tryz.prog 58 #[.slice a xs.length c] w fun e w' => SoPost R w e w' := by
 have h1 : 1 ≤ n := by omega
 have hmm := @run_makeMap Tryz.prog
 refine callsIn_of_wp_marks Tryz.func58 rfl trivial ?_ rfl
 simp only [Tryz.ntmps58, List.size_toArray, List.length_cons, List.length_nil, Nat.reduceAdd, Nat.reduceSub, Array.replicate_succ, Array.replicate_zero, List.push_toArray, List.append_toArray, List.nil_append, List.cons_append]
 have hfK : Fence.wide.fn 77 := trivial
 have hfI : Fence.wide.fn 79 := trivial
 have hfW : Fence.wide.fn 78 := trivial
 gi_wp2_with (gi_at_call 77; refine (backward_in Fence.wide (n - 1) trivial rfl _ _ ⟨_, _, _, rfl⟩).mono ?_; rintro e w' ⟨rfl, rfl⟩)
 have hP : ∀ k (h : k < xs.length), OldY w ((k : Int), xs[k]) := fun k h => hS _ (List.getElem_mem h)
 have hW0 : (((w.alloc (.map #[] 0)).alloc (.cells #[.slice none 0 0, .map (some w.heap.size), .bool false] 124)).alloc (.cells #[.slice a xs.length c] 46)).heap.size = w.heap.size + 3 := by simp
 have hB0 : Below w.heap.size w (((w.alloc (.map #[] 0)).alloc (.cells #[.slice none 0 0, .map (some w.heap.size), .bool false] 124)).alloc (.cells #[.slice a xs.length c] 46)) := ((((Below.refl _ w).alloc (Nat.le_refl _) _).alloc (by simp) _).alloc (by simp; omega) _)
 have hSB : Blk (((w.alloc (.map #[] 0)).alloc (.cells #[.slice none 0 0, .map (some w.heap.size), .bool false] 124)).alloc (.cells #[.slice a xs.length c] 46)) (w.heap.size + 1) #[.slice none 0 0, .map (some w.heap.size), .bool false] 124 := by
  have h1 := (Blk.new (w.alloc (.map #[] 0)) #[.slice none 0 0, .map (some w.heap.size), .bool false] 124).alloc (.cells #[.slice a xs.length c] 46)
  rw [World.size_alloc] at h1
  exact h1
 have hMA : MapAt (((w.alloc (.map #[] 0)).alloc (.cells #[.slice none 0 0, .map (some w.heap.size), .bool false] 124)).alloc (.cells #[.slice a xs.length c] 46)) w.heap.size [] := (MapAt.new w).kept (by rw [Below.heap_alloc _ _ _ (by simp; omega), Below.heap_alloc _ _ _ (by simp)])
 have hBox : (((w.alloc (.map #[] 0)).alloc (.cells #[.slice none 0 0, .map (some w.heap.size), .bool false] 124)).alloc (.cells #[.slice a xs.length c] 46)).cell? ⟨w.heap.size + 1 + 1, 0, none⟩ = some (.slice a xs.length c) := by
  have h1 := (Blk.new ((w.alloc (.map #[] 0)).alloc (.cells #[.slice none 0 0, .map (some w.heap.size), .bool false] 124)) #[.slice a xs.length c] 46).cell 0
  rw [World.size_alloc, World.size_alloc] at h1
  exact h1
 generalize (((w.alloc (.map #[] 0)).alloc (.cells #[.slice none 0 0, .map (some w.heap.size), .bool false] 124)).alloc (.cells #[.slice a xs.length c] 46)) = W0 at *
 refine wpIn_rangeFunc_ownH rfl h1 (gf := 107) (lb := #[.pointer (some ⟨w.heap.size + 1 + 1, 0, none⟩)]) rfl trivial (enters_of Tryz.func107 (by kernel_rfl) rfl)
  (back_stops Fence.wide (n - 1) trivial rfl (by omega) (P := OldY w) (Kp := LyK w) (fun A => LyK.refl _ _) (fun h k => LyK.trans h k) (w.heap.size + 1 + 1) b o c (fun {A B} h => lyK_c hbw h) a xs hP ha (by omega) W0 (by omega) (by omega) hBox (fun j u hj => by (rcases hbx with rfl | hbx); (simp [flat4] at hj); rw [hB0.cell (p := ⟨_, _, none⟩) (by simpa using hbx)]; exact hL j u hj))
  (fun h k => LyK.trans h k) (fun W l o o' hl ho _ _ => lyK_b (by omega)) (Below.refl _ _) (fun _ => rfl)
  (LyI w) (fun _ _ _ => False) (by rw [hW0]; exact lyI_own w) (fun _ _ _ _ _ hs _ _ => hs) ⟨.slice none 0 0, [], hSB, hMA, World.ownsRow_nil _ _ _ _, by simp, by simp, hB0, by omega⟩
  (fun x a' W => ∃ Bx, w.heap.size + 3 ≤ Bx ∧ Blk W Bx #[.string x.1.2.1.l.name, .slice x.1.2.2.1.1 x.1.2.1.l.args.length x.1.2.2.1.2, .string x.1.2.1.r.name, .slice x.1.2.2.2.1 x.1.2.1.r.args.length x.1.2.2.2.2] 45 ∧ a' = { tmps := #[.slice a xs.length c, undef, .slice none 0 0, .int .i64 0, .pointer (some ⟨w.heap.size + 1, 0, none⟩), undef, .pointer (some ⟨Bx, 0, none⟩), undef, undef, undef, undef, undef, .map (some w.heap.size), .agg #[.slice none 0 0, .map (some w.heap.size), .bool false], .slice a xs.length c, .func (.func 107) #[] #[.pointer (some ⟨w.heap.size + 1 + 1, 0, none⟩)], .int .i64 x.1.1, .agg #[.string x.1.2.1.l.name, .slice x.1.2.2.1.1 x.1.2.1.l.args.length x.1.2.2.1.2, .string x.1.2.1.r.name, .slice x.1.2.2.2.1 x.1.2.1.r.args.length x.1.2.2.2.2], undef, undef, undef, undef, undef, undef, undef, undef, undef, undef, undef, undef, undef, undef, undef, undef, undef, undef, undef, undef, undef, undef, undef, undef, undef, undef, undef, undef, undef, undef, undef, undef, undef, undef, undef, undef, undef, undef, undef, undef, undef, undef, undef, undef], defers := [] })
  (fun x a' _ X Y row hs hg hr => by
   obtain ⟨Bx, h1, h2, h3⟩ := hs
   refine ⟨Bx, h1, h2.grown hg (fun e => ?_), h3⟩
   obtain ⟨_, o, ho, hc⟩ := hr Bx e.symm
   unfold Blk at h2
   rw [ho] at h2
   cases h2
   simp [Obj.isCells] at hc) ?assign ?body ?done ?stop
 case assign =>
  rintro l pre x W K hI hK
  dsimp only [encY]
  gi_wp2
  obtain ⟨td, cs, i1, i2, i3, i4, i5, i6, i7⟩ := hI
  refine hK _ _ ((KeepsOthers.alloc _ _).from _) ⟨(ExQ.refl _ _).alloc _, fun k h1 h2 => Below.heap_alloc _ _ _ (by omega)⟩ ⟨td, cs, i1.alloc _, i2.kept (Below.heap_alloc _ _ _ (by omega)), i3.alloc _, fun y hy => ⟨(i4 y hy).1.later ((Below.refl _ _).alloc (Nat.le_refl _) _), (i4 y hy).2.later ((Below.refl _ _).alloc (Nat.le_refl _) _)⟩, i5, i6.alloc (by omega) _, by simp; omega⟩ ⟨W.heap.size, i7, Blk.new W _ _, rfl⟩
 case body =>
  rintro l pre x a' W hl hr hI ⟨Bx, hBx, bX, rfl⟩ hlt
  obtain ⟨td, cs, i1, i2, i3, i4, i5, i6, i7⟩ := hI
  obtain ⟨⟨xi, ⟨xp, ⟨xa, xc⟩, ⟨ya, yc⟩⟩⟩, hx1, hx2⟩ := x
  dsimp only at bX hx1 hx2 ⊢
  have s0 := i1.c0
  have p0 : W.cell? ⟨Bx, 0, none⟩ = some (.string xp.l.name) := bX.cell 0
  have p1 : W.cell? ⟨Bx, 1, none⟩ = some (.slice xa xp.l.args.length xc) := bX.cell 1
  have p2 : W.cell? ⟨Bx, 2, none⟩ = some (.string xp.r.name) := bX.cell 2
  have p3 : W.cell? ⟨Bx, 3, none⟩ = some (.slice ya xp.r.args.length yc) := bX.cell 3
  obtain ⟨i0, hi0, hz0, hz1, hz2⟩ := info_parts Tryz.infoEq
  have hcl : cs.length ≤ 40 := by have := congrArg List.length i5; simp at this; omega
  gi_wp2_with (gi_at_builtin; go_loud (refine wpListIn_append_own_at _ rfl (.tmp 19) (.tmp 25) 122 rfl (w.heap.size + 3) 129 i0 _ 5 88 Tryz.underlying122 hi0 hz0 hz1 hz2 rfl (by decide) td cs.length (flat5 cs) rfl (i3.alloc _) ⟨W.heap.size, 0, none⟩ 1 1 [.string xp.l.name, .slice xa xp.l.args.length xc, .string xp.r.name, .slice ya xp.r.args.length yc, .int .i64 0] rfl rfl (cell_five_new _ _ _ _ _ _ _) (fun u hu => by simp at hu; rcases hu with rfl | rfl | rfl | rfl | rfl <;> rfl) (by unfold maxLen; omega) (by omega) (by simp; omega) ?_); intro v' w3 ho hg _ hob; obtain ⟨g', cap', rfl⟩ := owns_shape ho; have s3 : w3.cell? ⟨w.heap.size + 1, 0, none⟩ = some td := ((i1.alloc _).grown hg (fun e => by have := (i3.lt _ e.symm).1; omega)).cell 0; have f3 : w3.frozen? ⟨w.heap.size + 1, 0, none⟩ = false := ((i1.alloc _).grown hg (fun e => by have := (i3.lt _ e.symm).1; omega)).frozen 0)
  have hfin := lyI_step (x := ⟨(xi, xp, (xa, xc), ya, yc), hx1, hx2⟩) i1 i2 i3 i4 i5 i6 i7 ho hg
  rw [hW0]
  exact hfin
 case done =>
  rintro D ys W hD rfl hI hDD
  have hst : SvI w (w.heap.size + 1) w.heap.size (w.heap.size + 3) V R D g0 (.int .i64 0) W := by
   obtain ⟨cs, hT, hC, hB⟩ := lyI_solT hI
   have e1 : (cs.map ecP).reverse.map (·.1) = xs.map (·.1) := by
    have e2 := backA_map (P := OldY w) (xs := xs) (hP := hP) xs.length (Nat.le_refl _)
    rw [hC, ← List.map_reverse, List.map_map, List.map_reverse]
    have e3 : ((fun x : Pr × Nat => x.1) ∘ fun x : { x : Yx // OldY w x } => (x.1.2.1, 0)) = fun x => x.1.2.1 := rfl
    rw [e3, e2, List.take_length, List.reverse_reverse]
   refine ⟨hDD, hB, Or.inl ⟨rfl, [], cs, hT, by rw [e1]; exact hU, ?_, by rw [e1]; exact hrun⟩⟩
   rw [hC]
   intro y hy
   obtain ⟨z, _, rfl⟩ := List.mem_map.1 hy
   exact ⟨Nat.zero_le _, fun _ => ⟨onT_id (by simp [sAt]), onT_id (by simp [sAt])⟩⟩
  have HST := hide hst
  clear hst hI hDD
  gi_wp2
  gi_loopg [7] g0 (fun g ev wr => SvI w (w.heap.size + 1) w.heap.size (w.heap.size + 3) V R D g ev wr)
  case atStart => exact HST.out
  case round =>
   have hDl : w.heap.size + 3 ≤ D := by omega
   obtain ⟨hDr, hBr, hcr⟩ := hrel
   rcases sv_cases hV hcr with ⟨code, h, f, Y, td, rfl, hE, hgd, hnm, hhl, hR, hlast⟩ | ⟨rfl, h, cs, x, hT, hUx, hbx, hbc, hrx⟩
   ·have HE := hide hE
    have HR := hide hR
    have HB := hide hBr
    have HD := hide hDr
    clear hcr hR hBr hDr
    obtain ⟨⟨L, hB, hM, hSt⟩, _⟩ := hE
    have s0 := hB.c0
    clear hB hM hSt
    rcases hlast with hne | ⟨rfl, a0, c0, rfl⟩
    ·have hce : (code == 0) = false := beq_eq_false_iff_ne.2 hne
     have hcn : (code != 0) = true := by simp [bne, hce]
     gi_wp2_with (gi_at_call 79; refine (callsIn_wide.2 (inOrderU_of HSK (w.heap.size + 1) w.heap.size td h hgd hnm hhl wr Y f HE.out)).mono ?_; rintro e w5 ⟨hx5, hc5⟩; obtain ⟨v5, ok5, rfl, hd5⟩ := iu_shape hc5; clear hc5)
     ·have hok : ok5 = false := by simp_all
      refine ⟨by simp, .inl ⟨_, _, rfl, run_takeDeferred (so_def hDl HD.out hx5), ?_⟩⟩
      refine ⟨.tuple #[.slice none 0 0, .int .i64 8], by simp [results, Tryz.results58, go_sem], so_below hDl HB.out hx5 _, Or.inl ⟨so_great HR.out (by simp_all), rfl⟩⟩
     ·have hok : ok5 = true := by simp_all
      have hRR := so_same HR.out (show grtB (sAt h) = false by simp_all)
      refine ⟨by simp, .inl ⟨_, _, rfl, run_takeDeferred (so_def hDl HD.out hx5), ?_⟩⟩
      refine ⟨.tuple #[.slice none 0 0, .int .i64 code], by simp [results, Tryz.results58, go_sem], so_below hDl HB.out hx5 _, Or.inr (Or.inl ?_)⟩
      rw [hRR.1]
      exact ⟨hRR.2, hne, rfl⟩
    ·gi_wp2_with (gi_at_call 79; refine (callsIn_wide.2 (inOrderU_of HSK (w.heap.size + 1) w.heap.size (.slice a0 0 c0) h hgd hnm hhl wr Y f HE.out)).mono ?_; rintro e w5 ⟨hx5, hc5⟩; obtain ⟨v5, ok5, rfl, hd5⟩ := iu_shape hc5; clear hc5)
     ·have hok : ok5 = false := by simp_all
      refine ⟨by simp, .inl ⟨_, _, rfl, run_takeDeferred (so_def hDl HD.out hx5), ?_⟩⟩
      refine ⟨.tuple #[.slice none 0 0, .int .i64 8], by simp [results, Tryz.results58, go_sem], so_below hDl HB.out hx5 _, Or.inl ⟨so_great HR.out (by simp_all), rfl⟩⟩
     ·have hok : ok5 = true := by simp_all
      have hRR := so_same HR.out (show grtB (sAt h) = false by simp_all)
      have hbv : BV w5 (fun b => wr.heap.size ≤ b) v5 (sAt h) := by
       rcases hd5 with h1 | h1
       ·rw [hok] at h1; cases h1.2
       ·exact h1.2.2
      refine ⟨by simp, .inl ⟨_, _, rfl, run_takeDeferred (so_def hDl HD.out hx5), ?_⟩⟩
      refine ⟨.tuple #[v5, .int .i64 0], by simp [results, Tryz.results58, go_sem], so_below hDl HB.out hx5 _, Or.inr (Or.inr ?_)⟩
      rw [hRR.1]
      exact ⟨hRR.2, rfl, v5, rfl, (hbv.kept fun b hb => World.putObj_heap_other (by have := (Array.getElem?_eq_some_iff.1 HD.out).1; omega)).mono fun b hb _ => Nat.le_trans HB.out.size hb⟩
   ·obtain ⟨td, Y, hE, hRw, hY, _, _, hNr⟩ := hT
    have hlen : cs.length ≤ 900000000 := by
     have h1 := hUx.llen
     simp at h1
     omega
    have hown := hRw.own
    rw [List.length_append] at hown
    obtain ⟨g, cap, rfl⟩ := owns_shape hown
    have hpop := row_pop rfl hown
    have hcap : cs.length + 1 ≤ cap := by
     rcases hown.2 with ⟨h1, _⟩ | ⟨g', cap', cur, h1, h2, h3, h4, _⟩
     ·cases h1
     ·simp at h1
      obtain ⟨_, rfl⟩ := h1
      simpa using h4
    obtain ⟨⟨p, ⟨a1, c1⟩, ⟨a2, c2⟩⟩, j⟩ := x
    have cc : ∀ i u, (enc5 ((p, (a1, c1), (a2, c2)), j))[i]? = some u → i < 5 → wr.cell? ⟨g, cs.length * 5 + i, none⟩ = some u := fun i u hu hi => by
     have h1 := hown.cells (g := g) rfl (cs.length * 5 + i) u (by rw [flat5_get (cs ++ [_]) cs.length (by simp) i hi]; simpa using hu)
     rw [add_off] at h1
     exact h1
    have k0 := cc 0 _ rfl (by decide)
    have k1 := cc 1 _ rfl (by decide)
    have k2 := cc 2 _ rfl (by decide)
    have k3 := cc 3 _ rfl (by decide)
    have k4 := cc 4 _ rfl (by decide)
    simp only [Nat.add_zero] at k0
    obtain ⟨⟨L, hB, hM, hSt⟩, _⟩ := id hE
    have s0 : wr.cell? ⟨w.heap.size + 1, 0, none⟩ = some (.slice (some ⟨g, 0, none⟩) (cs.length + 1) cap) := hB.cell 0
    have s0' : ∀ o, (wr.alloc o).cell? ⟨w.heap.size + 1, 0, none⟩ = some (.slice (some ⟨g, 0, none⟩) (cs.length + 1) cap) := fun o => (hB.alloc o).cell 0
    have f0' : ∀ o, (wr.alloc o).frozen? ⟨w.heap.size + 1, 0, none⟩ = false := fun o => (hB.alloc o).frozen 0
    have HE := hide hE
    have HRW := hide hRw
    have HY := hide hY
    have HPOP := hide hpop
    have HU := hide hUx
    have HBX := hide hbx
    have HBC := hide hbc
    have HRX := hide hrx
    have HB := hide hBr
    have HD := hide hDr
    clear hE hRw hY hpop hUx hbx hbc hrx hBr hDr hB hM hSt hown cc hcr
    gi_wp2_with fail
    have hSN : w.heap.size + 1 < w.heap.size + 3 := by omega
    have hqN : w.heap.size < w.heap.size + 3 := by omega
    have hB1 : Below (wr.setCell ⟨w.heap.size + 1, 0, none⟩ (.slice (some ⟨g, 0, none⟩) cs.length cap)).heap.size (wr.setCell ⟨w.heap.size + 1, 0, none⟩ (.slice (some ⟨g, 0, none⟩) cs.length cap)) ((wr.setCell ⟨w.heap.size + 1, 0, none⟩ (.slice (some ⟨g, 0, none⟩) cs.length cap)).alloc (.cells #[.string p.l.name, .slice a1 p.l.args.length c1, .string p.r.name, .slice a2 p.r.args.length c2, .int .i64 (j : Int)] 129)) := (Below.refl _ _).alloc (Nat.le_refl _) _
    have hz1 : (wr.setCell ⟨w.heap.size + 1, 0, none⟩ (.slice (some ⟨g, 0, none⟩) cs.length cap)).heap.size = wr.heap.size := by simp [World.setCell]
    have hr1 : ERow wr (w.heap.size + 3) (fun b => b < w.heap.size + 3 ∧ b ≠ w.heap.size + 1 ∧ b ≠ w.heap.size) (.slice (some ⟨g, 0, none⟩) cs.length cap) cs := ⟨HPOP.out, fun y hy => HRW.out.row y (by simp [hy])⟩
    have hx1 := HRW.out.row ((p, (a1, c1), (a2, c2)), j) (by simp)
    have hSl : ∀ (aa : Option Addr) (l : List Tm), Sl wr (fun b => (b < w.heap.size + 3 ∧ b ≠ w.heap.size + 1 ∧ b ≠ w.heap.size) ∨ (w.heap.size + 3 ≤ b ∧ some b ≠ some g)) aa l → Sl ((wr.setCell ⟨w.heap.size + 1, 0, none⟩ (.slice (some ⟨g, 0, none⟩) cs.length cap)).alloc (.cells #[.string p.l.name, .slice a1 p.l.args.length c1, .string p.r.name, .slice a2 p.r.args.length c2, .int .i64 (j : Int)] 129)) (fun b => (b < w.heap.size + 3 ∧ b ≠ w.heap.size + 1 ∧ b ≠ w.heap.size) ∨ (w.heap.size + 3 ≤ b ∧ some b ≠ some g)) aa l := fun aa l hsl => (hsl.kept fun b hb => Below.heap_setCell _ _ _ _ (by
     simp
     rcases hb with hb | hb
     ·exact hb.2.1
     ·omega)).later hB1
    have hgN : w.heap.size + 3 ≤ g ∧ g < wr.heap.size := HPOP.out.lt g rfl
    have hDg : D ≠ g := fun e => by
     subst e
     rcases HPOP.out.2 with ⟨h1, _⟩ | ⟨g', cap', cur, h1, h2, h3, _⟩
     ·cases h1
     ·simp at h1
      obtain ⟨rfl, rfl⟩ := h1
      rw [HD.out] at h3
      cases h3
    have hDr : D < wr.heap.size := (Array.getElem?_eq_some_iff.1 HD.out).1
    have WO := workOff_any (w.heap.size + 1) w.heap.size (w.heap.size + 3) V h cs p ((cs.map ecP).reverse.map (·.1)) HU.out j HBX.out.1 HBX.out.2 hlen hV a1 c1 a2 c2 _ (.slice (some ⟨g, 0, none⟩) cs.length cap) Y ((solE_ok _ _ _ h).below (sole_todo HE.out (fun _ _ => rfl)) hB1) ((hr1.setCell hSN (fun hb => hb.2.1 rfl) _).below hB1) HY.out hSN hqN (by simp [World.setCell]; omega) (hSl _ _ hx1.1) (hSl _ _ hx1.2)
    refine (callsIn_wide.2 WO).mono ?_
    clear WO
    rintro e w4 hwo
    obtain ⟨code, g1, rfl, hlt1, hI1⟩ := sv_step (x := ((p, (a1, c1), (a2, c2)), j)) (w := w) (wr := wr) (D := D) (R := R) hV HU.out HBC.out HRX.out (by rw [Below.heap_alloc _ _ _ (by rw [hz1]; exact hDr), Below.heap_setCell _ _ _ _ (by simp; omega)]; exact HD.out) (by omega) (by omega) (fun e => hDg (by simpa [Value.ownBlock] using e)) (hB2 HB.out hz1 hB1) (by omega) (Nat.le_refl _) (fun b hb => by (have e : b = g := Option.some.inj hb); rw [e]; omega) hwo
    have HI1 := hide hI1
    clear hI1 hwo
    gi_wp2
    gi_roundg g1
    case rel => exact HI1.out
    case measure => exact hlt1
 case stop =>
  rintro D c pre W _ _ h _
  exact h.elim
theorem on_mem {t : List Bd} {l : List Tm} {x : Tm} (h : x ∈ l) : sizeL [onT t x] ≤ sizeL (onL t l) := by
 induction l with
 | nil => cases h
 | cons a r ih =>
  have hc := size_cons (onT t a) (onL t r)
  rw [onL_cons]
  rcases List.mem_cons.1 h with rfl | h
  ·omega
  ·have := ih h; omega
inductive FO where
 | go (s : List Bd) (l : List Pr)
 | stop (e : Int)
def fBind (s : List Bd) (x : ByteArray) (t : Tm) : FO := if inB x (varsP [] (preL [t])) = true then .stop 6 else .go (addS s x t) []
def fPair (s : List Bd) (a b : Tm) : FO :=
 if varB a.name = true then (if a.name = b.name then .go s [] else fBind s a.name b)
 else if varB b.name = true then fBind s b.name a
 else if a.name = b.name ∧ a.args.length = b.args.length then .go s (zipP a.args b.args)
 else .stop 5
inductive FR : List Bd → List Pr → Int → List Bd → Prop
 | done (s : List Bd) : FR s [] 0 s
 | step {s s' sf : List Bd} {p : Pr} {l' rest : List Pr} {e : Int} : fPair s (onT s p.l) (onT s p.r) = .go s' l' → FR s' (l' ++ rest) e sf → FR s (p :: rest) e sf
 | stop {s : List Bd} {p : Pr} {rest : List Pr} {e : Int} : fPair s (onT s p.l) (onT s p.r) = .stop e → FR s (p :: rest) e s
theorem fBind_stop {s : List Bd} {x : ByteArray} {t : Tm} {e : Int} (h : fBind s x t = .stop e) : e = 6 := by
 unfold fBind at h
 split at h
 ·cases h; rfl
 ·cases h
theorem fPair_stop {s : List Bd} {a b : Tm} {e : Int} (h : fPair s a b = .stop e) : e ≠ 0 := by
 unfold fPair at h
 split at h
 ·split at h
  ·cases h
  ·rw [fBind_stop h]; decide
 ·split at h
  ·rw [fBind_stop h]; decide
  ·split at h
   ·cases h
   ·cases h; decide
theorem FR.append_ok {s s' : List Bd} {a : List Pr} {e0 : Int} (h : FR s a e0 s') : e0 = 0 → ∀ {b : List Pr} {e : Int} {sf : List Bd}, FR s' b e sf → FR s (a ++ b) e sf := by
 induction h with
 | done s => intro _ b e sf h; exact h
 | step h1 _ ih => intro h0 b e sf h; exact FR.step h1 (by have h2 := ih h0 h; rw [List.append_assoc] at h2; exact h2)
 | stop h1 => intro h0; exact absurd h0 (fPair_stop h1)
theorem FR.append_err {s s' : List Bd} {a : List Pr} {e : Int} (h : FR s a e s') : e ≠ 0 → ∀ (b : List Pr), FR s (a ++ b) e s' := by
 induction h with
 | done s => intro h; exact absurd rfl h
 | step h1 _ ih => intro h0 b; exact FR.step h1 (by have h2 := ih h0 b; rw [List.append_assoc] at h2; exact h2)
 | stop h1 => intro h0 b; exact FR.stop h1
def Abs (s s' : List Bd) : Prop := ∀ L : List Tm, errL L = 0 → onL s' (onL s L) = onL s' L
theorem Abs.T {s s' : List Bd} (h : Abs s s') {t : Tm} (he : errL [t] = 0) : onT s' (onT s t) = onT s' t := by
 have h1 := h [t] he
 rw [onL_cons, onL_cons, onL_cons] at h1
 injection h1
theorem abs_refl {s : List Bd} (h : OkS s) : Abs s s := fun L he => h.idem he
theorem Abs.trans {s s' s'' : List Bd} (hs : OkS s) (h : Abs s s') (k : Abs s' s'') : Abs s s'' := fun L he => by
 rw [← k (onL s L) (errL_on2 hs L he), h L he, k L he]
theorem fBind_go {s s' : List Bd} {x : ByteArray} {t : Tm} {l' : List Pr} (hs : OkS s) (hx : varB x = true) (hn : ∀ d ∈ s, d.nm ≠ x) (he : errL [t] = 0) (ht : ∀ e ∈ s, ¬ occL e.nm [t]) (h : fBind s x t = .go s' l') : s' = addS s x t ∧ l' = [] ∧ ¬ occL x [t] ∧ OkS s' ∧ Abs s s' := by
 unfold fBind at h
 split at h
 ·cases h
 ·rename_i ho
  cases h
  have h1 := not_inB hx ho
  have h2 := hs.add hx hn he ht h1
  refine ⟨rfl, rfl, h1, h2, fun L hL => ?_⟩
  rw [add_on hs hx hn h2 _ (errL_on2 hs L hL), add_on hs hx hn h2 L hL, hs.idem hL]
def GoF (s s' : List Bd) (a b : Tm) (l' : List Pr) : Prop :=
 OkS s' ∧ Abs s s' ∧ errL (flatP l') = 0 ∧ (∀ V : List ByteArray, (∀ d ∈ s, d.nm ∈ V) → (∀ y, varB y = true → (occL y [a] ∨ occL y [b]) → y ∈ V) → (∀ d ∈ s', d.nm ∈ V)) ∧
  (∀ L, errL L = 0 → ∀ y, varB y = true → occL y (onL s' L) → occL y (onL s L) ∨ occL y [a] ∨ occL y [b]) ∧
  (l' = [] ∨ (s' = s ∧ varB a.name = false ∧ varB b.name = false ∧ l' = zipP a.args b.args))
theorem fPair_go {s s' : List Bd} {a b : Tm} {l' : List Pr} (hs : OkS s) (ha : errL [a] = 0) (hb : errL [b] = 0) (hna : ∀ e ∈ s, ¬ occL e.nm [a]) (hnb : ∀ e ∈ s, ¬ occL e.nm [b]) (h : fPair s a b = .go s' l') : GoF s s' a b l' := by
 have bind : ∀ x t, varB x = true → (∀ d ∈ s, d.nm ≠ x) → errL [t] = 0 → (∀ e ∈ s, ¬ occL e.nm [t]) → (occL x [a] ∨ occL x [b]) → (∀ y, occL y [t] → occL y [a] ∨ occL y [b]) → fBind s x t = .go s' l' → GoF s s' a b l' := fun x t hx hn he ht hxo hto h => by
  obtain ⟨rfl, rfl, h3, h4, h5⟩ := fBind_go hs hx hn he ht h
  refine ⟨h4, h5, by simp [flatP, errL], fun V h6 h7 d hd => ?_, fun L hL y hy ho => ?_, Or.inl rfl⟩
  ·have h8 := (srtB_perm (s.map (putB x t) ++ [⟨x, t⟩])).subset hd
   rcases List.mem_append.1 h8 with h8 | h8
   ·obtain ⟨d', hd', rfl⟩ := List.mem_map.1 h8
    exact h6 d' hd'
   ·have e : d = ⟨x, t⟩ := by simpa using h8
    rw [e]
    exact h7 x hx hxo
  ·exact ((bind_facts hs hx hn he ht h3 hL).2.1 y hy ho).imp id (hto y)
 unfold fPair at h
 split at h
 ·rename_i hva
  split at h
  ·cases h
   exact ⟨hs, abs_refl hs, by simp [flatP, errL], fun V h6 _ => h6, fun L hL y hy ho => Or.inl ho, Or.inl rfl⟩
  ·exact bind a.name b hva (fun d hd e => hna d hd (by rw [e]; exact occ_self a)) hb hnb (Or.inl (occ_self a)) (fun y h => Or.inr h) h
 ·rename_i hva
  split at h
  ·rename_i hvb
   exact bind b.name a hvb (fun d hd e => hnb d hd (by rw [e]; exact occ_self b)) ha hna (Or.inr (occ_self b)) (fun y h => Or.inl h) h
  ·rename_i hvb
   split at h
   ·cases h
    exact ⟨hs, abs_refl hs, zip_err (err_sub ha) (err_sub hb), fun V h6 _ => h6, fun L hL y hy ho => Or.inl ho, Or.inr ⟨rfl, by simpa using hva, by simpa using hvb, rfl⟩⟩
   ·cases h
theorem uPair_of {s : List Bd} {rest : List Pr} {a b : Tm} (ha : sizeL [a] ≤ 2000) (hb : sizeL [b] ≤ 2000) : uPair false s rest a b = match fPair s a b with
  | .go s' l' => .go s' (l' ++ rest)
  | .stop e => .stop e s := by
 have bind : ∀ x t, uBind false s rest x t = match fBind s x t with
   | .go s' l' => .go s' (l' ++ rest)
   | .stop e => .stop e s := fun x t => by
  unfold uBind fBind
  by_cases h : inB x (varsP [] (preL [t])) = true
  ·rw [if_pos h, if_pos h]
  ·rw [if_neg h, if_neg h, if_neg (by simp)]; rfl
 unfold uPair fPair
 rw [if_neg (by omega)]
 by_cases h1 : varB a.name = true
 ·rw [if_pos h1, if_pos h1]
  by_cases h2 : a.name = b.name
  ·rw [if_pos h2, if_pos h2]; rfl
  ·rw [if_neg h2, if_neg h2]; exact bind _ _
 ·rw [if_neg h1, if_neg h1]
  by_cases h2 : varB b.name = true
  ·rw [if_pos h2, if_pos h2]; exact bind _ _
  ·rw [if_neg h2, if_neg h2]
   by_cases h3 : a.name = b.name ∧ a.args.length = b.args.length
   ·rw [if_pos h3, if_pos h3]
   ·rw [if_neg h3, if_neg h3]
theorem zip_in : ∀ {a b : List Tm} {p : Pr}, p ∈ zipP a b → p.l ∈ a ∧ p.r ∈ b := @zip_mem
theorem size_in {sf : List Bd} (hf : OkS sf) {u x : Tm} (hv : varB u.name = false) (hx : x ∈ u.args) : sizeL [onT sf x] ≤ sizeL [onT sf u] := by
 obtain ⟨n, l⟩ := u
 rw [onT_sym2 hf.vars hv]
 have h1 := on_mem (t := sf) hx
 have h2 := size_sub ⟨n, onL sf l⟩
 simp only at h1 h2
 show sizeL [onT sf x] ≤ sizeL [⟨n, onL sf l⟩]
 omega
theorem FR.run {s sf : List Bd} {l : List Pr} {e : Int} (h : FR s l e sf) : OkS s → errL (flatP l) = 0 → (OkS sf ∧ Abs s sf) ∧ ((∀ p ∈ l, sizeL [onT sf p.l] ≤ 2000 ∧ sizeL [onT sf p.r] ≤ 2000) → ∃ n, uRun false n s l = some (e, sf)) ∧
  (∀ V : List ByteArray, (∀ d ∈ s, d.nm ∈ V) → (∀ y, varB y = true → occL y (onL s (flatP l)) → y ∈ V) → ∀ d ∈ sf, d.nm ∈ V) := by
 induction h with
 | done s => intro hs _; exact ⟨⟨hs, abs_refl hs⟩, fun _ => ⟨1, rfl⟩, fun V h _ => h⟩
 | @step s s' sf p l' rest e h1 h2 ih =>
  intro hs he
  obtain ⟨e1, e2⟩ := err_two.1 he
  obtain ⟨e2, e3⟩ := err_two.1 e2
  have ea := errL_onT2 hs e1
  have eb := errL_onT2 hs e2
  obtain ⟨g1, g2, g3, g4, g5, g6⟩ := fPair_go hs ea eb (hs.goneT e1) (hs.goneT e2) h1
  have he' : errL (flatP (l' ++ rest)) = 0 := by rw [flatP_append]; exact err_append.2 ⟨g3, e3⟩
  obtain ⟨⟨i1, i2⟩, i3, i4⟩ := ih g1 he'
  have hab : Abs s sf := g2.trans hs i2
  refine ⟨⟨i1, hab⟩, fun hz => ?_, fun V h6 h7 => i4 V (g4 V h6 fun y hy ho => h7 y hy ?_) fun y hy ho => ?_⟩
  ·have za := (hz p (by simp)).1
   have zb := (hz p (by simp)).2
   have ya : sizeL [onT s p.l] ≤ 2000 := by
    have := onT_grow sf (onT s p.l)
    rw [hab.T e1] at this
    omega
   have yb : sizeL [onT s p.r] ≤ 2000 := by
    have := onT_grow sf (onT s p.r)
    rw [hab.T e2] at this
    omega
   obtain ⟨n, hn⟩ := i3 fun p' hp' => by
    rcases List.mem_append.1 hp' with hp' | hp'
    ·rcases g6 with g6 | ⟨rfl, va, vb, g6⟩
     ·rw [g6] at hp'; cases hp'
     ·rw [g6] at hp'
      obtain ⟨m1, m2⟩ := zip_in hp'
      have z1 := size_in i1 va m1
      have z2 := size_in i1 vb m2
      rw [hab.T e1] at z1
      rw [hab.T e2] at z2
      omega
    ·exact hz p' (by simp [hp'])
   refine ⟨n + 1, ?_⟩
   rw [uRun, uNext_cons, uPair_of ya yb, h1]
   exact hn
  ·rw [flatP, onL_cons, onL_cons]
   rcases ho with ho | ho
   ·exact occL_cons.2 (Or.inl ho)
   ·exact occL_cons.2 (Or.inr (occL_cons.2 (Or.inl ho)))
  ·refine h7 y hy ?_
   rw [flatP, onL_cons, onL_cons]
   rw [flatP_append, onL_append] at ho
   have fin : occL y (onL s (flatP rest)) ∨ occL y [onT s p.l] ∨ occL y [onT s p.r] := by
    rcases occL_append.1 ho with ho | ho
    ·rcases g6 with g6 | ⟨gs, va, vb, g6⟩
     ·rw [g6] at ho; simp only [flatP, onL] at ho; exact absurd ho occL_nil
     ·rw [g6, gs] at ho
      have e6 : onL s (flatP (zipP (onT s p.l).args (onT s p.r).args)) = flatP (zipP (onT s p.l).args (onT s p.r).args) := onL_id _ fun d hd hoc => by
       rcases zip_occ hoc with hoc | hoc
       ·exact hs.goneT e1 d hd (occ_sub hoc)
       ·exact hs.goneT e2 d hd (occ_sub hoc)
      rw [e6] at ho
      rcases zip_occ ho with ho | ho
      ·exact Or.inr (Or.inl (occ_sub ho))
      ·exact Or.inr (Or.inr (occ_sub ho))
    ·exact g5 _ e3 y hy ho
   rcases fin with ho | ho | ho
   ·exact occL_cons.2 (Or.inr (occL_cons.2 (Or.inr ho)))
   ·exact occL_cons.2 (Or.inl ho)
   ·exact occL_cons.2 (Or.inr (occL_cons.2 (Or.inl ho)))
 | @stop s p rest e h1 =>
  intro hs he
  obtain ⟨e1, e2⟩ := err_two.1 he
  obtain ⟨e2, e3⟩ := err_two.1 e2
  refine ⟨⟨hs, abs_refl hs⟩, fun hz => ⟨1, ?_⟩, fun V h _ => h⟩
  rw [uRun, uNext_cons, uPair_of (hz p (by simp)).1 (hz p (by simp)).2, h1]
theorem occ_flat {y : ByteArray} : ∀ {l : List Pr}, occL y (flatP l) → ∃ p ∈ l, occL y [p.l] ∨ occL y [p.r]
 | [], h => absurd h occL_nil
 | p :: r, h => by
  rw [flatP] at h
  rcases occL_cons.1 h with h | h
  ·exact ⟨p, by simp, Or.inl h⟩
  ·rcases occL_cons.1 h with h | h
   ·exact ⟨p, by simp, Or.inr h⟩
   ·obtain ⟨q, hq, h⟩ := occ_flat h
    exact ⟨q, by simp [hq], h⟩
theorem err_flat : ∀ {l : List Pr}, errL (flatP l) = 0 → ∀ p ∈ l, errL [p.l] = 0 ∧ errL [p.r] = 0
 | [], _, p, hp => by cases hp
 | q :: r, h, p, hp => by
  rw [flatP] at h
  obtain ⟨e1, e2⟩ := err_two.1 h
  obtain ⟨e2, e3⟩ := err_two.1 e2
  rcases List.mem_cons.1 hp with rfl | hp
  ·exact ⟨e1, e2⟩
  ·exact err_flat e3 p hp
theorem FR.ends {sf : List Bd} {l : List Pr} {e : Int} (h : FR [] l e sf) (he : errL (flatP l) = 0) (hz : ∀ p ∈ l, sizeL [onT sf p.l] ≤ 2000 ∧ sizeL [onT sf p.r] ≤ 2000) : (∃ n, uRun false n [] l = some (e, sf)) ∧ grtB sf = false := by
 obtain ⟨⟨h1, h2⟩, h3, h4⟩ := h.run okS_nil he
 refine ⟨h3 hz, ?_⟩
 have h5 := h4 ((preL (flatP l)).map (·.name)) (by simp) (fun y hy ho => by
  rw [onL_id _ (by simp)] at ho
  obtain ⟨k, hk, rfl⟩ := ho
  exact List.mem_map.2 ⟨k, hk, rfl⟩)
 unfold grtB
 rw [Bool.eq_false_iff]
 intro hg
 rw [List.any_eq_true] at hg
 obtain ⟨d, hd, hgd⟩ := hg
 simp only [decide_eq_true_eq] at hgd
 obtain ⟨k, hk, ek⟩ := List.mem_map.1 (h5 d hd)
 obtain ⟨p, hp, ho⟩ := occ_flat (y := d.nm) ⟨k, hk, ek⟩
 have hv := h1.vars d hd
 have ed : onT sf ⟨d.nm, []⟩ = d.t := by rw [onT_leaf, forT_of h1.1 hd]; rfl
 obtain ⟨e1, e2⟩ := err_flat he p hp
 have hzz := hz p hp
 rcases ho with ho | ho
 ·have h6 := occ_size h1.vars hv [p.l] e1 ho
  rw [onL_cons, ed] at h6
  simp only [onL] at h6
  omega
 ·have h6 := occ_size h1.vars hv [p.r] e2 ho
  rw [onL_cons, ed] at h6
  simp only [onL] at h6
  omega
end Go.Proofs.YtdebiiodhkcnkaaGreat
