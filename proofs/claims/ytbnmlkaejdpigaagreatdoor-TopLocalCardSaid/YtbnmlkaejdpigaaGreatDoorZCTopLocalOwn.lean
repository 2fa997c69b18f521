/- Several texts in one. -/
import Derived.Test.YtbnmlkaejdpigaaGreatDoorZBTopLocalOwn
import Derived.RangeFuncNested
import Derived.RangeFuncBound
import Derived.RangeFuncCalls
import Derived.RangeFuncLeaves
import Derived.RangeFuncWrites
import Derived.Shelf.Abstract
import Derived.Shelf.RegionOpen
import Derived.OwnWalkIn
import Derived.TacticsInMore
import Derived.LoopNIn
import Derived.LoopIn
import Derived.Test.YtbnmlkaejdpigaaGreatDoorZTopLocalOwn
import Derived.Maps.OwnIn
import Derived.Maps.AppendAt
import Derived.Sort.LoopGhostIn
import Derived.Deep.RegionHeld3
import Derived.Deep.AppendSrc
import Derived.Test.YtbnmlkaejdpigaaGreatDoorRows
import Derived.Deep.RegionHeld
import Derived.Lib.Builder
import Derived.Deep.DeepCutAuto
import Derived.Deep.AppendLies
import Derived.Test.YtbnmlkaejdpigaaGreatDoorShelf
import Derived.Laws.EntriesVeiled
import Derived.Ground.SlgnProg
import Derived.Shelf.SlicesE.Clone
namespace Go.Proofs.YtbnmlkaejdpigaaGreatDoor
open Go.RowKit
set_option linter.unusedSimpArgs false
set_option linter.unusedVariables false
set_option maxRecDepth 8000
theorem inB_occ {x : ByteArray} {t : Tm} (hx : varB x = true) : inB x (varsP [] (preL [t])) = occB x [t] := by
 rw [Bool.eq_iff_iff, occB_iff]
 constructor
 ·intro h
  unfold inB at h
  rw [List.any_eq_true] at h
  obtain ⟨y, hy, e⟩ := h
  have e2 : y = x := bytes_inj (by simpa using e)
  subst e2
  rcases varsP_sub _ _ _ hy with h1 | ⟨k, h1, h2, _⟩
  ·cases h1
  ·exact ⟨k, h1, h2⟩
 ·intro h
  apply Classical.byContradiction
  intro hn
  exact not_inB hx hn h
def WoOut (S q N : Nat) (h : List (ByteArray × Tm)) (cs : List Ec) (ta tb : Tm) (code : Int) (w' : World) : Prop :=
 (code ≠ 0 ∧ ∃ (f' : Bool) (Y' : Nat → Prop) (td' : Value), SolE S q td' h f' Y' w' ∧ (f' = true ∨ ∀ l, uPair false (sAt h) l ta tb = .stop code (sAt h))) ∨
 (code = 0 ∧ sizeL [ta] ≤ 2000 ∧ sizeL [tb] ≤ 2000 ∧ ∃ (h' : List (ByteArray × Tm)) (cs' : List Ec) (new : List Pr), SolT S q N h' cs' w' ∧ cs'.map ecP = cs.map ecP ++ new.reverse.map (fun p => (p, h.length)) ∧ (∀ l, uPair false (sAt h) l ta tb = .go (sAt h') (new ++ l)) ∧
  ((new = [] ∧ h' = h) ∨ (new = [] ∧ ∃ x t, h' = h ++ [(x, t)] ∧ varB x = true ∧ ((x = ta.name ∧ t = tb) ∨ (x = tb.name ∧ t = ta)) ∧ ¬ inB x (varsP [] (preL [t])) = true) ∨ (new = zipP ta.args tb.args ∧ h' = h ∧ ta.args.length = tb.args.length)))
def WoPost (S q N : Nat) (h : List (ByteArray × Tm)) (cs : List Ec) (ta tb : Tm) (td0 : Value) (w : World) (e : Ending) (w' : World) : Prop :=
 ∃ code : Int, e = .returned (.int .i64 code) ∧ ExQ (fun b => b = S ∨ b = q ∨ some b = td0.ownBlock) w w' ∧ WoOut S q N h cs ta tb code w'
theorem wo_bind {S q N : Nat} {h : List (ByteArray × Tm)} {cs : List Ec} {ta tb : Tm} {nm : ByteArray} {t : Tm} {td : Value} {w w3 w4 : World} {X Y' : Nat → Prop} {e : Ending} (hSN : S < N) (hqN : q < N) (hNw : N ≤ w.heap.size) (hR : ERow w N (fun b => b < N ∧ b ≠ S ∧ b ≠ q) td cs) (hY2 : ∀ b, Y' b → some b ≠ td.ownBlock) (hXO : ∀ b, X b → some b ≠ td.ownBlock) (hx3 : ExQ (SolM S q) w w3) (hx4 : ExQ (SolM S q) w3 w4) (hza : sizeL [ta] ≤ 2000) (hzb : sizeL [tb] ≤ 2000)
  (hup : ∀ l, uPair false (sAt h) l ta tb = if nm = t.name then .go (sAt h) l else uBind false (sAt h) l nm t) (hvn : varB nm = true) (hor : (nm = ta.name ∧ t = tb) ∨ (nm = tb.name ∧ t = ta))
  (hc : (t.name = nm ∧ e = .returned (.int .i64 0) ∧ SolE S q td h false Y' w4) ∨ (t.name ≠ nm ∧ occB nm [t] = true ∧ e = .returned (.int .i64 6) ∧ SolE S q td h false Y' w4) ∨ (t.name ≠ nm ∧ occB nm [t] = false ∧ e = .returned (.int .i64 0) ∧ SolE S q td (h ++ [(nm, t)]) false (fun b => Y' b ∨ (X b ∧ b < w3.heap.size)) w4)) :
  ∃ code : Int, e = .returned (.int .i64 code) ∧ ExQ (fun b => b = S ∨ b = q ∨ some b = td.ownBlock) w w4 ∧ WoOut S q N h cs ta tb code w4 := by
 have hx : ExQ (SolM S q) w w4 := hx3.trans hx4
 have hxx : ExQ (fun b => b = S ∨ b = q ∨ some b = td.ownBlock) w w4 := hx.mono fun b hb _ => by
  rcases hb with h1 | h1
  ·exact Or.inl h1
  ·exact Or.inr (Or.inl h1)
 have hR4 : ERow w4 N (fun b => b < N ∧ b ≠ S ∧ b ≠ q) td cs := hR.exq hx (fun b hb => by rcases hb with rfl | rfl; exact hSN; exact hqN) (fun b hb hh => by
  rcases hb with h1 | h1
  ·exact hh.2.1 h1
  ·exact hh.2.2 h1)
 have hN4 : N ≤ w4.heap.size := Nat.le_trans hNw hx.size
 rcases hc with ⟨hn, rfl, hE⟩ | ⟨hn, ho, rfl, hE⟩ | ⟨hn, ho, rfl, hE⟩
 ·exact ⟨0, rfl, hxx, Or.inr ⟨rfl, hza, hzb, h, cs, [], ⟨td, Y', hE, hR4, hY2, hSN, hqN, hN4⟩, by simp, fun l => by rw [hup, if_pos hn.symm]; rfl, Or.inl ⟨rfl, rfl⟩⟩⟩
 ·refine ⟨6, rfl, hxx, Or.inl ⟨by decide, false, Y', td, hE, Or.inr fun l => ?_⟩⟩
  rw [hup, if_neg (fun e => hn e.symm)]
  unfold uBind
  rw [if_pos (by rw [inB_occ hvn]; exact ho)]
 ·refine ⟨0, rfl, hxx, Or.inr ⟨rfl, hza, hzb, h ++ [(nm, t)], cs, [], ⟨td, _, hE, hR4, fun b hb => ?_, hSN, hqN, hN4⟩, by simp, fun l => ?_, Or.inr (Or.inl ⟨rfl, nm, t, rfl, hvn, hor, by rw [inB_occ hvn, ho]; simp⟩)⟩⟩
  ·rcases hb with hb | hb
   ·exact hY2 b hb
   ·exact hXO b hb.1
  ·rw [hup, if_neg (fun e => hn e.symm)]
   unfold uBind
   rw [if_neg (by rw [inB_occ hvn, ho]; simp), if_neg (by simp), sAt_snoc]
   rfl
set_option maxHeartbeats 1000000 in
theorem workOff_any (S q N : Nat) (V : List ByteArray) (h : List (ByteArray × Tm)) (cs : List Ec) (p : Pr) (l : List Pr) (hU : UI V h (p :: l)) (j : Nat) (hj : j ≤ h.length) (hid : j = h.length → (onT (sAt h) p.l = p.l ∧ onT (sAt h) p.r = p.r)) (hsz : cs.length ≤ 900000000) (hV : V.length ≤ 400000) (a1 : Option Addr) (c1 : Nat) (a2 : Option Addr) (c2 : Nat) (w : World) (td : Value) (Y : Nat → Prop) (hE : SolE S q td h false Y w) (hR : ERow w N (fun b => b < N ∧ b ≠ S ∧ b ≠ q) td cs) (hY : ∀ b, Y b → some b ≠ td.ownBlock) (hSN : S < N) (hqN : q < N) (hNw : N ≤ w.heap.size)
  (hs1 : Sl w (fun b => (b < N ∧ b ≠ S ∧ b ≠ q) ∨ (N ≤ b ∧ some b ≠ td.ownBlock)) a1 p.l.args) (hs2 : Sl w (fun b => (b < N ∧ b ≠ S ∧ b ≠ q) ∨ (N ≤ b ∧ some b ≠ td.ownBlock)) a2 p.r.args) :
  Calls Tryz.prog 85 #[.pointer (some ⟨S, 0, none⟩), .agg #[.string p.l.name, .slice a1 p.l.args.length c1, .string p.r.name, .slice a2 p.r.args.length c2, .int .i64 (j : Int)]] w fun e w' => WoPost S q N h cs (onT (sAt h) p.l) (onT (sAt h) p.r) td w e w' := by
 have HE := hide hE
 have HR := hide hR
 have HY := hide hY
 have HS1 := hide hs1
 have HS2 := hide hs2
 have HU := hide hU
 have HID := hide hid
 have hSl : S < w.heap.size := by omega
 clear hE hR hY hs1 hs2 hU hid
 obtain ⟨ta, hta⟩ : ∃ ta, onT (sAt h) p.l = ta := ⟨_, rfl⟩
 obtain ⟨tb, htb⟩ : ∃ tb, onT (sAt h) p.r = tb := ⟨_, rfl⟩
 have HTA := hide hta
 have HTB := hide htb
 rw [hta, htb]
 clear hta htb
 have HB1 : Hid (Below w.heap.size w (w.alloc (.cells #[.string p.l.name, .slice a1 p.l.args.length c1, .string p.r.name, .slice a2 p.r.args.length c2, .int .i64 (j : Int)] 133))) := (Below.refl _ _).alloc (Nat.le_refl _) _
 have hz1 : (w.alloc (.cells #[.string p.l.name, .slice a1 p.l.args.length c1, .string p.r.name, .slice a2 p.r.args.length c2, .int .i64 (j : Int)] 133)).heap.size = w.heap.size + 1 := by simp
 go_enter Tryz.func85, Tryz.ntmps85
 go_wp2_with fail
 generalize (w.alloc (.cells #[.string p.l.name, .slice a1 p.l.args.length c1, .string p.r.name, .slice a2 p.r.args.length c2, .int .i64 (j : Int)] 133)) = w1 at *
 have PT := put_any2 S q td h HU.out.good HU.out.names p HU.out.head j hj HID.out (HU.out.size p (by simp)) a1 c1 a2 c2 w1 _ Y (fun b hb hm => by
  rcases hb with hb | hb
  ·rcases hm with e | e
   ·exact hb.2.1 e
   ·exact hb.2.2 e
  ·rcases hm with e | e <;> omega) (HS1.out.later HB1.out) (HS2.out.later HB1.out) ((solE_ok S q td h).below HE.out HB1.out)
 rw [HTA.out, HTB.out] at PT
 refine PT.mono ?_
 clear PT
 rintro e w2 ⟨s1, y1, n1, k1, s2, y2, n2, k2, ok, f', Y', rfl, hE2, hsub, hx, hc⟩
 have HX2 : Hid (ExQ (SolM S q) w w2) := (ExQ.ofBelow HB1.out).trans hx
 have HE2 := hide hE2
 have HY2 : Hid (∀ b, Y' b → some b ≠ td.ownBlock) := fun b hb e => by
  rcases hsub b hb with h1 | h1
  ·exact HY.out b h1 e
  ·have := (HR.out.own.lt b e.symm).2; omega
 have hz2 : w.heap.size + 1 ≤ w2.heap.size := by have := hx.size; omega
 have HC := hide hc
 clear hE2 hsub hx hc
 have hB3 : Below w2.heap.size w2 ((w2.alloc (.cells #[.string s1, .slice y1 n1 k1] 32)).alloc (.cells #[.string s2, .slice y2 n2 k2] 32)) := below2 _ _
 have HB3 := hide hB3
 have A3 : Hid (Blk ((w2.alloc (.cells #[.string s1, .slice y1 n1 k1] 32)).alloc (.cells #[.string s2, .slice y2 n2 k2] 32)) w2.heap.size #[.string s1, .slice y1 n1 k1] 32) := (Blk.new w2 _ _).alloc _
 have B3 : Hid (Blk ((w2.alloc (.cells #[.string s1, .slice y1 n1 k1] 32)).alloc (.cells #[.string s2, .slice y2 n2 k2] 32)) (w2.heap.size + 1) #[.string s2, .slice y2 n2 k2] 32) := by
  have h1 := Blk.new (w2.alloc (.cells #[.string s1, .slice y1 n1 k1] 32)) #[.string s2, .slice y2 n2 k2] 32
  rw [World.size_alloc] at h1
  exact h1
 have hz3 : ((w2.alloc (.cells #[.string s1, .slice y1 n1 k1] 32)).alloc (.cells #[.string s2, .slice y2 n2 k2] 32)).heap.size = w2.heap.size + 2 := by simp
 have HE3 := hide ((solE_ok S q td h).below HE2.out hB3)
 have HX3 : Hid (ExQ (SolM S q) w ((w2.alloc (.cells #[.string s1, .slice y1 n1 k1] 32)).alloc (.cells #[.string s2, .slice y2 n2 k2] 32))) := HX2.out.trans (ExQ.ofBelow hB3)
 clear hB3
 rcases HC.out with ⟨rfl, rfl, rfl, rfl, rfl, rfl, hza, hzb, hsa, hsb⟩ | ⟨rfl, hbad⟩
 ·have memZ : ∀ (a : Option Addr) (l : List Tm), Sl w2 (fun b => (((b < N ∧ b ≠ S ∧ b ≠ q) ∨ (N ≤ b ∧ some b ≠ td.ownBlock)) ∧ b < w1.heap.size) ∨ w1.heap.size ≤ b) a l → Sl w2 (fun b => (b < N ∧ b ≠ S ∧ b ≠ q) ∨ (N ≤ b ∧ some b ≠ td.ownBlock)) a l := fun a l hsl => hsl.mono fun b hb _ => by
   rcases hb with hb | hb
   ·exact hb.1
   ·refine Or.inr ⟨by omega, fun e => ?_⟩
    have := (HR.out.own.lt b e.symm).2; omega
  have HSA := hide ((memZ _ _ hsa).later HB3.out)
  have HSB := hide ((memZ _ _ hsb).later HB3.out)
  have HXM : Hid (∀ b, ((b < N ∧ b ≠ S ∧ b ≠ q) ∨ (N ≤ b ∧ some b ≠ td.ownBlock)) → ¬ SolM S q b) := fun b hb hm => by
   rcases hb with hb | hb
   ·rcases hm with e | e
    ·exact hb.2.1 e
    ·exact hb.2.2 e
   ·rcases hm with e | e <;> omega
  have HXO : Hid (∀ b, ((b < N ∧ b ≠ S ∧ b ≠ q) ∨ (N ≤ b ∧ some b ≠ td.ownBlock)) → some b ≠ td.ownBlock) := fun b hb => by
   rcases hb with hb | hb
   ·exact HR.out.ne hb.1
   ·exact hb.2
  have HZA := hide hza
  have HZB := hide hzb
  have a0 : ((w2.alloc (.cells #[.string ta.name, .slice y1 ta.args.length k1] 32)).alloc (.cells #[.string tb.name, .slice y2 tb.args.length k2] 32)).cell? ⟨w2.heap.size, 0, none⟩ = some (.string ta.name) := A3.out.cell 0
  have a1' : ((w2.alloc (.cells #[.string ta.name, .slice y1 ta.args.length k1] 32)).alloc (.cells #[.string tb.name, .slice y2 tb.args.length k2] 32)).cell? ⟨w2.heap.size, 1, none⟩ = some (.slice y1 ta.args.length k1) := A3.out.cell 1
  have b0 : ((w2.alloc (.cells #[.string ta.name, .slice y1 ta.args.length k1] 32)).alloc (.cells #[.string tb.name, .slice y2 tb.args.length k2] 32)).cell? ⟨w2.heap.size + 1, 0, none⟩ = some (.string tb.name) := B3.out.cell 0
  have b1' : ((w2.alloc (.cells #[.string ta.name, .slice y1 ta.args.length k1] 32)).alloc (.cells #[.string tb.name, .slice y2 tb.args.length k2] 32)).cell? ⟨w2.heap.size + 1, 1, none⟩ = some (.slice y2 tb.args.length k2) := B3.out.cell 1
  clear memZ hsa hsb hza hzb HC
  cases hva : varB ta.name with
  | true =>
   have HVA := hide hva
   have MAY : Hid (tb.name ≠ ta.name → occB ta.name [tb] = false → MayAdd (sAt h) ta.name tb) := fun _ ho => (HU.out.bindV HVA.out (Or.inl ⟨by rw [HTA.out], by rw [HTB.out]⟩) (by rw [inB_occ HVA.out, ho]; simp)).1
   clear hva
   go_wp2_with (go_at_call 36; refine (isVariable_all _ _).mono ?_; rintro e w' ⟨rfl, rfl⟩; rw [HVA.out])
   generalize ((w2.alloc (.cells #[.string ta.name, .slice y1 ta.args.length k1] 32)).alloc (.cells #[.string tb.name, .slice y2 tb.args.length k2] 32)) = w3 at *
   refine (bind_any2 S q td h HU.out.good ta.name tb MAY.out y2 k2 w3 _ Y' HXM.out HSB.out HE3.out).mono ?_
   rintro e w4 ⟨hx4, hc4⟩
   have HO := hide (wo_bind (ta := ta) (tb := tb) (cs := cs) hSN hqN hNw HR.out HY2.out HXO.out HX3.out hx4 HZA.out HZB.out (fun l => by unfold uPair; rw [if_neg (by have := HZA.out; have := HZB.out; omega), if_pos HVA.out]) HVA.out (Or.inl ⟨rfl, rfl⟩) hc4)
   obtain ⟨code, rfl, hout⟩ := HO.out
   clear hc4
   have HX4 := hide hx4
   have HOUT := hide hout
   clear hx4 hout HO
   go_wp2_with fail
   go_ret
   exact ⟨code, rfl, HOUT.out⟩
  | false =>
   have HVA := hide hva
   clear hva
   cases hvb : varB tb.name with
   | true =>
    have HVB := hide hvb
    have MAY : Hid (ta.name ≠ tb.name → occB tb.name [ta] = false → MayAdd (sAt h) tb.name ta) := fun _ ho => (HU.out.bindV HVB.out (Or.inr ⟨by rw [HTB.out], by rw [HTA.out]⟩) (by rw [inB_occ HVB.out, ho]; simp)).1
    have HNE : Hid (tb.name ≠ ta.name) := fun e => by
     have h1 := HVA.out
     have h2 := HVB.out
     rw [e, h1] at h2; cases h2
    clear hvb
    go_wp2_with (go_at_call 36; refine (isVariable_all _ _).mono ?_; rintro e w' ⟨rfl, rfl⟩; (first | rw [HVA.out] | rw [HVB.out]))
    generalize ((w2.alloc (.cells #[.string ta.name, .slice y1 ta.args.length k1] 32)).alloc (.cells #[.string tb.name, .slice y2 tb.args.length k2] 32)) = w3 at *
    refine (bind_any2 S q td h HU.out.good tb.name ta MAY.out y1 k1 w3 _ Y' HXM.out HSA.out HE3.out).mono ?_
    rintro e w4 ⟨hx4, hc4⟩
    have HO := hide (wo_bind (ta := ta) (tb := tb) (cs := cs) hSN hqN hNw HR.out HY2.out HXO.out HX3.out hx4 HZA.out HZB.out (fun l => by unfold uPair; rw [if_neg (by have := HZA.out; have := HZB.out; omega), if_neg (by rw [HVA.out]; simp), if_pos HVB.out, if_neg HNE.out]) HVB.out (Or.inr ⟨rfl, rfl⟩) hc4)
    obtain ⟨code, rfl, hout⟩ := HO.out
    clear hc4
    have HOUT := hide hout
    clear hx4 hout HO
    go_wp2_with fail
    go_ret
    exact ⟨code, rfl, HOUT.out⟩
   | false =>
    have HVB := hide hvb
    clear hvb
    have HXX : Hid (ExQ (fun b => b = S ∨ b = q ∨ some b = td.ownBlock) w ((w2.alloc (.cells #[.string ta.name, .slice y1 ta.args.length k1] 32)).alloc (.cells #[.string tb.name, .slice y2 tb.args.length k2] 32))) := HX3.out.mono fun b hb _ => by
     rcases hb with h1 | h1
     ·exact Or.inl h1
     ·exact Or.inr (Or.inl h1)
    have HUP : Hid (∀ l, uPair false (sAt h) l ta tb = if ta.name = tb.name ∧ ta.args.length = tb.args.length then .go (sAt h) (zipP ta.args tb.args ++ l) else .stop 5 (sAt h)) := fun l => by
     unfold uPair
     rw [if_neg (by have := HZA.out; have := HZB.out; omega), if_neg (by rw [HVA.out]; simp), if_neg (by rw [HVB.out]; simp)]
    by_cases hnn : ta.name = tb.name
    ·have hnb := bytes_yes hnn
     by_cases hll : ta.args.length = tb.args.length
     ·have HLL := hide hll
      have HNN := hide hnn
      have hla : ta.args.length ≤ 2000 := by
       have h1 := sizeL_len ta.args
       have h2 := size_sub ta
       have h3 := HZA.out
       omega
      have hhl : h.length ≤ 1000000000 := by have := HU.out.hlen; omega
      rw [hll] at HE3 HX3 HXX HSA HSB
      clear hnn A3 B3 HB3 a0 a1' b0 b1' hz3
      have A3 : Hid (Blk ((w2.alloc (.cells #[.string ta.name, .slice y1 tb.args.length k1] 32)).alloc (.cells #[.string tb.name, .slice y2 tb.args.length k2] 32)) w2.heap.size #[.string ta.name, .slice y1 tb.args.length k1] 32) := (Blk.new w2 _ _).alloc _
      have B3 : Hid (Blk ((w2.alloc (.cells #[.string ta.name, .slice y1 tb.args.length k1] 32)).alloc (.cells #[.string tb.name, .slice y2 tb.args.length k2] 32)) (w2.heap.size + 1) #[.string tb.name, .slice y2 tb.args.length k2] 32) := by
       have h1 := Blk.new (w2.alloc (.cells #[.string ta.name, .slice y1 tb.args.length k1] 32)) #[.string tb.name, .slice y2 tb.args.length k2] 32
       rw [World.size_alloc] at h1
       exact h1
      have a0 : ((w2.alloc (.cells #[.string ta.name, .slice y1 tb.args.length k1] 32)).alloc (.cells #[.string tb.name, .slice y2 tb.args.length k2] 32)).cell? ⟨w2.heap.size, 0, none⟩ = some (.string ta.name) := A3.out.cell 0
      have a1' : ((w2.alloc (.cells #[.string ta.name, .slice y1 tb.args.length k1] 32)).alloc (.cells #[.string tb.name, .slice y2 tb.args.length k2] 32)).cell? ⟨w2.heap.size, 1, none⟩ = some (.slice y1 tb.args.length k1) := A3.out.cell 1
      have b0 : ((w2.alloc (.cells #[.string ta.name, .slice y1 tb.args.length k1] 32)).alloc (.cells #[.string tb.name, .slice y2 tb.args.length k2] 32)).cell? ⟨w2.heap.size + 1, 0, none⟩ = some (.string tb.name) := B3.out.cell 0
      have b1' : ((w2.alloc (.cells #[.string ta.name, .slice y1 tb.args.length k1] 32)).alloc (.cells #[.string tb.name, .slice y2 tb.args.length k2] 32)).cell? ⟨w2.heap.size + 1, 1, none⟩ = some (.slice y2 tb.args.length k2) := B3.out.cell 1
      go_wp2_with (go_at_call 36; refine (isVariable_all _ _).mono ?_; rintro e w' ⟨rfl, rfl⟩; (first | rw [HVA.out] | rw [HVB.out]))
      generalize ((w2.alloc (.cells #[.string ta.name, .slice y1 tb.args.length k1] 32)).alloc (.cells #[.string tb.name, .slice y2 tb.args.length k2] 32)) = w3 at *
      have hR3 : ERow w3 N (fun b => b < N ∧ b ≠ S ∧ b ≠ q) td cs := HR.out.exq HX3.out (fun b hb => by rcases hb with rfl | rfl; exact hSN; exact hqN) (fun b hb hh => by
       rcases hb with h1 | h1
       ·exact hh.2.1 h1
       ·exact hh.2.2 h1)
      have AH := ahead_any S q N h cs ta.args tb.args hll (by omega) hhl y1 y2 k1 k2 w3 td Y' HE3.out hR3 HY2.out hSN hqN (Nat.le_trans hNw HX3.out.size) HSA.out HSB.out
      rw [hll] at AH
      refine AH.mono ?_
      clear AH
      rintro e w4 ⟨rfl, cs', hT, hC, hx4⟩
      have HT := hide hT
      have HCC := hide hC
      have HX4 : Hid (ExQ (fun b => b = S ∨ b = q ∨ some b = td.ownBlock) w w4) := HXX.out.trans (hx4.mono fun b hb _ => hb.imp id Or.inr)
      clear hT hC hx4 hR3
      go_wp2_with fail
      go_ret
      exact ⟨0, rfl, HX4.out, Or.inr ⟨rfl, HZA.out, HZB.out, h, cs', zipP ta.args tb.args, HT.out, HCC.out, fun l => by rw [HUP.out, if_pos ⟨HNN.out, HLL.out⟩], Or.inr (Or.inr ⟨rfl, rfl, HLL.out⟩)⟩⟩
     ·have hlb : ((ta.args.length : Int) == (tb.args.length : Int)) = false := beq_eq_false_iff_ne.2 (by omega)
      have HNG : Hid (¬ (ta.name = tb.name ∧ ta.args.length = tb.args.length)) := fun hh => hll hh.2
      clear hll hnn
      go_wp2_with (go_at_call 36; refine (isVariable_all _ _).mono ?_; rintro e w' ⟨rfl, rfl⟩; (first | rw [HVA.out] | rw [HVB.out]))
      go_ret
      exact ⟨5, rfl, HXX.out, Or.inl ⟨by decide, false, Y', td, HE3.out, Or.inr fun l => by rw [HUP.out, if_neg HNG.out]⟩⟩
    ·have hnb := bytes_no hnn
     have HNG : Hid (¬ (ta.name = tb.name ∧ ta.args.length = tb.args.length)) := fun hh => hnn hh.1
     clear hnn
     go_wp2_with (go_at_call 36; refine (isVariable_all _ _).mono ?_; rintro e w' ⟨rfl, rfl⟩; (first | rw [HVA.out] | rw [HVB.out]))
     go_ret
     exact ⟨5, rfl, HXX.out, Or.inl ⟨by decide, false, Y', td, HE3.out, Or.inr fun l => by rw [HUP.out, if_neg HNG.out]⟩⟩
 ·have HBAD := hide hbad
  clear hbad HC
  go_wp2_with fail
  go_ret
  refine ⟨8, rfl, HX3.out.mono fun b hb _ => ?_, Or.inl ⟨by decide, f', Y', td, HE3.out, ?_⟩⟩
  ·rcases hb with h1 | h1
   ·exact Or.inl h1
   ·exact Or.inr (Or.inl h1)
  ·rcases HBAD.out with h1 | h1
   ·exact Or.inl h1
   ·exact Or.inr fun l => by unfold uPair; rw [if_pos h1]
open Go.RowKit Go.Shelf
attribute [local go_sem] Oper.semAt_some
set_option maxHeartbeats 1000000 in
theorem backward_in (F : Fence) (n : Nat) (hf : F.fn 84) (hro : F.round = none) (v : Value) (w : World) (hv : ∃ a k c, v = .slice a k c) :
  CallsIn F n Tryz.prog 84 #[v] w fun e w' => e = .returned (.func (.func 101) #[] #[.pointer (some ⟨w.heap.size, 0, none⟩)]) ∧ w' = w.alloc (.cells #[v] 22) := by
 obtain ⟨a, k, c, rfl⟩ := hv
 refine callsIn_of_wp Tryz.func84 rfl hf ?_ hro
 simp only [Tryz.ntmps84, List.size_toArray, List.length_cons, List.length_nil, Nat.reduceAdd, Nat.reduceSub, Array.replicate_succ, Array.replicate_zero, List.push_toArray, List.append_toArray, List.nil_append, List.cons_append]
 gi_wp2
 go_ret
 exact ⟨rfl, rfl⟩
abbrev Yx := Int × Pc
def encY (x : Yx) : Array Value := #[.int .i64 x.1, .agg #[.string x.2.1.l.name, .slice x.2.2.1.1 x.2.1.l.args.length x.2.2.1.2, .string x.2.1.r.name, .slice x.2.2.2.1 x.2.1.r.args.length x.2.2.2.2]]
def backA {P : Yx → Prop} (xs : List Pc) (hP : ∀ k (h : k < xs.length), P ((k : Int), xs[k])) : (k : Nat) → k ≤ xs.length → List { x : Yx // P x }
 | 0, _ => []
 | k + 1, h => ⟨((k : Int), xs[k]), hP k h⟩ :: backA xs hP k (Nat.le_of_succ_le h)
theorem backA_len {P : Yx → Prop} {xs : List Pc} {hP : ∀ k (h : k < xs.length), P ((k : Int), xs[k])} : ∀ k (h : k ≤ xs.length), (backA xs hP k h).length = k
 | 0, _ => rfl
 | k + 1, h => by rw [backA, List.length_cons, backA_len k]
theorem backA_map {P : Yx → Prop} {xs : List Pc} {hP : ∀ k (h : k < xs.length), P ((k : Int), xs[k])} : ∀ k (h : k ≤ xs.length), (backA xs hP k h).map (fun x => x.1.2.1) = ((xs.take k).map (·.1)).reverse
 | 0, _ => by simp [backA]
 | k + 1, h => by
  rw [backA, List.map_cons, backA_map k, List.take_succ_eq_append_getElem (by omega), List.map_append, List.reverse_append]
  rfl
def PcAt (w : World) (b o : Nat) (xs : List Pc) : Prop := ∀ j u, (flat4 xs)[j]? = some u → w.cell? ⟨b, o + j, none⟩ = some u
set_option maxHeartbeats 1000000 in
theorem back1_in (F : Fence) (n : Nat) (h6 : F.fn 101) (hro : F.round = none) (hn : 1 ≤ n) {P : Yx → Prop} {Kp : World → World → Prop} (hKr : ∀ A, Kp A A) (hKt : ∀ {A B C : World}, Kp A B → Kp B C → Kp A C) (l Bn b o c : Nat) (hKc : ∀ {A B : World}, Kp A B → B.heap[b]? = A.heap[b]? ∧ B.heap[Bn]? = A.heap[Bn]?) (a : Option Addr) (xs : List Pc) (hP : ∀ k (h : k < xs.length), P ((k : Int), xs[k])) (ha : xs = [] ∨ a = some ⟨b, o, none⟩) (hxl : xs.length ≤ 1000000) (J Jx : List { x : Yx // P x } → World → Prop)
  (hY : ∀ pre x W, J pre W → pre.length < xs.length → YieldAt F (n - 1) Tryz.prog l (encY x.1) W fun e W' =>
   (e = .returned (.bool true) ∧ J (pre ++ [x]) W' ∧ Kp W W') ∨ (e = .returned (.bool false) ∧ Jx (pre ++ [x]) W'))
  (W : World) (hBn : W.cell? ⟨Bn, 0, none⟩ = some (.slice a xs.length c)) (hL : PcAt W b o xs) (h0 : J [] W) :
  CallsIn F n Tryz.prog 101 #[.func (.yield l) #[] #[], .pointer (some ⟨Bn, 0, none⟩)] W fun e W' => (∃ v, e = .returned v) ∧
   ((∃ ys, ys = backA xs hP xs.length (Nat.le_refl _) ∧ J ys W') ∨ (∃ pre, pre <+: backA xs hP xs.length (Nat.le_refl _) ∧ Jx pre W')) := by
 refine callsIn_of_wp Tryz.func101 rfl h6 ?_ hro
 simp only [Tryz.ntmps101, List.size_toArray, List.length_cons, List.length_nil, Nat.reduceAdd, Nat.reduceSub, Array.replicate_succ, Array.replicate_zero, List.push_toArray, List.append_toArray, List.nil_append, List.cons_append]
 gi_wp2
 gi_loopw [3] (fun i wr => ∃ (k : Nat) (hk : k ≤ xs.length), i = .int .i64 ((k : Int) - 1) ∧ Kp W wr ∧ ∃ pre, backA xs hP xs.length (Nat.le_refl _) = pre ++ backA xs hP k hk ∧ J pre wr) (fun i wr => (intOf i + 1).toNat)
 case atStart => exact ⟨xs.length, Nat.le_refl _, by go_num, hKr _, [], rfl, h0⟩
 case round =>
  obtain ⟨k, hk, rfl, hb, pre, hpre, hJ⟩ := hrel
  cases k with
  | zero =>
   gi_wp2
   go_end0
   exact ⟨⟨_, rfl⟩, .inl ⟨pre, by rw [hpre]; simp [backA], hJ⟩⟩
  | succ k =>
   have hkk : ((k + 1 : Nat) : Int) - 1 = k := by omega
   rw [hkk]
   obtain rfl : a = some ⟨b, o, none⟩ := ha.resolve_left (fun e => by rw [e] at hk; simp at hk)
   rw [backA] at hpre
   have hpl : pre.length < xs.length := by
    have h1 := congrArg List.length hpre
    rw [backA_len] at h1
    simp at h1
    omega
   have cc : ∀ j u, (enc4 xs[k])[j]? = some u → j < 4 → wr.cell? ⟨b, o + k * 4 + j, none⟩ = some u := fun j u hu hj => by
    rw [World.cell?_of_block (hKc hb).1, Nat.add_assoc]
    exact hL _ _ (by rw [flat4_get xs k (by omega) j hj]; exact hu)
   have c0 := cc 0 _ rfl (by decide)
   have c1 := cc 1 _ rfl (by decide)
   have c2 := cc 2 _ rfl (by decide)
   have c3 := cc 3 _ rfl (by decide)
   simp only [Nat.add_zero] at c0
   have hBr : wr.cell? ⟨Bn, 0, none⟩ = some (.slice (some ⟨b, o, none⟩) xs.length c) := by rw [World.cell?_of_block (hKc hb).2]; exact hBn
   have hkl : (k : Int) < (xs.length : Int) := by omega
   have hPk := hP k (by omega)
   obtain ⟨fn, tmps, assign, body, hy, hR⟩ := hY pre ⟨((k : Int), xs[k]), hPk⟩ wr hJ hpl
   have HP := hide hpre
   dsimp only [encY] at hy hR
   obtain ⟨x, hx⟩ : ∃ x, xs[k] = x := ⟨_, rfl⟩
   have HXK := hide hx
   simp only [hx] at c0 c1 c2 c3 hy
   clear cc hpre hL hBn hx
   gi_wp2
   refine hR.mono ?_
   rintro e W3 (⟨rfl, hJ3, hk3⟩ | ⟨rfl, hJx3⟩)
   ·gi_wp2
    go_roundw
    case rel => exact ⟨k, by omega, by go_num, hKt hb hk3, pre ++ [⟨((k : Int), xs[k]), hPk⟩], by rw [HP.out]; simp, hJ3⟩
    case measure => simp [intOf]
   ·gi_wp2
    refine bodyPost_ret (results_none rfl _ _ _) rfl ?_
    exact ⟨⟨_, rfl⟩, .inr ⟨pre ++ [⟨((k : Int), xs[k]), hPk⟩], ⟨backA xs hP k (by omega), by rw [HP.out]; simp⟩, hJx3⟩⟩
theorem back_stops (F : Fence) (n : Nat) (h6 : F.fn 101) (hro : F.round = none) (hn : 1 ≤ n) {P : Yx → Prop} {Kp : World → World → Prop} (hKr : ∀ A, Kp A A) (hKt : ∀ {A B C : World}, Kp A B → Kp B C → Kp A C) (Bn b o c : Nat) (hKc : ∀ {A B : World}, Kp A B → B.heap[b]? = A.heap[b]? ∧ B.heap[Bn]? = A.heap[Bn]?) (a : Option Addr) (xs : List Pc) (hP : ∀ k (h : k < xs.length), P ((k : Int), xs[k])) (ha : xs = [] ∨ a = some ⟨b, o, none⟩) (hxl : xs.length ≤ 1000000) (w : World) (hbn : b < w.heap.size) (hBn0 : Bn < w.heap.size) (hBn : w.cell? ⟨Bn, 0, none⟩ = some (.slice a xs.length c)) (hL : PcAt w b o xs) :
  SeqStopsK F n Tryz.prog 101 #[.pointer (some ⟨Bn, 0, none⟩)] (fun x : { x : Yx // P x } => encY x.1) Kp (fun ys => ys = backA xs hP xs.length (Nat.le_refl _)) (fun pre => pre <+: backA xs hP xs.length (Nat.le_refl _)) xs.length w := fun l J Jx W hW _ _ hY h0 =>
 back1_in F n h6 hro hn hKr hKt l Bn b o c hKc a xs hP ha hxl J Jx hY W ((hW.cell (p := ⟨Bn, 0, none⟩) hBn0).trans hBn) (fun j u hj => (hW.cell (p := ⟨b, o + j, none⟩) hbn).trans (hL j u hj)) h0
attribute [local go_sem] Oper.semAt_some
def OldY (w : World) (x : Yx) : Prop := Sl w (fun b => b < w.heap.size) x.2.2.1.1 x.2.1.l.args ∧ Sl w (fun b => b < w.heap.size) x.2.2.2.1 x.2.1.r.args
def LyI (w : World) (pre : List { x : Yx // OldY w x }) (W : World) : Prop :=
 ∃ (td : Value) (cs : List Ec), Blk W (w.heap.size + 1) #[td, .map (some w.heap.size), .bool false] 128 ∧ MapAt W w.heap.size [] ∧ W.ownsRow (w.heap.size + 3) 133 5 td cs.length (flat5 cs) ∧ (∀ x ∈ cs, Sl W (fun b => b < w.heap.size) x.1.2.1.1 x.1.1.l.args ∧ Sl W (fun b => b < w.heap.size) x.1.2.2.1 x.1.1.r.args) ∧ cs.map ecP = pre.map (fun x => (x.1.2.1, 0)) ∧ Below w.heap.size w W ∧ w.heap.size + 3 ≤ W.heap.size
theorem lyI_own (w : World) : OwnFrom (w.heap.size + 3) (LyI w) := by
 intro pre W W' row hI hg hr
 obtain ⟨td, cs, h1, h2, h3, h4, h5, h6, h7⟩ := hI
 have hgs := hg.size
 have hne : ∀ b, b < w.heap.size + 3 → some b ≠ row := fun b hb e => by have := (hr b e.symm).1; omega
 refine ⟨td, cs, h1.grown hg (hne _ (by omega)), h2.kept (hg.block _ (by omega) (hne _ (by omega))), ownsRow_at h3 fun g hg1 => ?_, fun x hx => ⟨(h4 x hx).1.kept fun b hb => hg.block b (by omega) (hne b (by omega)), (h4 x hx).2.kept fun b hb => hg.block b (by omega) (hne b (by omega))⟩, h5, ?_, by omega⟩
 ·refine hg.block g (h3.lt g hg1).2 fun e => ?_
  obtain ⟨_, o, ho, hc⟩ := hr g e.symm
  rcases h3.2 with ⟨hv, _⟩ | ⟨g', cap, cur, hv, _, hh, _⟩
  ·rw [hv] at hg1; simp [Value.ownBlock] at hg1
  ·rw [hv] at hg1
   have e2 : g' = g := by simpa [Value.ownBlock] using hg1
   subst e2
   rw [ho] at hh
   cases hh
   simp [Obj.isCells] at hc
 ·exact ⟨hg.os.trans h6.os, hg.tape.trans h6.tape, hg.output.trans h6.output, by have := h6.size; omega, fun b hb => (hg.block b (by omega) (hne b (by omega))).trans (h6.block b hb)⟩
theorem owns_shape {w : World} {N e s n : Nat} {v : Value} {xs : List Value} (h : w.ownsRow N e s v (n + 1) xs) : ∃ g cap, v = .slice (some ⟨g, 0, none⟩) (n + 1) cap := by
 rcases h.2 with h1 | ⟨g, cap, cur, hv, _⟩
 ·exact absurd h1.2 (by omega)
 ·exact ⟨g, cap, hv⟩
def LyK (w : World) (A B : World) : Prop := ExQ (fun b => b = w.heap.size + 1 ∨ w.heap.size + 3 ≤ b) A B ∧ ∀ k, k < w.heap.size + 3 → k ≠ w.heap.size + 1 → B.heap[k]? = A.heap[k]?
theorem LyK.refl (w A : World) : LyK w A A := ⟨ExQ.refl _ _, fun _ _ _ => rfl⟩
theorem LyK.trans {w A B C : World} (h : LyK w A B) (k : LyK w B C) : LyK w A C := ⟨h.1.trans k.1, fun i h1 h2 => (k.2 i h1 h2).trans (h.2 i h1 h2)⟩
theorem lyK_c {w A B : World} {b : Nat} (hb : b ≤ w.heap.size) (h : LyK w A B) : B.heap[b]? = A.heap[b]? ∧ B.heap[w.heap.size + 1 + 1]? = A.heap[w.heap.size + 1 + 1]? :=
 ⟨h.2 b (by omega) (by omega), h.2 _ (by omega) (by omega)⟩
theorem lyK_b {w W : World} {l : Nat} {o' : Obj} (hl : w.heap.size + 3 ≤ l) : LyK w W (W.putObj l o') :=
 ⟨⟨rfl, rfl, rfl, by simp, fun k _ hn => World.putObj_heap_other (fun e => hn (Or.inr (by omega)))⟩, fun k h1 h2 => World.putObj_heap_other (by omega)⟩
theorem lyI_step {w W w3 : World} {pre : List { x : Yx // OldY w x }} {x : { x : Yx // OldY w x }} {td v' : Value} {cs : List Ec} {o : Obj} (i1 : Blk W (w.heap.size + 1) #[td, .map (some w.heap.size), .bool false] 128) (i2 : MapAt W w.heap.size []) (i3 : W.ownsRow (w.heap.size + 3) 133 5 td cs.length (flat5 cs)) (i4 : ∀ x ∈ cs, Sl W (fun b => b < w.heap.size) x.1.2.1.1 x.1.1.l.args ∧ Sl W (fun b => b < w.heap.size) x.1.2.2.1 x.1.1.r.args) (i5 : cs.map ecP = pre.map (fun x => (x.1.2.1, 0))) (i6 : Below w.heap.size w W) (i7 : w.heap.size + 3 ≤ W.heap.size)
  (ho : w3.ownsRow (w.heap.size + 3) 133 5 v' (cs.length + 1) (flat5 cs ++ enc5 (x.1.2, 0))) (hg : (W.alloc o).grownBy w3 td.ownBlock) :
  KeepsFrom (w.heap.size + 3) W (w3.setCell ⟨w.heap.size + 1, 0, none⟩ v') ∧ LyK w W (w3.setCell ⟨w.heap.size + 1, 0, none⟩ v') ∧ LyI w (pre ++ [x]) (w3.setCell ⟨w.heap.size + 1, 0, none⟩ v') := by
 have hgs := hg.size
 simp at hgs
 have hne : ∀ b, b < w.heap.size + 3 → some b ≠ td.ownBlock := fun b hb e => by have := (i3.lt b e.symm).1; omega
 have h3 : ∀ k, k < W.heap.size → some k ≠ td.ownBlock → w3.heap[k]? = W.heap[k]? := fun k h1 h2 => (hg.block k (by simp; omega) h2).trans (Below.heap_alloc _ _ _ h1)
 have h4 : ∀ k, k ≠ w.heap.size + 1 → (w3.setCell ⟨w.heap.size + 1, 0, none⟩ v').heap[k]? = w3.heap[k]? := fun k hk => Below.heap_setCell _ _ _ _ (by simpa using hk)
 have hz : (w3.setCell ⟨w.heap.size + 1, 0, none⟩ v').heap.size = w3.heap.size := by simp [World.setCell]
 refine ⟨⟨by omega, fun k ob hk hh hc => ?_⟩, ⟨⟨?_, ?_, ?_, by omega, fun k h1 h2 => ?_⟩, fun k h1 h2 => (h4 k h2).trans (h3 k (by omega) (hne k h1))⟩, ?_⟩
 ·have hkl : k < W.heap.size := (Array.getElem?_eq_some_iff.1 hh).1
  rw [h4 k (by omega), h3 k hkl fun e => ?_, hh]
  rcases i3.2 with ⟨hv, _⟩ | ⟨g', cap, cur, hv, _, hh2, _⟩
  ·rw [hv] at e; simp [Value.ownBlock] at e
  ·rw [hv] at e
   have e2 : k = g' := by simpa [Value.ownBlock] using e
   subst e2
   rw [hh] at hh2
   cases hh2
   simp [Obj.isCells] at hc
 ·exact hg.os
 ·exact hg.tape
 ·exact hg.output
 ·have hk1 : k < w.heap.size + 3 := by
   apply Classical.byContradiction
   intro hn
   exact h2 (Or.inr (by omega))
  exact (h4 k (fun e => h2 (Or.inl e))).trans (h3 k h1 (hne k hk1))
 ·refine ⟨v', cs ++ [(x.1.2, 0)], ?_, i2.kept ((h4 _ (by omega)).trans (h3 _ (by omega) (hne _ (by omega)))), ?_, fun y hy => ?_, ?_, ?_, by omega⟩
  ·have := (((i1.alloc o).grown hg (hne _ (by omega))).set 0 v')
   simpa using this
  ·rw [List.length_append, flat5_append]
   have e5 : flat5 [(x.1.2, 0)] = enc5 (x.1.2, 0) := by simp [flat5]
   rw [e5]
   exact ownsRow_at ho fun g hg1 => h4 g (by have := (ho.lt g hg1).1; omega)
  ·rcases List.mem_append.1 hy with hy | hy
   ·exact ⟨(i4 y hy).1.kept fun b hb => (h4 b (by omega)).trans (h3 b (by omega) (hne b (by omega))), (i4 y hy).2.kept fun b hb => (h4 b (by omega)).trans (h3 b (by omega) (hne b (by omega)))⟩
   ·have e : y = (x.1.2, 0) := by simpa using hy
    subst e
    have hb2 : Below w.heap.size w (w3.setCell ⟨w.heap.size + 1, 0, none⟩ v') := ⟨hg.os.trans i6.os, hg.tape.trans i6.tape, hg.output.trans i6.output, by have := i6.size; omega, fun b hb => ((h4 b (by omega)).trans (h3 b (by omega) (hne b (by omega)))).trans (i6.block b hb)⟩
    exact ⟨x.2.1.later hb2, x.2.2.later hb2⟩
  ·rw [List.map_append, List.map_append, i5]; rfl
  ·exact ⟨hg.os.trans i6.os, hg.tape.trans i6.tape, hg.output.trans i6.output, by have := i6.size; omega, fun b hb => ((h4 b (by omega)).trans (h3 b (by omega) (hne b (by omega)))).trans (i6.block b hb)⟩
def SvL (S q : Nat) (R : Int × List Bd) (ev : Value) (wr : World) : Prop :=
 ∃ (code : Int) (h : List (ByteArray × Tm)) (f : Bool) (Y : Nat → Prop) (td : Value), ev = .int .i64 code ∧ SolE S q td h f Y wr ∧ GoodH h ∧ NamesH h ∧ h.length ≤ 1000000 ∧ (R = (code, sAt h) ∨ (grtB (sAt h) = true ∧ grtB R.2 = true)) ∧ (code ≠ 0 ∨ (code = 0 ∧ ∃ a c, td = .slice a 0 c))
def SvR (S q N : Nat) (V : List ByteArray) (R : Int × List Bd) (g : Nat) (wr : World) : Prop :=
 ∃ (h : List (ByteArray × Tm)) (cs : List Ec), SolT S q N h cs wr ∧ UI V h ((cs.map ecP).reverse.map (·.1)) ∧ (∀ y ∈ cs.map ecP, y.2 ≤ h.length ∧ (y.2 = h.length → onT (sAt h) y.1.l = y.1.l ∧ onT (sAt h) y.1.r = y.1.r)) ∧ uRun false g (sAt h) ((cs.map ecP).reverse.map (·.1)) = some R
def SvI (w : World) (S q N : Nat) (V : List ByteArray) (R : Int × List Bd) (D : Nat) (g : Nat) (ev : Value) (wr : World) : Prop :=
 wr.heap[D]? = some (.deferred (some [])) ∧ Below w.heap.size w wr ∧ ((ev = .int .i64 0 ∧ SvR S q N V R g wr) ∨ SvL S q R ev wr)
def SvN (S q N : Nat) (V : List ByteArray) (R : Int × List Bd) (g : Nat) (wr : World) : Prop :=
 ∃ (h : List (ByteArray × Tm)) (cs : List Ec) (x : Ec), SolT S q N h (cs ++ [x]) wr ∧ UI V h (x.1.1 :: (cs.map ecP).reverse.map (·.1)) ∧ (x.2 ≤ h.length ∧ (x.2 = h.length → onT (sAt h) x.1.1.l = x.1.1.l ∧ onT (sAt h) x.1.1.r = x.1.1.r)) ∧ (∀ y ∈ cs.map ecP, y.2 ≤ h.length ∧ (y.2 = h.length → onT (sAt h) y.1.l = y.1.l ∧ onT (sAt h) y.1.r = y.1.r)) ∧ uRun false g (sAt h) (x.1.1 :: (cs.map ecP).reverse.map (·.1)) = some R
theorem sv_cases {S q N : Nat} {V : List ByteArray} {R : Int × List Bd} {g : Nat} {ev : Value} {wr : World} (hV : V.length ≤ 400000) (h : (ev = .int .i64 0 ∧ SvR S q N V R g wr) ∨ SvL S q R ev wr) : SvL S q R ev wr ∨ (ev = .int .i64 0 ∧ SvN S q N V R g wr) := by
 rcases h with ⟨rfl, h, cs, hT, hU, hb, hr⟩ | h
 ·rcases List.eq_nil_or_concat cs with rfl | ⟨cs, x, rfl⟩
  ·left
   obtain ⟨td, Y, hE, hR, hY, _⟩ := hT
   refine ⟨0, h, false, Y, td, rfl, hE, hU.good, hU.names, by have := hU.hlen; omega, Or.inl ?_, Or.inr ⟨rfl, ?_⟩⟩
   ·cases g with
    | zero => cases hr
    | succ g =>
     simp [uRun, uNext] at hr
     exact hr.symm
   ·rcases hR.own.2 with ⟨h1, _⟩ | ⟨g, cap, cur, h1, _⟩
    ·exact ⟨_, _, h1⟩
    ·exact ⟨_, _, h1⟩
  ·right
   rw [List.concat_eq_append] at *
   simp only [List.map_append, List.map_cons, List.map_nil, List.reverse_append, List.reverse_cons, List.reverse_nil, List.nil_append, List.singleton_append] at hU hr hb
   exact ⟨rfl, h, cs, x, hT, hU, hb (ecP x) (by simp), fun y hy => hb y (by simp [hy]), hr⟩
 ·exact Or.inl h
theorem row_pop {w : World} {N n g cap : Nat} {cs : List Ec} {x : Ec} (hn : cs.length = n) (h : w.ownsRow N 133 5 (.slice (some ⟨g, 0, none⟩) (n + 1) cap) (n + 1) (flat5 (cs ++ [x]))) : w.ownsRow N 133 5 (.slice (some ⟨g, 0, none⟩) n cap) n (flat5 cs) := by
 subst hn
 refine ⟨flat5_length cs, Or.inr ?_⟩
 rcases h.2 with ⟨h1, _⟩ | ⟨g', cap', cur, h1, h2, h3, h4, h5, h6, h7⟩
 ·cases h1
 ·simp at h1
  obtain ⟨rfl, rfl⟩ := h1
  refine ⟨g, cap, cur, rfl, h2, h3, by omega, h5, h6, ?_⟩
  have h8 : (cur.toList.take ((cs.length + 1) * 5)).take (cs.length * 5) = (flat5 (cs ++ [x])).take (cs.length * 5) := by rw [h7]
  rw [List.take_take, Nat.min_eq_left (by omega), flat5_append, List.take_append_of_le_length (by rw [flat5_length]; omega), List.take_of_length_le (l := flat5 cs) (by rw [flat5_length]; omega)] at h8
  exact h8
theorem sv_step {w wr w4 : World} {S q N : Nat} {V : List ByteArray} {R : Int × List Bd} {D g : Nat} {h : List (ByteArray × Tm)} {cs : List Ec} {x : Ec} {td0 : Value} {w3 : World} {e : Ending} (hV : V.length ≤ 400000) (hU : UI V h (x.1.1 :: (cs.map ecP).reverse.map (·.1))) (hb : ∀ y ∈ cs.map ecP, y.2 ≤ h.length ∧ (y.2 = h.length → onT (sAt h) y.1.l = y.1.l ∧ onT (sAt h) y.1.r = y.1.r)) (hr : uRun false g (sAt h) (x.1.1 :: (cs.map ecP).reverse.map (·.1)) = some R)
  (hD : w3.heap[D]? = some (.deferred (some []))) (hDS : D ≠ S) (hDq : D ≠ q) (hDt : some D ≠ td0.ownBlock) (hB : Below w.heap.size w w3) (hS : w.heap.size ≤ S) (hq : w.heap.size ≤ q) (ht : ∀ b, some b = td0.ownBlock → w.heap.size ≤ b)
  (hp : WoPost S q N h cs (onT (sAt h) x.1.1.l) (onT (sAt h) x.1.1.r) td0 w3 e w4) : ∃ (code : Int) (g1 : Nat), e = .returned (.int .i64 code) ∧ g1 < g ∧ SvI w S q N V R D g1 (.int .i64 code) w4 := by
 obtain ⟨code, rfl, hx, hout⟩ := hp
 have hDl : D < w3.heap.size := (Array.getElem?_eq_some_iff.1 hD).1
 cases g with
 | zero => cases hr
 | succ g =>
  refine ⟨code, g, rfl, Nat.lt_succ_self _, (hx.block D hDl (fun hh => ?_)).trans hD, ⟨hx.os.trans hB.os, hx.tape.trans hB.tape, hx.output.trans hB.output, Nat.le_trans hB.size hx.size, fun k hk => (hx.block k (Nat.lt_of_lt_of_le hk hB.size) (fun hh => ?_)).trans (hB.block k hk)⟩, ?_⟩
  ·rcases hh with h1 | h1 | h1
   ·exact hDS h1
   ·exact hDq h1
   ·exact hDt h1
  ·rcases hh with h1 | h1 | h1
   ·omega
   ·omega
   ·have := ht k h1; omega
  ·have hr0 := hr
   rw [uRun, uNext_cons] at hr
   rcases hout with ⟨hne, f', Y', td', hE, hw⟩ | ⟨rfl, hza, hzb, h', cs', new, hT, hC, hgo, hcs⟩
   ·right
    refine ⟨code, h, f', Y', td', rfl, hE, hU.good, hU.names, by have := hU.hlen; omega, ?_, Or.inl hne⟩
    rcases hw with rfl | hw
    ·have hg := hE.2.2.2.2 rfl
     exact Or.inr ⟨hg, uRun_great _ _ _ R.1 R.2 (by rw [hr0]) hg⟩
    ·rw [hw] at hr
     simp at hr
     exact Or.inl hr.symm
   ·left
    rw [hgo] at hr
    have el : (cs'.map ecP).reverse.map (·.1) = new ++ (cs.map ecP).reverse.map (·.1) := by
     rw [hC]
     simp [List.map_reverse, Function.comp_def]
    refine ⟨rfl, h', cs', hT, ?_, ?_, by rw [el]; exact hr⟩
    ·rw [el]
     rcases hcs with ⟨rfl, rfl⟩ | ⟨rfl, y, t, rfl, hv, hor, ho⟩ | ⟨rfl, rfl, hl⟩
     ·exact hU.drop
     ·exact (hU.bindV hv (by rcases hor with ⟨h1, h2⟩ | ⟨h1, h2⟩; exact Or.inl ⟨h1, h2⟩; exact Or.inr ⟨h1, h2⟩) ho).2
     ·exact (hU.deep hza hzb hl).1
    ·rw [hC]
     intro y hy
     rcases List.mem_append.1 hy with hy1 | hy
     ·clear hy
      rcases hcs with ⟨rfl, rfl⟩ | ⟨rfl, z, t, rfl, hv, hor, ho⟩ | ⟨rfl, rfl, hl⟩
      ·exact hb y hy1
      ·have := (hb y hy1).1
       refine ⟨by simp; omega, fun e => ?_⟩
       simp at e; omega
      ·exact hb y hy1
     ·obtain ⟨p, hp, rfl⟩ := List.mem_map.1 hy
      rcases hcs with ⟨rfl, rfl⟩ | ⟨rfl, z, t, rfl, hv, hor, ho⟩ | ⟨rfl, rfl, hl⟩
      ·simp at hp
      ·simp at hp
      ·exact ⟨Nat.le_refl _, fun _ => (hU.deep hza hzb hl).2 p (by simpa using hp)⟩
theorem lyI_solT {w W : World} {pre : List { x : Yx // OldY w x }} (h : LyI w pre W) : ∃ cs : List Ec, SolT (w.heap.size + 1) w.heap.size (w.heap.size + 3) [] cs W ∧ cs.map ecP = pre.map (fun x => (x.1.2.1, 0)) ∧ Below w.heap.size w W := by
 obtain ⟨td, cs, i1, i2, i3, i4, i5, i6, i7⟩ := h
 refine ⟨cs, ⟨td, fun b => b = w.heap.size + 1 ∨ b = w.heap.size, ⟨⟨[], i1, i2, by simp, fun i hi => by simp at hi⟩, Or.inl rfl, Or.inr rfl, fun b hb => by rcases hb with rfl | rfl <;> omega, by simp⟩, ⟨i3, fun x hx => ⟨(i4 x hx).1.mono fun b hb _ => Or.inl ⟨by omega, by omega, by omega⟩, (i4 x hx).2.mono fun b hb _ => Or.inl ⟨by omega, by omega, by omega⟩⟩⟩, fun b hb e => ?_, by omega, by omega, i7⟩, i5, i6⟩
 have := (i3.lt b e.symm).1
 rcases hb with rfl | rfl <;> omega
def SoPost (R : Int × List Bd) (w : World) (e : Ending) (w' : World) : Prop :=
 Below w.heap.size w w' ∧ ((grtB R.2 = true ∧ e = .returned (.tuple #[.slice none 0 0, .int .i64 8])) ∨ (grtB R.2 = false ∧ R.1 ≠ 0 ∧ e = .returned (.tuple #[.slice none 0 0, .int .i64 R.1])) ∨ (grtB R.2 = false ∧ R.1 = 0 ∧ ∃ v, e = .returned (.tuple #[v, .int .i64 0]) ∧ BV w' (fun b => w.heap.size ≤ b) v R.2))
theorem add_off (g n : Nat) : (⟨g, 0, none⟩ : Addr).add n = ⟨g, n, none⟩ := by
 unfold Addr.add
 simp
 intro e
 omega
theorem hB2 {w wr W : World} {v : Value} (h : Below w.heap.size w wr) (hz : (wr.setCell ⟨w.heap.size + 1, 0, none⟩ v).heap.size = wr.heap.size) (hb : Below (wr.setCell ⟨w.heap.size + 1, 0, none⟩ v).heap.size (wr.setCell ⟨w.heap.size + 1, 0, none⟩ v) W) : Below w.heap.size w W := by
 have hs := h.size
 have hs2 := hb.size
 exact ⟨hb.os.trans h.os, hb.tape.trans h.tape, hb.output.trans h.output, by omega, fun k hk => (hb.block k (by omega)).trans ((Below.heap_setCell _ _ _ _ (by simp; omega)).trans (h.block k hk))⟩
theorem so_def {w wr w5 : World} {D : Nat} (hD : w.heap.size + 3 ≤ D) (h : wr.heap[D]? = some (.deferred (some []))) (hx : ExQ (SolM (w.heap.size + 1) w.heap.size) wr w5) : w5.heap[D]? = some (.deferred (some [])) :=
 (hx.block D (Array.getElem?_eq_some_iff.1 h).1 (fun hh => by rcases hh with e | e <;> omega)).trans h
theorem so_below {w wr w5 : World} {D : Nat} (hD : w.heap.size + 3 ≤ D) (h : Below w.heap.size w wr) (hx : ExQ (SolM (w.heap.size + 1) w.heap.size) wr w5) (o : Obj) : Below w.heap.size w (w5.putObj D o) :=
 ⟨hx.os.trans h.os, hx.tape.trans h.tape, hx.output.trans h.output, by rw [World.putObj_size]; exact Nat.le_trans h.size hx.size, fun k hk => by
  rw [World.putObj_heap_other (by omega), hx.block k (Nat.lt_of_lt_of_le hk h.size) (fun hh => by rcases hh with e | e <;> omega), h.block k hk]⟩
theorem so_great {R : Int × List Bd} {code : Int} {s : List Bd} (h : R = (code, s) ∨ (grtB s = true ∧ grtB R.2 = true)) (hg : grtB s = true) : grtB R.2 = true := by
 rcases h with rfl | h
 ·exact hg
 ·exact h.2
theorem so_same {R : Int × List Bd} {code : Int} {s : List Bd} (h : R = (code, s) ∨ (grtB s = true ∧ grtB R.2 = true)) (hg : grtB s = false) : R = (code, s) ∧ grtB s = false := by
 rcases h with rfl | h
 ·exact ⟨rfl, hg⟩
 ·rw [hg] at h; cases h.1
theorem iu_shape {h : List (ByteArray × Tm)} {w : World} {e : Ending} {w' : World} (hc : (grtB (sAt h) = true ∧ e = .returned (.tuple #[.slice none 0 0, .bool false])) ∨ (grtB (sAt h) = false ∧ ∃ v, e = .returned (.tuple #[v, .bool true]) ∧ BV w' (fun b => w.heap.size ≤ b) v (sAt h))) :
  ∃ v ok, e = .returned (.tuple #[v, .bool ok]) ∧ ((grtB (sAt h) = true ∧ ok = false) ∨ (grtB (sAt h) = false ∧ ok = true ∧ BV w' (fun b => w.heap.size ≤ b) v (sAt h))) := by
 rcases hc with ⟨h1, rfl⟩ | ⟨h1, v, rfl, h2⟩
 ·exact ⟨_, _, rfl, Or.inl ⟨h1, rfl⟩⟩
 ·exact ⟨_, _, rfl, Or.inr ⟨h1, rfl, h2⟩⟩
set_option maxHeartbeats 1000000 in
theorem solve_in (HSK : Hid SortedKeys) (n : Nat) (hn : 6 ≤ n) (b o : Nat) (a : Option Addr) (xs : List Pc) (c : Nat) (ha : xs = [] ∨ a = some ⟨b, o, none⟩) (hxl : xs.length ≤ 40) (V : List ByteArray) (hV : V.length ≤ 400000) (hU : UI V [] (xs.map (·.1))) (R : Int × List Bd) (g0 : Nat) (hrun : uRun false g0 [] (xs.map (·.1)) = some R) (w : World) (hbw : b ≤ w.heap.size) (hbx : xs = [] ∨ b < w.heap.size) (hL : PcAt w b o xs) (hS : ∀ x ∈ xs, Sl w (fun b => b < w.heap.size) x.2.1.1 x.1.l.args ∧ Sl w (fun b => b < w.heap.size) x.2.2.1 x.1.r.args) :
  CallsIn Fence.wide n Tryz.prog 62 #[.slice a xs.length c] w fun e w' => SoPost R w e w' := by
 have h1 : 1 ≤ n := by omega
 have hmm := @run_makeMap Tryz.prog
 refine callsIn_of_wp_marks Tryz.func62 rfl trivial ?_ rfl
 simp only [Tryz.ntmps62, List.size_toArray, List.length_cons, List.length_nil, Nat.reduceAdd, Nat.reduceSub, Array.replicate_succ, Array.replicate_zero, List.push_toArray, List.append_toArray, List.nil_append, List.cons_append]
 have hfK : Fence.wide.fn 84 := trivial
 have hfI : Fence.wide.fn 86 := trivial
 have hfW : Fence.wide.fn 85 := trivial
 gi_wp2_with (gi_at_call 84; refine (backward_in Fence.wide (n - 1) trivial rfl _ _ ⟨_, _, _, rfl⟩).mono ?_; rintro e w' ⟨rfl, rfl⟩)
 have hP : ∀ k (h : k < xs.length), OldY w ((k : Int), xs[k]) := fun k h => hS _ (List.getElem_mem h)
 have hW0 : (((w.alloc (.map #[] 0)).alloc (.cells #[.slice none 0 0, .map (some w.heap.size), .bool false] 128)).alloc (.cells #[.slice a xs.length c] 22)).heap.size = w.heap.size + 3 := by simp
 have hB0 : Below w.heap.size w (((w.alloc (.map #[] 0)).alloc (.cells #[.slice none 0 0, .map (some w.heap.size), .bool false] 128)).alloc (.cells #[.slice a xs.length c] 22)) := ((((Below.refl _ w).alloc (Nat.le_refl _) _).alloc (by simp) _).alloc (by simp; omega) _)
 have hSB : Blk (((w.alloc (.map #[] 0)).alloc (.cells #[.slice none 0 0, .map (some w.heap.size), .bool false] 128)).alloc (.cells #[.slice a xs.length c] 22)) (w.heap.size + 1) #[.slice none 0 0, .map (some w.heap.size), .bool false] 128 := by
  have h1 := (Blk.new (w.alloc (.map #[] 0)) #[.slice none 0 0, .map (some w.heap.size), .bool false] 128).alloc (.cells #[.slice a xs.length c] 22)
  rw [World.size_alloc] at h1
  exact h1
 have hMA : MapAt (((w.alloc (.map #[] 0)).alloc (.cells #[.slice none 0 0, .map (some w.heap.size), .bool false] 128)).alloc (.cells #[.slice a xs.length c] 22)) w.heap.size [] := (MapAt.new w).kept (by rw [Below.heap_alloc _ _ _ (by simp; omega), Below.heap_alloc _ _ _ (by simp)])
 have hBox : (((w.alloc (.map #[] 0)).alloc (.cells #[.slice none 0 0, .map (some w.heap.size), .bool false] 128)).alloc (.cells #[.slice a xs.length c] 22)).cell? ⟨w.heap.size + 1 + 1, 0, none⟩ = some (.slice a xs.length c) := by
  have h1 := (Blk.new ((w.alloc (.map #[] 0)).alloc (.cells #[.slice none 0 0, .map (some w.heap.size), .bool false] 128)) #[.slice a xs.length c] 22).cell 0
  rw [World.size_alloc, World.size_alloc] at h1
  exact h1
 generalize (((w.alloc (.map #[] 0)).alloc (.cells #[.slice none 0 0, .map (some w.heap.size), .bool false] 128)).alloc (.cells #[.slice a xs.length c] 22)) = W0 at *
 refine wpIn_rangeFunc_ownH rfl h1 (gf := 101) (lb := #[.pointer (some ⟨w.heap.size + 1 + 1, 0, none⟩)]) rfl trivial (enters_of Tryz.func101 (by kernel_rfl) rfl)
  (back_stops Fence.wide (n - 1) trivial rfl (by omega) (P := OldY w) (Kp := LyK w) (fun A => LyK.refl _ _) (fun h k => LyK.trans h k) (w.heap.size + 1 + 1) b o c (fun {A B} h => lyK_c hbw h) a xs hP ha (by omega) W0 (by omega) (by omega) hBox (fun j u hj => by (rcases hbx with rfl | hbx); (simp [flat4] at hj); rw [hB0.cell (p := ⟨_, _, none⟩) (by simpa using hbx)]; exact hL j u hj))
  (fun h k => LyK.trans h k) (fun W l o o' hl ho _ _ => lyK_b (by omega)) (Below.refl _ _) (fun _ => rfl)
  (LyI w) (fun _ _ _ => False) (by rw [hW0]; exact lyI_own w) (fun _ _ _ _ _ hs _ _ => hs) ⟨.slice none 0 0, [], hSB, hMA, World.ownsRow_nil _ _ _ _, by simp, by simp, hB0, by omega⟩
  (fun x a' W => ∃ Bx, w.heap.size + 3 ≤ Bx ∧ Blk W Bx #[.string x.1.2.1.l.name, .slice x.1.2.2.1.1 x.1.2.1.l.args.length x.1.2.2.1.2, .string x.1.2.1.r.name, .slice x.1.2.2.2.1 x.1.2.1.r.args.length x.1.2.2.2.2] 34 ∧ a' = { tmps := #[.slice a xs.length c, undef, .slice none 0 0, .int .i64 0, .pointer (some ⟨w.heap.size + 1, 0, none⟩), undef, .pointer (some ⟨Bx, 0, none⟩), undef, undef, undef, undef, undef, .map (some w.heap.size), .agg #[.slice none 0 0, .map (some w.heap.size), .bool false], .slice a xs.length c, .func (.func 101) #[] #[.pointer (some ⟨w.heap.size + 1 + 1, 0, none⟩)], .int .i64 x.1.1, .agg #[.string x.1.2.1.l.name, .slice x.1.2.2.1.1 x.1.2.1.l.args.length x.1.2.2.1.2, .string x.1.2.1.r.name, .slice x.1.2.2.2.1 x.1.2.1.r.args.length x.1.2.2.2.2], undef, undef, undef, undef, undef, undef, undef, undef, undef, undef, undef, undef, undef, undef, undef, undef, undef, undef, undef, undef, undef, undef, undef, undef, undef, undef, undef, undef, undef, undef, undef, undef, undef, undef, undef, undef, undef, undef, undef, undef, undef, undef, undef, undef], defers := [] })
  (fun x a' _ X Y row hs hg hr => by
   obtain ⟨Bx, h1, h2, h3⟩ := hs
   refine ⟨Bx, h1, h2.grown hg (fun e => ?_), h3⟩
   obtain ⟨_, o, ho, hc⟩ := hr Bx e.symm
   unfold Blk at h2
   rw [ho] at h2
   cases h2
   simp [Obj.isCells] at hc) ?assign ?body ?done ?stop
 case assign =>
  rintro l pre x W K hI hK
  dsimp only [encY]
  gi_wp2
  obtain ⟨td, cs, i1, i2, i3, i4, i5, i6, i7⟩ := hI
  refine hK _ _ ((KeepsOthers.alloc _ _).from _) ⟨(ExQ.refl _ _).alloc _, fun k h1 h2 => Below.heap_alloc _ _ _ (by omega)⟩ ⟨td, cs, i1.alloc _, i2.kept (Below.heap_alloc _ _ _ (by omega)), i3.alloc _, fun y hy => ⟨(i4 y hy).1.later ((Below.refl _ _).alloc (Nat.le_refl _) _), (i4 y hy).2.later ((Below.refl _ _).alloc (Nat.le_refl _) _)⟩, i5, i6.alloc (by omega) _, by simp; omega⟩ ⟨W.heap.size, i7, Blk.new W _ _, rfl⟩
 case body =>
  rintro l pre x a' W hl hr hI ⟨Bx, hBx, bX, rfl⟩ hlt
  obtain ⟨td, cs, i1, i2, i3, i4, i5, i6, i7⟩ := hI
  obtain ⟨⟨xi, ⟨xp, ⟨xa, xc⟩, ⟨ya, yc⟩⟩⟩, hx1, hx2⟩ := x
  dsimp only at bX hx1 hx2 ⊢
  have s0 := i1.c0
  have p0 : W.cell? ⟨Bx, 0, none⟩ = some (.string xp.l.name) := bX.cell 0
  have p1 : W.cell? ⟨Bx, 1, none⟩ = some (.slice xa xp.l.args.length xc) := bX.cell 1
  have p2 : W.cell? ⟨Bx, 2, none⟩ = some (.string xp.r.name) := bX.cell 2
  have p3 : W.cell? ⟨Bx, 3, none⟩ = some (.slice ya xp.r.args.length yc) := bX.cell 3
  obtain ⟨i0, hi0, hz0, hz1, hz2⟩ := info_parts Tryz.infoEq
  have hcl : cs.length ≤ 40 := by have := congrArg List.length i5; simp at this; omega
  gi_wp2_with (gi_at_builtin; go_loud (refine wpListIn_append_own_at _ rfl (.tmp 19) (.tmp 25) 126 rfl (w.heap.size + 3) 133 i0 _ 5 88 Tryz.underlying126 hi0 hz0 hz1 hz2 rfl (by decide) td cs.length (flat5 cs) rfl (i3.alloc _) ⟨W.heap.size, 0, none⟩ 1 1 [.string xp.l.name, .slice xa xp.l.args.length xc, .string xp.r.name, .slice ya xp.r.args.length yc, .int .i64 0] rfl rfl (cell_five_new _ _ _ _ _ _ _) (fun u hu => by simp at hu; rcases hu with rfl | rfl | rfl | rfl | rfl <;> rfl) (by unfold maxLen; omega) (by omega) (by simp; omega) ?_); intro v' w3 ho hg _ hob; obtain ⟨g', cap', rfl⟩ := owns_shape ho; have s3 : w3.cell? ⟨w.heap.size + 1, 0, none⟩ = some td := ((i1.alloc _).grown hg (fun e => by have := (i3.lt _ e.symm).1; omega)).cell 0; have f3 : w3.frozen? ⟨w.heap.size + 1, 0, none⟩ = false := ((i1.alloc _).grown hg (fun e => by have := (i3.lt _ e.symm).1; omega)).frozen 0)
  have hfin := lyI_step (x := ⟨(xi, xp, (xa, xc), ya, yc), hx1, hx2⟩) i1 i2 i3 i4 i5 i6 i7 ho hg
  rw [hW0]
  exact hfin
 case done =>
  rintro D ys W hD rfl hI hDD
  have hst : SvI w (w.heap.size + 1) w.heap.size (w.heap.size + 3) V R D g0 (.int .i64 0) W := by
   obtain ⟨cs, hT, hC, hB⟩ := lyI_solT hI
   have e1 : (cs.map ecP).reverse.map (·.1) = xs.map (·.1) := by
    have e2 := backA_map (P := OldY w) (xs := xs) (hP := hP) xs.length (Nat.le_refl _)
    rw [hC, ← List.map_reverse, List.map_map, List.map_reverse]
    have e3 : ((fun x : Pr × Nat => x.1) ∘ fun x : { x : Yx // OldY w x } => (x.1.2.1, 0)) = fun x => x.1.2.1 := rfl
    rw [e3, e2, List.take_length, List.reverse_reverse]
   refine ⟨hDD, hB, Or.inl ⟨rfl, [], cs, hT, by rw [e1]; exact hU, ?_, by rw [e1]; exact hrun⟩⟩
   rw [hC]
   intro y hy
   obtain ⟨z, _, rfl⟩ := List.mem_map.1 hy
   exact ⟨Nat.zero_le _, fun _ => ⟨onT_id (by simp [sAt]), onT_id (by simp [sAt])⟩⟩
  have HST := hide hst
  clear hst hI hDD
  gi_wp2
  gi_loopg [7] g0 (fun g ev wr => SvI w (w.heap.size + 1) w.heap.size (w.heap.size + 3) V R D g ev wr)
  case atStart => exact HST.out
  case round =>
   have hDl : w.heap.size + 3 ≤ D := by omega
   obtain ⟨hDr, hBr, hcr⟩ := hrel
   rcases sv_cases hV hcr with ⟨code, h, f, Y, td, rfl, hE, hgd, hnm, hhl, hR, hlast⟩ | ⟨rfl, h, cs, x, hT, hUx, hbx, hbc, hrx⟩
   ·have HE := hide hE
    have HR := hide hR
    have HB := hide hBr
    have HD := hide hDr
    clear hcr hR hBr hDr
    obtain ⟨⟨L, hB, hM, hSt⟩, _⟩ := hE
    have s0 := hB.c0
    clear hB hM hSt
    rcases hlast with hne | ⟨rfl, a0, c0, rfl⟩
    ·have hce : (code == 0) = false := beq_eq_false_iff_ne.2 hne
     have hcn : (code != 0) = true := by simp [bne, hce]
     gi_wp2_with (gi_at_call 86; refine (callsIn_wide.2 (inOrderU_of HSK (w.heap.size + 1) w.heap.size td h hgd hnm hhl wr Y f HE.out)).mono ?_; rintro e w5 ⟨hx5, hc5⟩; obtain ⟨v5, ok5, rfl, hd5⟩ := iu_shape hc5; clear hc5)
     ·have hok : ok5 = false := by simp_all
      refine ⟨by simp, .inl ⟨_, _, rfl, run_takeDeferred (so_def hDl HD.out hx5), ?_⟩⟩
      refine ⟨.tuple #[.slice none 0 0, .int .i64 8], by simp [results, Tryz.results62, go_sem], so_below hDl HB.out hx5 _, Or.inl ⟨so_great HR.out (by simp_all), rfl⟩⟩
     ·have hok : ok5 = true := by simp_all
      have hRR := so_same HR.out (show grtB (sAt h) = false by simp_all)
      refine ⟨by simp, .inl ⟨_, _, rfl, run_takeDeferred (so_def hDl HD.out hx5), ?_⟩⟩
      refine ⟨.tuple #[.slice none 0 0, .int .i64 code], by simp [results, Tryz.results62, go_sem], so_below hDl HB.out hx5 _, Or.inr (Or.inl ?_)⟩
      rw [hRR.1]
      exact ⟨hRR.2, hne, rfl⟩
    ·gi_wp2_with (gi_at_call 86; refine (callsIn_wide.2 (inOrderU_of HSK (w.heap.size + 1) w.heap.size (.slice a0 0 c0) h hgd hnm hhl wr Y f HE.out)).mono ?_; rintro e w5 ⟨hx5, hc5⟩; obtain ⟨v5, ok5, rfl, hd5⟩ := iu_shape hc5; clear hc5)
     ·have hok : ok5 = false := by simp_all
      refine ⟨by simp, .inl ⟨_, _, rfl, run_takeDeferred (so_def hDl HD.out hx5), ?_⟩⟩
      refine ⟨.tuple #[.slice none 0 0, .int .i64 8], by simp [results, Tryz.results62, go_sem], so_below hDl HB.out hx5 _, Or.inl ⟨so_great HR.out (by simp_all), rfl⟩⟩
     ·have hok : ok5 = true := by simp_all
      have hRR := so_same HR.out (show grtB (sAt h) = false by simp_all)
      have hbv : BV w5 (fun b => wr.heap.size ≤ b) v5 (sAt h) := by
       rcases hd5 with h1 | h1
       ·rw [hok] at h1; cases h1.2
       ·exact h1.2.2
      refine ⟨by simp, .inl ⟨_, _, rfl, run_takeDeferred (so_def hDl HD.out hx5), ?_⟩⟩
      refine ⟨.tuple #[v5, .int .i64 0], by simp [results, Tryz.results62, go_sem], so_below hDl HB.out hx5 _, Or.inr (Or.inr ?_)⟩
      rw [hRR.1]
      exact ⟨hRR.2, rfl, v5, rfl, (hbv.kept fun b hb => World.putObj_heap_other (by have := (Array.getElem?_eq_some_iff.1 HD.out).1; omega)).mono fun b hb _ => Nat.le_trans HB.out.size hb⟩
   ·obtain ⟨td, Y, hE, hRw, hY, _, _, hNr⟩ := hT
    have hlen : cs.length ≤ 900000000 := by
     have h1 := hUx.llen
     simp at h1
     omega
    have hown := hRw.own
    rw [List.length_append] at hown
    obtain ⟨g, cap, rfl⟩ := owns_shape hown
    have hpop := row_pop rfl hown
    have hcap : cs.length + 1 ≤ cap := by
     rcases hown.2 with ⟨h1, _⟩ | ⟨g', cap', cur, h1, h2, h3, h4, _⟩
     ·cases h1
     ·simp at h1
      obtain ⟨_, rfl⟩ := h1
      simpa using h4
    obtain ⟨⟨p, ⟨a1, c1⟩, ⟨a2, c2⟩⟩, j⟩ := x
    have cc : ∀ i u, (enc5 ((p, (a1, c1), (a2, c2)), j))[i]? = some u → i < 5 → wr.cell? ⟨g, cs.length * 5 + i, none⟩ = some u := fun i u hu hi => by
     have h1 := hown.cells (g := g) rfl (cs.length * 5 + i) u (by rw [flat5_get (cs ++ [_]) cs.length (by simp) i hi]; simpa using hu)
     rw [add_off] at h1
     exact h1
    have k0 := cc 0 _ rfl (by decide)
    have k1 := cc 1 _ rfl (by decide)
    have k2 := cc 2 _ rfl (by decide)
    have k3 := cc 3 _ rfl (by decide)
    have k4 := cc 4 _ rfl (by decide)
    simp only [Nat.add_zero] at k0
    obtain ⟨⟨L, hB, hM, hSt⟩, _⟩ := id hE
    have s0 : wr.cell? ⟨w.heap.size + 1, 0, none⟩ = some (.slice (some ⟨g, 0, none⟩) (cs.length + 1) cap) := hB.cell 0
    have s0' : ∀ o, (wr.alloc o).cell? ⟨w.heap.size + 1, 0, none⟩ = some (.slice (some ⟨g, 0, none⟩) (cs.length + 1) cap) := fun o => (hB.alloc o).cell 0
    have f0' : ∀ o, (wr.alloc o).frozen? ⟨w.heap.size + 1, 0, none⟩ = false := fun o => (hB.alloc o).frozen 0
    have HE := hide hE
    have HRW := hide hRw
    have HY := hide hY
    have HPOP := hide hpop
    have HU := hide hUx
    have HBX := hide hbx
    have HBC := hide hbc
    have HRX := hide hrx
    have HB := hide hBr
    have HD := hide hDr
    clear hE hRw hY hpop hUx hbx hbc hrx hBr hDr hB hM hSt hown cc hcr
    gi_wp2_with fail
    have hSN : w.heap.size + 1 < w.heap.size + 3 := by omega
    have hqN : w.heap.size < w.heap.size + 3 := by omega
    have hB1 : Below (wr.setCell ⟨w.heap.size + 1, 0, none⟩ (.slice (some ⟨g, 0, none⟩) cs.length cap)).heap.size (wr.setCell ⟨w.heap.size + 1, 0, none⟩ (.slice (some ⟨g, 0, none⟩) cs.length cap)) ((wr.setCell ⟨w.heap.size + 1, 0, none⟩ (.slice (some ⟨g, 0, none⟩) cs.length cap)).alloc (.cells #[.string p.l.name, .slice a1 p.l.args.length c1, .string p.r.name, .slice a2 p.r.args.length c2, .int .i64 (j : Int)] 133)) := (Below.refl _ _).alloc (Nat.le_refl _) _
    have hz1 : (wr.setCell ⟨w.heap.size + 1, 0, none⟩ (.slice (some ⟨g, 0, none⟩) cs.length cap)).heap.size = wr.heap.size := by simp [World.setCell]
    have hr1 : ERow wr (w.heap.size + 3) (fun b => b < w.heap.size + 3 ∧ b ≠ w.heap.size + 1 ∧ b ≠ w.heap.size) (.slice (some ⟨g, 0, none⟩) cs.length cap) cs := ⟨HPOP.out, fun y hy => HRW.out.row y (by simp [hy])⟩
    have hx1 := HRW.out.row ((p, (a1, c1), (a2, c2)), j) (by simp)
    have hSl : ∀ (aa : Option Addr) (l : List Tm), Sl wr (fun b => (b < w.heap.size + 3 ∧ b ≠ w.heap.size + 1 ∧ b ≠ w.heap.size) ∨ (w.heap.size + 3 ≤ b ∧ some b ≠ some g)) aa l → Sl ((wr.setCell ⟨w.heap.size + 1, 0, none⟩ (.slice (some ⟨g, 0, none⟩) cs.length cap)).alloc (.cells #[.string p.l.name, .slice a1 p.l.args.length c1, .string p.r.name, .slice a2 p.r.args.length c2, .int .i64 (j : Int)] 133)) (fun b => (b < w.heap.size + 3 ∧ b ≠ w.heap.size + 1 ∧ b ≠ w.heap.size) ∨ (w.heap.size + 3 ≤ b ∧ some b ≠ some g)) aa l := fun aa l hsl => (hsl.kept fun b hb => Below.heap_setCell _ _ _ _ (by
     simp
     rcases hb with hb | hb
     ·exact hb.2.1
     ·omega)).later hB1
    have hgN : w.heap.size + 3 ≤ g ∧ g < wr.heap.size := HPOP.out.lt g rfl
    have hDg : D ≠ g := fun e => by
     subst e
     rcases HPOP.out.2 with ⟨h1, _⟩ | ⟨g', cap', cur, h1, h2, h3, _⟩
     ·cases h1
     ·simp at h1
      obtain ⟨rfl, rfl⟩ := h1
      rw [HD.out] at h3
      cases h3
    have hDr : D < wr.heap.size := (Array.getElem?_eq_some_iff.1 HD.out).1
    have WO := workOff_any (w.heap.size + 1) w.heap.size (w.heap.size + 3) V h cs p ((cs.map ecP).reverse.map (·.1)) HU.out j HBX.out.1 HBX.out.2 hlen hV a1 c1 a2 c2 _ (.slice (some ⟨g, 0, none⟩) cs.length cap) Y ((solE_ok _ _ _ h).below (sole_todo HE.out (fun _ _ => rfl)) hB1) ((hr1.setCell hSN (fun hb => hb.2.1 rfl) _).below hB1) HY.out hSN hqN (by simp [World.setCell]; omega) (hSl _ _ hx1.1) (hSl _ _ hx1.2)
    refine (callsIn_wide.2 WO).mono ?_
    clear WO
    rintro e w4 hwo
    obtain ⟨code, g1, rfl, hlt1, hI1⟩ := sv_step (x := ((p, (a1, c1), (a2, c2)), j)) (w := w) (wr := wr) (D := D) (R := R) hV HU.out HBC.out HRX.out (by rw [Below.heap_alloc _ _ _ (by rw [hz1]; exact hDr), Below.heap_setCell _ _ _ _ (by simp; omega)]; exact HD.out) (by omega) (by omega) (fun e => hDg (by simpa [Value.ownBlock] using e)) (hB2 HB.out hz1 hB1) (by omega) (Nat.le_refl _) (fun b hb => by (have e : b = g := Option.some.inj hb); rw [e]; omega) hwo
    have HI1 := hide hI1
    clear hI1 hwo
    gi_wp2
    gi_roundg g1
    case rel => exact HI1.out
    case measure => exact hlt1
 case stop =>
  rintro D c pre W _ _ h _
  exact h.elim
theorem same_cells {w w1 : World} {n : Nat} {p1 p2 p3 p4 p5 p6 : Addr} {v1 v2 v3 v4 v5 v6 : Value} (hb : Below (w.drewN n).heap.size (w.drewN n) w1)
  (h : w.cell? p1 = some v1 ∧ w.cell? p2 = some v2 ∧ w.cell? p3 = some v3 ∧ w.cell? p4 = some v4 ∧ w.cell? p5 = some v5 ∧ w.cell? p6 = some v6) :
  w1.cell? p1 = some v1 ∧ w1.cell? p2 = some v2 ∧ w1.cell? p3 = some v3 ∧ w1.cell? p4 = some v4 ∧ w1.cell? p5 = some v5 ∧ w1.cell? p6 = some v6 := by
 have hb' : Below w.heap.size w w1 := (below_drewN (Below.refl _ _) n).trans (hb.mono (by simp))
 exact ⟨cell_later hb' h.1, cell_later hb' h.2.1, cell_later hb' h.2.2.1, cell_later hb' h.2.2.2.1, cell_later hb' h.2.2.2.2.1, cell_later hb' h.2.2.2.2.2⟩
def eqL : List Tm → List Tm → Bool
 | [], [] => true
 | ⟨s, a⟩ :: r, t :: ts => ((s.toList == t.name.toList) && ((a.length == t.args.length) && eqL a t.args)) && eqL r ts
 | _, _ => false
def sameB (a b : Tm) : Bool := (a.name.toList == b.name.toList) && ((a.args.length == b.args.length) && eqL a.args b.args)
theorem eqL_cons (x t : Tm) (r ts : List Tm) : eqL (x :: r) (t :: ts) = (sameB x t && eqL r ts) := by obtain ⟨s, a⟩ := x; simp only [eqL, sameB]
theorem eqL_append : ∀ (a b c d : List Tm), a.length = b.length → eqL (a ++ c) (b ++ d) = (eqL a b && eqL c d)
 | [], [], c, d, _ => by simp [eqL]
 | [], _ :: _, _, _, h => by simp at h
 | _ :: _, [], _, _, h => by simp at h
 | x :: r, t :: ts, c, d, h => by rw [List.cons_append, List.cons_append, eqL_cons, eqL_cons, eqL_append r ts c d (by simpa using h), Bool.and_assoc]
theorem eqL_take {l m : List Tm} {k : Nat} (h : k < l.length) (h2 : k < m.length) : eqL (l.take (k + 1)) (m.take (k + 1)) = (eqL (l.take k) (m.take k) && sameB l[k] m[k]) := by
 rw [List.take_succ_eq_append_getElem h, List.take_succ_eq_append_getElem h2, eqL_append _ _ _ _ (by simp; omega), eqL_cons]
 simp [eqL]
theorem eqL_no {l m : List Tm} {k : Nat} (h : k < l.length) (hlm : l.length = m.length) (h0 : sameB l[k] (m[k]'(by omega)) = false) : eqL l m = false := by
 have e1 : l = l.take (k + 1) ++ l.drop (k + 1) := (List.take_append_drop _ _).symm
 have e2 : m = m.take (k + 1) ++ m.drop (k + 1) := (List.take_append_drop _ _).symm
 rw [e1, e2, eqL_append _ _ _ _ (by simp; omega), eqL_take h (by omega), h0]
 simp
def SaInv (w : World) (l m : List Tm) (a a2 : Option Addr) (c c2 : Nat) (i : Value) (wr : World) : Prop :=
 ∃ (k : Nat), k ≤ l.length ∧ i = .int .i64 k ∧ eqL (l.take k) (m.take k) = true ∧ Below w.heap.size w wr ∧ wr.cell? ⟨w.heap.size, 1, none⟩ = some (.slice a l.length c) ∧ wr.cell? ⟨w.heap.size + 1, 1, none⟩ = some (.slice a2 l.length c2) ∧ w.heap.size + 2 ≤ wr.heap.size
theorem preL_app : ∀ (a b : List Tm), preL (a ++ b) = preL a ++ preL b
 | [], b => by simp [preL]
 | ⟨s, l⟩ :: r, b => by
  have := preL_app r b
  simp [preL, this]
def Flat (l : List Tm) : Prop := ∀ k ∈ preL l, varB k.name = true → k.args = []
theorem Flat.cons {t : Tm} {r : List Tm} (h : Flat (t :: r)) : Flat [t] ∧ Flat r := by
 have e : preL (t :: r) = preL [t] ++ preL r := preL_app [t] r
 exact ⟨fun k hk => h k (by rw [e]; simp [hk]), fun k hk => h k (by rw [e]; simp [hk])⟩
def mtL : List Tm → List Tm → List Bd → Option (List Bd)
 | [], _, h => some h
 | ⟨s, a⟩ :: r, ts, h => match ts with
  | [] => none
  | t :: ts' =>
   match (if varB s = true then (match forT h s with
     | some x => if sameB x t = true then some h else none
     | none => some (h ++ [⟨s, t⟩]))
    else if ((s.toList == t.name.toList) && (a.length == t.args.length)) = true then mtL a t.args h else none) with
   | some h' => mtL r ts' h'
   | none => none
def mtT (p t : Tm) (h : List Bd) : Option (List Bd) :=
 if varB p.name = true then (match forT h p.name with
   | some x => if sameB x t = true then some h else none
   | none => some (h ++ [⟨p.name, t⟩]))
  else if ((p.name.toList == t.name.toList) && (p.args.length == t.args.length)) = true then mtL p.args t.args h else none
theorem mtL_cons (p t : Tm) (r ts : List Tm) (h : List Bd) : mtL (p :: r) (t :: ts) h = (match mtT p t h with
   | some h' => mtL r ts h'
   | none => none) := by obtain ⟨s, a⟩ := p; simp only [mtL, mtT]
theorem mtL_append : ∀ (a b c d : List Tm) (h : List Bd), a.length = b.length → mtL (a ++ c) (b ++ d) h = (match mtL a b h with
   | some h' => mtL c d h'
   | none => none)
 | [], [], c, d, h, _ => by simp [mtL]
 | [], _ :: _, _, _, _, e => by simp at e
 | _ :: _, [], _, _, _, e => by simp at e
 | x :: r, t :: ts, c, d, h, e => by
  rw [List.cons_append, List.cons_append, mtL_cons, mtL_cons]
  cases mtT x t h with
  | none => rfl
  | some h' => exact mtL_append r ts c d h' (by simpa using e)
theorem mtL_take {l m : List Tm} {k : Nat} (h : k < l.length) (h2 : k < m.length) (hv : List Bd) : mtL (l.take (k + 1)) (m.take (k + 1)) hv = (match mtL (l.take k) (m.take k) hv with
   | some h' => mtT l[k] m[k] h'
   | none => none) := by
 rw [List.take_succ_eq_append_getElem h, List.take_succ_eq_append_getElem h2, mtL_append _ _ _ _ _ (by simp; omega)]
 cases mtL (l.take k) (m.take k) hv with
 | none => rfl
 | some h' =>
  show mtL [l[k]] [m[k]] h' = mtT l[k] m[k] h'
  rw [mtL_cons]
  cases mtT l[k] m[k] h' with
  | none => rfl
  | some h'' => simp [mtL]
theorem mtL_no {l m : List Tm} {k : Nat} {hv h' : List Bd} (h : k < l.length) (hlm : l.length = m.length) (h1 : mtL (l.take k) (m.take k) hv = some h') (h0 : mtT l[k] (m[k]'(by omega)) h' = none) : mtL l m hv = none := by
 have e1 : l = l.take (k + 1) ++ l.drop (k + 1) := (List.take_append_drop _ _).symm
 have e2 : m = m.take (k + 1) ++ m.drop (k + 1) := (List.take_append_drop _ _).symm
 rw [e1, e2, mtL_append _ _ _ _ _ (by simp; omega), mtL_take h (by omega), h1]
 simp only [h0]
theorem mtL_next {l m : List Tm} {k : Nat} {hv h' h'' : List Bd} (h : k < l.length) (h2 : k < m.length) (h1 : mtL (l.take k) (m.take k) hv = some h') (h0 : mtT l[k] m[k] h' = some h'') : mtL (l.take (k + 1)) (m.take (k + 1)) hv = some h'' := by
 rw [mtL_take h h2, h1]
 exact h0
theorem mtT_deep {s s2 : ByteArray} {l m : List Tm} {h : List Bd} (hv : varB s = false) (hn : (s.toList == s2.toList) = true) (hl : l.length = m.length) : mtT ⟨s, l⟩ ⟨s2, m⟩ h = mtL l m h := by
 simp [mtT, hv, hn, hl]
theorem mtT_off {s s2 : ByteArray} {l m : List Tm} {h : List Bd} (hv : varB s = false) (hn : ((s.toList == s2.toList) && (l.length == m.length)) = false) : mtT ⟨s, l⟩ ⟨s2, m⟩ h = none := by
 unfold mtT
 rw [if_neg (by rw [hv]; simp), if_neg (by simp only [hn]; simp)]
theorem mtT_new {s : ByteArray} {l : List Tm} {t : Tm} {h : List Bd} (hv : varB s = true) (hf : forT h s = none) : mtT ⟨s, l⟩ t h = some (h ++ [⟨s, t⟩]) := by simp [mtT, hv, hf]
theorem mtT_old {s : ByteArray} {l : List Tm} {t x : Tm} {h : List Bd} (hv : varB s = true) (hf : forT h s = some x) : mtT ⟨s, l⟩ t h = if sameB x t = true then some h else none := by simp [mtT, hv, hf]
def plcL : Nat → List Tm → List (List Int)
 | _, [] => []
 | j, ⟨_, l⟩ :: r => ((([] : List Int) :: plcL 0 l).map fun p => (j : Int) :: p) ++ plcL (j + 1) r
def plcT (t : Tm) : List (List Int) := [] :: plcL 0 t.args
theorem plcL_cons (j : Nat) (t : Tm) (r : List Tm) : plcL j (t :: r) = ((plcT t).map fun p => (j : Int) :: p) ++ plcL (j + 1) r := by
 obtain ⟨s, l⟩ := t
 simp only [plcL, plcT]
def RowP (w : World) (Z : Nat → Prop) : List (List Int) → List Value → Prop
 | [], xs => xs = []
 | z :: r, xs => ∃ u xs', xs = u :: xs' ∧ PV w Z u z ∧ RowP w Z r xs'
theorem RowP.len {w : World} {Z : Nat → Prop} : ∀ {l : List (List Int)} {xs : List Value}, RowP w Z l xs → xs.length = l.length
 | [], xs, h => by simp [RowP] at h; simp [h]
 | z :: l, xs, h => by obtain ⟨u, xs', rfl, _, h⟩ := h; simp [RowP.len h]
theorem RowP.append {w : World} {Z : Nat → Prop} : ∀ {l k : List (List Int)} {xs ys : List Value}, RowP w Z l xs → RowP w Z k ys → RowP w Z (l ++ k) (xs ++ ys)
 | [], k, xs, ys, h, h' => by simp [RowP] at h; subst h; simpa using h'
 | z :: l, k, xs, ys, h, h' => by obtain ⟨u, xs', rfl, hp, h⟩ := h; exact ⟨u, xs' ++ ys, rfl, hp, RowP.append h h'⟩
theorem RowP.imp {w w' : World} {Z Z' : Nat → Prop} (hs : ∀ u z, PV w Z u z → PV w' Z' u z) : ∀ {l : List (List Int)} {xs : List Value}, RowP w Z l xs → RowP w' Z' l xs
 | [], xs, h => h
 | z :: l, xs, h => by obtain ⟨u, xs', e, hp, h⟩ := h; exact ⟨u, xs', e, hs _ _ hp, RowP.imp hs h⟩
theorem RowP.get {w : World} {Z : Nat → Prop} : ∀ {l : List (List Int)} {xs : List Value}, RowP w Z l xs → ∀ i (h : i < l.length), ∃ u, xs[i]? = some u ∧ PV w Z u l[i]
 | [], xs, h, i, hi => by simp at hi
 | z :: l, xs, h, i, hi => by
  obtain ⟨u, xs', rfl, hp, h⟩ := h
  cases i with
  | zero => exact ⟨u, rfl, hp⟩
  | succ i => obtain ⟨u', h1, h2⟩ := RowP.get h i (by simpa using hi); exact ⟨u', by simpa using h1, h2⟩
theorem PV.one {w : World} {Z : Nat → Prop} {u : Value} {z : List Int} (h : PV w Z u z) : u.oneCell' = true := by obtain ⟨a, c, rfl, _⟩ := h; rfl
theorem Tryz.infoInt : (Tryz.prog.info? 3).map (fun i => (i.zero, i.size, i.bytes)) = some (some (.int .i64 0), 1, 8) := by kernel_rfl
theorem pv_of_own {w : World} {N T : Nat} {v : Value} {l : List Int} (h : w.ownsRow N T 1 v l.length (l.map fun z => .int .i64 z)) : PV w (fun b => N ≤ b ∧ v.ownBlock = some b) v l := by
 have h' := h
 obtain ⟨_, h1⟩ := h
 rcases h1 with ⟨rfl, h0⟩ | ⟨g, cap, cur, hv, hg, hh, hnc, hcm, _⟩
 ·have e : l = [] := List.length_eq_zero_iff.1 h0
  subst e
  exact ⟨none, 0, rfl, by simp, Or.inl rfl⟩
 ·unfold maxLen at hcm
  refine ⟨some ⟨g, 0, none⟩, cap, hv, ⟨by omega, hnc⟩, ?_⟩
  by_cases h0 : l = []
  ·exact Or.inl h0
  ·have hp : 0 < l.length := List.length_pos_iff.2 h0
   obtain ⟨g2, cap2, hv2, _, _, hc⟩ := owned_val h' hp
   rw [hv] at hv2
   simp at hv2
   obtain ⟨rfl, rfl⟩ := hv2
   exact Or.inr ⟨g, 0, rfl, ⟨hg, by rw [hv]; rfl⟩, fun i hi => by rw [Nat.zero_add]; exact hc i _ (by simp [hi])⟩
def putL (f : Tm → Tm) (i : Int) : Nat → List Tm → List Tm
 | _, [] => []
 | j, a :: r => (if (j : Int) = i then f a else a) :: putL f i (j + 1) r
def putT (x : Tm) : List Int → Tm → Tm
 | [], _ => x
 | i :: r, t => ⟨t.name, putL (putT x r) i 0 t.args⟩
theorem errL_all : ∀ (l : List Tm), errL l = 0 ↔ ∀ t ∈ l, errL [t] = 0
 | [] => by simp [errL]
 | t :: r => by
  rw [errL_cons]
  by_cases h : errL [t] = 0
  ·rw [if_pos h, errL_all r]
   simp [h]
  ·rw [if_neg h]
   simp [h]
theorem errL_one (t : Tm) (h : errL [t] = 0) : nameB t.name = true ∧ errL t.args = 0 ∧ (0 < t.args.length → varB t.name = false) := by
 obtain ⟨s, l⟩ := t
 have hn : nameB s = true := by
  cases hn : nameB s with
  | true => rfl
  | false => simp [errL, hn] at h
 have hl : errL l = 0 ∧ (0 < l.length → varB s = false) := by
  by_cases hl : 0 < l.length
  ·have hv : varB s = false := by
    cases hv : varB s with
    | false => rfl
    | true => simp [errL, hn, hv, hl] at h
   refine ⟨?_, fun _ => hv⟩
   simp only [errL, hn, hv] at h
   by_cases h0 : errL l = 0
   ·exact h0
   ·simp [h0] at h
  ·have e : l = [] := List.length_eq_zero_iff.1 (by omega)
   subst e
   exact ⟨by simp [errL], fun h => absurd h (by simp)⟩
 exact ⟨hn, hl⟩
theorem atT_cons {t y : Tm} {i : Int} {r : List Int} (h : atT t (i :: r) = some y) : ∃ (k : Nat) (hk : k < t.args.length), i = (k : Int) ∧ atT t.args[k] r = some y := by
 rw [atT] at h
 split at h
 ·rename_i hc
  exact ⟨i.toNat, hc.2, by omega, h⟩
 ·cases h
theorem atT_err : ∀ (p : List Int) (t y : Tm), errL [t] = 0 → atT t p = some y → errL [y] = 0
 | [], t, y, he, h => by cases h; exact he
 | i :: r, t, y, he, h => by
  obtain ⟨k, hk, rfl, h2⟩ := atT_cons h
  exact atT_err r _ y ((errL_all t.args).1 (errL_one t he).2.1 _ (List.getElem_mem hk)) h2
theorem putL_none (f : Tm → Tm) (i : Int) : ∀ (l : List Tm) (j : Nat), i < (j : Int) → putL f i j l = l
 | [], j, h => rfl
 | a :: r, j, h => by
  rw [putL, if_neg (by omega), putL_none f i r (j + 1) (by omega)]
theorem inB_memR {x : ByteArray} {l : List ByteArray} (h : inB x l = true) : x ∈ l := by
 unfold inB at h
 rw [List.any_eq_true] at h
 obtain ⟨y, hy, e⟩ := h
 have e2 : y = x := bytes_inj (by simpa using e)
 rw [← e2]; exact hy
def ruleE (p : Pr) : Int := if twoE p.l p.r = 0 then (if varB p.l.name = true then 2 else if (varsP [] (preL [p.r])).all (fun n => inB n (varsP [] (preL [p.l]))) = true then 0 else 15) else twoE p.l p.r
def rmT (ls : List Pr) : Nat → Int
 | 0 => 0
 | k + 1 => if rmT ls k = 0 then (match ls[k]? with | some p => ruleE p | none => 0) else rmT ls k
def rulesE (ls : List Pr) : Int := if 40 < ls.length then 3 else rmT ls ls.length
theorem rmT_stays {ls : List Pr} {k : Nat} (h : rmT ls k ≠ 0) : ∀ n, k ≤ n → rmT ls n = rmT ls k
 | 0, hn => by
  have : k = 0 := by omega
  subst this; rfl
 | n + 1, hn => by
  by_cases e : k = n + 1
  ·subst e; rfl
  ·have ih := rmT_stays h n (by omega)
   rw [rmT, if_neg (by rw [ih]; exact h)]
   exact ih
theorem rmT_next {ls : List Pr} {k : Nat} (hk : k < ls.length) (h0 : rmT ls k = 0) : rmT ls (k + 1) = ruleE ls[k] := by rw [rmT, if_pos h0, List.getElem?_eq_getElem hk]
theorem rmT_err {ls : List Pr} {k : Nat} (hk : k < ls.length) (h40 : ¬ 40 < ls.length) (h0 : rmT ls k = 0) (hne : ruleE ls[k] ≠ 0) : rulesE ls = ruleE ls[k] := by
 unfold rulesE
 rw [if_neg h40]
 have h1 := rmT_next hk h0
 rw [← h1]
 exact rmT_stays (by rw [h1]; exact hne) _ (by omega)
theorem rulesE_len {ls : List Pr} (h : rulesE ls = 0) : ls.length ≤ 40 := by
 unfold rulesE at h
 split at h
 ·cases h
 ·omega
theorem rulesE_all {ls : List Pr} (h : rulesE ls = 0) : ∀ p ∈ ls, ruleE p = 0 := by
 intro p hp
 obtain ⟨k, hk, rfl⟩ := List.getElem_of_mem hp
 have hl := rulesE_len h
 unfold rulesE at h
 rw [if_neg (by omega)] at h
 have h0 : ∀ n, n ≤ ls.length → rmT ls n = 0 := fun n hn => by
  by_cases e : rmT ls n = 0
  ·exact e
  ·have := rmT_stays e _ hn
   rw [this] at h
   exact absurd h e
 have h1 := rmT_next hk (h0 k (by omega))
 rw [h0 (k + 1) (by omega)] at h1
 exact h1.symm
theorem ruleE_parts {p : Pr} (h : ruleE p = 0) : mayE p.l = 0 ∧ mayE p.r = 0 ∧ varB p.l.name = false ∧ ∀ n ∈ varsP [] (preL [p.r]), n ∈ varsP [] (preL [p.l]) := by
 unfold ruleE at h
 split at h
 ·rename_i h1
  split at h
  ·cases h
  ·rename_i h2
   split at h
   ·rename_i h3
    unfold twoE at h1
    split at h1
    ·rename_i h4
     refine ⟨h4, h1, by simpa using h2, fun n hn => ?_⟩
     exact inB_memR (List.all_eq_true.1 h3 n hn)
    ·rename_i h4; exact absurd h1 h4
   ·cases h
 ·rename_i h1; exact absurd h h1
def fitT (p : Pr) (x : Tm) : Option Tm := (mtT p.l x []).map fun h => onT h p.r
theorem flat3_set (y : Bc) : ∀ (cs : List Bc) (i : Nat), i < cs.length → flat3 (cs.set i y) = (((flat3 cs).set (i * 3) (.string y.1.nm)).set (i * 3 + 1) (.string y.1.t.name)).set (i * 3 + 2) (.slice y.2.1 y.1.t.args.length y.2.2)
 | [], i, h => by simp at h
 | x :: r, 0, h => by simp [flat3, enc3]
 | x :: r, i + 1, h => by
  have ih := flat3_set y r i (by simpa using h)
  rw [List.set_cons_succ, flat3, flat3, ih]
  rw [show (i + 1) * 3 = i * 3 + 3 by omega, show i * 3 + 3 + 1 = (i * 3 + 1) + 3 by omega, show i * 3 + 3 + 2 = (i * 3 + 2) + 3 by omega]
  simp [enc3]
def put3 (w : World) (g i : Nat) (y : Bc) : World := (((w.setCell ⟨g, i * 3, none⟩ (.string y.1.nm)).setCell ⟨g, i * 3 + 1, none⟩ (.string y.1.t.name)).setCell ⟨g, i * 3 + 2, none⟩ (.slice y.2.1 y.1.t.args.length y.2.2))
theorem put3_block {w : World} {g i b : Nat} {y : Bc} (h : b ≠ g) : (put3 w g i y).heap[b]? = w.heap[b]? := by
 unfold put3
 rw [Below.heap_setCell _ _ _ _ (by simpa using h), Below.heap_setCell _ _ _ _ (by simpa using h), Below.heap_setCell _ _ _ _ (by simpa using h)]
theorem Sl.put3 {w : World} {N g n cap i : Nat} {Y : Nat → Prop} {a : Option Addr} {l : List Tm} {y : Bc} (h : Sl w (fun b => Y b ∨ (N ≤ b ∧ some b ≠ (Value.slice (some ⟨g, 0, none⟩) n cap).ownBlock)) a l) (hY : ∀ b, Y b → b < N) (hg : N ≤ g) : Sl (put3 w g i y) (fun b => Y b ∨ (N ≤ b ∧ some b ≠ (Value.slice (some ⟨g, 0, none⟩) n cap).ownBlock)) a l :=
 h.kept fun b hb => put3_block (by
  rcases hb with hb | hb
  ·have := hY b hb; omega
  ·intro e; exact hb.2 (by simp [Value.ownBlock, e]))
theorem BRow.put {w : World} {N : Nat} {Y : Nat → Prop} {cs : List Bc} {g n cap : Nat} (h : BRow w N Y (.slice (some ⟨g, 0, none⟩) n cap) cs) (hY : ∀ b, Y b → b < N) (i : Nat) (hi : i < cs.length) (y : Bc) (hy : Sl w (fun b => Y b ∨ (N ≤ b ∧ some b ≠ (Value.slice (some ⟨g, 0, none⟩) n cap).ownBlock)) y.2.1 y.1.t.args) : BRow (put3 w g i y) N Y (.slice (some ⟨g, 0, none⟩) n cap) (cs.set i y) := by
 have hNg : N ≤ g := (h.own.lt g rfl).1
 refine ⟨?_, fun x hx => ?_⟩
 ·rcases h.own.2 with ⟨e, _⟩ | ⟨g', cap', cur, e, hbase, hb, h1, h2, h3, h4⟩
  ·cases e
  ·simp at e
   obtain ⟨rfl, rfl, rfl⟩ := e
   have hB : Blk w g cur 50 := hb
   have hB' := ((hB.set (i * 3) (.string y.1.nm)).set (i * 3 + 1) (.string y.1.t.name)).set (i * 3 + 2) (.slice y.2.1 y.1.t.args.length y.2.2)
   refine ⟨flat3_length _, Or.inr ⟨g, cap, _, by simp, hbase, hB', by simpa using h1, h2, by simpa using h3, ?_⟩⟩
   rw [flat3_set y cs i hi, ← h4]
   simp [List.take_set]
 ·rcases List.mem_or_eq_of_mem_set hx with h1 | h1
  ·exact (h.row x h1).put3 hY hNg
  ·rw [h1]; exact hy.put3 hY hNg
theorem BRow.swap {w : World} {N : Nat} {Y : Nat → Prop} {A B : List Bc} {x y : Bc} {g n cap : Nat} (h : BRow w N Y (.slice (some ⟨g, 0, none⟩) n cap) ((A ++ [y]) ++ x :: B)) (hY : ∀ b, Y b → b < N) : BRow (put3 (put3 w g (A.length + 1) y) g A.length x) N Y (.slice (some ⟨g, 0, none⟩) n cap) (A ++ x :: y :: B) := by
 have hNg : N ≤ g := (h.own.lt g rfl).1
 have h1 := h.put hY (A.length + 1) (by simp) y (h.row y (by simp))
 have h2 := h1.put hY A.length (by simp) x ((h.row x (by simp)).put3 hY hNg)
 have e : (((A ++ [y]) ++ x :: B).set (A.length + 1) y).set A.length x = A ++ x :: y :: B := by
  rw [List.set_append_right _ _ (by simp)]
  simp [List.set_append_right]
 rw [e] at h2
 exact h2
def mtB (p t : Tm) : Bool := (mtT p t []).isSome
def OnS (w : World) (b o : Nat) (s : ByteArray) (a : Option Addr) (n c : Nat) (s1 : ByteArray) (v1 : Value) (w' : World) : Prop :=
 Blk w' w.heap.size #[.string s, .slice a n c] 32 ∧ w'.cell? ⟨b, o, none⟩ = some (.string s1) ∧ w'.cell? ⟨b, o + 1, none⟩ = some v1
theorem cell_same {w w' : World} {b i : Nat} {v : Value} (hb : w'.heap[b]? = w.heap[b]?) (h : w.cell? ⟨b, i, none⟩ = some v) : w'.cell? ⟨b, i, none⟩ = some v := by simpa [World.cell?, hb] using h
theorem OnS.below {w wr w1 : World} {b o n c : Nat} {s s1 : ByteArray} {a : Option Addr} {v1 : Value} (h : OnS w b o s a n c s1 v1 wr) (hb : Below wr.heap.size wr w1) (hlt : w.heap.size < wr.heap.size ∧ b < wr.heap.size) : OnS w b o s a n c s1 v1 w1 :=
 ⟨h.1.below hb hlt.1, cell_same (hb.block b hlt.2) h.2.1, cell_same (hb.block b hlt.2) h.2.2⟩
theorem OnS.alloc {w wr : World} {b o n c : Nat} {s s1 : ByteArray} {a : Option Addr} {v1 : Value} (h : OnS w b o s a n c s1 v1 wr) (x : Obj) : OnS w b o s a n c s1 v1 (wr.alloc x) :=
 ⟨h.1.alloc x, cell_same (Below.heap_alloc _ _ _ (cell_lt h.2.1)) h.2.1, cell_same (Below.heap_alloc _ _ _ (cell_lt h.2.1)) h.2.2⟩
theorem OnS.grown {w wr w3 : World} {b o n c : Nat} {s s1 : ByteArray} {a : Option Addr} {v1 : Value} {row : Option Nat} (h : OnS w b o s a n c s1 v1 wr) (hg : wr.grownBy w3 row) (hne : ∀ j, j ≤ w.heap.size → some j ≠ row) (hb : b < w.heap.size) (_ : True) : OnS w b o s a n c s1 v1 w3 :=
 ⟨h.1.grown hg (hne _ (Nat.le_refl _)), cell_same (hg.block b (cell_lt h.2.1) (hne b (by omega))) h.2.1, cell_same (hg.block b (cell_lt h.2.1) (hne b (by omega))) h.2.2⟩
theorem OnS.set {w wr : World} {b o n c : Nat} {s s1 : ByteArray} {a : Option Addr} {v1 : Value} {O i : Nat} (h : OnS w b o s a n c s1 v1 wr) (v : Value) (_ : True) (hO : w.heap.size ≠ O) (hb : b ≠ O) : OnS w b o s a n c s1 v1 (wr.setCell ⟨O, i, none⟩ v) :=
 ⟨h.1.setOther _ _ hO, cell_same (Below.heap_setCell _ _ _ _ (by simpa using hb)) h.2.1, cell_same (Below.heap_setCell _ _ _ _ (by simpa using hb)) h.2.2⟩
theorem hxb {w : World} {X : Nat → Prop} {b o : Nat} {l : List Tm} (h : Sl w X (some ⟨b, o, none⟩) l) (hl : 0 < l.length) : b < w.heap.size := by
 obtain ⟨_, h⟩ := h
 rcases h with rfl | ⟨b', o', e, h⟩
 ·simp at hl
 ·simp at e
  obtain ⟨rfl, rfl⟩ := e
  exact cell_lt (lies_get l b o h 0 hl).2.1
def PmInv (ls : List Pr) (w : World) (v : Value) (wr : World) : Prop := ∃ k : Nat, v = .int .i64 (k : Int) ∧ k ≤ ls.length ∧ pmT ls k = 0 ∧ Below w.heap.size w wr
theorem twoE_fst {a b : Tm} (h : mayE a ≠ 0) : twoE a b = mayE a := by unfold twoE; rw [if_neg h]
theorem twoE_snd {a b : Tm} (h : mayE a = 0) : twoE a b = mayE b := by unfold twoE; rw [if_pos h]
set_option maxHeartbeats 1000000 in
theorem ucheck_any (ls : List Pr) (u : Value) (w : World) (X : Nat → Prop) (hu : QV w X u ls) :
  Calls Tryz.prog 30 #[u] w fun e w' => e = .returned (.int .i64 (pairsE ls)) ∧ Below w.heap.size w w' := by
 have HU := hide (hu.mono (Y := fun b => X b ∧ b < w.heap.size) fun b h1 h2 => ⟨h1, h2⟩)
 obtain ⟨a, c, rfl, hl, hu2⟩ := hu
 clear hu2
 go_enter Tryz.func30, Tryz.ntmps30
 by_cases h40 : 40 < ls.length
 ·go_wp2_with fail
  go_ret
  exact ⟨ret_int (by unfold pairsE; rw [if_pos h40]), Below.refl _ _⟩
 ·go_wp2_with fail
  go_loopw [12] (fun v wr => PmInv ls w v wr) (fun v wr => ls.length - (intOf v).toNat)
  case atStart => exact ⟨0, rfl, Nat.zero_le _, rfl, Below.refl _ _⟩
  case round =>
   obtain ⟨k, rfl, hk, hT, hb⟩ := hrel
   have HB := hide hb
   have HT := hide hT
   clear hT
   by_cases hlt : k < ls.length
   ·obtain ⟨b, o, a1, c1, a2, c2, rfl, d0, d1, d2, d3, hs1, hs2⟩ := (HU.out.later hb).get k hlt
    have hlt2 : (k : Int) < (ls.length : Int) := by omega
    have hbA : Below wr.heap.size wr (wr.alloc (.cells #[.string ls[k].l.name, .slice a1 ls[k].l.args.length c1, .string ls[k].r.name, .slice a2 ls[k].r.args.length c2] 34)) := (Below.refl _ _).alloc (Nat.le_refl _) _
    have HX1 := hide (hs1.later hbA)
    have HX2 := hide (hs2.later hbA)
    have P1 := hide (Blk.new wr #[.string ls[k].l.name, .slice a1 ls[k].l.args.length c1, .string ls[k].r.name, .slice a2 ls[k].r.args.length c2] 34)
    have HB1 := hide (hb.trans (hbA.mono hb.size))
    have HY := hide (pmT_err hlt h40 HT.out)
    have HN := hide (pmT_next hlt HT.out)
    clear hs1 hs2 hb hbA
    generalize ls[k] = d at *
    go_wp2_with fail
    generalize wr.alloc (.cells #[.string d.l.name, .slice a1 d.l.args.length c1, .string d.r.name, .slice a2 d.r.args.length c2] 34) = w1 at *
    generalize wr.heap.size = P at *
    refine (check_any d.l _ _ _ ⟨a1, c1, rfl, HX1.out⟩).mono ?_
    rintro e w2 ⟨rfl, hb2⟩
    have HX3 := hide (HX2.out.later hb2)
    have HB2 := hide (HB1.out.trans (hb2.mono HB1.out.size))
    have p2 := cell_later hb2 (P1.out.cell 2)
    have p3 := cell_later hb2 (P1.out.cell 3)
    clear hb2
    by_cases hm : mayE d.l = 0
    ·have HM := hide (twoE_snd (b := d.r) hm)
     rw [hm]
     clear hm
     go_wp2_with fail
     refine (check_any d.r _ _ _ ⟨a2, c2, rfl, HX3.out⟩).mono ?_
     rintro e w3 ⟨rfl, hb3⟩
     have HB3 := hide (HB2.out.trans (hb3.mono HB2.out.size))
     clear hb3
     by_cases hm : mayE d.r = 0
     ·have HF : Hid (pmT ls (k + 1) = 0) := by unfold Hid; rw [HN.out, HM.out, hm]
      rw [hm]
      clear hm
      go_wp2_with fail
      go_roundw
      case rel => exact ⟨k + 1, by go_num, by omega, HF.out, HB3.out⟩
      case measure => simp [intOf]; omega
     ·have hm2 : (mayE d.r == 0) = false := by simpa using hm
      have HF : Hid (pairsE ls = mayE d.r) := by unfold Hid; rw [HY.out (by rw [HM.out]; exact hm), HM.out]
      clear hm
      go_wp2_with fail
      go_ret
      exact ⟨ret_int HF.out.symm, HB3.out⟩
    ·have hm2 : (mayE d.l == 0) = false := by simpa using hm
     have HF : Hid (pairsE ls = mayE d.l) := by unfold Hid; rw [HY.out (by rw [twoE_fst hm]; exact hm), twoE_fst hm]
     clear hm
     go_wp2_with fail
     go_ret
     exact ⟨ret_int HF.out.symm, HB2.out⟩
   ·have hkl : k = ls.length := by omega
    go_wp2_with fail
    go_ret
    exact ⟨ret_int (by unfold pairsE; rw [if_neg h40, ← hkl]; exact HT.out.symm), HB.out⟩
def RmInv (ls : List Pr) (w : World) (v : Value) (wr : World) : Prop := ∃ k : Nat, v = .int .i64 (k : Int) ∧ k ≤ ls.length ∧ rmT ls k = 0 ∧ Below w.heap.size w wr
theorem may200 {t : Tm} (h : mayE t = 0) : sizeL [t] ≤ 200 := by
 unfold mayE at h
 split at h
 ·exact absurd h (by decide)
 ·omega
def OutAt (w0 : World) (N : Nat) (q0 : Value) (ps : List (List Int)) (q : Value) (xs : List Value) (wr : World) : Prop :=
 wr.ownsRow N 59 1 q ps.length xs ∧ RowP wr (fun b => N ≤ b ∧ some b ≠ q.ownBlock) ps xs ∧ w0.grownBy wr q0.ownBlock ∧ (∀ k, q.ownBlock = some k → q0.ownBlock = some k ∨ w0.heap.size ≤ k)
theorem PV.grownBy {w w' : World} {Z : Nat → Prop} {u : Value} {z : List Int} {r : Option Nat} (h : PV w Z u z) (hg : w.grownBy w' r) (hZ : ∀ b, Z b → some b ≠ r) : PV w' Z u z := by
 have h1 : PV w (fun b => Z b ∧ b < w.heap.size) u z := h.mono fun b h1 h2 => ⟨h1, h2⟩
 have h2 : PV w' (fun b => Z b ∧ b < w.heap.size) u z := h1.kept fun b hx => hg.block b hx.2 (hZ b hx.1)
 exact h2.mono fun b hx _ => hx.1
theorem OutAt.mono {w0 w1 wr : World} {N : Nat} {q0 q1 q : Value} {ps ps1 : List (List Int)} {xs xs1 : List Value} (h : OutAt w0 N q0 ps1 q1 xs1 w1) (h1 : OutAt w1 N q1 ps q xs wr) : OutAt w0 N q0 ps q xs wr := by
 refine ⟨h1.1, h1.2.1, grown_trans h.2.2.1 h1.2.2.1 h.2.2.2, fun k hk => ?_⟩
 rcases h1.2.2.2 k hk with e | e
 ·exact h.2.2.2 k e
 ·exact Or.inr (Nat.le_trans h.2.2.1.size e)
theorem OutAt.later {w0 w1 w2 : World} {N : Nat} {q0 q : Value} {ps : List (List Int)} {xs : List Value} (h : OutAt w0 N q0 ps q xs w1) (hb : Below w1.heap.size w1 w2) : OutAt w0 N q0 ps q xs w2 :=
 ⟨h.1.kept (w' := w2) (row := none) ⟨hb.os, hb.tape, hb.output, hb.size, fun j hj _ => hb.block j hj⟩ (by rcases Option.eq_none_or_eq_some (Value.ownBlock q) with h | ⟨x, h⟩; exact Or.inl h; exact Or.inr (by rw [h]; simp)),
  h.2.1.imp fun u z hp => hp.later hb, grown_trans h.2.2.1 (grown_of_below hb q.ownBlock) h.2.2.2, h.2.2.2⟩
theorem OutAt.here {w1 : World} {N : Nat} {q0 q : Value} {ps : List (List Int)} {xs : List Value} {w0 : World} (h : OutAt w0 N q0 ps q xs w1) : OutAt w1 N q ps q xs w1 := ⟨h.1, h.2.1, grown_of_below (Below.refl _ _) _, fun _ h => Or.inl h⟩
set_option maxRecDepth 8000 in
theorem slice_tail_run (b o n pc : Nat) (hn : n + 1 ≤ pc) (w' : World) : Sem.run Tryz.prog (Instr.slice 59 (.slice (some ⟨b, o, none⟩) (n + 1) pc) (some (.int .i64 1)) none none) w' = .ok (.slice (if pc = 1 then some ⟨b, o, none⟩ else some ⟨b, o + 1, none⟩) n (pc - 1)) w' := by
 have hle1 : (1 : Int) ≤ (n : Int) + 1 := by omega
 have e1 : (1 : Int) ≤ ((n + 1 : Nat) : Int) := by omega
 rw [run_slice_l (P := Tryz.prog) (ht := Tryz.underlying59) (h0 := by omega) (h1 := e1)]
 by_cases hpc : pc = 1
 ·subst hpc
  simp [go_sem, sliced]
 ·simp [go_sem, sliced, hpc]
def Evs (P : World → Prop) (w : World) : Prop := ∀ w', Below w.heap.size w w' → P w'
theorem Evs.now {P : World → Prop} {w : World} (h : Evs P w) : P w := h w (Below.refl _ _)
theorem Evs.later {P : World → Prop} {w w' : World} (h : Evs P w) (hb : Below w.heap.size w w') : Evs P w' := fun w'' hb' => h w'' (hb.trans (hb'.mono hb.size))
theorem Evs.alloc {P : World → Prop} {w : World} (h : Evs P w) (o : Obj) : Evs P (w.alloc o) := h.later ((Below.refl _ _).alloc (Nat.le_refl _) o)
structure StF (Y : Nat → Prop) (rs : List Pr) (t : Tm) (ps : List (List Int)) (aa : Option Addr) (ca B3 g7 : Nat) (fv : Nat → Value) (u : Value) (W0 wr : World) : Prop where
 k1 : Blk wr B3 #[.string t.name, .slice aa t.args.length ca] 32
 s1 : Sl wr Y aa t.args
 pl : ∀ i (h : i < ps.length), wr.cell? ⟨g7, i, none⟩ = some (fv i) ∧ PV wr Y (fv i) ps[i]
 qv : QV wr Y u rs
 bl : Below W0.heap.size W0 wr
theorem cell_term_new (w : World) (a b : Value) (T : Nat) : ∀ j u, ([a, b] : List Value)[j]? = some u → (w.alloc (.cells #[a, b] T)).cell? ((⟨w.heap.size, 0, none⟩ : Addr).add j) = some u := fun j u h => by
 have hb := Blk.new w #[a, b] T
 have h1 : (⟨w.heap.size, 0, none⟩ : Addr).add j = ⟨w.heap.size, j, none⟩ := by
  by_cases h0 : j = 0
  ·subst h0; simp [Addr.add]
  ·simp [Addr.add, h0]
 rw [h1, hb.cell j]
 simpa using h
theorem terms_append {w w1 : World} {N : Nat} {Y : Nat → Prop} {v : Value} {l : List Tm} {xs : List Value} (h : Row w N 32 Y v l xs) (hN : N ≤ w.heap.size) (hY : ∀ b, Y b → b < N) (hb : Below w.heap.size w w1) (t : Tm) (a : Option Addr) (c : Nat) (ht : Sl w1 (fun b => Y b ∨ w.heap.size ≤ b) a t.args) (hn : l.length ≤ 1000000) :
  ∃ g cap w3, (Builtin.append_ #[30, 30] 30 #[v, .slice (some ⟨w1.heap.size, 0, none⟩) 1 1]).run Tryz.prog (w1.alloc (.cells #[.string t.name, .slice a t.args.length c] 32)) = .ok (.slice (some ⟨g, 0, none⟩) (l.length + 1) cap) w3 ∧ Row w3 N 32 Y (.slice (some ⟨g, 0, none⟩) (l.length + 1) cap) (l ++ [t]) (xs ++ [.string t.name, .slice a t.args.length c]) ∧ (w1.alloc (.cells #[.string t.name, .slice a t.args.length c] 32)).grownBy w3 v.ownBlock ∧ (v.ownBlock = some g ∨ g = (w1.alloc (.cells #[.string t.name, .slice a t.args.length c] 32)).heap.size) := by
 obtain ⟨i0, hi, hz0, hz1, hz2⟩ := info_parts Tryz.infoTerm
 have hbs := hb.size
 obtain ⟨g, cap, w3, hr, ho, hg, hat, hlt⟩ := run_append_lies (P := Tryz.prog) (w := w1.alloc (.cells #[.string t.name, .slice a t.args.length c] 32)) 30 30 N 32 i0 _ 2 40 Tryz.underlying30 hi hz0 hz1 hz2 rfl (by decide) v l.length xs ((h.below hb).own.alloc _)
  ⟨w1.heap.size, 0, none⟩ 1 1 [.string t.name, .slice a t.args.length c] rfl (cell_term_new _ _ _ _) (fun y hy => by simp at hy; rcases hy with rfl | rfl <;> rfl) (by decide) (by unfold maxLen; omega) (by omega) (by simp; omega) _ rfl
 exact ⟨g, cap, w3, hr, h.push hN hY hb ⟨a, c, rfl, ht⟩ _ rfl ho hg hat, hg, hat⟩
def fitsB (rs : List Pr) (x : Tm) : Bool := rs.any fun r => mtB r.l x
def okAt (rs : List Pr) (inner : Bool) (x : Tm) : Bool := fitsB rs x && (!inner || ((preL [x]).drop 1).all fun y => !fitsB rs y)
def okP (rs : List Pr) (inner : Bool) (t : Tm) (p : List Int) : Bool := match atT t p with
 | some x => okAt rs inner x
 | none => false
def nextP (rs : List Pr) (inner : Bool) (t : Tm) : Option (List Int) := (plcT t).find? (okP rs inner t)
def fstT (rs : List Pr) (x : Tm) : Option Tm := rs.findSome? fun r => fitT r x
theorem fstT_none {rs : List Pr} {x : Tm} : fstT rs x = none ↔ fitsB rs x = false := by
 unfold fstT fitsB
 rw [List.findSome?_eq_none_iff, List.any_eq_false]
 constructor
 ·intro h r hr
  have := h r hr
  unfold fitT at this
  unfold mtB
  cases hm : mtT r.l x [] with
  | none => simp
  | some g => rw [hm] at this; cases this
 ·intro h r hr
  have := h r hr
  unfold mtB at this
  unfold fitT
  cases hm : mtT r.l x [] with
  | none => rfl
  | some g => rw [hm] at this; simp at this
def nextT (rs : List Pr) (inner : Bool) (t : Tm) : Option Tm := (nextP rs inner t).bind fun p => (atT t p).bind fun x => (fstT rs x).map fun y => putT y p t
def endP (rs : List Pr) (inner : Bool) : Nat → Tm → Int × Tm × Nat
 | 0, t => match nextT rs inner t with
  | none => (0, t, 0)
  | some _ => (9, ⟨⟨#[]⟩, []⟩, 0)
 | m + 1, t => match nextT rs inner t with
  | none => (0, t, 0)
  | some t' => if 2000 < sizeL [t'] then (8, ⟨⟨#[]⟩, []⟩, 0) else
   match endP rs inner m t' with
   | (e, x, n) => if e = 0 then (0, x, n + 1) else (e, ⟨⟨#[]⟩, []⟩, 0)
theorem endP_none {rs : List Pr} {inner : Bool} {m : Nat} {t : Tm} (h : nextT rs inner t = none) : endP rs inner m t = (0, t, 0) := by
 cases m <;> simp [endP, h]
theorem endP_zero {rs : List Pr} {inner : Bool} {t t' : Tm} (h : nextT rs inner t = some t') : endP rs inner 0 t = (9, ⟨⟨#[]⟩, []⟩, 0) := by simp [endP, h]
theorem endP_full {rs : List Pr} {inner : Bool} {m : Nat} {t t' : Tm} (h : nextT rs inner t = some t') (hz : 2000 < sizeL [t']) : endP rs inner (m + 1) t = (8, ⟨⟨#[]⟩, []⟩, 0) := by
 rw [endP, h]
 simp only
 rw [if_pos hz]
def shiftN (k : Nat) (r : Int × Tm × Nat) : Int × Tm × Nat := if r.1 = 0 then (0, r.2.1, r.2.2 + k) else (r.1, ⟨⟨#[]⟩, []⟩, 0)
theorem endP_step {rs : List Pr} {inner : Bool} {m : Nat} {t t' : Tm} (h : nextT rs inner t = some t') (hz : sizeL [t'] ≤ 2000) : endP rs inner (m + 1) t = shiftN 1 (endP rs inner m t') := by
 rw [endP, h]
 simp only
 rw [if_neg (by omega)]
 rfl
theorem endP_form (rs : List Pr) (inner : Bool) : ∀ (m : Nat) (t : Tm), (endP rs inner m t).1 = 0 ∨ endP rs inner m t = (9, ⟨⟨#[]⟩, []⟩, 0) ∨ endP rs inner m t = (8, ⟨⟨#[]⟩, []⟩, 0)
 | m, t => by
  cases h : nextT rs inner t with
  | none => rw [endP_none h]; exact Or.inl rfl
  | some t' =>
   cases m with
   | zero => rw [endP_zero h]; exact Or.inr (Or.inl rfl)
   | succ m =>
    by_cases hz : 2000 < sizeL [t']
    ·rw [endP_full h hz]; exact Or.inr (Or.inr rfl)
    ·rw [endP_step h (by omega)]
     rcases endP_form rs inner m t' with h1 | h1 | h1
     ·unfold shiftN; rw [if_pos h1]; exact Or.inl rfl
     ·rw [h1]; exact Or.inr (Or.inl rfl)
     ·rw [h1]; exact Or.inr (Or.inr rfl)
theorem shiftN_zero {r : Int × Tm × Nat} (h : r.1 = 0 ∨ r = (9, ⟨⟨#[]⟩, []⟩, 0) ∨ r = (8, ⟨⟨#[]⟩, []⟩, 0)) : shiftN 0 r = r := by
 unfold shiftN
 rcases h with h | h | h
 ·rw [if_pos h]; obtain ⟨e, x, n⟩ := r; simp at h; subst h; rfl
 ·subst h; rfl
 ·subst h; rfl
theorem shiftN_add (a b : Nat) (r : Int × Tm × Nat) : shiftN a (shiftN b r) = shiftN (b + a) r := by
 unfold shiftN
 by_cases h : r.1 = 0
 ·simp [h, Nat.add_assoc]
 ·simp [h]
theorem shiftN_err (k : Nat) (e : Int) (h : e ≠ 0) : shiftN k (e, ⟨⟨#[]⟩, []⟩, 0) = (e, ⟨⟨#[]⟩, []⟩, 0) := by
 unfold shiftN
 rw [if_neg h]
def nxL (rs : List Pr) (inner : Bool) : Nat → List Tm → Option (List Int)
 | _, [] => none
 | j, t :: r => match nextP rs inner t with
  | some p => some ((j : Int) :: p)
  | none => nxL rs inner (j + 1) r
theorem atT_kid {s : ByteArray} {pre l : List Tm} {t : Tm} {p : List Int} : atT ⟨s, pre ++ t :: l⟩ ((pre.length : Int) :: p) = atT t p := by
 rw [atT]
 have h : 0 ≤ (pre.length : Int) ∧ ((pre.length : Int)).toNat < (pre ++ t :: l).length := by simp
 rw [dif_pos h]
 simp
theorem okP_kid {rs : List Pr} {inner : Bool} {s : ByteArray} {pre l : List Tm} {t : Tm} {p : List Int} : okP rs inner ⟨s, pre ++ t :: l⟩ ((pre.length : Int) :: p) = okP rs inner t p := by
 unfold okP
 rw [atT_kid]
theorem find_mapR {f : List Int → Bool} {g : List Int → List Int} : ∀ (l : List (List Int)), (l.map g).find? f = (l.find? (fun p => f (g p))).map g
 | [] => rfl
 | p :: l => by
  rw [List.map_cons, List.find?_cons, List.find?_cons]
  cases f (g p) with
  | true => rfl
  | false => exact find_mapR l
theorem findL_nx {rs : List Pr} {inner : Bool} {s : ByteArray} : ∀ (l pre : List Tm), (plcL pre.length l).find? (okP rs inner ⟨s, pre ++ l⟩) = nxL rs inner pre.length l
 | [], pre => by simp [plcL, nxL]
 | t :: r, pre => by
  rw [plcL_cons, List.find?_append, find_mapR]
  have e1 : (fun p => okP rs inner ⟨s, pre ++ t :: r⟩ ((pre.length : Int) :: p)) = okP rs inner t := funext fun p => okP_kid
  rw [e1]
  have e2 := findL_nx (rs := rs) (inner := inner) (s := s) r (pre ++ [t])
  rw [List.length_append] at e2
  simp only [List.length_singleton, List.append_assoc, List.singleton_append] at e2
  rw [e2]
  unfold nextP at *
  rw [nxL]
  unfold nextP
  cases (plcT t).find? (okP rs inner t) with
  | none => rfl
  | some p => rfl
theorem nextP_eq (rs : List Pr) (inner : Bool) (t : Tm) : nextP rs inner t = if okAt rs inner t = true then some [] else nxL rs inner 0 t.args := by
 obtain ⟨s, l⟩ := t
 have e := findL_nx (rs := rs) (inner := inner) (s := s) l []
 simp only [List.length_nil, List.nil_append] at e
 unfold nextP plcT
 rw [List.find?_cons]
 have e0 : okP rs inner ⟨s, l⟩ [] = okAt rs inner ⟨s, l⟩ := by simp [okP, atT]
 rw [e0, e]
 cases okAt rs inner ⟨s, l⟩ <;> rfl
def noFit (rs : List Pr) (l : List Tm) : Prop := ∀ y ∈ preL l, fitsB rs y = false
theorem preL_consR (t : Tm) (r : List Tm) : preL (t :: r) = t :: (preL t.args ++ preL r) := by
 obtain ⟨s, l⟩ := t
 simp [preL]
theorem noFit_cons {rs : List Pr} {t : Tm} {r : List Tm} : noFit rs (t :: r) ↔ fitsB rs t = false ∧ noFit rs t.args ∧ noFit rs r := by
 unfold noFit
 rw [preL_consR]
 constructor
 ·intro h
  exact ⟨h _ (by simp), fun y hy => h y (by simp [hy]), fun y hy => h y (by simp [hy])⟩
 ·rintro ⟨h1, h2, h3⟩ y hy
  simp only [List.mem_cons, List.mem_append] at hy
  rcases hy with rfl | hy | hy
  ·exact h1
  ·exact h2 y hy
  ·exact h3 y hy
theorem noFit_one {rs : List Pr} {t : Tm} : noFit rs [t] ↔ fitsB rs t = false ∧ noFit rs t.args := by
 rw [noFit_cons]
 constructor
 ·rintro ⟨h1, h2, _⟩; exact ⟨h1, h2⟩
 ·rintro ⟨h1, h2⟩; exact ⟨h1, h2, fun y hy => by simp [preL] at hy⟩
theorem noFit_mem {rs : List Pr} {l : List Tm} : noFit rs l ↔ ∀ t ∈ l, noFit rs [t] := by
 induction l with
 | nil => simp [noFit, preL]
 | cons t r ih =>
  rw [noFit_cons, ih]
  constructor
  ·rintro ⟨h1, h2, h3⟩ x hx
   rcases List.mem_cons.1 hx with rfl | hx
   ·exact noFit_one.2 ⟨h1, h2⟩
   ·exact h3 x hx
  ·intro h
   have h0 := noFit_one.1 (h t (by simp))
   exact ⟨h0.1, h0.2, fun x hx => h x (by simp [hx])⟩
theorem nxL_none {rs : List Pr} {inner : Bool} : ∀ (l : List Tm) (j : Nat), nxL rs inner j l = none ↔ ∀ t ∈ l, nextP rs inner t = none
 | [], j => by simp [nxL]
 | t :: r, j => by
  rw [nxL]
  cases h : nextP rs inner t with
  | some p => simp [h]
  | none => simp [h, nxL_none r (j + 1)]
theorem nextP_none (rs : List Pr) (inner : Bool) (t : Tm) : nextP rs inner t = none ↔ noFit rs [t] := by
 refine Tm.ind (P := fun t => nextP rs inner t = none ↔ noFit rs [t]) (fun s l ih => ?_) t
 have hl : nxL rs inner 0 l = none ↔ noFit rs l := by
  rw [nxL_none, noFit_mem]
  exact ⟨fun h t ht => (ih t ht).1 (h t ht), fun h t ht => (ih t ht).2 (h t ht)⟩
 rw [nextP_eq, noFit_one]
 simp only
 have hok : noFit rs l → okAt rs inner ⟨s, l⟩ = fitsB rs ⟨s, l⟩ := fun hn => by
  unfold okAt
  have e : (((preL [(⟨s, l⟩ : Tm)]).drop 1).all fun y => !fitsB rs y) = true := by
   rw [preL_consR]
   simp only [List.drop_succ_cons, List.drop_zero, List.all_eq_true, List.mem_append]
   rintro y (hy | hy)
   ·rw [hn y hy]; rfl
   ·simp [preL] at hy
  rw [e]
  simp
 constructor
 ·intro h
  by_cases h1 : okAt rs inner ⟨s, l⟩ = true
  ·rw [if_pos h1] at h; cases h
  ·rw [if_neg h1] at h
   have h2 := hl.1 h
   rw [hok h2] at h1
   exact ⟨by simpa using h1, h2⟩
 ·rintro ⟨h1, h2⟩
  rw [if_neg (by rw [hok h2, h1]; simp)]
  exact hl.2 h2
theorem nextP_at {rs : List Pr} {inner : Bool} {t : Tm} {p : List Int} (h : nextP rs inner t = some p) : ∃ x, atT t p = some x ∧ okAt rs inner x = true := by
 have h1 := List.find?_some h
 unfold okP at h1
 cases hx : atT t p with
 | none => rw [hx] at h1; cases h1
 | some x => rw [hx] at h1; exact ⟨x, rfl, h1⟩
theorem okAt_fits {rs : List Pr} {inner : Bool} {x : Tm} (h : okAt rs inner x = true) : fitsB rs x = true := by
 unfold okAt at h
 rw [Bool.and_eq_true] at h
 exact h.1
theorem nextT_some {rs : List Pr} {inner : Bool} {t : Tm} {p : List Int} (h : nextP rs inner t = some p) : ∃ x y, atT t p = some x ∧ fstT rs x = some y ∧ nextT rs inner t = some (putT y p t) := by
 obtain ⟨x, hx, hok⟩ := nextP_at h
 cases hf : fstT rs x with
 | none => rw [fstT_none, okAt_fits hok] at hf; cases hf
 | some y => exact ⟨x, y, hx, hf, by unfold nextT; rw [h]; simp [hx, hf]⟩
theorem nextT_none (rs : List Pr) (inner : Bool) (t : Tm) : nextT rs inner t = none ↔ noFit rs [t] := by
 rw [← nextP_none rs inner]
 constructor
 ·intro h
  cases hp : nextP rs inner t with
  | none => rfl
  | some p => obtain ⟨x, y, _, _, h2⟩ := nextT_some hp; rw [h2] at h; cases h
 ·intro h; unfold nextT; rw [h]; rfl
theorem nxL_first {rs : List Pr} {inner : Bool} {a : Tm} {post : List Tm} {p : List Int} (ha : nextP rs inner a = some p) : ∀ (pre : List Tm) (j : Nat), noFit rs pre → nxL rs inner j (pre ++ a :: post) = some (((j + pre.length : Nat) : Int) :: p)
 | [], j, _ => by simp [nxL, ha]
 | t :: r, j, h => by
  have h1 := noFit_mem.1 h
  rw [List.cons_append, nxL, (nextP_none rs inner t).2 (h1 t (by simp))]
  simp only
  rw [nxL_first ha r (j + 1) (noFit_mem.2 fun x hx => h1 x (by simp [hx]))]
  simp [Nat.add_assoc, Nat.add_comm 1]
theorem putT_kid {s : ByteArray} {pre post : List Tm} {a y : Tm} {p : List Int} : putT y ((pre.length : Int) :: p) ⟨s, pre ++ a :: post⟩ = ⟨s, pre ++ putT y p a :: post⟩ := by
 rw [putT]
 congr 1
 have key : ∀ (pre : List Tm) (j : Nat), putL (putT y p) ((j + pre.length : Nat) : Int) j (pre ++ a :: post) = pre ++ putT y p a :: post := by
  intro pre
  induction pre with
  | nil =>
   intro j
   simp only [List.nil_append, List.length_nil, Nat.add_zero]
   rw [putL]
   rw [if_pos rfl, putL_none _ _ _ _ (by omega)]
  | cons t r ih =>
   intro j
   rw [List.cons_append, putL, if_neg (by simp; omega), List.cons_append]
   congr 1
   have := ih (j + 1)
   rw [show j + 1 + r.length = j + (t :: r).length by simp; omega] at this
   exact this
 have := key pre 0
 rw [Nat.zero_add] at this
 exact this
theorem inner_kid {rs : List Pr} {s : ByteArray} {pre post : List Tm} {a a' : Tm} (hpre : noFit rs pre) (h : nextT rs true a = some a') : nextT rs true ⟨s, pre ++ a :: post⟩ = some ⟨s, pre ++ a' :: post⟩ := by
 cases hp : nextP rs true a with
 | none => unfold nextT at h; rw [hp] at h; cases h
 | some p =>
  obtain ⟨x, y, hx, hf, h2⟩ := nextT_some hp
  rw [h2] at h
  cases h
  have hno : okAt rs true ⟨s, pre ++ a :: post⟩ = false := by
   unfold okAt
   rw [Bool.and_eq_false_iff]
   right
   simp only [Bool.not_true, Bool.false_or]
   rw [Bool.eq_false_iff]
   intro hall
   rw [List.all_eq_true] at hall
   have h3 : noFit rs [a] := fun z hz => by
    have := hall z (by
     rw [preL_consR]
     simp only [List.drop_succ_cons, List.drop_zero, List.mem_append]
     left
     rw [preL_append]
     rw [preL_consR]
     rw [preL_consR] at hz
     simp only [List.mem_append, List.mem_cons] at hz ⊢
     rcases hz with rfl | hz | hz
     ·exact Or.inr (Or.inl rfl)
     ·exact Or.inr (Or.inr (Or.inl hz))
     ·simp [preL] at hz)
    simpa using this
   rw [(nextP_none rs true a).2 h3] at hp
   cases hp
  have hn : nextP rs true ⟨s, pre ++ a :: post⟩ = some ((pre.length : Int) :: p) := by
   rw [nextP_eq, if_neg (by rw [hno]; simp)]
   simp only
   rw [nxL_first hp pre 0 hpre, Nat.zero_add]
  unfold nextT
  rw [hn]
  simp only [Option.bind_some]
  rw [atT_kid, hx]
  simp only [Option.bind_some]
  rw [hf]
  simp only [Option.map_some]
  rw [putT_kid]
theorem inner_top {rs : List Pr} {s : ByteArray} {l : List Tm} (hl : noFit rs l) : nextT rs true ⟨s, l⟩ = fstT rs ⟨s, l⟩ := by
 cases hf : fstT rs ⟨s, l⟩ with
 | none =>
  rw [nextT_none, noFit_one]
  exact ⟨fstT_none.1 hf, hl⟩
 | some y =>
  have hfit : fitsB rs ⟨s, l⟩ = true := by
   cases h : fitsB rs ⟨s, l⟩ with
   | true => rfl
   | false => rw [fstT_none.2 h] at hf; cases hf
  have hok : okAt rs true ⟨s, l⟩ = true := by
   unfold okAt
   rw [hfit]
   simp only [Bool.not_true, Bool.false_or, Bool.true_and]
   rw [List.all_eq_true, preL_consR]
   simp only [List.drop_succ_cons, List.drop_zero, List.mem_append]
   rintro z (hz | hz)
   ·rw [hl z hz]; rfl
   ·simp [preL] at hz
  unfold nextT
  rw [nextP_eq, if_pos hok]
  simp [atT, hf, putT]
def CtxZ (rs : List Pr) (C : Tm → Tm) (k : Nat) : Prop := (∀ a a', nextT rs true a = some a' → nextT rs true (C a) = some (C a')) ∧ ∀ a, sizeL [C a] = sizeL [a] + k
theorem CtxZ.id (rs : List Pr) : CtxZ rs (fun a => a) 0 := ⟨fun _ _ h => h, fun _ => rfl⟩
theorem CtxZ.kid {rs : List Pr} {C : Tm → Tm} {k : Nat} (h : CtxZ rs C k) {s : ByteArray} {pre post : List Tm} (hpre : noFit rs pre) : CtxZ rs (fun a => C ⟨s, pre ++ a :: post⟩) (1 + sizeL pre + sizeL post + k) := by
 refine ⟨fun a a' ha => h.1 _ _ (inner_kid hpre ha), fun a => ?_⟩
 show sizeL [C ⟨s, pre ++ a :: post⟩] = _
 rw [h.2]
 have e : sizeL (pre ++ a :: post) = sizeL pre + (sizeL [a] + sizeL post) := by
  rw [sizeL_append]
  have := sizeL_append [a] post
  rw [← this]; rfl
 have : sizeL [(⟨s, pre ++ a :: post⟩ : Tm)] = 1 + sizeL (pre ++ a :: post) := by simp [sizeL]
 omega
theorem step_append_eq {P : Program} {ops : Array Oper} {o : Oper} {a : Act} {K : Act → World → Prop} {Q : Exit → Act → World → Prop} {E : Prop} {w w' : World} {v u v' : Value} (hgd : o.guard = none) (s x : Operand) (t t' : TypeId)
  (ho : o.op = .call { callee := .builtin .append, args := #[s, x], argTypes := #[t, t'] }) (hs : a.eval s = v) (hx : a.eval x = u)
  (hr : (Builtin.append_ #[t, t'] o.type #[v, u]).run P w = .ok v' w') (h : K (a.put o.dst v') w') : if Region.wanted o (yielded ops a.tmps) = true then Oper.wp P o a w K Q else E := by
 have hw : Region.wanted o (yielded ops a.tmps) = true := by simp [Region.wanted, hgd]
 rw [if_pos hw]
 unfold Oper.wp execOp
 simp only [ho, resolve, invoke, builtin, Sem.run_bind, Sem.run_pure, Result.andThen_ok, List.map_toArray, List.map_cons, List.map_nil, hs, hx, hr]
 exact h
theorem own_far {w : World} {N N' T T' n m : Nat} {q u : Value} {xs ys : List Value} (h : w.ownsRow N T 1 q n xs) (h' : w.ownsRow N' T' 1 u m ys) (hT : T ≠ T') (k : Nat) (hk : q.ownBlock = some k) : u.ownBlock ≠ some k := by
 intro e
 obtain ⟨_, h⟩ := h
 obtain ⟨_, h'⟩ := h'
 rcases h with ⟨rfl, _⟩ | ⟨g, cap, cur, rfl, _, hg, _⟩
 ·simp [Value.ownBlock] at hk
 ·rcases h' with ⟨rfl, _⟩ | ⟨g', cap', cur', rfl, _, hg', _⟩
  ·simp [Value.ownBlock] at e
  ·simp [Value.ownBlock] at hk e
   subst hk; subst e
   rw [hg] at hg'; simp at hg'; exact hT hg'.2
def Ext (W W' : World) (u u' : Value) (n : Nat) : Prop :=
 (∃ g cap, u = .slice (some ⟨g, 0, none⟩) n cap ∧ u' = .slice (some ⟨g, 0, none⟩) (n + 1) cap) ∨ ((∀ k, u'.ownBlock = some k → W.heap.size ≤ k) ∧ Below W.heap.size W W')
theorem here_step {W : World} {N : Nat} {u : Value} {hs : List Int} (h : W.ownsRow N 3 1 u hs.length (hs.map fun z => .int .i64 z)) (hN : N ≤ W.heap.size) (i : Int) (F : Nat) (hF : W.heap[F]? = some (.cells #[.int .i64 i] 3 (0, 0))) (hn : hs.length ≤ 1000000) :
  ∃ u' W', (Builtin.append_ #[59, 59] 59 #[u, .slice (some ⟨F, 0, none⟩) 1 1]).run Tryz.prog W = .ok u' W' ∧ W'.ownsRow N 3 1 u' (hs ++ [i]).length ((hs ++ [i]).map fun z => .int .i64 z) ∧ W.grownBy W' u.ownBlock ∧ Ext W W' u u' hs.length := by
 obtain ⟨i0, hi, hz0, hz1, hz2⟩ := info_parts Tryz.infoInt
 have hFc : W.cell? ⟨F, 0, none⟩ = some (.int .i64 i) := by simp [World.cell?, hF]
 have hsrc : Src Tryz.prog i0.size 59 (.slice (some ⟨F, 0, none⟩) 1 1) 1 [.int .i64 i] W := by
  rw [hz1]
  refine Src.ofSlice W Tryz.underlying59 ⟨F, 0, none⟩ 1 1 _ (by simp) (fun j v hj => ?_) (by intro v hv; simp at hv; subst hv; rfl)
  match j, hj with
  | 0, hj => simp at hj; subst hj; simpa [Addr.add] using hFc
 have h' := h
 obtain ⟨hl, h1⟩ := h
 have grow : ∀ (base : Option Addr) (cap : Nat), u = .slice base hs.length cap → (Builtin.firstCells i0.size hs.length (.slice base hs.length cap)).run Tryz.prog W.drew = .ok (hs.map fun z => Value.int .i64 z).toArray W.drew → cap < hs.length + 1 → cap ≤ 1000000 → 
   ∃ u' W', (Builtin.append_ #[59, 59] 59 #[u, .slice (some ⟨F, 0, none⟩) 1 1]).run Tryz.prog W = .ok u' W' ∧ W'.ownsRow N 3 1 u' (hs ++ [i]).length ((hs ++ [i]).map fun z => .int .i64 z) ∧ W.grownBy W' u.ownBlock ∧ Ext W W' u u' hs.length := by
  intro base cap hu hfc hcap hcm
  subst hu
  have hg := run_append_grow_src (P := Tryz.prog) W 59 59 59 3 i0 (.int .i64 0) Tryz.underlying59 hi hz0 base hs.length cap _ hfc _ 1 _ hsrc (by omega) (by omega) (by rw [hz2]; exact growslice_fits (by omega) (by omega))
  have hge := grownCap_ge W (hs.length + 1) cap 3
  have hcm := grownCap_le_maxLen W (hs.length + 1) cap 3 (by unfold maxLen; omega)
  have hbl : Below W.heap.size W (W.drew.alloc (.cells (((hs.map fun z => Value.int .i64 z) ++ [Value.int .i64 i]).toArray ++ Builtin.zeroCells (Value.int .i64 0).cells (grownCap W (hs.length + 1) cap 3 - (hs.length + 1))) 3)) := ((Below.refl W.heap.size W).drew).alloc (Nat.le_refl _) _
  refine ⟨_, _, hg, ⟨by simp, Or.inr ⟨W.heap.size, _, _, by simp, hN, heap_alloc_new W.drew _, by simp; omega, hcm, ?_, ?_⟩⟩, grown_of_below hbl _, Or.inr ⟨fun k hk => ?_, hbl⟩⟩
  ·simp [Builtin.zeroCells, Value.cells]; omega
  ·rw [Array.toList_append, List.take_append_of_le_length (by simp), List.take_of_length_le (by simp)]; simp
  ·simp [Value.ownBlock] at hk; omega
 rcases h1 with ⟨hu, h0⟩ | ⟨g, cap, cur, hu, hgN, hgb, hnc, hcm, hcs, htk⟩
 ·have e : hs = [] := List.length_eq_zero_iff.1 h0
  subst e
  exact grow none 0 hu (by simp [Builtin.firstCells, go_sem]) (by simp) (by omega)
 ·by_cases hroom : hs.length + 1 ≤ cap
  ·subst hu
   simp only [Nat.mul_one] at hcs htk
   have hgl : g < W.heap.size := (h'.lt g rfl).2
   have hnz : hs.length < cur.size := by omega
   have hg := run_append_room_src (P := Tryz.prog) W 59 59 59 3 i0 Tryz.underlying59 hi g 0 hs.length cap _ 1 _ hsrc hroom (fun j hj => by simp at hj; subst hj; rw [hz1]; simp [World.cell?, hgb, hnz]) (fun j hj => by simp at hj; subst hj; rw [hz1]; simp [World.frozen?, hgb])
   rw [hz1] at hg
   simp only [World.setCells, Nat.zero_add, Nat.mul_one] at hg
   refine ⟨_, _, hg, ⟨by simp, Or.inr ⟨g, cap, cur.setIfInBounds hs.length (.int .i64 i), by simp, hgN, ?_, by simpa using hroom, hcm, by simp [hcs], ?_⟩⟩, ⟨rfl, rfl, rfl, by simp [World.setCell], fun k hk hkb => Below.heap_setCell _ _ _ _ (by simp [Value.ownBlock] at hkb; simpa using hkb)⟩, Or.inl ⟨g, cap, rfl, rfl⟩⟩
   ·simp [World.setCell, Array.getElem?_modify, hgb]
   ·simp only [Array.toList_setIfInBounds, List.length_append, List.length_singleton, Nat.mul_one, List.map_append, List.map_cons, List.map_nil]
    rw [List.take_succ_eq_append_getElem (by simpa using hnz), List.take_set_of_le (by omega), htk]
    simp
  ·exact grow (some ⟨g, 0, none⟩) cap hu (by
    have hc := h'.cells (g := g) (by rw [hu]; rfl)
    exact run_firstCells_some (P := Tryz.prog) W.drew i0.size hs.length ⟨g, 0, none⟩ hs.length cap _ (by rw [hz1]; simp) (fun j v hj => hc j v hj)) (by omega) (by omega)
def Fr2 (A : Nat) (w w' : World) (q u : Value) : Prop :=
 w'.os = w.os ∧ w'.tape = w.tape ∧ w'.output = w.output ∧ w.heap.size ≤ w'.heap.size ∧ ∀ b, b < w.heap.size → b ≠ A → some b ≠ q.ownBlock → some b ≠ u.ownBlock → w'.heap[b]? = w.heap[b]?
theorem Fr2.of_below {A : Nat} {w w' : World} (hb : Below w.heap.size w w') (q u : Value) : Fr2 A w w' q u := ⟨hb.os, hb.tape, hb.output, hb.size, fun k hk _ _ _ => hb.block k hk⟩
theorem Fr2.of_grown' {A : Nat} {w w' : World} {u : Value} (hb : w.grownBy w' u.ownBlock) (q : Value) : Fr2 A w w' q u := ⟨hb.os, hb.tape, hb.output, hb.size, fun k hk _ _ h => hb.block k hk h⟩
theorem Fr2.trans {A : Nat} {w w1 w2 : World} {q q1 u u1 : Value} (h : Fr2 A w w1 q u) (h1 : Fr2 A w1 w2 q1 u1) (hq : ∀ k, q1.ownBlock = some k → q.ownBlock = some k ∨ w.heap.size ≤ k) (hu : ∀ k, u1.ownBlock = some k → u.ownBlock = some k ∨ w.heap.size ≤ k) : Fr2 A w w2 q u :=
 ⟨h1.1.trans h.1, h1.2.1.trans h.2.1, h1.2.2.1.trans h.2.2.1, Nat.le_trans h.2.2.2.1 h1.2.2.2.1, fun b hb hbA hbq hbu => (h1.2.2.2.2 b (Nat.lt_of_lt_of_le hb h.2.2.2.1) hbA
  (fun e => by rcases hq b e.symm with h2 | h2; exact hbq h2.symm; omega) (fun e => by rcases hu b e.symm with h2 | h2; exact hbu h2.symm; omega)).trans (h.2.2.2.2 b hb hbA hbq hbu)⟩
theorem Fr2.own {A : Nat} {w w' : World} {q u v : Value} {N T n : Nat} {xs : List Value} (hAN : A < N) (h : Fr2 A w w' q u) (hv : w.ownsRow N T 1 v n xs) (hq : ∀ k, v.ownBlock = some k → q.ownBlock ≠ some k) (hu : ∀ k, v.ownBlock = some k → u.ownBlock ≠ some k) : w'.ownsRow N T 1 v n xs := by
 have hlt := hv.lt
 obtain ⟨h1, h2⟩ := hv
 refine ⟨h1, h2.imp id ?_⟩
 rintro ⟨g, cap, cur, rfl, hg, hh, hr⟩
 exact ⟨g, cap, cur, rfl, hg, by rw [h.2.2.2.2 g (hlt g rfl).2 (by have := (hlt g rfl).1; omega) (fun e => hq g rfl e.symm) (fun e => hu g rfl e.symm)]; exact hh, hr⟩
def PlAt (A : Nat) (w0 : World) (N : Nat) (q0 u : Value) (hs : List Int) (Y : Nat → Prop) (ps : List (List Int)) (q : Value) (xs : List Value) (wr : World) : Prop :=
 wr.ownsRow N 59 1 q ps.length xs ∧ wr.ownsRow N 3 1 u hs.length (hs.map fun z => .int .i64 z) ∧ RowP wr (fun b => N ≤ b ∧ some b ≠ q.ownBlock ∧ some b ≠ u.ownBlock ∧ ¬ Y b) ps xs ∧ Fr2 A w0 wr q0 u ∧ (∀ k, q.ownBlock = some k → q0.ownBlock = some k ∨ w0.heap.size ≤ k)
theorem pl_ne : (59 : Nat) ≠ 3 := by decide
theorem PlAt.far {A : Nat} {w0 wr : World} {N : Nat} {q0 q u : Value} {hs : List Int} {Y : Nat → Prop} {ps : List (List Int)} {xs : List Value} (h : PlAt A w0 N q0 u hs Y ps q xs wr) (k : Nat) (hk : q.ownBlock = some k) : u.ownBlock ≠ some k := own_far h.1 h.2.1 pl_ne k hk
theorem PlAt.far' {A : Nat} {w0 wr : World} {N : Nat} {q0 q u : Value} {hs : List Int} {Y : Nat → Prop} {ps : List (List Int)} {xs : List Value} (h : PlAt A w0 N q0 u hs Y ps q xs wr) (k : Nat) (hk : u.ownBlock = some k) : q.ownBlock ≠ some k := own_far h.2.1 h.1 (Ne.symm pl_ne) k hk
theorem PlAt.later {A : Nat} {w0 w1 w2 : World} {N : Nat} {q0 q u : Value} {hs : List Int} {Y : Nat → Prop} {ps : List (List Int)} {xs : List Value} (hAN : A < N) (h : PlAt A w0 N q0 u hs Y ps q xs w1) (hb : Below w1.heap.size w1 w2) : PlAt A w0 N q0 u hs Y ps q xs w2 := by
 refine ⟨Fr2.own hAN (Fr2.of_below (A := A) hb (.slice none 0 0) (.slice none 0 0)) h.1 (by simp [Value.ownBlock]) (by simp [Value.ownBlock]), Fr2.own hAN (Fr2.of_below (A := A) hb (.slice none 0 0) (.slice none 0 0)) h.2.1 (by simp [Value.ownBlock]) (by simp [Value.ownBlock]), h.2.2.1.imp fun u z hp => hp.later hb, h.2.2.2.1.trans (Fr2.of_below hb q u) h.2.2.2.2 (fun k h => Or.inl h), h.2.2.2.2⟩
theorem PlAt.here {A : Nat} {w0 w1 : World} {N : Nat} {q0 q u : Value} {hs : List Int} {Y : Nat → Prop} {ps : List (List Int)} {xs : List Value} (h : PlAt A w0 N q0 u hs Y ps q xs w1) : PlAt A w1 N q u hs Y ps q xs w1 := ⟨h.1, h.2.1, h.2.2.1, Fr2.of_below (Below.refl _ _) _ _, fun _ h => Or.inl h⟩
theorem PlAt.store {A : Nat} {w0 wr : World} {N : Nat} {q0 q u : Value} {hs : List Int} {Y : Nat → Prop} {ps : List (List Int)} {xs : List Value} (hAN : A < N) (h : PlAt A w0 N q0 u hs Y ps q xs wr) (v : Value) : PlAt A w0 N q0 u hs Y ps q xs (wr.setCell ⟨A, 0, none⟩ v) := by
 have hf : Fr2 A wr (wr.setCell ⟨A, 0, none⟩ v) (.slice none 0 0) (.slice none 0 0) := ⟨rfl, rfl, rfl, by simp [World.setCell], fun b hb hA _ _ => Below.heap_setCell _ _ _ _ (by simpa using hA)⟩
 refine ⟨Fr2.own hAN hf h.1 (by simp [Value.ownBlock]) (by simp [Value.ownBlock]), Fr2.own hAN hf h.2.1 (by simp [Value.ownBlock]) (by simp [Value.ownBlock]), h.2.2.1.imp fun x z hp => hp.kept fun b hb => Below.heap_setCell _ _ _ _ (by have := hb.1; simp; omega), h.2.2.2.1.trans hf (by simp [Value.ownBlock]) (by simp [Value.ownBlock]), h.2.2.2.2⟩
theorem here_back {A : Nat} {W W' W'' : World} {N : Nat} {q u u' : Value} {hs : List Int} {i : Int} (hAN : A < N) (h : W.ownsRow N 3 1 u hs.length (hs.map fun z => .int .i64 z)) (hg : W.grownBy W' u.ownBlock) (he : Ext W W' u u' hs.length) (h' : W''.ownsRow N 3 1 u' (hs ++ [i]).length ((hs ++ [i]).map fun z => .int .i64 z)) (hf : Fr2 A W' W'' q u') (hq : ∀ k, u.ownBlock = some k → q.ownBlock ≠ some k) :
  W''.ownsRow N 3 1 u hs.length (hs.map fun z => .int .i64 z) := by
 rcases he with ⟨g, cap, rfl, rfl⟩ | ⟨hnew, hbl⟩
 ·obtain ⟨_, h1⟩ := h
  obtain ⟨_, h2⟩ := h'
  rcases h1 with ⟨h1, _⟩ | ⟨g1, cap1, cur1, h1, hN, _, hnc, hcm, _, _⟩
  ·simp at h1
  ·rcases h2 with ⟨h2, _⟩ | ⟨g2, cap2, cur2, h2, _, hh, _, _, hcs, htk⟩
   ·simp at h2
   ·simp at h1 h2
    obtain ⟨rfl, rfl⟩ := h1
    obtain ⟨rfl, rfl⟩ := h2
    refine ⟨by simp, Or.inr ⟨g, cap, cur2, rfl, hN, hh, hnc, hcm, hcs, ?_⟩⟩
    have h3 := congrArg (List.take hs.length) htk
    rw [List.take_take] at h3
    simpa [List.take_append_of_le_length, Nat.min_eq_left] using h3
 ·have hlt := h.lt
  exact Fr2.own hAN ((Fr2.of_below hbl q u').trans hf (fun k h => Or.inl h) (fun k h => Or.inl h)) h hq (fun k hk e => by have := hnew k e; have := (hlt k hk).2; omega)
theorem PlAt.down {A : Nat} {w0 wr W W' : World} {N : Nat} {q0 q u u' : Value} {hs : List Int} {Y : Nat → Prop} {ps : List (List Int)} {xs : List Value} {i : Int} (hAN : A < N) (h : PlAt A w0 N q0 u hs Y ps q xs wr) (hb : Below wr.heap.size wr W) (h' : W'.ownsRow N 3 1 u' (hs ++ [i]).length ((hs ++ [i]).map fun z => .int .i64 z)) (hg : W.grownBy W' u.ownBlock) (he : Ext W W' u u' hs.length) :
  PlAt A W' N q u' (hs ++ [i]) (fun b => b < wr.heap.size ∧ (Y b ∨ some b = u.ownBlock)) ps q xs W' := by
 have h2 := PlAt.later hAN h hb
 have hltu := h.2.1.lt
 have hs1 := hb.size
 have hu : ∀ b, b < wr.heap.size → some b = u'.ownBlock → some b = u.ownBlock := fun b hb e => by
  rcases he with ⟨g, cap, rfl, rfl⟩ | ⟨hnew, _⟩
  ·simpa [Value.ownBlock] using e
  ·have := hnew b e.symm; omega
 refine ⟨Fr2.own hAN (Fr2.of_grown' (A := A) hg (.slice none 0 0)) h2.1 (by simp [Value.ownBlock]) h2.far, h', h.2.2.1.imp fun x z hp => ?_, Fr2.of_below (Below.refl _ _) _ _, fun _ h => Or.inl h⟩
 refine ((hp.mono (Y := fun b => (N ≤ b ∧ some b ≠ q.ownBlock ∧ some b ≠ u.ownBlock ∧ ¬ Y b) ∧ b < wr.heap.size) fun b h1 h2 => ⟨h1, h2⟩).kept (w' := W') fun b hx => ?_).mono fun b hx _ => ⟨hx.1.1, hx.1.2.1, fun e => hx.1.2.2.1 (hu b hx.2 e), fun e => ?_⟩
 ·rw [hg.block b (by omega) hx.1.2.2.1, hb.block b hx.2]
 ·rcases e.2 with e | e
  ·exact hx.1.2.2.2 e
  ·exact hx.1.2.2.1 e
theorem PlAt.up {A : Nat} {w0 wr W W' W'' : World} {N : Nat} {q0 q q' u u' : Value} {hs : List Int} {Y : Nat → Prop} {ps ps' : List (List Int)} {xs xs' : List Value} {i : Int} (hAN : A < N) (h : PlAt A w0 N q0 u hs Y ps q xs wr) (hY : ∀ b, Y b → b < wr.heap.size) (hb : Below wr.heap.size wr W) (hg : W.grownBy W' u.ownBlock) (he : Ext W W' u u' hs.length)
  (h' : PlAt A W' N q u' (hs ++ [i]) (fun b => b < wr.heap.size ∧ (Y b ∨ some b = u.ownBlock)) ps' q' xs' W'') : PlAt A w0 N q0 u hs Y ps' q' xs' W'' := by
 have h2 := PlAt.later hAN h hb
 have hltu := h.2.1.lt
 have hs1 := hb.size
 have hs2 := hg.size
 have hs0 := h.2.2.2.1.2.2.2.1
 have hext : ∀ k, u'.ownBlock = some k → u.ownBlock = some k ∨ W.heap.size ≤ k := fun k hk => by
  rcases he with ⟨g, cap, rfl, rfl⟩ | ⟨hnew, _⟩
  ·exact Or.inl hk
  ·exact Or.inr (hnew k hk)
 refine ⟨h'.1, here_back hAN h2.2.1 hg he h'.2.1 h'.2.2.2.1 h2.far', h'.2.2.1.imp fun x z hp => hp.mono fun b hx _ => ⟨hx.1, hx.2.1, fun e => hx.2.2.2 ⟨(hltu b e.symm).2, Or.inr e⟩, fun e => hx.2.2.2 ⟨hY b e, Or.inl e⟩⟩, ?_, fun k hk => ?_⟩
 ·exact h2.2.2.2.1.trans ((Fr2.of_grown' hg q).trans h'.2.2.2.1 (fun k h => Or.inl h) hext) h2.2.2.2.2 (fun k h => Or.inl h)
 ·rcases h'.2.2.2.2 k hk with e | e
  ·exact h.2.2.2.2 k e
  ·right; omega
abbrev Dn := List Int × Tm
def hdN (q : List Int) : Nat := (q.headD 0).toNat
def dnL : List Int → Nat → Nat → List Int → List Tm → List Dn
 | _, _, _, _, [] => []
 | hs, j, st, r, ⟨s, l⟩ :: rest => (if j < st then [] else (hs ++ [(j : Int)], ⟨s, l⟩) :: dnL (hs ++ [(j : Int)]) 0 (hdN (if j = st then r else [])) (if j = st then r else []).tail l) ++ dnL hs (j + 1) st r rest
def dnT (hs fs : List Int) (t : Tm) : List Dn := (hs, t) :: dnL hs 0 (hdN fs) fs.tail t.args
theorem dnL_cons (hs : List Int) (j st : Nat) (r : List Int) (t : Tm) (rest : List Tm) : dnL hs j st r (t :: rest) = (if j < st then [] else dnT (hs ++ [(j : Int)]) (if j = st then r else []) t) ++ dnL hs (j + 1) st r rest := by
 obtain ⟨s, l⟩ := t
 rw [dnL]
 rfl
theorem dnL_append (hs : List Int) (st : Nat) (r : List Int) (a b : List Tm) : ∀ j, dnL hs j st r (a ++ b) = dnL hs j st r a ++ dnL hs (j + a.length) st r b := by
 induction a with
 | nil => intro j; simp [dnL]
 | cons t a ih =>
  intro j
  rw [List.cons_append, dnL_cons, dnL_cons, ih, List.append_assoc, List.length_cons]
  congr 3
  omega
theorem dnL_take (hs : List Int) (st : Nat) (r : List Int) (l : List Tm) (k : Nat) (h : k < l.length) (hst : st ≤ k) : dnL hs 0 st r (l.take (k + 1)) = dnL hs 0 st r (l.take k) ++ dnT (hs ++ [(k : Int)]) (if k = st then r else []) l[k] := by
 rw [List.take_succ_eq_append_getElem h, dnL_append, dnL_cons]
 have e : 0 + (l.take k).length = k := by rw [List.length_take]; omega
 rw [e, if_neg (by omega)]
 simp [dnL]
theorem dnL_before (hs : List Int) (st : Nat) (r : List Int) : ∀ (l : List Tm) (j : Nat), j + l.length ≤ st → dnL hs j st r l = []
 | [], _, _ => by simp [dnL]
 | t :: l, j, h => by
  rw [dnL_cons, dnL_before hs st r l (j + 1) (by simp at h; omega), if_pos (by simp at h; omega)]
  rfl
theorem here_backQ {W W' W'' : World} {N : Nat} {u u' : Value} {hs : List Int} {i : Int} {Q : Nat → Prop} (h : W.ownsRow N 3 1 u hs.length (hs.map fun z => .int .i64 z)) (hg : W.grownBy W' u.ownBlock) (he : Ext W W' u u' hs.length) (h' : W''.ownsRow N 3 1 u' (hs ++ [i]).length ((hs ++ [i]).map fun z => .int .i64 z)) (hf : ExQ Q W' W'') (hq : ∀ k, u.ownBlock = some k → u'.ownBlock ≠ some k → ¬ Q k) :
  W''.ownsRow N 3 1 u hs.length (hs.map fun z => .int .i64 z) := by
 rcases he with ⟨g, cap, rfl, rfl⟩ | ⟨hnew, hbl⟩
 ·obtain ⟨_, h1⟩ := h
  obtain ⟨_, h2⟩ := h'
  rcases h1 with ⟨h1, _⟩ | ⟨g1, cap1, cur1, h1, hN, _, hnc, hcm, _, _⟩
  ·simp at h1
  ·rcases h2 with ⟨h2, _⟩ | ⟨g2, cap2, cur2, h2, _, hh, _, _, hcs, htk⟩
   ·simp at h2
   ·simp at h1 h2
    obtain ⟨rfl, rfl⟩ := h1
    obtain ⟨rfl, rfl⟩ := h2
    refine ⟨by simp, Or.inr ⟨g, cap, cur2, rfl, hN, hh, hnc, hcm, hcs, ?_⟩⟩
    have h3 := congrArg (List.take hs.length) htk
    rw [List.take_take] at h3
    simpa [List.take_append_of_le_length, Nat.min_eq_left] using h3
 ·have hlt := h.lt
  refine ownsRow_at h fun g hk => ?_
  have hl := (hlt g hk).2
  have hs2 := hbl.size
  rw [hf.block g (by omega) (hq g hk (fun e => by have := hnew g e; omega)), hbl.block g hl]
def rndPost (l : Nat) (r rb rd : Loop) (Post : Bool → World → Prop) : Exit → Act → World → Prop
 | .normal, _, w3 => w3.heap[l]? = some (.loop rb) ∧ Post true (w3.putObj l (.loop r))
 | .ret, _, w3 => w3.heap[l]? = some (.loop rb) ∧ Post false (w3.putObj l (.loop rd))
 | _, _, _ => False
theorem yield_two {P : Program} {n l : Nat} {r : Loop} {args : Array Value} {W : World} {Post : Bool → World → Prop} {assign body : Code} {ps : Array Tmp} {tmps : Array Value} {rb rd : Loop} (hrbz : rb = { r with state := .busy }) (hrdz : rd = { r with state := .done, pending := some .ret }) (hra : r.assign = assign) (hrb : r.body = body) (hrp : r.params = ps) (hrt : r.tmps = tmps) (hl : W.heap[l]? = some (.loop r)) (hr : r.state = .ready) (hp0 : r.pending = none) (hps : args.size = ps.size)
  (h : assign.wpIn (Fence.wide.inRound l) n P (Exit.then (fun a₁ w₁ => w₁.heap[l]? = some (.loop r) ∧ body.wpIn (Fence.wide.inRound l) n P (rndPost l r rb rd Post) a₁ (w₁.putObj l (.loop rb))) (fun _ _ _ => False)) { tmps := (ps.zip args).foldl (fun t (p, v) => t.setIfInBounds p v) tmps, defers := [] } W) :
  YieldAt Fence.wide n P l args W fun e W' => ∃ s, e = .returned (.bool s) ∧ Post s W' := by
 subst hrbz; subst hrdz; subst hra; subst hrb; subst hrp; subst hrt
 refine ⟨r.fn, _, r.assign, r.body, run_yield hl hps, roundIn_of_wpIn trivial (wpIn_mono h ?_)⟩
 rintro e a w1 hp
 cases e with
 | normal =>
  obtain ⟨h1, h2⟩ := hp
  refine ⟨_, run_beginRound h1 hr, wpIn_mono h2 ?_⟩
  rintro e3 a3 w3 h3
  cases e3 with
  | normal =>
   obtain ⟨h3, h4⟩ := h3
   refine ⟨_, _, run_endRound none h3, true, rfl, ?_⟩
   have e4 : ({ r with state := .ready, pending := none } : Loop) = r := by
    obtain ⟨_, _, _, _, _, _, _, _⟩ := r
    simp at hr hp0
    subst hr; subst hp0
    rfl
   have e5 : ({ ({ r with state := .busy } : Loop) with state := if (none : Option Code).isNone then .ready else .done, pending := none } : Loop) = r := by rw [← e4]; rfl
   rw [e5]
   exact h4
  | ret =>
   obtain ⟨h3, h4⟩ := h3
   exact ⟨_, _, run_endRound (some .ret) h3, false, rfl, h4⟩
  | exit id => exact h3.elim
  | goto t => exact h3.elim
  | panic c => exact h3.elim
  | outgrown => exact h3.elim
 | ret => exact hp.elim
 | exit id => exact hp.elim
 | goto t => exact hp.elim
 | panic c => exact hp.elim
 | outgrown => exact hp.elim
theorem wp_range2 {P : Program} {n : Nat} {g : Operand} {ps : Array Tmp} {assign body : Code} {Q : Exit → Act → World → Prop} {a : Act} {w : World} {gf : Nat} {lb : Array Value} (hg : a.eval g = .func (.func gf) #[] lb) (eg : ∀ args w, (callFunc gf args).run P w = .ok (.enter gf args) w)
  (h : ∀ (r : Loop), r.state = .ready → r.pending = none → r.tmps = a.tmps → r.params = ps → r.assign = assign → r.body = body → 
   Calls P gf (#[.func (.yield (w.heap.size + 1)) #[] #[]] ++ lb) ((w.alloc (.deferred (some []))).alloc (.loop r)) fun e W => (∃ v, e = .returned v) ∧ ((W.heap[w.heap.size + 1]? = some (.loop r) ∧ Q .normal { a with defers := { target := .collected w.heap.size, args := #[] } :: a.defers } (W.putObj (w.heap.size + 1) (.loop { r with state := .exhausted }))) ∨
    (W.heap[w.heap.size + 1]? = some (.loop { r with state := .done, pending := some .ret }) ∧ Q .ret { a with defers := { target := .collected w.heap.size, args := #[] } :: a.defers } (W.putObj (w.heap.size + 1) (.loop { r with state := .exhausted, pending := some .ret }))))) :
  (Code.rangeFunc g ps assign body).wpIn Fence.wide n P Q a w := by
 refine wpIn_rangeFunc ?_
 intro fn hfn
 obtain ⟨r, hr⟩ : ∃ r : Loop, r = { state := .ready, pending := none, fn, tmps := a.tmps, params := ps, assign, body, defers := w.heap.size } := ⟨_, rfl⟩
 refine ⟨w.heap.size + 1, [{ target := .collected w.heap.size, args := #[] }], (w.alloc (.deferred (some []))).alloc (.loop r), { target := .fn (.func gf) lb, args := #[.func (.yield (w.heap.size + 1)) #[] #[]] }, (w.alloc (.deferred (some []))).alloc (.loop r), gf, #[.func (.yield (w.heap.size + 1)) #[] #[]] ++ lb, (w.alloc (.deferred (some []))).alloc (.loop r), ?_, ?_, ?_, ?_, ?_, ?_⟩
 ·rw [hr]; exact run_enterLoop_outer _ _ _ _ _
 ·simp only [resolve, hg]
  simp [go_sem]
 ·intro f' hf'; trivial
 ·simp [invoke, go_sem, eg]
 ·intro h; simp [Fence.wide] at h
 ·refine (callsIn_wide.2 (h r (by rw [hr]) (by rw [hr]) (by rw [hr]) (by rw [hr]) (by rw [hr]) (by rw [hr]))).mono ?_
  rintro e W ⟨⟨v, rfl⟩, hc⟩
  rcases hc with ⟨hl, hq⟩ | ⟨hl, hq⟩
  ·have e1 := run_endLoop (P := P) hl (by rw [hr]; simp)
   have e2 : r.pending = none := by rw [hr]
   exact ⟨none, _, e1.trans (by rw [e2]), hq⟩
  ·have e1 := run_endLoop (P := P) hl (by simp)
   exact ⟨some .ret, _, e1, wpIn_ret hq⟩
abbrev Tk (α : Type) := List α → Bool → (Nat → Prop) → World → Prop
structure TkOk {α : Type} (J : Tk α) (K : Nat → Prop) : Prop where
 inside : ∀ {pre s f W}, J pre s f W → ∀ b, f b ∨ K b → b < W.heap.size
 apart : ∀ {pre s f W}, J pre s f W → ∀ b, K b → ¬ f b
 abide : ∀ {pre s f W W'}, J pre s f W → W.heap.size ≤ W'.heap.size → (∀ b, f b ∨ K b → W'.heap[b]? = W.heap[b]?) → J pre s f W'
theorem TkOk.exq {α : Type} {J : Tk α} {K : Nat → Prop} (h : TkOk J K) {pre : List α} {s : Bool} {f g : Nat → Prop} {W W' : World} (hj : J pre s f W) (he : ExQ g W W') (hg : ∀ b, f b ∨ K b → ¬ g b) : J pre s f W' :=
 h.abide hj he.size fun b hb => he.block b (h.inside hj b hb) (hg b hb)
def Rnd {α : Type} (lp : Nat) (L : α → Array Value → World → (Nat → Prop) → Prop) (J : Tk α) (all : List α) : Prop :=
 ∀ (n : Nat) (pre : List α) (x : α) (args : Array Value) (Z f : Nat → Prop) (W : World), (pre ++ [x]) <+: all → J pre true f W → L x args W Z → (∀ b, Z b → b < W.heap.size ∧ ¬ f b) →
  YieldAt Fence.wide n Tryz.prog lp args W fun e W' => ∃ s, e = .returned (.bool s) ∧ ∃ f', J (pre ++ [x]) s f' W' ∧ ExQ f W W' ∧ ∀ b, f' b → f b ∨ W.heap.size ≤ b
def IfNo (s : Bool) (P : Prop) : Prop := s = false → P
def RndS {α : Type} (lp : Nat) (L : α → Array Value → World → (Nat → Prop) → Prop) (J : Tk α) (all : List α) (S : World → Prop) : Prop :=
 ∀ (n : Nat) (pre : List α) (x : α) (args : Array Value) (Z f : Nat → Prop) (W : World), (pre ++ [x]) <+: all → J pre true f W → L x args W Z → (∀ b, Z b → b < W.heap.size ∧ ¬ f b) →
  YieldAt Fence.wide n Tryz.prog lp args W fun e W' => ∃ s, e = .returned (.bool s) ∧ ∃ f', J (pre ++ [x]) s f' W' ∧ ExQ f W W' ∧ (∀ b, f' b → f b ∨ W.heap.size ≤ b) ∧ IfNo s (S W')
def StopOk (S : World → Prop) : Prop := ∀ (W W' : World), S W → W.heap.size ≤ W'.heap.size → (∀ b, b < W.heap.size → W'.heap[b]? = W.heap[b]? ∨ (∃ r, W.heap[b]? = some (.loop r)) ∨ ∃ d, W.heap[b]? = some (.deferred d)) → S W'
theorem StopOk.put {S : World → Prop} (h : StopOk S) {W : World} (hs : S W) {l : Nat} {r : Loop} (hl : W.heap[l]? = some (.loop r)) (o : Obj) : S (W.putObj l o) :=
 h _ _ hs (by simp) fun b hb => by
  by_cases e : b = l
  ·subst e; exact Or.inr (Or.inl ⟨r, hl⟩)
  ·exact Or.inl (World.putObj_heap_other e)
theorem Rnd.toS {α : Type} {lp : Nat} {L : α → Array Value → World → (Nat → Prop) → Prop} {J : Tk α} {all : List α} (h : Rnd lp L J all) : RndS lp L J all (fun _ => True) := by
 intro n pre x args Z f W h1 h2 h3 h4
 obtain ⟨hfn, htmps, hasg, hbody, hy, hR⟩ := h n pre x args Z f W h1 h2 h3 h4
 refine ⟨hfn, htmps, hasg, hbody, hy, RoundIn.mono hR ?_⟩
 rintro e W' ⟨s, he, f', a, b, c⟩
 exact ⟨s, he, f', a, b, c, fun _ => trivial⟩
def Went {α : Type} (J : Tk α) (all pre : List α) (f g : Nat → Prop) (W : World) (s : Bool) (W' : World) : Prop :=
 ∃ (m : Nat) (f' : Nat → Prop), m ≤ all.length ∧ (s = true → m = all.length) ∧ J (pre ++ all.take m) s f' W' ∧ ExQ (fun b => f b ∨ g b) W W' ∧ ∀ b, f' b → f b ∨ W.heap.size ≤ b
theorem Went.nil {α : Type} {J : Tk α} {pre : List α} {f g : Nat → Prop} {W : World} (h : J pre true f W) : Went J [] pre f g W true W :=
 ⟨0, f, Nat.le_refl _, fun _ => rfl, by simpa using h, ExQ.refl _ _, fun b hb => Or.inl hb⟩
theorem Went.one {α : Type} {J : Tk α} {pre : List α} {x : α} {f f' g : Nat → Prop} {W W' : World} {s : Bool} (h : J (pre ++ [x]) s f' W') (he : ExQ f W W') (hf : ∀ b, f' b → f b ∨ W.heap.size ≤ b) : Went J [x] pre f g W s W' :=
 ⟨1, f', by simp, fun _ => rfl, by simpa using h, he.mono fun b hb _ => Or.inl hb, hf⟩
theorem Went.end_true {α : Type} {J : Tk α} {all pre : List α} {f g : Nat → Prop} {W W' : World} (h : Went J all pre f g W true W') : ∃ f', J (pre ++ all) true f' W' ∧ ExQ (fun b => f b ∨ g b) W W' ∧ ∀ b, f' b → f b ∨ W.heap.size ≤ b := by
 obtain ⟨m, f', hm, hs, hj, he, hf⟩ := h
 obtain rfl := hs rfl
 exact ⟨f', by simpa using hj, he, hf⟩
theorem Went.trans {α : Type} {J : Tk α} {a1 a2 pre : List α} {f f1 g g2 : Nat → Prop} {W W1 W2 : World} {s : Bool} (hj : J (pre ++ a1) true f1 W1) (he : ExQ (fun b => f b ∨ g b) W W1) (hf : ∀ b, f1 b → f b ∨ W.heap.size ≤ b) (h : Went J a2 (pre ++ a1) f1 g2 W1 s W2) (hg : ∀ b, g2 b → g b ∨ W.heap.size ≤ b) : Went J (a1 ++ a2) pre f g W s W2 := by
 obtain ⟨m, f', hm, hs, hj2, he2, hf2⟩ := h
 refine ⟨a1.length + m, f', by simp; omega, fun h => by simp [hs h], ?_, he.transN he2 ?_, ?_⟩
 ·rw [List.take_append, List.take_of_length_le (by omega)]
  simpa [List.append_assoc] using hj2
 ·rintro i hi hl
  rcases hi with hi | hi
  ·rcases hf i hi with h | h
   ·exact Or.inl h
   ·omega
  ·rcases hg i hi with h | h
   ·exact Or.inr h
   ·omega
 ·intro b hb
  have := he.size
  rcases hf2 b hb with h | h
  ·exact hf b h
  ·right; omega
theorem Went.stop {α : Type} {J : Tk α} {a1 a2 pre : List α} {f g : Nat → Prop} {W W' : World} (h : Went J a1 pre f g W false W') : Went J (a1 ++ a2) pre f g W false W' := by
 obtain ⟨m, f', hm, hs, hj, he, hf⟩ := h
 exact ⟨m, f', by simp; omega, by simp, by rw [List.take_append_of_le_length hm]; exact hj, he, hf⟩
theorem Went.mono {α : Type} {J : Tk α} {a pre : List α} {f g g' : Nat → Prop} {W W' : World} {s : Bool} (h : Went J a pre f g W s W') (hg : ∀ b, g b → b < W.heap.size → g' b) : Went J a pre f g' W s W' := by
 obtain ⟨m, f', hm, hs, hj, he, hf⟩ := h
 exact ⟨m, f', hm, hs, hj, he.mono fun b hb hl => hb.imp id (fun h => hg b h hl), hf⟩
theorem Went.exq {α : Type} {J : Tk α} {a pre : List α} {f g : Nat → Prop} {W W' : World} {s : Bool} (h : Went J a pre f g W s W') : ExQ (fun b => f b ∨ g b) W W' := by
 obtain ⟨_, _, _, _, _, he, _⟩ := h
 exact he
theorem Went.from {α : Type} {J : Tk α} {a pre : List α} {f g g' : Nat → Prop} {W0 W W' : World} {s : Bool} (h : Went J a pre f g W s W') (he : ExQ g' W0 W) (hg : ∀ b, g b → g' b ∨ W0.heap.size ≤ b) : Went J a pre f g' W0 s W' := by
 obtain ⟨m, f', hm, hs, hj, he2, hf⟩ := h
 refine ⟨m, f', hm, hs, hj, (he.mono (R := fun b => f b ∨ g' b) fun b hb _ => Or.inr hb).transN he2 ?_, fun b hb => ?_⟩
 ·rintro i hi hl
  rcases hi with hi | hi
  ·exact Or.inl hi
  ·rcases hg i hi with h | h
   ·exact Or.inr h
   ·omega
 ·have := he.size
  rcases hf b hb with h | h
  ·exact Or.inl h
  ·right; omega
def WentS {α : Type} (J : Tk α) (all pre : List α) (f : Nat → Prop) (S : World → Prop) (w : World) (e : Ending) (w' : World) : Prop :=
 (∃ v, e = .returned v) ∧ ∃ b, Went J all pre f (fun _ => False) w b w' ∧ IfNo b (S w')
attribute [local go_sem] Oper.semAt_some
theorem step_here {ops : Array Oper} {o : Oper} {a : Act} {K : Act → World → Prop} {Q : Exit → Act → World → Prop} {E : Prop} {W : World} {N : Nat} {u : Value} {hs : List Int} (hgd : o.guard = none) (s x : Operand)
  (ho : o.op = .call { callee := .builtin .append, args := #[s, x], argTypes := #[59, 59] }) (hty : o.type = 59) (hs' : a.eval s = u) (i : Int) (F : Nat) (hx : a.eval x = .slice (some ⟨F, 0, none⟩) 1 1)
  (h : W.ownsRow N 3 1 u hs.length (hs.map fun z => .int .i64 z)) (hN : N ≤ W.heap.size) (hF : W.heap[F]? = some (.cells #[.int .i64 i] 3 (0, 0))) (hn : hs.length ≤ 1000000)
  (hk : ∀ u' W', W'.ownsRow N 3 1 u' (hs ++ [i]).length ((hs ++ [i]).map fun z => .int .i64 z) → W.grownBy W' u.ownBlock → Ext W W' u u' hs.length → K (a.put o.dst u') W') : if Region.wanted o (yielded ops a.tmps) = true then Oper.wp Tryz.prog o a W K Q else E := by
 obtain ⟨u', W', hr, h1, h2, h3⟩ := here_step h hN i F hF hn
 exact step_append_eq hgd s x _ _ ho hs' hx (by rw [hty]; exact hr) (hk u' W' h1 h2 h3)
theorem PlAt.from {A : Nat} {w wr : World} {o : Obj} {N : Nat} {q0 q u : Value} {hs : List Int} {Y : Nat → Prop} {ps : List (List Int)} {xs : List Value} (h : PlAt A (w.alloc o) N q0 u hs Y ps q xs wr) : PlAt A w N q0 u hs Y ps q xs wr := by
 refine ⟨h.1, h.2.1, h.2.2.1, (Fr2.of_below ((Below.refl _ _).alloc (Nat.le_refl _) o) q0 u).trans h.2.2.2.1 (fun k h => Or.inl h) (fun k h => Or.inl h), fun k hk => ?_⟩
 rcases h.2.2.2.2 k hk with e | e
 ·exact Or.inl e
 ·right; simp at e; omega
theorem sizeL_ge1 (l : List Tm) (k : Nat) (h : k < l.length) : 1 + sizeL [l[k]] ≤ 1 + sizeL l := by
 have := sizeL_take l k h
 have := sizeL_take_le l (k + 1)
 omega
attribute [local go_sem] Oper.semAt_some
def LpD (x : Dn) (args : Array Value) (W : World) (Z : Nat → Prop) : Prop := ∃ u v, args = #[u, v] ∧ PV W Z u x.1 ∧ TV W Z v x.2
theorem nextI_any (fs : List Int) (v : Value) (w : World) (X : Nat → Prop) (hv : PV w X v fs) (h0 : ∀ z ∈ fs.take 1, 0 ≤ z) :
  Calls Tryz.prog 71 #[v] w fun e w' => Below w.heap.size w w' ∧ ∃ rv, e = .returned (.tuple #[.int .i64 (hdN fs : Int), rv]) ∧ PV w' X rv fs.tail := by
 obtain ⟨a, c, rfl, hl, hc⟩ := hv
 cases fs with
 | nil =>
  go_enter Tryz.func71, Tryz.ntmps71
  go_wp2_with fail
  refine bodyPost_ret (v := .tuple #[.int .i64 0, .slice none 0 0]) (by simp [results, Tryz.results71, go_sem]) rfl ?_
  exact ⟨Below.refl _ _, _, rfl, none, 0, rfl, by simp, Or.inl rfl⟩
 | cons z zs =>
  have hz := h0 z (by simp)
  have e : (hdN (z :: zs) : Int) = z := by unfold hdN; simp; omega
  rcases hc with hc | ⟨b, o, rfl, hxb, hcell⟩
  ·cases hc
  obtain ⟨hzl1, hzl2⟩ := hl
  simp only [List.length_cons] at hzl1 hzl2
  have hz0 := hcell 0 (by simp)
  simp only [Nat.add_zero, List.getElem_cons_zero] at hz0
  have HE := hide e
  by_cases h1 : c = 1
  ·have h2 : zs = [] := List.length_eq_zero_iff.1 (by omega)
   subst h1; subst h2
   clear hcell h0 e
   go_enter Tryz.func71, Tryz.ntmps71
   go_wp2_with fail
   go_region_held3 (fun w' => w'.cell? ⟨b, o, none⟩ = some (.int .i64 z)) (go_keep) (fail)
   go_wp2_with fail
   refine bodyPost_ret (v := .tuple #[.int .i64 z, .slice (some ⟨b, o, none⟩) 0 0]) (by simp [results, Tryz.results71, go_sem]) rfl ?_
   exact ⟨(Below.refl _ _).drew, .slice (some ⟨b, o, none⟩) 0 0, by rw [HE.out], some ⟨b, o, none⟩, 0, rfl, by simp, Or.inl rfl⟩
  ·have HT : Hid (PV w X (.slice (some ⟨b, o + 1, none⟩) zs.length (c - 1)) zs) := PV.tail ⟨hzl1, hzl2⟩ hxb hcell
   simp only [List.length_cons] at *
   have b1 : ¬ ((zs.length : Int) + 1 < 1) := by omega
   have b2 : ¬ ((c : Int) < (zs.length : Int) + 1) := by omega
   clear hcell h0 e
   go_enter Tryz.func71, Tryz.ntmps71
   go_wp2_with fail
   go_region_held3 (fun w' => w'.cell? ⟨b, o, none⟩ = some (.int .i64 z)) (go_keep) (fail)
   go_wp2_with fail
   refine bodyPost_ret (v := .tuple #[.int .i64 z, .slice (some ⟨b, o + 1, none⟩) zs.length (c - 1)]) (by simp [results, Tryz.results71, go_sem]) rfl ?_
   exact ⟨(Below.refl _ _).drew, _, by rw [HE.out], HT.out.later ((Below.refl _ _).drew)⟩
def DnInv {J : Tk Dn} (w0 : World) (N : Nat) (u : Value) (hs : List Int) (f : Nat → Prop) (pre : List Dn) (t : Tm) (st : Nat) (rl : List Int) (rv : Value) (l : List Tm) (rest i : Value) (wr : World) : Prop :=
 ∃ (k : Nat) (f' : Nat → Prop), st ≤ k ∧ k ≤ l.length ∧ i = .int .i64 (k : Int) ∧ rest = (if k = st then rv else .slice none 0 0) ∧ J (pre ++ (hs, t) :: dnL hs 0 st rl (l.take k)) true f' wr ∧ ExQ (fun b => f b ∨ u.ownBlock = some b) w0 wr ∧ (∀ b, f' b → f b ∨ w0.heap.size ≤ b) ∧ wr.ownsRow N 3 1 u hs.length (hs.map fun z => .int .i64 z)
def DnPost (J : Tk Dn) (N : Nat) (S : World → Prop) (t : Tm) (u : Value) (hs fs : List Int) (pre : List Dn) (f : Nat → Prop) (w : World) (e : Ending) (w' : World) : Prop :=
 ∃ b, e = .returned (.bool b) ∧ Went J (dnT hs fs t) pre f (fun b => u.ownBlock = some b) w b w' ∧ (b = true → w'.ownsRow N 3 1 u hs.length (hs.map fun z => .int .i64 z)) ∧ IfNo b (S w')
set_option maxHeartbeats 2000000 in
theorem downS_any {J : Tk Dn} {K : Nat → Prop} {all : List Dn} (hJ : TkOk J K) (N lp : Nat) (hK : ∀ b, K b → b < N) {S : World → Prop} (RH : RndS lp LpD J all S) (t : Tm) : ∀ (v u fv : Value) (hs fs : List Int) (pre : List Dn) (f : Nat → Prop) (w : World) (X : Nat → Prop), TV w X v t → PV w X fv fs → (atT t fs).isSome = true → (∀ b, X b → b < N ∧ ¬ f b) → N ≤ w.heap.size → w.ownsRow N 3 1 u hs.length (hs.map fun z => .int .i64 z) → (∀ k, u.ownBlock = some k → ¬ f k) → J pre true f w → hs.length + sizeL [t] ≤ 900000 → (pre ++ dnT hs fs t) <+: all →
  Calls Tryz.prog 46 #[v, u, fv, .func (.yield lp) #[] #[]] w fun e w' => DnPost J N S t u hs fs pre f w e w' := by
 induction t using Tm.ind with
 | h s l ih =>
  intro v u fv hs fs pre f w X hv hfv hat hX hN hown huf hj hsm hOk
  have HOK := hide hOk
  clear hOk
  obtain ⟨a, c, rfl, hsl⟩ := hv
  have IH := hide ih
  clear ih
  have hl := hsl.1
  have hz : sizeL [(⟨s, l⟩ : Tm)] = 1 + sizeL l := by simp [sizeL]
  rw [hz] at hsm
  clear hz
  have hB0 : Below w.heap.size w (w.alloc (.cells #[.string s, .slice a l.length c] 32)) := (Below.refl _ _).alloc (Nat.le_refl _) _
  have hE0 : ExQ (fun _ => False) w (w.alloc (.cells #[.string s, .slice a l.length c] 32)) := (ExQ.refl _ _).alloc _
  have HE0 := hide hE0
  have HJ0 := hide (hJ.exq hj hE0 (fun _ _ h => h))
  have HIN := hide (hJ.inside hj)
  have hown0 : ((w.alloc (.cells #[.string s, .slice a l.length c] 32))).ownsRow N 3 1 u hs.length (hs.map fun z => .int .i64 z) := ownsRow_at hown fun g hg => Below.heap_alloc _ _ _ (hown.lt g hg).2
  have hltu := hide hown.lt
  have HXu : Hid (∀ b, X b → some b ≠ u.ownBlock) := fun b hb e => by have := (hltu.out b e.symm).1; have := hX b hb; omega
  have HBu : Hid (u.ownBlock ≠ some w.heap.size) := fun e => by have := (hltu.out _ e).2; omega
  have HBf : Hid (¬ f w.heap.size) := fun e => by have := HIN.out _ (Or.inl e); omega
  have hw0 : Hid (((w.alloc (.cells #[.string s, .slice a l.length c] 32))).heap.size = w.heap.size + 1) := by simp [Hid]
  have HSL := hide (hsl.later hB0)
  have HFV := hide (hfv.later hB0)
  have HX := hide hX
  have HK := hide hK
  clear hK
  have HUF := hide huf
  have hpos : ∀ z ∈ fs.take 1, 0 ≤ z := by
   cases fs with
   | nil => simp
   | cons z zs => intro y hy; simp at hy; subst hy; rw [atT] at hat; split at hat; (next h => exact h.1); (next => cases hat)
  have hstl : hdN fs ≤ l.length := by
   cases fs with
   | nil => simp [hdN]
   | cons z zs => rw [atT] at hat; split at hat; (next h => have := h.2; simp [hdN]; simp at this; omega); (next => cases hat)
  have HAT : Hid (∀ k (h : k < l.length), hdN fs ≤ k → (atT l[k] (if k = hdN fs then fs.tail else [])).isSome = true) := fun k h hk => by
   by_cases e : k = hdN fs
   ·rw [if_pos e]
    cases fs with
    | nil => rfl
    | cons z zs =>
     simp only [atT] at hat
     split at hat
     next h2 =>
      have e2 : z.toNat = k := by rw [e]; simp [hdN]
      simp only [e2] at hat
      exact hat
     next => simp at hat
   ·rw [if_neg e]; rfl
  have HJx := hide hJ
  have hhs : hs.length ≤ 1000000 := by omega
  have RHW := RH 0 pre (hs, ⟨s, l⟩) #[u, .agg #[.string s, .slice a l.length c]] (fun b => (X b ∨ u.ownBlock = some b) ∧ b < ((w.alloc (.cells #[.string s, .slice a l.length c] 32))).heap.size) f (w.alloc (.cells #[.string s, .slice a l.length c] 32)) (List.IsPrefix.trans ⟨dnL hs 0 (hdN fs) fs.tail l, by simp [dnT]⟩ HOK.out) HJ0.out ⟨u, _, rfl, (pv_of_own hown0).mono fun b hb hl => ⟨Or.inr hb.2, hl⟩, a, c, rfl, HSL.out.mono fun b hb hl => ⟨Or.inl hb, hl⟩⟩ (fun b hb => ⟨hb.2, by
   rcases hb.1 with h | h
   ·exact (hX b h).2
   ·exact huf b h⟩)
  obtain ⟨hfn, htmps, hasg, hbody, hy, hR⟩ := RHW
  have HR := hide hR
  have HRH := hide RH
  have HO0 := hide hown0
  clear hsl hfv hX hB0 hE0 hR RH hown hown0 huf hj hat hJ
  have hf1 : Fence.wide.fn 71 := trivial
  go_enter Tryz.func46, Tryz.ntmps46
  refine (wpIn_wide (n := 1)).1 ?_
  gi_wp2
  refine HR.out.mono ?_
  rintro e W1 ⟨s1, rfl, f1, hj1, he1, hff1, hS1⟩
  have HS1 := hide hS1
  clear hS1
  clear hy
  have K1 : W1.cell? ⟨w.heap.size, 1, none⟩ = some (.slice a l.length c) := by
   have h1 := he1.block w.heap.size (by simp) HBf.out
   rw [heap_alloc_new] at h1
   simp [World.cell?, h1]
  cases s1 with
  | false =>
   gi_wp2
   go_ret
   refine ⟨false, rfl, ?_, by simp, fun _ => HS1.out rfl⟩
   exact Went.from (Went.stop (a1 := ([(hs, (⟨s, l⟩ : Tm))] : List Dn)) (Went.one hj1 he1 hff1)) (HE0.out.mono fun _ h _ => h.elim) (fun b hb => Or.inl hb)
  | true =>
   have HJ1 := hide hj1
   have HE1 := hide he1
   have HFF1 := hide hff1
   have hP1 : PV W1 X fv fs := ((HFV.out.mono (Y := fun b => X b ∧ b < (w.alloc (.cells #[.string s, .slice a l.length c] 32)).heap.size) fun b h1 h2 => ⟨h1, h2⟩).kept (w' := W1) fun b hb => HE1.out.block b hb.2 (HX.out b hb.1).2).mono fun b hb _ => hb.1
   have HO1 : Hid (W1.ownsRow N 3 1 u hs.length (hs.map fun z => .int .i64 z)) := ownsRow_at HO0.out fun g hg => HE1.out.block g (by have := (hltu.out g hg).2; have := hw0.out; omega) (HUF.out g hg)
   have hwW : w.heap.size < W1.heap.size := by have := he1.size; have := hw0.out; omega
   clear hj1 he1 hff1
   gi_wp2_with (gi_at_call 71; refine (callsIn_wide.2 (nextI_any fs fv _ X hP1 hpos)).mono ?_; rintro e W2 ⟨hb2, rv, rfl, hrv⟩; have K2 := (hb2.cell (p := ⟨w.heap.size, 1, none⟩) hwW).trans K1)
   have HRV := hide hrv
   have HB2 := hide hb2
   clear hP1 hrv hb2
   refine wpIn_wide.2 ?_
   go_loopw [10, 11] (fun q' i wr => DnInv (J := J) (w.alloc (.cells #[.string s, .slice a l.length c] 32)) N u hs f pre ⟨s, l⟩ (hdN fs) fs.tail rv l q' i wr ∧ PV wr X (if (intOf i).toNat = hdN fs then rv else .slice none 0 0) (if (intOf i).toNat = hdN fs then fs.tail else [])) (fun q' i wr => l.length - (intOf i).toNat)
   case atStart =>
    refine ⟨⟨hdN fs, f1, Nat.le_refl _, hstl, rfl, by rw [if_pos rfl], ?_, (HE1.out.mono fun b hb _ => Or.inl hb).trans (ExQ.ofBelow HB2.out), HFF1.out, ownsRow_at HO1.out fun g hg => HB2.out.block g (HO1.out.lt g hg).2⟩, by simpa [intOf] using HRV.out⟩
    rw [dnL_before hs (hdN fs) fs.tail (l.take (hdN fs)) 0 (by simp; omega)]
    exact HJx.out.abide HJ1.out HB2.out.size fun b hb => HB2.out.block b (HJx.out.inside HJ1.out b hb)
   case round =>
    obtain ⟨⟨k, f2, hst, hk, rfl, rfl, hj2, he2, hff2, ho2⟩, hpv2⟩ := hrel
    have ek : (intOf (.int .i64 (k : Int))).toNat = k := by simp [intOf]
    rw [ek] at hpv2
    clear ek
    have HJ2 := hide hj2
    have HE2 := hide he2
    have HFF2 := hide hff2
    have HO2 := hide ho2
    have HPV2 := hide hpv2
    have hz2 : w.heap.size + 1 ≤ wr.heap.size := by have := he2.size; have := hw0.out; omega
    have HXQ : Hid (∀ b, X b → ¬ (f b ∨ u.ownBlock = some b)) := fun b hb h => by
     rcases h with h | h
     ·exact (HX.out b hb).2 h
     ·exact HXu.out b hb h.symm
    have HX2 : Hid (∀ b, X b → b < N ∧ ¬ f2 b) := fun b hb => ⟨(HX.out b hb).1, fun h => by
     rcases HFF2.out b h with h | h
     ·exact (HX.out b hb).2 h
     ·have := (HX.out b hb).1; have := hw0.out; omega⟩
    have HBf2 : Hid (∀ b, f2 b ∨ K b → b < wr.heap.size) := HJx.out.inside hj2
    have HUF2 : Hid (∀ g, u.ownBlock = some g → ¬ f2 g) := fun g hg h => by
     rcases HFF2.out g h with h | h
     ·exact HUF.out g hg h
     ·have := (hltu.out g hg).2; have := hw0.out; omega
    have HB2 : Hid (¬ f2 w.heap.size) := fun h => by
     rcases HFF2.out _ h with h | h
     ·exact HBf.out h
     ·have := hw0.out; omega
    have K2 : wr.cell? ⟨w.heap.size, 1, none⟩ = some (.slice a l.length c) := by
     have h1 := he2.block w.heap.size (by simp) (fun h => by
      rcases h with h | h
      ·exact HBf.out h
      ·exact HBu.out h)
     rw [heap_alloc_new] at h1
     simp [World.cell?, h1]
    clear hj2 he2 hff2 ho2 hpv2
    have hpre : dnT hs fs ⟨s, l⟩ = (hs, ⟨s, l⟩) :: dnL hs 0 (hdN fs) fs.tail l := rfl
    have HPRE := hide hpre
    clear hpre
    by_cases hlt : k < l.length
    ·have hst2 := sizeL_ge1 l k hlt
     obtain ⟨b, o, a', c', rfl, d0, d1, hx⟩ := (HSL.out.exq HE2.out HXQ.out).get (Below.refl wr.heap.size wr) (fun _ _ h => h) k hlt
     have hbX : X b := by
      obtain ⟨_, h1⟩ := HSL.out
      rcases h1 with h1 | ⟨b', o', e', h1⟩
      ·rw [h1] at hlt; simp at hlt
      ·cases e'; exact (lies_get _ _ _ h1 k hlt).1
     have HXX := hide hx
     have HT := hide (dnL_take hs (hdN fs) fs.tail l k hlt hst)
     have HSM : Hid ((hs ++ [(k : Int)]).length + sizeL [l[k]] ≤ 900000) := by unfold Hid; simp; omega
     have HATk := hide (HAT.out k hlt hst)
     have HSPL : Hid (dnL hs 0 (hdN fs) fs.tail l = dnL hs 0 (hdN fs) fs.tail (l.take k) ++ (dnT (hs ++ [(k : Int)]) (if k = hdN fs then fs.tail else []) l[k] ++ dnL hs (0 + (l.take (k + 1)).length) (hdN fs) fs.tail (l.drop (k + 1)))) := by
      unfold Hid
      rw [← List.append_assoc, ← HT.out, ← dnL_append, List.take_append_drop]
     have HOKk : Hid (((pre ++ (hs, ⟨s, l⟩) :: dnL hs 0 (hdN fs) fs.tail (l.take k)) ++ dnT (hs ++ [(k : Int)]) (if k = hdN fs then fs.tail else []) l[k]) <+: all) := List.IsPrefix.trans ⟨dnL hs (0 + (l.take (k + 1)).length) (hdN fs) fs.tail (l.drop (k + 1)), by rw [HPRE.out, HSPL.out]; simp⟩ HOK.out
     generalize hqv : (if k = hdN fs then rv else .slice none 0 0) = qv at *
     clear hqv
     generalize (if k = hdN fs then fs.tail else []) = ql at *
     clear hx hst2
     have HS0 := hide (And.intro K2 (And.intro d0 d1))
     go_wp2_with fail
     have hbW : Below wr.heap.size wr (wr.alloc (.cells #[.int .i64 (k : Int)] 3)).drew := ((Below.refl _ _).alloc (Nat.le_refl _) _).drew
     have HBW := hide hbW
     have HOU : Hid (((wr.alloc (.cells #[.int .i64 (k : Int)] 3)).drew).ownsRow N 3 1 u hs.length (hs.map fun z => .int .i64 z)) := ownsRow_at HO2.out fun g hg => hbW.block g (HO2.out.lt g hg).2
     have HNW : Hid (N ≤ ((wr.alloc (.cells #[.int .i64 (k : Int)] 3)).drew).heap.size) := by unfold Hid; simp; omega
     have HFW : Hid (((wr.alloc (.cells #[.int .i64 (k : Int)] 3)).drew).heap[wr.heap.size]? = some (.cells #[.int .i64 (k : Int)] 3 (0, 0))) := heap_alloc_new wr (.cells #[.int .i64 (k : Int)] 3)
     have HSE : Hid (∀ u2 W2, ((wr.alloc (.cells #[.int .i64 (k : Int)] 3)).drew).grownBy W2 u.ownBlock → Ext (wr.alloc (.cells #[.int .i64 (k : Int)] 3)).drew W2 u u2 hs.length → (W2.cell? ⟨w.heap.size, 1, none⟩ = some (.slice (some ⟨b, o, none⟩) l.length c) ∧ W2.cell? ⟨b, o + k * 2, none⟩ = some (.string l[k].name) ∧ W2.cell? ⟨b, o + k * 2 + 1, none⟩ = some (.slice a' l[k].args.length c')) ∧ (∀ b, f2 b ∨ K b → W2.heap[b]? = wr.heap[b]?) ∧ (∀ b, X b → W2.heap[b]? = wr.heap[b]?) ∧ wr.heap.size < W2.heap.size ∧ (∀ g, u2.ownBlock = some g → ¬ f2 g) ∧ (∀ g, u2.ownBlock = some g → u.ownBlock = some g ∨ wr.heap.size ≤ g) ∧ ExQ (fun b => u.ownBlock = some b) wr W2 ∧
       ∀ w5, ExQ (fun b => f2 b ∨ u2.ownBlock = some b) W2 w5 → w5.cell? ⟨w.heap.size, 1, none⟩ = some (.slice (some ⟨b, o, none⟩) l.length c) ∧ w5.cell? ⟨b, o + k * 2, none⟩ = some (.string l[k].name) ∧ w5.cell? ⟨b, o + k * 2 + 1, none⟩ = some (.slice a' l[k].args.length c')) := fun u2 W2 hg2 he2 => by
      have hbN := HX.out b hbX
      have hgz := hg2.size
      simp at hgz
      have kp : ∀ j, j < wr.heap.size → u.ownBlock ≠ some j → W2.heap[j]? = wr.heap[j]? := fun j hj hne => (hg2.block j (by simp; omega) (fun e => hne e.symm)).trans (HBW.out.block j hj)
      have hE : ∀ g, u2.ownBlock = some g → u.ownBlock = some g ∨ wr.heap.size ≤ g := fun g hg => by
       rcases he2 with ⟨g2, cap, e3, e4⟩ | ⟨hn, _⟩
       ·left; rw [e4] at hg; rw [e3]; exact hg
       ·right; have := hn g hg; simp at this; omega
      have e0 := kp w.heap.size (by omega) HBu.out
      have e1 := kp b (by omega) (fun e => HXu.out b hbX e.symm)
      refine ⟨⟨(World.cell?_of_block e0).trans HS0.out.1, (World.cell?_of_block e1).trans HS0.out.2.1, (World.cell?_of_block e1).trans HS0.out.2.2⟩, fun j hj => kp j (HBf2.out j hj) (fun e => by
       rcases hj with hj | hj
       ·exact HUF2.out j e hj
       ·have := HK.out j hj; have := (hltu.out j e).1; omega), fun j hj => kp j (by have := HX.out j hj; omega) (fun e => HXu.out j hj e.symm), by omega, fun g hg h => ?_, hE, ⟨hg2.os, hg2.tape, hg2.output, by omega, fun j hj hne => kp j hj hne⟩, fun w5 hf => ?_⟩
      ·rcases hE g hg with e | e
       ·exact HUF2.out g e h
       ·have := HBf2.out g (Or.inl h); omega
      ·have f0 : w5.heap[w.heap.size]? = wr.heap[w.heap.size]? := (hf.block _ (by omega) (fun h => by
        rcases h with h | h
        ·exact HB2.out h
        ·rcases hE _ h with h | h
         ·exact HBu.out h
         ·omega)).trans e0
       have f1 : w5.heap[b]? = wr.heap[b]? := (hf.block _ (by omega) (fun h => by
        rcases h with h | h
        ·exact (HX2.out b hbX).2 h
        ·rcases hE _ h with h | h
         ·exact HXu.out b hbX h.symm
         ·omega)).trans e1
       exact ⟨(World.cell?_of_block f0).trans HS0.out.1, (World.cell?_of_block f1).trans HS0.out.2.1, (World.cell?_of_block f1).trans HS0.out.2.2⟩
     clear hbW
     go_region_held3 (fun w' => w'.cell? ⟨w.heap.size, 1, none⟩ = some (.slice (some ⟨b, o, none⟩) l.length c) ∧ w'.cell? ⟨b, o + k * 2, none⟩ = some (.string l[k].name) ∧ w'.cell? ⟨b, o + k * 2 + 1, none⟩ = some (.slice a' l[k].args.length c')) (first | exact HS0.out | exact hS5 | exact hS2 | go_keep)
      (first
       | (refine step_here (N := N) (hs := hs) (u := u) rfl _ _ rfl rfl rfl (k : Int) _ rfl HOU.out HNW.out HFW.out hhs ?_; intro u2 W2 ho2 hg2 he2; obtain ⟨hS2, kf, kX, hw2, hu2, hu2', hq2, hK3⟩ := HSE.out u2 W2 hg2 he2; have HO22 := hide ho2; have HG2 := hide hg2; have HX22 := hide he2; have HQ2 := hide hq2; have HU2 := hide hu2'; have hx2 := HXX.out.kept kX; have hp2 := HPV2.out.kept kX; have hj2 := HJx.out.abide HJ2.out (by omega) kf)
       | (go_at_call 46; refine (IH.out _ (List.getElem_mem hlt) _ _ _ _ _ _ f2 _ X hx2 hp2 HATk.out HX2.out (by omega) ho2 hu2 hj2 HSM.out HOKk.out).mono ?_; rintro e w5 ⟨s5, rfl, hw5, ho5, hss5⟩; have HSS5 := hide hss5; clear hss5; have HW5 := hide hw5; have hS5 := hK3 w5 hw5.exq; have HO5 := hide ho5; clear hw5 ho5))
     clear hS5 hx2 hp2 hS2 ho2 hg2 he2 kf kX hu2 hu2' hq2 hj2 hK3
     cases s5 with
     | false =>
      go_wp2_with fail
      go_ret
      refine ⟨false, rfl, ?_, by simp, fun _ => HSS5.out rfl⟩
      rw [HPRE.out, HSPL.out, ← List.cons_append]
      refine Went.from (Went.trans HJ2.out HE2.out HFF2.out (Went.stop (Went.from (g' := fun b => u.ownBlock = some b) HW5.out HQ2.out HU2.out)) (fun b hb => Or.inl hb)) (HE0.out.mono fun _ h _ => h.elim) (fun b hb => Or.inl hb)
     | true =>
      have hf5 := Went.end_true (Went.trans HJ2.out HE2.out HFF2.out (Went.from (g' := fun b => u.ownBlock = some b) HW5.out HQ2.out HU2.out) (fun b hb => Or.inl hb))
      obtain ⟨f5, hj5, he5, hff5⟩ := hf5
      have HJ5 := hide hj5
      have HE5 := hide he5
      have HFF5 := hide hff5
      clear hj5 he5 hff5
      have HOB : Hid (w5.ownsRow N 3 1 u hs.length (hs.map fun z => .int .i64 z)) := here_backQ HOU.out HG2.out HX22.out (HO5.out rfl) HW5.out.exq (fun g hg hne h => by
       rcases h with h | h
       ·exact HUF2.out g hg h
       ·exact hne h)
      go_wp2_with fail
      go_roundw
      case rel =>
       refine ⟨⟨k + 1, f5, by omega, by omega, by go_num, by rw [if_neg (by omega)], ?_, HE5.out, HFF5.out, HOB.out⟩, ?_⟩
       ·rw [HT.out]
        simpa using HJ5.out
       ·have e1 : (intOf (.int .i64 ((k : Int) + 1))).toNat = k + 1 := by simp [intOf]
        have e2 : ¬ (k + 1 = hdN fs) := by omega
        simp only [e1, e2, if_false]
        exact ⟨none, 0, rfl, by simp, Or.inl rfl⟩
      case measure => simp [intOf]; omega
    ·have htk : l.take k = l := List.take_of_length_le (by omega)
     have HF : Hid (Went J (dnT hs fs ⟨s, l⟩) pre f (fun b => u.ownBlock = some b) w true wr) := by
      rw [htk] at HJ2
      exact ⟨_, f2, Nat.le_refl _, fun _ => rfl, by rw [HPRE.out, List.take_length]; exact HJ2.out, (HE0.out.mono fun _ h _ => h.elim).trans HE2.out, fun b hb => by
       rcases HFF2.out b hb with h | h
       ·exact Or.inl h
       ·right; have := hw0.out; omega⟩
     generalize (if k = hdN fs then rv else .slice none 0 0) = qv at *
     go_wp2_with fail
     gi_wp2
     go_ret
     exact ⟨true, rfl, HF.out, (fun _ => HO2.out), fun h => by cases h⟩
def shL : List Tm → List Tm → Bool
 | [], _ => true
 | ⟨s, a⟩ :: r, ts => match ts with
  | [] => false
  | t :: ts' => (varB s || ((s.toList == t.name.toList) && (a.length == t.args.length) && shL a t.args)) && shL r ts'
def shT (p t : Tm) : Bool := varB p.name || ((p.name.toList == t.name.toList) && (p.args.length == t.args.length) && shL p.args t.args)
theorem shL_cons (p t : Tm) (r ts : List Tm) : shL (p :: r) (t :: ts) = (shT p t && shL r ts) := by obtain ⟨s, a⟩ := p; simp only [shL, shT]
theorem shT_deep {s s2 : ByteArray} {l m : List Tm} (hv : varB s = false) : shT ⟨s, l⟩ ⟨s2, m⟩ = ((s.toList == s2.toList) && (l.length == m.length) && shL l m) := by simp [shT, hv]
theorem shT_var {s : ByteArray} {l : List Tm} {t : Tm} (hv : varB s = true) : shT ⟨s, l⟩ t = true := by simp [shT, hv]
theorem shL_iff : ∀ (l m : List Tm), l.length = m.length → (shL l m = true ↔ ∀ k (h : k < l.length) (h2 : k < m.length), shT l[k] m[k] = true)
 | [], m, _ => by simp [shL]
 | _ :: _, [], e => by simp at e
 | p :: r, t :: ts, e => by
  have ih := shL_iff r ts (by simpa using e)
  rw [shL_cons, Bool.and_eq_true, ih]
  refine ⟨fun h k h1 h2 => ?_, fun h => ⟨h 0 (by simp) (by simp), fun k h1 h2 => h (k + 1) (by simpa using h1) (by simpa using h2)⟩⟩
  cases k with
  | zero => exact h.1
  | succ k => exact h.2 k (by simpa using h1) (by simpa using h2)
theorem shL_no {l m : List Tm} {k : Nat} (hlm : l.length = m.length) (h : k < l.length) (h2 : k < m.length) (h0 : shT l[k] m[k] = false) : shL l m = false := by
 cases hs : shL l m with
 | false => rfl
 | true => rw [(shL_iff l m hlm).1 hs k h h2] at h0; cases h0
theorem mtL_unshaped : ∀ (l m : List Tm) (h : List Bd), l.length = m.length → shL l m = false → mtL l m h = none := by
 intro l
 induction l using Tm.indL with
 | h0 => intro m h _ hs; simp [shL] at hs
 | h s a r iha ihr =>
  intro m h hlm hs
  cases m with
  | nil => simp at hlm
  | cons t ts =>
   rw [shL_cons] at hs
   rw [mtL_cons]
   cases h1 : shT ⟨s, a⟩ t with
   | true =>
    rw [h1, Bool.true_and] at hs
    cases mtT ⟨s, a⟩ t h with
    | none => rfl
    | some h' => exact ihr ts h' (by simpa using hlm) hs
   | false =>
    obtain ⟨s2, m2⟩ := t
    have hv : varB s = false := by
     cases hv : varB s with
     | false => rfl
     | true => rw [shT_var hv] at h1; cases h1
    rw [shT_deep hv] at h1
    have e : mtT ⟨s, a⟩ ⟨s2, m2⟩ h = none := by
     cases hn : ((s.toList == s2.toList) && (a.length == m2.length)) with
     | false => exact mtT_off hv hn
     | true =>
      rw [hn, Bool.true_and] at h1
      rw [Bool.and_eq_true] at hn
      have hl : a.length = m2.length := by simpa using hn.2
      rw [mtT_deep hv hn.1 hl]
      exact iha m2 h hl h1
    rw [e]
theorem mtT_unshaped {p t : Tm} (h : List Bd) (hs : shT p t = false) : mtT p t h = none := by
 have := mtL_unshaped [p] [t] h rfl (by rw [shL_cons, hs]; rfl)
 rw [mtL_cons] at this
 cases hm : mtT p t h with
 | none => rfl
 | some h' => rw [hm] at this; simp [mtL] at this
set_option maxHeartbeats 2000000 in
theorem sameK_all (t : Tm) : ∀ (x : Tm) (v u : Value) (w : World) (X Y : Nat → Prop), TV w X v t → TV w Y u x →
  Calls Tryz.prog 24 #[v, u] w fun e w' => e = .returned (.bool (sameB t x)) ∧ Below w.heap.size w w' := by
 induction t using Tm.ind with
 | h s l ih =>
  intro x v u w X Y hv hu
  obtain ⟨s2, m⟩ := x
  have IH := hide ih
  clear ih
  obtain ⟨a, c, rfl, hs⟩ := hv
  obtain ⟨a2, c2, rfl, hs2⟩ := hu
  have hl := hs.1
  have hl2 := hs2.1
  dsimp only
  cases hn : (s.toList == s2.toList) with
  | false =>
   have HR : Hid (false = sameB ⟨s, l⟩ ⟨s2, m⟩) := by unfold Hid sameB; rw [hn]; rfl
   go_enter Tryz.func24, Tryz.ntmps24
   go_wp2_with fail
   go_ret
   exact ⟨ret_bool HR.out, below2 _ _⟩
  | true =>
   by_cases hm : l.length = m.length
   ·have HR : Hid (eqL l m = sameB ⟨s, l⟩ ⟨s2, m⟩) := by unfold Hid sameB; simp [hn, hm]
    have HM := hide hm
    rw [← hm]
    clear hm
    go_enter Tryz.func24, Tryz.ntmps24
    go_wp2_with fail
    go_loopw [23] (fun i wr => SaInv w l m a a2 c c2 i wr) (fun i wr => l.length - (intOf i).toNat)
    case atStart => exact ⟨0, Nat.zero_le _, rfl, by simp [eqL], below2 _ _, by simp, by simp, by simp⟩
    case round =>
     obtain ⟨k, hk, rfl, hq, hb, hc1, hc2, hsz⟩ := hrel
     have HQ := hide hq
     clear hq
     by_cases hlt : k < l.length
     ·obtain ⟨b, o, a', c', rfl, d0, d1, hx⟩ := hs.get hb (fun _ _ h => h) k hlt
      obtain ⟨b2, o2, a2', c2', rfl, e0, e1, hx2⟩ := hs2.get hb (fun _ _ h => h) k (by have := HM.out; omega)
      have hltm : k < m.length := by have := HM.out; omega
      have HX := hide hx
      have HX2 := hide hx2
      have HB := hide hb
      have HS0 := hide (And.intro hc1 (And.intro hc2 (And.intro d0 (And.intro d1 (And.intro e0 e1)))))
      have IHK := hide (fun (w' : World) => IH.out l[k] (List.getElem_mem hlt) m[k] (.agg #[.string l[k].name, .slice a' l[k].args.length c']) (.agg #[.string m[k].name, .slice a2' m[k].args.length c2']) w' X Y)
      have HT := hide (eqL_take hlt hltm)
      have HNO := hide (eqL_no hlt HM.out)
      clear hx hx2 hb
      generalize l[k] = y at *
      generalize m[k] = z at *
      go_wp2_with fail
      cases hsm : sameB y z with
      | true =>
       rw [hsm] at IHK HT
       go_region_held3 (fun w' => w'.cell? ⟨w.heap.size, 1, none⟩ = some (.slice (some ⟨b, o, none⟩) l.length c) ∧ w'.cell? ⟨w.heap.size + 1, 1, none⟩ = some (.slice (some ⟨b2, o2, none⟩) l.length c2) ∧ w'.cell? ⟨b, o + k * 2, none⟩ = some (.string y.name) ∧ w'.cell? ⟨b, o + k * 2 + 1, none⟩ = some (.slice a' y.args.length c') ∧ w'.cell? ⟨b2, o2 + k * 2, none⟩ = some (.string z.name) ∧ w'.cell? ⟨b2, o2 + k * 2 + 1, none⟩ = some (.slice a2' z.args.length c2')) (first | exact HS0.out | exact hS1 | go_keep)
        ((go_at_call 24; refine (IHK.out _ (by exact HX.out.later (below_drewN (Below.refl _ _) 1)) (by exact HX2.out.later (below_drewN (Below.refl _ _) 1))).mono ?_; rintro e w1 ⟨rfl, hb1⟩; have hS1 := same_cells (n := 1) hb1 HS0.out))
       go_wp2_with fail
       go_roundw
       case rel => exact ⟨k + 1, by omega, by go_num, by rw [HT.out, HQ.out]; rfl, (HB.out.trans (below_drewN (Below.refl _ _) 1)).trans (hb1.mono (by simp; omega)), hS1.1, hS1.2.1, by have := hb1.size; simp at this; omega⟩
       case measure => simp [intOf]; omega
      | false =>
       have HF : Hid (false = sameB ⟨s, l⟩ ⟨s2, m⟩) := by unfold Hid; rw [← HR.out, HNO.out hsm]
       rw [hsm] at IHK
       go_region_held3 (fun w' => w'.cell? ⟨w.heap.size, 1, none⟩ = some (.slice (some ⟨b, o, none⟩) l.length c) ∧ w'.cell? ⟨w.heap.size + 1, 1, none⟩ = some (.slice (some ⟨b2, o2, none⟩) l.length c2) ∧ w'.cell? ⟨b, o + k * 2, none⟩ = some (.string y.name) ∧ w'.cell? ⟨b, o + k * 2 + 1, none⟩ = some (.slice a' y.args.length c') ∧ w'.cell? ⟨b2, o2 + k * 2, none⟩ = some (.string z.name) ∧ w'.cell? ⟨b2, o2 + k * 2 + 1, none⟩ = some (.slice a2' z.args.length c2')) (first | exact HS0.out | exact hS1 | go_keep)
        ((go_at_call 24; refine (IHK.out _ (by exact HX.out.later (below_drewN (Below.refl _ _) 1)) (by exact HX2.out.later (below_drewN (Below.refl _ _) 1))).mono ?_; rintro e w1 ⟨rfl, hb1⟩; have hS1 := same_cells (n := 1) hb1 HS0.out))
       go_wp2_with fail
       go_ret
       exact ⟨ret_bool HF.out, (HB.out.trans (below_drewN (Below.refl _ _) 1)).trans (hb1.mono (by simp; omega))⟩
     ·have HF : Hid (true = sameB ⟨s, l⟩ ⟨s2, m⟩) := by
       unfold Hid
       rw [← HR.out, ← HQ.out, List.take_of_length_le (by omega), List.take_of_length_le (by have := HM.out; omega)]
      go_wp2_with fail
      go_ret
      exact ⟨ret_bool HF.out, hb⟩
   ·have HR : Hid (false = sameB ⟨s, l⟩ ⟨s2, m⟩) := by unfold Hid sameB; simp [hn, hm]
    have hm2 : ((l.length : Int) == (m.length : Int)) = false := beq_eq_false_iff_ne.2 (by omega)
    clear hm
    go_enter Tryz.func24, Tryz.ntmps24
    go_wp2_with fail
    go_ret
    exact ⟨ret_bool HR.out, below2 _ _⟩
def FtM (w : World) (q : Nat) (Y : Nat → Prop) (Z : List Bc) : Prop := MapAt w q (Z.map toP) ∧ ∀ x ∈ Z, Sl w Y x.2.1 x.1.t.args
def FtPost (w : World) (q : Nat) (Y : Nat → Prop) (r : Option (List Bd)) (e : Ending) (w' : World) : Prop :=
 w.grownBy w' (some q) ∧ ((r = none ∧ e = .returned (.bool false)) ∨ ∃ (h' : List Bd) (Z' : List Bc), r = some h' ∧ e = .returned (.bool true) ∧ Z'.map (·.1) = h' ∧ FtM w' q Y Z')
theorem FtM.kept {w w' : World} {q : Nat} {Y : Nat → Prop} {Z : List Bc} (h : FtM w q Y Z) (hY : ∀ b, Y b → b < w.heap.size) (hk : ∀ b, b < w.heap.size → w'.heap[b]? = w.heap[b]?) : FtM w' q Y Z :=
 ⟨h.1.kept (hk q h.1.lt), fun x hx => (h.2 x hx).kept fun b hb => hk b (hY b hb)⟩
theorem FtM.below {w w' : World} {q : Nat} {Y : Nat → Prop} {Z : List Bc} (h : FtM w q Y Z) (hY : ∀ b, Y b → b < w.heap.size) (hb : Below w.heap.size w w') : FtM w' q Y Z := h.kept hY fun b hb' => hb.block b hb'
theorem mapGet_forT {Z : List Bc} {n : ByteArray} : (forT (Z.map (·.1)) n = none → mapGet (Z.map toP) n = none) ∧ (∀ t, forT (Z.map (·.1)) n = some t → ∃ x ∈ Z, x.1.t = t ∧ mapGet (Z.map toP) n = some (.agg #[.string t.name, .slice x.2.1 t.args.length x.2.2])) := by
 induction Z with
 | nil => exact ⟨fun _ => rfl, fun t h => by simp [forT] at h⟩
 | cons y r ih =>
  simp only [List.map_cons]
  by_cases hn : y.1.nm = n
  ·refine ⟨fun h => by simp [forT, hn] at h, fun t h => ?_⟩
   rw [forT, if_pos hn] at h
   cases h
   exact ⟨y, by simp, rfl, by simp [mapGet, toP, hn]⟩
  ·refine ⟨fun h => ?_, fun t h => ?_⟩
   ·rw [forT, if_neg hn] at h
    rw [mapGet, if_neg (by simpa [toP] using hn)]
    exact ih.1 h
   ·rw [forT, if_neg hn] at h
    obtain ⟨x, hx, h1, h2⟩ := ih.2 t h
    exact ⟨x, by simp [hx], h1, by rw [mapGet, if_neg (by simpa [toP] using hn)]; exact h2⟩
def FlInv (w2 : World) (q : Nat) (Y : Nat → Prop) (l m : List Tm) (h : List Bd) (i : Value) (wr : World) : Prop :=
 ∃ (k : Nat) (Z' : List Bc), k ≤ l.length ∧ i = .int .i64 (k : Int) ∧ mtL (l.take k) (m.take k) h = some (Z'.map (·.1)) ∧ FtM wr q Y Z' ∧ w2.grownBy wr (some q)
theorem grown2_below {w w' w'' : World} {row : Option Nat} (h : w.grownBy w' row) (hb : Below w'.heap.size w' w'') : w.grownBy w'' row :=
 h.andThen (row' := none) ⟨hb.os, hb.tape, hb.output, hb.size, fun j hj _ => hb.block j hj⟩ (by simp)
set_option maxHeartbeats 1000000 in
theorem fits_any (S F q : Nat) (Y : Nat → Prop) (p : Tm) : ∀ (t : Tm) (Z : List Bc) (pv tv : Value) (w : World), TV w Y pv p → TV w Y tv t → Blk w S #[.map (some q)] 87 → Blk w F #[.func (.func 126) #[] #[.pointer (some ⟨S, 0, none⟩), .pointer (some ⟨F, 0, none⟩)]] 60 → FtM w q Y Z → (∀ b, Y b → b < w.heap.size ∧ b ≠ q) → shT p t = true →
  Calls Tryz.prog 126 #[pv, tv, .pointer (some ⟨S, 0, none⟩), .pointer (some ⟨F, 0, none⟩)] w fun e w' => FtPost w q Y (mtT p t (Z.map (·.1))) e w' := by
 induction p using Tm.ind with
 | h s l ih =>
  intro t Z pv tv w hp ht hS hF hM hY hsh
  obtain ⟨s2, m⟩ := t
  obtain ⟨a, c, rfl, hs⟩ := hp
  obtain ⟨a2, c2, rfl, hs2⟩ := ht
  have IH := hide ih
  have HS := hide hs
  have HS2 := hide hs2
  have HSB := hide hS
  have HFB := hide hF
  have HM := hide hM
  have HY := hide hY
  have hl := hs.1
  have hl2 := hs2.1
  have hql := hM.1.lt
  have hSq : S ≠ q := fun e => by
   obtain ⟨es, clk, h1, _⟩ := hM.1
   subst e
   unfold Blk at hS
   rw [h1] at hS; cases hS
  have hFq : F ≠ q := fun e => by
   obtain ⟨es, clk, h1, _⟩ := hM.1
   subst e
   unfold Blk at hF
   rw [h1] at hF; cases hF
  have hSl := hS.lt
  have hFl := hF.lt
  clear ih hs hs2 hS hF hM hY
  dsimp only
  have HB2 : Hid (Below w.heap.size w ((w.alloc (.cells #[.string s, .slice a l.length c] 32)).alloc (.cells #[.string s2, .slice a2 m.length c2] 32))) := below2 _ _
  have PA := hide ((Blk.new w #[.string s, .slice a l.length c] 32).alloc (.cells #[.string s2, .slice a2 m.length c2] 32))
  have PB : Hid (Blk ((w.alloc (.cells #[.string s, .slice a l.length c] 32)).alloc (.cells #[.string s2, .slice a2 m.length c2] 32)) (w.heap.size + 1) #[.string s2, .slice a2 m.length c2] 32) := by
   have h := Blk.new (w.alloc (.cells #[.string s, .slice a l.length c] 32)) #[.string s2, .slice a2 m.length c2] 32
   unfold Hid
   simpa using h
  have hz2 : ((w.alloc (.cells #[.string s, .slice a l.length c] 32)).alloc (.cells #[.string s2, .slice a2 m.length c2] 32)).heap.size = w.heap.size + 2 := by simp
  have HG2 : Hid (w.grownBy ((w.alloc (.cells #[.string s, .slice a l.length c] 32)).alloc (.cells #[.string s2, .slice a2 m.length c2] 32)) (some q)) := (World.grownBy_alloc w _ _).andThen (World.grownBy_alloc _ _ none) (by simp)
  have hz : ∀ w', (zeroValue 32).run Tryz.prog w' = .ok (.agg #[.string ⟨#[]⟩, .slice none 0 0]) w' := fun w' => Tryz.zeroValue32 w'
  cases hvb : varB s with
  | true =>
   have HVB := hide hvb
   clear hvb
   have HM2 := hide (HM.out.below (fun b hb => (HY.out b hb).1) HB2.out)
   have HS22 := hide (HS2.out.later HB2.out)
   have s0 : ((w.alloc (.cells #[.string s, .slice a l.length c] 32)).alloc (.cells #[.string s2, .slice a2 m.length c2] 32)).cell? ⟨S, 0, none⟩ = some (.map (some q)) := (HSB.out.below HB2.out hSl).cell 0
   have a0 := PA.out.cell 0
   have b0 := PB.out.cell 0
   have b1 := PB.out.cell 1
   cases hf : forT (Z.map (·.1)) s with
   | some x =>
    obtain ⟨y, hy, rfl, hg⟩ := mapGet_forT.2 x hf
    have HR := hide (mtT_old (l := l) (t := ⟨s2, m⟩) HVB.out hf)
    have HSY := hide (HM2.out.2 y hy)
    have hlk : (Instr.lookup 87 (.map (some q)) (.string s) true).run Tryz.prog ((w.alloc (.cells #[.string s, .slice a l.length c] 32)).alloc (.cells #[.string s2, .slice a2 m.length c2] 32)) = .ok (.tuple #[.agg #[.string y.1.t.name, .slice y.2.1 y.1.t.args.length y.2.2], .bool true]) ((w.alloc (.cells #[.string s, .slice a l.length c] 32)).alloc (.cells #[.string s2, .slice a2 m.length c2] 32)) := by
     rw [run_look (P := Tryz.prog) Tryz.underlying87 Tryz.underlying9 (hz _) HM2.out.1 s, hg]; rfl
    clear hf hg hy
    have b0' : ∀ o, (((w.alloc (.cells #[.string s, .slice a l.length c] 32)).alloc (.cells #[.string s2, .slice a2 m.length c2] 32)).alloc o).cell? ⟨w.heap.size + 1, 0, none⟩ = some (.string s2) := fun o => (PB.out.alloc o).cell 0
    have b1' : ∀ o, (((w.alloc (.cells #[.string s, .slice a l.length c] 32)).alloc (.cells #[.string s2, .slice a2 m.length c2] 32)).alloc o).cell? ⟨w.heap.size + 1, 1, none⟩ = some (.slice a2 m.length c2) := fun o => (PB.out.alloc o).cell 1
    have SK : Hid (Calls Tryz.prog 24 #[.agg #[.string y.1.t.name, .slice y.2.1 y.1.t.args.length y.2.2], .agg #[.string s2, .slice a2 m.length c2]] (((w.alloc (.cells #[.string s, .slice a l.length c] 32)).alloc (.cells #[.string s2, .slice a2 m.length c2] 32)).alloc (.cells #[.string y.1.t.name, .slice y.2.1 y.1.t.args.length y.2.2] 32)) fun e w' => e = .returned (.bool (sameB y.1.t ⟨s2, m⟩)) ∧ Below ((w.alloc (.cells #[.string s, .slice a l.length c] 32)).alloc (.cells #[.string s2, .slice a2 m.length c2] 32)).heap.size ((w.alloc (.cells #[.string s, .slice a l.length c] 32)).alloc (.cells #[.string s2, .slice a2 m.length c2] 32)) w') := by
     refine (sameK_all y.1.t ⟨s2, m⟩ _ _ _ Y Y ⟨_, _, rfl, HSY.out.later ((Below.refl _ _).alloc (Nat.le_refl _) _)⟩ ⟨_, _, rfl, HS22.out.later ((Below.refl _ _).alloc (Nat.le_refl _) _)⟩).mono ?_
     rintro e w5 ⟨rfl, hb5⟩
     exact ⟨rfl, ((Below.refl _ _).alloc (Nat.le_refl _) _).trans (hb5.mono (by simp))⟩
    go_enter Tryz.func126, Tryz.ntmps126
    go_wp2_with (go_at_call 36; refine (isVariable_all _ _).mono ?_; rintro e w' ⟨rfl, rfl⟩; rw [HVB.out])
    refine SK.out.mono ?_
    rintro e w5 ⟨rfl, hb5⟩
    have HG5 := hide (grown2_below HG2.out hb5)
    have HM5 := hide (HM2.out.below (fun b hb => by have := (HY.out b hb).1; omega) hb5)
    clear hb5 b0' b1' hlk
    go_wp2_with fail
    go_ret
    refine ⟨HG5.out, ?_⟩
    rw [HR.out]
    cases hsm : sameB y.1.t ⟨s2, m⟩ with
    | true => exact Or.inr ⟨_, Z, by rw [if_pos rfl], rfl, rfl, HM5.out⟩
    | false => exact Or.inl ⟨by rw [if_neg (by simp)], rfl⟩
   | none =>
    have hg := mapGet_forT.1 hf
    have HR := hide (mtT_new (l := l) (t := ⟨s2, m⟩) HVB.out hf)
    have hlk : (Instr.lookup 87 (.map (some q)) (.string s) true).run Tryz.prog ((w.alloc (.cells #[.string s, .slice a l.length c] 32)).alloc (.cells #[.string s2, .slice a2 m.length c2] 32)) = .ok (.tuple #[.agg #[.string ⟨#[]⟩, .slice none 0 0], .bool false]) ((w.alloc (.cells #[.string s, .slice a l.length c] 32)).alloc (.cells #[.string s2, .slice a2 m.length c2] 32)) := by
     rw [run_look (P := Tryz.prog) Tryz.underlying87 Tryz.underlying9 (hz _) HM2.out.1 s, hg]; rfl
    have hbA : Below ((w.alloc (.cells #[.string s, .slice a l.length c] 32)).alloc (.cells #[.string s2, .slice a2 m.length c2] 32)).heap.size ((w.alloc (.cells #[.string s, .slice a l.length c] 32)).alloc (.cells #[.string s2, .slice a2 m.length c2] 32)) (((w.alloc (.cells #[.string s, .slice a l.length c] 32)).alloc (.cells #[.string s2, .slice a2 m.length c2] 32)).alloc (.cells #[.string ⟨#[]⟩, .slice none 0 0] 32)) := (Below.refl _ _).alloc (Nat.le_refl _) _
    have HM3 := hide (HM2.out.below (fun b hb => by have := (HY.out b hb).1; omega) hbA)
    have HG3 := hide (grown2_below HG2.out hbA)
    have HB3 := hide (HB2.out.trans (hbA.mono HB2.out.size))
    have s0' : (((w.alloc (.cells #[.string s, .slice a l.length c] 32)).alloc (.cells #[.string s2, .slice a2 m.length c2] 32)).alloc (.cells #[.string ⟨#[]⟩, .slice none 0 0] 32)).cell? ⟨S, 0, none⟩ = some (.map (some q)) := (HSB.out.below HB3.out hSl).cell 0
    have a0' : (((w.alloc (.cells #[.string s, .slice a l.length c] 32)).alloc (.cells #[.string s2, .slice a2 m.length c2] 32)).alloc (.cells #[.string ⟨#[]⟩, .slice none 0 0] 32)).cell? ⟨w.heap.size, 0, none⟩ = some (.string s) := (PA.out.alloc _).cell 0
    have b0' : (((w.alloc (.cells #[.string s, .slice a l.length c] 32)).alloc (.cells #[.string s2, .slice a2 m.length c2] 32)).alloc (.cells #[.string ⟨#[]⟩, .slice none 0 0] 32)).cell? ⟨w.heap.size + 1, 0, none⟩ = some (.string s2) := (PB.out.alloc _).cell 0
    have b1' : (((w.alloc (.cells #[.string s, .slice a l.length c] 32)).alloc (.cells #[.string s2, .slice a2 m.length c2] 32)).alloc (.cells #[.string ⟨#[]⟩, .slice none 0 0] 32)).cell? ⟨w.heap.size + 1, 1, none⟩ = some (.slice a2 m.length c2) := (PB.out.alloc _).cell 1
    obtain ⟨w8, hrun, hM8, hz8, ho8, ht8, hu8, hk8⟩ := run_put (P := Tryz.prog) Tryz.underlying87 Tryz.underlying9 HM3.out.1 s (.agg #[.string s2, .slice a2 m.length c2]) hg
    have HM8 : Hid (FtM w8 q Y (Z ++ [(⟨s, ⟨s2, m⟩⟩, a2, c2)])) := ⟨by rw [List.map_append]; exact hM8, fun x hx => by
     rcases List.mem_append.1 hx with hx | hx
     ·exact (HM3.out.2 x hx).kept fun b hb => hk8 b (HY.out b hb).2
     ·have e : x = (⟨s, ⟨s2, m⟩⟩, a2, c2) := by simpa using hx
      subst e
      exact (HS2.out.later HB3.out).kept fun b hb => hk8 b (HY.out b hb).2⟩
    have HG8 : Hid (w.grownBy w8 (some q)) := ⟨ho8.trans HG3.out.os, ht8.trans HG3.out.tape, hu8.trans HG3.out.output, by rw [hz8]; exact HG3.out.size, fun j hj hne => (hk8 j (fun e => hne (by rw [e]))).trans (HG3.out.block j hj hne)⟩
    clear hf hg hbA hM8 hz8 ho8 ht8 hu8 hk8
    go_enter Tryz.func126, Tryz.ntmps126
    go_wp2_with (go_at_call 36; refine (isVariable_all _ _).mono ?_; rintro e w' ⟨rfl, rfl⟩; rw [HVB.out])
    go_ret
    refine ⟨HG8.out, ?_⟩
    rw [HR.out]
    exact Or.inr ⟨_, _, rfl, rfl, by simp, HM8.out⟩
  | false =>
   have HVB := hide hvb
   clear hvb
   rw [shT_deep HVB.out, Bool.and_eq_true, Bool.and_eq_true] at hsh
   obtain ⟨⟨hn, hm⟩, hsh⟩ := hsh
   have hm : l.length = m.length := by simpa using hm
   have HSH := hide ((shL_iff l m hm).1 hsh)
   clear hsh
   have HR := hide (mtT_deep (h := Z.map (·.1)) HVB.out hn hm)
   have HLM := hide hm
   rw [← hm] at HG2 HB2 PA PB hz2 hl2 ⊢
   clear hm
   go_enter Tryz.func126, Tryz.ntmps126
   go_wp2_with (go_at_call 36; refine (isVariable_all _ _).mono ?_; rintro e w' ⟨rfl, rfl⟩; rw [HVB.out])
   generalize (w.alloc (.cells #[.string s, .slice a l.length c] 32)).alloc (.cells #[.string s2, .slice a2 l.length c2] 32) = w2 at *
   go_loopw [36] (fun i wr => FlInv w2 q Y l m (Z.map (·.1)) i wr) (fun i wr => l.length - (intOf i).toNat)
   case atStart => exact ⟨0, Z, Nat.zero_le _, rfl, by simp [mtL], HM.out.below (fun b hb => (HY.out b hb).1) HB2.out, ⟨rfl, rfl, rfl, Nat.le_refl _, fun _ _ _ => rfl⟩⟩
   case round =>
    obtain ⟨k, Z', hk, rfl, hT, hMk, hg⟩ := hrel
    have HT := hide hT
    have HMK := hide hMk
    have HGK := hide hg
    have hwr : w.heap.size + 2 ≤ wr.heap.size := by have := hg.size; omega
    have PAK : Hid (Blk wr w.heap.size #[.string s, .slice a l.length c] 32) := (hg.block w.heap.size (by omega) (by simp; omega)).trans PA.out
    have PBK : Hid (Blk wr (w.heap.size + 1) #[.string s2, .slice a2 l.length c2] 32) := (hg.block (w.heap.size + 1) (by omega) (by simp; omega)).trans PB.out
    have FBK : Hid (Blk wr F #[.func (.func 126) #[] #[.pointer (some ⟨S, 0, none⟩), .pointer (some ⟨F, 0, none⟩)]] 60) := (hg.block F (by omega) (by simpa using hFq)).trans (HFB.out.below HB2.out hFl)
    have SBK : Hid (Blk wr S #[.map (some q)] 87) := (hg.block S (by omega) (by simpa using hSq)).trans (HSB.out.below HB2.out hSl)
    have HSK : Hid (Sl wr Y a l) := (HS.out.later HB2.out).kept fun b hb => by
     have h1 := HY.out b hb
     exact hg.block b (by omega) (by simpa using h1.2)
    have HSK2 : Hid (Sl wr Y a2 m) := (HS2.out.later HB2.out).kept fun b hb => by
     have h1 := HY.out b hb
     exact hg.block b (by omega) (by simpa using h1.2)
    have f0 := FBK.out.c0
    have a1 := PAK.out.c1
    clear hT hMk hg
    by_cases hlt' : k < l.length
    ·have hlt2 : (k : Int) < (l.length : Int) := by omega
     have hltm : k < m.length := by have := HLM.out; omega
     obtain ⟨b, o, a', c', rfl, d0, d1, hx⟩ := HSK.out.get (Below.refl _ _) (fun _ _ h => h) k hlt'
     obtain ⟨b2, o2, a2', c2', rfl, e0, e1, hx2⟩ := HSK2.out.get (Below.refl _ _) (fun _ _ h => h) k hltm
     have HX := hide hx
     have HX2 := hide hx2
     have b1 : wr.cell? ⟨w.heap.size + 1, 1, none⟩ = some (.slice (some ⟨b2, o2, none⟩) l.length c2) := PBK.out.cell 1
     have HS0 := hide (And.intro f0 (And.intro a1 (And.intro b1 (And.intro d0 (And.intro d1 (And.intro e0 e1))))))
     have hbY : b < w.heap.size ∧ b ≠ q := by
      obtain ⟨_, h1⟩ := HSK.out
      rcases h1 with h1 | ⟨b', o', e', h1⟩
      ·rw [h1] at hlt'; simp at hlt'
      ·cases e'; exact HY.out _ (lies_get _ _ _ h1 k hlt').1
     have hb2Y : b2 < w.heap.size ∧ b2 ≠ q := by
      obtain ⟨_, h1⟩ := HSK2.out
      rcases h1 with h1 | ⟨b', o', e', h1⟩
      ·rw [h1] at hltm; simp at hltm
      ·cases e'; exact HY.out _ (lies_get _ _ _ h1 k hltm).1
     have IHK := hide (IH.out l[k] (List.getElem_mem hlt') m[k] Z' (.agg #[.string l[k].name, .slice a' l[k].args.length c']) (.agg #[.string m[k].name, .slice a2' m[k].args.length c2']) wr.drew (by exact HX.out.later (below_drewN (Below.refl _ _) 1)) (by exact HX2.out.later (below_drewN (Below.refl _ _) 1)) (by exact SBK.out) (by exact FBK.out) (by exact HMK.out.below (fun b hb => by have := (HY.out b hb).1; omega) (below_drewN (Below.refl _ _) 1)) (fun b hb => by have := HY.out b hb; exact ⟨by simp; omega, this.2⟩) (HSH.out k hlt' hltm))
     have SEV : Hid (∀ w1, wr.drew.grownBy w1 (some q) → w1.cell? ⟨F, 0, none⟩ = some (.func (.func 126) #[] #[.pointer (some ⟨S, 0, none⟩), .pointer (some ⟨F, 0, none⟩)]) ∧ w1.cell? ⟨w.heap.size, 1, none⟩ = some (.slice (some ⟨b, o, none⟩) l.length c) ∧ w1.cell? ⟨w.heap.size + 1, 1, none⟩ = some (.slice (some ⟨b2, o2, none⟩) l.length c2) ∧ w1.cell? ⟨b, o + k * 2, none⟩ = some (.string l[k].name) ∧ w1.cell? ⟨b, o + k * 2 + 1, none⟩ = some (.slice a' l[k].args.length c') ∧ w1.cell? ⟨b2, o2 + k * 2, none⟩ = some (.string m[k].name) ∧ w1.cell? ⟨b2, o2 + k * 2 + 1, none⟩ = some (.slice a2' m[k].args.length c2')) := fun w1 hg1 => by
      have kp : ∀ b o, b < wr.heap.size → b ≠ q → w1.cell? ⟨b, o, none⟩ = wr.cell? ⟨b, o, none⟩ := fun b o hb hne => hg1.cell_far ⟨b, o, none⟩ (by simpa using hb) (by simpa using hne)
      have h := HS0.out
      exact ⟨(kp _ _ (by omega) hFq).trans h.1, (kp _ _ (by omega) (by omega)).trans h.2.1, (kp _ _ (by omega) (by omega)).trans h.2.2.1, (kp _ _ (by omega) hbY.2).trans h.2.2.2.1, (kp _ _ (by omega) hbY.2).trans h.2.2.2.2.1, (kp _ _ (by omega) hb2Y.2).trans h.2.2.2.2.2.1, (kp _ _ (by omega) hb2Y.2).trans h.2.2.2.2.2.2⟩
     have HNO := hide (fun h0 => mtL_no hlt' HLM.out HT.out h0)
     have HNX := hide (fun h'' (h0 : mtT l[k] m[k] (Z'.map (·.1)) = some h'') => mtL_next hlt' hltm HT.out h0)
     have HGO : Hid (∀ w1, wr.drew.grownBy w1 (some q) → w2.grownBy w1 (some q)) := fun w1 hg1 => (grown2_below HGK.out (below_drewN (Below.refl _ _) 1)).andThen hg1 (fun j hj => Or.inr hj)
     clear hx hx2 hbY hb2Y
     generalize l[k] = y at *
     generalize m[k] = z at *
     go_wp2_with fail
     cases hr : mtT y z (Z'.map (·.1)) with
     | none =>
      have IHN : Hid (Calls Tryz.prog 126 #[.agg #[.string y.name, .slice a' y.args.length c'], .agg #[.string z.name, .slice a2' z.args.length c2'], .pointer (some ⟨S, 0, none⟩), .pointer (some ⟨F, 0, none⟩)] wr.drew fun e w' => e = .returned (.bool false) ∧ wr.drew.grownBy w' (some q)) := by
       refine IHK.out.mono ?_
       rintro e w1 ⟨hg1, ⟨_, rfl⟩ | ⟨h', Z1, h0, _⟩⟩
       ·exact ⟨rfl, hg1⟩
       ·rw [hr] at h0; cases h0
      have HF : Hid (mtT ⟨s, l⟩ ⟨s2, m⟩ (Z.map (·.1)) = none) := by unfold Hid; rw [HR.out, HNO.out hr]
      go_region_held3 (fun w' => w'.cell? ⟨F, 0, none⟩ = some (.func (.func 126) #[] #[.pointer (some ⟨S, 0, none⟩), .pointer (some ⟨F, 0, none⟩)]) ∧ w'.cell? ⟨w.heap.size, 1, none⟩ = some (.slice (some ⟨b, o, none⟩) l.length c) ∧ w'.cell? ⟨w.heap.size + 1, 1, none⟩ = some (.slice (some ⟨b2, o2, none⟩) l.length c2) ∧ w'.cell? ⟨b, o + k * 2, none⟩ = some (.string y.name) ∧ w'.cell? ⟨b, o + k * 2 + 1, none⟩ = some (.slice a' y.args.length c') ∧ w'.cell? ⟨b2, o2 + k * 2, none⟩ = some (.string z.name) ∧ w'.cell? ⟨b2, o2 + k * 2 + 1, none⟩ = some (.slice a2' z.args.length c2')) (first | exact HS0.out | exact hS1 | go_keep)
       ((go_at_call 126; refine IHN.out.mono ?_; rintro e w1 ⟨rfl, hg1⟩; have hS1 := SEV.out w1 hg1))
      have HG1 := hide (HGO.out w1 hg1)
      clear hg1 hS1
      go_wp2_with fail
      go_ret
      exact ⟨HG2.out.andThen HG1.out (fun j hj => Or.inr hj), Or.inl ⟨HF.out, rfl⟩⟩
     | some h' =>
      have IHS : Hid (Calls Tryz.prog 126 #[.agg #[.string y.name, .slice a' y.args.length c'], .agg #[.string z.name, .slice a2' z.args.length c2'], .pointer (some ⟨S, 0, none⟩), .pointer (some ⟨F, 0, none⟩)] wr.drew fun e w' => e = .returned (.bool true) ∧ wr.drew.grownBy w' (some q) ∧ ∃ Z1 : List Bc, Z1.map (·.1) = h' ∧ FtM w' q Y Z1) := by
       refine IHK.out.mono ?_
       rintro e w1 ⟨hg1, ⟨h0, _⟩ | ⟨h'', Z1, h0, rfl, h2, h3⟩⟩
       ·rw [hr] at h0; cases h0
       ·rw [hr] at h0
        cases h0
        exact ⟨rfl, hg1, Z1, h2, h3⟩
      have HN := hide (HNX.out h' hr)
      go_region_held3 (fun w' => w'.cell? ⟨F, 0, none⟩ = some (.func (.func 126) #[] #[.pointer (some ⟨S, 0, none⟩), .pointer (some ⟨F, 0, none⟩)]) ∧ w'.cell? ⟨w.heap.size, 1, none⟩ = some (.slice (some ⟨b, o, none⟩) l.length c) ∧ w'.cell? ⟨w.heap.size + 1, 1, none⟩ = some (.slice (some ⟨b2, o2, none⟩) l.length c2) ∧ w'.cell? ⟨b, o + k * 2, none⟩ = some (.string y.name) ∧ w'.cell? ⟨b, o + k * 2 + 1, none⟩ = some (.slice a' y.args.length c') ∧ w'.cell? ⟨b2, o2 + k * 2, none⟩ = some (.string z.name) ∧ w'.cell? ⟨b2, o2 + k * 2 + 1, none⟩ = some (.slice a2' z.args.length c2')) (first | exact HS0.out | exact hS1 | go_keep)
       ((go_at_call 126; refine IHS.out.mono ?_; rintro e w1 ⟨rfl, hg1, Z1, hc1, hm1⟩; have hS1 := SEV.out w1 hg1))
      have HG1 := hide (HGO.out w1 hg1)
      have HC1 := hide hc1
      have HM1 := hide hm1
      clear hg1 hS1 hc1 hm1
      go_wp2_with fail
      go_roundw
      case rel => exact ⟨k + 1, Z1, by omega, by go_num, by rw [HC1.out]; exact HN.out, HM1.out, HG1.out⟩
      case measure => simp [intOf]; omega
    ·have HF : Hid (mtT ⟨s, l⟩ ⟨s2, m⟩ (Z.map (·.1)) = some (Z'.map (·.1))) := by
      unfold Hid
      rw [HR.out, ← HT.out, List.take_of_length_le (by omega), List.take_of_length_le (by have := HLM.out; omega)]
     have HGF := hide (HG2.out.andThen HGK.out (fun j hj => Or.inr hj))
     go_wp2_with fail
     go_ret
     exact ⟨HGF.out, Or.inr ⟨_, Z', HF.out, rfl, rfl, HMK.out⟩⟩
def PtT (w : World) (X : Nat → Prop) (b o : Nat) (t : Tm) : Prop := ∃ a c, w.cell? ⟨b, o, none⟩ = some (.string t.name) ∧ w.cell? ⟨b, o + 1, none⟩ = some (.slice a t.args.length c) ∧ Sl w X a t.args ∧ b < w.heap.size
theorem PtT.later {w w' : World} {X : Nat → Prop} {b o : Nat} {t : Tm} (h : PtT w X b o t) (hb : Below w.heap.size w w') : PtT w' X b o t := by
 obtain ⟨a, c, h1, h2, h3, h4⟩ := h
 exact ⟨a, c, (hb.cell (p := ⟨b, o, none⟩) h4).trans h1, (hb.cell (p := ⟨b, o + 1, none⟩) h4).trans h2, h3.later hb, Nat.lt_of_lt_of_le h4 hb.size⟩
theorem PtT.lt {w : World} {X : Nat → Prop} {b o : Nat} {t : Tm} (h : PtT w X b o t) : b < w.heap.size := by
 obtain ⟨a, c, h1, h2, h3, h4⟩ := h
 exact h4
theorem PtT.sub {w : World} {X : Nat → Prop} {b o : Nat} {t : Tm} (h : PtT w X b o t) : ∃ a c, w.cell? ⟨b, o + 1, none⟩ = some (.slice a t.args.length c) ∧ ∀ k (hk : k < t.args.length), ∃ b' o', a = some ⟨b', o', none⟩ ∧ PtT w X b' (o' + k * 2) t.args[k] := by
 obtain ⟨a, c, h1, h2, h3, h4⟩ := h
 refine ⟨a, c, h2, fun k hk => ?_⟩
 obtain ⟨b', o', a', c', rfl, d0, d1, hx⟩ := h3.get (Below.refl _ _) (fun _ _ h => h) k hk
 obtain ⟨a2, c2, e2, hx⟩ := hx
 cases e2
 exact ⟨b', o', rfl, a', c', d0, d1, hx, cell_lt d0⟩
def ShInv (w : World) (l m : List Tm) (i : Value) (wr : World) : Prop :=
 ∃ k : Nat, k ≤ l.length ∧ i = .int .i64 (k : Int) ∧ (∀ j (h : j < l.length) (h2 : j < m.length), j < k → shT l[j] m[j] = true) ∧ Below w.heap.size w wr
set_option maxHeartbeats 1000000 in
theorem isShaped_any (X : Nat → Prop) (p : Tm) : ∀ (t : Tm) (b o b2 o2 : Nat) (w : World), PtT w X b o p → PtT w X b2 o2 t →
  Calls Tryz.prog 125 #[.pointer (some ⟨b, o, none⟩), .pointer (some ⟨b2, o2, none⟩)] w fun e w' => e = .returned (.bool (shT p t)) ∧ Below w.heap.size w w' := by
 induction p using Tm.ind with
 | h s l ih =>
  intro t b o b2 o2 w hp ht
  obtain ⟨s2, m⟩ := t
  have IH := hide ih
  have HP := hide hp
  have HT := hide ht
  obtain ⟨a, c, p0, p1, hs, hbl⟩ := hp
  obtain ⟨a2, c2, t0, t1, hs2, hbl2⟩ := ht
  dsimp only at p0 p1 hs t0 t1 hs2 ⊢
  have hl := hs.1
  have hl2 := hs2.1
  clear ih hs hs2
  cases hvb : varB s with
  | true =>
   have HR := hide (shT_var (l := l) (t := ⟨s2, m⟩) hvb)
   go_enter Tryz.func125, Tryz.ntmps125
   go_wp2_with (go_at_call 36; refine (isVariable_all _ _).mono ?_; rintro e w ⟨rfl, rfl⟩; rw [hvb])
   refine bodyPost_ret (v := .bool true) (by simp [results, Tryz.results125, go_sem]) rfl ?_
   exact ⟨by rw [HR.out], Below.refl _ _⟩
  | false =>
   have HVB := hide hvb
   cases hn : (s.toList == s2.toList) with
   | false =>
    have HR : Hid (shT ⟨s, l⟩ ⟨s2, m⟩ = false) := by unfold Hid; rw [shT_deep hvb, hn]; rfl
    go_enter Tryz.func125, Tryz.ntmps125
    have HS0 := hide (And.intro p0 (And.intro p1 (And.intro t0 t1)))
    go_wp2_with (go_at_call 36; refine (isVariable_all _ _).mono ?_; rintro e w ⟨rfl, rfl⟩; rw [hvb])
    refine wp_region_held_drew (S := fun w' => w'.cell? ⟨b, o, none⟩ = some (.string s) ∧ w'.cell? ⟨b, o + 1, none⟩ = some (.slice a l.length c) ∧ w'.cell? ⟨b2, o2, none⟩ = some (.string s2) ∧ w'.cell? ⟨b2, o2 + 1, none⟩ = some (.slice a2 m.length c2)) (by kernel_rfl) HS0.out (fun hHeld => ?_)
    refine tkq (v := ?_) 0 rfl ?_ ?_
    rotate_left
    ·intro w' hSw
     obtain ⟨k1, k2, k3, k4⟩ := hSw
     go_simp <;> with_reducible rfl
    try simp only [Act.put, sq]
    refine tkq (v := ?_) 1 rfl ?_ ?_
    rotate_left
    ·intro w' hSw
     obtain ⟨k1, k2, k3, k4⟩ := hSw
     go_simp <;> with_reducible rfl
    try simp only [Act.put, sq]
    refine tkq (v := ?_) 2 rfl ?_ ?_
    rotate_left
    ·intro w' hSw
     obtain ⟨k1, k2, k3, k4⟩ := hSw
     go_simp <;> with_reducible rfl
    try simp only [Act.put, sq]
    refine tkq (v := ?_) 3 rfl ?_ ?_
    rotate_left
    ·intro w' hSw
     obtain ⟨k1, k2, k3, k4⟩ := hSw
     go_simp <;> with_reducible rfl
    try simp only [Act.put, sq]
    refine tkq (v := ?_) 4 rfl ?_ ?_
    rotate_left
    ·intro w' hSw
     obtain ⟨k1, k2, k3, k4⟩ := hSw
     go_simp <;> with_reducible rfl
    try simp only [Act.put, sq]
    refine tkq (v := ?_) 5 rfl ?_ ?_
    rotate_left
    ·intro w' hSw
     obtain ⟨k1, k2, k3, k4⟩ := hSw
     go_simp <;> with_reducible rfl
    try simp only [Act.put, sq]
    refine tkq (v := ?_) 6 rfl ?_ ?_
    rotate_left
    ·intro w' hSw
     obtain ⟨k1, k2, k3, k4⟩ := hSw
     go_simp <;> with_reducible rfl
    try simp only [Act.put, sq]
    refine tkq (v := ?_) 7 rfl ?_ ?_
    rotate_left
    ·intro w' hSw
     obtain ⟨k1, k2, k3, k4⟩ := hSw
     go_simp <;> with_reducible rfl
    try simp only [Act.put, sq]
    refine tkq (v := ?_) 8 rfl ?_ ?_
    rotate_left
    ·intro w' hSw
     obtain ⟨k1, k2, k3, k4⟩ := hSw
     go_simp <;> with_reducible rfl
    try simp only [Act.put, sq]
    refine tkq (v := ?_) 9 rfl ?_ ?_
    rotate_left
    ·intro w' hSw
     obtain ⟨k1, k2, k3, k4⟩ := hSw
     go_simp <;> with_reducible rfl
    try simp only [Act.put, sq]
    refine wpAnyH_take (i := 10) (v := undef) rfl (by kernel_rfl) (by kernel_rfl) (by kernel_rfl) (fun _ _ _ h => h) (Or.inr ⟨by rfl, rfl⟩) (by assumption) ?_
    try simp only [Act.put, sq]
    refine wpAnyH_take (i := 11) (v := undef) rfl (by kernel_rfl) (by kernel_rfl) (by kernel_rfl) (fun _ _ _ h => h) (Or.inr ⟨by rfl, rfl⟩) (by assumption) ?_
    try simp only [Act.put, sq]
    refine wpAnyH_take (i := 12) (v := undef) rfl (by kernel_rfl) (by kernel_rfl) (by kernel_rfl) (fun _ _ _ h => h) (Or.inr ⟨by rfl, rfl⟩) (by assumption) ?_
    try simp only [Act.put, sq]
    refine wpAnyH_take (i := 13) (v := undef) rfl (by kernel_rfl) (by kernel_rfl) (by kernel_rfl) (fun _ _ _ h => h) (Or.inr ⟨by rfl, rfl⟩) (by assumption) ?_
    try simp only [Act.put, sq]
    refine wpAnyH_take (i := 14) (v := undef) rfl (by kernel_rfl) (by kernel_rfl) (by kernel_rfl) (fun _ _ _ h => h) (Or.inr ⟨by rfl, rfl⟩) (by assumption) ?_
    try simp only [Act.put, sq]
    refine wpAnyH_take (i := 15) (v := undef) rfl (by kernel_rfl) (by kernel_rfl) (by kernel_rfl) (fun _ _ _ h => h) (Or.inr ⟨by rfl, rfl⟩) (by assumption) ?_
    try simp only [Act.put, sq]
    refine wpAnyH_take (i := 16) (v := undef) rfl (by kernel_rfl) (by kernel_rfl) (by kernel_rfl) (fun _ _ _ h => h) (Or.inr ⟨by rfl, rfl⟩) (by assumption) ?_
    try simp only [Act.put, sq]
    refine wpAnyH_take (i := 17) (v := undef) rfl (by kernel_rfl) (by kernel_rfl) (by kernel_rfl) (fun _ _ _ h => h) (Or.inr ⟨by rfl, rfl⟩) (by assumption) ?_
    try simp only [Act.put, sq]
    refine wpAnyH_take (i := 18) (v := undef) rfl (by kernel_rfl) (by kernel_rfl) (by kernel_rfl) (fun _ _ _ h => h) (Or.inr ⟨by rfl, rfl⟩) (by assumption) ?_
    try simp only [Act.put, sq]
    refine wpAnyH_take (i := 19) (v := undef) rfl (by kernel_rfl) (by kernel_rfl) (by kernel_rfl) (fun _ _ _ h => h) (Or.inr ⟨by rfl, rfl⟩) (by assumption) ?_
    try simp only [Act.put, sq]
    refine wpAnyH_take (i := 20) (v := undef) rfl (by kernel_rfl) (by kernel_rfl) (by kernel_rfl) (fun _ _ _ h => h) (Or.inr ⟨by rfl, rfl⟩) (by assumption) ?_
    try simp only [Act.put, sq]
    refine tkq (v := ?_) 21 rfl ?_ ?_
    rotate_left
    ·intro w' hSw
     obtain ⟨k1, k2, k3, k4⟩ := hSw
     go_simp <;> with_reducible rfl
    try simp only [Act.put, sq]
    refine wpAnyH_done (by kernel_rfl) ?_ _
    go_wp2_with fail
    refine bodyPost_ret (v := .bool false) (by simp [results, Tryz.results125, go_sem]) rfl ?_
    exact ⟨by rw [HR.out], (Below.refl _ _).drew⟩
   | true =>
    by_cases hm : l.length = m.length
    case neg =>
     have HR : Hid (shT ⟨s, l⟩ ⟨s2, m⟩ = false) := by unfold Hid; rw [shT_deep hvb, hn]; simp [hm]
     have hm2 : ((l.length : Int) == (m.length : Int)) = false := beq_eq_false_iff_ne.2 (by omega)
     have hm3 : ((l.length : Int) != (m.length : Int)) = true := by simp [bne, hm2]
     clear hm
     go_enter Tryz.func125, Tryz.ntmps125
     have HS0 := hide (And.intro p0 (And.intro p1 (And.intro t0 t1)))
     go_wp2_with (go_at_call 36; refine (isVariable_all _ _).mono ?_; rintro e w ⟨rfl, rfl⟩; rw [hvb])
     go_region_held3 (fun w' => w'.cell? ⟨b, o, none⟩ = some (.string s) ∧ w'.cell? ⟨b, o + 1, none⟩ = some (.slice a l.length c) ∧ w'.cell? ⟨b2, o2, none⟩ = some (.string s2) ∧ w'.cell? ⟨b2, o2 + 1, none⟩ = some (.slice a2 m.length c2)) (first | exact HS0.out | go_keep) (fail)
     go_wp2_with fail
     refine bodyPost_ret (v := .bool false) (by simp [results, Tryz.results125, go_sem]) rfl ?_
     exact ⟨by rw [HR.out], (Below.refl _ _).drew⟩
    case pos =>
     have HR : Hid (shT ⟨s, l⟩ ⟨s2, m⟩ = shL l m) := by unfold Hid; rw [shT_deep hvb, hn]; simp [hm]
     have HLM := hide hm
     rw [← hm] at t1 hl2
     clear hm
     go_enter Tryz.func125, Tryz.ntmps125
     have HS0 := hide (And.intro p0 (And.intro p1 (And.intro t0 t1)))
     go_wp2_with (go_at_call 36; refine (isVariable_all _ _).mono ?_; rintro e w ⟨rfl, rfl⟩; rw [hvb])
     go_region_held3 (fun w' => w'.cell? ⟨b, o, none⟩ = some (.string s) ∧ w'.cell? ⟨b, o + 1, none⟩ = some (.slice a l.length c) ∧ w'.cell? ⟨b2, o2, none⟩ = some (.string s2) ∧ w'.cell? ⟨b2, o2 + 1, none⟩ = some (.slice a2 l.length c2)) (first | exact HS0.out | go_keep) (fail)
     go_wp2_with fail
     go_loopw [38] (fun i wr => ShInv w l m i wr) (fun i wr => l.length - (intOf i).toNat)
     case atStart => exact ⟨0, Nat.zero_le _, rfl, fun j _ _ h => absurd h (by omega), (Below.refl _ _).drew⟩
     case round =>
      obtain ⟨k, hk, rfl, hT, hB⟩ := hrel
      have HTK := hide hT
      have HB := hide hB
      have HPK := hide (HP.out.later hB)
      have HTT := hide (HT.out.later hB)
      clear hT hB
      by_cases hlt : k < l.length
      ·have hltm : k < m.length := by have := HLM.out; omega
       obtain ⟨a', c', q1, hsub⟩ := HPK.out.sub
       obtain ⟨b', o', rfl, hx⟩ := hsub k hlt
       obtain ⟨a2', c2', r1, hsub2⟩ := HTT.out.sub
       obtain ⟨b2', o2', rfl, hx2⟩ := hsub2 k hltm
       dsimp only at q1 r1 hx hx2
       rw [← HLM.out] at r1
       have hk2 : (k : Int) < (l.length : Int) := by omega
       have HS1 := hide (And.intro q1 r1)
       have HI : Hid (Calls Tryz.prog 125 #[.pointer (some ⟨b', o' + k * 2, none⟩), .pointer (some ⟨b2', o2' + k * 2, none⟩)] wr.drew fun e w' => e = .returned (.bool (shT l[k] m[k])) ∧ Below wr.drew.heap.size wr.drew w') := IH.out l[k] (List.getElem_mem hlt) m[k] b' (o' + k * 2) b2' (o2' + k * 2) wr.drew (hx.later ((Below.refl _ _).drew)) (hx2.later ((Below.refl _ _).drew))
       have HNO := hide (fun h0 => shL_no HLM.out hlt hltm h0)
       have HNX : Hid (shT l[k] m[k] = true → ∀ j (h : j < l.length) (h2 : j < m.length), j < k + 1 → shT l[j] m[j] = true) := fun h0 j h h2 hj => by
        by_cases e : j = k
        ·subst e; exact h0
        ·exact HTK.out j h h2 (by omega)
       have hkp : ∀ w5, Below wr.drew.heap.size wr.drew w5 → w5.cell? ⟨b, o + 1, none⟩ = some (.slice (some ⟨b', o', none⟩) l.length c') ∧ w5.cell? ⟨b2, o2 + 1, none⟩ = some (.slice (some ⟨b2', o2', none⟩) l.length c2') := fun w5 h5 => ⟨(h5.cell (p := ⟨b, o + 1, none⟩) (HPK.out.lt)).trans HS1.out.1, (h5.cell (p := ⟨b2, o2 + 1, none⟩) (HTT.out.lt)).trans HS1.out.2⟩
       have HKP := hide hkp
       clear hsub hsub2 hx hx2 hkp
       generalize shT l[k] m[k] = y at *
       go_wp2_with fail
       go_region_held3 (fun w' => w'.cell? ⟨b, o + 1, none⟩ = some (.slice (some ⟨b', o', none⟩) l.length c') ∧ w'.cell? ⟨b2, o2 + 1, none⟩ = some (.slice (some ⟨b2', o2', none⟩) l.length c2')) (first | exact HS1.out | exact hS5 | go_keep)
        ((go_at_call 125; refine HI.out.mono ?_; rintro e w5 ⟨rfl, hb5⟩; have hS5 := HKP.out w5 hb5))
       have HB5 := hide (HB.out.trans (((Below.refl _ _).drew.trans hb5).mono HB.out.size))
       clear hb5 hS5
       cases y with
       | false =>
        have HF := hide (HR.out.trans (HNO.out rfl))
        go_wp2_with fail
        refine bodyPost_ret (v := .bool false) (by simp [results, Tryz.results125, go_sem]) rfl ?_
        exact ⟨by rw [HF.out], HB5.out⟩
       | true =>
        go_wp2_with fail
        go_roundw
        case rel => exact ⟨k + 1, by omega, by go_num, HNX.out rfl, HB5.out⟩
        case measure => simp [intOf]; omega
      ·have HF : Hid (shT ⟨s, l⟩ ⟨s2, m⟩ = true) := by
        unfold Hid
        rw [HR.out, shL_iff l m HLM.out]
        exact fun j h h2 => HTK.out j h h2 (by omega)
       go_wp2_with fail
       refine bodyPost_ret (v := .bool true) (by simp [results, Tryz.results125, go_sem]) rfl ?_
       exact ⟨by rw [HF.out], HB.out⟩
def FitPostN (w : World) (Y : Nat → Prop) (p t : Tm) (e : Ending) (w' : World) : Prop :=
 Below w.heap.size w w' ∧ ((mtT p t [] = none ∧ e = .returned (.tuple #[.map none, .bool false])) ∨
  ∃ (h' : List Bd) (q : Nat) (Z' : List Bc), mtT p t [] = some h' ∧ e = .returned (.tuple #[.map (some q), .bool true]) ∧ Z'.map (·.1) = h' ∧ FtM w' q Y Z' ∧ w.heap.size ≤ q)
theorem fit_start (w : World) (m v : Value) (T1 T2 : Nat) : Below w.heap.size w (((w.alloc (.map #[] 0)).alloc (.cells #[m] T1)).alloc (.cells #[v] T2)) ∧
  MapAt (((w.alloc (.map #[] 0)).alloc (.cells #[m] T1)).alloc (.cells #[v] T2)) w.heap.size [] ∧ Blk (((w.alloc (.map #[] 0)).alloc (.cells #[m] T1)).alloc (.cells #[v] T2)) (w.heap.size + 1) #[m] T1 ∧ Blk (((w.alloc (.map #[] 0)).alloc (.cells #[m] T1)).alloc (.cells #[v] T2)) (w.heap.size + 1 + 1) #[v] T2 := by
 refine ⟨((((Below.refl _ _).alloc (Nat.le_refl _) _).alloc (by simp) _).alloc (by simp; omega) _), ?_, ?_, ?_⟩
 ·have h := MapAt.new w
  have h1 := (h.below ((Below.refl _ _).alloc (Nat.le_refl _) (.cells #[m] T1)) h.lt)
  have h2 := (h1.below ((Below.refl _ _).alloc (Nat.le_refl _) (.cells #[v] T2)) h1.lt)
  simpa using h2
 ·have h := (Blk.new (w.alloc (.map #[] 0)) #[m] T1).alloc (.cells #[v] T2)
  simpa using h
 ·have h := Blk.new ((w.alloc (.map #[] 0)).alloc (.cells #[m] T1)) #[v] T2
  simpa using h
theorem PtT.of_blk {w : World} {X : Nat → Prop} {b : Nat} {t : Tm} {a : Option Addr} {c T : Nat} (h : Blk w b #[.string t.name, .slice a t.args.length c] T) (hs : Sl w X a t.args) : PtT w X b 0 t := ⟨a, c, h.cell 0, h.cell 1, hs, h.lt⟩
set_option maxHeartbeats 400000 in
theorem fitN_any (p t : Tm) (pv tv : Value) (w : World) (X : Nat → Prop) (hp : TV w X pv p) (ht : TV w X tv t) :
  Calls Tryz.prog 114 #[pv, tv] w fun e w' => FitPostN w (fun b => X b ∧ b < w.heap.size) p t e w' := by
 obtain ⟨a, c, rfl, hs⟩ := hp
 obtain ⟨a2, c2, rfl, hs2⟩ := ht
 have HS := hide (hs.mono (Y := fun b => X b ∧ b < w.heap.size) fun b h1 h2 => ⟨h1, h2⟩)
 have HS2 := hide (hs2.mono (Y := fun b => X b ∧ b < w.heap.size) fun b h1 h2 => ⟨h1, h2⟩)
 clear hs hs2
 have hmm := @run_makeMap Tryz.prog
 have hmf : ∀ (fn : Fn) (first cap : Array Value) (w : World), (Instr.makeFunc fn first cap).run Tryz.prog w = .ok (.func fn first cap) w := fun _ _ _ _ => rfl
 have hB2 : Below w.heap.size w ((w.alloc (.cells #[.string p.name, .slice a p.args.length c] 32)).alloc (.cells #[.string t.name, .slice a2 t.args.length c2] 32)) := below2 _ _
 have hP2 : Blk ((w.alloc (.cells #[.string p.name, .slice a p.args.length c] 32)).alloc (.cells #[.string t.name, .slice a2 t.args.length c2] 32)) w.heap.size #[.string p.name, .slice a p.args.length c] 32 := (Blk.new w _ _).alloc _
 have hT2 : Blk ((w.alloc (.cells #[.string p.name, .slice a p.args.length c] 32)).alloc (.cells #[.string t.name, .slice a2 t.args.length c2] 32)) (w.heap.size + 1) #[.string t.name, .slice a2 t.args.length c2] 32 := by
  have h := Blk.new (w.alloc (.cells #[.string p.name, .slice a p.args.length c] 32)) #[.string t.name, .slice a2 t.args.length c2] 32
  simpa using h
 go_enter Tryz.func114, Tryz.ntmps114
 go_wp2_with fail
 generalize (w.alloc (.cells #[.string p.name, .slice a p.args.length c] 32)).alloc (.cells #[.string t.name, .slice a2 t.args.length c2] 32) = w2 at *
 refine (isShaped_any (fun b => X b ∧ b < w.heap.size) p t _ _ _ _ w2 (PtT.of_blk hP2 (HS.out.later hB2)) (PtT.of_blk hT2 (HS2.out.later hB2))).mono ?_
 rintro e w3 ⟨rfl, hb3⟩
 have HB3 := hide (hB2.trans (hb3.mono hB2.size))
 have HP3 := hide (hP2.below hb3 hP2.lt)
 have HT3 := hide (hT2.below hb3 hT2.lt)
 have hlP := HP3.out.lt
 have hlT := HT3.out.lt
 clear hb3 hP2 hT2 hB2
 cases hsh : shT p t with
 | false =>
  have H0 := hide (mtT_unshaped (p := p) (t := t) [] hsh)
  clear hsh
  go_wp2_with fail
  refine bodyPost_ret (v := .tuple #[.map none, .bool false]) (by simp [results, Tryz.results114, go_sem]) rfl ?_
  exact ⟨HB3.out, Or.inl ⟨H0.out, rfl⟩⟩
 | true =>
  have HSH := hide hsh
  clear hsh
  have FS := hide (fit_start w3 (.map (some w3.heap.size)) (.func (.func 126) #[] #[.pointer (some ⟨w3.heap.size + 1, 0, none⟩), .pointer (some ⟨w3.heap.size + 1 + 1, 0, none⟩)]) 87 60)
  have p0 : (((w3.alloc (.map #[] 0)).alloc (.cells #[.map (some w3.heap.size)] 87)).alloc (.cells #[.func (.func 126) #[] #[.pointer (some ⟨w3.heap.size + 1, 0, none⟩), .pointer (some ⟨w3.heap.size + 1 + 1, 0, none⟩)]] 60)).cell? ⟨w.heap.size, 0, none⟩ = some (.string p.name) := (HP3.out.below FS.out.1 hlP).cell 0
  have p1 : (((w3.alloc (.map #[] 0)).alloc (.cells #[.map (some w3.heap.size)] 87)).alloc (.cells #[.func (.func 126) #[] #[.pointer (some ⟨w3.heap.size + 1, 0, none⟩), .pointer (some ⟨w3.heap.size + 1 + 1, 0, none⟩)]] 60)).cell? ⟨w.heap.size, 1, none⟩ = some (.slice a p.args.length c) := (HP3.out.below FS.out.1 hlP).cell 1
  have t0 : (((w3.alloc (.map #[] 0)).alloc (.cells #[.map (some w3.heap.size)] 87)).alloc (.cells #[.func (.func 126) #[] #[.pointer (some ⟨w3.heap.size + 1, 0, none⟩), .pointer (some ⟨w3.heap.size + 1 + 1, 0, none⟩)]] 60)).cell? ⟨w.heap.size + 1, 0, none⟩ = some (.string t.name) := (HT3.out.below FS.out.1 hlT).cell 0
  have t1 : (((w3.alloc (.map #[] 0)).alloc (.cells #[.map (some w3.heap.size)] 87)).alloc (.cells #[.func (.func 126) #[] #[.pointer (some ⟨w3.heap.size + 1, 0, none⟩), .pointer (some ⟨w3.heap.size + 1 + 1, 0, none⟩)]] 60)).cell? ⟨w.heap.size + 1, 1, none⟩ = some (.slice a2 t.args.length c2) := (HT3.out.below FS.out.1 hlT).cell 1
  go_wp2_with fail
  generalize (((w3.alloc (.map #[] 0)).alloc (.cells #[.map (some w3.heap.size)] 87)).alloc (.cells #[.func (.func 126) #[] #[.pointer (some ⟨w3.heap.size + 1, 0, none⟩), .pointer (some ⟨w3.heap.size + 1 + 1, 0, none⟩)]] 60)) = w5 at *
  have HB5 := hide (HB3.out.trans (FS.out.1.mono HB3.out.size))
  have SB5 := hide FS.out.2.2.1
  have hz5 := HB5.out.size
  have hz3 := HB3.out.size
  refine (fits_any (w3.heap.size + 1) (w3.heap.size + 1 + 1) w3.heap.size (fun b => X b ∧ b < w.heap.size) p t [] _ _ w5 ⟨a, c, rfl, HS.out.later HB5.out⟩ ⟨a2, c2, rfl, HS2.out.later HB5.out⟩ FS.out.2.2.1 FS.out.2.2.2 ⟨FS.out.2.1, by simp⟩ (fun b hb => ⟨by omega, by omega⟩) HSH.out).mono ?_
  rintro e w6 ⟨hg6, hc6⟩
  have HB6 : Hid (Below w.heap.size w w6) := HB5.out.grown hg6 HB5.out.size (fun j hj => by cases hj; omega)
  have SB6 : Hid (Blk w6 (w3.heap.size + 1) #[.map (some w3.heap.size)] 87) := (hg6.block _ SB5.out.lt (by simp)).trans SB5.out
  have s0 := SB6.out.c0
  clear hg6
  rcases hc6 with ⟨h0, rfl⟩ | ⟨h', Z', h0, rfl, hz', hm'⟩
  ·have H0 := hide h0
   clear h0
   go_wp2_with fail
   refine bodyPost_ret (v := .tuple #[.map none, .bool false]) (by simp [results, Tryz.results114, go_sem]) rfl ?_
   exact ⟨HB6.out, Or.inl ⟨H0.out, rfl⟩⟩
  ·have H0 := hide h0
   have HZ := hide hz'
   have HM := hide hm'
   clear h0 hz' hm'
   go_wp2_with fail
   refine bodyPost_ret (v := .tuple #[.map (some w3.heap.size), .bool true]) (by simp [results, Tryz.results114, go_sem]) rfl ?_
   exact ⟨HB6.out, Or.inr ⟨h', _, Z', H0.out, rfl, HZ.out, HM.out, hz3⟩⟩
def EnvR (w : World) (r : Nat) (X : Nat → Prop) (ls : List Bd) (L : List (ByteArray × Value)) : Prop := MapAt w r L ∧ PairsL w X ls L
theorem EnvR.ex {w w' : World} {r F : Nat} {X : Nat → Prop} {ls : List Bd} {L : List (ByteArray × Value)} (h : EnvR w r X ls L) (he : Ex F w w') (hr : r ≠ F) (hX : ∀ b, X b → b ≠ F) : EnvR w' r X ls L :=
 ⟨h.1.kept (he.block r h.1.lt hr), h.2.imp fun a l hs => hs.ex he hX⟩
theorem EnvR.later {w w' : World} {r : Nat} {X : Nat → Prop} {ls : List Bd} {L : List (ByteArray × Value)} (h : EnvR w r X ls L) (hb : Below w.heap.size w w') : EnvR w' r X ls L :=
 ⟨h.1.below hb h.1.lt, h.2.imp fun a l hs => hs.later hb⟩
attribute [local go_sem] Oper.semAt_some
abbrev Ft := Pr × List Bd
def fitsL (rs : List Pr) (x : Tm) : List Ft := rs.filterMap fun p => (mtT p.l x []).map fun h => (p, h)
theorem fitsL_no {rs : List Pr} {x : Tm} {k : Nat} (h : k < rs.length) (h0 : mtT rs[k].l x [] = none) : fitsL (rs.take (k + 1)) x = fitsL (rs.take k) x := by
 unfold fitsL
 rw [List.take_succ_eq_append_getElem h, List.filterMap_append]
 simp [h0]
theorem fitsL_yes {rs : List Pr} {x : Tm} {k : Nat} {g : List Bd} (h : k < rs.length) (h0 : mtT rs[k].l x [] = some g) : fitsL (rs.take (k + 1)) x = fitsL (rs.take k) x ++ [(rs[k], g)] := by
 unfold fitsL
 rw [List.take_succ_eq_append_getElem h, List.filterMap_append]
 simp [h0]
theorem fitsL_split (rs : List Pr) (x : Tm) (k : Nat) : fitsL rs x = fitsL (rs.take k) x ++ fitsL (rs.drop k) x := by
 unfold fitsL
 rw [← List.filterMap_append, List.take_append_drop]
def LpF (x : Ft) (args : Array Value) (W : World) (Z : Nat → Prop) : Prop :=
 ∃ ra rc q L, args = #[.agg #[.string x.1.r.name, .slice ra x.1.r.args.length rc, .map (some q)]] ∧ Sl W Z ra x.1.r.args ∧ Z q ∧ EnvR W q Z x.2 L
theorem pairsL_of {w : World} {Y : Nat → Prop} : ∀ {Z' : List Bc}, (∀ x ∈ Z', Sl w Y x.2.1 x.1.t.args) → PairsL w Y (Z'.map (·.1)) (Z'.map toP)
 | [], _ => rfl
 | x :: r, h => ⟨x.2.1, x.2.2, _, rfl, h x (by simp), pairsL_of fun y hy => h y (by simp [hy])⟩
def FtInv {J : Tk Ft} (w : World) (f : Nat → Prop) (pre : List Ft) (rs : List Pr) (x : Tm) (i : Value) (wr : World) : Prop :=
 ∃ (k : Nat) (f' : Nat → Prop), k ≤ rs.length ∧ i = .int .i64 (k : Int) ∧ J (pre ++ fitsL (rs.take k) x) true f' wr ∧ ExQ f w wr ∧ ∀ b, f' b → f b ∨ w.heap.size ≤ b
set_option maxHeartbeats 2000000 in
theorem fits1S_any {J : Tk Ft} {K : Nat → Prop} {all : List Ft} (hJ : TkOk J K) (lp : Nat) {S : World → Prop} (RH : RndS lp LpF J all S) (rs : List Pr) (x : Tm) (R T : Nat) (uv : Value) (aa : Option Addr) (ca : Nat) (pre : List Ft) (f : Nat → Prop) (w : World) (X : Nat → Prop) (hR : Blk w R #[uv] 22) (hu : QV w X uv rs) (hT : Blk w T #[.string x.name, .slice aa x.args.length ca] 32) (hs : Sl w X aa x.args) (hX : ∀ b, X b → b < w.heap.size ∧ ¬ f b) (hRf : ¬ f R) (hTf : ¬ f T) (hj : J pre true f w) (hOk : (pre ++ fitsL rs x) <+: all) :
  Calls Tryz.prog 113 #[.func (.yield lp) #[] #[], .pointer (some ⟨R, 0, none⟩), .pointer (some ⟨T, 0, none⟩)] w fun e w' => WentS J (fitsL rs x) pre f S w e w' := by
 have HOK := hide hOk
 clear hOk
 have HU := hide hu
 have HS := hide hs
 have HX := hide hX
 have HJ := hide hJ
 have HRH := hide RH
 have HT := hide hT
 have HJ0 := hide hj
 have r0 := hR.cell 0
 have hRl := hR.lt
 have hTl := hT.lt
 obtain ⟨ua, uc, rfl, hul, _⟩ := hu
 clear hs hX hJ RH hT hj hR
 simp only [List.getElem?_toArray, List.getElem?_cons_zero] at r0
 go_enter Tryz.func113, Tryz.ntmps113
 go_wp2_with fail
 go_loopw [10] (fun v wr => FtInv (J := J) w f pre rs x v wr) (fun v wr => rs.length - (intOf v).toNat)
 case atStart => exact ⟨0, f, Nat.zero_le _, rfl, by simpa [fitsL] using HJ0.out, ExQ.refl _ _, fun b hb => Or.inl hb⟩
 case round =>
  obtain ⟨k, f2, hk, rfl, hj2, he2, hff2⟩ := hrel
  have HJ2 := hide hj2
  have HE2 := hide he2
  have HFF2 := hide hff2
  have HX2 : Hid (∀ b, X b → b < wr.heap.size ∧ ¬ f2 b) := fun b hb => ⟨Nat.lt_of_lt_of_le (HX.out b hb).1 he2.size, fun h => by
   rcases HFF2.out b h with h | h
   ·exact (HX.out b hb).2 h
   ·have := (HX.out b hb).1; omega⟩
  have HTr := hide (HT.out.exq he2 hTf)
  have HSr := hide (HS.out.exq he2 fun b hb => (HX.out b hb).2)
  have HUr : Hid (QV wr X (.slice ua rs.length uc) rs) := ((HU.out.mono (Y := fun b => X b ∧ b < w.heap.size) fun b h1 h2 => ⟨h1, h2⟩).kept fun b hb => HE2.out.block b hb.2 (HX.out b hb.1).2).mono fun b hb _ => hb.1
  clear hj2 he2 hff2
  by_cases hlt : k < rs.length
  ·obtain ⟨b, o, a1, c1, a2, c2, rfl, d0, d1, d2, d3, hs1, hs2⟩ := HUr.out.get k hlt
   have hlt2 : (k : Int) < (rs.length : Int) := by omega
   have HX1 := hide hs1
   have HX3 := hide hs2
   have HNO := fun h => hide (fitsL_no (x := x) hlt h)
   have HYES := fun g h => hide (fitsL_yes (x := x) (g := g) hlt h)
   have HSPL := hide (fitsL_split rs x (k + 1))
   have hTr := HTr.out.lt
   clear hs1 hs2
   generalize rs[k] = d at *
   have t0 : ∀ o, (wr.alloc o).cell? ⟨T, 0, none⟩ = some (.string x.name) := fun o => (HTr.out.alloc o).cell 0
   have t1 : ∀ o, (wr.alloc o).cell? ⟨T, 1, none⟩ = some (.slice aa x.args.length ca) := fun o => (HTr.out.alloc o).cell 1
   have hbA : Below wr.heap.size wr (wr.alloc (.cells #[.string d.l.name, .slice a1 d.l.args.length c1, .string d.r.name, .slice a2 d.r.args.length c2] 34)) := (Below.refl _ _).alloc (Nat.le_refl _) _
   have HBA := hide hbA
   have P0 := hide (Blk.new wr #[.string d.l.name, .slice a1 d.l.args.length c1, .string d.r.name, .slice a2 d.r.args.length c2] 34)
   refine (wpIn_wide (n := 1)).1 ?_
   gi_wp2
   clear t0 t1 d0 d1 d2 d3
   refine ⟨trivial, (callsIn_wide.2 (fitN_any d.l x _ _ _ X ⟨a1, c1, rfl, HX1.out.later hbA⟩ ⟨aa, ca, rfl, HSr.out.later hbA⟩)).mono ?_⟩
   clear hbA
   rintro e w3 ⟨hb3, ⟨h0, rfl⟩ | ⟨h', q, Z', h0, rfl, hz', hm', hq⟩⟩
   ·have HJ3 : Hid (J (pre ++ fitsL (rs.take k) x) true f2 w3) := HJ.out.abide HJ2.out (Nat.le_trans HBA.out.size hb3.size) fun j hj => ((hb3.block j (by have := HJ.out.inside HJ2.out j hj; simp; omega))).trans (HBA.out.block j (HJ.out.inside HJ2.out j hj))
    have HE3 : Hid (ExQ f w w3) := (HE2.out.trans (ExQ.ofBelow HBA.out)).trans (ExQ.ofBelow hb3)
    have HN := HNO h0
    clear hb3 h0
    gi_wp2
    refine ⟨fun _ h => (by cases h), ?_⟩
    gi_wp2
    go_roundw
    case rel => exact ⟨k + 1, f2, by omega, by go_num, by rw [HN.out]; exact HJ3.out, HE3.out, HFF2.out⟩
    case measure => simp [intOf]; omega
   ·have hz3 := Nat.le_trans HBA.out.size hb3.size
    have HJ3 : Hid (J (pre ++ fitsL (rs.take k) x) true f2 w3) := HJ.out.abide HJ2.out (Nat.le_trans HBA.out.size hb3.size) fun j hj => ((hb3.block j (by have := HJ.out.inside HJ2.out j hj; simp; omega))).trans (HBA.out.block j (HJ.out.inside HJ2.out j hj))
    have HE3 : Hid (ExQ f w w3) := (HE2.out.trans (ExQ.ofBelow HBA.out)).trans (ExQ.ofBelow hb3)
    have HY := HYES h' h0
    have P3 := hide (P0.out.below hb3 P0.out.lt)
    have p2 := P3.out.c2
    have p3 := P3.out.c3
    have hqn : wr.heap.size ≤ q := by simp at hq; omega
    have hsr : Sl w3 X a2 d.r.args := (HX3.out.later HBA.out).later hb3
    have RHW := HRH.out 0 _ (d, h') #[.agg #[.string d.r.name, .slice a2 d.r.args.length c2, .map (some q)]] (fun b => (X b ∨ b = q) ∧ b < w3.heap.size) f2 w3 (List.IsPrefix.trans ⟨fitsL (rs.drop (k + 1)) x, by rw [HSPL.out, HY.out]; simp⟩ HOK.out) HJ3.out ⟨a2, c2, q, Z'.map toP, rfl, hsr.mono fun b hb hl => ⟨Or.inl hb, hl⟩, ⟨Or.inr rfl, hm'.1.lt⟩, hm'.1, by rw [← hz']; exact pairsL_of fun y hy => (hm'.2 y hy).mono fun b hb hl => ⟨Or.inl hb.1, hl⟩⟩ (fun b hb => ⟨hb.2, fun h => by
     rcases hb.1 with h1 | h1
     ·exact (HX2.out b h1).2 h
     ·have := HJ.out.inside HJ2.out b (Or.inl h); omega⟩)
    obtain ⟨hfn, htmps, hasg, hbody, hy, hR⟩ := RHW
    have HR := hide hR
    clear hR hm' hz' h0 hb3 hsr
    gi_wp2
    refine HR.out.mono ?_
    rintro e W5 ⟨s5, rfl, f5, hj5, he5, hff5, hS5⟩
    have HS5 := hide hS5
    clear hS5
    have HJ5 := hide hj5
    have HE5 := hide he5
    have HFF5 := hide hff5
    have hz5 := he5.size
    have HE9 : Hid (ExQ f w W5) := HE3.out.transN he5 fun i hi hl => by
     rcases HFF2.out i hi with h | h
     ·exact h
     ·omega
    have HFF9 : Hid (∀ b, f5 b → f b ∨ w.heap.size ≤ b) := fun b hb => by
     have := HE3.out.size
     rcases HFF5.out b hb with h | h
     ·exact HFF2.out b h
     ·right; omega
    clear hj5 he5 hff5 hy
    cases s5 with
    | true =>
     gi_wp2
     go_roundw
     case rel => exact ⟨k + 1, f5, by omega, by go_num, by rw [HY.out]; simpa using HJ5.out, HE9.out, HFF9.out⟩
     case measure => simp [intOf]; omega
    | false =>
     gi_wp2
     refine bodyPost_ret (results_none rfl _ _ _) rfl ?_
     refine ⟨⟨_, rfl⟩, false, ⟨(fitsL (rs.take (k + 1)) x).length, f5, by rw [HSPL.out]; simp, by simp, ?_, HE9.out.mono fun b hb _ => Or.inl hb, HFF9.out⟩, fun _ => HS5.out rfl⟩
     rw [HSPL.out, List.take_left, HY.out]
     simpa using HJ5.out
  ·have htk : rs.take k = rs := List.take_of_length_le (by omega)
   rw [htk] at HJ2
   have hge : ¬ ((k : Int) < (rs.length : Int)) := by omega
   go_wp2_with fail
   go_end0
   exact ⟨⟨_, rfl⟩, true, ⟨(fitsL rs x).length, f2, Nat.le_refl _, fun _ => rfl, by rw [List.take_length]; exact HJ2.out, HE2.out.mono fun b hb _ => Or.inl hb, HFF2.out⟩, fun h => by cases h⟩
def JL {α β : Type} (J : Tk α) (K' : Nat → Prop) (G : β → List α) (pre : List α) (L : Nat) (r rd : Loop) (W0 : World) : Tk β := fun pre2 s f2 W =>
 ∃ (f : Nat → Prop) (m : Nat), (∀ b, f2 b ↔ f b ∨ b = L) ∧ m ≤ (pre2.flatMap G).length ∧ (s = true → m = (pre2.flatMap G).length) ∧ J (pre ++ (pre2.flatMap G).take m) s f W ∧ ¬ f L ∧ W.heap[L]? = some (.loop (if s = true then r else rd)) ∧ (∀ b, K' b → b < W0.heap.size ∧ ¬ f b ∧ b ≠ L) ∧ W0.heap.size ≤ W.heap.size ∧ ∀ b, K' b → W.heap[b]? = W0.heap[b]?
theorem JL.ok {α β : Type} {J : Tk α} {K K' : Nat → Prop} {G : β → List α} {pre : List α} {L : Nat} {r rd : Loop} {W0 : World} (hJ : TkOk J K) (hK : ∀ b, K b → K' b) : TkOk (JL J K' G pre L r rd W0) K' where
 inside := by
  rintro pre2 s f2 W ⟨f, m, hf2, hm, hm2, hj, hfL, hL, hK2, hz, hC⟩ b hb
  rcases hb with hb | hb
  ·rcases (hf2 b).1 hb with h | h
   ·exact hJ.inside hj b (Or.inl h)
   ·subst h; exact (Array.getElem?_eq_some_iff.1 hL).1
  ·have := (hK2 b hb).1; omega
 apart := by
  rintro pre2 s f2 W ⟨f, m, hf2, hm, hm2, hj, hfL, hL, hK2, hz, hC⟩ b hb h
  rcases (hf2 b).1 h with h | h
  ·exact (hK2 b hb).2.1 h
  ·exact (hK2 b hb).2.2 h
 abide := by
  rintro pre2 s f2 W W' ⟨f, m, hf2, hm, hm2, hj, hfL, hL, hK2, hz, hC⟩ hs hk
  refine ⟨f, m, hf2, hm, hm2, hJ.abide hj hs (fun b hb => hk b ?_), hfL, (hk L (Or.inl ((hf2 L).2 (Or.inr rfl)))).trans hL, hK2, Nat.le_trans hz hs, fun b hb => (hk b (Or.inr hb)).trans (hC b hb)⟩
  rcases hb with hb | hb
  ·exact Or.inl ((hf2 b).2 (Or.inl hb))
  ·exact Or.inr (hK b hb)
theorem JL.start {α β : Type} {J : Tk α} {K' f : Nat → Prop} {G : β → List α} {pre : List α} {L : Nat} {r rd : Loop} {W0 : World} (hj : J pre true f W0) (hfL : ¬ f L) (hL : W0.heap[L]? = some (.loop r)) (hK : ∀ b, K' b → b < W0.heap.size ∧ ¬ f b ∧ b ≠ L) : JL J K' G pre L r rd W0 [] true (fun b => f b ∨ b = L) W0 :=
 ⟨f, 0, fun b => Iff.rfl, Nat.zero_le _, fun _ => rfl, by simpa using hj, hfL, hL, hK, Nat.le_refl _, fun b _ => rfl⟩
attribute [local go_sem] Oper.semAt_some
theorem downCS_any {J : Tk Dn} {K : Nat → Prop} {all : List Dn} (hJ : TkOk J K) (lp : Nat) {S : World → Prop} (RH : RndS lp LpD J all S) (t : Tm) (fs : List Int) (T F : Nat) (aa : Option Addr) (ca : Nat) (fv : Value) (pre : List Dn) (f : Nat → Prop) (w : World) (X : Nat → Prop) (hT : Blk w T #[.string t.name, .slice aa t.args.length ca] 32) (hs : Sl w X aa t.args) (hF : Blk w F #[fv] 59) (hfv : PV w X fv fs) (hat : (atT t fs).isSome = true) (hX : ∀ b, X b → b < w.heap.size ∧ ¬ f b) (hj : J pre true f w) (hz : sizeL [t] ≤ 800000) (hOk : (pre ++ dnT [] fs t) <+: all) :
  Calls Tryz.prog 45 #[.func (.yield lp) #[] #[], .pointer (some ⟨T, 0, none⟩), .pointer (some ⟨F, 0, none⟩)] w fun e w' => WentS J (dnT [] fs t) pre f S w e w' := by
 have t0 := hT.cell 0
 have t1 := hT.cell 1
 have f0 := hF.cell 0
 have hK : ∀ b, K b → b < w.heap.size := fun b hb => hJ.inside hj b (Or.inr hb)
 obtain ⟨fa, fc, rfl, hfl, hfc⟩ := hfv
 have HD := hide (downS_any hJ w.heap.size lp hK RH t (.agg #[.string t.name, .slice aa t.args.length ca]) (.slice none 0 0) (.slice fa fs.length fc) [] fs pre f w X ⟨aa, ca, rfl, hs⟩ ⟨fa, fc, rfl, hfl, hfc⟩ hat hX (Nat.le_refl _) (World.ownsRow_nil _ _ _ _) (by simp [Value.ownBlock]) hj (by simp; omega) hOk)
 simp only [List.getElem?_toArray, List.getElem?_cons_zero, List.getElem?_cons_succ] at t0 t1 f0
 clear hT hs hF hfl hfc hat hX hj hz hK RH hJ hOk
 go_enter Tryz.func45, Tryz.ntmps45
 go_wp2_with fail
 refine HD.out.mono ?_
 rintro e w1 ⟨b, rfl, hw, _, hS⟩
 go_wp2_with fail
 go_end0
 exact ⟨⟨_, rfl⟩, b, (hw.mono fun b hb _ => by simp [Value.ownBlock] at hb), hS⟩
theorem stepsFits_any (uv : Value) (hone : ∃ a n c, uv = .slice a n c) (s : ByteArray) (aa : Option Addr) (n ca : Nat) (w : World) :
  Calls Tryz.prog 94 #[uv, .agg #[.string s, .slice aa n ca]] w fun e w' => e = .returned (.func (.func 113) #[] #[.pointer (some ⟨w.heap.size, 0, none⟩), .pointer (some ⟨w.heap.size + 1, 0, none⟩)]) ∧ w' = (w.alloc (.cells #[uv] 22)).alloc (.cells #[.string s, .slice aa n ca] 32) := by
 obtain ⟨a, n1, c, rfl⟩ := hone
 have hmf : ∀ (fn : Fn) (first cap : Array Value) (w : World), (Instr.makeFunc fn first cap).run Tryz.prog w = .ok (.func fn first cap) w := fun _ _ _ _ => rfl
 go_enter Tryz.func94, Tryz.ntmps94
 go_wp2_with fail
 go_ret
 exact ⟨rfl, rfl⟩
abbrev Ch := Dn × Ft
def cl_ren : Go.Shelf.Ren := ⟨fun | 41 => 74 | n => n, fun | 22 => 30 | 23 => 32 | 4 => 4 | n => n, fun | n => n⟩
theorem cl_lays : Go.Proofs.SlLaysE0.n41 Tryz.prog cl_ren := {
 mixed := by kernel_rfl
 f41 := ⟨Tryz.f74.name, by decide, Tryz.func74.trans (congrArg some (by kernel_rfl))⟩
 t4 := Tryz.underlying4
 a4 := Tryz.isAgg4
 z4 := Tryz.sizeOf4
 v4 := Tryz.zeroValue4
 t22 := Tryz.underlying30
 a22 := Tryz.isAgg30
 z22 := Tryz.sizeOf30
 v22 := Tryz.zeroValue30 }
theorem cloneT_any (b off n c : Nat) (news : List Value) (w : World) (hl : news.length = n * 2) (hn : n ≤ 1000000) (hc : ∀ j u, news[j]? = some u → w.cell? ⟨b, off + j, none⟩ = some u) (h1 : ∀ u ∈ news, u.oneCell' = true) :
  Calls Tryz.prog 74 #[.slice (some ⟨b, off, none⟩) n c] w fun e w' => ∃ v', e = .returned v' ∧ w'.ownsRow w.heap.size 32 2 v' n news ∧ v' ≠ .slice none 0 0 ∧ Below w.heap.size w w' := by
 obtain ⟨i0, hi, hz0, hz1, hz2⟩ := info_parts Tryz.infoTerm
 exact AnyE.slices_Clone cl_lays i0 _ 2 40 hi hz0 hz1 hz2 rfl (by decide) Tryz.sizeOf32 b off n c news w hl (by unfold maxLen; omega) (by omega) hc h1
end Go.Proofs.YtbnmlkaejdpigaaGreatDoor
