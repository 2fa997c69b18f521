import Derived.Test.YtdebiiodhkcnkaaGreatSo4
namespace Go.Proofs.YtdebiiodhkcnkaaGreat
open Go.RowKit
set_option linter.unusedSimpArgs false
set_option linter.unusedVariables false
set_option maxRecDepth 8000
theorem inB_occ {x : ByteArray} {t : Tm} (hx : varB x = true) : inB x (varsP [] (preL [t])) = occB x [t] := by
 rw [Bool.eq_iff_iff, occB_iff]
 constructor
 ·intro h
  unfold inB at h
  rw [List.any_eq_true] at h
  obtain ⟨y, hy, e⟩ := h
  have e2 : y = x := bytes_inj (by simpa using e)
  subst e2
  rcases varsP_sub _ _ _ hy with h1 | ⟨k, h1, h2, _⟩
  ·cases h1
  ·exact ⟨k, h1, h2⟩
 ·intro h
  apply Classical.byContradiction
  intro hn
  exact not_inB hx hn h
def WoOut (S q N : Nat) (h : List (ByteArray × Tm)) (cs : List Ec) (ta tb : Tm) (code : Int) (w' : World) : Prop :=
 (code ≠ 0 ∧ ∃ (f' : Bool) (Y' : Nat → Prop) (td' : Value), SolE S q td' h f' Y' w' ∧ (f' = true ∨ ∀ l, uPair false (sAt h) l ta tb = .stop code (sAt h))) ∨
 (code = 0 ∧ sizeL [ta] ≤ 2000 ∧ sizeL [tb] ≤ 2000 ∧ ∃ (h' : List (ByteArray × Tm)) (cs' : List Ec) (new : List Pr), SolT S q N h' cs' w' ∧ cs'.map ecP = cs.map ecP ++ new.reverse.map (fun p => (p, h.length)) ∧ (∀ l, uPair false (sAt h) l ta tb = .go (sAt h') (new ++ l)) ∧
  ((new = [] ∧ h' = h) ∨ (new = [] ∧ ∃ x t, h' = h ++ [(x, t)] ∧ varB x = true ∧ ((x = ta.name ∧ t = tb) ∨ (x = tb.name ∧ t = ta)) ∧ ¬ inB x (varsP [] (preL [t])) = true) ∨ (new = zipP ta.args tb.args ∧ h' = h ∧ ta.args.length = tb.args.length)))
def WoPost (S q N : Nat) (h : List (ByteArray × Tm)) (cs : List Ec) (ta tb : Tm) (td0 : Value) (w : World) (e : Ending) (w' : World) : Prop :=
 ∃ code : Int, e = .returned (.int .i64 code) ∧ ExQ (fun b => b = S ∨ b = q ∨ some b = td0.ownBlock) w w' ∧ WoOut S q N h cs ta tb code w'
theorem wo_bind {S q N : Nat} {h : List (ByteArray × Tm)} {cs : List Ec} {ta tb : Tm} {nm : ByteArray} {t : Tm} {td : Value} {w w3 w4 : World} {X Y' : Nat → Prop} {e : Ending} (hSN : S < N) (hqN : q < N) (hNw : N ≤ w.heap.size) (hR : ERow w N (fun b => b < N ∧ b ≠ S ∧ b ≠ q) td cs) (hY2 : ∀ b, Y' b → some b ≠ td.ownBlock) (hXO : ∀ b, X b → some b ≠ td.ownBlock) (hx3 : ExQ (SolM S q) w w3) (hx4 : ExQ (SolM S q) w3 w4) (hza : sizeL [ta] ≤ 2000) (hzb : sizeL [tb] ≤ 2000)
  (hup : ∀ l, uPair false (sAt h) l ta tb = if nm = t.name then .go (sAt h) l else uBind false (sAt h) l nm t) (hvn : varB nm = true) (hor : (nm = ta.name ∧ t = tb) ∨ (nm = tb.name ∧ t = ta))
  (hc : (t.name = nm ∧ e = .returned (.int .i64 0) ∧ SolE S q td h false Y' w4) ∨ (t.name ≠ nm ∧ occB nm [t] = true ∧ e = .returned (.int .i64 6) ∧ SolE S q td h false Y' w4) ∨ (t.name ≠ nm ∧ occB nm [t] = false ∧ e = .returned (.int .i64 0) ∧ SolE S q td (h ++ [(nm, t)]) false (fun b => Y' b ∨ (X b ∧ b < w3.heap.size)) w4)) :
  ∃ code : Int, e = .returned (.int .i64 code) ∧ ExQ (fun b => b = S ∨ b = q ∨ some b = td.ownBlock) w w4 ∧ WoOut S q N h cs ta tb code w4 := by
 have hx : ExQ (SolM S q) w w4 := hx3.trans hx4
 have hxx : ExQ (fun b => b = S ∨ b = q ∨ some b = td.ownBlock) w w4 := hx.mono fun b hb _ => by
  rcases hb with h1 | h1
  ·exact Or.inl h1
  ·exact Or.inr (Or.inl h1)
 have hR4 : ERow w4 N (fun b => b < N ∧ b ≠ S ∧ b ≠ q) td cs := hR.exq hx (fun b hb => by rcases hb with rfl | rfl; exact hSN; exact hqN) (fun b hb hh => by
  rcases hb with h1 | h1
  ·exact hh.2.1 h1
  ·exact hh.2.2 h1)
 have hN4 : N ≤ w4.heap.size := Nat.le_trans hNw hx.size
 rcases hc with ⟨hn, rfl, hE⟩ | ⟨hn, ho, rfl, hE⟩ | ⟨hn, ho, rfl, hE⟩
 ·exact ⟨0, rfl, hxx, Or.inr ⟨rfl, hza, hzb, h, cs, [], ⟨td, Y', hE, hR4, hY2, hSN, hqN, hN4⟩, by simp, fun l => by rw [hup, if_pos hn.symm]; rfl, Or.inl ⟨rfl, rfl⟩⟩⟩
 ·refine ⟨6, rfl, hxx, Or.inl ⟨by decide, false, Y', td, hE, Or.inr fun l => ?_⟩⟩
  rw [hup, if_neg (fun e => hn e.symm)]
  unfold uBind
  rw [if_pos (by rw [inB_occ hvn]; exact ho)]
 ·refine ⟨0, rfl, hxx, Or.inr ⟨rfl, hza, hzb, h ++ [(nm, t)], cs, [], ⟨td, _, hE, hR4, fun b hb => ?_, hSN, hqN, hN4⟩, by simp, fun l => ?_, Or.inr (Or.inl ⟨rfl, nm, t, rfl, hvn, hor, by rw [inB_occ hvn, ho]; simp⟩)⟩⟩
  ·rcases hb with hb | hb
   ·exact hY2 b hb
   ·exact hXO b hb.1
  ·rw [hup, if_neg (fun e => hn e.symm)]
   unfold uBind
   rw [if_neg (by rw [inB_occ hvn, ho]; simp), if_neg (by simp), sAt_snoc]
   rfl
set_option maxHeartbeats 1000000 in
theorem workOff_any (S q N : Nat) (V : List ByteArray) (h : List (ByteArray × Tm)) (cs : List Ec) (p : Pr) (l : List Pr) (hU : UI V h (p :: l)) (j : Nat) (hj : j ≤ h.length) (hid : j = h.length → (onT (sAt h) p.l = p.l ∧ onT (sAt h) p.r = p.r)) (hsz : cs.length ≤ 900000000) (hV : V.length ≤ 400000) (a1 : Option Addr) (c1 : Nat) (a2 : Option Addr) (c2 : Nat) (w : World) (td : Value) (Y : Nat → Prop) (hE : SolE S q td h false Y w) (hR : ERow w N (fun b => b < N ∧ b ≠ S ∧ b ≠ q) td cs) (hY : ∀ b, Y b → some b ≠ td.ownBlock) (hSN : S < N) (hqN : q < N) (hNw : N ≤ w.heap.size)
  (hs1 : Sl w (fun b => (b < N ∧ b ≠ S ∧ b ≠ q) ∨ (N ≤ b ∧ some b ≠ td.ownBlock)) a1 p.l.args) (hs2 : Sl w (fun b => (b < N ∧ b ≠ S ∧ b ≠ q) ∨ (N ≤ b ∧ some b ≠ td.ownBlock)) a2 p.r.args) :
  Calls Tryz.prog 78 #[.pointer (some ⟨S, 0, none⟩), .agg #[.string p.l.name, .slice a1 p.l.args.length c1, .string p.r.name, .slice a2 p.r.args.length c2, .int .i64 (j : Int)]] w fun e w' => WoPost S q N h cs (onT (sAt h) p.l) (onT (sAt h) p.r) td w e w' := by
 have HE := hide hE
 have HR := hide hR
 have HY := hide hY
 have HS1 := hide hs1
 have HS2 := hide hs2
 have HU := hide hU
 have HID := hide hid
 have hSl : S < w.heap.size := by omega
 clear hE hR hY hs1 hs2 hU hid
 obtain ⟨ta, hta⟩ : ∃ ta, onT (sAt h) p.l = ta := ⟨_, rfl⟩
 obtain ⟨tb, htb⟩ : ∃ tb, onT (sAt h) p.r = tb := ⟨_, rfl⟩
 have HTA := hide hta
 have HTB := hide htb
 rw [hta, htb]
 clear hta htb
 have HB1 : Hid (Below w.heap.size w (w.alloc (.cells #[.string p.l.name, .slice a1 p.l.args.length c1, .string p.r.name, .slice a2 p.r.args.length c2, .int .i64 (j : Int)] 129))) := (Below.refl _ _).alloc (Nat.le_refl _) _
 have hz1 : (w.alloc (.cells #[.string p.l.name, .slice a1 p.l.args.length c1, .string p.r.name, .slice a2 p.r.args.length c2, .int .i64 (j : Int)] 129)).heap.size = w.heap.size + 1 := by simp
 go_enter Tryz.func78, Tryz.ntmps78
 go_wp2_with fail
 generalize (w.alloc (.cells #[.string p.l.name, .slice a1 p.l.args.length c1, .string p.r.name, .slice a2 p.r.args.length c2, .int .i64 (j : Int)] 129)) = w1 at *
 have PT := put_any2 S q td h HU.out.good HU.out.names p HU.out.head j hj HID.out (HU.out.size p (by simp)) a1 c1 a2 c2 w1 _ Y (fun b hb hm => by
  rcases hb with hb | hb
  ·rcases hm with e | e
   ·exact hb.2.1 e
   ·exact hb.2.2 e
  ·rcases hm with e | e <;> omega) (HS1.out.later HB1.out) (HS2.out.later HB1.out) ((solE_ok S q td h).below HE.out HB1.out)
 rw [HTA.out, HTB.out] at PT
 refine PT.mono ?_
 clear PT
 rintro e w2 ⟨s1, y1, n1, k1, s2, y2, n2, k2, ok, f', Y', rfl, hE2, hsub, hx, hc⟩
 have HX2 : Hid (ExQ (SolM S q) w w2) := (ExQ.ofBelow HB1.out).trans hx
 have HE2 := hide hE2
 have HY2 : Hid (∀ b, Y' b → some b ≠ td.ownBlock) := fun b hb e => by
  rcases hsub b hb with h1 | h1
  ·exact HY.out b h1 e
  ·have := (HR.out.own.lt b e.symm).2; omega
 have hz2 : w.heap.size + 1 ≤ w2.heap.size := by have := hx.size; omega
 have HC := hide hc
 clear hE2 hsub hx hc
 have hB3 : Below w2.heap.size w2 ((w2.alloc (.cells #[.string s1, .slice y1 n1 k1] 26)).alloc (.cells #[.string s2, .slice y2 n2 k2] 26)) := below2 _ _
 have HB3 := hide hB3
 have A3 : Hid (Blk ((w2.alloc (.cells #[.string s1, .slice y1 n1 k1] 26)).alloc (.cells #[.string s2, .slice y2 n2 k2] 26)) w2.heap.size #[.string s1, .slice y1 n1 k1] 26) := (Blk.new w2 _ _).alloc _
 have B3 : Hid (Blk ((w2.alloc (.cells #[.string s1, .slice y1 n1 k1] 26)).alloc (.cells #[.string s2, .slice y2 n2 k2] 26)) (w2.heap.size + 1) #[.string s2, .slice y2 n2 k2] 26) := by
  have h1 := Blk.new (w2.alloc (.cells #[.string s1, .slice y1 n1 k1] 26)) #[.string s2, .slice y2 n2 k2] 26
  rw [World.size_alloc] at h1
  exact h1
 have hz3 : ((w2.alloc (.cells #[.string s1, .slice y1 n1 k1] 26)).alloc (.cells #[.string s2, .slice y2 n2 k2] 26)).heap.size = w2.heap.size + 2 := by simp
 have HE3 := hide ((solE_ok S q td h).below HE2.out hB3)
 have HX3 : Hid (ExQ (SolM S q) w ((w2.alloc (.cells #[.string s1, .slice y1 n1 k1] 26)).alloc (.cells #[.string s2, .slice y2 n2 k2] 26))) := HX2.out.trans (ExQ.ofBelow hB3)
 clear hB3
 rcases HC.out with ⟨rfl, rfl, rfl, rfl, rfl, rfl, hza, hzb, hsa, hsb⟩ | ⟨rfl, hbad⟩
 ·have memZ : ∀ (a : Option Addr) (l : List Tm), Sl w2 (fun b => (((b < N ∧ b ≠ S ∧ b ≠ q) ∨ (N ≤ b ∧ some b ≠ td.ownBlock)) ∧ b < w1.heap.size) ∨ w1.heap.size ≤ b) a l → Sl w2 (fun b => (b < N ∧ b ≠ S ∧ b ≠ q) ∨ (N ≤ b ∧ some b ≠ td.ownBlock)) a l := fun a l hsl => hsl.mono fun b hb _ => by
   rcases hb with hb | hb
   ·exact hb.1
   ·refine Or.inr ⟨by omega, fun e => ?_⟩
    have := (HR.out.own.lt b e.symm).2; omega
  have HSA := hide ((memZ _ _ hsa).later HB3.out)
  have HSB := hide ((memZ _ _ hsb).later HB3.out)
  have HXM : Hid (∀ b, ((b < N ∧ b ≠ S ∧ b ≠ q) ∨ (N ≤ b ∧ some b ≠ td.ownBlock)) → ¬ SolM S q b) := fun b hb hm => by
   rcases hb with hb | hb
   ·rcases hm with e | e
    ·exact hb.2.1 e
    ·exact hb.2.2 e
   ·rcases hm with e | e <;> omega
  have HXO : Hid (∀ b, ((b < N ∧ b ≠ S ∧ b ≠ q) ∨ (N ≤ b ∧ some b ≠ td.ownBlock)) → some b ≠ td.ownBlock) := fun b hb => by
   rcases hb with hb | hb
   ·exact HR.out.ne hb.1
   ·exact hb.2
  have HZA := hide hza
  have HZB := hide hzb
  have a0 : ((w2.alloc (.cells #[.string ta.name, .slice y1 ta.args.length k1] 26)).alloc (.cells #[.string tb.name, .slice y2 tb.args.length k2] 26)).cell? ⟨w2.heap.size, 0, none⟩ = some (.string ta.name) := A3.out.cell 0
  have a1' : ((w2.alloc (.cells #[.string ta.name, .slice y1 ta.args.length k1] 26)).alloc (.cells #[.string tb.name, .slice y2 tb.args.length k2] 26)).cell? ⟨w2.heap.size, 1, none⟩ = some (.slice y1 ta.args.length k1) := A3.out.cell 1
  have b0 : ((w2.alloc (.cells #[.string ta.name, .slice y1 ta.args.length k1] 26)).alloc (.cells #[.string tb.name, .slice y2 tb.args.length k2] 26)).cell? ⟨w2.heap.size + 1, 0, none⟩ = some (.string tb.name) := B3.out.cell 0
  have b1' : ((w2.alloc (.cells #[.string ta.name, .slice y1 ta.args.length k1] 26)).alloc (.cells #[.string tb.name, .slice y2 tb.args.length k2] 26)).cell? ⟨w2.heap.size + 1, 1, none⟩ = some (.slice y2 tb.args.length k2) := B3.out.cell 1
  clear memZ hsa hsb hza hzb HC
  cases hva : varB ta.name with
  | true =>
   have HVA := hide hva
   have MAY : Hid (tb.name ≠ ta.name → occB ta.name [tb] = false → MayAdd (sAt h) ta.name tb) := fun _ ho => (HU.out.bindV HVA.out (Or.inl ⟨by rw [HTA.out], by rw [HTB.out]⟩) (by rw [inB_occ HVA.out, ho]; simp)).1
   clear hva
   go_wp2_with (go_at_call 52; refine (isVariable_all _ _).mono ?_; rintro e w' ⟨rfl, rfl⟩; rw [HVA.out])
   generalize ((w2.alloc (.cells #[.string ta.name, .slice y1 ta.args.length k1] 26)).alloc (.cells #[.string tb.name, .slice y2 tb.args.length k2] 26)) = w3 at *
   refine (bind_any2 S q td h HU.out.good ta.name tb MAY.out y2 k2 w3 _ Y' HXM.out HSB.out HE3.out).mono ?_
   rintro e w4 ⟨hx4, hc4⟩
   have HO := hide (wo_bind (ta := ta) (tb := tb) (cs := cs) hSN hqN hNw HR.out HY2.out HXO.out HX3.out hx4 HZA.out HZB.out (fun l => by unfold uPair; rw [if_neg (by have := HZA.out; have := HZB.out; omega), if_pos HVA.out]) HVA.out (Or.inl ⟨rfl, rfl⟩) hc4)
   obtain ⟨code, rfl, hout⟩ := HO.out
   clear hc4
   have HX4 := hide hx4
   have HOUT := hide hout
   clear hx4 hout HO
   go_wp2_with fail
   go_ret
   exact ⟨code, rfl, HOUT.out⟩
  | false =>
   have HVA := hide hva
   clear hva
   cases hvb : varB tb.name with
   | true =>
    have HVB := hide hvb
    have MAY : Hid (ta.name ≠ tb.name → occB tb.name [ta] = false → MayAdd (sAt h) tb.name ta) := fun _ ho => (HU.out.bindV HVB.out (Or.inr ⟨by rw [HTB.out], by rw [HTA.out]⟩) (by rw [inB_occ HVB.out, ho]; simp)).1
    have HNE : Hid (tb.name ≠ ta.name) := fun e => by
     have h1 := HVA.out
     have h2 := HVB.out
     rw [e, h1] at h2; cases h2
    clear hvb
    go_wp2_with (go_at_call 52; refine (isVariable_all _ _).mono ?_; rintro e w' ⟨rfl, rfl⟩; (first | rw [HVA.out] | rw [HVB.out]))
    generalize ((w2.alloc (.cells #[.string ta.name, .slice y1 ta.args.length k1] 26)).alloc (.cells #[.string tb.name, .slice y2 tb.args.length k2] 26)) = w3 at *
    refine (bind_any2 S q td h HU.out.good tb.name ta MAY.out y1 k1 w3 _ Y' HXM.out HSA.out HE3.out).mono ?_
    rintro e w4 ⟨hx4, hc4⟩
    have HO := hide (wo_bind (ta := ta) (tb := tb) (cs := cs) hSN hqN hNw HR.out HY2.out HXO.out HX3.out hx4 HZA.out HZB.out (fun l => by unfold uPair; rw [if_neg (by have := HZA.out; have := HZB.out; omega), if_neg (by rw [HVA.out]; simp), if_pos HVB.out, if_neg HNE.out]) HVB.out (Or.inr ⟨rfl, rfl⟩) hc4)
    obtain ⟨code, rfl, hout⟩ := HO.out
    clear hc4
    have HOUT := hide hout
    clear hx4 hout HO
    go_wp2_with fail
    go_ret
    exact ⟨code, rfl, HOUT.out⟩
   | false =>
    have HVB := hide hvb
    clear hvb
    have HXX : Hid (ExQ (fun b => b = S ∨ b = q ∨ some b = td.ownBlock) w ((w2.alloc (.cells #[.string ta.name, .slice y1 ta.args.length k1] 26)).alloc (.cells #[.string tb.name, .slice y2 tb.args.length k2] 26))) := HX3.out.mono fun b hb _ => by
     rcases hb with h1 | h1
     ·exact Or.inl h1
     ·exact Or.inr (Or.inl h1)
    have HUP : Hid (∀ l, uPair false (sAt h) l ta tb = if ta.name = tb.name ∧ ta.args.length = tb.args.length then .go (sAt h) (zipP ta.args tb.args ++ l) else .stop 5 (sAt h)) := fun l => by
     unfold uPair
     rw [if_neg (by have := HZA.out; have := HZB.out; omega), if_neg (by rw [HVA.out]; simp), if_neg (by rw [HVB.out]; simp)]
    by_cases hnn : ta.name = tb.name
    ·have hnb := bytes_yes hnn
     by_cases hll : ta.args.length = tb.args.length
     ·have HLL := hide hll
      have HNN := hide hnn
      have hla : ta.args.length ≤ 2000 := by
       have h1 := sizeL_len ta.args
       have h2 := size_sub ta
       have h3 := HZA.out
       omega
      have hhl : h.length ≤ 1000000000 := by have := HU.out.hlen; omega
      rw [hll] at HE3 HX3 HXX HSA HSB
      clear hnn A3 B3 HB3 a0 a1' b0 b1' hz3
      have A3 : Hid (Blk ((w2.alloc (.cells #[.string ta.name, .slice y1 tb.args.length k1] 26)).alloc (.cells #[.string tb.name, .slice y2 tb.args.length k2] 26)) w2.heap.size #[.string ta.name, .slice y1 tb.args.length k1] 26) := (Blk.new w2 _ _).alloc _
      have B3 : Hid (Blk ((w2.alloc (.cells #[.string ta.name, .slice y1 tb.args.length k1] 26)).alloc (.cells #[.string tb.name, .slice y2 tb.args.length k2] 26)) (w2.heap.size + 1) #[.string tb.name, .slice y2 tb.args.length k2] 26) := by
       have h1 := Blk.new (w2.alloc (.cells #[.string ta.name, .slice y1 tb.args.length k1] 26)) #[.string tb.name, .slice y2 tb.args.length k2] 26
       rw [World.size_alloc] at h1
       exact h1
      have a0 : ((w2.alloc (.cells #[.string ta.name, .slice y1 tb.args.length k1] 26)).alloc (.cells #[.string tb.name, .slice y2 tb.args.length k2] 26)).cell? ⟨w2.heap.size, 0, none⟩ = some (.string ta.name) := A3.out.cell 0
      have a1' : ((w2.alloc (.cells #[.string ta.name, .slice y1 tb.args.length k1] 26)).alloc (.cells #[.string tb.name, .slice y2 tb.args.length k2] 26)).cell? ⟨w2.heap.size, 1, none⟩ = some (.slice y1 tb.args.length k1) := A3.out.cell 1
      have b0 : ((w2.alloc (.cells #[.string ta.name, .slice y1 tb.args.length k1] 26)).alloc (.cells #[.string tb.name, .slice y2 tb.args.length k2] 26)).cell? ⟨w2.heap.size + 1, 0, none⟩ = some (.string tb.name) := B3.out.cell 0
      have b1' : ((w2.alloc (.cells #[.string ta.name, .slice y1 tb.args.length k1] 26)).alloc (.cells #[.string tb.name, .slice y2 tb.args.length k2] 26)).cell? ⟨w2.heap.size + 1, 1, none⟩ = some (.slice y2 tb.args.length k2) := B3.out.cell 1
      go_wp2_with (go_at_call 52; refine (isVariable_all _ _).mono ?_; rintro e w' ⟨rfl, rfl⟩; (first | rw [HVA.out] | rw [HVB.out]))
      generalize ((w2.alloc (.cells #[.string ta.name, .slice y1 tb.args.length k1] 26)).alloc (.cells #[.string tb.name, .slice y2 tb.args.length k2] 26)) = w3 at *
      have hR3 : ERow w3 N (fun b => b < N ∧ b ≠ S ∧ b ≠ q) td cs := HR.out.exq HX3.out (fun b hb => by rcases hb with rfl | rfl; exact hSN; exact hqN) (fun b hb hh => by
       rcases hb with h1 | h1
       ·exact hh.2.1 h1
       ·exact hh.2.2 h1)
      have AH := ahead_any S q N h cs ta.args tb.args hll (by omega) hhl y1 y2 k1 k2 w3 td Y' HE3.out hR3 HY2.out hSN hqN (Nat.le_trans hNw HX3.out.size) HSA.out HSB.out
      rw [hll] at AH
      refine AH.mono ?_
      clear AH
      rintro e w4 ⟨rfl, cs', hT, hC, hx4⟩
      have HT := hide hT
      have HCC := hide hC
      have HX4 : Hid (ExQ (fun b => b = S ∨ b = q ∨ some b = td.ownBlock) w w4) := HXX.out.trans (hx4.mono fun b hb _ => hb.imp id Or.inr)
      clear hT hC hx4 hR3
      go_wp2_with fail
      go_ret
      exact ⟨0, rfl, HX4.out, Or.inr ⟨rfl, HZA.out, HZB.out, h, cs', zipP ta.args tb.args, HT.out, HCC.out, fun l => by rw [HUP.out, if_pos ⟨HNN.out, HLL.out⟩], Or.inr (Or.inr ⟨rfl, rfl, HLL.out⟩)⟩⟩
     ·have hlb : ((ta.args.length : Int) == (tb.args.length : Int)) = false := beq_eq_false_iff_ne.2 (by omega)
      have HNG : Hid (¬ (ta.name = tb.name ∧ ta.args.length = tb.args.length)) := fun hh => hll hh.2
      clear hll hnn
      go_wp2_with (go_at_call 52; refine (isVariable_all _ _).mono ?_; rintro e w' ⟨rfl, rfl⟩; (first | rw [HVA.out] | rw [HVB.out]))
      go_ret
      exact ⟨5, rfl, HXX.out, Or.inl ⟨by decide, false, Y', td, HE3.out, Or.inr fun l => by rw [HUP.out, if_neg HNG.out]⟩⟩
    ·have hnb := bytes_no hnn
     have HNG : Hid (¬ (ta.name = tb.name ∧ ta.args.length = tb.args.length)) := fun hh => hnn hh.1
     clear hnn
     go_wp2_with (go_at_call 52; refine (isVariable_all _ _).mono ?_; rintro e w' ⟨rfl, rfl⟩; (first | rw [HVA.out] | rw [HVB.out]))
     go_ret
     exact ⟨5, rfl, HXX.out, Or.inl ⟨by decide, false, Y', td, HE3.out, Or.inr fun l => by rw [HUP.out, if_neg HNG.out]⟩⟩
 ·have HBAD := hide hbad
  clear hbad HC
  go_wp2_with fail
  go_ret
  refine ⟨8, rfl, HX3.out.mono fun b hb _ => ?_, Or.inl ⟨by decide, f', Y', td, HE3.out, ?_⟩⟩
  ·rcases hb with h1 | h1
   ·exact Or.inl h1
   ·exact Or.inr (Or.inl h1)
  ·rcases HBAD.out with h1 | h1
   ·exact Or.inl h1
   ·exact Or.inr fun l => by unfold uPair; rw [if_pos h1]
end Go.Proofs.YtdebiiodhkcnkaaGreat
