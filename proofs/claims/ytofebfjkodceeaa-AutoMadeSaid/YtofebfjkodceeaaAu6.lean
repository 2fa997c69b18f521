import Derived.Test.YtofebfjkodceeaaZMAutoMadeOwn
namespace Go.Proofs.Ytofebfjkodceeaa
open Go.RowKit
set_option linter.unusedSimpArgs false
set_option linter.unusedVariables false
set_option maxRecDepth 8000
theorem PV.ex {w w' : World} {O : Nat} {X : Nat → Prop} {v : Value} {zs : List Int} (h : PV w X v zs) (he : Ex O w w') (hX : ∀ b, X b → b ≠ O) : PV w' X v zs :=
 ((h.mono (Y := fun b => X b ∧ b < w.heap.size) fun b h1 h2 => ⟨h1, h2⟩).kept fun b hb => he.block b hb.2 (hX b hb.1)).mono fun b hb _ => hb.1
theorem cell_ex {w w' : World} {O b o : Nat} {u : Value} (h : w.cell? ⟨b, o, none⟩ = some u) (he : Ex O w w') (hb : b ≠ O) : w'.cell? ⟨b, o, none⟩ = some u := by
 rw [World.cell?_of_block (he.block b (cell_ltA h) hb)]; exact h
theorem SlV.ex {w w' : World} {O : Nat} {X : Nat → Prop} {a : Option Addr} {l : List Mv} (h : SlV w X a l) (he : Ex O w w') (hX : ∀ b, X b → b ≠ O) : SlV w' X a l := by
 obtain ⟨hl, h⟩ := h
 refine ⟨hl, ?_⟩
 rcases h with h | ⟨b, o, e, hx, h⟩
 ·exact Or.inl h
 ·refine Or.inr ⟨b, o, e, hx, fun i hi => ?_⟩
  obtain ⟨g0, ⟨a', c', g1, g2⟩, g3⟩ := h i hi
  exact ⟨cell_ex g0 he (hX b hx), ⟨a', c', cell_ex g1 he (hX b hx), g2.ex he hX⟩, cell_ex g3 he (hX b hx)⟩
theorem shMv_take {k : Int} {l : List Mv} {j : Nat} (h : j < l.length) : (l.take (j + 1)).map (shMv k) = (l.take j).map (shMv k) ++ [shMv k l[j]] := by
 rw [List.take_succ_eq_append_getElem h, List.map_append]; rfl
theorem addI_take {k : Int} {l : List Int} {j : Nat} (h : j < l.length) : (l.take (j + 1)).map (k + ·) = (l.take j).map (k + ·) ++ [k + l[j]] := by
 rw [List.take_succ_eq_append_getElem h, List.map_append]; rfl
theorem ex_below {w w' : World} (h : Below w.heap.size w w') (O : Nat) : Ex O w w' := ⟨h.os, h.tape, h.output, h.size, fun k hk _ => h.block k hk⟩
def S1I (A : Au) (k : Int) (P : Nat) (bx : Array Value) (wN : World) (O : Nat) (st : Int) (ms : List Mv) (ls : List Int) (i : Value) (wr : World) : Prop := ∃ (j : Nat) (mv lv : Value) (xs : List Value) (X : Nat → Prop), j ≤ A.mv.length ∧ i = .int .i64 (j : Int) ∧ OutA wr wN.heap.size O st (ms ++ (A.mv.take j).map (shMv k)) ls mv lv xs X ∧ Ex O wN wr ∧ Blk wr P bx 25 ∧ X P
def S2I (m : Mv) (k : Int) (w5 : World) (Q N2 : Nat) (i : Value) (wr : World) : Prop := ∃ (j : Nat) (fv : Value), j ≤ m.frm.length ∧ i = .int .i64 (j : Int) ∧ Blk wr Q #[.string m.name, fv, .int .i64 (k + m.to)] 40 ∧ wr.ownsRow N2 3 1 fv ((m.frm.take j).map (k + ·)).length (((m.frm.take j).map (k + ·)).map fun z => .int .i64 z) ∧ N2 ≤ wr.heap.size ∧ Below w5.heap.size w5 wr
def S3I (L : List Int) (lq : Value) (k : Int) (wN : World) (O : Nat) (st : Int) (ms : List Mv) (ls : List Int) (i : Value) (wr : World) : Prop := ∃ (j : Nat) (mv lv : Value) (xs : List Value) (X : Nat → Prop), j ≤ L.length ∧ i = .int .i64 (j : Int) ∧ OutA wr wN.heap.size O st ms (ls ++ (L.take j).map (k + ·)) mv lv xs X ∧ Ex O wN wr ∧ PV wr X lq L
set_option maxHeartbeats 4000000 in
theorem sumAdd_any (A : Au) (hA : OkAu 8 40 A) (k : Int) (hk : 0 ≤ k ∧ k ≤ 8) (v : Value) (wN w : World) (O : Nat) (st : Int) (ms : List Mv) (ls : List Int) (mv0 lv0 : Value) (xs0 : List Value) (X0 : Nat → Prop) (hv : AV wN (fun b => b ≠ O) v A) (hE : Ex O wN w) (hO : OutA w wN.heap.size O st ms ls mv0 lv0 xs0 X0) (hms : ms.length ≤ 1000) (hls : ls.length ≤ 1000) :
  Calls Try.prog 72 #[v, .int .i64 k, .pointer (some ⟨O, 0, none⟩)] w fun e w' => e = .returned (.tuple #[]) ∧ ∃ mv lv xs X, OutA w' wN.heap.size O st (ms ++ A.mv.map (shMv k)) (ls ++ (lastO A).map (k + ·)) mv lv xs X ∧ Ex O wN w' := by
 obtain ⟨am, cm, al, cl, rfl, hm, hp⟩ := hv
 have hml := hm.1
 have hNw := hE.size
 have hml40 := hA.len
 have B1 : Hid (Below w.heap.size w (w.alloc (.cells #[.int .i64 A.st, .slice am A.mv.length cm, .slice al A.la.length cl] 25))) := (Below.refl _ _).alloc (Nat.le_refl _) _
 have T1 : Hid (Blk (w.alloc (.cells #[.int .i64 A.st, .slice am A.mv.length cm, .slice al A.la.length cl] 25)) w.heap.size #[.int .i64 A.st, .slice am A.mv.length cm, .slice al A.la.length cl] 25) := Blk.new w _ _
 have O1 := hide (hO.below B1.out)
 have E1 : Hid (Ex O wN (w.alloc (.cells #[.int .i64 A.st, .slice am A.mv.length cm, .slice al A.la.length cl] 25))) := hE.alloc _
 have hPO : Hid (w.heap.size ≠ O) := by unfold Hid; have := hO.blk.lt; omega
 have hOl : Hid (O < w.heap.size) := hO.blk.lt
 have HNW := hide hNw
 have HOW : Hid ((∀ b, mv0.ownBlock = some b → wN.heap.size ≤ b ∧ b < w.heap.size) ∧ ∀ b, lv0.ownBlock = some b → wN.heap.size ≤ b ∧ b < w.heap.size) := ⟨fun b e => hO.own.lt b e, fun b e => hO.las.lt b e⟩
 have HM := hide hm
 have HP := hide hp
 have HA := hide hA
 clear hm hp hO hE hNw hA
 go_enter Try.func72, Try.ntmps72
 go_upto_region 1 with fail
 generalize (w.alloc (.cells #[.int .i64 A.st, .slice am A.mv.length cm, .slice al A.la.length cl] 25)) = w1 at *
 have c1 : w1.cell? ⟨w.heap.size, 1, none⟩ = some (.slice am A.mv.length cm) := T1.out.cell 1
 have hlt1 := T1.out.lt
 go_wp2_with fail
 obtain ⟨P, hP⟩ : ∃ P, P = w.heap.size := ⟨_, rfl⟩
 rw [← hP] at T1 hPO hOl HNW HOW ⊢
 rw [← hP] at hlt1 c1
 clear hP
 have HPN : Hid (wN.heap.size ≤ P) := HNW.out
 have O2 : Hid (OutA w1 wN.heap.size O st ms ls mv0 lv0 xs0 (fun b => X0 b ∨ b = P)) := O1.out.more (fun b => b = P) (fun b hb => by subst hb; exact ⟨HNW.out, fun e => by have := (HOW.out.1 _ e.symm).2; omega, fun e => by have := (HOW.out.2 _ e.symm).2; omega⟩)
 clear O1
 go_loopw [15] (fun i wr => S1I A k P #[.int .i64 A.st, .slice am A.mv.length cm, .slice al A.la.length cl] wN O st ms ls i wr) (fun i wr => A.mv.length - (intOf i).toNat)
 case atStart => exact ⟨0, mv0, lv0, xs0, _, Nat.zero_le _, rfl, by simpa using O2.out, E1.out, T1.out, Or.inr rfl⟩
 case round =>
  obtain ⟨j, mv, lv, xs, X, hj, rfl, ho, he, ht, hx⟩ := hrel
  obtain ⟨w2, rfl⟩ : ∃ w2, w2 = wr := ⟨_, rfl⟩
  have HO := hide ho
  have HE := hide he
  have HTB := hide ht
  have HX := hide hx
  have hOl2 := ho.blk.lt
  have HN2 := hide he.size
  clear c1 hlt1 hx
  by_cases hlt : j < A.mv.length
  ·have hji : (j : Int) < (A.mv.length : Int) := by omega
   obtain ⟨b, o, af, cf, rfl, hbl, d0, d1, d2, hpf⟩ := (HM.out.ex he (fun b h => h)).get (Below.refl w2.heap.size w2) j hlt
   obtain ⟨m, hm⟩ : ∃ m, m = A.mv[j] := ⟨_, rfl⟩
   have HMJ := hide hm
   have HOM : Hid (OkMv A.st m) := by unfold Hid; rw [hm]; exact HA.out.mv _ (List.getElem_mem hlt)
   rw [← hm] at d0 d1 d2 hpf
   have HPF := hide hpf
   have hst := HA.out.st
   have hto := HOM.out.to
   have hwt : IntKind.i64.wrap (k + m.to) = k + m.to := by rw [IntKind.wrap_i64]; omega
   have hfl := HOM.out.len
   clear hm ho he ht hpf
   have BW : Hid (Below w2.heap.size w2 ((w2.alloc (.cells #[.string m.name, .slice af m.frm.length cf, .int .i64 m.to] 40)).alloc (.cells #[.string m.name, .slice none 0 0, .int .i64 (k + m.to)] 40))) := ((Below.refl _ _).alloc (Nat.le_refl _) _).alloc (by simp) _
   have M5 : Hid (Blk ((w2.alloc (.cells #[.string m.name, .slice af m.frm.length cf, .int .i64 m.to] 40)).alloc (.cells #[.string m.name, .slice none 0 0, .int .i64 (k + m.to)] 40)) w2.heap.size #[.string m.name, .slice af m.frm.length cf, .int .i64 m.to] 40) := (Blk.new w2 _ _).alloc _
   have V5 : Hid (Blk ((w2.alloc (.cells #[.string m.name, .slice af m.frm.length cf, .int .i64 m.to] 40)).alloc (.cells #[.string m.name, .slice none 0 0, .int .i64 (k + m.to)] 40)) (w2.heap.size + 1) #[.string m.name, .slice none 0 0, .int .i64 (k + m.to)] 40) := by
    have h := Blk.new (w2.alloc (.cells #[.string m.name, .slice af m.frm.length cf, .int .i64 m.to] 40)) #[.string m.name, .slice none 0 0, .int .i64 (k + m.to)] 40
    rw [World.size_alloc] at h
    exact h
   have P5 := hide (HPF.out.later BW.out)
   go_upto_region 5 with fail
   generalize ((w2.alloc (.cells #[.string m.name, .slice af m.frm.length cf, .int .i64 m.to] 40)).alloc (.cells #[.string m.name, .slice none 0 0, .int .i64 (k + m.to)] 40)) = w5 at *
   obtain ⟨Q, hQ⟩ : ∃ Q, Q = w2.heap.size + 1 := ⟨_, rfl⟩
   rw [← hQ] at V5 ⊢
   have HQ := hide hQ
   have e1 : w5.cell? ⟨w2.heap.size, 1, none⟩ = some (.slice af m.frm.length cf) := M5.out.cell 1
   have hl5 := M5.out.lt
   have HQ5 := hide V5.out.lt
   clear hQ d0 d1 d2
   go_wp2_with fail
   go_loopw [29] (fun i wr => S2I m k w2 Q w5.heap.size i wr) (fun i wr => m.frm.length - (intOf i).toNat)
   case atStart => exact ⟨0, .slice none 0 0, Nat.zero_le _, rfl, V5.out, World.ownsRow_nil _ _ _ _, Nat.le_refl _, BW.out⟩
   case round =>
    obtain ⟨j2, fv, hj2, rfl, hq, hown, hn6, hb6⟩ := hrel
    obtain ⟨w6, rfl⟩ : ∃ w6, w6 = wr := ⟨_, rfl⟩
    have HQB := hide hq
    have HOWN := hide hown
    have HB6 := hide hb6
    have HN6 := hide hn6
    have q1 : w6.cell? ⟨Q, 1, none⟩ = some fv := hq.cell 1
    have hQl := hq.lt
    clear hown hq hb6 e1 hl5 hn6
    by_cases hlt2 : j2 < m.frm.length
    ·have hj2i : (j2 : Int) < (m.frm.length : Int) := by omega
     obtain ⟨b2, o2, rfl, hb2, hc2⟩ := HPF.out.at HB6.out j2 hlt2
     obtain ⟨z, hz⟩ : ∃ z, z = m.frm[j2] := ⟨_, rfl⟩
     have HNX : Hid ((m.frm.take (j2 + 1)).map (k + ·) = (m.frm.take j2).map (k + ·) ++ [k + z]) := by unfold Hid; rw [hz]; exact addI_take hlt2
     have hzr := HOM.out.frm z (by rw [hz]; exact List.getElem_mem hlt2)
     rw [← hz] at hc2
     have hwz : IntKind.i64.wrap (k + z) = k + z := by rw [IntKind.wrap_i64]; omega
     have hb26 : b2 < w6.heap.size := Nat.lt_of_lt_of_le hb2 HB6.out.size
     have HLE : Hid (((m.frm.take j2).map (k + ·)).length ≤ 100000) := by unfold Hid; rw [List.length_map, List.length_take]; omega
     obtain ⟨g, n', cap, W1, hr, ho1, hg⟩ := rowZ_more (x := k + z) (W := w6.alloc (.cells #[.int .i64 (k + z)] 3)) (owns_keptA HOWN.out (fun b e => Below.heap_alloc _ _ _ (HOWN.out.lt b e).2)) (by have := HN6.out; simp; omega) (Blk.new w6 _ _) HLE.out
     have HRUN := hide hr
     have HQ1 : Hid (Blk W1 Q #[.string m.name, fv, .int .i64 (k + m.to)] 40) := (HQB.out.alloc _).grown hg (fun e => by have := (HOWN.out.lt Q e.symm).1; have := HQ5.out; omega)
     have HOV := hide ho1
     have HBW : Hid (Below w2.heap.size w2 W1) := (HB6.out.alloc HB6.out.size _).grown hg (by have := HB6.out.size; simp; omega) (fun q hq => by have := (HOWN.out.lt q hq).1; have := BW.out.size; omega)
     have HS1 : Hid (w6.heap.size ≤ W1.heap.size) := Nat.le_trans (by simp) hg.size
     have qf : W1.frozen? ⟨Q, 1, none⟩ = false := HQ1.out.frozen 1
     have qc : W1.cell? ⟨Q, 1, none⟩ = some fv := HQ1.out.cell 1
     have ql : Q < W1.heap.size := HQ1.out.lt
     clear hr ho1 hg hz
     go_wp2_with (at_builtin; refine wpList_append_eq rfl _ _ _ _ rfl rfl rfl HRUN.out ?_)
     go_roundw
     case rel =>
      refine ⟨j2 + 1, .slice (some ⟨g, 0, none⟩) n' cap, by omega, by go_num, HQ1.out.set 1 _, ?_, ?_, HBW.out.setCell (by have := HQ.out; simp; omega) _⟩
      ·rw [HNX.out]
       exact owns_keptA HOV.out fun b e => Below.heap_setCell _ _ _ _ (by have := (HOV.out.lt b e).1; have := HQ5.out; simp; omega)
      ·have := HN6.out; have := HS1.out; simp [World.setCell]; omega
     case measure => simp [intOf]; omega
    ·have hj2i : ¬ (j2 : Int) < (m.frm.length : Int) := by omega
     have HTK : Hid (m.frm.take j2 = m.frm) := List.take_of_length_le (by omega)
     have HOW2 : Hid (w6.ownsRow w5.heap.size 3 1 fv (m.frm.map (k + ·)).length ((m.frm.map (k + ·)).map fun z => .int .i64 z)) := by have h9 := HOWN.out; rw [HTK.out] at h9; exact h9
     have HPV := hide (pv_of_own HOW2.out)
     obtain ⟨fa, n2, fc, hfv, hn2⟩ : ∃ fa n2 fc, fv = .slice fa n2 fc ∧ n2 = (shMv k m).frm.length := by obtain ⟨fa, fc, h, _⟩ := pv_of_own HOW2.out; exact ⟨fa, _, fc, h, rfl⟩
     subst hfv
     have HB7 : Hid (Below w2.heap.size w2 (w6.alloc (.cells #[.string m.name, .slice fa n2 fc, .int .i64 (k + m.to)] 40))) := HB6.out.alloc HB6.out.size _
     have HLM : Hid ((ms ++ (A.mv.take j).map (shMv k)).length ≤ 100000) := by unfold Hid; rw [List.length_append, List.length_map, List.length_take]; omega
     obtain ⟨g, cap, W1, ys, X', hr, hO1, hout, hex, hfr⟩ := HO.out.push (wN := wN) (W := w6.alloc (.cells #[.string m.name, .slice fa n2 fc, .int .i64 (k + m.to)] 40)) (m := shMv k m) (P := w6.heap.size) (a := fa) (c := fc) HN2.out HB7.out (HE.out.trans (ex_below HB7.out O)) rfl (by rw [← hn2]; exact Blk.new w6 _ _) (by
      have h9 : PV (w6.alloc (.cells #[.string m.name, .slice fa n2 fc, .int .i64 (k + m.to)] 40)) (fun b => w2.heap.size ≤ b) (.slice fa n2 fc) (m.frm.map (k + ·)) := (HPV.out.mono fun b h1 _ => by have := BW.out.size; omega).later ((Below.refl _ _).alloc (Nat.le_refl _) _)
      rw [← hn2]
      exact h9) HLM.out
     generalize hv' : ((ms ++ (A.mv.take j).map (shMv k)).length + 1) = n' at *
     have HRUN := hide hr
     have HO1 := hide hO1
     have HOUT := hide hout
     have HEX := hide hex
     have HFR := hide (hfr P HX.out HTB.out.lt)
     have q0 : w6.cell? ⟨Q, 0, none⟩ = some (.string m.name) := HQB.out.cell 0
     have q2 : w6.cell? ⟨Q, 2, none⟩ = some (.int .i64 (k + m.to)) := HQB.out.cell 2
     have o1 : w6.cell? ⟨O, 1, none⟩ = some mv := (HO.out.blk.below HB6.out hOl2).cell 1
     have ol6 : O < w6.heap.size := Nat.lt_of_lt_of_le hOl2 HB6.out.size
     have of : W1.frozen? ⟨O, 1, none⟩ = false := HO1.out.frozen 1
     have oc : W1.cell? ⟨O, 1, none⟩ = some mv := HO1.out.cell 1
     have ol1 : O < W1.heap.size := HO1.out.lt
     have HST : Hid (ms ++ (A.mv.take (j + 1)).map (shMv k) = ms ++ (A.mv.take j).map (shMv k) ++ [shMv k m]) := by unfold Hid; rw [shMv_take hlt, ← HMJ.out, List.append_assoc]
     clear hr hO1 hout hex hfr hv' hn2
     go_wp2_with (at_builtin; refine wpList_append_eq rfl _ _ _ _ rfl rfl rfl HRUN.out ?_)
     go_roundw
     case rel => exact ⟨j + 1, .slice (some ⟨g, 0, none⟩) n' cap, lv, ys, X', by omega, by go_num, by rw [HST.out]; exact HOUT.out, HEX.out, by have h9 := HTB.out; unfold Blk at *; rw [HFR.out.2]; exact h9, HFR.out.1⟩
     case measure => simp [intOf]; omega
  ·have hji : ¬ (j : Int) < (A.mv.length : Int) := by omega
   have HTK : Hid (A.mv.take j = A.mv) := List.take_of_length_le (by omega)
   have t0 : w2.cell? ⟨P, 0, none⟩ = some (.int .i64 A.st) := HTB.out.cell 0
   have t1 : w2.cell? ⟨P, 1, none⟩ = some (.slice am A.mv.length cm) := HTB.out.cell 1
   have t2 : w2.cell? ⟨P, 2, none⟩ = some (.slice al A.la.length cl) := HTB.out.cell 2
   have tl := ht.lt
   have HAV : Hid (AV w2 (fun b => b ≠ O) (.agg #[.int .i64 A.st, .slice am A.mv.length cm, .slice al A.la.length cl]) A) := ⟨am, cm, al, cl, rfl, HM.out.ex he (fun b h => h), HP.out.ex he (fun b h => h)⟩
   clear ho he ht
   go_wp2_with fail
   refine (lastOnce_any A (by omega) HA.out _ _ _ (by exact HAV.out)).mono ?_
   rintro e w3 ⟨a9, c9, rfl, hp9, hb9⟩
   obtain ⟨L, hL⟩ : ∃ L, L = lastO A := ⟨_, rfl⟩
   have HLL : Hid (L.length ≤ 8 ∧ ∀ z ∈ L, 0 ≤ z ∧ z < 8) := by
    have hst := HA.out.st
    refine ⟨by rw [hL]; have := lastO_len A; omega, fun z hz => ?_⟩
    rw [hL, lastO_mem HA.out.la] at hz
    have := HA.out.la z hz
    omega
   rw [← hL] at hp9 ⊢
   have HL := hide hL
   clear hL
   have HP9 := hide hp9
   have HB9 := hide hb9
   have O3 : Hid (OutA w3 wN.heap.size O st (ms ++ A.mv.map (shMv k)) ls mv lv xs (fun b => X b ∨ w2.heap.size ≤ b)) := by
    have h9 := (HO.out.below hb9).more (fun b => w2.heap.size ≤ b) (fun b hb => ⟨by have := HN2.out; omega, fun e => by have := (HO.out.own.lt b e.symm).2; omega, fun e => by have := (HO.out.las.lt b e.symm).2; omega⟩)
    rw [HTK.out] at h9
    exact h9
   have E3 := hide (HE.out.trans (ex_below hb9 O))
   clear hp9 hb9 t0 t1 t2 tl
   have hL8 := HLL.out.1
   go_wp2_with fail
   go_loopw [52] (fun i wr => S3I L (.slice a9 L.length c9) k wN O st (ms ++ A.mv.map (shMv k)) ls i wr) (fun i wr => L.length - (intOf i).toNat)
   case atStart => exact ⟨0, mv, lv, xs, _, Nat.zero_le _, rfl, by simpa using O3.out, E3.out, HP9.out.mono fun b h _ => Or.inr h⟩
   case round =>
    obtain ⟨j3, mv3, lv3, xs3, X3, hj3, rfl, ho3, he3, hp3⟩ := hrel
    obtain ⟨w4, rfl⟩ : ∃ w4, w4 = wr := ⟨_, rfl⟩
    have HO3 := hide ho3
    have HE3 := hide he3
    have HP3 := hide hp3
    have hOl4 := ho3.blk.lt
    clear ho3 he3
    by_cases hlt3 : j3 < L.length
    ·have hj3i : (j3 : Int) < (L.length : Int) := by omega
     obtain ⟨b3, o3, rfl, hb3, hc3⟩ := hp3.at (Below.refl w4.heap.size w4) j3 hlt3
     obtain ⟨z, hz⟩ : ∃ z, z = L[j3] := ⟨_, rfl⟩
     have hzr := HLL.out.2 z (by rw [hz]; exact List.getElem_mem hlt3)
     have HST : Hid (ls ++ (L.take (j3 + 1)).map (k + ·) = ls ++ (L.take j3).map (k + ·) ++ [k + z]) := by unfold Hid; rw [addI_take hlt3, ← hz, List.append_assoc]
     rw [← hz] at hc3
     have hwz : IntKind.i64.wrap (k + z) = k + z := by rw [IntKind.wrap_i64]; omega
     have HB7 : Hid (Below w4.heap.size w4 (w4.alloc (.cells #[.int .i64 (k + z)] 3))) := (Below.refl _ _).alloc (Nat.le_refl _) _
     have HLM : Hid ((ls ++ (L.take j3).map (k + ·)).length ≤ 100000) := by unfold Hid; rw [List.length_append, List.length_map, List.length_take]; omega
     obtain ⟨g, cap, W1, X', hr, hO1, hout, hex, hfr⟩ := HO3.out.pushL (wN := wN) (x := k + z) (P := w4.heap.size) HE3.out.size HB7.out (HE3.out.trans (ex_below HB7.out O)) rfl (Blk.new w4 _ _) HLM.out
     generalize hv' : ((ls ++ (L.take j3).map (k + ·)).length + 1) = n' at *
     have HRUN := hide hr
     have HO1 := hide hO1
     have HOUT := hide hout
     have HEX := hide hex
     have HPN3 : Hid (PV (W1.setCell ⟨O, 2, none⟩ (.slice (some ⟨g, 0, none⟩) n' cap)) X' (.slice (some ⟨b3, o3, none⟩) L.length c9) L) := ((hp3.mono (Y := fun b => X3 b ∧ b < w4.heap.size) fun b h1 h2 => ⟨h1, h2⟩).kept fun b hb => (hfr b hb.1 hb.2).2).mono fun b hb _ => (hfr b hb.1 hb.2).1
     have o2 : w4.cell? ⟨O, 2, none⟩ = some lv3 := HO3.out.blk.cell 2
     have of : W1.frozen? ⟨O, 2, none⟩ = false := HO1.out.frozen 2
     have oc : W1.cell? ⟨O, 2, none⟩ = some lv3 := HO1.out.cell 2
     have ol1 : O < W1.heap.size := HO1.out.lt
     clear hr hO1 hout hex hfr hv' hp3 hz
     go_wp2_with (at_builtin; refine wpList_append_eq rfl _ _ _ _ rfl rfl rfl HRUN.out ?_)
     go_roundw
     case rel => exact ⟨j3 + 1, mv3, .slice (some ⟨g, 0, none⟩) n' cap, xs3, X', by omega, by go_num, by rw [HST.out]; exact HOUT.out, HEX.out, HPN3.out⟩
     case measure => simp [intOf]; omega
    ·have hj3i : ¬ (j3 : Int) < (L.length : Int) := by omega
     have HTL : Hid (L.take j3 = L) := List.take_of_length_le (by omega)
     go_wp2_with fail
     go_end0
     refine ⟨rfl, ⟨mv3, lv3, xs3, X3, ?_⟩, HE3.out⟩
     have h9 := HO3.out
     rw [HTL.out, HL.out] at h9
     exact h9
end Go.Proofs.Ytofebfjkodceeaa
