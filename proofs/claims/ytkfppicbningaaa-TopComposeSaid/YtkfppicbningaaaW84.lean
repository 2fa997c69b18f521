/- Walks: Then. -/
import Derived.Test.YtkfppicbningaaaPu0
import Derived.Test.YtkfppicbningaaaW83
import Derived.Test.YtkfppicbningaaaW81
import Derived.Test.YtkfppicbningaaaW64
namespace Go.Proofs.Ytkfppicbningaaa
open Go.RowKit
set_option linter.unusedSimpArgs false
set_option linter.unusedVariables false
set_option maxRecDepth 8000

theorem pairsL_Z {w : World} {X : Nat → Prop} : ∀ {ls : List Bd} {L : List (ByteArray × Value)}, PairsL w X ls L → ∃ Z : List Bc, L = Z.map toP ∧ Z.map (·.1) = ls ∧ ∀ x ∈ Z, Sl w X x.2.1 x.1.t.args
  | [], L, h => by
    have e : L = [] := h
    subst e
    exact ⟨[], rfl, rfl, by simp⟩
  | d :: r, L, h => by
    obtain ⟨a, c, L', rfl, h1, h2⟩ := h
    obtain ⟨Z, rfl, e, h3⟩ := pairsL_Z h2
    refine ⟨(d, a, c) :: Z, rfl, by simp [e], fun x hx => ?_⟩
    rcases List.mem_cons.1 hx with rfl | hx
    · exact h1
    · exact h3 x hx

/-- A binding with another list of them in its term. -/
def fB (rs : List Bd) (d : Bd) : Bd := ⟨d.nm, fT rs d.t⟩
/-- Is one of the terms too great? -/
def fullB (ls rs : List Bd) : Bool := ls.any fun d => decide (2000 < sizeL [fT rs d.t])
theorem fullB_yes {ls rs : List Bd} {k : Nat} (h : k < ls.length) (h0 : 2000 < sizeL [fT rs ls[k].t]) : fullB ls rs = true := by
  unfold fullB
  rw [List.any_eq_true]
  exact ⟨ls[k], List.getElem_mem h, by simpa using h0⟩
theorem fullB_no {ls rs : List Bd} (h : ∀ d ∈ ls, sizeL [fT rs d.t] ≤ 2000) : fullB ls rs = false := by
  unfold fullB
  rw [List.any_eq_false]
  intro d hd
  have := h d hd
  simp; omega
/-- Both, before what stands for itself is struck. -/
def bothB (ls rs : List Bd) : List Bd := ls.map (fB rs) ++ rs.filter fun d => (forT ls d.nm).isNone
def ThPost (w : World) (ls rs : List Bd) (e : Ending) (w' : World) : Prop :=
  Below w.heap.size w w' ∧ ((bindsE ls ≠ 0 ∧ e = .returned (.tuple #[.slice none 0 0, .int .i64 (bindsE ls)])) ∨ (bindsE ls = 0 ∧ bindsE rs ≠ 0 ∧ e = .returned (.tuple #[.slice none 0 0, .int .i64 (bindsE rs)])) ∨
    (bindsE ls = 0 ∧ bindsE rs = 0 ∧ fullB ls rs = true ∧ e = .returned (.tuple #[.slice none 0 0, .int .i64 8])) ∨
    (bindsE ls = 0 ∧ bindsE rs = 0 ∧ fullB ls rs = false ∧ ∃ v ls', e = .returned (.tuple #[v, .int .i64 0]) ∧ BV w' (fun b => w.heap.size ≤ b) v ls' ∧ ls'.Perm ((bothB ls rs).filter keepB) ∧ SortedB ls'))

theorem bindsE_sorted {ls : List Bd} (h : bindsE ls = 0) : SortedB ls := by
  unfold SortedB
  rw [List.pairwise_iff_getElem]
  intro i j hi hj hij
  obtain ⟨e, rfl⟩ : ∃ e, j = i + 1 + e := ⟨j - (i + 1), by omega⟩
  have h1 := bindsE_far h i e hj
  unfold leB at h1
  simp only [Bool.or_eq_false_iff] at h1
  cases h2 : ltB ls[i].nm ls[i + 1 + e].nm with
  | true => rfl
  | false =>
    have e2 := ltB_conn h2 h1.1
    rw [e2] at h1
    simp at h1
theorem mapGet_no {Z : List Bc} {n : ByteArray} (h : ∀ x ∈ Z, x.1.nm ≠ n) : mapGet (Z.map toP) n = none := by
  induction Z with
  | nil => rfl
  | cons y r ih =>
    rw [List.map_cons, mapGet, if_neg (by simpa [toP] using h y (by simp))]
    exact ih fun x hx => h x (by simp [hx])
/-- What the region of the first loop leaves. -/
def ThB (w4 : World) (P : Nat) (s : ByteArray) (a : Option Addr) (n c : Nat) (l0 : List Tm) (w9 : World) : Prop := Blk w9 P #[.string s, .slice a n c] 28 ∧ Below w4.heap.size w4 w9 ∧ Sl w9 (fun b => w4.heap.size ≤ b) a l0
theorem thB_set {w4 w8 : World} {P Q n c : Nat} {s : ByteArray} {a : Option Addr} {l0 : List Tm} (hP : Blk w8 P #[.string ⟨#[]⟩, .slice none 0 0] 28) (hw : w4.heap.size ≤ P) (hb : Below w4.heap.size w4 w8) (hs : Sl w8 (fun b => Q ≤ b) a l0) (hQ : P < Q) :
    ThB w4 P s a n c l0 ((w8.setCell ⟨P, 0, none⟩ (.string s)).setCell ⟨P, 1, none⟩ (.slice a n c)) :=
  ⟨(hP.set 0 _).set 1 _, (hb.setCell (by simpa using hw) _).setCell (by simpa using hw) _, (hs.kept fun b hb => by
    rw [Below.heap_setCell _ _ _ _ (by simp; omega), Below.heap_setCell _ _ _ _ (by simp; omega)]).mono fun b hb _ => by omega⟩
/-- What is known in the first loop. -/
def T1Inv (w3 : World) (ls rs : List Bd) (v : Value) (wr : World) : Prop :=
  ∃ (k : Nat) (Z : List Bc), v = .int .i64 (k : Int) ∧ k ≤ ls.length ∧ MapAt wr w3.heap.size (Z.map toP) ∧ Z.map (·.1) = (ls.take k).map (fB rs) ∧ (∀ x ∈ Z, Sl wr (fun b => w3.heap.size < b) x.2.1 x.1.t.args) ∧ (∀ d ∈ ls.take k, sizeL [fT rs d.t] ≤ 2000) ∧ Below w3.heap.size w3 wr

/-- What is known in the second loop. -/
def T2Inv (w3 w5 : World) (q I : Nat) (ls : List Bd) (Z Zq : List Bc) (wr : World) : Prop :=
  ∃ Zr K Zb : List Bc, RangeAt wr q I (Zq.map toP) (Zr.map toP) ∧ Zq.Perm (K ++ Zr) ∧ MapAt wr w3.heap.size (Zb.map toP) ∧ Zb.Perm (Z ++ K.filter fun x => (forT ls x.1.nm).isNone) ∧ ApartB (Zb.map (·.1)) ∧ Below w3.heap.size w3 wr ∧ (∀ b, b < I → b ≠ w3.heap.size → wr.heap[b]? = w5.heap[b]?)
theorem bindsE_len {ls : List Bd} (h : bindsE ls = 0) : ls.length ≤ 40 := by
  unfold bindsE at h
  split at h
  · cases h
  · omega
set_option maxHeartbeats 2000000 in
theorem then_of (HSORT : Hid SortBinds) (ls rs : List Bd) (u v : Value) (w : World) (X : Nat → Prop) (hu : BV w X u ls) (hv : BV w X v rs) :
    Calls Try.prog 10 #[u, v] w fun e w' => ThPost w ls rs e w' := by
  have HU := hide (hu.mono (Y := fun b => X b ∧ b < w.heap.size) fun b h1 h2 => ⟨h1, h2⟩)
  have HV := hide (hv.mono (Y := fun b => X b ∧ b < w.heap.size) fun b h1 h2 => ⟨h1, h2⟩)
  obtain ⟨au, cu, rfl, hlu, hu2⟩ := hu
  clear hv hu2
  have hmm := @run_makeMap Try.prog
  go_enter Try.func10, Try.ntmps10
  go_wp2_with fail
  refine (scheck_any ls _ w _ HU.out).mono ?_
  rintro e w1 ⟨rfl, hb1⟩
  have HB1 := hide hb1
  clear hb1
  by_cases hbe : bindsE ls = 0
  case neg =>
    have hbe' : (bindsE ls == 0) = false := by simpa using hbe
    have HBE := hide hbe
    clear hbe
    go_wp2_with fail
    refine bodyPost_ret (v := .tuple #[.slice none 0 0, .int .i64 (bindsE ls)]) (by simp [results, Try.results10, go_sem]) rfl ?_
    exact ⟨HB1.out, Or.inl ⟨HBE.out, rfl⟩⟩
  have HBE := hide hbe
  rw [hbe]
  clear hbe
  go_wp2_with fail
  refine (scheck_any rs _ w1 _ (HV.out.later HB1.out)).mono ?_
  rintro e w2 ⟨rfl, hb2⟩
  have HB2 := hide (HB1.out.trans (hb2.mono HB1.out.size))
  clear hb2
  by_cases hbr : bindsE rs = 0
  case neg =>
    have hbe' : (bindsE rs == 0) = false := by simpa using hbr
    have HBR := hide hbr
    clear hbr
    go_wp2_with fail
    refine bodyPost_ret (v := .tuple #[.slice none 0 0, .int .i64 (bindsE rs)]) (by simp [results, Try.results10, go_sem]) rfl ?_
    exact ⟨HB2.out, Or.inr (Or.inl ⟨HBE.out, HBR.out, rfl⟩)⟩
  have HBR := hide hbr
  rw [hbr]
  clear hbr
  go_wp2_with fail
  refine (byName_any rs (bindsE_once HBR.out) _ w2 _ (HV.out.later HB2.out)).mono ?_
  rintro e w3 ⟨L, rfl, hM3, hP3, hb3⟩
  have hq3 := hM3.lt
  have HM3 := hide hM3
  have HP3 : Hid (PairsL w3 (fun b => X b ∧ b < w.heap.size) rs L) := hP3.imp fun a l hs => hs.mono fun b h _ => h.1
  have HB3 := hide (HB2.out.trans (hb3.mono HB2.out.size))
  have hq : w.heap.size ≤ w2.heap.size := HB2.out.size
  clear hM3 hP3 hb3
  generalize w2.heap.size = q at *
  go_wp2_with fail
  go_loopw [33] (fun v wr => T1Inv w3 ls rs v wr) (fun v wr => ls.length - (intOf v).toNat)
  case atStart =>
    exact ⟨0, [], rfl, Nat.zero_le _, MapAt.new w3, rfl, by simp, by simp, (Below.refl _ _).alloc (Nat.le_refl _) _⟩
  case round =>
    obtain ⟨k, Z, rfl, hk, hM, hZe, hZs, hsz, hb⟩ := hrel
    have HM := hide hM
    have HZE := hide hZe
    have HZS := hide hZs
    have HSZ := hide hsz
    have HB := hide hb
    have hMr := hM.lt
    clear hM hZe hZs hsz
    by_cases hlt : k < ls.length
    · obtain ⟨b, o, a', c', rfl, d0, d1, d2, hs⟩ := ((HU.out.later HB3.out).later hb).get k hlt
      have hlt2 : (k : Int) < (ls.length : Int) := by omega
      have HS := hide hs
      clear hb hs
      have hBw0 : w3.heap.size < wr.heap.size := hMr
      have HNO : Hid (mapGet (Z.map toP) ls[k].nm = none) := mapGet_no fun x hx e => by
        have h1 : x.1 ∈ (ls.take k).map (fB rs) := by rw [← HZE.out]; exact List.mem_map.2 ⟨x, hx, rfl⟩
        obtain ⟨d', hd', e'⟩ := List.mem_map.1 h1
        have h2 := (bindsE_sorted HBE.out).apart
        obtain ⟨i, hi, rfl⟩ := List.getElem_of_mem hd'
        have hi' : i < k := by simp at hi; omega
        unfold ApartB at h2
        rw [List.pairwise_iff_getElem] at h2
        have h3 := h2 i k (by omega) hlt hi'
        rw [← e'] at e
        rw [List.getElem_take] at e
        exact h3 e
      have HZE1 : Hid (∀ (a8 : Option Addr) (c8 : Nat), (Z ++ [(fB rs ls[k], a8, c8)]).map (·.1) = (ls.take (k + 1)).map (fB rs)) := fun a8 c8 => by
        rw [List.take_succ_eq_append_getElem hlt, List.map_append, List.map_append, HZE.out]; rfl
      have HSZ1 : Hid (sizeL [fT rs ls[k].t] ≤ 2000 → ∀ d ∈ ls.take (k + 1), sizeL [fT rs d.t] ≤ 2000) := fun h d hd => by
        rw [List.take_succ_eq_append_getElem hlt] at hd
        rcases List.mem_append.1 hd with hd | hd
        · exact HSZ.out d hd
        · have e : d = ls[k] := by simpa using hd
          rw [e]; exact h
      have HFU := hide (fullB_yes (rs := rs) hlt)
      generalize ls[k] = d at *
      go_wp2_with fail
      have BK := hide (Blk.new wr #[.string d.nm, .string d.t.name, .slice a' d.t.args.length c'] 50)
      have HBW := hide (HB.out.alloc HB.out.size (.cells #[.string d.nm, .string d.t.name, .slice a' d.t.args.length c'] 50))
      have HSW := hide (HS.out.later ((Below.refl _ _).alloc (Nat.le_refl _) (.cells #[.string d.nm, .string d.t.name, .slice a' d.t.args.length c'] 50)))
      have HMW := hide (HM.out.below ((Below.refl _ _).alloc (Nat.le_refl _) (.cells #[.string d.nm, .string d.t.name, .slice a' d.t.args.length c'] 50)) hMr)
      have HZW : Hid (∀ x ∈ Z, Sl (wr.alloc (.cells #[.string d.nm, .string d.t.name, .slice a' d.t.args.length c'] 50)) (fun b => w3.heap.size < b) x.2.1 x.1.t.args) := fun x hx => (HZS.out x hx).later ((Below.refl _ _).alloc (Nat.le_refl _) _)
      have hBw : w3.heap.size < (wr.alloc (.cells #[.string d.nm, .string d.t.name, .slice a' d.t.args.length c'] 50)).heap.size := by simp; omega
      have hAw : wr.heap.size < (wr.alloc (.cells #[.string d.nm, .string d.t.name, .slice a' d.t.args.length c'] 50)).heap.size := by simp
      clear d0 d1 d2
      generalize wr.alloc (.cells #[.string d.nm, .string d.t.name, .slice a' d.t.args.length c'] 50) = w4 at *
      generalize wr.heap.size = A at *
      have KP : Hid (∀ w', Below w4.heap.size w4 w' → w'.cell? ⟨A, 1, none⟩ = some (.string d.t.name) ∧ w'.cell? ⟨A, 2, none⟩ = some (.slice a' d.t.args.length c')) := fun w' hb => ⟨(BK.out.below hb hAw).cell 1, (BK.out.below hb hAw).cell 2⟩
      have t05 := (KP.out w4 (Below.refl _ _)).1
      have t15 := (KP.out w4 (Below.refl _ _)).2
      have LKA : Hid (∀ w', Below w4.heap.size w4 w' → Calls Try.prog 30 #[.map (some q)] w' fun e w'' => ∃ B, e = .returned (.func (.func 51) #[] #[.pointer (some ⟨B, 0, none⟩)]) ∧ Env w'' B q (fun b => X b ∧ b < w.heap.size) rs L ∧ Below w4.heap.size w4 w'' ∧ Below w'.heap.size w' w'') := fun w' hb => by
        refine (look_any q w').mono ?_
        rintro e w7 ⟨rfl, hw7⟩
        have hb7 : Below w'.heap.size w' w7 := by rw [hw7]; exact (Below.refl _ _).alloc (Nat.le_refl _) _
        have hb8 : Below w3.heap.size w3 w7 := (HBW.out.trans (hb.mono HBW.out.size)).trans (hb7.mono (Nat.le_trans HBW.out.size hb.size))
        exact ⟨_, rfl, ⟨by rw [hw7]; exact Blk.new w' _ _, HM3.out.below hb8 hq3, HP3.out.imp fun a l hs => hs.later hb8⟩, hb.trans (hb7.mono hb.size), hb7⟩
      by_cases hle : sizeL [fT rs d.t] ≤ 2000
      · have FIA : Hid (∀ B w', Env w' B q (fun b => X b ∧ b < w.heap.size) rs L → Below w4.heap.size w4 w' → Calls Try.prog 29 #[.agg #[.string d.t.name, .slice a' d.t.args.length c'], .func (.func 51) #[] #[.pointer (some ⟨B, 0, none⟩)]] w' fun e w'' => ∃ a8 c8, e = .returned (.tuple #[.agg #[.string (fT rs d.t).name, .slice a8 (fT rs d.t).args.length c8], .int .i64 0]) ∧ Below w4.heap.size w4 w'' ∧ Below w'.heap.size w' w'' ∧ Sl w'' (fun b => w'.heap.size ≤ b) a8 (fT rs d.t).args) := fun B w' hE hb => by
          refine (sfill_any B q rs L d.t a' c' w' _ (HSW.out.later hb) hE).mono ?_
          rintro e w8 ⟨hb8, ⟨_, a8, c8, rfl, h8⟩ | ⟨h8, _⟩⟩
          · exact ⟨a8, c8, rfl, hb.trans (hb8.mono hb.size), hb8, h8⟩
          · omega
        go_region_held3 (fun w' => w'.cell? ⟨A, 1, none⟩ = some (.string d.t.name) ∧ w'.cell? ⟨A, 2, none⟩ = some (.slice a' d.t.args.length c')) (first | exact hS | exact ⟨t05, t15⟩ | exact two_keep (two_keep hS nP nP) nP nP | exact two_keep hS nP nP | go_keep)
          (first
            | (go_at_call 30; refine (LKA.out _ (by first | exact Below.refl _ _ | exact (Below.refl _ _).drew | exact ((Below.refl _ _).alloc (Nat.le_refl _) _) | exact ((Below.refl _ _).drew.alloc (Nat.le_refl _) _) | exact ((Below.refl _ _).alloc (Nat.le_refl _) _).drew)).mono ?_; rintro e w7 ⟨B, rfl, hE7, hb7, hbl7⟩; have hS := KP.out _ hb7)
            | (go_at_call 29; refine (FIA.out _ _ (by first | exact hE7 | exact hE7.later ((Below.refl _ _).alloc (Nat.le_refl _) _)) (by first | exact hb7 | exact hb7.drew | exact hb7.alloc hb7.size _)).mono ?_; rintro e w8 ⟨a8, c8, rfl, hb8, hbl8, hs8⟩; have hS := KP.out _ hb8;
                first
                  | (have PB : Blk w8 w7.heap.size #[.string ⟨#[]⟩, .slice none 0 0] 28 := (Blk.new w7 _ _).below hbl8 (by simp); have p0 := PB.cell 0; have p1 := PB.cell 1; have pf := PB.frozen; have pl := PB.lt; have hPN : w4.heap.size ≤ w7.heap.size := hb7.size; have nP : w7.heap.size ≠ A := by omega)
                  | (have PB : Blk w8 w4.heap.size #[.string ⟨#[]⟩, .slice none 0 0] 28 := (((Blk.new w4 _ _).drewN 1).below hbl7 (by simp)).below hbl8 (by have := hbl7.size; simp at this; omega); have p0 := PB.cell 0; have p1 := PB.cell 1; have pf := PB.frozen; have pl := PB.lt; have hPN : w4.heap.size ≤ w4.heap.size := Nat.le_refl _; have nP : w4.heap.size ≠ A := by omega)
                  | skip))
        all_goals first
          | (have TB : Hid (ThB w4 w7.heap.size (fT rs d.t).name a8 (fT rs d.t).args.length c8 (fT rs d.t).args ((w8.setCell ⟨w7.heap.size, 0, none⟩ (.string (fT rs d.t).name)).setCell ⟨w7.heap.size, 1, none⟩ (.slice a8 (fT rs d.t).args.length c8))) := thB_set PB hPN hb8 hs8 (by simp); generalize ((w8.setCell ⟨w7.heap.size, 0, none⟩ (.string (fT rs d.t).name)).setCell ⟨w7.heap.size, 1, none⟩ (.slice a8 (fT rs d.t).args.length c8)) = w9 at *)
          | (have TB : Hid (ThB w4 w4.heap.size (fT rs d.t).name a8 (fT rs d.t).args.length c8 (fT rs d.t).args ((w8.setCell ⟨w4.heap.size, 0, none⟩ (.string (fT rs d.t).name)).setCell ⟨w4.heap.size, 1, none⟩ (.slice a8 (fT rs d.t).args.length c8))) := thB_set PB hPN hb8 hs8 (by have := hbl7.size; simp at this; omega); generalize ((w8.setCell ⟨w4.heap.size, 0, none⟩ (.string (fT rs d.t).name)).setCell ⟨w4.heap.size, 1, none⟩ (.slice a8 (fT rs d.t).args.length c8)) = w9 at *)
          | (have TB : Hid (ThB w4 w8.heap.size (fT rs d.t).name a8 (fT rs d.t).args.length c8 (fT rs d.t).args (w8.alloc (.cells #[.string (fT rs d.t).name, .slice a8 (fT rs d.t).args.length c8] 28))) := ⟨Blk.new w8 _ _, hb8.alloc hb8.size _, (hs8.later ((Below.refl _ _).alloc (Nat.le_refl _) _)).mono fun b hb _ => by have := hb7.size; omega⟩; generalize (w8.alloc (.cells #[.string (fT rs d.t).name, .slice a8 (fT rs d.t).args.length c8] 28)) = w9 at *)
        all_goals
          have c0 : w9.cell? ⟨A, 0, none⟩ = some (.string d.nm) := (BK.out.below TB.out.2.1 hAw).cell 0
          have p0' := TB.out.1.cell 0
          have p1' := TB.out.1.cell 1
          obtain ⟨w10, hrun, hM10, hz10, ho10, ht10, hu10, hk10⟩ := run_put (P := Try.prog) Try.underlying63 Try.underlying9 (HMW.out.below TB.out.2.1 hBw) d.nm (.agg #[.string (fT rs d.t).name, .slice a8 (fT rs d.t).args.length c8]) HNO.out
          have HM10 : Hid (MapAt w10 w3.heap.size ((Z ++ [(fB rs d, a8, c8)]).map toP)) := by unfold Hid; rw [List.map_append]; exact hM10
          have HB9 := hide (HBW.out.trans (TB.out.2.1.mono HBW.out.size))
          have HB10 : Hid (Below w3.heap.size w3 w10) := ⟨ho10.trans HB9.out.os, ht10.trans HB9.out.tape, hu10.trans HB9.out.output, by rw [hz10]; exact HB9.out.size, fun j hj => (hk10 j (by omega)).trans (HB9.out.block j hj)⟩
          have HZ10 : Hid (∀ x ∈ Z ++ [(fB rs d, a8, c8)], Sl w10 (fun b => w3.heap.size < b) x.2.1 x.1.t.args) := fun x hx => by
            rcases List.mem_append.1 hx with hx | hx
            · exact ((HZW.out x hx).later TB.out.2.1).kept fun b hb => hk10 b (by omega)
            · have e : x = (fB rs d, a8, c8) := by simpa using hx
              subst e
              exact (TB.out.2.2.kept fun b hb => hk10 b (by omega)).mono fun b hb _ => by omega
          clear hM10 hz10 ho10 ht10 hu10 hk10
          go_wp2_with fail
          go_roundw
          case rel => exact ⟨k + 1, Z ++ [(fB rs d, a8, c8)], by go_num, by omega, HM10.out, HZE1.out a8 c8, HZ10.out, HSZ1.out hle, HB10.out⟩
          case measure => simp [intOf]; omega
      · have FIA : Hid (∀ B w', Env w' B q (fun b => X b ∧ b < w.heap.size) rs L → Below w4.heap.size w4 w' → Calls Try.prog 29 #[.agg #[.string d.t.name, .slice a' d.t.args.length c'], .func (.func 51) #[] #[.pointer (some ⟨B, 0, none⟩)]] w' fun e w'' => e = .returned (.tuple #[.agg #[.string ⟨#[]⟩, .slice none 0 0], .int .i64 8]) ∧ Below w4.heap.size w4 w'' ∧ Below w'.heap.size w' w'') := fun B w' hE hb => by
          refine (sfill_any B q rs L d.t a' c' w' _ (HSW.out.later hb) hE).mono ?_
          rintro e w8 ⟨hb8, ⟨h8, _⟩ | ⟨_, rfl⟩⟩
          · omega
          · exact ⟨rfl, hb.trans (hb8.mono hb.size), hb8⟩
        go_region_held3 (fun w' => w'.cell? ⟨A, 1, none⟩ = some (.string d.t.name) ∧ w'.cell? ⟨A, 2, none⟩ = some (.slice a' d.t.args.length c')) (first | exact hS | exact ⟨t05, t15⟩ | exact two_keep (two_keep hS nP nP) nP nP | exact two_keep hS nP nP | go_keep)
          (first
            | (go_at_call 30; refine (LKA.out _ (by first | exact Below.refl _ _ | exact (Below.refl _ _).drew | exact ((Below.refl _ _).alloc (Nat.le_refl _) _) | exact ((Below.refl _ _).drew.alloc (Nat.le_refl _) _) | exact ((Below.refl _ _).alloc (Nat.le_refl _) _).drew)).mono ?_; rintro e w7 ⟨B, rfl, hE7, hb7, hbl7⟩; have hS := KP.out _ hb7)
            | (go_at_call 29; refine (FIA.out _ _ (by first | exact hE7 | exact hE7.later ((Below.refl _ _).alloc (Nat.le_refl _) _)) (by first | exact hb7 | exact hb7.drew | exact hb7.alloc hb7.size _)).mono ?_; rintro e w8 ⟨rfl, hb8, hbl8⟩; have hS := KP.out _ hb8;
                first
                  | (have PB : Blk w8 w7.heap.size #[.string ⟨#[]⟩, .slice none 0 0] 28 := (Blk.new w7 _ _).below hbl8 (by simp); have p0 := PB.cell 0; have p1 := PB.cell 1; have pf := PB.frozen; have pl := PB.lt; have hPN : w4.heap.size ≤ w7.heap.size := hb7.size; have nP : w7.heap.size ≠ A := by omega)
                  | (have PB : Blk w8 w4.heap.size #[.string ⟨#[]⟩, .slice none 0 0] 28 := (((Blk.new w4 _ _).drewN 1).below hbl7 (by simp)).below hbl8 (by have := hbl7.size; simp at this; omega); have p0 := PB.cell 0; have p1 := PB.cell 1; have pf := PB.frozen; have pl := PB.lt; have hPN : w4.heap.size ≤ w4.heap.size := Nat.le_refl _; have nP : w4.heap.size ≠ A := by omega)
                  | skip))
        all_goals first
          | (have TB : Hid (Below w4.heap.size w4 ((w8.setCell ⟨w7.heap.size, 0, none⟩ (.string ⟨#[]⟩)).setCell ⟨w7.heap.size, 1, none⟩ (.slice none 0 0))) := ((hb8.setCell (by simpa using hPN) _).setCell (by simpa using hPN) _); generalize ((w8.setCell ⟨w7.heap.size, 0, none⟩ (.string ⟨#[]⟩)).setCell ⟨w7.heap.size, 1, none⟩ (.slice none 0 0)) = w9 at *)
          | (have TB : Hid (Below w4.heap.size w4 ((w8.setCell ⟨w4.heap.size, 0, none⟩ (.string ⟨#[]⟩)).setCell ⟨w4.heap.size, 1, none⟩ (.slice none 0 0))) := ((hb8.setCell (by exact hPN) _).setCell (by exact hPN) _); generalize ((w8.setCell ⟨w4.heap.size, 0, none⟩ (.string ⟨#[]⟩)).setCell ⟨w4.heap.size, 1, none⟩ (.slice none 0 0)) = w9 at *)
          | (have TB : Hid (Below w4.heap.size w4 (w8.alloc (.cells #[.string ⟨#[]⟩, .slice none 0 0] 28))) := hb8.alloc hb8.size _; generalize (w8.alloc (.cells #[.string ⟨#[]⟩, .slice none 0 0] 28)) = w9 at *)
        all_goals
          have HFL := hide (HFU.out (by omega))
          go_wp2_with fail
          refine bodyPost_ret (v := .tuple #[.slice none 0 0, .int .i64 8]) (by simp [results, Try.results10, go_sem]) rfl ?_
          exact ⟨HB3.out.trans ((HBW.out.trans (TB.out.mono HBW.out.size)).mono HB3.out.size), Or.inr (Or.inr (Or.inl ⟨HBE.out, HBR.out, HFL.out, rfl⟩))⟩
    · have hkl : k = ls.length := by omega
      have htk : ls.take k = ls := List.take_of_length_le (by omega)
      have HFN : Hid (fullB ls rs = false) := fullB_no (by rw [← htk]; exact HSZ.out)
      have HZL : Hid (Z.map (·.1) = ls.map (fB rs)) := by have h := HZE.out; rw [htk] at h; exact h
      obtain ⟨Zq, rfl, hZq, hZqs⟩ := pairsL_Z HP3.out
      have HZQ := hide hZq
      have HZQS := hide hZqs
      obtain ⟨o, hrange, hR0⟩ := (HM3.out.below hb hq3).range (P := Try.prog) Try.underlying63
      have HR0 := hide hR0
      have HAZ : Hid (ApartB (Z.map (·.1))) := by
        unfold Hid
        rw [HZL.out]
        unfold ApartB
        rw [List.pairwise_map]
        exact (bindsE_sorted HBE.out).apart
      have HAQ : Hid (ApartB (Zq.map (·.1))) := by unfold Hid; rw [hZq]; exact (bindsE_sorted HBR.out).apart
      have hqI : q < wr.heap.size := by have := hb.size; omega
      clear hb hkl htk hZq hZqs hR0
      have hz : ∀ w', (zeroValue 28).run Try.prog w' = .ok (.agg #[.string ⟨#[]⟩, .slice none 0 0]) w' := fun w' => Try.zeroValue28 w'
      go_wp2_with fail
      have HM5 := hide (HM.out.below ((Below.refl _ _).alloc (Nat.le_refl _) o) hMr)
      have HB5 := hide (HB.out.alloc HB.out.size o)
      have HZ5 : Hid (∀ x ∈ Z, Sl (wr.alloc o) (fun b => w3.heap.size < b ∧ b < wr.heap.size) x.2.1 x.1.t.args) := fun x hx => ((HZS.out x hx).mono (Y := fun b => w3.heap.size < b ∧ b < wr.heap.size) fun b h1 h2 => ⟨h1, h2⟩).later ((Below.refl _ _).alloc (Nat.le_refl _) o)
      clear hrange
      generalize wr.alloc o = w5 at *
      generalize wr.heap.size = I at *
      go_loopw [55] (fun _ wr' => T2Inv w3 w5 q I ls Z Zq wr') (fun _ wr' => leftAt wr' q I)
      case atStart => exact ⟨Zq, [], Z, HR0.out, List.Perm.refl _, HM5.out, by simp, HAZ.out, HB5.out, fun _ _ _ => rfl⟩
      case round =>
        obtain ⟨Zr, K, Zb, hR, hPq, hMb, hPb, hAb, hbb, hfr⟩ := hrel
        have HR := hide hR
        have HPQ := hide hPq
        have HMB := hide hMb
        have HPB := hide hPb
        have HAB := hide hAb
        have HBB := hide hbb
        have HFR := hide hfr
        have hIl := hR.lt
        clear hPq hPb hAb hMb
        rcases hR.next (P := Try.prog) 0 with ⟨he, hnx⟩ | ⟨p, rem', w1', hpm, hnx, hR1, hz1, ho1, ht1, hu1, hk1, hen⟩
        · have hZr : Zr = [] := by simpa using he
          subst hZr
          have HZK : Hid (Zb.Perm (Z ++ Zq.filter fun x => (forT ls x.1.nm).isNone)) := by
            have h1 : Zq.Perm K := by simpa using HPQ.out
            exact HPB.out.trans ((h1.symm.filter _).append_left Z)
          have hz5 := HBB.out.size
          clear hR hbb hfr he
          go_wp2_with fail
          refine (deleteFunc_any Zb w3.heap.size wr HMB.out HAB.out).mono ?_
          rintro e w6 ⟨rfl, Z6, hM6, hP6, hg6⟩
          have HM6 := hide hM6
          have HP6 := hide hP6
          have HB6 : Hid (Below w3.heap.size w3 w6) := HBB.out.grown hg6 HBB.out.size (fun j hj => by cases hj; exact Nat.le_refl _)
          have HIN : Hid (∀ x ∈ Z6, x ∈ Z ∨ x ∈ Zq) := fun x hx => by
            have h1 := (List.mem_filter.1 (hP6.subset hx)).1
            rcases List.mem_append.1 (HZK.out.subset h1) with h2 | h2
            · exact Or.inl h2
            · exact Or.inr (List.mem_filter.1 h2).1
          have HS6 : Hid (∀ x ∈ Z6, Sl w6 (fun b => (w3.heap.size < b ∧ b < I) ∨ (X b ∧ b < w.heap.size)) x.2.1 x.1.t.args) := fun x hx => by
            rcases HIN.out x hx with h1 | h1
            · refine ((HZ5.out x h1).kept (w' := w6) fun b hb => ?_).mono fun b hb _ => Or.inl hb
              rw [hg6.block b (by omega) (by simp; omega), HFR.out b hb.2 (by omega)]
            · exact ((HZQS.out x h1).below HB6.out fun b hb _ => by have := HB3.out.size; omega).mono fun b hb _ => Or.inr hb
          have HSZ6 : Hid (∀ x ∈ Z6, sizeL [x.1.t] ≤ 1000000) := fun x hx => by
            rcases HIN.out x hx with h1 | h1
            · have h2 : x.1 ∈ ls.map (fB rs) := by rw [← HZL.out]; exact List.mem_map.2 ⟨x, h1, rfl⟩
              obtain ⟨d, hd, e⟩ := List.mem_map.1 h2
              rw [← e]
              have h3 : ¬ (2000 < sizeL [fT rs d.t]) := fun h => by
                obtain ⟨i, hi, rfl⟩ := List.getElem_of_mem hd
                have := fullB_yes hi h
                rw [HFN.out] at this; cases this
              show sizeL [fT rs d.t] ≤ 1000000
              omega
            · have h2 : x.1 ∈ rs := by rw [← HZQ.out]; exact List.mem_map.2 ⟨x, h1, rfl⟩
              obtain ⟨i, hi, e⟩ := List.getElem_of_mem h2
              have h3 := (bindsE_at HBR.out i hi).2
              rw [e] at h3
              unfold mayE at h3
              split at h3
              · cases h3
              · omega
          have HL6 : Hid (Z6.length ≤ 1000000) := by
            have h1 := HP6.out.length_eq
            have h2 := List.length_filter_le (fun x : Bc => keepB x.1) Zb
            have h3 := HZK.out.length_eq
            have h4 := List.length_filter_le (fun x : Bc => (forT ls x.1.nm).isNone) Zq
            have h5 := congrArg List.length HZL.out
            have h6 := congrArg List.length HZQ.out
            have h7 := bindsE_len HBE.out
            have h8 := bindsE_len HBR.out
            simp at h3 h5 h6
            unfold Hid
            omega
          have HA6 : Hid (ApartB (Z6.map (·.1))) := by
            refine ApartB.perm ?_ (HP6.out.map (·.1))
            exact HAB.out.sublist (List.Sublist.map _ List.filter_sublist)
          have HPF : Hid ((Z6.map (·.1)).Perm ((bothB ls rs).filter keepB)) := by
            have h1 := HP6.out.map (·.1)
            have h2 : ((Zb.filter fun x => keepB x.1).map (·.1)).Perm ((bothB ls rs).filter keepB) := by
              have h3 := (HZK.out.map (·.1)).filter keepB
              have e1 : (Z ++ Zq.filter fun x => (forT ls x.1.nm).isNone).map (·.1) = bothB ls rs := by
                rw [List.map_append, HZL.out]
                unfold bothB
                rw [← HZQ.out, List.filter_map]
                rfl
              rw [e1] at h3
              rw [List.filter_map] at h3
              exact h3
            exact h1.trans h2
          clear hM6 hP6 hg6
          go_wp2_with fail
          refine (inOrder_of HSORT Z6 w3.heap.size w6 _ HM6.out HS6.out HSZ6.out HL6.out HA6.out).mono ?_
          rintro e w7 ⟨v7, l7, rfl, hbv7, hp7, hs7, hb7⟩
          have HBV7 := hide hbv7
          have HP7 := hide (hp7.trans HPF.out)
          have HS7 := hide hs7
          have HB7 := hide (HB3.out.trans ((HB6.out.trans (hb7.mono HB6.out.size)).mono HB3.out.size))
          have hz6 := HB6.out.size
          have hz3 := HB3.out.size
          clear hbv7 hp7 hs7 hb7
          go_wp2_with fail
          refine bodyPost_ret (v := .tuple #[v7, .int .i64 0]) (by simp [results, Try.results10, go_sem]) rfl ?_
          exact ⟨HB7.out, Or.inr (Or.inr (Or.inr ⟨HBE.out, HBR.out, HFN.out, v7, l7, rfl, HBV7.out.mono fun b hb _ => by omega, HP7.out, HS7.out⟩))⟩
        · obtain ⟨x, Z', hpx, rfl, rfl⟩ := next_lift hpm
          simp only [toP] at hnx hen
          have hxq : x ∈ Zq := HPQ.out.symm.subset (by simp [hpx.symm.subset (List.mem_cons_self (a := x))])
          have hBI : w3.heap.size < I := hMr
          have HBB1 : Hid (Below w3.heap.size w3 w1') := ⟨ho1.trans hbb.os, ht1.trans hbb.tape, hu1.trans hbb.output, by rw [hz1]; exact hbb.size, fun j hj => (hk1 j (by omega)).trans (hbb.block j hj)⟩
          have HFR1 : Hid (∀ b, b < I → b ≠ w3.heap.size → w1'.heap[b]? = w5.heap[b]?) := fun b h1 h2 => (hk1 b (by omega)).trans (hfr b h1 h2)
          have HMB1 := hide (HMB.out.kept (hk1 w3.heap.size (by omega)))
          have HR1 := hide hR1
          have hI1 : I < w1'.heap.size := hR1.lt
          have HPQ1 : Hid (Zq.Perm (K ++ [x] ++ Z')) := by
            have h2 := HPQ.out.trans (hpx.append_left K)
            unfold Hid
            simpa using h2
          have HMS : Hid (Z'.length < Zr.length) := by have := hpx.length_eq; simp at this; unfold Hid; omega
          clear hR hbb hfr hz1 ho1 ht1 hu1 hk1 hR1 hpm hpx
          have J0 := hide (Blk.new w1' #[.string x.1.t.name, .slice x.2.1 x.1.t.args.length x.2.2] 28)
          have bA := hide ((Below.refl w1'.heap.size w1').alloc (Nat.le_refl _) (.cells #[.string x.1.t.name, .slice x.2.1 x.1.t.args.length x.2.2] 28))
          generalize hw6 : w1'.alloc (.cells #[.string x.1.t.name, .slice x.2.1 x.1.t.args.length x.2.2] 28) = w6 at *
          have HBB2 := hide (HBB1.out.trans (bA.out.mono HBB1.out.size))
          have HFR2 : Hid (∀ b, b < I → b ≠ w3.heap.size → w6.heap[b]? = w5.heap[b]?) := fun b h1 h2 => (bA.out.block b (by omega)).trans (HFR1.out b h1 h2)
          have HMB2 := hide (HMB1.out.below bA.out (by omega))
          have HR2 := hide (HR1.out.below bA.out (by omega) hI1)
          have hI2 : I < w6.heap.size := by have := bA.out.size; omega
          cases hf : forT ls x.1.nm with
          | none =>
            have hno : mapGet (Zb.map toP) x.1.nm = none := mapGet_no fun y hy e => by
              rcases List.mem_append.1 (HPB.out.subset hy) with h1 | h1
              · have h2 : y.1 ∈ ls.map (fB rs) := by rw [← HZL.out]; exact List.mem_map.2 ⟨y, h1, rfl⟩
                obtain ⟨d, hd, e2⟩ := List.mem_map.1 h2
                obtain ⟨t, ht⟩ := forT_some_of hd
                have e3 : d.nm = x.1.nm := by rw [← e, ← e2]; rfl
                rw [e3, hf] at ht; cases ht
              · have h2 := HAQ.out.perm ((HPQ1.out.map (·.1)).symm)
                rw [List.map_append, List.map_append] at h2
                have h3 := (List.pairwise_append.1 (List.pairwise_append.1 h2).1).2.2 y.1 (List.mem_map.2 ⟨y, (List.mem_filter.1 h1).1, rfl⟩) x.1 (by simp)
                exact h3 e
            have hlk : (Instr.lookup 63 (.map (some w3.heap.size)) (.string x.1.nm) true).run Try.prog w6 = .ok (.tuple #[.agg #[.string ⟨#[]⟩, .slice none 0 0], .bool false]) w6 := by
              rw [run_look (P := Try.prog) Try.underlying63 Try.underlying9 (hz _) HMB2.out x.1.nm, hno]; rfl
            have bB := hide ((Below.refl w6.heap.size w6).alloc (Nat.le_refl _) (.cells #[.string ⟨#[]⟩, .slice none 0 0] 28))
            have J1 := hide (J0.out.alloc (.cells #[.string ⟨#[]⟩, .slice none 0 0] 28))
            have HMB3 := hide (HMB2.out.below bB.out (by omega))
            have HR3 := hide (HR2.out.below bB.out (by omega) hI2)
            have HBB3 := hide (HBB2.out.trans (bB.out.mono HBB2.out.size))
            have j0 := J1.out.cell 0
            have j1 := J1.out.cell 1
            have hF3 : ∀ b, b < I → b ≠ w3.heap.size → (w6.alloc (.cells #[.string ⟨#[]⟩, .slice none 0 0] 28)).heap[b]? = w5.heap[b]? := fun b h1 h2 => (bB.out.block b (by omega)).trans (HFR2.out b h1 h2)
            have HF3 := hide hF3
            clear hF3
            obtain ⟨w8, hrun, hM8, hz8, ho8, ht8, hu8, hk8⟩ := run_put (P := Try.prog) Try.underlying63 Try.underlying9 HMB3.out x.1.nm (.agg #[.string x.1.t.name, .slice x.2.1 x.1.t.args.length x.2.2]) hno
            have HM8 : Hid (MapAt w8 w3.heap.size ((Zb ++ [x]).map toP)) := by unfold Hid; rw [List.map_append]; exact hM8
            have HB8 : Hid (Below w3.heap.size w3 w8) := ⟨ho8.trans HBB3.out.os, ht8.trans HBB3.out.tape, hu8.trans HBB3.out.output, by rw [hz8]; exact HBB3.out.size, fun j hj => (hk8 j (by omega)).trans (HBB3.out.block j hj)⟩
            have HF8 : Hid (∀ b, b < I → b ≠ w3.heap.size → w8.heap[b]? = w5.heap[b]?) := fun b h1 h2 => (hk8 b h2).trans (HF3.out b h1 h2)
            have HR8 := hide (HR3.out.kept (w' := w8) (hk8 q (by omega)) (hk8 I (by omega)))
            have HP8 : Hid ((Zb ++ [x]).Perm (Z ++ (K ++ [x]).filter fun x => (forT ls x.1.nm).isNone)) := by
              unfold Hid
              rw [List.filter_append, List.filter_cons_of_pos (by rw [hf]; rfl), List.filter_nil, ← List.append_assoc]
              exact HPB.out.append_right [x]
            have HA8 : Hid (ApartB ((Zb ++ [x]).map (·.1))) := by
              unfold Hid
              rw [List.map_append]
              refine List.pairwise_append.2 ⟨HAB.out, by simp, fun a ha b hb e => ?_⟩
              obtain ⟨y, hy, rfl⟩ := List.mem_map.1 ha
              have eb : b = x.1 := by simpa using hb
              rw [eb] at e
              have h2 := mapGet_toP HAB.out y hy
              rw [e, hno] at h2
              cases h2
            clear hM8 hz8 ho8 ht8 hu8 hk8 hf hno
            go_wp2_with fail
            go_roundw
            case rel => exact ⟨Z', K ++ [x], Zb ++ [x], HR8.out, HPQ1.out, HM8.out, HP8.out, HA8.out, HB8.out, HF8.out⟩
            case measure =>
              rw [HR8.out.left, HR.out.left]
              have := HMS.out
              simpa using this
          | some t0 =>
            obtain ⟨d, hd, hn, _⟩ := forT_mem hf
            have h2 : fB rs d ∈ Z.map (·.1) := by rw [HZL.out]; exact List.mem_map.2 ⟨d, hd, rfl⟩
            obtain ⟨y, hy, ey⟩ := List.mem_map.1 h2
            have hyb : y ∈ Zb := HPB.out.symm.subset (by simp [hy])
            have hyn : y.1.nm = x.1.nm := by rw [ey]; exact hn
            have hsome := mapGet_toP HAB.out y hyb
            rw [hyn] at hsome
            have hlk : (Instr.lookup 63 (.map (some w3.heap.size)) (.string x.1.nm) true).run Try.prog w6 = .ok (.tuple #[.agg #[.string y.1.t.name, .slice y.2.1 y.1.t.args.length y.2.2], .bool true]) w6 := by
              rw [run_look (P := Try.prog) Try.underlying63 Try.underlying9 (hz _) HMB2.out x.1.nm, hsome]; rfl
            have bB := hide ((Below.refl w6.heap.size w6).alloc (Nat.le_refl _) (.cells #[.string y.1.t.name, .slice y.2.1 y.1.t.args.length y.2.2] 28))
            have HMB3 := hide (HMB2.out.below bB.out (by omega))
            have HR3 := hide (HR2.out.below bB.out (by omega) hI2)
            have HBB3 := hide (HBB2.out.trans (bB.out.mono HBB2.out.size))
            have HF3 : Hid (∀ b, b < I → b ≠ w3.heap.size → (w6.alloc (.cells #[.string y.1.t.name, .slice y.2.1 y.1.t.args.length y.2.2] 28)).heap[b]? = w5.heap[b]?) := fun b h1 h2 => (bB.out.block b (by omega)).trans (HFR2.out b h1 h2)
            have HP8 : Hid (Zb.Perm (Z ++ (K ++ [x]).filter fun x => (forT ls x.1.nm).isNone)) := by
              unfold Hid
              rw [List.filter_append, List.filter_cons_of_neg (by rw [hf]; simp), List.filter_nil, List.append_nil]
              exact HPB.out
            clear hd hn h2 hy ey hyb hyn hsome hf
            go_wp2_with fail
            go_roundw
            case rel => exact ⟨Z', K ++ [x], Zb, HR3.out, HPQ1.out, HMB3.out, HP8.out, HAB.out, HBB3.out, HF3.out⟩
            case measure =>
              rw [HR3.out.left, HR.out.left]
              have := HMS.out
              simpa using this
#print axioms then_of
/-- Then. -/
theorem then_any (ls rs : List Bd) (u v : Value) (w : World) (X : Nat → Prop) (hu : BV w X u ls) (hv : BV w X v rs) :
    Calls Try.prog 10 #[u, v] w fun e w' => ThPost w ls rs e w' := then_of (hide sortBinds) ls rs u v w X hu hv
end Go.Proofs.Ytkfppicbningaaa
