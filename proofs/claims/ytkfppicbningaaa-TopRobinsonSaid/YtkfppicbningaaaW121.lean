/- Walks: the law on what makes terms one: it answers true. -/
import Derived.Test.YtkfppicbningaaaRbP
import Derived.Test.YtkfppicbningaaaW53
import Derived.Test.YtkfppicbningaaaZTopRobinsonOwn
import Derived.Test.YtkfppicbningaaaQRow
import Derived.Test.YtkfppicbningaaaW114
import Derived.Test.YtkfppicbningaaaW68
import Derived.Test.YtkfppicbningaaaZBTopRobinsonOwn
namespace Go.Proofs.Ytkfppicbningaaa
open Go.RowKit
set_option linter.unusedSimpArgs false
set_option linter.unusedVariables false
set_option maxRecDepth 8000

theorem bv_single (w : World) (N B : Nat) (n s : ByteArray) (T : Nat) (h : Blk w B #[.string n, .string s, .slice none 0 0] T) (hN : N ≤ B) : BV w (fun b => N ≤ b) (.slice (some ⟨B, 0, none⟩) 1 1) [⟨n, ⟨s, []⟩⟩] := by
  refine ⟨some ⟨B, 0, none⟩, 1, rfl, by simp, Or.inr ⟨B, 0, rfl, hN, fun i hi => ?_⟩⟩
  have e : i = 0 := by simp at hi; omega
  subst e
  exact ⟨h.cell 0, h.cell 1, none, 0, h.cell 2, by simp, Or.inl rfl⟩
/-- An append whose outcome is known, at a step of a region that draws its order. -/
theorem stepA_eq {P : Program} {ops : Array Oper} {o : Oper} {a : Act} {K : Act → World → Prop} {Q : Exit → Act → World → Prop} {E : Prop} {w w' : World} {v u v' : Value} (hgd : o.guard = none) (s x : Operand) (t t' : TypeId)
    (ho : o.op = .call { callee := .builtin .append, args := #[s, x], argTypes := #[t, t'] }) (hs : a.eval s = v) (hx : a.eval x = u)
    (hr : (Builtin.append_ #[t, t'] o.type #[v, u]).run P w = .ok v' w') (h : K (a.put o.dst v') w') : if Region.wanted o (yielded ops a.tmps) = true then Oper.wp P o a w K Q else E := by
  have hw : Region.wanted o (yielded ops a.tmps) = true := by simp [Region.wanted, hgd]
  rw [if_pos hw]
  unfold Oper.wp execOp
  simp only [ho, resolve, invoke, builtin, Sem.run_bind, Sem.run_pure, Result.andThen_ok, List.map_toArray, List.map_cons, List.map_nil, hs, hx, hr]
  exact h

theorem cell_bind_new (w : World) (a b c : Value) (T : Nat) : ∀ j u, ([a, b, c] : List Value)[j]? = some u → (w.alloc (.cells #[a, b, c] T)).cell? ((⟨w.heap.size, 0, none⟩ : Addr).add j) = some u := fun j u h => by
  have hb := Blk.new w #[a, b, c] T
  have h1 : (⟨w.heap.size, 0, none⟩ : Addr).add j = ⟨w.heap.size, j, none⟩ := by
    by_cases h0 : j = 0
    · subst h0; simp [Addr.add]
    · simp [Addr.add, h0]
  rw [h1, hb.cell j]
  simpa using h
theorem rbinds_append {w w1 w2 : World} {N : Nat} {Y : Nat → Prop} {v : Value} {cs : List Bc} (h : BRow w N Y v cs) (hN : N ≤ w.heap.size) (hY : ∀ b, Y b → b < N) (hb : Below w.heap.size w w1) (x : Bc) (ht : Sl w1 (fun b => Y b ∨ w.heap.size ≤ b) x.2.1 x.1.t.args) (hn : cs.length ≤ 1000000) (A : Nat) (hA : w1.heap.size = A) (hw2 : w2 = w1.alloc (.cells #[.string x.1.nm, .string x.1.t.name, .slice x.2.1 x.1.t.args.length x.2.2] 50)) :
    ∃ v2 w3, (Builtin.append_ #[24, 24] 24 #[v, .slice (some ⟨A, 0, none⟩) 1 1]).run Try.prog w2 = .ok v2 w3 ∧ BRow w3 N Y v2 (cs ++ [x]) ∧ w2.grownBy w3 v.ownBlock := by
  subst hA
  subst hw2
  obtain ⟨i0, hi, hz0, hz1, hz2⟩ := info_parts Try.infoBind
  have hbs := hb.size
  obtain ⟨g, cap, w3, hr, ho, hg, hat, hlt⟩ := run_append_lies (P := Try.prog) (w := w1.alloc (.cells #[.string x.1.nm, .string x.1.t.name, .slice x.2.1 x.1.t.args.length x.2.2] 50)) 24 24 N 50 i0 _ 3 56 Try.underlying24 hi hz0 hz1 hz2 rfl (by decide) v cs.length (flat3 cs) ((h.below hb).own.alloc _)
    ⟨w1.heap.size, 0, none⟩ 1 1 (enc3 x) rfl (cell_bind_new _ _ _ _ _) (fun y hy => by simp [enc3] at hy; rcases hy with rfl | rfl | rfl <;> rfl) (by decide) (by unfold maxLen; omega) (by omega) (by simp; omega) _ rfl
  exact ⟨_, w3, hr, h.push hN hY hb ht _ rfl ho hg hat, hg⟩
theorem xyz_at (k : Nat) (h : k < 3) : ∃ s, ([xN, yN, zN] : List ByteArray)[k]? = some s ∧ [xN, yN, zN].take (k + 1) = [xN, yN, zN].take k ++ [s] := by
  match k, h with
  | 0, _ => exact ⟨_, rfl, rfl⟩
  | 1, _ => exact ⟨_, rfl, rfl⟩
  | 2, _ => exact ⟨_, rfl, rfl⟩
theorem tdiv3 (y : Int) (h : Rng y) : -9223372036854775808 ≤ y.tdiv 3 ∧ y.tdiv 3 ≤ 9223372036854775807 := by
  obtain ⟨h3, h4⟩ := h
  have h5 : y.natAbs ≤ 9223372036854775808 := by omega
  have h6 : (y.tdiv 3).natAbs ≤ 9223372036854775808 / 3 := by
    rw [Int.natAbs_tdiv]
    exact Nat.div_le_div_right h5
  generalize y.tdiv 3 = z at *
  have h7 : z.natAbs ≤ 3074457345618258602 := h6
  omega
theorem bv_drop {w : World} {X : Nat → Prop} {a : Option Addr} {c : Nat} {l : List Bd} (h : BV w X (.slice a l.length c) l) (k : Nat) (hk : k < l.length) : BV w X (.slice (Option.map (fun x : Addr => x.add (k * 3)) a) (l.length - k) (c - k)) (l.drop k) := by
  obtain ⟨a', c', e, ⟨hl1, hl2⟩, hq⟩ := h
  simp at e
  obtain ⟨rfl, rfl⟩ := e
  refine ⟨_, c - k, by rw [List.length_drop], ⟨by rw [List.length_drop]; omega, by rw [List.length_drop]; omega⟩, ?_⟩
  rcases hq with hq | ⟨b, o, rfl, hX, hq⟩
  · rw [hq] at hk; simp at hk
  · refine Or.inr ⟨b, o + k * 3, ?_, hX, fun i hi => ?_⟩
    · by_cases h0 : k = 0
      · subst h0; simp [Addr.add]
      · have h3 : ¬ k * 3 = 0 := by omega
        simp [Addr.add, h3]
    · rw [List.length_drop] at hi
      have h7 := hq (k + i) (by omega)
      rw [show o + (k + i) * 3 = o + k * 3 + i * 3 by omega] at h7
      simpa [List.getElem_drop] using h7
theorem onAll_one (ls : List Bd) (t : Tm) (u v : Value) (w : World) (X : Nat → Prop) (hu : BV w X u ls) (hv : TV w X v t) (hsm : sizeL [t] ≤ 1000000) :
    Calls Try.prog 16 #[u, v] w fun e w' => ∃ (t' : Tm) (a : Option Addr) (c : Nat) (ok : Bool), e = .returned (.tuple #[.agg #[.string t'.name, .slice a t'.args.length c], .bool ok]) ∧ Below w.heap.size w w' ∧ (ok = true → t' = onT ls t) ∧ (sizeL [onT ls t] ≤ 2000 → ok = true) ∧ Sl w' (fun b => (X b ∧ b < w.heap.size) ∨ w.heap.size ≤ b) a t'.args := by
  refine (onAll_any ls t u v w X hu hv hsm).mono ?_
  rintro e w' ⟨hb, ⟨h1, rfl⟩ | ⟨h1, a, c, rfl, hs⟩⟩
  · exact ⟨⟨⟨#[]⟩, []⟩, none, 0, false, rfl, hb, by simp, fun h => absurd h (by omega), ⟨by simp, Or.inl rfl⟩⟩
  · exact ⟨onT ls t, a, c, true, rfl, hb, fun _ => rfl, fun _ => rfl, hs⟩
theorem pairsE_mk {ls : List Pr} (hl : ls.length ≤ 40) (h : ∀ p ∈ ls, mayE p.l = 0 ∧ mayE p.r = 0) : pairsE ls = 0 := by
  unfold pairsE
  rw [if_neg (by omega)]
  have key : ∀ k, pmT ls k = 0 := fun k => by
    induction k with
    | zero => rfl
    | succ k ih =>
      rw [pmT, if_pos ih]
      cases hk : ls[k]? with
      | none => rfl
      | some p =>
        have hp := List.mem_of_getElem? hk
        show twoE p.l p.r = 0
        unfold twoE
        rw [if_pos (h p hp).1]
        exact (h p hp).2
  exact key _
theorem apply_small {R : List Bd} (hE : bindsE R = 0) {t : Tm} (hm : mayE t = 0) (hz : sizeL [onT R t] ≤ 2000) (u v : Value) (w : World) (X : Nat → Prop) (hu : BV w X u R) (hv : TV w X v t) :
    Calls Try.prog 11 #[u, v] w fun e w' => ∃ a' c', e = .returned (.tuple #[.agg #[.string (onT R t).name, .slice a' (onT R t).args.length c'], .int .i64 0]) ∧ Sl w' (fun _ => True) a' (onT R t).args ∧ Below w.heap.size w w' := by
  refine (apply_on R t u v w X hu hv).mono ?_
  rintro e w' ⟨hb, ⟨h, _⟩ | ⟨_, h, _⟩ | ⟨_, _, ⟨_, a', c', rfl, hs'⟩ | ⟨h, _⟩⟩⟩
  · exact absurd hE h
  · exact absurd hm h
  · rw [fT_onT hE t hm] at hs' ⊢
    exact ⟨a', c', rfl, hs'.mono fun _ _ _ => trivial, hb⟩
  · rw [fT_onT hE t hm] at h
    omega
theorem on_small (ls : List Bd) (t : Tm) (u v : Value) (w : World) (X : Nat → Prop) (hu : BV w X u ls) (hv : TV w X v t) (hsm : sizeL [t] ≤ 1000000) (hz : sizeL [onT ls t] ≤ 2000) :
    Calls Try.prog 16 #[u, v] w fun e w' => ∃ a c, e = .returned (.tuple #[.agg #[.string (onT ls t).name, .slice a (onT ls t).args.length c], .bool true]) ∧ Sl w' (fun _ => True) a (onT ls t).args ∧ Below w.heap.size w w' := by
  refine (onAll_any ls t u v w X hu hv hsm).mono ?_
  rintro e w' ⟨hb, ⟨h1, _⟩ | ⟨h1, a, c, rfl, hs⟩⟩
  · omega
  · exact ⟨a, c, rfl, hs.mono fun _ _ _ => trivial, hb⟩
/-- So many pairs are looked at. -/
def R3Inv (w : World) (lsP : List Pr) (R s : List Bd) (lv mv sv : Value) (i : Value) (wr : World) : Prop :=
  ∃ j : Nat, j ≤ lsP.length ∧ i = .int .i64 (j : Int) ∧ QV wr (fun _ => True) lv lsP ∧ BV wr (fun _ => True) mv R ∧ BV wr (fun _ => True) sv s ∧ Below w.heap.size w wr
/-- So many names are looked at. -/
def R4Inv (w : World) (NB : Nat) (R s : List Bd) (mv sv : Value) (i : Value) (wr : World) : Prop :=
  ∃ j : Nat, j ≤ 4 ∧ i = .int .i64 (j : Int) ∧ Blk wr NB #[.string ⟨#[88]⟩, .string ⟨#[89]⟩, .string ⟨#[90]⟩, .string ⟨#[85]⟩] 9 ∧ BV wr (fun _ => True) mv R ∧ BV wr (fun _ => True) sv s ∧ Below w.heap.size w wr
theorem name_at (j : Nat) (h : j < 4) : ∃ n ∈ [xN, yN, zN, uN], (#[.string ⟨#[88]⟩, .string ⟨#[89]⟩, .string ⟨#[90]⟩, .string ⟨#[85]⟩] : Array Value)[j]? = some (.string n) := by
  match j, h with
  | 0, _ => exact ⟨xN, by simp, rfl⟩
  | 1, _ => exact ⟨yN, by simp, rfl⟩
  | 2, _ => exact ⟨zN, by simp, rfl⟩
  | 3, _ => exact ⟨uN, by simp, rfl⟩
/-- Of the pairs, so many are made. -/
def RlInv (w : World) (N : Nat) (s : List Bd) (sv : Value) (kk : Nat) (l i : Value) (wr : World) : Prop :=
  ∃ (k : Nat) (cs : List Pc), k ≤ 3 ∧ i = .int .i64 (k : Int) ∧ cs.length = k ∧ N ≤ wr.heap.size ∧ QRow wr N (fun b => b < N) l cs ∧ BV wr (fun b => b < N) sv s ∧ (∀ x ∈ cs, RbPair s kk x.1) ∧ Below w.heap.size w wr
/-- Of the three, so many are made. -/
def RsInv (w : World) (s i : Value) (wr : World) : Prop :=
  ∃ (k : Nat) (cs : List Bc), k ≤ 3 ∧ i = .int .i64 (k : Int) ∧ BRow wr w.heap.size (fun _ => False) s cs ∧ (cs.map fun x => x.1.nm) = [xN, yN, zN].take k ∧ (∀ x ∈ cs, OnlyU x.1.t ∧ sizeL [x.1.t] ≤ 11) ∧ Below w.heap.size w wr

set_option maxHeartbeats 20000000 in
theorem topRobinson_any (FA : Hid (∀ w, Calls Try.prog 23 #[] w fun e w' => e = .returned (.bool true) ∧ Below w.heap.size w w')) (zs : List Int) (hr : ∀ z ∈ zs, Rng z) (y1 : Int) (hy1 : Rng y1) (y2 : Int) (hy2 : Rng y2) (u : Value) (w : World) (X : Nat → Prop) (hu : PV w X u zs) :
    Calls Try.prog 5 #[u, .int .i64 y1, .int .i64 y2] w fun e w' => e = .returned (.bool true) ∧ Below w.heap.size w w' := by
  have HU := hide hu
  obtain ⟨a, c, rfl, hlc, hu2⟩ := hu
  clear hu2
  by_cases h256 : 256 < zs.length
  · go_enter Try.func5, Try.ntmps5
    go_wp2_with fail
    go_ret
    exact ⟨rfl, Below.refl _ _⟩
  · go_enter Try.func5, Try.ntmps5
    go_wp2_with fail
    go_loopw [7, 8] (fun s i wr => RsInv w s i wr) (fun s i wr => 3 - (intOf i).toNat)
    case atStart => exact ⟨0, [], by omega, rfl, BRow.start _ _ _, by simp, by simp, Below.refl _ _⟩
    case round =>
      obtain ⟨k, cs, hk, rfl, hrow, hnm, hall, hb⟩ := hrel
      have HROW := hide hrow
      have HNM := hide hnm
      have HALL := hide hall
      have HB := hide hb
      clear hrow hnm hall hb
      by_cases hlt : k < 3
      · have hlt2 : (k : Int) < 3 := by omega
        have hw1 : IntKind.i64.wrap (9 * (k : Int)) = 9 * (k : Int) := by rw [IntKind.wrap_i64]; omega
        go_wp2_with fail
        refine (leaf_any _ _).mono ?_
        rintro e w1 ⟨rfl, hb1⟩
        have hbA : Below w1.heap.size w1 (w1.alloc (.cells #[.string ⟨#[88]⟩, .string ⟨#[85]⟩, .slice none 0 0] 50)) := (Below.refl _ _).alloc (Nat.le_refl _) _
        have V2 := hide (bv_single _ wr.heap.size _ _ _ _ (Blk.new w1 #[.string ⟨#[88]⟩, .string ⟨#[85]⟩, .slice none 0 0] 50) hb1.size)
        have hb2 := hb1.trans (hbA.mono hb1.size)
        have D2 := hide hb2
        have HB2 := hide (HB.out.trans (hb2.mono HB.out.size))
        clear hb1 hbA hb2
        go_wp2_with fail
        generalize w1.alloc (.cells #[.string ⟨#[88]⟩, .string ⟨#[85]⟩, .slice none 0 0] 50) = w2 at *
        have TO := termOfV_any 1 (by omega) (by omega) zs hr (by omega) 6 (9 * k) (.slice a zs.length c) w2 X (HU.out.later HB2.out) (by omega) (by simp [top]; omega)
        have e1 : ((9 * k : Nat) : Int) = 9 * (k : Int) := by omega
        rw [e1] at TO
        refine TO.mono ?_
        clear TO
        rintro e w3 ⟨t3, a3, c3, rfl, hs3, hz3, hb3, hok3⟩
        have D3 := hide (D2.out.trans (hb3.mono D2.out.size))
        have HB3 := hide (HB2.out.trans (hb3.mono HB2.out.size))
        have V3 := hide (V2.out.later hb3)
        have hz3' : sizeL [t3] ≤ 11 := by simpa [top] using hz3
        have S3 := hide hs3
        clear hb3 hs3 hz3
        go_wp2_with fail
        refine (onAll_any [⟨xN, ⟨uN, []⟩⟩] t3 _ _ w3 (fun b => wr.heap.size ≤ b) V3.out ⟨_, _, rfl, S3.out.mono fun b hb _ => Nat.le_trans D2.out.size hb⟩ (by omega)).mono ?_
        rintro e w4 ⟨hb4, ⟨h2000, rfl⟩ | ⟨h2000, a4, c4, rfl, hs4⟩⟩
        · have := size_u (r := t3) hz3'
          omega
        · have HOU := hide (onlyU_of hok3)
          have HSZ := hide (size_u (r := t3) hz3')
          generalize onT [⟨xN, ⟨uN, []⟩⟩] t3 = t4 at *
          have D4 := hide (D3.out.trans (hb4.mono D3.out.size))
          have HB4 := hide (HB3.out.trans (hb4.mono HB3.out.size))
          have S4 := hide (hs4.mono (Y := fun b => wr.heap.size ≤ b) fun b hb _ => by
            rcases hb with h | h
            · exact h.1
            · exact Nat.le_trans D3.out.size h)
          clear hb4 hs4 hok3
          obtain ⟨nm, hnk, hntk⟩ := xyz_at k hlt
          have hbB : Below w4.heap.size w4 ((w4.alloc (.cells #[.string t4.name, .slice a4 t4.args.length c4] 28)).alloc (.cells #[.string ⟨#[88]⟩, .string ⟨#[89]⟩, .string ⟨#[90]⟩] 9)).drew := (((Below.refl _ _).alloc (Nat.le_refl _) _).alloc (by simp) _).drew
          have P4 := Blk.new w4 #[.string t4.name, .slice a4 t4.args.length c4] 28
          have hS0 : (w4.alloc (.cells #[.string t4.name, .slice a4 t4.args.length c4] 28)).cell? ⟨w4.heap.size, 0, none⟩ = some (.string t4.name) ∧ (w4.alloc (.cells #[.string t4.name, .slice a4 t4.args.length c4] 28)).cell? ⟨w4.heap.size, 1, none⟩ = some (.slice a4 t4.args.length c4) := ⟨P4.cell 0, P4.cell 1⟩
          have HS0 := hide hS0
          have HKS : Hid (∀ o, ((w4.alloc (.cells #[.string t4.name, .slice a4 t4.args.length c4] 28)).alloc o).cell? ⟨w4.heap.size, 0, none⟩ = some (.string t4.name) ∧ ((w4.alloc (.cells #[.string t4.name, .slice a4 t4.args.length c4] 28)).alloc o).cell? ⟨w4.heap.size, 1, none⟩ = some (.slice a4 t4.args.length c4)) := fun o => ⟨(P4.alloc o).cell 0, (P4.alloc o).cell 1⟩
          have HKS2 : Hid (∀ o o2, (((w4.alloc (.cells #[.string t4.name, .slice a4 t4.args.length c4] 28)).alloc o).alloc o2).cell? ⟨w4.heap.size, 0, none⟩ = some (.string t4.name) ∧ (((w4.alloc (.cells #[.string t4.name, .slice a4 t4.args.length c4] 28)).alloc o).alloc o2).cell? ⟨w4.heap.size, 1, none⟩ = some (.slice a4 t4.args.length c4)) := fun o o2 => ⟨((P4.alloc o).alloc o2).cell 0, ((P4.alloc o).alloc o2).cell 1⟩
          have hn5 : ((w4.alloc (.cells #[.string t4.name, .slice a4 t4.args.length c4] 28)).alloc (.cells #[.string ⟨#[88]⟩, .string ⟨#[89]⟩, .string ⟨#[90]⟩] 9)).drew.cell? ⟨w4.heap.size + 1, k, none⟩ = some (.string nm) := by
            have h1 := (Blk.new (w4.alloc (.cells #[.string t4.name, .slice a4 t4.args.length c4] 28)) #[.string ⟨#[88]⟩, .string ⟨#[89]⟩, .string ⟨#[90]⟩] 9).cell k
            rw [World.size_alloc] at h1
            refine h1.trans ?_
            have h2 : (#[Value.string ⟨#[88]⟩, .string ⟨#[89]⟩, .string ⟨#[90]⟩] : Array Value) = (([xN, yN, zN] : List ByteArray).map Value.string).toArray := rfl
            rw [h2, List.getElem?_toArray, List.getElem?_map, hnk]
            rfl
          have hlenc : cs.length ≤ 1000000 := by
            have h := congrArg List.length HNM.out
            simp at h
            omega
          have hzA : ((w4.alloc (.cells #[.string t4.name, .slice a4 t4.args.length c4] 28)).alloc (.cells #[.string ⟨#[88]⟩, .string ⟨#[89]⟩, .string ⟨#[90]⟩] 9)).drew.heap.size = w4.heap.size + 1 + 1 := by simp
          obtain ⟨v6, w6, hrun, hrow6, hg6⟩ := rbinds_append (w2 := (((w4.alloc (.cells #[.string t4.name, .slice a4 t4.args.length c4] 28)).alloc (.cells #[.string ⟨#[88]⟩, .string ⟨#[89]⟩, .string ⟨#[90]⟩] 9)).alloc (.cells #[.string nm, .string t4.name, .slice a4 t4.args.length c4] 50)).drew) HROW.out HB.out.size (fun _ h => h.elim) (D4.out.trans (hbB.mono D4.out.size)) (⟨nm, t4⟩, a4, c4) ((S4.out.later hbB).mono fun b hb _ => Or.inr hb) hlenc (w4.heap.size + 1 + 1) hzA rfl
          have HRUN := hide hrun
          have HROW6 := hide hrow6
          have hltr := HROW.out.own.lt
          have HB6 : Hid (Below w.heap.size w w6) := ((((HB4.out.alloc HB4.out.size _).alloc (by have := HB4.out.size; simp; omega) _).alloc (by have := HB4.out.size; simp; omega) _).drew).grown hg6 (by have := HB4.out.size; simp; omega) (fun j hj => (hltr j hj).1)
          have HS6 : Hid (w6.cell? ⟨w4.heap.size, 0, none⟩ = some (.string t4.name) ∧ w6.cell? ⟨w4.heap.size, 1, none⟩ = some (.slice a4 t4.args.length c4)) := by
            have h1 : Blk w6 w4.heap.size #[.string t4.name, .slice a4 t4.args.length c4] 28 := (((P4.alloc _).alloc _).drewN 1).grown hg6 (fun e => by have := (hltr _ e.symm).2; have := D4.out.size; omega)
            exact ⟨h1.cell 0, h1.cell 1⟩
          have HNM6 : Hid (((cs ++ [((⟨nm, t4⟩, a4, c4) : Bc)]).map fun x : Bc => x.1.nm) = [xN, yN, zN].take (k + 1)) := by
            unfold Hid
            rw [hntk, List.map_append, HNM.out]
            rfl
          have HALL6 : Hid (∀ x ∈ cs ++ [((⟨nm, t4⟩, a4, c4) : Bc)], OnlyU x.1.t ∧ sizeL [x.1.t] ≤ 11) := fun x hx => by
            rcases List.mem_append.1 hx with hx | hx
            · exact HALL.out x hx
            · have e : x = (⟨nm, t4⟩, a4, c4) := by simpa using hx
              subst e
              exact ⟨HOU.out, HSZ.out⟩
          clear hrun hrow6 hg6 hltr hnk hntk hbB hS0 P4
          go_wp2_with fail
          refine wp_region_held_drew (S := (fun w' => w'.cell? ⟨w4.heap.size, 0, none⟩ = some (.string t4.name) ∧ w'.cell? ⟨w4.heap.size, 1, none⟩ = some (.slice a4 t4.args.length c4))) (by kernel_rfl) HS0.out (fun hHeld => ?_)
          refine wpAnyH_take (i := 0) (v := ?_) rfl (by kernel_rfl) (by kernel_rfl) (by kernel_rfl) (fun _ _ _ h => h) (Or.inl ⟨by rfl, ?_⟩) (by assumption) ?_
          rotate_left
          · intro w' hSw
            obtain ⟨k1, k2⟩ := hSw
            go_simp <;> with_reducible rfl
          try simp only [Act.put, List.setIfInBounds_toArray, List.set_cons_zero, List.set_cons_succ, List.getElem_toArray, List.getElem_cons_succ, List.getElem_cons_zero]
          refine wpAnyH_take (i := 2) (v := ?_) rfl (by kernel_rfl) (by kernel_rfl) (by kernel_rfl) (fun _ _ _ h => h) (Or.inl ⟨by rfl, ?_⟩) (by assumption) ?_
          rotate_left
          · intro w' hSw
            obtain ⟨k1, k2⟩ := hSw
            go_simp <;> with_reducible rfl
          try simp only [Act.put, List.setIfInBounds_toArray, List.set_cons_zero, List.set_cons_succ, List.getElem_toArray, List.getElem_cons_succ, List.getElem_cons_zero]
          refine wpAnyH_take (i := 5) (v := ?_) rfl (by kernel_rfl) (by kernel_rfl) (by kernel_rfl) (fun _ _ _ h => h) (Or.inl ⟨by rfl, ?_⟩) (by assumption) ?_
          rotate_left
          · intro w' hSw
            obtain ⟨k1, k2⟩ := hSw
            go_simp <;> with_reducible rfl
          try simp only [Act.put, List.setIfInBounds_toArray, List.set_cons_zero, List.set_cons_succ, List.getElem_toArray, List.getElem_cons_succ, List.getElem_cons_zero]
          refine wpAnyH_ready (rs := [1]) (by kernel_rfl) (by simp) ?_
          refine AllReadyH.cons rfl (fun K hK => ?_) AllReadyH.nil
          · go_simp
            refine hK.out _ _ (by exact HKS.out _) (fun hHeld => ?_)
            clear hK K
            try simp only [Act.put, List.setIfInBounds_toArray, List.set_cons_zero, List.set_cons_succ, List.getElem_toArray, List.getElem_cons_succ, List.getElem_cons_zero]
            refine wpAnyH_take (i := 3) (v := ?_) rfl (by kernel_rfl) (by kernel_rfl) (by kernel_rfl) (fun _ _ _ h => h) (Or.inl ⟨by rfl, ?_⟩) (by assumption) ?_
            rotate_left
            · intro w' hSw
              obtain ⟨k1, k2⟩ := hSw
              go_simp <;> with_reducible rfl
            try simp only [Act.put, List.setIfInBounds_toArray, List.set_cons_zero, List.set_cons_succ, List.getElem_toArray, List.getElem_cons_succ, List.getElem_cons_zero]
            refine wpAnyH_ready (rs := [4]) (by kernel_rfl) (by simp) ?_
            refine AllReadyH.cons rfl (fun K hK => ?_) AllReadyH.nil
            · go_simp
              refine hK.out _ _ (by exact HKS.out _) (fun hHeld => ?_)
              clear hK K
              try simp only [Act.put, List.setIfInBounds_toArray, List.set_cons_zero, List.set_cons_succ, List.getElem_toArray, List.getElem_cons_succ, List.getElem_cons_zero]
              refine wpAnyH_take (i := 6) (v := ?_) rfl (by kernel_rfl) (by kernel_rfl) (by kernel_rfl) (fun _ _ _ h => h) (Or.inl ⟨by rfl, ?_⟩) (by assumption) ?_
              rotate_left
              · intro w' hSw
                obtain ⟨k1, k2⟩ := hSw
                go_simp <;> with_reducible rfl
              try simp only [Act.put, List.setIfInBounds_toArray, List.set_cons_zero, List.set_cons_succ, List.getElem_toArray, List.getElem_cons_succ, List.getElem_cons_zero]
              refine wpAnyH_ready (rs := [7]) (by kernel_rfl) (by simp) ?_
              refine AllReadyH.cons rfl (fun K hK => ?_) AllReadyH.nil
              · go_simp
                refine hK.out _ _ (by exact HKS2.out _ _) (fun hHeld => ?_)
                clear hK K
                try simp only [Act.put, List.setIfInBounds_toArray, List.set_cons_zero, List.set_cons_succ, List.getElem_toArray, List.getElem_cons_succ, List.getElem_cons_zero]
                refine wpAnyH_ready (rs := [8]) (by kernel_rfl) (by simp) ?_
                refine AllReadyH.cons rfl (fun K hK => ?_) AllReadyH.nil
                · refine stepA_eq rfl _ _ _ _ rfl rfl rfl HRUN.out ?_
                  refine hK.out _ _ (by exact HS6.out) (fun hHeld => ?_)
                  clear hK K
                  try simp only [Act.put, List.setIfInBounds_toArray, List.set_cons_zero, List.set_cons_succ, List.getElem_toArray, List.getElem_cons_succ, List.getElem_cons_zero]
                  refine wpAnyH_take (i := 9) (v := ?_) rfl (by kernel_rfl) (by kernel_rfl) (by kernel_rfl) (fun _ _ _ h => h) (Or.inl ⟨by rfl, ?_⟩) (by assumption) ?_
                  rotate_left
                  · intro w' hSw
                    obtain ⟨k1, k2⟩ := hSw
                    go_simp <;> with_reducible rfl
                  try simp only [Act.put, List.setIfInBounds_toArray, List.set_cons_zero, List.set_cons_succ, List.getElem_toArray, List.getElem_cons_succ, List.getElem_cons_zero]
                  refine wpAnyH_done (by kernel_rfl) ?_ _
                  clear HS0 HKS HKS2
                  go_wp2_with fail
                  go_roundw
                  case rel => exact ⟨k + 1, _, by omega, by go_num, HROW6.out, HNM6.out, HALL6.out, HB6.out⟩
                  case measure => simp [intOf]; omega
      · have HSX : Hid (Sxyz (cs.map (·.1))) := by
          refine ⟨?_, fun d hd => ?_⟩
          · have h := HNM.out
            rw [List.take_of_length_le (by simp; omega)] at h
            rw [List.map_map]
            exact h
          · obtain ⟨x, hx, rfl⟩ := List.mem_map.1 hd
            exact HALL.out x hx
        have HSV := hide HROW.out.bv
        have HWR := hide HB.out
        clear HROW HNM HALL
        have hkk : pickN (y1.tdiv 3) 3 < 3 := pickN_lt _ _ (by decide)
        generalize hsd : cs.map (·.1) = sB at *
        have hsl : sB.length = 3 := by
          have h := congrArg List.length HSX.out.names
          simpa using h
        have hsv := HSV.out
        obtain ⟨a7, c7, rfl, ⟨hl7, hc7⟩, hcell7⟩ := hsv
        clear hcell7
        rw [hsl] at HSV
        rw [hsl]
        go_wp2_with fail
        go_loopw [11, 12] (fun l i w9 => RlInv w wr.heap.size sB (.slice a7 3 c7) (pickN (y1.tdiv 3) 3) l i w9) (fun l i w9 => 4 - (intOf i).toNat)
        case atStart => exact ⟨0, [], by omega, rfl, rfl, Nat.le_refl _, QRow.start _ _ _, HSV.out.mono (fun b _ h => h), by simp, HB.out⟩
        case round =>
          obtain ⟨i9, cs9, hi9, rfl, hlen9, hN9, hrow9, hsv9, hall9, hb9⟩ := hrel
          have HROW9 := hide hrow9
          have HSV9 := hide hsv9
          have HALL9 := hide hall9
          have HB9 := hide hb9
          clear hrow9 hsv9 hall9 hb9 HSV HB
          have hw1 : IntKind.i64.wrap (20 * (i9 : Int)) = 20 * (i9 : Int) := by rw [IntKind.wrap_i64]; omega
          have hw2 : IntKind.i64.wrap (40 + 20 * (i9 : Int)) = 40 + 20 * (i9 : Int) := by rw [IntKind.wrap_i64]; omega
          have hkm : pickN y1 3 < 3 := pickN_lt _ _ (by decide)
          have hw3 : IntKind.i64.wrap (1 + (pickN y1 3 : Int)) = 1 + (pickN y1 3 : Int) := by rw [IntKind.wrap_i64]; omega
          go_wp2_with fail
          refine (pick_eq y1 3 (by decide) (by decide) hy1 _).mono ?_
          rintro e w10 ⟨rfl, rfl⟩
          by_cases hlt9 : i9 < 1 + pickN y1 3
          · have hlt9' : (i9 : Int) < 1 + (pickN y1 3 : Int) := by omega
            go_wp2_with fail
            refine (pick_any y2 9 (by decide) (by decide) hy2 _).mono ?_
            rintro e w11 ⟨k9, rfl, hk9, rfl⟩
            have hw4 : IntKind.i64.wrap (1 + (k9 : Int)) = 1 + (k9 : Int) := by rw [IntKind.wrap_i64]; omega
            have htop : top (1 + k9) ≤ 17 := by unfold top; split <;> omega
            have TO := termOfV_any 3 (by omega) (by omega) zs hr (by omega) (1 + k9) (40 + 20 * i9) (.slice a zs.length c) w11 X (HU.out.later HB9.out) (by omega) (by omega)
            have e1 : ((40 + 20 * i9 : Nat) : Int) = 40 + 20 * (i9 : Int) := by omega
            have e2 : ((1 + k9 : Nat) : Int) = 1 + (k9 : Int) := by omega
            rw [e1, e2] at TO
            have TOH := hide TO
            clear TO e1 e2
            go_wp2_with fail
            refine TOH.out.mono ?_
            rintro e w12 ⟨t12, a12, c12, rfl, hs12, hz12, hb12, hok12⟩
            have hbA : Below w12.heap.size w12 (w12.alloc (.cells #[.string t12.name, .slice a12 t12.args.length c12] 28)) := (Below.refl _ _).alloc (Nat.le_refl _) _
            have hb13 := hb12.trans (hbA.mono hb12.size)
            have D13 := hide hb13
            have HB13 := hide (HB9.out.trans (hb13.mono HB9.out.size))
            have HT13 := hide (Blk.new w12 #[.string t12.name, .slice a12 t12.args.length c12] 28)
            have HS13 := hide (hs12.later hbA)
            have HV13 := hide (HSV9.out.later hb13)
            have hzt : sizeL [t12] ≤ 17 := by omega
            have t0 := HT13.out.cell 0
            have t1 := HT13.out.cell 1
            have hrg := tdiv3 y1 hy1
            have hwq : IntKind.i64.wrap (y1.tdiv 3) = y1.tdiv 3 := by rw [IntKind.wrap_i64]; omega
            clear hb12 hbA hb13 hs12 TOH
            have HS0 := hide (And.intro t0 t1)
            have PK := hide (fun w' : World => pick_eq (y1.tdiv 3) 3 (by decide) (by decide) hrg w')
            have hkI0 : (0 : Int) ≤ (pickN (y1.tdiv 3) 3 : Int) := by omega
            have hkI3 : (pickN (y1.tdiv 3) 3 : Int) ≤ (sB.length : Int) := by omega
            have hkI4 : (pickN (y1.tdiv 3) 3 : Int) ≤ 3 := by omega
            have hkI5 : (pickN (y1.tdiv 3) 3 : Int) ≤ (c7 : Int) := by omega
            have hkI6 : ¬ (3 : Int) < (pickN (y1.tdiv 3) 3 : Int) := by omega
            have hkN : pickN (y1.tdiv 3) 3 ≤ 3 := by omega
            have hsl3 : ∀ w', (Instr.slice 24 (.slice a7 3 c7) (some (.int .i64 (pickN (y1.tdiv 3) 3 : Int))) none none).run Try.prog w' = .ok (.slice (Option.map (fun x : Addr => x.add (pickN (y1.tdiv 3) 3 * 3)) a7) (3 - pickN (y1.tdiv 3) 3) (c7 - pickN (y1.tdiv 3) 3)) w' := fun w' => by
              rw [run_slice_l (P := Try.prog) (ht := Try.underlying24) (h0 := hkI0) (h1 := by simpa using hkI4)]
              have hne : ¬ c7 - pickN (y1.tdiv 3) 3 = 0 := by omega
              simp [go_sem, sliced, hne]
              intro h
              omega
            have ONH : Hid (∀ W, Below (w12.alloc (.cells #[.string t12.name, .slice a12 t12.args.length c12] 28)).heap.size (w12.alloc (.cells #[.string t12.name, .slice a12 t12.args.length c12] 28)) W → Calls Try.prog 16 #[.slice (Option.map (fun x : Addr => x.add (pickN (y1.tdiv 3) 3 * 3)) a7) (3 - pickN (y1.tdiv 3) 3) (c7 - pickN (y1.tdiv 3) 3), .agg #[.string t12.name, .slice a12 t12.args.length c12]] W fun e w' => ∃ (t' : Tm) (a : Option Addr) (c : Nat) (ok : Bool), e = .returned (.tuple #[.agg #[.string t'.name, .slice a t'.args.length c], .bool ok]) ∧ Below W.heap.size W w' ∧ (ok = true → t' = onT (sB.drop (pickN (y1.tdiv 3) 3)) t12) ∧ (sizeL [onT (sB.drop (pickN (y1.tdiv 3) 3)) t12] ≤ 2000 → ok = true) ∧ Sl w' (fun b => ((b < wr.heap.size ∨ w11.heap.size ≤ b) ∧ b < w12.heap.size + 1) ∨ W.heap.size ≤ b) a t'.args) := fun W hD => by
              have h0 := (HV13.out.mono (Y := fun b => (b < wr.heap.size ∨ w11.heap.size ≤ b) ∧ b < w12.heap.size + 1) fun b h1 h2 => ⟨Or.inl h1, by simpa using h2⟩).later hD
              rw [← hsl] at h0
              have h1 := bv_drop h0 (pickN (y1.tdiv 3) 3) (by omega)
              rw [hsl] at h1
              refine (onAll_one _ t12 _ _ _ (fun b => (b < wr.heap.size ∨ w11.heap.size ≤ b) ∧ b < w12.heap.size + 1) h1 ⟨_, _, rfl, ((HS13.out.mono (Y := fun b => w11.heap.size ≤ b ∧ b < w12.heap.size + 1) fun b h1 h2 => ⟨h1, by simpa using h2⟩).later hD).mono fun b hb _ => ⟨Or.inr hb.1, hb.2⟩⟩ (by omega)).mono ?_
              rintro e w' ⟨t', a', c', ok, rfl, h2, h3, h4, h5⟩
              exact ⟨t', a', c', ok, rfl, h2, h3, h4, h5.mono fun b hb _ => hb.imp (fun h => h.1) id⟩
            have D0 : Below (w12.alloc (.cells #[.string t12.name, .slice a12 t12.args.length c12] 28)).heap.size (w12.alloc (.cells #[.string t12.name, .slice a12 t12.args.length c12] 28)) (w12.alloc (.cells #[.string t12.name, .slice a12 t12.args.length c12] 28)).drew := (Below.refl _ _).drew
            have D1 : ∀ o, Below (w12.alloc (.cells #[.string t12.name, .slice a12 t12.args.length c12] 28)).heap.size (w12.alloc (.cells #[.string t12.name, .slice a12 t12.args.length c12] 28)) ((w12.alloc (.cells #[.string t12.name, .slice a12 t12.args.length c12] 28)).alloc o).drew := fun o => ((Below.refl _ _).alloc (Nat.le_refl _) _).drew
            have HD0 := hide D0
            have HD1 := hide D1
            have ONK : Hid (∀ w', Below (w12.alloc (.cells #[.string t12.name, .slice a12 t12.args.length c12] 28)).heap.size (w12.alloc (.cells #[.string t12.name, .slice a12 t12.args.length c12] 28)) w' → w'.cell? ⟨w12.heap.size, 0, none⟩ = some (.string t12.name) ∧ w'.cell? ⟨w12.heap.size, 1, none⟩ = some (.slice a12 t12.args.length c12)) := fun w' h => by
              have h2 : Blk w' w12.heap.size #[.string t12.name, .slice a12 t12.args.length c12] 28 := HT13.out.below h (by simp)
              exact ⟨h2.cell 0, h2.cell 1⟩
            have ZB : Hid (∀ w', Below ((w12.alloc (.cells #[.string t12.name, .slice a12 t12.args.length c12] 28)).alloc (.cells #[.string ⟨#[]⟩, .slice none 0 0] 28)).drew.heap.size ((w12.alloc (.cells #[.string t12.name, .slice a12 t12.args.length c12] 28)).alloc (.cells #[.string ⟨#[]⟩, .slice none 0 0] 28)).drew w' → Blk w' (w12.heap.size + 1) #[.string ⟨#[]⟩, .slice none 0 0] 28) := fun w' h => by
              have h2 := Blk.new (w12.alloc (.cells #[.string t12.name, .slice a12 t12.args.length c12] 28)) #[.string ⟨#[]⟩, .slice none 0 0] 28
              rw [World.size_alloc] at h2
              exact (h2.drewN 1).below h (by simp)
            clear D0 D1
            go_wp2_with fail
            go_region_held3 (fun w' => w'.cell? ⟨w12.heap.size, 0, none⟩ = some (.string t12.name) ∧ w'.cell? ⟨w12.heap.size, 1, none⟩ = some (.slice a12 t12.args.length c12)) (first | exact HS0.out | exact hS15 | exact ONK.out _ (HD1.out _) | go_keep)
              (first
                | (go_at_call 7; refine (PK.out _).mono ?_; rintro e w14 ⟨rfl, rfl⟩)
                | (go_at_call 16; (first | refine (ONH.out _ HD0.out).mono ?_ | refine (ONH.out _ (HD1.out _)).mono ?_); rintro e w15 ⟨t15, a15, c15, ok15, rfl, hb15, hok15, hkk15, hs15⟩; have hb16 : Below (w12.alloc (.cells #[.string t12.name, .slice a12 t12.args.length c12] 28)).heap.size (w12.alloc (.cells #[.string t12.name, .slice a12 t12.args.length c12] 28)) w15 := (by first | exact HD0.out.trans (hb15.mono HD0.out.size) | exact (HD1.out _).trans (hb15.mono (HD1.out _).size)); have hS15 : w15.cell? ⟨w12.heap.size, 0, none⟩ = some (.string t12.name) ∧ w15.cell? ⟨w12.heap.size, 1, none⟩ = some (.slice a12 t12.args.length c12) := ONK.out w15 hb16; (try (have zB : Blk w15 (w12.heap.size + 1) #[.string ⟨#[]⟩, .slice none 0 0] 28 := ZB.out w15 hb15; have z0 := zB.cell 0; have z1 := zB.cell 1; have zf := zB.frozen))))
            all_goals
              have HFI : Hid (∀ W16, Below (w12.alloc (.cells #[.string t12.name, .slice a12 t12.args.length c12] 28)).heap.size (w12.alloc (.cells #[.string t12.name, .slice a12 t12.args.length c12] 28)) W16 → Sl W16 (fun b => ((b < wr.heap.size ∨ w11.heap.size ≤ b) ∧ b < w12.heap.size + 1) ∨ w12.heap.size + 1 ≤ b) a15 t15.args → Below w.heap.size w W16 ∧ Below w11.heap.size w11 W16 ∧ BV W16 (fun b => b < wr.heap.size) (.slice a7 3 c7) sB ∧ Sl W16 (fun b => w11.heap.size ≤ b) a12 t12.args ∧ Sl W16 (fun b => b < wr.heap.size ∨ w11.heap.size ≤ b) a15 t15.args ∧ Blk W16 w12.heap.size #[.string t12.name, .slice a12 t12.args.length c12] 28) := fun W16 h16 hs => by
                have hz := D13.out.size
                simp only [World.size_alloc] at hz
                refine ⟨HB13.out.trans (h16.mono HB13.out.size), D13.out.trans (h16.mono D13.out.size), HV13.out.later h16, HS13.out.later h16, hs.mono fun b hb _ => ?_, HT13.out.below h16 (by simp)⟩
                rcases hb with h | h
                · exact h.1
                · exact Or.inr (by omega)
              first
                | (have HA : Hid (Below (w12.alloc (.cells #[.string t12.name, .slice a12 t12.args.length c12] 28)).heap.size (w12.alloc (.cells #[.string t12.name, .slice a12 t12.args.length c12] 28)) (w15.alloc (.cells #[.string t15.name, .slice a15 t15.args.length c15] 28)) ∧ Blk (w15.alloc (.cells #[.string t15.name, .slice a15 t15.args.length c15] 28)) w15.heap.size #[.string t15.name, .slice a15 t15.args.length c15] 28 ∧ Sl (w15.alloc (.cells #[.string t15.name, .slice a15 t15.args.length c15] 28)) (fun b => ((b < wr.heap.size ∨ w11.heap.size ≤ b) ∧ b < w12.heap.size + 1) ∨ w12.heap.size + 1 ≤ b) a15 t15.args) := by
                    have hbA : Below w15.heap.size w15 (w15.alloc (.cells #[.string t15.name, .slice a15 t15.args.length c15] 28)) := (Below.refl _ _).alloc (Nat.le_refl _) _
                    exact ⟨hb16.trans (hbA.mono hb16.size), Blk.new w15 _ _, (hs15.mono fun b hb _ => hb.imp id fun h => by simpa using h).later hbA⟩
                   generalize (w15.alloc (.cells #[.string t15.name, .slice a15 t15.args.length c15] 28)) = W16 at *
                   generalize w15.heap.size = B16 at *
                   have HBK : Hid (Blk W16 B16 #[.string t15.name, .slice a15 t15.args.length c15] 28) := HA.out.2.1)
                | (have HA : Hid (Below (w12.alloc (.cells #[.string t12.name, .slice a12 t12.args.length c12] 28)).heap.size (w12.alloc (.cells #[.string t12.name, .slice a12 t12.args.length c12] 28)) ((w15.setCell ⟨w12.heap.size + 1, 0, none⟩ (.string t15.name)).setCell ⟨w12.heap.size + 1, 1, none⟩ (.slice a15 t15.args.length c15)) ∧ Blk ((w15.setCell ⟨w12.heap.size + 1, 0, none⟩ (.string t15.name)).setCell ⟨w12.heap.size + 1, 1, none⟩ (.slice a15 t15.args.length c15)) (w12.heap.size + 1) #[.string t15.name, .slice a15 t15.args.length c15] 28 ∧ Sl ((w15.setCell ⟨w12.heap.size + 1, 0, none⟩ (.string t15.name)).setCell ⟨w12.heap.size + 1, 1, none⟩ (.slice a15 t15.args.length c15)) (fun b => ((b < wr.heap.size ∨ w11.heap.size ≤ b) ∧ b < w12.heap.size + 1) ∨ w12.heap.size + 1 ≤ b) a15 t15.args) := by
                    have h3 := (zB.set 0 (.string t15.name)).set 1 (.slice a15 t15.args.length c15)
                    refine ⟨(hb16.setCell (by simp) _).setCell (by simp) _, by simpa using h3, (((hs15.mono (Y := fun b => b ≠ w12.heap.size + 1 ∧ (((b < wr.heap.size ∨ w11.heap.size ≤ b) ∧ b < w12.heap.size + 1) ∨ w12.heap.size + 1 ≤ b)) fun b hb _ => ?_).kept fun b hb => ?_)).mono fun b hb _ => hb.2⟩
                    · rcases hb with h | h
                      · exact ⟨by omega, Or.inl h⟩
                      · simp at h
                        exact ⟨by omega, Or.inr (by omega)⟩
                    · rw [Below.heap_setCell _ _ _ _ (by simpa using hb.1), Below.heap_setCell _ _ _ _ (by simpa using hb.1)]
                   generalize ((w15.setCell ⟨w12.heap.size + 1, 0, none⟩ (.string t15.name)).setCell ⟨w12.heap.size + 1, 1, none⟩ (.slice a15 t15.args.length c15)) = W16 at *
                   obtain ⟨B16, hB16⟩ : ∃ B16, w12.heap.size + 1 = B16 := ⟨_, rfl⟩
                   rw [hB16]
                   have HBK : Hid (Blk W16 B16 #[.string t15.name, .slice a15 t15.args.length c15] 28) := by
                     unfold Hid
                     rw [← hB16]
                     exact HA.out.2.1
                   clear hB16)
              have HF := hide (HFI.out W16 HA.out.1 HA.out.2.2)
              clear HA HFI hb15 hb16 hS15 hs15
              have b0 := HBK.out.cell 0
              have b1 := HBK.out.cell 1
              have t0' : W16.cell? ⟨w12.heap.size, 0, none⟩ = some (.string t12.name) := HF.out.2.2.2.2.2.cell 0
              have t1' : W16.cell? ⟨w12.heap.size, 1, none⟩ = some (.slice a12 t12.args.length c12) := HF.out.2.2.2.2.2.cell 1
              clear t0 t1
              cases ok15 with
              | false =>
                go_wp2_with fail
                go_ret
                exact ⟨rfl, HF.out.1⟩
              | true =>
                have HT15 := hide (hok15 rfl)
                clear hok15 hkk15
                go_wp2_with fail
                refine (size_any t15 _ 200 W16 (fun b => b < wr.heap.size ∨ w11.heap.size ≤ b) ⟨_, _, rfl, HF.out.2.2.2.2.1⟩ (by omega) (by omega)).mono ?_
                rintro e w17 ⟨rfl, hb17⟩
                have HB17 := hide (HF.out.1.trans (hb17.mono HF.out.1.size))
                by_cases h200 : 200 < sizeL [t15]
                · have hmin : (200 : Int) < min (sizeL [t15] : Int) (200 + 1) := by omega
                  go_wp2_with fail
                  go_ret
                  exact ⟨rfl, HB17.out⟩
                · have hmin : ¬ (200 : Int) < min (sizeL [t15] : Int) (200 + 1) := by omega
                  have HPR : Hid (RbPair sB (pickN (y1.tdiv 3) 3) ⟨t12, t15⟩) := ⟨hok12, hzt, HT15.out, by show sizeL [t15] ≤ 200; omega⟩
                  have P0 := hide (HF.out.2.2.2.2.2.below hb17 HF.out.2.2.2.2.2.lt)
                  have P1 := hide (HBK.out.below hb17 HBK.out.lt)
                  have r0 := P0.out.cell 0
                  have r1 := P0.out.cell 1
                  have r2 := P1.out.cell 0
                  have r3 := P1.out.cell 1
                  have hlenc : cs9.length ≤ 1000000 := by omega
                  have hNN : wr.heap.size ≤ w11.heap.size := hN9
                  obtain ⟨v18, w18, hrun, hrow18, hg18, hown18⟩ := pairs_append HROW9.out hNN (fun _ h => h) (HF.out.2.1.trans (hb17.mono HF.out.2.1.size)) (⟨t12, t15⟩, (a12, c12), (a15, c15)) ⟨(HF.out.2.2.2.1.later hb17).mono fun b hb _ => Or.inr hb, HF.out.2.2.2.2.1.later hb17⟩ hlenc w17.heap.size rfl
                  have HRUN := hide hrun
                  have HROW18 := hide hrow18
                  have hltr := HROW9.out.own.lt
                  have hz17 := hb17.size
                  have hzw : w.heap.size ≤ wr.heap.size := HWR.out.size
                  have HB18 : Hid (Below w.heap.size w w18) := (HB17.out.alloc HB17.out.size _).grown hg18 (by have := HB17.out.size; simp; omega) (fun j hj => by have := (hltr j hj).1; omega)
                  have HV18 : Hid (BV w18 (fun b => b < wr.heap.size) (.slice a7 3 c7) sB) := by
                    have hs17 := HF.out.2.1.size
                    refine ((HF.out.2.2.1.later hb17).alloc _).kept fun b hb => hg18.block b (by simp; omega) (fun e => by have := (hltr b e.symm).1; omega)
                  have hN18 : wr.heap.size ≤ w18.heap.size := by
                    have h1 := hg18.size
                    have h2 := HF.out.2.1.size
                    simp at h1
                    omega
                  have HALL18 : Hid (∀ x ∈ cs9 ++ [((⟨t12, t15⟩, (a12, c12), (a15, c15)) : Pc)], RbPair sB (pickN (y1.tdiv 3) 3) x.1) := fun x hx => by
                    rcases List.mem_append.1 hx with hx | hx
                    · exact HALL9.out x hx
                    · have e : x = (⟨t12, t15⟩, (a12, c12), (a15, c15)) := by simpa using hx
                      subst e
                      exact HPR.out
                  clear hrun hrow18 hg18 hown18 hltr hb17 b0 b1 t0' t1'
                  go_wp2_with (at_builtin; refine wpList_append_eq rfl _ _ _ _ rfl rfl rfl HRUN.out ?_)
                  go_roundw
                  case rel => exact ⟨i9 + 1, _, by omega, by go_num, by simp; omega, hN18, HROW18.out, HV18.out, HALL18.out, HB18.out⟩
                  case measure => simp [intOf]; omega
          · have HQ := hide HROW9.out.qv
            have HLP : Hid (∀ p ∈ cs9.map (·.1), RbPair sB (pickN (y1.tdiv 3) 3) p) := fun p hp => by
              obtain ⟨x, hx, rfl⟩ := List.mem_map.1 hp
              exact HALL9.out x hx
            have hlenP : (cs9.map (·.1)).length ≤ 3 := by simp; omega
            generalize cs9.map (·.1) = lsP at *
            have hmayP : ∀ p ∈ lsP, mayE p.l = 0 ∧ mayE p.r = 0 := fun p hp => by
              have h1 := rb_err HSX.out (HLP.out p hp)
              have h2 := HLP.out p hp
              exact ⟨mayE_mk h1.1 (by have := h2.2.1; omega), mayE_mk h1.2 h2.2.2.2⟩
            have HMP := hide hmayP
            have hp := pairsE_mk (by omega) hmayP
            obtain ⟨he, hl40, hUI, hVV⟩ := pairs_start hp
            obtain ⟨g, R, hR⟩ := u_ends0 lsP he
            obtain ⟨r1, r2, r3, r4, r5, r6⟩ := rb_all HSX.out HLP.out (by omega) hUI hR
            have HR3 := hide r3
            have HR5 := hide r5
            have HR6 := hide r6
            have HE : Hid (bindsE R.2 = 0) := r3.E (by omega) (by omega)
            have hk1 : (decide (bindsE R.2 = 0) && stB R.2 R.2) = true := by rw [HE.out, r4]; rfl
            have HK1 := hide hk1
            have HUN := hide (unify_some lsP hp R g hR r2 r1 u11 w10 _ HQ.out)
            clear he hl40 hUI hVV hR r1 r2 r3 r4 r5 r6 hmayP hp hk1 HLP HALL9 HROW9
            have hqs := HQ.out
            obtain ⟨a11, c11, rfl, ⟨hq1, hq2⟩, hq3⟩ := hqs
            clear hq3
            go_wp2_with fail
            refine HUN.out.mono ?_
            rintro e w20 ⟨v20, rfl, hv20, hb20⟩
            have HV20 := hide (hv20.mono (Y := fun _ => True) fun _ _ _ => trivial)
            have HB20 := hide (HB9.out.trans (hb20.mono HB9.out.size))
            have HQ20 := hide (HQ.out.later hb20)
            have HS20 := hide (HSV9.out.later hb20)
            obtain ⟨a20, c20, rfl, _, _⟩ := hv20
            clear hb20 HUN
            go_wp2_with fail
            refine (kind_any R.2 _ w20 _ HV20.out).mono ?_
            rintro e w21 ⟨rfl, hb21⟩
            rw [HK1.out, HE.out]
            have HV21 := hide (HV20.out.later hb21)
            have HB21 := hide (HB20.out.trans (hb21.mono HB20.out.size))
            have HQ21 := hide (HQ20.out.later hb21)
            have HS21 := hide (HS20.out.later hb21)
            clear hb21 HV20 HQ20 HS20
            go_wp2_with fail
            refine (FA.out w21).mono ?_
            rintro e w22 ⟨rfl, hb22⟩
            have HV22 := hide (HV21.out.later hb22)
            have HB22 := hide (HB21.out.trans (hb22.mono HB21.out.size))
            have HQ22 := hide (HQ21.out.later hb22)
            have HS22 := hide (HS21.out.later hb22)
            clear hb22 HV21 HQ21 HS21
            go_wp2_with fail
            go_loopw [21] (fun i w9 => R3Inv w lsP R.2 sB (.slice a11 lsP.length c11) (.slice a20 R.2.length c20) (.slice a7 3 c7) i w9) (fun i w9 => lsP.length - (intOf i).toNat)
            case atStart => exact ⟨0, Nat.zero_le _, rfl, HQ22.out.mono fun _ _ _ => trivial, HV22.out, HS22.out.mono fun _ _ _ => trivial, HB22.out⟩
            case round =>
              obtain ⟨j, hj, rfl, hq3, hv3, hs3, hb3⟩ := hrel
              have HQ3 := hide hq3
              have HV3 := hide hv3
              have HS3 := hide hs3
              have HB3 := hide hb3
              clear hq3 hv3 hs3 hb3 HQ22 HV22 HS22 HB22
              by_cases hlj : j < lsP.length
              · have hlj2 : (j : Int) < (lsP.length : Int) := by omega
                obtain ⟨hPeq, hPsz⟩ := HR5.out lsP[j] (List.getElem_mem hlj)
                obtain ⟨hPm1, hPm2⟩ := HMP.out lsP[j] (List.getElem_mem hlj)
                obtain ⟨b4, o4, x1, d1, x2, d2, e4, k0, k1, k2, k3, hl4, hr4⟩ := HQ3.out.get j hlj
                subst e4
                have AL := hide (fun w' (h1 : BV w' (fun _ => True) (.slice a20 R.2.length c20) R.2) (h2 : Sl w' (fun _ => True) x1 lsP[j].l.args) => apply_small HE.out hPm1 hPsz (.slice a20 R.2.length c20) (.agg #[.string lsP[j].l.name, .slice x1 lsP[j].l.args.length d1]) w' (fun _ => True) h1 ⟨_, _, rfl, h2⟩)
                have AR := hide (fun w' (h1 : BV w' (fun _ => True) (.slice a20 R.2.length c20) R.2) (h2 : Sl w' (fun _ => True) x2 lsP[j].r.args) => apply_small HE.out hPm2 (by rw [← hPeq]; exact hPsz) (.slice a20 R.2.length c20) (.agg #[.string lsP[j].r.name, .slice x2 lsP[j].r.args.length d2]) w' (fun _ => True) h1 ⟨_, _, rfl, h2⟩)
                rw [← hPeq] at AR
                have HL4 := hide hl4
                have HR4 := hide hr4
                have HC2 := hide k2
                have HC3 := hide k3
                have hbl4 : b4 < wr.heap.size := cell_lt k0
                clear hl4 hr4 hPeq hPsz hPm1 hPm2 k2 k3
                generalize hA1 : onT R.2 lsP[j].l = A1 at *
                generalize lsP[j].l = pl at *
                generalize lsP[j].r = pr at *
                clear hA1
                go_wp2_with fail
                refine (AL.out wr HV3.out HL4.out).mono ?_
                rintro e w31 ⟨a31, c31, rfl, hs31, hb31⟩
                have hbA : Below w31.heap.size w31 (w31.alloc (.cells #[.string A1.name, .slice a31 A1.args.length c31] 28)) := (Below.refl _ _).alloc (Nat.le_refl _) _
                have hb32 := hb31.trans (hbA.mono hb31.size)
                have A32 := hide (Blk.new w31 #[.string A1.name, .slice a31 A1.args.length c31] 28)
                have S32 := hide (hs31.later hbA)
                have D32 := hide hb32
                have q2 := (hb32.cell (p := ⟨b4, o4 + j * 4 + 2, none⟩) hbl4).trans HC2.out
                have q3 := (hb32.cell (p := ⟨b4, o4 + j * 4 + 3, none⟩) hbl4).trans HC3.out
                clear hbA hb31 hs31 hb32 AL
                go_wp2_with fail
                generalize w31.alloc (.cells #[.string A1.name, .slice a31 A1.args.length c31] 28) = w32 at *
                generalize w31.heap.size = P32 at *
                refine (AR.out w32 (HV3.out.later D32.out) (HR4.out.later D32.out)).mono ?_
                rintro e w33 ⟨a33, c33, rfl, hs33, hb33⟩
                have hbA : Below w33.heap.size w33 (w33.alloc (.cells #[.string A1.name, .slice a33 A1.args.length c33] 28)) := (Below.refl _ _).alloc (Nat.le_refl _) _
                have hb34 := hb33.trans (hbA.mono hb33.size)
                have B34 := hide (Blk.new w33 #[.string A1.name, .slice a33 A1.args.length c33] 28)
                have A34 := hide (A32.out.below hb34 A32.out.lt)
                have S34 := hide (S32.out.later hb34)
                have T34 := hide (hs33.later hbA)
                have D34 := hide (D32.out.trans (hb34.mono D32.out.size))
                have g0 := A34.out.cell 0
                have g1 := A34.out.cell 1
                have g2 := B34.out.cell 0
                have g3 := B34.out.cell 1
                clear hbA hb33 hs33 hb34 AR q2 q3
                go_wp2_with fail
                generalize w33.alloc (.cells #[.string A1.name, .slice a33 A1.args.length c33] 28) = w34 at *
                generalize w33.heap.size = P34 at *
                refine (sameR_all A1 A1 _ _ w34 (fun _ => True) (fun _ => True) ⟨_, _, rfl, S34.out⟩ ⟨_, _, rfl, T34.out⟩).mono ?_
                rintro e w35 ⟨rfl, hb35⟩
                rw [sameB_refl]
                have D35 := hide (D34.out.trans (hb35.mono D34.out.size))
                clear hb35 g0 g1 g2 g3
                go_wp2_with fail
                go_roundw
                case rel => exact ⟨j + 1, by omega, by go_num, HQ3.out.later D35.out, HV3.out.later D35.out, HS3.out.later D35.out, HB3.out.trans (D35.out.mono HB3.out.size)⟩
                case measure => simp [intOf]; omega
              · go_wp2_with fail
                have hbN : Below wr.heap.size wr (wr.alloc (.cells #[.string ⟨#[88]⟩, .string ⟨#[89]⟩, .string ⟨#[90]⟩, .string ⟨#[85]⟩] 9)) := (Below.refl _ _).alloc (Nat.le_refl _) _
                have N4 := hide (Blk.new wr #[.string ⟨#[88]⟩, .string ⟨#[89]⟩, .string ⟨#[90]⟩, .string ⟨#[85]⟩] 9)
                have HV4 := hide (HV3.out.later hbN)
                have HS4 := hide (HS3.out.later hbN)
                have HB4 := hide (HB3.out.trans (hbN.mono HB3.out.size))
                clear hbN HV3 HS3 HB3 HQ3
                generalize wr.alloc (.cells #[.string ⟨#[88]⟩, .string ⟨#[89]⟩, .string ⟨#[90]⟩, .string ⟨#[85]⟩] 9) = w40 at *
                generalize wr.heap.size = NB at *
                go_loopw [27] (fun i w9 => R4Inv w NB R.2 sB (.slice a20 R.2.length c20) (.slice a7 3 c7) i w9) (fun i w9 => 4 - (intOf i).toNat)
                case atStart => exact ⟨0, by omega, rfl, N4.out, HV4.out, HS4.out, HB4.out⟩
                case round =>
                  obtain ⟨i4, hi4, rfl, hn4, hv4, hs4, hb4⟩ := hrel
                  have HN5 := hide hn4
                  have HV5 := hide hv4
                  have HS5 := hide hs4
                  have HB5 := hide hb4
                  clear hn4 hv4 hs4 hb4 N4 HV4 HS4 HB4
                  by_cases hl4 : i4 < 4
                  · have hl42 : (i4 : Int) < 4 := by omega
                    obtain ⟨nm, hnm, hnk⟩ := name_at i4 hl4
                    obtain ⟨hz6, hg6⟩ := HR6.out nm hnm
                    have hmayN : mayE (⟨nm, []⟩ : Tm) = 0 := mayE_mk (err_leaf ((show ∀ n ∈ [xN, yN, zN, uN], nameB n = true by decide) _ hnm)) (by simp [sizeL])
                    have c4 : wr.cell? ⟨NB, i4, none⟩ = some (.string nm) := (HN5.out.cell i4).trans hnk
                    have HNK := hide hnk
                    clear hnk
                    have hzl : sizeL [onT sB ⟨nm, []⟩] ≤ 2000 := by
                      have := HSX.out.size (t := ⟨nm, []⟩) (by simp [sizeL])
                      omega
                    have HLF := hide (fun (w' : World) (hw' : BV w' (fun _ => True) (.slice a7 3 c7) sB) => on_small sB ⟨nm, []⟩ (.slice a7 3 c7) (.agg #[.string nm, .slice none 0 0]) w' (fun _ => True) hw' ⟨none, 0, rfl, by simp, Or.inl rfl⟩ (by simp [sizeL]) hzl)
                    have HAP := hide (fun (w' : World) (hw' : BV w' (fun _ => True) (.slice a20 R.2.length c20) R.2) => apply_small HE.out hmayN (by omega) (.slice a20 R.2.length c20) (.agg #[.string nm, .slice none 0 0]) w' (fun _ => True) hw' ⟨none, 0, rfl, by simp, Or.inl rfl⟩)
                    have HON := hide (fun (w' : World) (a' : Option Addr) (c' : Nat) (hw' : BV w' (fun _ => True) (.slice a7 3 c7) sB) (hs' : Sl w' (fun _ => True) a' (onT R.2 ⟨nm, []⟩).args) => on_small sB (onT R.2 ⟨nm, []⟩) (.slice a7 3 c7) (.agg #[.string (onT R.2 ⟨nm, []⟩).name, .slice a' (onT R.2 ⟨nm, []⟩).args.length c']) w' (fun _ => True) hw' ⟨_, _, rfl, hs'⟩ (by omega) (by rw [hg6]; exact hzl))
                    rw [hg6] at HON
                    clear hzl hg6 hz6 hmayN hnm
                    generalize onT R.2 ⟨nm, []⟩ = A2 at *
                    generalize onT sB ⟨nm, []⟩ = A3 at *
                    go_wp2_with fail
                    refine (leaf_any _ _).mono ?_
                    rintro e w41 ⟨rfl, hb41⟩
                    have D41 := hide hb41
                    clear hb41
                    go_wp2_with fail
                    refine (HAP.out w41 (HV5.out.later D41.out)).mono ?_
                    rintro e w42 ⟨a42, c42, rfl, hs42, hb42⟩
                    have hbA : Below w42.heap.size w42 (w42.alloc (.cells #[.string A2.name, .slice a42 A2.args.length c42] 28)) := (Below.refl _ _).alloc (Nat.le_refl _) _
                    have hb43 := hb42.trans (hbA.mono hb42.size)
                    have A43 := hide (Blk.new w42 #[.string A2.name, .slice a42 A2.args.length c42] 28)
                    have S43 := hide (hs42.later hbA)
                    have D43 := hide (D41.out.trans (hb43.mono D41.out.size))
                    have g0 := A43.out.cell 0
                    have g1 := A43.out.cell 1
                    clear hbA hb42 hs42 hb43 HAP
                    go_wp2_with fail
                    generalize w42.alloc (.cells #[.string A2.name, .slice a42 A2.args.length c42] 28) = w43 at *
                    generalize w42.heap.size = P43 at *
                    refine (HON.out w43 a42 c42 (HS5.out.later D43.out) S43.out).mono ?_
                    rintro e w44 ⟨a44, c44, rfl, hs44, hb44⟩
                    have hbA : Below w44.heap.size w44 (w44.alloc (.cells #[.string A3.name, .slice a44 A3.args.length c44] 28)) := (Below.refl _ _).alloc (Nat.le_refl _) _
                    have hb45 := hb44.trans (hbA.mono hb44.size)
                    have B45 := hide (Blk.new w44 #[.string A3.name, .slice a44 A3.args.length c44] 28)
                    have T45 := hide (hs44.later hbA)
                    have D45 := hide (D43.out.trans (hb45.mono D43.out.size))
                    have c45 : (w44.alloc (.cells #[.string A3.name, .slice a44 A3.args.length c44] 28)).cell? ⟨NB, i4, none⟩ = some (.string nm) := ((HN5.out.below D45.out HN5.out.lt).cell i4).trans HNK.out
                    clear hbA hb44 hs44 hb45 HON g0 g1
                    go_wp2_with fail
                    generalize w44.alloc (.cells #[.string A3.name, .slice a44 A3.args.length c44] 28) = w45 at *
                    generalize w44.heap.size = P45 at *
                    refine (leaf_any _ _).mono ?_
                    rintro e w46 ⟨rfl, hb46⟩
                    have D46 := hide (D45.out.trans (hb46.mono D45.out.size))
                    have B46 := hide (B45.out.below hb46 B45.out.lt)
                    have T46 := hide (T45.out.later hb46)
                    clear hb46 c45
                    go_wp2_with fail
                    refine (HLF.out w46 (HS5.out.later D46.out)).mono ?_
                    rintro e w47 ⟨a47, c47, rfl, hs47, hb47⟩
                    have hbA : Below w47.heap.size w47 (w47.alloc (.cells #[.string A3.name, .slice a47 A3.args.length c47] 28)) := (Below.refl _ _).alloc (Nat.le_refl _) _
                    have hb48 := hb47.trans (hbA.mono hb47.size)
                    have C48 := hide (Blk.new w47 #[.string A3.name, .slice a47 A3.args.length c47] 28)
                    have B48 := hide (B46.out.below hb48 B46.out.lt)
                    have T48 := hide (T46.out.later hb48)
                    have U48 := hide (hs47.later hbA)
                    have D48 := hide (D46.out.trans (hb48.mono D46.out.size))
                    have g0 := B48.out.cell 0
                    have g1 := B48.out.cell 1
                    have g2 := C48.out.cell 0
                    have g3 := C48.out.cell 1
                    clear hbA hb47 hs47 hb48 HLF
                    go_wp2_with fail
                    generalize w47.alloc (.cells #[.string A3.name, .slice a47 A3.args.length c47] 28) = w48 at *
                    generalize w47.heap.size = P48 at *
                    refine (sameR_all A3 A3 _ _ w48 (fun _ => True) (fun _ => True) ⟨_, _, rfl, T48.out⟩ ⟨_, _, rfl, U48.out⟩).mono ?_
                    rintro e w49 ⟨rfl, hb49⟩
                    rw [sameB_refl]
                    have D49 := hide (D48.out.trans (hb49.mono D48.out.size))
                    clear hb49 g0 g1 g2 g3
                    go_wp2_with fail
                    go_roundw
                    case rel => exact ⟨i4 + 1, by omega, by go_num, HN5.out.below D49.out HN5.out.lt, HV5.out.later D49.out, HS5.out.later D49.out, HB5.out.trans (D49.out.mono HB5.out.size)⟩
                    case measure => simp [intOf]; omega
                  · go_wp2_with fail
                    go_ret
                    exact ⟨rfl, HB5.out⟩
#print axioms topRobinson_any
end Go.Proofs.Ytkfppicbningaaa
