/- Walks: the law TopPlotkin. -/
import Derived.Test.YtglcijkhlppjfaaDoorGp3
import Derived.Test.YtglcijkhlppjfaaDoorW81
import Derived.Test.YtglcijkhlppjfaaDoorW98
import Derived.Test.YtglcijkhlppjfaaDoorW64
import Derived.Test.YtglcijkhlppjfaaDoorW53
import Derived.Test.YtglcijkhlppjfaaDoorW30a
import Derived.Test.YtglcijkhlppjfaaDoorW100
import Derived.Test.YtglcijkhlppjfaaDoorZTopPlotkinOwn
import Derived.Test.YtglcijkhlppjfaaDoorBxt
namespace Go.Proofs.YtglcijkhlppjfaaDoor
open Go.RowKit
set_option linter.unusedSimpArgs false
set_option linter.unusedVariables false
set_option maxRecDepth 8000

/-- A case of a term in a box. -/
def RgT (w : World) (p : Tm) (P Q : Value) (w' : World) : Prop :=
  ∃ (A : Nat) (a : Option Addr) (c : Nat) (ok : Bool) (z : Tm) (ls : List Bd), P = .pointer (some ⟨A, 0, none⟩) ∧ Q = .bool ok ∧ BxT w' A z a c ∧ Below w.heap.size w w' ∧ bindsE ls = 0 ∧ (ok = true → z = onT ls p)
theorem rgT_fin {w W : World} {A : Nat} {p z : Tm} {a : Option Addr} {c : Nat} {ls : List Bd} {ok : Bool} (hZ : Blk W A #[.string ⟨#[]⟩, .slice none 0 0] 25) (hs : Sl W (fun b => b ≠ A) a z.args) (hb : Below w.heap.size w W) (hA : w.heap.size ≤ A) (hl : bindsE ls = 0) (hz : ok = true → z = onT ls p) :
    RgT w p (.pointer (some ⟨A, 0, none⟩)) (.bool ok) ((W.setCell ⟨A, 0, none⟩ (.string z.name)).setCell ⟨A, 1, none⟩ (.slice a z.args.length c)) :=
  ⟨A, a, c, ok, z, ls, rfl, rfl, ⟨(hZ.set 0 _).set 1 _, (hs.kept fun b h => by rw [Below.heap_setCell _ _ _ _ (by simpa using h), Below.heap_setCell _ _ _ _ (by simpa using h)]).mono fun _ _ _ => trivial⟩, (hb.setCell (p := ⟨A, 0, none⟩) hA _).setCell (p := ⟨A, 1, none⟩) hA _, hl, hz⟩
/-- Terms put in: a term and whether it may be. -/
theorem onW_any (ls : List Bd) (t : Tm) (u v : Value) (w : World) (X : Nat → Prop) (hu : BV w X u ls) (hv : TV w X v t) (hsm : sizeL [t] ≤ 1000000) :
    Calls Tryd.prog 6 #[u, v] w fun e w' => ∃ (z : Tm) (a : Option Addr) (c : Nat) (ok : Bool), e = .returned (.tuple #[.agg #[.string z.name, .slice a z.args.length c], .bool ok]) ∧ Sl w' (fun b => (X b ∧ b < w.heap.size) ∨ w.heap.size ≤ b) a z.args ∧ (ok = true → z = onT ls t) ∧ Below w.heap.size w w' := by
  refine (onAll_any ls t u v w X hu hv hsm).mono ?_
  rintro e w' ⟨hb, ⟨h, rfl⟩ | ⟨h, a, c, rfl, hs⟩⟩
  · exact ⟨⟨⟨#[]⟩, []⟩, none, 0, false, rfl, ⟨by simp, Or.inl rfl⟩, by simp, hb⟩
  · exact ⟨_, a, c, true, rfl, hs, fun _ => rfl, hb⟩
/-- Bindings applied. -/
theorem appW_any (ls : List Bd) (t : Tm) (u v : Value) (w : World) (X : Nat → Prop) (hu : BV w X u ls) (hv : TV w X v t) (ht : mayE t = 0) :
    Calls Tryd.prog 10 #[u, v] w fun e w' => ∃ (z : Tm) (a : Option Addr) (c : Nat) (er : Int), e = .returned (.tuple #[.agg #[.string z.name, .slice a z.args.length c], .int .i64 er]) ∧ Sl w' (fun _ => True) a z.args ∧ (bindsE ls ≠ 0 → er ≠ 0) ∧ (bindsE ls = 0 → sizeL [onT ls t] ≤ 2000 → er = 0 ∧ z = onT ls t) ∧ Below w.heap.size w w' := by
  refine (apply_any ls t u v w X hu hv (fun h => bindsE_once h)).mono ?_
  rintro e w' ⟨hb, h⟩
  rcases h with ⟨h1, rfl⟩ | ⟨h1, h2, rfl⟩ | ⟨h1, h2, ⟨h3, a, c, rfl, hs⟩ | ⟨h3, rfl⟩⟩
  · exact ⟨⟨⟨#[]⟩, []⟩, none, 0, _, rfl, ⟨by simp, Or.inl rfl⟩, fun _ => h1, fun h => absurd h h1, hb⟩
  · exact absurd ht h2
  · refine ⟨_, a, c, 0, rfl, hs.mono fun _ _ _ => trivial, fun h => absurd h1 h, fun _ _ => ⟨rfl, ?_⟩, hb⟩
    exact fT_onT h1 t h2
  · refine ⟨⟨⟨#[]⟩, []⟩, none, 0, 8, rfl, ⟨by simp, Or.inl rfl⟩, fun _ => by decide, fun _ hz => ?_, hb⟩
    rw [fT_onT h1 t h2] at h3
    omega
/-- The generalization of two cases. -/
theorem genW_any (HSORT : Hid SortBinds) (p a b : Tm) (hF : PkF p a b (gnT [] a b)) (h0 : mayE a = 0) (h1 : mayE b = 0) (va vb : Value) (w : World) (X : Nat → Prop) (ha : TV w X va a) (hb : TV w X vb b) (hT : Tb w.heap.size w) :
    Calls Tryd.prog 9 #[va, vb] w fun e w' => ∃ (t : Tm) (x : Option Addr) (c : Nat) (xl : Option Addr) (cl : Nat) (xr : Option Addr) (cr : Nat) (ls rs : List Bd), e = .returned (.tuple #[.agg #[.string t.name, .slice x t.args.length c], .slice xl ls.length cl, .slice xr rs.length cr, .int .i64 0]) ∧ Sl w' (fun _ => True) x t.args ∧
      (BV w' (fun _ => True) (.slice xl ls.length cl) ls ∧ BV w' (fun _ => True) (.slice xr rs.length cr) rs) ∧ (ls.length = rs.length ∧ mayE t = 0 ∧ mtB p t = true ∧ mtB t b = true ∧ mtB b a = mtB b t) ∧
      (ls.length ≤ 40 → (bindsE ls = 0 ∧ onT ls t = a) ∧ bindsE rs = 0 ∧ onT rs t = b) ∧ (40 < ls.length → bindsE ls ≠ 0 ∧ bindsE rs ≠ 0) ∧ Below w.heap.size w w' := by
  refine (general_any HSORT a b va vb w X ha hb hT).mono ?_
  rintro e w' ⟨hbw, ⟨_, x, c, vl, vr, ls, rs, rfl, hs, ⟨hl, pl, sl⟩, hr, pr, sr⟩ | ⟨ht, _⟩⟩
  · obtain ⟨xl, cl, rfl, _⟩ := id hl
    obtain ⟨xr, cr, rfl, _⟩ := id hr
    obtain ⟨l1, l2, l3⟩ := hF.lf ls pl sl
    obtain ⟨r1, r2, r3⟩ := hF.rt rs pr sr
    refine ⟨_, x, c, xl, cl, xr, cr, ls, rs, rfl, hs.mono fun _ _ _ => trivial, ⟨hl.mono fun _ _ _ => trivial, hr.mono fun _ _ _ => trivial⟩, ⟨by omega, hF.may, hF.mp, hF.tb, hF.cs⟩, fun h => ⟨l2 (by omega), r2 (by omega)⟩, fun h => ⟨?_, ?_⟩, hbw⟩
    · rw [l3 (by omega)]; decide
    · rw [r3 (by omega)]; decide
  · exact absurd (by unfold twoE; rw [if_pos h0]; exact h1) ht
/-- A match asked for. -/
theorem matchW_any (p t : Tm) (h0 : mayE p = 0) (h1 : mayE t = 0) (pv tv : Value) (w : World) (X : Nat → Prop) (hp : TV w X pv p) (ht : TV w X tv t) :
    Calls Tryd.prog 11 #[pv, tv] w fun e w' => (∃ v, e = .returned (.tuple #[v, .bool (mtB p t), .int .i64 0])) ∧ Below w.heap.size w w' := by
  have h2 : twoE p t = 0 := by unfold twoE; rw [if_pos h0]; exact h1
  refine (match_any p t pv tv w X hp ht).mono ?_
  rintro e w' ⟨hb, ⟨h, _⟩ | ⟨_, h, rfl⟩ | ⟨_, h', v, l', h, rfl, _⟩⟩
  · exact absurd h2 h
  · exact ⟨⟨_, by rw [mtB, h]; rfl⟩, hb⟩
  · exact ⟨⟨v, by rw [mtB, h]; rfl⟩, hb⟩

set_option maxHeartbeats 16000000 in
theorem topPlotkin_any (HSORT : Hid SortBinds) (zs : List Int) (hr : ∀ z ∈ zs, Rng z) (y1 : Int) (h1 : Rng y1) (u : Value) (w : World) (X : Nat → Prop) (hu : PV w X u zs) (hT : Tb w.heap.size w) :
    Calls Tryd.prog 3 #[u, .int .i64 y1] w fun e w' => e = .returned (.bool true) ∧ Below w.heap.size w w' := by
  have HU := hide hu
  have HRG := hide hr
  have HSO := hide HSORT.out
  have HT : Hid (∀ w', Below w.heap.size w w' → Tb w'.heap.size w') := fun w' hb w'' h2 => hT w'' (hb.trans (h2.mono hb.size))
  unfold Rng at h1
  obtain ⟨ua, uc, rfl⟩ : ∃ ua uc, u = .slice ua zs.length uc := by
    obtain ⟨a, c, h, _⟩ := hu
    exact ⟨a, c, h⟩
  clear hu hr hT HSORT
  by_cases hl : 256 < zs.length
  · have hli : (256 : Int) < (zs.length : Int) := by omega
    go_enter Tryd.func3, Tryd.ntmps3
    go_wp2_with fail
    go_ret
    exact ⟨rfl, Below.refl _ _⟩
  · have hli : ¬ (256 : Int) < (zs.length : Int) := by omega
    go_enter Tryd.func3, Tryd.ntmps3
    go_wp2_with fail
    refine (pick_any y1 14 (by omega) (by omega) h1 _).mono ?_
    rintro e w1 ⟨n2, rfl, hn2, rfl⟩
    go_wp2_with fail
    refine (termOf_any 3 (by decide) (by decide) zs HRG.out (by omega) n2 0 _ _ X HU.out (by omega) (by unfold top; split <;> omega)).mono ?_
    rintro e w2 ⟨p, ap, cp, rfl, hs, hz, hb, hep⟩
    have HZP : Hid (sizeL [p] ≤ 200) := by
      have : top n2 ≤ 100 := by unfold top; split <;> omega
      unfold Hid; omega
    have HEP := hide hep
    have HB3 := hide (up1 hb (.cells #[.string p.name, .slice ap p.args.length cp] 25))
    have P3 := hide (BxT.new (c := cp) hs)
    clear hs hb hz hep
    go_upto_region 4 with fail
    generalize w2.alloc (.cells #[.string p.name, .slice ap p.args.length cp] 25) = w3 at *
    generalize w2.heap.size = PP at *
    have KP3 : Hid (∀ w', Below w3.heap.size w3 w' → w'.cell? ⟨PP, 0, none⟩ = some (.string p.name) ∧ w'.cell? ⟨PP, 1, none⟩ = some (.slice ap p.args.length cp)) := fun w' hb => (P3.out.later hb).cs
    have VP3 : Hid (∀ w', Below w3.heap.size w3 w' → TV w' (fun b => b < w3.heap.size) (.agg #[.string p.name, .slice ap p.args.length cp]) p) := fun w' hb => ⟨ap, cp, rfl, (P3.out.2.mono (Y := fun b => b < w3.heap.size) fun b _ h => h).later hb⟩
    have UV3 : Hid (∀ w', Below w3.heap.size w3 w' → PV w' X (.slice ua zs.length uc) zs) := fun w' hb => (HU.out.later HB3.out).later hb
    have kd3 : Below w3.heap.size w3 w3.drew := (Below.refl _ _).drew
    have HSd3 := hide (KP3.out _ kd3)
    go_cut [6, 7] (fun P Q w4 => RgT w3 p P Q w4)
    case first =>
      refine wp_region_held_drew (S := (fun w' => w'.cell? ⟨PP, 0, none⟩ = some (.string p.name) ∧ w'.cell? ⟨PP, 1, none⟩ = some (.slice ap p.args.length cp))) (by kernel_rfl) HSd3.out (fun hHeld => ?_)
      refine wpAnyH_take (i := 0) (v := ?_) rfl (by kernel_rfl) (by kernel_rfl) (by kernel_rfl) (fun _ _ _ h => h) (Or.inl ⟨by rfl, ?_⟩) (by assumption) ?_
      rotate_left
      · intro w' hSw
        go_simp <;> with_reducible rfl
      try simp only [Act.put, List.setIfInBounds_toArray, List.set_cons_zero, List.set_cons_succ, List.getElem_toArray, List.getElem_cons_succ, List.getElem_cons_zero]
      refine wpAnyH_take (i := 2) (v := ?_) rfl (by kernel_rfl) (by kernel_rfl) (by kernel_rfl) (fun _ _ _ h => h) (Or.inl ⟨by rfl, ?_⟩) (by assumption) ?_
      rotate_left
      · intro w' hSw
        obtain ⟨x0, x1⟩ := hSw
        go_simp <;> with_reducible rfl
      try simp only [Act.put, List.setIfInBounds_toArray, List.set_cons_zero, List.set_cons_succ, List.getElem_toArray, List.getElem_cons_succ, List.getElem_cons_zero]
      refine wpAnyH_ready (rs := [1, 7]) (by kernel_rfl) (by simp) ?_
      refine AllReadyH.cons rfl (fun K hK => ?_) (AllReadyH.cons rfl (fun K hK => ?_) AllReadyH.nil)
      · go_simp
        go_at_call 7
        refine (bindsFrom_any 3 (by decide) (by decide) zs HRG.out (by omega) 5 30 _ _ X (UV3.out _ kd3) (by omega) (by unfold top; split <;> omega)).mono ?_
        rintro e w5 ⟨vb, ls, rfl, hv5, hsub, hsz5, hb5⟩
        have k5 : Below w3.heap.size w3 w5 := kd3.trans (hb5.mono kd3.size)
        have HLS : Hid (bindsE ls = 0) := four_E hsub (fun d hd => ⟨by have := (hsz5 d hd).1; have : top 5 ≤ 9 := (by unfold top; split <;> omega); omega, (hsz5 d hd).2⟩)
        have V5 := hide hv5
        clear hv5 hsub hsz5 hb5
        go_simp
        refine hK.out _ _ (by exact KP3.out _ k5) (fun hHeld => ?_)
        clear hK K
        try simp only [Act.put, List.setIfInBounds_toArray, List.set_cons_zero, List.set_cons_succ, List.getElem_toArray, List.getElem_cons_succ, List.getElem_cons_zero]
        refine wpAnyH_ready (rs := [3, 7]) (by kernel_rfl) (by simp) ?_
        refine AllReadyH.cons rfl (fun K hK => ?_) (AllReadyH.cons rfl (fun K hK => ?_) AllReadyH.nil)
        · go_simp
          go_at_call 6
          refine (onW_any ls p _ _ _ (fun _ => True) (V5.out.mono fun _ _ _ => trivial) ((VP3.out _ k5).mono fun _ _ _ => trivial) (by have := HZP.out; omega)).mono ?_
          rintro e w6 ⟨z, az, cz, ok, rfl, hs6, hz6, hb6⟩
          have k6 : Below w3.heap.size w3 w6 := k5.trans (hb6.mono k5.size)
          have S6 := hide hs6
          have HZ6 := hide hz6
          clear hs6 hz6 hb6
          go_simp
          refine hK.out _ _ (by exact KP3.out _ k6) (fun hHeld => ?_)
          clear hK K
          try simp only [Act.put, List.setIfInBounds_toArray, List.set_cons_zero, List.set_cons_succ, List.getElem_toArray, List.getElem_cons_succ, List.getElem_cons_zero]
          refine wpAnyH_take (i := 4) (v := ?_) rfl (by kernel_rfl) (by kernel_rfl) (by kernel_rfl) (fun _ _ _ h => h) (Or.inl ⟨by rfl, ?_⟩) (by assumption) ?_
          rotate_left
          · intro w' hSw
            go_simp <;> with_reducible rfl
          try simp only [Act.put, List.setIfInBounds_toArray, List.set_cons_zero, List.set_cons_succ, List.getElem_toArray, List.getElem_cons_succ, List.getElem_cons_zero]
          refine wpAnyH_take (i := 5) (v := ?_) rfl (by kernel_rfl) (by kernel_rfl) (by kernel_rfl) (fun _ _ _ h => h) (Or.inl ⟨by rfl, ?_⟩) (by assumption) ?_
          rotate_left
          · intro w' hSw
            go_simp <;> with_reducible rfl
          try simp only [Act.put, List.setIfInBounds_toArray, List.set_cons_zero, List.set_cons_succ, List.getElem_toArray, List.getElem_cons_succ, List.getElem_cons_zero]
          refine wpAnyH_take (i := 6) (v := ?_) rfl (by kernel_rfl) (by kernel_rfl) (by kernel_rfl) (fun _ _ _ h => h) (Or.inl ⟨by rfl, ?_⟩) (by assumption) ?_
          rotate_left
          · intro w' hSw
            go_simp <;> with_reducible rfl
          try simp only [Act.put, List.setIfInBounds_toArray, List.set_cons_zero, List.set_cons_succ, List.getElem_toArray, List.getElem_cons_succ, List.getElem_cons_zero]
          refine wpAnyH_ready (rs := [7]) (by kernel_rfl) (by simp) ?_
          refine AllReadyH.cons rfl (fun K hK => ?_) AllReadyH.nil
          go_simp
          have kz : Below w3.heap.size w3 (w6.alloc (.cells #[.string ⟨#[]⟩, .slice none 0 0] 25)) := k6.alloc k6.size _
          have ZF : Hid (Blk (w6.alloc (.cells #[.string ⟨#[]⟩, .slice none 0 0] 25)) w6.heap.size #[.string ⟨#[]⟩, .slice none 0 0] 25) := Blk.new _ _ _
          refine hK.out _ _ (by exact KP3.out _ kz) (fun hHeld => ?_)
          clear hK K
          try simp only [Act.put, List.setIfInBounds_toArray, List.set_cons_zero, List.set_cons_succ, List.getElem_toArray, List.getElem_cons_succ, List.getElem_cons_zero]
          have FIN : Hid (RgT w3 p (.pointer (some ⟨w6.heap.size, 0, none⟩)) (.bool ok) (w6.alloc (.cells #[.string z.name, .slice az z.args.length cz] 25))) := ⟨w6.heap.size, az, cz, ok, z, ls, rfl, rfl, BxT.new S6.out, k6.alloc k6.size _, HLS.out, HZ6.out⟩
          have HSF : Hid ((w6.alloc (.cells #[.string z.name, .slice az z.args.length cz] 25)).cell? ⟨PP, 0, none⟩ = some (.string p.name) ∧ (w6.alloc (.cells #[.string z.name, .slice az z.args.length cz] 25)).cell? ⟨PP, 1, none⟩ = some (.slice ap p.args.length cp)) := KP3.out _ (k6.alloc k6.size _)
          refine wpAnyH_ready (rs := [8]) (by kernel_rfl) (by simp) ?_
          refine AllReadyH.cons rfl (fun K hK => ?_) AllReadyH.nil
          go_simp
          refine hK.out _ _ (by exact HSF.out) (fun hHeld => ?_)
          clear hK K
          try simp only [Act.put, List.setIfInBounds_toArray, List.set_cons_zero, List.set_cons_succ, List.getElem_toArray, List.getElem_cons_succ, List.getElem_cons_zero]
          refine wpAnyH_take (i := 9) (v := ?_) rfl (by kernel_rfl) (by kernel_rfl) (by kernel_rfl) (fun _ _ _ h => h) (Or.inl ⟨by rfl, ?_⟩) (by assumption) ?_
          rotate_left
          · intro w' hSw
            go_simp <;> with_reducible rfl
          try simp only [Act.put, List.setIfInBounds_toArray, List.set_cons_zero, List.set_cons_succ, List.getElem_toArray, List.getElem_cons_succ, List.getElem_cons_zero]
          refine wpAnyH_done (by kernel_rfl) ?_ _
          go_wp2_with fail
          go_meet
          exact FIN.out
        · go_simp
          have kz : Below w3.heap.size w3 (w5.alloc (.cells #[.string ⟨#[]⟩, .slice none 0 0] 25)) := k5.alloc k5.size _
          have Z5 : Hid (Blk (w5.alloc (.cells #[.string ⟨#[]⟩, .slice none 0 0] 25)) w5.heap.size #[.string ⟨#[]⟩, .slice none 0 0] 25) := Blk.new _ _ _
          refine hK.out _ _ (by exact KP3.out _ kz) (fun hHeld => ?_)
          clear hK K
          try simp only [Act.put, List.setIfInBounds_toArray, List.set_cons_zero, List.set_cons_succ, List.getElem_toArray, List.getElem_cons_succ, List.getElem_cons_zero]
          refine wpAnyH_ready (rs := [3]) (by kernel_rfl) (by simp) ?_
          refine AllReadyH.cons rfl (fun K hK => ?_) AllReadyH.nil
          go_simp
          go_at_call 6
          refine (onW_any ls p _ _ _ (fun b => b ≠ w5.heap.size) (((V5.out.mono (Y := fun b => b ≠ w5.heap.size) fun b _ h => by omega).later (one1 w5 _))) ((VP3.out _ kz).mono fun b h _ => by have := k5.size; omega) (by have := HZP.out; omega)).mono ?_
          rintro e w6 ⟨z, az, cz, ok, rfl, hs6, hz6, hb6⟩
          have k6 : Below w3.heap.size w3 w6 := kz.trans (hb6.mono kz.size)
          have S6 := hide hs6
          have HZ6 := hide hz6
          have Z6 := hide (Z5.out.below hb6 Z5.out.lt)
          have hzz6 := hb6.size
          clear hs6 hz6 hb6
          go_simp
          refine hK.out _ _ (by exact KP3.out _ k6) (fun hHeld => ?_)
          clear hK K
          try simp only [Act.put, List.setIfInBounds_toArray, List.set_cons_zero, List.set_cons_succ, List.getElem_toArray, List.getElem_cons_succ, List.getElem_cons_zero]
          refine wpAnyH_take (i := 4) (v := ?_) rfl (by kernel_rfl) (by kernel_rfl) (by kernel_rfl) (fun _ _ _ h => h) (Or.inl ⟨by rfl, ?_⟩) (by assumption) ?_
          rotate_left
          · intro w' hSw
            go_simp <;> with_reducible rfl
          try simp only [Act.put, List.setIfInBounds_toArray, List.set_cons_zero, List.set_cons_succ, List.getElem_toArray, List.getElem_cons_succ, List.getElem_cons_zero]
          refine wpAnyH_take (i := 5) (v := ?_) rfl (by kernel_rfl) (by kernel_rfl) (by kernel_rfl) (fun _ _ _ h => h) (Or.inl ⟨by rfl, ?_⟩) (by assumption) ?_
          rotate_left
          · intro w' hSw
            go_simp <;> with_reducible rfl
          try simp only [Act.put, List.setIfInBounds_toArray, List.set_cons_zero, List.set_cons_succ, List.getElem_toArray, List.getElem_cons_succ, List.getElem_cons_zero]
          refine wpAnyH_take (i := 6) (v := ?_) rfl (by kernel_rfl) (by kernel_rfl) (by kernel_rfl) (fun _ _ _ h => h) (Or.inl ⟨by rfl, ?_⟩) (by assumption) ?_
          rotate_left
          · intro w' hSw
            go_simp <;> with_reducible rfl
          try simp only [Act.put, List.setIfInBounds_toArray, List.set_cons_zero, List.set_cons_succ, List.getElem_toArray, List.getElem_cons_succ, List.getElem_cons_zero]
          have ZF := hide Z6.out
          have FIN := hide (rgT_fin (w := w3) (p := p) (c := cz) ZF.out (S6.out.mono fun b h _ => by rcases h with h | h; exact h.1; simp at h; omega) (k6) (k5.size) HLS.out HZ6.out)
          have f0 := ZF.out.cell 0
          have f1 := ZF.out.cell 1
          have ff := ZF.out.frozen
          have fl := ZF.out.lt
          have HSF : Hid (((w6.setCell ⟨w5.heap.size, 0, none⟩ (.string z.name)).setCell ⟨w5.heap.size, 1, none⟩ (.slice az z.args.length cz)).cell? ⟨PP, 0, none⟩ = some (.string p.name) ∧ ((w6.setCell ⟨w5.heap.size, 0, none⟩ (.string z.name)).setCell ⟨w5.heap.size, 1, none⟩ (.slice az z.args.length cz)).cell? ⟨PP, 1, none⟩ = some (.slice ap p.args.length cp)) := by
            have hPl := P3.out.1.lt
            have hA : w3.heap.size ≤ w5.heap.size := k5.size
            have k := (((P3.out.1).below (k6) hPl).setOther (b' := w5.heap.size) 0 (.string z.name) (by omega)).setOther (b' := w5.heap.size) 1 (.slice az z.args.length cz) (by omega)
            exact ⟨k.cell 0, k.cell 1⟩
          refine wpAnyH_ready (rs := [8]) (by kernel_rfl) (by simp) ?_
          refine AllReadyH.cons rfl (fun K hK => ?_) AllReadyH.nil
          go_simp
          refine hK.out _ _ (by exact HSF.out) (fun hHeld => ?_)
          clear hK K
          try simp only [Act.put, List.setIfInBounds_toArray, List.set_cons_zero, List.set_cons_succ, List.getElem_toArray, List.getElem_cons_succ, List.getElem_cons_zero]
          refine wpAnyH_take (i := 9) (v := ?_) rfl (by kernel_rfl) (by kernel_rfl) (by kernel_rfl) (fun _ _ _ h => h) (Or.inl ⟨by rfl, ?_⟩) (by assumption) ?_
          rotate_left
          · intro w' hSw
            go_simp <;> with_reducible rfl
          try simp only [Act.put, List.setIfInBounds_toArray, List.set_cons_zero, List.set_cons_succ, List.getElem_toArray, List.getElem_cons_succ, List.getElem_cons_zero]
          refine wpAnyH_done (by kernel_rfl) ?_ _
          clear f0 f1 ff fl
          go_wp2_with fail
          go_meet
          exact FIN.out
      · go_simp
        have kz : Below w3.heap.size w3 (w3.drew.alloc (.cells #[.string ⟨#[]⟩, .slice none 0 0] 25)) := kd3.alloc kd3.size _
        have Z4 : Hid (Blk (w3.drew.alloc (.cells #[.string ⟨#[]⟩, .slice none 0 0] 25)) w3.heap.size #[.string ⟨#[]⟩, .slice none 0 0] 25) := Blk.new _ _ _
        refine hK.out _ _ (by exact KP3.out _ kz) (fun hHeld => ?_)
        clear hK K
        try simp only [Act.put, List.setIfInBounds_toArray, List.set_cons_zero, List.set_cons_succ, List.getElem_toArray, List.getElem_cons_succ, List.getElem_cons_zero]
        refine wpAnyH_ready (rs := [1]) (by kernel_rfl) (by simp) ?_
        refine AllReadyH.cons rfl (fun K hK => ?_) AllReadyH.nil
        go_simp
        go_at_call 7
        refine (bindsFrom_any 3 (by decide) (by decide) zs HRG.out (by omega) 5 30 _ _ X (UV3.out _ kz) (by omega) (by unfold top; split <;> omega)).mono ?_
        rintro e w5 ⟨vb, ls, rfl, hv5, hsub, hsz5, hb5⟩
        have k5 : Below w3.heap.size w3 w5 := kz.trans (hb5.mono kz.size)
        have HLS : Hid (bindsE ls = 0) := four_E hsub (fun d hd => ⟨by have := (hsz5 d hd).1; have : top 5 ≤ 9 := (by unfold top; split <;> omega); omega, (hsz5 d hd).2⟩)
        have V5 := hide hv5
        have Z5 := hide (Z4.out.below hb5 Z4.out.lt)
        have hz45 := hb5.size
        clear hv5 hsub hsz5 hb5
        go_simp
        refine hK.out _ _ (by exact KP3.out _ k5) (fun hHeld => ?_)
        clear hK K
        try simp only [Act.put, List.setIfInBounds_toArray, List.set_cons_zero, List.set_cons_succ, List.getElem_toArray, List.getElem_cons_succ, List.getElem_cons_zero]
        refine wpAnyH_ready (rs := [3]) (by kernel_rfl) (by simp) ?_
        refine AllReadyH.cons rfl (fun K hK => ?_) AllReadyH.nil
        go_simp
        go_at_call 6
        refine (onW_any ls p _ _ _ (fun b => b ≠ w3.heap.size) (V5.out.mono fun b h _ => by simp at h; omega) ((VP3.out _ k5).mono fun b h _ => by omega) (by have := HZP.out; omega)).mono ?_
        rintro e w6 ⟨z, az, cz, ok, rfl, hs6, hz6, hb6⟩
        have k6 : Below w3.heap.size w3 w6 := k5.trans (hb6.mono k5.size)
        have S6 := hide hs6
        have HZ6 := hide hz6
        have Z6 := hide (Z5.out.below hb6 Z5.out.lt)
        have hzz6 := hb6.size
        clear hs6 hz6 hb6
        go_simp
        refine hK.out _ _ (by exact KP3.out _ k6) (fun hHeld => ?_)
        clear hK K
        try simp only [Act.put, List.setIfInBounds_toArray, List.set_cons_zero, List.set_cons_succ, List.getElem_toArray, List.getElem_cons_succ, List.getElem_cons_zero]
        refine wpAnyH_take (i := 4) (v := ?_) rfl (by kernel_rfl) (by kernel_rfl) (by kernel_rfl) (fun _ _ _ h => h) (Or.inl ⟨by rfl, ?_⟩) (by assumption) ?_
        rotate_left
        · intro w' hSw
          go_simp <;> with_reducible rfl
        try simp only [Act.put, List.setIfInBounds_toArray, List.set_cons_zero, List.set_cons_succ, List.getElem_toArray, List.getElem_cons_succ, List.getElem_cons_zero]
        refine wpAnyH_take (i := 5) (v := ?_) rfl (by kernel_rfl) (by kernel_rfl) (by kernel_rfl) (fun _ _ _ h => h) (Or.inl ⟨by rfl, ?_⟩) (by assumption) ?_
        rotate_left
        · intro w' hSw
          go_simp <;> with_reducible rfl
        try simp only [Act.put, List.setIfInBounds_toArray, List.set_cons_zero, List.set_cons_succ, List.getElem_toArray, List.getElem_cons_succ, List.getElem_cons_zero]
        refine wpAnyH_take (i := 6) (v := ?_) rfl (by kernel_rfl) (by kernel_rfl) (by kernel_rfl) (fun _ _ _ h => h) (Or.inl ⟨by rfl, ?_⟩) (by assumption) ?_
        rotate_left
        · intro w' hSw
          go_simp <;> with_reducible rfl
        try simp only [Act.put, List.setIfInBounds_toArray, List.set_cons_zero, List.set_cons_succ, List.getElem_toArray, List.getElem_cons_succ, List.getElem_cons_zero]
        have ZF := hide Z6.out
        have FIN := hide (rgT_fin (w := w3) (p := p) (c := cz) ZF.out (S6.out.mono fun b h _ => by rcases h with h | h; exact h.1; simp at hz45; omega) (k6) (Nat.le_refl _) HLS.out HZ6.out)
        have f0 := ZF.out.cell 0
        have f1 := ZF.out.cell 1
        have ff := ZF.out.frozen
        have fl := ZF.out.lt
        have HSF : Hid (((w6.setCell ⟨w3.heap.size, 0, none⟩ (.string z.name)).setCell ⟨w3.heap.size, 1, none⟩ (.slice az z.args.length cz)).cell? ⟨PP, 0, none⟩ = some (.string p.name) ∧ ((w6.setCell ⟨w3.heap.size, 0, none⟩ (.string z.name)).setCell ⟨w3.heap.size, 1, none⟩ (.slice az z.args.length cz)).cell? ⟨PP, 1, none⟩ = some (.slice ap p.args.length cp)) := by
          have hPl := P3.out.1.lt
          have hA : w3.heap.size ≤ w3.heap.size := Nat.le_refl _
          have k := (((P3.out.1).below (k6) hPl).setOther (b' := w3.heap.size) 0 (.string z.name) (by omega)).setOther (b' := w3.heap.size) 1 (.slice az z.args.length cz) (by omega)
          exact ⟨k.cell 0, k.cell 1⟩
        refine wpAnyH_ready (rs := [8]) (by kernel_rfl) (by simp) ?_
        refine AllReadyH.cons rfl (fun K hK => ?_) AllReadyH.nil
        go_simp
        refine hK.out _ _ (by exact HSF.out) (fun hHeld => ?_)
        clear hK K
        try simp only [Act.put, List.setIfInBounds_toArray, List.set_cons_zero, List.set_cons_succ, List.getElem_toArray, List.getElem_cons_succ, List.getElem_cons_zero]
        refine wpAnyH_take (i := 9) (v := ?_) rfl (by kernel_rfl) (by kernel_rfl) (by kernel_rfl) (fun _ _ _ h => h) (Or.inl ⟨by rfl, ?_⟩) (by assumption) ?_
        rotate_left
        · intro w' hSw
          go_simp <;> with_reducible rfl
        try simp only [Act.put, List.setIfInBounds_toArray, List.set_cons_zero, List.set_cons_succ, List.getElem_toArray, List.getElem_cons_succ, List.getElem_cons_zero]
        refine wpAnyH_done (by kernel_rfl) ?_ _
        clear f0 f1 ff fl
        go_wp2_with fail
        go_meet
        exact FIN.out
    case rest =>
      obtain ⟨AA, aa, ca, ok1, a, ls1, rfl, rfl, hA, hb, hl, hz⟩ := hcut
      rename World => w4
      have A4 := hide hA
      have HL1 := hide hl
      have HA1 := hide hz
      have P4 := hide (P3.out.later hb)
      have HU4 := hide (UV3.out _ hb)
      have HB4 := hide (HB3.out.trans (hb.mono HB3.out.size))
      clear hA hl hz hb KP3 VP3 UV3 kd3 HSd3 P3 HB3
      have KP4 : Hid (∀ w', Below w4.heap.size w4 w' → w'.cell? ⟨PP, 0, none⟩ = some (.string p.name) ∧ w'.cell? ⟨PP, 1, none⟩ = some (.slice ap p.args.length cp)) := fun w' hb => (P4.out.later hb).cs
      have VP4 : Hid (∀ w', Below w4.heap.size w4 w' → TV w' (fun b => b < w4.heap.size) (.agg #[.string p.name, .slice ap p.args.length cp]) p) := fun w' hb => ⟨ap, cp, rfl, (P4.out.2.mono (Y := fun b => b < w4.heap.size) fun b _ h => h).later hb⟩
      have UV4 : Hid (∀ w', Below w4.heap.size w4 w' → PV w' X (.slice ua zs.length uc) zs) := fun w' hb => HU4.out.later hb
      have kd4 : Below w4.heap.size w4 w4.drew := (Below.refl _ _).drew
      have HSd4 := hide (KP4.out _ kd4)
      go_upto_region 5 with fail
      go_cut [8, 9] (fun P Q w5 => RgT w4 p P Q w5)
      case first =>
        refine wp_region_held_drew (S := (fun w' => w'.cell? ⟨PP, 0, none⟩ = some (.string p.name) ∧ w'.cell? ⟨PP, 1, none⟩ = some (.slice ap p.args.length cp))) (by kernel_rfl) HSd4.out (fun hHeld => ?_)
        refine wpAnyH_take (i := 0) (v := ?_) rfl (by kernel_rfl) (by kernel_rfl) (by kernel_rfl) (fun _ _ _ h => h) (Or.inl ⟨by rfl, ?_⟩) (by assumption) ?_
        rotate_left
        · intro w' hSw
          go_simp <;> with_reducible rfl
        try simp only [Act.put, List.setIfInBounds_toArray, List.set_cons_zero, List.set_cons_succ, List.getElem_toArray, List.getElem_cons_succ, List.getElem_cons_zero]
        refine wpAnyH_take (i := 2) (v := ?_) rfl (by kernel_rfl) (by kernel_rfl) (by kernel_rfl) (fun _ _ _ h => h) (Or.inl ⟨by rfl, ?_⟩) (by assumption) ?_
        rotate_left
        · intro w' hSw
          obtain ⟨x0, x1⟩ := hSw
          go_simp <;> with_reducible rfl
        try simp only [Act.put, List.setIfInBounds_toArray, List.set_cons_zero, List.set_cons_succ, List.getElem_toArray, List.getElem_cons_succ, List.getElem_cons_zero]
        refine wpAnyH_ready (rs := [1, 7]) (by kernel_rfl) (by simp) ?_
        refine AllReadyH.cons rfl (fun K hK => ?_) (AllReadyH.cons rfl (fun K hK => ?_) AllReadyH.nil)
        · go_simp
          go_at_call 7
          refine (bindsFrom_any 3 (by decide) (by decide) zs HRG.out (by omega) 5 70 _ _ X (UV4.out _ kd4) (by omega) (by unfold top; split <;> omega)).mono ?_
          rintro e w5 ⟨vb, ls, rfl, hv5, hsub, hsz5, hb5⟩
          have k5 : Below w4.heap.size w4 w5 := kd4.trans (hb5.mono kd4.size)
          have HLS : Hid (bindsE ls = 0) := four_E hsub (fun d hd => ⟨by have := (hsz5 d hd).1; have : top 5 ≤ 9 := (by unfold top; split <;> omega); omega, (hsz5 d hd).2⟩)
          have V5 := hide hv5
          clear hv5 hsub hsz5 hb5
          go_simp
          refine hK.out _ _ (by exact KP4.out _ k5) (fun hHeld => ?_)
          clear hK K
          try simp only [Act.put, List.setIfInBounds_toArray, List.set_cons_zero, List.set_cons_succ, List.getElem_toArray, List.getElem_cons_succ, List.getElem_cons_zero]
          refine wpAnyH_ready (rs := [3, 7]) (by kernel_rfl) (by simp) ?_
          refine AllReadyH.cons rfl (fun K hK => ?_) (AllReadyH.cons rfl (fun K hK => ?_) AllReadyH.nil)
          · go_simp
            go_at_call 6
            refine (onW_any ls p _ _ _ (fun _ => True) (V5.out.mono fun _ _ _ => trivial) ((VP4.out _ k5).mono fun _ _ _ => trivial) (by have := HZP.out; omega)).mono ?_
            rintro e w6 ⟨z, az, cz, ok, rfl, hs6, hz6, hb6⟩
            have k6 : Below w4.heap.size w4 w6 := k5.trans (hb6.mono k5.size)
            have S6 := hide hs6
            have HZ6 := hide hz6
            clear hs6 hz6 hb6
            go_simp
            refine hK.out _ _ (by exact KP4.out _ k6) (fun hHeld => ?_)
            clear hK K
            try simp only [Act.put, List.setIfInBounds_toArray, List.set_cons_zero, List.set_cons_succ, List.getElem_toArray, List.getElem_cons_succ, List.getElem_cons_zero]
            refine wpAnyH_take (i := 4) (v := ?_) rfl (by kernel_rfl) (by kernel_rfl) (by kernel_rfl) (fun _ _ _ h => h) (Or.inl ⟨by rfl, ?_⟩) (by assumption) ?_
            rotate_left
            · intro w' hSw
              go_simp <;> with_reducible rfl
            try simp only [Act.put, List.setIfInBounds_toArray, List.set_cons_zero, List.set_cons_succ, List.getElem_toArray, List.getElem_cons_succ, List.getElem_cons_zero]
            refine wpAnyH_take (i := 5) (v := ?_) rfl (by kernel_rfl) (by kernel_rfl) (by kernel_rfl) (fun _ _ _ h => h) (Or.inl ⟨by rfl, ?_⟩) (by assumption) ?_
            rotate_left
            · intro w' hSw
              go_simp <;> with_reducible rfl
            try simp only [Act.put, List.setIfInBounds_toArray, List.set_cons_zero, List.set_cons_succ, List.getElem_toArray, List.getElem_cons_succ, List.getElem_cons_zero]
            refine wpAnyH_take (i := 6) (v := ?_) rfl (by kernel_rfl) (by kernel_rfl) (by kernel_rfl) (fun _ _ _ h => h) (Or.inl ⟨by rfl, ?_⟩) (by assumption) ?_
            rotate_left
            · intro w' hSw
              go_simp <;> with_reducible rfl
            try simp only [Act.put, List.setIfInBounds_toArray, List.set_cons_zero, List.set_cons_succ, List.getElem_toArray, List.getElem_cons_succ, List.getElem_cons_zero]
            refine wpAnyH_ready (rs := [7]) (by kernel_rfl) (by simp) ?_
            refine AllReadyH.cons rfl (fun K hK => ?_) AllReadyH.nil
            go_simp
            have kz : Below w4.heap.size w4 (w6.alloc (.cells #[.string ⟨#[]⟩, .slice none 0 0] 25)) := k6.alloc k6.size _
            have ZF : Hid (Blk (w6.alloc (.cells #[.string ⟨#[]⟩, .slice none 0 0] 25)) w6.heap.size #[.string ⟨#[]⟩, .slice none 0 0] 25) := Blk.new _ _ _
            refine hK.out _ _ (by exact KP4.out _ kz) (fun hHeld => ?_)
            clear hK K
            try simp only [Act.put, List.setIfInBounds_toArray, List.set_cons_zero, List.set_cons_succ, List.getElem_toArray, List.getElem_cons_succ, List.getElem_cons_zero]
            have FIN : Hid (RgT w4 p (.pointer (some ⟨w6.heap.size, 0, none⟩)) (.bool ok) (w6.alloc (.cells #[.string z.name, .slice az z.args.length cz] 25))) := ⟨w6.heap.size, az, cz, ok, z, ls, rfl, rfl, BxT.new S6.out, k6.alloc k6.size _, HLS.out, HZ6.out⟩
            have HSF : Hid ((w6.alloc (.cells #[.string z.name, .slice az z.args.length cz] 25)).cell? ⟨PP, 0, none⟩ = some (.string p.name) ∧ (w6.alloc (.cells #[.string z.name, .slice az z.args.length cz] 25)).cell? ⟨PP, 1, none⟩ = some (.slice ap p.args.length cp)) := KP4.out _ (k6.alloc k6.size _)
            refine wpAnyH_ready (rs := [8]) (by kernel_rfl) (by simp) ?_
            refine AllReadyH.cons rfl (fun K hK => ?_) AllReadyH.nil
            go_simp
            refine hK.out _ _ (by exact HSF.out) (fun hHeld => ?_)
            clear hK K
            try simp only [Act.put, List.setIfInBounds_toArray, List.set_cons_zero, List.set_cons_succ, List.getElem_toArray, List.getElem_cons_succ, List.getElem_cons_zero]
            refine wpAnyH_take (i := 9) (v := ?_) rfl (by kernel_rfl) (by kernel_rfl) (by kernel_rfl) (fun _ _ _ h => h) (Or.inl ⟨by rfl, ?_⟩) (by assumption) ?_
            rotate_left
            · intro w' hSw
              go_simp <;> with_reducible rfl
            try simp only [Act.put, List.setIfInBounds_toArray, List.set_cons_zero, List.set_cons_succ, List.getElem_toArray, List.getElem_cons_succ, List.getElem_cons_zero]
            refine wpAnyH_done (by kernel_rfl) ?_ _
            go_wp2_with fail
            go_meet
            exact FIN.out
          · go_simp
            have kz : Below w4.heap.size w4 (w5.alloc (.cells #[.string ⟨#[]⟩, .slice none 0 0] 25)) := k5.alloc k5.size _
            have Z5 : Hid (Blk (w5.alloc (.cells #[.string ⟨#[]⟩, .slice none 0 0] 25)) w5.heap.size #[.string ⟨#[]⟩, .slice none 0 0] 25) := Blk.new _ _ _
            refine hK.out _ _ (by exact KP4.out _ kz) (fun hHeld => ?_)
            clear hK K
            try simp only [Act.put, List.setIfInBounds_toArray, List.set_cons_zero, List.set_cons_succ, List.getElem_toArray, List.getElem_cons_succ, List.getElem_cons_zero]
            refine wpAnyH_ready (rs := [3]) (by kernel_rfl) (by simp) ?_
            refine AllReadyH.cons rfl (fun K hK => ?_) AllReadyH.nil
            go_simp
            go_at_call 6
            refine (onW_any ls p _ _ _ (fun b => b ≠ w5.heap.size) (((V5.out.mono (Y := fun b => b ≠ w5.heap.size) fun b _ h => by omega).later (one1 w5 _))) ((VP4.out _ kz).mono fun b h _ => by have := k5.size; omega) (by have := HZP.out; omega)).mono ?_
            rintro e w6 ⟨z, az, cz, ok, rfl, hs6, hz6, hb6⟩
            have k6 : Below w4.heap.size w4 w6 := kz.trans (hb6.mono kz.size)
            have S6 := hide hs6
            have HZ6 := hide hz6
            have Z6 := hide (Z5.out.below hb6 Z5.out.lt)
            have hzz6 := hb6.size
            clear hs6 hz6 hb6
            go_simp
            refine hK.out _ _ (by exact KP4.out _ k6) (fun hHeld => ?_)
            clear hK K
            try simp only [Act.put, List.setIfInBounds_toArray, List.set_cons_zero, List.set_cons_succ, List.getElem_toArray, List.getElem_cons_succ, List.getElem_cons_zero]
            refine wpAnyH_take (i := 4) (v := ?_) rfl (by kernel_rfl) (by kernel_rfl) (by kernel_rfl) (fun _ _ _ h => h) (Or.inl ⟨by rfl, ?_⟩) (by assumption) ?_
            rotate_left
            · intro w' hSw
              go_simp <;> with_reducible rfl
            try simp only [Act.put, List.setIfInBounds_toArray, List.set_cons_zero, List.set_cons_succ, List.getElem_toArray, List.getElem_cons_succ, List.getElem_cons_zero]
            refine wpAnyH_take (i := 5) (v := ?_) rfl (by kernel_rfl) (by kernel_rfl) (by kernel_rfl) (fun _ _ _ h => h) (Or.inl ⟨by rfl, ?_⟩) (by assumption) ?_
            rotate_left
            · intro w' hSw
              go_simp <;> with_reducible rfl
            try simp only [Act.put, List.setIfInBounds_toArray, List.set_cons_zero, List.set_cons_succ, List.getElem_toArray, List.getElem_cons_succ, List.getElem_cons_zero]
            refine wpAnyH_take (i := 6) (v := ?_) rfl (by kernel_rfl) (by kernel_rfl) (by kernel_rfl) (fun _ _ _ h => h) (Or.inl ⟨by rfl, ?_⟩) (by assumption) ?_
            rotate_left
            · intro w' hSw
              go_simp <;> with_reducible rfl
            try simp only [Act.put, List.setIfInBounds_toArray, List.set_cons_zero, List.set_cons_succ, List.getElem_toArray, List.getElem_cons_succ, List.getElem_cons_zero]
            have ZF := hide Z6.out
            have FIN := hide (rgT_fin (w := w4) (p := p) (c := cz) ZF.out (S6.out.mono fun b h _ => by rcases h with h | h; exact h.1; simp at h; omega) (k6) (k5.size) HLS.out HZ6.out)
            have f0 := ZF.out.cell 0
            have f1 := ZF.out.cell 1
            have ff := ZF.out.frozen
            have fl := ZF.out.lt
            have HSF : Hid (((w6.setCell ⟨w5.heap.size, 0, none⟩ (.string z.name)).setCell ⟨w5.heap.size, 1, none⟩ (.slice az z.args.length cz)).cell? ⟨PP, 0, none⟩ = some (.string p.name) ∧ ((w6.setCell ⟨w5.heap.size, 0, none⟩ (.string z.name)).setCell ⟨w5.heap.size, 1, none⟩ (.slice az z.args.length cz)).cell? ⟨PP, 1, none⟩ = some (.slice ap p.args.length cp)) := by
              have hPl := P4.out.1.lt
              have hA : w4.heap.size ≤ w5.heap.size := k5.size
              have k := (((P4.out.1).below (k6) hPl).setOther (b' := w5.heap.size) 0 (.string z.name) (by omega)).setOther (b' := w5.heap.size) 1 (.slice az z.args.length cz) (by omega)
              exact ⟨k.cell 0, k.cell 1⟩
            refine wpAnyH_ready (rs := [8]) (by kernel_rfl) (by simp) ?_
            refine AllReadyH.cons rfl (fun K hK => ?_) AllReadyH.nil
            go_simp
            refine hK.out _ _ (by exact HSF.out) (fun hHeld => ?_)
            clear hK K
            try simp only [Act.put, List.setIfInBounds_toArray, List.set_cons_zero, List.set_cons_succ, List.getElem_toArray, List.getElem_cons_succ, List.getElem_cons_zero]
            refine wpAnyH_take (i := 9) (v := ?_) rfl (by kernel_rfl) (by kernel_rfl) (by kernel_rfl) (fun _ _ _ h => h) (Or.inl ⟨by rfl, ?_⟩) (by assumption) ?_
            rotate_left
            · intro w' hSw
              go_simp <;> with_reducible rfl
            try simp only [Act.put, List.setIfInBounds_toArray, List.set_cons_zero, List.set_cons_succ, List.getElem_toArray, List.getElem_cons_succ, List.getElem_cons_zero]
            refine wpAnyH_done (by kernel_rfl) ?_ _
            clear f0 f1 ff fl
            go_wp2_with fail
            go_meet
            exact FIN.out
        · go_simp
          have kz : Below w4.heap.size w4 (w4.drew.alloc (.cells #[.string ⟨#[]⟩, .slice none 0 0] 25)) := kd4.alloc kd4.size _
          have Z4 : Hid (Blk (w4.drew.alloc (.cells #[.string ⟨#[]⟩, .slice none 0 0] 25)) w4.heap.size #[.string ⟨#[]⟩, .slice none 0 0] 25) := Blk.new _ _ _
          refine hK.out _ _ (by exact KP4.out _ kz) (fun hHeld => ?_)
          clear hK K
          try simp only [Act.put, List.setIfInBounds_toArray, List.set_cons_zero, List.set_cons_succ, List.getElem_toArray, List.getElem_cons_succ, List.getElem_cons_zero]
          refine wpAnyH_ready (rs := [1]) (by kernel_rfl) (by simp) ?_
          refine AllReadyH.cons rfl (fun K hK => ?_) AllReadyH.nil
          go_simp
          go_at_call 7
          refine (bindsFrom_any 3 (by decide) (by decide) zs HRG.out (by omega) 5 70 _ _ X (UV4.out _ kz) (by omega) (by unfold top; split <;> omega)).mono ?_
          rintro e w5 ⟨vb, ls, rfl, hv5, hsub, hsz5, hb5⟩
          have k5 : Below w4.heap.size w4 w5 := kz.trans (hb5.mono kz.size)
          have HLS : Hid (bindsE ls = 0) := four_E hsub (fun d hd => ⟨by have := (hsz5 d hd).1; have : top 5 ≤ 9 := (by unfold top; split <;> omega); omega, (hsz5 d hd).2⟩)
          have V5 := hide hv5
          have Z5 := hide (Z4.out.below hb5 Z4.out.lt)
          have hz45 := hb5.size
          clear hv5 hsub hsz5 hb5
          go_simp
          refine hK.out _ _ (by exact KP4.out _ k5) (fun hHeld => ?_)
          clear hK K
          try simp only [Act.put, List.setIfInBounds_toArray, List.set_cons_zero, List.set_cons_succ, List.getElem_toArray, List.getElem_cons_succ, List.getElem_cons_zero]
          refine wpAnyH_ready (rs := [3]) (by kernel_rfl) (by simp) ?_
          refine AllReadyH.cons rfl (fun K hK => ?_) AllReadyH.nil
          go_simp
          go_at_call 6
          refine (onW_any ls p _ _ _ (fun b => b ≠ w4.heap.size) (V5.out.mono fun b h _ => by simp at h; omega) ((VP4.out _ k5).mono fun b h _ => by omega) (by have := HZP.out; omega)).mono ?_
          rintro e w6 ⟨z, az, cz, ok, rfl, hs6, hz6, hb6⟩
          have k6 : Below w4.heap.size w4 w6 := k5.trans (hb6.mono k5.size)
          have S6 := hide hs6
          have HZ6 := hide hz6
          have Z6 := hide (Z5.out.below hb6 Z5.out.lt)
          have hzz6 := hb6.size
          clear hs6 hz6 hb6
          go_simp
          refine hK.out _ _ (by exact KP4.out _ k6) (fun hHeld => ?_)
          clear hK K
          try simp only [Act.put, List.setIfInBounds_toArray, List.set_cons_zero, List.set_cons_succ, List.getElem_toArray, List.getElem_cons_succ, List.getElem_cons_zero]
          refine wpAnyH_take (i := 4) (v := ?_) rfl (by kernel_rfl) (by kernel_rfl) (by kernel_rfl) (fun _ _ _ h => h) (Or.inl ⟨by rfl, ?_⟩) (by assumption) ?_
          rotate_left
          · intro w' hSw
            go_simp <;> with_reducible rfl
          try simp only [Act.put, List.setIfInBounds_toArray, List.set_cons_zero, List.set_cons_succ, List.getElem_toArray, List.getElem_cons_succ, List.getElem_cons_zero]
          refine wpAnyH_take (i := 5) (v := ?_) rfl (by kernel_rfl) (by kernel_rfl) (by kernel_rfl) (fun _ _ _ h => h) (Or.inl ⟨by rfl, ?_⟩) (by assumption) ?_
          rotate_left
          · intro w' hSw
            go_simp <;> with_reducible rfl
          try simp only [Act.put, List.setIfInBounds_toArray, List.set_cons_zero, List.set_cons_succ, List.getElem_toArray, List.getElem_cons_succ, List.getElem_cons_zero]
          refine wpAnyH_take (i := 6) (v := ?_) rfl (by kernel_rfl) (by kernel_rfl) (by kernel_rfl) (fun _ _ _ h => h) (Or.inl ⟨by rfl, ?_⟩) (by assumption) ?_
          rotate_left
          · intro w' hSw
            go_simp <;> with_reducible rfl
          try simp only [Act.put, List.setIfInBounds_toArray, List.set_cons_zero, List.set_cons_succ, List.getElem_toArray, List.getElem_cons_succ, List.getElem_cons_zero]
          have ZF := hide Z6.out
          have FIN := hide (rgT_fin (w := w4) (p := p) (c := cz) ZF.out (S6.out.mono fun b h _ => by rcases h with h | h; exact h.1; simp at hz45; omega) (k6) (Nat.le_refl _) HLS.out HZ6.out)
          have f0 := ZF.out.cell 0
          have f1 := ZF.out.cell 1
          have ff := ZF.out.frozen
          have fl := ZF.out.lt
          have HSF : Hid (((w6.setCell ⟨w4.heap.size, 0, none⟩ (.string z.name)).setCell ⟨w4.heap.size, 1, none⟩ (.slice az z.args.length cz)).cell? ⟨PP, 0, none⟩ = some (.string p.name) ∧ ((w6.setCell ⟨w4.heap.size, 0, none⟩ (.string z.name)).setCell ⟨w4.heap.size, 1, none⟩ (.slice az z.args.length cz)).cell? ⟨PP, 1, none⟩ = some (.slice ap p.args.length cp)) := by
            have hPl := P4.out.1.lt
            have hA : w4.heap.size ≤ w4.heap.size := Nat.le_refl _
            have k := (((P4.out.1).below (k6) hPl).setOther (b' := w4.heap.size) 0 (.string z.name) (by omega)).setOther (b' := w4.heap.size) 1 (.slice az z.args.length cz) (by omega)
            exact ⟨k.cell 0, k.cell 1⟩
          refine wpAnyH_ready (rs := [8]) (by kernel_rfl) (by simp) ?_
          refine AllReadyH.cons rfl (fun K hK => ?_) AllReadyH.nil
          go_simp
          refine hK.out _ _ (by exact HSF.out) (fun hHeld => ?_)
          clear hK K
          try simp only [Act.put, List.setIfInBounds_toArray, List.set_cons_zero, List.set_cons_succ, List.getElem_toArray, List.getElem_cons_succ, List.getElem_cons_zero]
          refine wpAnyH_take (i := 9) (v := ?_) rfl (by kernel_rfl) (by kernel_rfl) (by kernel_rfl) (fun _ _ _ h => h) (Or.inl ⟨by rfl, ?_⟩) (by assumption) ?_
          rotate_left
          · intro w' hSw
            go_simp <;> with_reducible rfl
          try simp only [Act.put, List.setIfInBounds_toArray, List.set_cons_zero, List.set_cons_succ, List.getElem_toArray, List.getElem_cons_succ, List.getElem_cons_zero]
          refine wpAnyH_done (by kernel_rfl) ?_ _
          clear f0 f1 ff fl
          go_wp2_with fail
          go_meet
          exact FIN.out
      case rest =>
        obtain ⟨BB, ab, cb, ok2, b, ls2, rfl, rfl, hB, hb, hl, hz⟩ := hcut
        rename World => w5
        have B5 := hide hB
        have HL2 := hide hl
        have HA2 := hide hz
        have P5 := hide (P4.out.later hb)
        have A5 := hide (A4.out.later hb)
        have HB5 := hide (HB4.out.trans (hb.mono HB4.out.size))
        clear hB hl hz hb KP4 VP4 UV4 kd4 HSd4 P4 HB4 A4 HU4
        rcases ok1 with _ | _
        · go_wp2_with fail
          go_ret
          exact ⟨rfl, HB5.out⟩
        rcases ok2 with _ | _
        · go_wp2_with fail
          go_ret
          exact ⟨rfl, HB5.out⟩
        obtain ⟨a0, a1⟩ := A5.out.cs
        obtain ⟨b0, b1⟩ := B5.out.cs
        go_wp2_with fail
        refine (size_any a _ 200 _ _ A5.out.tv (by omega) (by omega)).mono ?_
        rintro e w6 ⟨rfl, hb⟩
        clear a0 a1 b0 b1
        have P6 := hide (P5.out.later hb)
        have A6 := hide (A5.out.later hb)
        have B6 := hide (B5.out.later hb)
        have HB6 := hide (HB5.out.trans (hb.mono HB5.out.size))
        clear hb
        by_cases hza : 200 < sizeL [a]
        · rw [show min ((sizeL [a] : Int)) (200 + 1) = 201 by omega]
          go_wp2_with fail
          go_ret
          exact ⟨rfl, HB6.out⟩
        have HZA : Hid (sizeL [a] ≤ 200) := by unfold Hid; omega
        obtain ⟨qa, hqa⟩ : ∃ q : Int, q = min ((sizeL [a] : Nat) : Int) (200 + 1) := ⟨_, rfl⟩
        have hga : ¬ 200 < qa := by omega
        rw [← hqa]
        clear hqa hza
        obtain ⟨a0, a1⟩ := A6.out.cs
        obtain ⟨b0, b1⟩ := B6.out.cs
        go_wp2_with fail
        refine (size_any b _ 200 _ _ B6.out.tv (by omega) (by omega)).mono ?_
        rintro e w7 ⟨rfl, hb⟩
        clear a0 a1 b0 b1
        have P7 := hide (P6.out.later hb)
        have A7 := hide (A6.out.later hb)
        have B7 := hide (B6.out.later hb)
        have HB7 := hide (HB6.out.trans (hb.mono HB6.out.size))
        clear hb
        by_cases hzb : 200 < sizeL [b]
        · rw [show min ((sizeL [b] : Int)) (200 + 1) = 201 by omega]
          go_wp2_with fail
          go_ret
          exact ⟨rfl, HB7.out⟩
        have HZB : Hid (sizeL [b] ≤ 200) := by unfold Hid; omega
        obtain ⟨qb, hqb⟩ : ∃ q : Int, q = min ((sizeL [b] : Nat) : Int) (200 + 1) := ⟨_, rfl⟩
        have hgb : ¬ 200 < qb := by omega
        rw [← hqb]
        clear hqb hzb
        have HF := hide (plotkin HL1.out HL2.out HEP.out (HA1.out (by trivial)) (HA2.out (by trivial)) HZA.out HZB.out)
        have HMP : Hid (mayE p = 0) := mayE_mk HEP.out HZP.out
        obtain ⟨a0, a1⟩ := A7.out.cs
        obtain ⟨b0, b1⟩ := B7.out.cs
        go_wp2_with fail
        refine (genW_any HSO p a b HF.out.1 HF.out.2.1 HF.out.2.2 _ _ _ _ A7.out.tv B7.out.tv (HT.out _ HB7.out)).mono ?_
        rintro e w8 ⟨t, x, c, xl, cl, xr, cr, ls, rs, rfl, hs, ⟨hvl, hvr⟩, ⟨hln, hmt, hpt, htb, hcs⟩, hsm, hlg, hb⟩
        clear a0 a1 b0 b1
        have P8 := hide (P7.out.later hb)
        have A8 := hide (A7.out.later hb)
        have B8 := hide (B7.out.later hb)
        have HB8 := hide (HB7.out.trans (hb.mono HB7.out.size))
        clear hb
        have HMT := hide hmt
        have HPT := hide hpt
        have HTB := hide htb
        have HCS := hide hcs
        have HLN := hide hln
        have HSM := hide hsm
        have HLG := hide hlg
        have VL8 := hide hvl
        have VR8 := hide hvr
        clear hga hgb hmt hpt htb hcs hln hsm hlg hvl hvr
        have hq := one1 w8 (.cells #[.string t.name, .slice x t.args.length c] 25)
        have T9 := hide (BxT.new (c := c) hs)
        have P9 := hide (P8.out.later hq)
        have A9 := hide (A8.out.later hq)
        have B9 := hide (B8.out.later hq)
        have VL9 := hide (VL8.out.later hq)
        have VR9 := hide (VR8.out.later hq)
        have HB9 := hide (HB8.out.trans (hq.mono HB8.out.size))
        clear hq
        clear hs
        obtain ⟨t0, t1⟩ := T9.out.cs
        go_wp2_with fail
        generalize w8.alloc (.cells #[.string t.name, .slice x t.args.length c] 25) = w9 at *
        generalize w8.heap.size = TT at *
        refine (appW_any ls t _ _ _ _ VL9.out T9.out.tv HMT.out).mono ?_
        rintro e w10 ⟨z1, x1, c1, e1, rfl, hs, hn, hy, hb⟩
        clear t0 t1
        have P10 := hide (P9.out.later hb)
        have A10 := hide (A9.out.later hb)
        have B10 := hide (B9.out.later hb)
        have T10 := hide (T9.out.later hb)
        have VL10 := hide (VL9.out.later hb)
        have VR10 := hide (VR9.out.later hb)
        have HB10 := hide (HB9.out.trans (hb.mono HB9.out.size))
        have HN1 := hide hn
        have HY1 := hide hy
        clear hb hn hy
        have hq := one1 w10 (.cells #[.string z1.name, .slice x1 z1.args.length c1] 25)
        have X11 := hide (BxT.new (c := c1) hs)
        have P11 := hide (P10.out.later hq)
        have A11 := hide (A10.out.later hq)
        have B11 := hide (B10.out.later hq)
        have T11 := hide (T10.out.later hq)
        have VL11 := hide (VL10.out.later hq)
        have VR11 := hide (VR10.out.later hq)
        have HB11 := hide (HB10.out.trans (hq.mono HB10.out.size))
        clear hq
        clear hs
        obtain ⟨t0, t1⟩ := T11.out.cs
        go_wp2_with fail
        generalize w10.alloc (.cells #[.string z1.name, .slice x1 z1.args.length c1] 25) = w11 at *
        generalize w10.heap.size = XX at *
        refine (appW_any rs t _ _ _ _ VR11.out T11.out.tv HMT.out).mono ?_
        rintro e w12 ⟨z2, x2, c2, e2, rfl, hs, hn, hy, hb⟩
        clear t0 t1
        have P12 := hide (P11.out.later hb)
        have A12 := hide (A11.out.later hb)
        have B12 := hide (B11.out.later hb)
        have T12 := hide (T11.out.later hb)
        have X12 := hide (X11.out.later hb)
        have VL12 := hide (VL11.out.later hb)
        have VR12 := hide (VR11.out.later hb)
        have HB12 := hide (HB11.out.trans (hb.mono HB11.out.size))
        have HN2 := hide hn
        have HY2 := hide hy
        clear hb hn hy
        have hq := one1 w12 (.cells #[.string z2.name, .slice x2 z2.args.length c2] 25)
        have Y13 := hide (BxT.new (c := c2) hs)
        have P13 := hide (P12.out.later hq)
        have A13 := hide (A12.out.later hq)
        have B13 := hide (B12.out.later hq)
        have T13 := hide (T12.out.later hq)
        have X13 := hide (X12.out.later hq)
        have VL13 := hide (VL12.out.later hq)
        have VR13 := hide (VR12.out.later hq)
        have HB13 := hide (HB12.out.trans (hq.mono HB12.out.size))
        clear hq
        clear hs
        obtain ⟨p0, p1⟩ := P13.out.cs
        obtain ⟨t0, t1⟩ := T13.out.cs
        go_wp2_with fail
        generalize w12.alloc (.cells #[.string z2.name, .slice x2 z2.args.length c2] 25) = w13 at *
        generalize w12.heap.size = YY at *
        refine (matchW_any p t HMP.out HMT.out _ _ _ _ P13.out.tv T13.out.tv).mono ?_
        rintro e w14 ⟨⟨vm, rfl⟩, hb⟩
        clear p0 p1 t0 t1
        have P14 := hide (P13.out.later hb)
        have A14 := hide (A13.out.later hb)
        have B14 := hide (B13.out.later hb)
        have T14 := hide (T13.out.later hb)
        have X14 := hide (X13.out.later hb)
        have Y14 := hide (Y13.out.later hb)
        have VL14 := hide (VL13.out.later hb)
        have VR14 := hide (VR13.out.later hb)
        have HB14 := hide (HB13.out.trans (hb.mono HB13.out.size))
        clear hb
        rw [HPT.out]
        by_cases h40 : 40 < ls.length
        · have g1 := HN1.out (HLG.out h40).1
          have g2 := HN2.out (HLG.out h40).2
          have g3 : (e2 == 0) = false := beq_eq_false_iff_ne.2 g2
          have g4 : (e1 == 0) = false := beq_eq_false_iff_ne.2 g1
          have g5 : (40 : Int) < (ls.length : Int) := by omega
          clear h40
          obtain ⟨p0, p1⟩ := P14.out.cs
          obtain ⟨a0, a1⟩ := A14.out.cs
          obtain ⟨b0, b1⟩ := B14.out.cs
          obtain ⟨t0, t1⟩ := T14.out.cs
          obtain ⟨x0, x1⟩ := X14.out.cs
          obtain ⟨y0, y1⟩ := Y14.out.cs
          go_wp2_with fail
          refine (same_any t _ _ _ _ _ T14.out.tv T14.out.tv).mono ?_
          rintro e w15 ⟨rfl, hb⟩
          clear p0 p1 a0 a1 b0 b1 t0 t1 x0 x1 y0 y1
          have P15 := hide (P14.out.later hb)
          have A15 := hide (A14.out.later hb)
          have B15 := hide (B14.out.later hb)
          have T15 := hide (T14.out.later hb)
          have X15 := hide (X14.out.later hb)
          have Y15 := hide (Y14.out.later hb)
          have VL15 := hide (VL14.out.later hb)
          have VR15 := hide (VR14.out.later hb)
          have HB15 := hide (HB14.out.trans (hb.mono HB14.out.size))
          clear hb
          go_wp2_with fail
          go_ret
          exact ⟨rfl, HB15.out⟩
        obtain ⟨⟨q1, q2⟩, q3, q4⟩ := HSM.out (by omega)
        obtain ⟨rfl, r1⟩ := HY1.out q1 (by rw [q2]; have := HZA.out; omega)
        obtain ⟨rfl, r2⟩ := HY2.out q3 (by rw [q4]; have := HZB.out; omega)
        rw [q2] at r1
        rw [q4] at r2
        subst r1
        subst r2
        clear q1 q2 q3 q4 h40 HSM HLG HY1 HY2 HN1 HN2
        obtain ⟨p0, p1⟩ := P14.out.cs
        obtain ⟨a0, a1⟩ := A14.out.cs
        obtain ⟨b0, b1⟩ := B14.out.cs
        obtain ⟨t0, t1⟩ := T14.out.cs
        obtain ⟨x0, x1⟩ := X14.out.cs
        obtain ⟨y0, y1⟩ := Y14.out.cs
        go_wp2_with fail
        refine (same_any _ _ _ _ _ _ X14.out.tv A14.out.tv).mono ?_
        rintro e w15 ⟨rfl, hb⟩
        clear p0 p1 a0 a1 b0 b1 t0 t1 x0 x1 y0 y1
        have P15 := hide (P14.out.later hb)
        have A15 := hide (A14.out.later hb)
        have B15 := hide (B14.out.later hb)
        have T15 := hide (T14.out.later hb)
        have X15 := hide (X14.out.later hb)
        have Y15 := hide (Y14.out.later hb)
        have VL15 := hide (VL14.out.later hb)
        have VR15 := hide (VR14.out.later hb)
        have HB15 := hide (HB14.out.trans (hb.mono HB14.out.size))
        clear hb
        obtain ⟨p0, p1⟩ := P15.out.cs
        obtain ⟨a0, a1⟩ := A15.out.cs
        obtain ⟨b0, b1⟩ := B15.out.cs
        obtain ⟨t0, t1⟩ := T15.out.cs
        obtain ⟨x0, x1⟩ := X15.out.cs
        obtain ⟨y0, y1⟩ := Y15.out.cs
        go_wp2_with fail
        refine (same_any _ _ _ _ _ _ Y15.out.tv B15.out.tv).mono ?_
        rintro e w16 ⟨rfl, hb⟩
        clear p0 p1 a0 a1 b0 b1 t0 t1 x0 x1 y0 y1
        have P16 := hide (P15.out.later hb)
        have A16 := hide (A15.out.later hb)
        have B16 := hide (B15.out.later hb)
        have T16 := hide (T15.out.later hb)
        have X16 := hide (X15.out.later hb)
        have Y16 := hide (Y15.out.later hb)
        have VL16 := hide (VL15.out.later hb)
        have VR16 := hide (VR15.out.later hb)
        have HB16 := hide (HB15.out.trans (hb.mono HB15.out.size))
        clear hb
        obtain ⟨p0, p1⟩ := P16.out.cs
        obtain ⟨a0, a1⟩ := A16.out.cs
        obtain ⟨b0, b1⟩ := B16.out.cs
        obtain ⟨t0, t1⟩ := T16.out.cs
        obtain ⟨x0, x1⟩ := X16.out.cs
        obtain ⟨y0, y1⟩ := Y16.out.cs
        go_wp2_with fail
        refine (matchW_any _ _ HF.out.2.2 HF.out.2.1 _ _ _ _ B16.out.tv A16.out.tv).mono ?_
        rintro e w17 ⟨⟨vn, rfl⟩, hb⟩
        clear p0 p1 a0 a1 b0 b1 t0 t1 x0 x1 y0 y1
        have P17 := hide (P16.out.later hb)
        have A17 := hide (A16.out.later hb)
        have B17 := hide (B16.out.later hb)
        have T17 := hide (T16.out.later hb)
        have X17 := hide (X16.out.later hb)
        have Y17 := hide (Y16.out.later hb)
        have VL17 := hide (VL16.out.later hb)
        have VR17 := hide (VR16.out.later hb)
        have HB17 := hide (HB16.out.trans (hb.mono HB16.out.size))
        clear hb
        obtain ⟨p0, p1⟩ := P17.out.cs
        obtain ⟨a0, a1⟩ := A17.out.cs
        obtain ⟨b0, b1⟩ := B17.out.cs
        obtain ⟨t0, t1⟩ := T17.out.cs
        obtain ⟨x0, x1⟩ := X17.out.cs
        obtain ⟨y0, y1⟩ := Y17.out.cs
        go_wp2_with fail
        refine (variant_any _ _ _ _ _ _ T17.out.tv B17.out.tv).mono ?_
        rintro e w18 ⟨rfl, hb⟩
        clear p0 p1 a0 a1 b0 b1 t0 t1 x0 x1 y0 y1
        have P18 := hide (P17.out.later hb)
        have A18 := hide (A17.out.later hb)
        have B18 := hide (B17.out.later hb)
        have T18 := hide (T17.out.later hb)
        have X18 := hide (X17.out.later hb)
        have Y18 := hide (Y17.out.later hb)
        have VL18 := hide (VL17.out.later hb)
        have VR18 := hide (VR17.out.later hb)
        have HB18 := hide (HB17.out.trans (hb.mono HB17.out.size))
        clear hb
        have h2 : twoE t z2 = 0 := by unfold twoE; rw [if_pos HMT.out]; exact HF.out.2.2
        rw [h2, HTB.out, HCS.out]
        clear h2
        cases mtB z2 t
        · go_wp2_with fail
          go_ret
          exact ⟨rfl, HB18.out⟩
        · go_wp2_with fail
          go_ret
          exact ⟨rfl, HB18.out⟩
end Go.Proofs.YtglcijkhlppjfaaDoor
