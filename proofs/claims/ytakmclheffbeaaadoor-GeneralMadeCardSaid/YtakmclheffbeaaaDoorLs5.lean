/- Walks: the law GeneralMade. -/
import Derived.Test.YtakmclheffbeaaaDoorLs4
import Derived.Test.YtakmclheffbeaaaDoorW81
import Derived.Test.YtakmclheffbeaaaDoorW53
import Derived.Test.YtakmclheffbeaaaDoorW30a
import Derived.Test.YtakmclheffbeaaaDoorW100
import Derived.Test.YtakmclheffbeaaaDoorTmQ
import Derived.Test.YtakmclheffbeaaaDoorBxt
namespace Go.Proofs.YtakmclheffbeaaaDoor
open Go.RowKit
set_option linter.unusedSimpArgs false
set_option linter.unusedVariables false
set_option maxRecDepth 8000

/-- A case of a term in a box. -/
def RgM (w : World) (p : Tm) (P Q : Value) (w' : World) : Prop :=
  ∃ (A : Nat) (a : Option Addr) (c : Nat) (ok : Bool) (z : Tm) (ls : List Bd), P = .pointer (some ⟨A, 0, none⟩) ∧ Q = .bool ok ∧ BxT w' A z a c ∧ Below w.heap.size w w' ∧ bindsE ls = 0 ∧ (ok = true → z = onT ls p)
theorem rgM_fin {w W : World} {A : Nat} {p z : Tm} {a : Option Addr} {c : Nat} {ls : List Bd} {ok : Bool} (hZ : Blk W A #[.string ⟨#[]⟩, .slice none 0 0] 24) (hs : Sl W (fun b => b ≠ A) a z.args) (hb : Below w.heap.size w W) (hA : w.heap.size ≤ A) (hl : bindsE ls = 0) (hz : ok = true → z = onT ls p) :
    RgM w p (.pointer (some ⟨A, 0, none⟩)) (.bool ok) ((W.setCell ⟨A, 0, none⟩ (.string z.name)).setCell ⟨A, 1, none⟩ (.slice a z.args.length c)) :=
  ⟨A, a, c, ok, z, ls, rfl, rfl, ⟨(hZ.set 0 _).set 1 _, (hs.kept fun b h => by rw [Below.heap_setCell _ _ _ _ (by simpa using h), Below.heap_setCell _ _ _ _ (by simpa using h)]).mono fun _ _ _ => trivial⟩, (hb.setCell (p := ⟨A, 0, none⟩) hA _).setCell (p := ⟨A, 1, none⟩) hA _, hl, hz⟩
/-- Terms put in: a term and whether it may be. -/
theorem onM_any (ls : List Bd) (t : Tm) (u v : Value) (w : World) (X : Nat → Prop) (hu : BV w X u ls) (hv : TV w X v t) (hsm : sizeL [t] ≤ 1000000) :
    Calls Tryd.prog 18 #[u, v] w fun e w' => ∃ (z : Tm) (a : Option Addr) (c : Nat) (ok : Bool), e = .returned (.tuple #[.agg #[.string z.name, .slice a z.args.length c], .bool ok]) ∧ Sl w' (fun b => (X b ∧ b < w.heap.size) ∨ w.heap.size ≤ b) a z.args ∧ (ok = true → z = onT ls t) ∧ Below w.heap.size w w' := by
  refine (onAll_any ls t u v w X hu hv hsm).mono ?_
  rintro e w' ⟨hb, ⟨h, rfl⟩ | ⟨h, a, c, rfl, hs⟩⟩
  · exact ⟨⟨⟨#[]⟩, []⟩, none, 0, false, rfl, ⟨by simp, Or.inl rfl⟩, by simp, hb⟩
  · exact ⟨_, a, c, true, rfl, hs, fun _ => rfl, hb⟩

set_option maxHeartbeats 16000000 in
theorem generalMade_any (HSORT : Hid SortBinds) (zs : List Int) (hr : ∀ z ∈ zs, Rng z) (y1 : Int) (h1 : Rng y1) (u : Value) (w : World) (X : Nat → Prop) (hu : PV w X u zs) (hT : Tb w.heap.size w) :
    Calls Tryd.prog 4 #[u, .int .i64 y1] w fun e w' => e = .returned (.bool true) ∧ Below w.heap.size w w' := by
  have HU := hide hu
  have HRG := hide hr
  have HSO := hide HSORT.out
  have HT : Hid (∀ w', Below w.heap.size w w' → Tb w'.heap.size w') := fun w' hb w'' h2 => hT w'' (hb.trans (h2.mono hb.size))
  unfold Rng at h1
  obtain ⟨ua, uc, rfl⟩ : ∃ ua uc, u = .slice ua zs.length uc := by
    obtain ⟨a, c, h, _⟩ := hu
    exact ⟨a, c, h⟩
  clear hu hr hT HSORT
  by_cases hl : 256 < zs.length
  · have hli : (256 : Int) < (zs.length : Int) := by omega
    go_enter Tryd.func4, Tryd.ntmps4
    go_wp2_with fail
    go_ret
    exact ⟨rfl, Below.refl _ _⟩
  · have hli : ¬ (256 : Int) < (zs.length : Int) := by omega
    go_enter Tryd.func4, Tryd.ntmps4
    go_wp2_with fail
    refine (pick_any y1 14 (by omega) (by omega) h1 _).mono ?_
    rintro e w1 ⟨n2, rfl, hn2, rfl⟩
    go_wp2_with fail
    refine (termOf_any 3 (by decide) (by decide) zs HRG.out (by omega) n2 0 _ _ X HU.out (by omega) (by unfold top; split <;> omega)).mono ?_
    rintro e w2 ⟨p, ap, cp, rfl, hs, hz, hb, hep⟩
    have HZP : Hid (sizeL [p] ≤ 200) := by
      have : top n2 ≤ 100 := by unfold top; split <;> omega
      unfold Hid; omega
    have HEP := hide hep
    have HB3 := hide (up1 hb (.cells #[.string p.name, .slice ap p.args.length cp] 24))
    have P3 := hide (BxT.new (c := cp) hs)
    clear hs hb hz hep
    go_upto_region 4 with fail
    generalize w2.alloc (.cells #[.string p.name, .slice ap p.args.length cp] 24) = w3 at *
    generalize w2.heap.size = PP at *
    have KP3 : Hid (∀ w', Below w3.heap.size w3 w' → w'.cell? ⟨PP, 0, none⟩ = some (.string p.name) ∧ w'.cell? ⟨PP, 1, none⟩ = some (.slice ap p.args.length cp)) := fun w' hb => (P3.out.later hb).cs
    have VP3 : Hid (∀ w', Below w3.heap.size w3 w' → TV w' (fun b => b < w3.heap.size) (.agg #[.string p.name, .slice ap p.args.length cp]) p) := fun w' hb => ⟨ap, cp, rfl, (P3.out.2.mono (Y := fun b => b < w3.heap.size) fun b _ h => h).later hb⟩
    have UV3 : Hid (∀ w', Below w3.heap.size w3 w' → PV w' X (.slice ua zs.length uc) zs) := fun w' hb => (HU.out.later HB3.out).later hb
    have kd3 : Below w3.heap.size w3 w3.drew := (Below.refl _ _).drew
    have HSd3 := hide (KP3.out _ kd3)
    go_cut [6, 7] (fun P Q w4 => RgM w3 p P Q w4)
    case first =>
      refine wp_region_held_drew (S := (fun w' => w'.cell? ⟨PP, 0, none⟩ = some (.string p.name) ∧ w'.cell? ⟨PP, 1, none⟩ = some (.slice ap p.args.length cp))) (by kernel_rfl) HSd3.out (fun hHeld => ?_)
      refine wpAnyH_take (i := 0) (v := ?_) rfl (by kernel_rfl) (by kernel_rfl) (by kernel_rfl) (fun _ _ _ h => h) (Or.inl ⟨by rfl, ?_⟩) (by assumption) ?_
      rotate_left
      · intro w' hSw
        go_simp <;> with_reducible rfl
      try simp only [Act.put, List.setIfInBounds_toArray, List.set_cons_zero, List.set_cons_succ, List.getElem_toArray, List.getElem_cons_succ, List.getElem_cons_zero]
      refine wpAnyH_take (i := 2) (v := ?_) rfl (by kernel_rfl) (by kernel_rfl) (by kernel_rfl) (fun _ _ _ h => h) (Or.inl ⟨by rfl, ?_⟩) (by assumption) ?_
      rotate_left
      · intro w' hSw
        obtain ⟨x0, x1⟩ := hSw
        go_simp <;> with_reducible rfl
      try simp only [Act.put, List.setIfInBounds_toArray, List.set_cons_zero, List.set_cons_succ, List.getElem_toArray, List.getElem_cons_succ, List.getElem_cons_zero]
      refine wpAnyH_ready (rs := [1, 7]) (by kernel_rfl) (by simp) ?_
      refine AllReadyH.cons rfl (fun K hK => ?_) (AllReadyH.cons rfl (fun K hK => ?_) AllReadyH.nil)
      · go_simp
        go_at_call 19
        refine (bindsFrom_any 3 (by decide) (by decide) zs HRG.out (by omega) 5 30 _ _ X (UV3.out _ kd3) (by omega) (by unfold top; split <;> omega)).mono ?_
        rintro e w5 ⟨vb, ls, rfl, hv5, hsub, hsz5, hb5⟩
        have k5 : Below w3.heap.size w3 w5 := kd3.trans (hb5.mono kd3.size)
        have HLS : Hid (bindsE ls = 0) := four_E hsub (fun d hd => ⟨by have := (hsz5 d hd).1; have : top 5 ≤ 9 := (by unfold top; split <;> omega); omega, (hsz5 d hd).2⟩)
        have V5 := hide hv5
        clear hv5 hsub hsz5 hb5
        go_simp
        refine hK.out _ _ (by exact KP3.out _ k5) (fun hHeld => ?_)
        clear hK K
        try simp only [Act.put, List.setIfInBounds_toArray, List.set_cons_zero, List.set_cons_succ, List.getElem_toArray, List.getElem_cons_succ, List.getElem_cons_zero]
        refine wpAnyH_ready (rs := [3, 7]) (by kernel_rfl) (by simp) ?_
        refine AllReadyH.cons rfl (fun K hK => ?_) (AllReadyH.cons rfl (fun K hK => ?_) AllReadyH.nil)
        · go_simp
          go_at_call 18
          refine (onM_any ls p _ _ _ (fun _ => True) (V5.out.mono fun _ _ _ => trivial) ((VP3.out _ k5).mono fun _ _ _ => trivial) (by have := HZP.out; omega)).mono ?_
          rintro e w6 ⟨z, az, cz, ok, rfl, hs6, hz6, hb6⟩
          have k6 : Below w3.heap.size w3 w6 := k5.trans (hb6.mono k5.size)
          have S6 := hide hs6
          have HZ6 := hide hz6
          clear hs6 hz6 hb6
          go_simp
          refine hK.out _ _ (by exact KP3.out _ k6) (fun hHeld => ?_)
          clear hK K
          try simp only [Act.put, List.setIfInBounds_toArray, List.set_cons_zero, List.set_cons_succ, List.getElem_toArray, List.getElem_cons_succ, List.getElem_cons_zero]
          refine wpAnyH_take (i := 4) (v := ?_) rfl (by kernel_rfl) (by kernel_rfl) (by kernel_rfl) (fun _ _ _ h => h) (Or.inl ⟨by rfl, ?_⟩) (by assumption) ?_
          rotate_left
          · intro w' hSw
            go_simp <;> with_reducible rfl
          try simp only [Act.put, List.setIfInBounds_toArray, List.set_cons_zero, List.set_cons_succ, List.getElem_toArray, List.getElem_cons_succ, List.getElem_cons_zero]
          refine wpAnyH_take (i := 5) (v := ?_) rfl (by kernel_rfl) (by kernel_rfl) (by kernel_rfl) (fun _ _ _ h => h) (Or.inl ⟨by rfl, ?_⟩) (by assumption) ?_
          rotate_left
          · intro w' hSw
            go_simp <;> with_reducible rfl
          try simp only [Act.put, List.setIfInBounds_toArray, List.set_cons_zero, List.set_cons_succ, List.getElem_toArray, List.getElem_cons_succ, List.getElem_cons_zero]
          refine wpAnyH_take (i := 6) (v := ?_) rfl (by kernel_rfl) (by kernel_rfl) (by kernel_rfl) (fun _ _ _ h => h) (Or.inl ⟨by rfl, ?_⟩) (by assumption) ?_
          rotate_left
          · intro w' hSw
            go_simp <;> with_reducible rfl
          try simp only [Act.put, List.setIfInBounds_toArray, List.set_cons_zero, List.set_cons_succ, List.getElem_toArray, List.getElem_cons_succ, List.getElem_cons_zero]
          refine wpAnyH_ready (rs := [7]) (by kernel_rfl) (by simp) ?_
          refine AllReadyH.cons rfl (fun K hK => ?_) AllReadyH.nil
          go_simp
          have kz : Below w3.heap.size w3 (w6.alloc (.cells #[.string ⟨#[]⟩, .slice none 0 0] 24)) := k6.alloc k6.size _
          have ZF : Hid (Blk (w6.alloc (.cells #[.string ⟨#[]⟩, .slice none 0 0] 24)) w6.heap.size #[.string ⟨#[]⟩, .slice none 0 0] 24) := Blk.new _ _ _
          refine hK.out _ _ (by exact KP3.out _ kz) (fun hHeld => ?_)
          clear hK K
          try simp only [Act.put, List.setIfInBounds_toArray, List.set_cons_zero, List.set_cons_succ, List.getElem_toArray, List.getElem_cons_succ, List.getElem_cons_zero]
          have FIN : Hid (RgM w3 p (.pointer (some ⟨w6.heap.size, 0, none⟩)) (.bool ok) (w6.alloc (.cells #[.string z.name, .slice az z.args.length cz] 24))) := ⟨w6.heap.size, az, cz, ok, z, ls, rfl, rfl, BxT.new S6.out, k6.alloc k6.size _, HLS.out, HZ6.out⟩
          have HSF : Hid ((w6.alloc (.cells #[.string z.name, .slice az z.args.length cz] 24)).cell? ⟨PP, 0, none⟩ = some (.string p.name) ∧ (w6.alloc (.cells #[.string z.name, .slice az z.args.length cz] 24)).cell? ⟨PP, 1, none⟩ = some (.slice ap p.args.length cp)) := KP3.out _ (k6.alloc k6.size _)
          refine wpAnyH_ready (rs := [8]) (by kernel_rfl) (by simp) ?_
          refine AllReadyH.cons rfl (fun K hK => ?_) AllReadyH.nil
          go_simp
          refine hK.out _ _ (by exact HSF.out) (fun hHeld => ?_)
          clear hK K
          try simp only [Act.put, List.setIfInBounds_toArray, List.set_cons_zero, List.set_cons_succ, List.getElem_toArray, List.getElem_cons_succ, List.getElem_cons_zero]
          refine wpAnyH_take (i := 9) (v := ?_) rfl (by kernel_rfl) (by kernel_rfl) (by kernel_rfl) (fun _ _ _ h => h) (Or.inl ⟨by rfl, ?_⟩) (by assumption) ?_
          rotate_left
          · intro w' hSw
            go_simp <;> with_reducible rfl
          try simp only [Act.put, List.setIfInBounds_toArray, List.set_cons_zero, List.set_cons_succ, List.getElem_toArray, List.getElem_cons_succ, List.getElem_cons_zero]
          refine wpAnyH_done (by kernel_rfl) ?_ _
          go_wp2_with fail
          go_meet
          exact FIN.out
        · go_simp
          have kz : Below w3.heap.size w3 (w5.alloc (.cells #[.string ⟨#[]⟩, .slice none 0 0] 24)) := k5.alloc k5.size _
          have Z5 : Hid (Blk (w5.alloc (.cells #[.string ⟨#[]⟩, .slice none 0 0] 24)) w5.heap.size #[.string ⟨#[]⟩, .slice none 0 0] 24) := Blk.new _ _ _
          refine hK.out _ _ (by exact KP3.out _ kz) (fun hHeld => ?_)
          clear hK K
          try simp only [Act.put, List.setIfInBounds_toArray, List.set_cons_zero, List.set_cons_succ, List.getElem_toArray, List.getElem_cons_succ, List.getElem_cons_zero]
          refine wpAnyH_ready (rs := [3]) (by kernel_rfl) (by simp) ?_
          refine AllReadyH.cons rfl (fun K hK => ?_) AllReadyH.nil
          go_simp
          go_at_call 18
          refine (onM_any ls p _ _ _ (fun b => b ≠ w5.heap.size) (((V5.out.mono (Y := fun b => b ≠ w5.heap.size) fun b _ h => by omega).later (one1 w5 _))) ((VP3.out _ kz).mono fun b h _ => by have := k5.size; omega) (by have := HZP.out; omega)).mono ?_
          rintro e w6 ⟨z, az, cz, ok, rfl, hs6, hz6, hb6⟩
          have k6 : Below w3.heap.size w3 w6 := kz.trans (hb6.mono kz.size)
          have S6 := hide hs6
          have HZ6 := hide hz6
          have Z6 := hide (Z5.out.below hb6 Z5.out.lt)
          have hzz6 := hb6.size
          clear hs6 hz6 hb6
          go_simp
          refine hK.out _ _ (by exact KP3.out _ k6) (fun hHeld => ?_)
          clear hK K
          try simp only [Act.put, List.setIfInBounds_toArray, List.set_cons_zero, List.set_cons_succ, List.getElem_toArray, List.getElem_cons_succ, List.getElem_cons_zero]
          refine wpAnyH_take (i := 4) (v := ?_) rfl (by kernel_rfl) (by kernel_rfl) (by kernel_rfl) (fun _ _ _ h => h) (Or.inl ⟨by rfl, ?_⟩) (by assumption) ?_
          rotate_left
          · intro w' hSw
            go_simp <;> with_reducible rfl
          try simp only [Act.put, List.setIfInBounds_toArray, List.set_cons_zero, List.set_cons_succ, List.getElem_toArray, List.getElem_cons_succ, List.getElem_cons_zero]
          refine wpAnyH_take (i := 5) (v := ?_) rfl (by kernel_rfl) (by kernel_rfl) (by kernel_rfl) (fun _ _ _ h => h) (Or.inl ⟨by rfl, ?_⟩) (by assumption) ?_
          rotate_left
          · intro w' hSw
            go_simp <;> with_reducible rfl
          try simp only [Act.put, List.setIfInBounds_toArray, List.set_cons_zero, List.set_cons_succ, List.getElem_toArray, List.getElem_cons_succ, List.getElem_cons_zero]
          refine wpAnyH_take (i := 6) (v := ?_) rfl (by kernel_rfl) (by kernel_rfl) (by kernel_rfl) (fun _ _ _ h => h) (Or.inl ⟨by rfl, ?_⟩) (by assumption) ?_
          rotate_left
          · intro w' hSw
            go_simp <;> with_reducible rfl
          try simp only [Act.put, List.setIfInBounds_toArray, List.set_cons_zero, List.set_cons_succ, List.getElem_toArray, List.getElem_cons_succ, List.getElem_cons_zero]
          have ZF := hide Z6.out
          have FIN := hide (rgM_fin (w := w3) (p := p) (c := cz) ZF.out (S6.out.mono fun b h _ => by rcases h with h | h; exact h.1; simp at h; omega) (k6) (k5.size) HLS.out HZ6.out)
          have f0 := ZF.out.cell 0
          have f1 := ZF.out.cell 1
          have ff := ZF.out.frozen
          have fl := ZF.out.lt
          have HSF : Hid (((w6.setCell ⟨w5.heap.size, 0, none⟩ (.string z.name)).setCell ⟨w5.heap.size, 1, none⟩ (.slice az z.args.length cz)).cell? ⟨PP, 0, none⟩ = some (.string p.name) ∧ ((w6.setCell ⟨w5.heap.size, 0, none⟩ (.string z.name)).setCell ⟨w5.heap.size, 1, none⟩ (.slice az z.args.length cz)).cell? ⟨PP, 1, none⟩ = some (.slice ap p.args.length cp)) := by
            have hPl := P3.out.1.lt
            have hA : w3.heap.size ≤ w5.heap.size := k5.size
            have k := (((P3.out.1).below (k6) hPl).setOther (b' := w5.heap.size) 0 (.string z.name) (by omega)).setOther (b' := w5.heap.size) 1 (.slice az z.args.length cz) (by omega)
            exact ⟨k.cell 0, k.cell 1⟩
          refine wpAnyH_ready (rs := [8]) (by kernel_rfl) (by simp) ?_
          refine AllReadyH.cons rfl (fun K hK => ?_) AllReadyH.nil
          go_simp
          refine hK.out _ _ (by exact HSF.out) (fun hHeld => ?_)
          clear hK K
          try simp only [Act.put, List.setIfInBounds_toArray, List.set_cons_zero, List.set_cons_succ, List.getElem_toArray, List.getElem_cons_succ, List.getElem_cons_zero]
          refine wpAnyH_take (i := 9) (v := ?_) rfl (by kernel_rfl) (by kernel_rfl) (by kernel_rfl) (fun _ _ _ h => h) (Or.inl ⟨by rfl, ?_⟩) (by assumption) ?_
          rotate_left
          · intro w' hSw
            go_simp <;> with_reducible rfl
          try simp only [Act.put, List.setIfInBounds_toArray, List.set_cons_zero, List.set_cons_succ, List.getElem_toArray, List.getElem_cons_succ, List.getElem_cons_zero]
          refine wpAnyH_done (by kernel_rfl) ?_ _
          clear f0 f1 ff fl
          go_wp2_with fail
          go_meet
          exact FIN.out
      · go_simp
        have kz : Below w3.heap.size w3 (w3.drew.alloc (.cells #[.string ⟨#[]⟩, .slice none 0 0] 24)) := kd3.alloc kd3.size _
        have Z4 : Hid (Blk (w3.drew.alloc (.cells #[.string ⟨#[]⟩, .slice none 0 0] 24)) w3.heap.size #[.string ⟨#[]⟩, .slice none 0 0] 24) := Blk.new _ _ _
        refine hK.out _ _ (by exact KP3.out _ kz) (fun hHeld => ?_)
        clear hK K
        try simp only [Act.put, List.setIfInBounds_toArray, List.set_cons_zero, List.set_cons_succ, List.getElem_toArray, List.getElem_cons_succ, List.getElem_cons_zero]
        refine wpAnyH_ready (rs := [1]) (by kernel_rfl) (by simp) ?_
        refine AllReadyH.cons rfl (fun K hK => ?_) AllReadyH.nil
        go_simp
        go_at_call 19
        refine (bindsFrom_any 3 (by decide) (by decide) zs HRG.out (by omega) 5 30 _ _ X (UV3.out _ kz) (by omega) (by unfold top; split <;> omega)).mono ?_
        rintro e w5 ⟨vb, ls, rfl, hv5, hsub, hsz5, hb5⟩
        have k5 : Below w3.heap.size w3 w5 := kz.trans (hb5.mono kz.size)
        have HLS : Hid (bindsE ls = 0) := four_E hsub (fun d hd => ⟨by have := (hsz5 d hd).1; have : top 5 ≤ 9 := (by unfold top; split <;> omega); omega, (hsz5 d hd).2⟩)
        have V5 := hide hv5
        have Z5 := hide (Z4.out.below hb5 Z4.out.lt)
        have hz45 := hb5.size
        clear hv5 hsub hsz5 hb5
        go_simp
        refine hK.out _ _ (by exact KP3.out _ k5) (fun hHeld => ?_)
        clear hK K
        try simp only [Act.put, List.setIfInBounds_toArray, List.set_cons_zero, List.set_cons_succ, List.getElem_toArray, List.getElem_cons_succ, List.getElem_cons_zero]
        refine wpAnyH_ready (rs := [3]) (by kernel_rfl) (by simp) ?_
        refine AllReadyH.cons rfl (fun K hK => ?_) AllReadyH.nil
        go_simp
        go_at_call 18
        refine (onM_any ls p _ _ _ (fun b => b ≠ w3.heap.size) (V5.out.mono fun b h _ => by simp at h; omega) ((VP3.out _ k5).mono fun b h _ => by omega) (by have := HZP.out; omega)).mono ?_
        rintro e w6 ⟨z, az, cz, ok, rfl, hs6, hz6, hb6⟩
        have k6 : Below w3.heap.size w3 w6 := k5.trans (hb6.mono k5.size)
        have S6 := hide hs6
        have HZ6 := hide hz6
        have Z6 := hide (Z5.out.below hb6 Z5.out.lt)
        have hzz6 := hb6.size
        clear hs6 hz6 hb6
        go_simp
        refine hK.out _ _ (by exact KP3.out _ k6) (fun hHeld => ?_)
        clear hK K
        try simp only [Act.put, List.setIfInBounds_toArray, List.set_cons_zero, List.set_cons_succ, List.getElem_toArray, List.getElem_cons_succ, List.getElem_cons_zero]
        refine wpAnyH_take (i := 4) (v := ?_) rfl (by kernel_rfl) (by kernel_rfl) (by kernel_rfl) (fun _ _ _ h => h) (Or.inl ⟨by rfl, ?_⟩) (by assumption) ?_
        rotate_left
        · intro w' hSw
          go_simp <;> with_reducible rfl
        try simp only [Act.put, List.setIfInBounds_toArray, List.set_cons_zero, List.set_cons_succ, List.getElem_toArray, List.getElem_cons_succ, List.getElem_cons_zero]
        refine wpAnyH_take (i := 5) (v := ?_) rfl (by kernel_rfl) (by kernel_rfl) (by kernel_rfl) (fun _ _ _ h => h) (Or.inl ⟨by rfl, ?_⟩) (by assumption) ?_
        rotate_left
        · intro w' hSw
          go_simp <;> with_reducible rfl
        try simp only [Act.put, List.setIfInBounds_toArray, List.set_cons_zero, List.set_cons_succ, List.getElem_toArray, List.getElem_cons_succ, List.getElem_cons_zero]
        refine wpAnyH_take (i := 6) (v := ?_) rfl (by kernel_rfl) (by kernel_rfl) (by kernel_rfl) (fun _ _ _ h => h) (Or.inl ⟨by rfl, ?_⟩) (by assumption) ?_
        rotate_left
        · intro w' hSw
          go_simp <;> with_reducible rfl
        try simp only [Act.put, List.setIfInBounds_toArray, List.set_cons_zero, List.set_cons_succ, List.getElem_toArray, List.getElem_cons_succ, List.getElem_cons_zero]
        have ZF := hide Z6.out
        have FIN := hide (rgM_fin (w := w3) (p := p) (c := cz) ZF.out (S6.out.mono fun b h _ => by rcases h with h | h; exact h.1; simp at hz45; omega) (k6) (Nat.le_refl _) HLS.out HZ6.out)
        have f0 := ZF.out.cell 0
        have f1 := ZF.out.cell 1
        have ff := ZF.out.frozen
        have fl := ZF.out.lt
        have HSF : Hid (((w6.setCell ⟨w3.heap.size, 0, none⟩ (.string z.name)).setCell ⟨w3.heap.size, 1, none⟩ (.slice az z.args.length cz)).cell? ⟨PP, 0, none⟩ = some (.string p.name) ∧ ((w6.setCell ⟨w3.heap.size, 0, none⟩ (.string z.name)).setCell ⟨w3.heap.size, 1, none⟩ (.slice az z.args.length cz)).cell? ⟨PP, 1, none⟩ = some (.slice ap p.args.length cp)) := by
          have hPl := P3.out.1.lt
          have hA : w3.heap.size ≤ w3.heap.size := Nat.le_refl _
          have k := (((P3.out.1).below (k6) hPl).setOther (b' := w3.heap.size) 0 (.string z.name) (by omega)).setOther (b' := w3.heap.size) 1 (.slice az z.args.length cz) (by omega)
          exact ⟨k.cell 0, k.cell 1⟩
        refine wpAnyH_ready (rs := [8]) (by kernel_rfl) (by simp) ?_
        refine AllReadyH.cons rfl (fun K hK => ?_) AllReadyH.nil
        go_simp
        refine hK.out _ _ (by exact HSF.out) (fun hHeld => ?_)
        clear hK K
        try simp only [Act.put, List.setIfInBounds_toArray, List.set_cons_zero, List.set_cons_succ, List.getElem_toArray, List.getElem_cons_succ, List.getElem_cons_zero]
        refine wpAnyH_take (i := 9) (v := ?_) rfl (by kernel_rfl) (by kernel_rfl) (by kernel_rfl) (fun _ _ _ h => h) (Or.inl ⟨by rfl, ?_⟩) (by assumption) ?_
        rotate_left
        · intro w' hSw
          go_simp <;> with_reducible rfl
        try simp only [Act.put, List.setIfInBounds_toArray, List.set_cons_zero, List.set_cons_succ, List.getElem_toArray, List.getElem_cons_succ, List.getElem_cons_zero]
        refine wpAnyH_done (by kernel_rfl) ?_ _
        clear f0 f1 ff fl
        go_wp2_with fail
        go_meet
        exact FIN.out
    case rest =>
      obtain ⟨AA, aa, ca, ok1, a, ls1, rfl, rfl, hA, hb, hl, hz⟩ := hcut
      rename World => w4
      have A4 := hide hA
      have HL1 := hide hl
      have HA1 := hide hz
      have P4 := hide (P3.out.later hb)
      have HU4 := hide (UV3.out _ hb)
      have HB4 := hide (HB3.out.trans (hb.mono HB3.out.size))
      clear hA hl hz hb KP3 VP3 UV3 kd3 HSd3 P3 HB3
      have KP4 : Hid (∀ w', Below w4.heap.size w4 w' → w'.cell? ⟨PP, 0, none⟩ = some (.string p.name) ∧ w'.cell? ⟨PP, 1, none⟩ = some (.slice ap p.args.length cp)) := fun w' hb => (P4.out.later hb).cs
      have VP4 : Hid (∀ w', Below w4.heap.size w4 w' → TV w' (fun b => b < w4.heap.size) (.agg #[.string p.name, .slice ap p.args.length cp]) p) := fun w' hb => ⟨ap, cp, rfl, (P4.out.2.mono (Y := fun b => b < w4.heap.size) fun b _ h => h).later hb⟩
      have UV4 : Hid (∀ w', Below w4.heap.size w4 w' → PV w' X (.slice ua zs.length uc) zs) := fun w' hb => HU4.out.later hb
      have kd4 : Below w4.heap.size w4 w4.drew := (Below.refl _ _).drew
      have HSd4 := hide (KP4.out _ kd4)
      go_upto_region 5 with fail
      go_cut [8, 9] (fun P Q w5 => RgM w4 p P Q w5)
      case first =>
        refine wp_region_held_drew (S := (fun w' => w'.cell? ⟨PP, 0, none⟩ = some (.string p.name) ∧ w'.cell? ⟨PP, 1, none⟩ = some (.slice ap p.args.length cp))) (by kernel_rfl) HSd4.out (fun hHeld => ?_)
        refine wpAnyH_take (i := 0) (v := ?_) rfl (by kernel_rfl) (by kernel_rfl) (by kernel_rfl) (fun _ _ _ h => h) (Or.inl ⟨by rfl, ?_⟩) (by assumption) ?_
        rotate_left
        · intro w' hSw
          go_simp <;> with_reducible rfl
        try simp only [Act.put, List.setIfInBounds_toArray, List.set_cons_zero, List.set_cons_succ, List.getElem_toArray, List.getElem_cons_succ, List.getElem_cons_zero]
        refine wpAnyH_take (i := 2) (v := ?_) rfl (by kernel_rfl) (by kernel_rfl) (by kernel_rfl) (fun _ _ _ h => h) (Or.inl ⟨by rfl, ?_⟩) (by assumption) ?_
        rotate_left
        · intro w' hSw
          obtain ⟨x0, x1⟩ := hSw
          go_simp <;> with_reducible rfl
        try simp only [Act.put, List.setIfInBounds_toArray, List.set_cons_zero, List.set_cons_succ, List.getElem_toArray, List.getElem_cons_succ, List.getElem_cons_zero]
        refine wpAnyH_ready (rs := [1, 7]) (by kernel_rfl) (by simp) ?_
        refine AllReadyH.cons rfl (fun K hK => ?_) (AllReadyH.cons rfl (fun K hK => ?_) AllReadyH.nil)
        · go_simp
          go_at_call 19
          refine (bindsFrom_any 3 (by decide) (by decide) zs HRG.out (by omega) 5 70 _ _ X (UV4.out _ kd4) (by omega) (by unfold top; split <;> omega)).mono ?_
          rintro e w5 ⟨vb, ls, rfl, hv5, hsub, hsz5, hb5⟩
          have k5 : Below w4.heap.size w4 w5 := kd4.trans (hb5.mono kd4.size)
          have HLS : Hid (bindsE ls = 0) := four_E hsub (fun d hd => ⟨by have := (hsz5 d hd).1; have : top 5 ≤ 9 := (by unfold top; split <;> omega); omega, (hsz5 d hd).2⟩)
          have V5 := hide hv5
          clear hv5 hsub hsz5 hb5
          go_simp
          refine hK.out _ _ (by exact KP4.out _ k5) (fun hHeld => ?_)
          clear hK K
          try simp only [Act.put, List.setIfInBounds_toArray, List.set_cons_zero, List.set_cons_succ, List.getElem_toArray, List.getElem_cons_succ, List.getElem_cons_zero]
          refine wpAnyH_ready (rs := [3, 7]) (by kernel_rfl) (by simp) ?_
          refine AllReadyH.cons rfl (fun K hK => ?_) (AllReadyH.cons rfl (fun K hK => ?_) AllReadyH.nil)
          · go_simp
            go_at_call 18
            refine (onM_any ls p _ _ _ (fun _ => True) (V5.out.mono fun _ _ _ => trivial) ((VP4.out _ k5).mono fun _ _ _ => trivial) (by have := HZP.out; omega)).mono ?_
            rintro e w6 ⟨z, az, cz, ok, rfl, hs6, hz6, hb6⟩
            have k6 : Below w4.heap.size w4 w6 := k5.trans (hb6.mono k5.size)
            have S6 := hide hs6
            have HZ6 := hide hz6
            clear hs6 hz6 hb6
            go_simp
            refine hK.out _ _ (by exact KP4.out _ k6) (fun hHeld => ?_)
            clear hK K
            try simp only [Act.put, List.setIfInBounds_toArray, List.set_cons_zero, List.set_cons_succ, List.getElem_toArray, List.getElem_cons_succ, List.getElem_cons_zero]
            refine wpAnyH_take (i := 4) (v := ?_) rfl (by kernel_rfl) (by kernel_rfl) (by kernel_rfl) (fun _ _ _ h => h) (Or.inl ⟨by rfl, ?_⟩) (by assumption) ?_
            rotate_left
            · intro w' hSw
              go_simp <;> with_reducible rfl
            try simp only [Act.put, List.setIfInBounds_toArray, List.set_cons_zero, List.set_cons_succ, List.getElem_toArray, List.getElem_cons_succ, List.getElem_cons_zero]
            refine wpAnyH_take (i := 5) (v := ?_) rfl (by kernel_rfl) (by kernel_rfl) (by kernel_rfl) (fun _ _ _ h => h) (Or.inl ⟨by rfl, ?_⟩) (by assumption) ?_
            rotate_left
            · intro w' hSw
              go_simp <;> with_reducible rfl
            try simp only [Act.put, List.setIfInBounds_toArray, List.set_cons_zero, List.set_cons_succ, List.getElem_toArray, List.getElem_cons_succ, List.getElem_cons_zero]
            refine wpAnyH_take (i := 6) (v := ?_) rfl (by kernel_rfl) (by kernel_rfl) (by kernel_rfl) (fun _ _ _ h => h) (Or.inl ⟨by rfl, ?_⟩) (by assumption) ?_
            rotate_left
            · intro w' hSw
              go_simp <;> with_reducible rfl
            try simp only [Act.put, List.setIfInBounds_toArray, List.set_cons_zero, List.set_cons_succ, List.getElem_toArray, List.getElem_cons_succ, List.getElem_cons_zero]
            refine wpAnyH_ready (rs := [7]) (by kernel_rfl) (by simp) ?_
            refine AllReadyH.cons rfl (fun K hK => ?_) AllReadyH.nil
            go_simp
            have kz : Below w4.heap.size w4 (w6.alloc (.cells #[.string ⟨#[]⟩, .slice none 0 0] 24)) := k6.alloc k6.size _
            have ZF : Hid (Blk (w6.alloc (.cells #[.string ⟨#[]⟩, .slice none 0 0] 24)) w6.heap.size #[.string ⟨#[]⟩, .slice none 0 0] 24) := Blk.new _ _ _
            refine hK.out _ _ (by exact KP4.out _ kz) (fun hHeld => ?_)
            clear hK K
            try simp only [Act.put, List.setIfInBounds_toArray, List.set_cons_zero, List.set_cons_succ, List.getElem_toArray, List.getElem_cons_succ, List.getElem_cons_zero]
            have FIN : Hid (RgM w4 p (.pointer (some ⟨w6.heap.size, 0, none⟩)) (.bool ok) (w6.alloc (.cells #[.string z.name, .slice az z.args.length cz] 24))) := ⟨w6.heap.size, az, cz, ok, z, ls, rfl, rfl, BxT.new S6.out, k6.alloc k6.size _, HLS.out, HZ6.out⟩
            have HSF : Hid ((w6.alloc (.cells #[.string z.name, .slice az z.args.length cz] 24)).cell? ⟨PP, 0, none⟩ = some (.string p.name) ∧ (w6.alloc (.cells #[.string z.name, .slice az z.args.length cz] 24)).cell? ⟨PP, 1, none⟩ = some (.slice ap p.args.length cp)) := KP4.out _ (k6.alloc k6.size _)
            refine wpAnyH_ready (rs := [8]) (by kernel_rfl) (by simp) ?_
            refine AllReadyH.cons rfl (fun K hK => ?_) AllReadyH.nil
            go_simp
            refine hK.out _ _ (by exact HSF.out) (fun hHeld => ?_)
            clear hK K
            try simp only [Act.put, List.setIfInBounds_toArray, List.set_cons_zero, List.set_cons_succ, List.getElem_toArray, List.getElem_cons_succ, List.getElem_cons_zero]
            refine wpAnyH_take (i := 9) (v := ?_) rfl (by kernel_rfl) (by kernel_rfl) (by kernel_rfl) (fun _ _ _ h => h) (Or.inl ⟨by rfl, ?_⟩) (by assumption) ?_
            rotate_left
            · intro w' hSw
              go_simp <;> with_reducible rfl
            try simp only [Act.put, List.setIfInBounds_toArray, List.set_cons_zero, List.set_cons_succ, List.getElem_toArray, List.getElem_cons_succ, List.getElem_cons_zero]
            refine wpAnyH_done (by kernel_rfl) ?_ _
            go_wp2_with fail
            go_meet
            exact FIN.out
          · go_simp
            have kz : Below w4.heap.size w4 (w5.alloc (.cells #[.string ⟨#[]⟩, .slice none 0 0] 24)) := k5.alloc k5.size _
            have Z5 : Hid (Blk (w5.alloc (.cells #[.string ⟨#[]⟩, .slice none 0 0] 24)) w5.heap.size #[.string ⟨#[]⟩, .slice none 0 0] 24) := Blk.new _ _ _
            refine hK.out _ _ (by exact KP4.out _ kz) (fun hHeld => ?_)
            clear hK K
            try simp only [Act.put, List.setIfInBounds_toArray, List.set_cons_zero, List.set_cons_succ, List.getElem_toArray, List.getElem_cons_succ, List.getElem_cons_zero]
            refine wpAnyH_ready (rs := [3]) (by kernel_rfl) (by simp) ?_
            refine AllReadyH.cons rfl (fun K hK => ?_) AllReadyH.nil
            go_simp
            go_at_call 18
            refine (onM_any ls p _ _ _ (fun b => b ≠ w5.heap.size) (((V5.out.mono (Y := fun b => b ≠ w5.heap.size) fun b _ h => by omega).later (one1 w5 _))) ((VP4.out _ kz).mono fun b h _ => by have := k5.size; omega) (by have := HZP.out; omega)).mono ?_
            rintro e w6 ⟨z, az, cz, ok, rfl, hs6, hz6, hb6⟩
            have k6 : Below w4.heap.size w4 w6 := kz.trans (hb6.mono kz.size)
            have S6 := hide hs6
            have HZ6 := hide hz6
            have Z6 := hide (Z5.out.below hb6 Z5.out.lt)
            have hzz6 := hb6.size
            clear hs6 hz6 hb6
            go_simp
            refine hK.out _ _ (by exact KP4.out _ k6) (fun hHeld => ?_)
            clear hK K
            try simp only [Act.put, List.setIfInBounds_toArray, List.set_cons_zero, List.set_cons_succ, List.getElem_toArray, List.getElem_cons_succ, List.getElem_cons_zero]
            refine wpAnyH_take (i := 4) (v := ?_) rfl (by kernel_rfl) (by kernel_rfl) (by kernel_rfl) (fun _ _ _ h => h) (Or.inl ⟨by rfl, ?_⟩) (by assumption) ?_
            rotate_left
            · intro w' hSw
              go_simp <;> with_reducible rfl
            try simp only [Act.put, List.setIfInBounds_toArray, List.set_cons_zero, List.set_cons_succ, List.getElem_toArray, List.getElem_cons_succ, List.getElem_cons_zero]
            refine wpAnyH_take (i := 5) (v := ?_) rfl (by kernel_rfl) (by kernel_rfl) (by kernel_rfl) (fun _ _ _ h => h) (Or.inl ⟨by rfl, ?_⟩) (by assumption) ?_
            rotate_left
            · intro w' hSw
              go_simp <;> with_reducible rfl
            try simp only [Act.put, List.setIfInBounds_toArray, List.set_cons_zero, List.set_cons_succ, List.getElem_toArray, List.getElem_cons_succ, List.getElem_cons_zero]
            refine wpAnyH_take (i := 6) (v := ?_) rfl (by kernel_rfl) (by kernel_rfl) (by kernel_rfl) (fun _ _ _ h => h) (Or.inl ⟨by rfl, ?_⟩) (by assumption) ?_
            rotate_left
            · intro w' hSw
              go_simp <;> with_reducible rfl
            try simp only [Act.put, List.setIfInBounds_toArray, List.set_cons_zero, List.set_cons_succ, List.getElem_toArray, List.getElem_cons_succ, List.getElem_cons_zero]
            have ZF := hide Z6.out
            have FIN := hide (rgM_fin (w := w4) (p := p) (c := cz) ZF.out (S6.out.mono fun b h _ => by rcases h with h | h; exact h.1; simp at h; omega) (k6) (k5.size) HLS.out HZ6.out)
            have f0 := ZF.out.cell 0
            have f1 := ZF.out.cell 1
            have ff := ZF.out.frozen
            have fl := ZF.out.lt
            have HSF : Hid (((w6.setCell ⟨w5.heap.size, 0, none⟩ (.string z.name)).setCell ⟨w5.heap.size, 1, none⟩ (.slice az z.args.length cz)).cell? ⟨PP, 0, none⟩ = some (.string p.name) ∧ ((w6.setCell ⟨w5.heap.size, 0, none⟩ (.string z.name)).setCell ⟨w5.heap.size, 1, none⟩ (.slice az z.args.length cz)).cell? ⟨PP, 1, none⟩ = some (.slice ap p.args.length cp)) := by
              have hPl := P4.out.1.lt
              have hA : w4.heap.size ≤ w5.heap.size := k5.size
              have k := (((P4.out.1).below (k6) hPl).setOther (b' := w5.heap.size) 0 (.string z.name) (by omega)).setOther (b' := w5.heap.size) 1 (.slice az z.args.length cz) (by omega)
              exact ⟨k.cell 0, k.cell 1⟩
            refine wpAnyH_ready (rs := [8]) (by kernel_rfl) (by simp) ?_
            refine AllReadyH.cons rfl (fun K hK => ?_) AllReadyH.nil
            go_simp
            refine hK.out _ _ (by exact HSF.out) (fun hHeld => ?_)
            clear hK K
            try simp only [Act.put, List.setIfInBounds_toArray, List.set_cons_zero, List.set_cons_succ, List.getElem_toArray, List.getElem_cons_succ, List.getElem_cons_zero]
            refine wpAnyH_take (i := 9) (v := ?_) rfl (by kernel_rfl) (by kernel_rfl) (by kernel_rfl) (fun _ _ _ h => h) (Or.inl ⟨by rfl, ?_⟩) (by assumption) ?_
            rotate_left
            · intro w' hSw
              go_simp <;> with_reducible rfl
            try simp only [Act.put, List.setIfInBounds_toArray, List.set_cons_zero, List.set_cons_succ, List.getElem_toArray, List.getElem_cons_succ, List.getElem_cons_zero]
            refine wpAnyH_done (by kernel_rfl) ?_ _
            clear f0 f1 ff fl
            go_wp2_with fail
            go_meet
            exact FIN.out
        · go_simp
          have kz : Below w4.heap.size w4 (w4.drew.alloc (.cells #[.string ⟨#[]⟩, .slice none 0 0] 24)) := kd4.alloc kd4.size _
          have Z4 : Hid (Blk (w4.drew.alloc (.cells #[.string ⟨#[]⟩, .slice none 0 0] 24)) w4.heap.size #[.string ⟨#[]⟩, .slice none 0 0] 24) := Blk.new _ _ _
          refine hK.out _ _ (by exact KP4.out _ kz) (fun hHeld => ?_)
          clear hK K
          try simp only [Act.put, List.setIfInBounds_toArray, List.set_cons_zero, List.set_cons_succ, List.getElem_toArray, List.getElem_cons_succ, List.getElem_cons_zero]
          refine wpAnyH_ready (rs := [1]) (by kernel_rfl) (by simp) ?_
          refine AllReadyH.cons rfl (fun K hK => ?_) AllReadyH.nil
          go_simp
          go_at_call 19
          refine (bindsFrom_any 3 (by decide) (by decide) zs HRG.out (by omega) 5 70 _ _ X (UV4.out _ kz) (by omega) (by unfold top; split <;> omega)).mono ?_
          rintro e w5 ⟨vb, ls, rfl, hv5, hsub, hsz5, hb5⟩
          have k5 : Below w4.heap.size w4 w5 := kz.trans (hb5.mono kz.size)
          have HLS : Hid (bindsE ls = 0) := four_E hsub (fun d hd => ⟨by have := (hsz5 d hd).1; have : top 5 ≤ 9 := (by unfold top; split <;> omega); omega, (hsz5 d hd).2⟩)
          have V5 := hide hv5
          have Z5 := hide (Z4.out.below hb5 Z4.out.lt)
          have hz45 := hb5.size
          clear hv5 hsub hsz5 hb5
          go_simp
          refine hK.out _ _ (by exact KP4.out _ k5) (fun hHeld => ?_)
          clear hK K
          try simp only [Act.put, List.setIfInBounds_toArray, List.set_cons_zero, List.set_cons_succ, List.getElem_toArray, List.getElem_cons_succ, List.getElem_cons_zero]
          refine wpAnyH_ready (rs := [3]) (by kernel_rfl) (by simp) ?_
          refine AllReadyH.cons rfl (fun K hK => ?_) AllReadyH.nil
          go_simp
          go_at_call 18
          refine (onM_any ls p _ _ _ (fun b => b ≠ w4.heap.size) (V5.out.mono fun b h _ => by simp at h; omega) ((VP4.out _ k5).mono fun b h _ => by omega) (by have := HZP.out; omega)).mono ?_
          rintro e w6 ⟨z, az, cz, ok, rfl, hs6, hz6, hb6⟩
          have k6 : Below w4.heap.size w4 w6 := k5.trans (hb6.mono k5.size)
          have S6 := hide hs6
          have HZ6 := hide hz6
          have Z6 := hide (Z5.out.below hb6 Z5.out.lt)
          have hzz6 := hb6.size
          clear hs6 hz6 hb6
          go_simp
          refine hK.out _ _ (by exact KP4.out _ k6) (fun hHeld => ?_)
          clear hK K
          try simp only [Act.put, List.setIfInBounds_toArray, List.set_cons_zero, List.set_cons_succ, List.getElem_toArray, List.getElem_cons_succ, List.getElem_cons_zero]
          refine wpAnyH_take (i := 4) (v := ?_) rfl (by kernel_rfl) (by kernel_rfl) (by kernel_rfl) (fun _ _ _ h => h) (Or.inl ⟨by rfl, ?_⟩) (by assumption) ?_
          rotate_left
          · intro w' hSw
            go_simp <;> with_reducible rfl
          try simp only [Act.put, List.setIfInBounds_toArray, List.set_cons_zero, List.set_cons_succ, List.getElem_toArray, List.getElem_cons_succ, List.getElem_cons_zero]
          refine wpAnyH_take (i := 5) (v := ?_) rfl (by kernel_rfl) (by kernel_rfl) (by kernel_rfl) (fun _ _ _ h => h) (Or.inl ⟨by rfl, ?_⟩) (by assumption) ?_
          rotate_left
          · intro w' hSw
            go_simp <;> with_reducible rfl
          try simp only [Act.put, List.setIfInBounds_toArray, List.set_cons_zero, List.set_cons_succ, List.getElem_toArray, List.getElem_cons_succ, List.getElem_cons_zero]
          refine wpAnyH_take (i := 6) (v := ?_) rfl (by kernel_rfl) (by kernel_rfl) (by kernel_rfl) (fun _ _ _ h => h) (Or.inl ⟨by rfl, ?_⟩) (by assumption) ?_
          rotate_left
          · intro w' hSw
            go_simp <;> with_reducible rfl
          try simp only [Act.put, List.setIfInBounds_toArray, List.set_cons_zero, List.set_cons_succ, List.getElem_toArray, List.getElem_cons_succ, List.getElem_cons_zero]
          have ZF := hide Z6.out
          have FIN := hide (rgM_fin (w := w4) (p := p) (c := cz) ZF.out (S6.out.mono fun b h _ => by rcases h with h | h; exact h.1; simp at hz45; omega) (k6) (Nat.le_refl _) HLS.out HZ6.out)
          have f0 := ZF.out.cell 0
          have f1 := ZF.out.cell 1
          have ff := ZF.out.frozen
          have fl := ZF.out.lt
          have HSF : Hid (((w6.setCell ⟨w4.heap.size, 0, none⟩ (.string z.name)).setCell ⟨w4.heap.size, 1, none⟩ (.slice az z.args.length cz)).cell? ⟨PP, 0, none⟩ = some (.string p.name) ∧ ((w6.setCell ⟨w4.heap.size, 0, none⟩ (.string z.name)).setCell ⟨w4.heap.size, 1, none⟩ (.slice az z.args.length cz)).cell? ⟨PP, 1, none⟩ = some (.slice ap p.args.length cp)) := by
            have hPl := P4.out.1.lt
            have hA : w4.heap.size ≤ w4.heap.size := Nat.le_refl _
            have k := (((P4.out.1).below (k6) hPl).setOther (b' := w4.heap.size) 0 (.string z.name) (by omega)).setOther (b' := w4.heap.size) 1 (.slice az z.args.length cz) (by omega)
            exact ⟨k.cell 0, k.cell 1⟩
          refine wpAnyH_ready (rs := [8]) (by kernel_rfl) (by simp) ?_
          refine AllReadyH.cons rfl (fun K hK => ?_) AllReadyH.nil
          go_simp
          refine hK.out _ _ (by exact HSF.out) (fun hHeld => ?_)
          clear hK K
          try simp only [Act.put, List.setIfInBounds_toArray, List.set_cons_zero, List.set_cons_succ, List.getElem_toArray, List.getElem_cons_succ, List.getElem_cons_zero]
          refine wpAnyH_take (i := 9) (v := ?_) rfl (by kernel_rfl) (by kernel_rfl) (by kernel_rfl) (fun _ _ _ h => h) (Or.inl ⟨by rfl, ?_⟩) (by assumption) ?_
          rotate_left
          · intro w' hSw
            go_simp <;> with_reducible rfl
          try simp only [Act.put, List.setIfInBounds_toArray, List.set_cons_zero, List.set_cons_succ, List.getElem_toArray, List.getElem_cons_succ, List.getElem_cons_zero]
          refine wpAnyH_done (by kernel_rfl) ?_ _
          clear f0 f1 ff fl
          go_wp2_with fail
          go_meet
          exact FIN.out
      case rest =>
        obtain ⟨BB, ab, cb, ok2, b, ls2, rfl, rfl, hB, hb, hl, hz⟩ := hcut
        rename World => w5
        have B5 := hide hB
        have HL2 := hide hl
        have HA2 := hide hz
        have P5 := hide (P4.out.later hb)
        have A5 := hide (A4.out.later hb)
        have HB5 := hide (HB4.out.trans (hb.mono HB4.out.size))
        clear hB hl hz hb KP4 VP4 UV4 kd4 HSd4 P4 HB4 A4 HU4
        rcases ok1 with _ | _
        · go_wp2_with fail
          go_ret
          exact ⟨rfl, HB5.out⟩
        rcases ok2 with _ | _
        · go_wp2_with fail
          go_ret
          exact ⟨rfl, HB5.out⟩
        obtain ⟨a0, a1⟩ := A5.out.cs
        obtain ⟨b0, b1⟩ := B5.out.cs
        go_wp2_with fail
        refine (generalSays_any HSO a b _ _ _ _ A5.out.tv B5.out.tv (HT.out _ HB5.out)).mono ?_
        rintro e w6 ⟨rfl, hb⟩
        have HB6 := hide (HB5.out.trans (hb.mono HB5.out.size))
        clear hb a0 a1 b0 b1
        go_wp2_with fail
        go_ret
        exact ⟨rfl, HB6.out⟩
end Go.Proofs.YtakmclheffbeaaaDoor
