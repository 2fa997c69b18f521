import Derived.Test.YtmkendjmfdaedaaGreatRc5a
namespace Go.Proofs.YtmkendjmfdaedaaGreat
open Go.RowKit
set_option linter.unusedSimpArgs false
set_option linter.unusedVariables false
set_option maxRecDepth 8000
theorem rc_startP (D : Value → Prop) (w w1 w2 w3 : World) (t : Tm) (aa : Option Addr) (ca A E : Nat) (s : ByteArray) (hb1 : Below w.heap.size w w1) (h2 : w2 = w1.alloc (.cells #[.string t.name, .slice aa t.args.length ca] 27)) (hb3 : Below w2.heap.size w2 w3) (hA : A = w1.heap.size) (hE : E = w3.heap.size) {X : Nat → Prop} (hs : Sl w X aa t.args) :
    RcW D w (E + 1) [t] [s] [] (.slice (some ⟨A, 0, none⟩) 1 1) (.slice (some ⟨E, 0, none⟩) 1 1) ((w3.alloc (.cells #[.string s] 9)).alloc (.map #[] 0)) := by
  have hz1 := hb1.size
  have hz2 : w2.heap.size = w1.heap.size + 1 := by rw [h2]; simp
  have hz3 := hb3.size
  have hbw2 : Below w.heap.size w w2 := by rw [h2]; exact hb1.alloc hz1 _
  have hbw3 : Below w.heap.size w w3 := hbw2.trans (hb3.mono hbw2.size)
  have hb4 : Below w.heap.size w (w3.alloc (.cells #[.string s] 9)) := hbw3.alloc hbw3.size _
  have hz4 : (w3.alloc (.cells #[.string s] 9)).heap.size = w3.heap.size + 1 := by simp
  have ho : w2.ownsRow w.heap.size 27 2 (.slice (some ⟨A, 0, none⟩) 1 1) 1 [.string t.name, .slice aa t.args.length ca] := by
    rw [h2, hA]
    exact own_lit w1 w.heap.size 27 2 1 #[.string t.name, .slice aa t.args.length ca] hz1 rfl (by decide)
  have ho3 : w3.ownsRow w.heap.size 27 2 (.slice (some ⟨A, 0, none⟩) 1 1) 1 [.string t.name, .slice aa t.args.length ca] := ownsRow_at ho fun g hg => hb3.block g (ho.lt g hg).2
  have hs3 : Sl w3 (fun b => b < w.heap.size) aa t.args := (hs.mono (Y := fun b => b < w.heap.size) fun b _ h => h).later hbw3
  have hl4 := own_lit w3 w.heap.size 9 1 1 #[.string s] hbw3.size rfl (by decide)
  refine ⟨⟨_, ((ho3.alloc _).alloc _), ⟨aa, ca, [], rfl, ((hs3.later ((Below.refl _ _).alloc (Nat.le_refl _) _)).later ((Below.refl _ _).alloc (Nat.le_refl _) _)).mono fun b hx _ => ⟨?_, ?_, ?_⟩, rfl⟩⟩, (by rw [hE]; exact hl4.alloc _), ⟨[], ?_, rfl, by simp⟩, (fun b h1 h2 => ?_), ⟨?_, ?_⟩, by omega, hb4.alloc hb4.size _⟩
  · have : b < w.heap.size := hx
    intro e
    simp [Value.ownBlock] at e
    omega
  · have : b < w.heap.size := hx
    intro e
    simp [Value.ownBlock] at e
    omega
  · have : b < w.heap.size := hx
    omega
  · have := MapAt.new (w3.alloc (.cells #[.string s] 9))
    rw [hz4, ← hE] at this
    exact this
  · simp [Value.ownBlock] at h1 h2
    omega
  · simp [Value.ownBlock]
    omega
  · simp [Value.ownBlock]
theorem rchG_nodup {rs : List Pr} : ∀ (f i : Nat) (all a : List Tm), (all.map tx8).Nodup → all.length ≤ 200 → rchG rs f i all = some a → (a.map tx8).Nodup
  | 0, i, all, a, h1, _, h => by
    simp only [rchG, Option.some.injEq] at h
    subst h
    exact h1
  | f + 1, i, all, a, h1, h2, h => by
    by_cases hi : i < all.length
    · cases hk : addK (stAll rs all[i]) all with
      | none => rw [rchG_full hi hk] at h; cases h
      | some b =>
        rw [rchG_next hi hk] at h
        have := addK_facts (P := fun _ => True) _ _ _ hk h1 h2 (fun _ _ => trivial) fun _ _ => trivial
        exact rchG_nodup f (i + 1) b a this.1 this.2.1 h
    · rw [rchG_end hi] at h
      cases h
      exact h1
theorem sortR_any (zs : List ByteArray) (N : Nat) (v : Value) (w : World) (hl : zs.length ≤ 1000) (h : w.ownsRow N 9 1 v zs.length (zs.map Value.string)) (hN : N ≤ w.heap.size) :
    Calls Tryz.prog 56 #[v] w fun e w' => e = .returned (.tuple #[]) ∧ ∃ ms : List ByteArray, ms.Perm zs ∧ (ms.Pairwise fun a b => ltB b a = false) ∧ LV Value.string w' (fun _ => True) v ms ∧ Below N w w' := by
  rcases h.2 with ⟨rfl, h0⟩ | ⟨g, cap, cur, rfl, hg, hh, hc, _, hcs, htk⟩
  · have e : zs = [] := List.length_eq_zero_iff.1 h0
    subst e
    refine (AnyM.slices_Sort_string_none Tryz.sortStr none 0 w).mono ?_
    rintro e w' ⟨rfl, rfl⟩
    exact ⟨rfl, [], List.Perm.refl _, List.Pairwise.nil, ⟨none, 0, rfl, by simp, Or.inl rfl⟩, Below.refl _ _⟩
  · have hgl := (h.lt g rfl).2
    refine (sortS_any zs g cap w (by omega) hgl hc fun j hj => ⟨?_, by simp [World.frozen?, hh]⟩).mono ?_
    · have h3 := congrArg (fun l => l[j]?) htk
      simp only [List.getElem?_take, Nat.mul_one, if_pos hj] at h3
      simp only [World.cell?, hh]
      rw [← Array.getElem?_toList, h3]
      simp [hj]
    · rintro e w' ⟨rfl, ms, h1, h2, h3, h4⟩
      exact ⟨rfl, ms, h1, h2, h3, h4.below hN fun b e => by rw [e]; exact hg⟩
set_option maxHeartbeats 4000000 in
theorem reachP_any (rs : List Pr) (t : Tm) (P : Tm → Prop) (hm : ∀ x, P x → mayE x = 0) (hst : ∀ x y, P x → y ∈ stAll rs x → P y) (ht : P t) (u : Value) (aa : Option Addr) (ca : Nat) (w : World) (X : Nat → Prop) (hu : QV w X u rs) (hs : Sl w X aa t.args) (hr0 : rulesE rs = 0) :
    Calls Tryz.prog 29 #[u, .agg #[.string t.name, .slice aa t.args.length ca]] w fun e w' => RchPost rs t w e w' := by
  have HU := hide hu
  have HS := hide hs
  have HM := hide hm
  have HST := hide hst
  have HT := hide ht
  obtain ⟨au, cu, rfl, hlu, _⟩ := hu
  clear hs hm hst ht
  have hmm := @run_makeMap Tryz.prog
  have HR0 := hide hr0
  have h40 := rulesE_len hr0
  clear hr0
  have hB2 : Below w.heap.size w ((w.alloc (.cells #[.string t.name, .slice aa t.args.length ca] 27)).alloc (.cells #[.string t.name, .slice aa t.args.length ca] 27)) := below2 _ _
  have hT0 : Blk ((w.alloc (.cells #[.string t.name, .slice aa t.args.length ca] 27)).alloc (.cells #[.string t.name, .slice aa t.args.length ca] 27)) w.heap.size #[.string t.name, .slice aa t.args.length ca] 27 := (Blk.new w _ _).alloc _
  have hT1 : Blk ((w.alloc (.cells #[.string t.name, .slice aa t.args.length ca] 27)).alloc (.cells #[.string t.name, .slice aa t.args.length ca] 27)) (w.heap.size + 1) #[.string t.name, .slice aa t.args.length ca] 27 := by
    have h := Blk.new (w.alloc (.cells #[.string t.name, .slice aa t.args.length ca] 27)) #[.string t.name, .slice aa t.args.length ca] 27
    rw [World.size_alloc] at h
    exact h
  go_enter Tryz.func29, Tryz.ntmps29
  go_wp2_with fail
  generalize ((w.alloc (.cells #[.string t.name, .slice aa t.args.length ca] 27)).alloc (.cells #[.string t.name, .slice aa t.args.length ca] 27)) = W at *
  refine (checkAll_any rs [t] _ _ 1 W (fun _ => True) ((HU.out.later hB2).mono fun _ _ _ => trivial) (sl_oneR hT1 ((HS.out.later hB2).mono fun _ _ _ => trivial))).mono ?_
  rintro e w1 ⟨rfl, hb1⟩
  have hal : allE rs [t] = 0 := by unfold allE; rw [firstE_one, if_pos HR0.out]; exact HM.out t HT.out
  rw [hal]
  clear hal
  have HB1 := hide (hB2.trans (hb1.mono hB2.size))
  have T1 := hide (hT0.below hb1 hT0.lt)
  clear hb1 hB2 hT0 hT1
  have t0 := T1.out.c0
  have t1 := T1.out.c1
  have t2 : ∀ o, (w1.alloc o).cell? ⟨w.heap.size, 0, none⟩ = some (.string t.name) := fun o => (T1.out.alloc o).cell 0
  have t3 : ∀ o, (w1.alloc o).cell? ⟨w.heap.size, 1, none⟩ = some (.slice aa t.args.length ca) := fun o => (T1.out.alloc o).cell 1
  have hA2 := HB1.out.alloc HB1.out.size (.cells #[.string t.name, .slice aa t.args.length ca] 27)
  go_wp2_with fail
  refine (ktext_any t _ _ X ⟨aa, ca, rfl, HS.out.later hA2⟩ (txt_may (HM.out t HT.out))).mono ?_
  rintro e w3 ⟨rfl, hb3⟩
  rw [show (⟨(txtL [t]).toArray⟩ : ByteArray) = tx8 t from rfl]
  obtain ⟨A, hA⟩ : ∃ A, A = w1.heap.size := ⟨_, rfl⟩
  have hRS := rc_startP (fun v => ∃ z : Int, v = .int .i64 z) w w1 _ w3 t aa ca A w3.heap.size (tx8 t) HB1.out rfl hb3 hA rfl HS.out
  obtain ⟨w6, hput, hR6, _, _⟩ := hRS.pushM (s := tx8 t) (v := .int .i64 0) (T := 84) Tryz.underlying84 (by simp) ⟨0, rfl⟩
  have HR6 := hide hR6
  have c50 : ∀ o, ((w3.alloc (.cells #[.string (tx8 t)] 9)).alloc o).cell? ⟨w3.heap.size, 0, none⟩ = some (.string (tx8 t)) := fun o => ((Blk.new w3 #[.string (tx8 t)] 9).alloc o).cell 0
  rw [← hA]
  clear hb3 hRS hR6 hA2 t0 t1 t2 t3 T1 HB1 hA
  go_wp2_with fail
  generalize w3.heap.size + 1 = M at *
  clear c50 hput
  go_loopw [7, 8, 10] (fun ov ev o wr => RcO rs t P (fun v => ∃ z : Int, v = .int .i64 z) w M ov ev o wr) (fun ov ev o wr => 201 - (intOf o).toNat)
  case atStart => exact ⟨0, [t], rfl, Nat.zero_le _, by simp, rfl, (fun x hx => by simp at hx; subst hx; exact HT.out), HR6.out⟩
  case round =>
    obtain ⟨i, all, rfl, hi, hal, hrg, hP, hR⟩ := hrel
    have HRG := hide hrg
    have HP := hide hP
    have HR := hide hR
    clear hrg hP
    obtain ⟨xs, hRow⟩ := hR.ex
    have HOL := hide hRow.own.lt
    have HEL := hide hR.es.lt
    by_cases hlt : i < all.length
    · obtain ⟨g, cap, ax, cx, e, d0, d1, hsx, _⟩ := rowH_at hRow hlt
      subst e
      have HPX := hide (HP.out _ (List.getElem_mem hlt))
      have HNX := hide (fun a => rchG_next (rs := rs) (f := 200 - i) (a := a) hlt)
      have HFX := hide (rchG_full (rs := rs) (f := 200 - i) hlt)
      have hlt2 : (i : Int) < (all.length : Int) := by omega
      have hqv := qv_zr HU.out HR.out.bl (fun b e => (HOL.out b e).1) (fun b e => (HEL.out b e).1) HR.out.hM
      have HQV := hide hqv
      have HSX := hide hsx
      generalize hx : all[i] = x at *
      clear hx hRow hR hsx hqv
      obtain ⟨n, hn⟩ : ∃ n, n = all.length := ⟨_, rfl⟩
      rw [← hn] at HOL HR HQV HSX hlt hlt2 hal ⊢
      have HN := hide hn
      clear hn
      obtain ⟨ea, ec, he⟩ := own_shape HR.out.es
      have HLX : Hid (sizeL [x] ≤ 200) := may200 (HM.out x HPX.out)
      subst he
      have hmn : (all.map tx8).length = n := by rw [List.length_map, ← HN.out]
      rw [hmn] at HR HEL HQV HSX ⊢
      clear hmn
      go_wp2_with fail
      refine (stepsOfP_any rs x _ ax cx _ (Zr (.slice (some ⟨g, 0, none⟩) n cap) (.slice ea n ec) M) HQV.out HSX.out HR0.out (HM.out x HPX.out) (fun y hy => by have := may200 (HM.out y (HST.out x y HPX.out hy)); omega)).mono ?_
      rintro e w7 ⟨hb7, N7, v7, xs7, hN7, rfl, hown7, hrow7⟩
      have HB7 := hide hb7
      clear hb7 d0 d1
      · have HST2 := hide (fun y hy => HST.out x y HPX.out hy)
        have HL7 : Hid ((stAll rs x).length ≤ 100000) := by
          have h1 := flat_len (rs := rs) (t := x) h40 (plcT x)
          have h2 := HLX.out
          unfold Hid
          unfold stAll
          rw [plcT_len] at h1
          omega
        have HRW : Hid (RowH w7 N7 (fun b => Zr (.slice (some ⟨g, 0, none⟩) n cap) (.slice ea n ec) M b ∨ wr.heap.size ≤ b) v7 (stAll rs x) xs7) := ⟨hown7, hrow7⟩
        have HN7 := hide hN7
        clear hown7 hrow7 hN7
        generalize hst7 : stAll rs x = st at *
        clear hst7
        obtain ⟨a7, c7, e7⟩ := own_shape HRW.out.own
        subst e7
        have HR7 := hide (HR.out.later HB7.out)
        obtain ⟨w1, hw1⟩ : ∃ w1, w1 = wr := ⟨wr, rfl⟩
        subst hw1
        have HLT7 := hide HRW.out.own.lt
        have HKY : Hid (∀ b, w1.heap.size ≤ b → Zr (.slice (some ⟨g, 0, none⟩) n cap) (.slice ea n ec) M b) := fun b h => by
          have hM1 : M < w1.heap.size := by obtain ⟨L, h1, _⟩ := HR.out.mp; exact h1.lt
          exact ⟨fun e => by have := (HOL.out b e.symm).2; omega, fun e => by have := (HEL.out b e.symm).2; omega, by omega⟩
        have HZ7 : Hid (∀ b, (Zr (.slice (some ⟨g, 0, none⟩) n cap) (.slice ea n ec) M b ∨ w1.heap.size ≤ b) → Zr (.slice (some ⟨g, 0, none⟩) n cap) (.slice ea n ec) M b) := fun b hb => hb.elim id (HKY.out b)
        have HC7 : Hid (∀ (k : Nat) (h : k < st.length), ∃ g7 ak ck, a7 = some ⟨g7, 0, none⟩ ∧ Zr (.slice (some ⟨g, 0, none⟩) n cap) (.slice ea n ec) M g7 ∧ w7.cell? ⟨g7, k * 2, none⟩ = some (.string st[k].name) ∧ w7.cell? ⟨g7, k * 2 + 1, none⟩ = some (.slice ak st[k].args.length ck) ∧ Sl w7 (Zr (.slice (some ⟨g, 0, none⟩) n cap) (.slice ea n ec) M) ak st[k].args) := fun k h => by
          obtain ⟨g7, cap7, ak, ck, e, h1, h2, h3, h4⟩ := rowH_at HRW.out h
          cases e
          have h5 := (HLT7.out g7 rfl).1
          have h6 := HN7.out
          exact ⟨g7, ak, ck, rfl, HKY.out g7 (by omega), h1, h2, h3.mono fun b hb _ => HZ7.out b hb⟩
        clear HZ7
        go_wp2_with fail
        go_loopw [7, 8, 55] (fun ov ev o w9 => RcI st all P (fun v => ∃ z : Int, v = .int .i64 z) w M (.slice (some ⟨g, 0, none⟩) n cap) (.slice ea n ec) w7 ov ev o w9) (fun ov ev o w9 => st.length - (intOf o).toNat)
        case atStart => exact ⟨0, all, rfl, Nat.zero_le _, by have := HN.out; omega, rfl, Nat.le_refl _, HP.out, HR7.out, Or.inl rfl, Or.inl rfl, ExQ.refl _ _⟩
        case round =>
          obtain ⟨k, all2, rfl, hk, hal2, hadd, hlen, hP2, hR2, hf1, hf2, hex⟩ := hrel
          have HADD := hide hadd
          have HP2 := hide hP2
          have HR2 := hide hR2
          have HF1 := hide hf1
          have HF2 := hide hf2
          have HEX := hide hex
          clear hadd hP2 hR2 hf1 hf2 hex
          by_cases hk2 : k < st.length
          · obtain ⟨g7, ak, ck, e, hg7, d0, d1, hs7⟩ := HC7.out k hk2
            subst e
            have hg7l : g7 < w7.heap.size := World.block_lt_of_cell? w7 _ d0
            have f0 : wr.cell? ⟨g7, k * 2, none⟩ = some (.string st[k].name) := (World.cell?_of_block (HEX.out.block g7 hg7l fun h => h hg7)).trans d0
            have f1 : wr.cell? ⟨g7, k * 2 + 1, none⟩ = some (.slice ak st[k].args.length ck) := (World.cell?_of_block (HEX.out.block g7 hg7l fun h => h hg7)).trans d1
            have HSY := hide (fst_kept hs7 HEX.out)
            have HPY := hide (HST2.out _ (List.getElem_mem hk2))
            have HDR := hide (List.drop_eq_getElem_cons hk2)
            have hk3 : (k : Int) < (st.length : Int) := by omega
            have hk5 : k ≤ 100000 := by have := HL7.out; omega
            generalize hy : st[k] = y at *
            clear hy d0 d1 hs7 hg7
            obtain ⟨oa, oc, e1⟩ := own_shape (HR2.out.ex).choose_spec.own
            subst e1
            obtain ⟨ea2, ec2, e2⟩ := own_shape HR2.out.es
            subst e2
            obtain ⟨m, hm2⟩ : ∃ m, m = all2.length := ⟨_, rfl⟩
            have hmn : (all2.map tx8).length = m := by rw [List.length_map, ← hm2]
            rw [hmn] at HR2 HF2 ⊢
            rw [← hm2] at HR2 HF1 ⊢
            have HMN := hide hmn
            have HM2 := hide hm2
            have hm200 : m ≤ 200 := by omega
            clear hmn hm2 hal2
            have hbb : Below wr.heap.size wr (wr.alloc (.cells #[.string y.name, .slice ak y.args.length ck] 27)) := (Below.refl _ _).alloc (Nat.le_refl _) _
            have hBB := Blk.new wr #[.string y.name, .slice ak y.args.length ck] 27
            go_wp2_with fail
            generalize wr.alloc (.cells #[.string y.name, .slice ak y.args.length ck] 27) = wb at *
            obtain ⟨B, hB⟩ : ∃ B, B = wr.heap.size := ⟨_, rfl⟩
            rw [← hB] at hBB ⊢
            refine (ktext_any y _ _ _ ⟨ak, ck, rfl, HSY.out.later hbb⟩ (txt_may (HM.out y HPY.out))).mono ?_
            rintro e w10 ⟨rfl, hb10⟩
            rw [show (⟨(txtL [y]).toArray⟩ : ByteArray) = tx8 y from rfl]
            have hbt := hbb.trans (hb10.mono hbb.size)
            have HR10 := hide (HR2.out.later hbt)
            have HEX10 := hide (HEX.out.transN (ExQ.ofBelow (Q := fun _ => False) hbt) (fun i h => absurd h id))
            have hB10 := hBB.below hb10 hBB.lt
            have HSY10 := hide (HSY.out.later hbt)
            have hBM : B ≠ M := by
              obtain ⟨L, h1, _⟩ := HR2.out.mp
              have := h1.lt
              omega
            clear hb10 f0 f1 HSY HR2 HEX hbb hBB hbt hB
            obtain ⟨L, hL1, hL2, hL3⟩ := HR10.out.mp
            have hlook := run_look (P := Tryz.prog) Tryz.underlying84 Tryz.underlying9 (Tryz.zeroValue3 w10) hL1 (tx8 y)
            by_cases hin : tx8 y ∈ all2.map tx8
            · obtain ⟨z, hv⟩ : ∃ z : Int, mapGet L (tx8 y) = some (.int .i64 z) := by
                have h1 := mapGet_key.2 (show tx8 y ∈ L.map (·.1) by rw [hL2]; exact hin)
                cases h2 : mapGet L (tx8 y) with
                | none => rw [h2] at h1; cases h1
                | some v =>
                  obtain ⟨p, hp, rfl⟩ := mapGet_in h2
                  obtain ⟨z, hz⟩ := hL3 p hp
                  exact ⟨z, by rw [hz]⟩
              rw [hv] at hlook
              simp only [Option.getD_some, Option.isSome_some] at hlook
              have HA : Hid (addK st all = addK (st.drop (k + 1)) all2) := HADD.out.trans (by rw [HDR.out]; exact addK_old hin)
              clear hv hL1 hL2 hL3 hB10
              go_wp2_with fail
              go_roundw
              case rel => exact ⟨k + 1, all2, by go_num, by omega, by have := HM2.out; omega, HA.out, hlen, HP2.out, HR10.out, HF1.out, HF2.out, HEX10.out⟩
              case measure => simp [intOf]; omega
            · have hv : mapGet L (tx8 y) = none := by
                cases h2 : mapGet L (tx8 y) with
                | none => rfl
                | some v => exact absurd (by rw [← hL2]; exact mapGet_key.1 (by rw [h2]; rfl)) hin
              rw [hv] at hlook
              simp only [Option.getD_none, Option.isSome_none] at hlook
              clear hv hL1 hL2 hL3
              by_cases h200 : m = 200
              · have HA : Hid (addK st all = none) := HADD.out.trans (by rw [HDR.out]; exact addK_full hin (by rw [← HM2.out]; exact h200))
                have hm1 : ((m : Int) == 200) = true := by simp [h200]
                have hm3 : (m : Int) = 200 := by omega
                clear h200 hm1 hB10
                go_wp2_with fail
                refine bodyPost_ret (v := .tuple #[.slice none 0 0, .int .i64 3]) (by simp [results, Tryz.results29, go_sem]) rfl ?_
                refine ⟨HR10.out.bl, Or.inl ⟨HRG.out.trans ?_, rfl⟩⟩
                have h9 := HN.out
                rw [show 201 - i = 200 - i + 1 by omega]
                exact HFX.out HA.out
              · have HA : Hid (addK st all = addK (st.drop (k + 1)) (all2 ++ [y])) := HADD.out.trans (by rw [HDR.out]; exact addK_new hin (by rw [← HM2.out]; exact h200))
                have hm1 : ((m : Int) == 200) = false := by simp; omega
                have H200 := hide h200
                clear h200
                obtain ⟨w11, hput, hR11, hx11, hz11⟩ := HR10.out.pushM (s := tx8 y) (v := .int .i64 (m : Int)) (T := 84) Tryz.underlying84 hin ⟨_, rfl⟩
                have hZ0 : Sl w10 (Zr (.slice oa m oc) (.slice ea2 m ec2) M) ak y.args := HSY10.out.mono fun b hb _ => hb.zr HF1.out HF2.out
                have hZ1 := hZ0.exq hx11 fun b hb e => hb.2.2 e
                obtain ⟨g9, cap9, w12, hr12, hR12, hx12, ha12⟩ := hR11.pushT (z := y) (c := ck) hZ1 (by have := HM2.out; omega)
                obtain ⟨g8, cap8, w13, hr13, hR13, hx13, ha13⟩ := hR12.pushS (s := tx8 y) (by rw [HMN.out]; omega)
                have hw7 := HEX10.out.size
                have hw12 := hx12.size
                have hF1n := HF1.out.next (w := w11) (n := all2.length + 1) (cap := cap9) (by omega) ha12
                have hF2n := HF2.out.next (w := w12) (n := (all2.map tx8).length + 1) (cap := cap8) (by omega) ha13
                have hE11 := exq_own HEX10.out (hx11.mono (R := fun b => some b = (Value.slice oa m oc).ownBlock ∨ some b = (Value.slice ea2 m ec2).ownBlock ∨ b = M) fun i h _ => Or.inr (Or.inr h)) HF1.out HF2.out
                have hE12 := exq_own hE11 (hx12.mono (R := fun b => some b = (Value.slice oa m oc).ownBlock ∨ some b = (Value.slice ea2 m ec2).ownBlock ∨ b = M) fun i h _ => Or.inl h) HF1.out HF2.out
                have hE13 := exq_own hE12 (hx13.mono (R := fun b => some b = (Value.slice (some ⟨g9, 0, none⟩) (all2.length + 1) cap9).ownBlock ∨ some b = (Value.slice ea2 m ec2).ownBlock ∨ b = M) fun i h _ => Or.inr (Or.inl h)) hF1n HF2.out
                have hB11 : Blk w11 B #[.string y.name, .slice ak y.args.length ck] 27 := hB10.exq hx11 hBM
                have i0 := hB11.cell 0
                have i1 := hB11.cell 1
                have HR8 := hide hr12
                have HR9 := hide hr13
                have HRN := hide hR13
                have HF1N := hide hF1n
                have HF2N := hide hF2n
                have HEN := hide hE13
                rw [HMN.out] at HR9 HRN HF2N
                rw [← HM2.out] at HR8 HRN HF1N
                clear hR11 hx11 hr12 hR12 hx12 ha12 hZ0 hZ1 hr13 hR13 hx13 ha13 hF2n hF1n hE11 hE12 hE13 hz11 hw7 hw12 hB11 hB10 hBM
                go_wp2_with (first | (at_builtin; refine wpList_append_eq rfl _ _ _ _ rfl rfl rfl HR8.out ?_; clear HR8) | (at_builtin; refine wpList_append_eq rfl _ _ _ _ rfl rfl rfl HR9.out ?_))
                go_roundw
                case rel => exact ⟨k + 1, all2 ++ [y], by go_num, by omega, by simp; have := HM2.out; have := H200.out; omega, HA.out, by simp; omega, (fun z hz => by
                    rcases List.mem_append.1 hz with h | h
                    · exact HP2.out z h
                    · simp at h; subst h; exact HPY.out), by rw [List.map_append]; exact HRN.out, HF1N.out, HF2N.out, HEN.out⟩
                case measure => simp [intOf]; omega
          · have hke : k = st.length := by omega
            have HA : Hid (addK st all = some all2) := by
              have h := HADD.out
              rw [hke, List.drop_length] at h
              exact h
            have hsz : Below w.heap.size w wr := HR2.out.bl
            go_wp2_with fail
            go_roundw
            case rel =>
              have h9 := HN.out
              refine ⟨i + 1, all2, by go_num, by omega, hal2, HRG.out.trans ?_, HP2.out, HR2.out⟩
              rw [show 201 - i = 200 - i + 1 by omega, show 201 - (i + 1) = 200 - i by omega]
              exact HNX.out _ HA.out
            case measure => simp [intOf]; have h9 := HN.out; omega
    · have hie : i = all.length := by omega
      have HE : Hid (rchG rs 201 0 [t] = some all) := HRG.out.trans (rchG_end hlt)
      have HND := hide (rchG_nodup 201 0 [t] all (by simp) (by simp) HE.out)
      obtain ⟨oa, oc, e1⟩ := own_shape hRow.own
      subst e1
      obtain ⟨ea, ec, e2⟩ := own_shape HR.out.es
      subst e2
      have hlt3 : ¬ (i : Int) < (all.length : Int) := by omega
      have hl8 : (all.map tx8).length ≤ 1000 := by simp; omega
      clear hRow hR
      generalize htx : all.map tx8 = tx at *
      have HTX := hide htx
      clear htx
      go_wp2_with fail
      refine (sortR_any tx _ _ _ hl8 HR.out.es HR.out.bl.size).mono ?_
      rintro e w7 ⟨rfl, ms, h1, h2, h3, hb7⟩
      have HPM := hide h1
      have HPW := hide h2
      have HLV := hide h3
      have HB7 := hide hb7
      clear h1 h2 h3 hb7
      go_wp2_with fail
      refine bodyPost_ret (v := .tuple #[.slice ea tx.length ec, .int .i64 0]) (by simp [results, Tryz.results29, go_sem]) rfl ?_
      obtain ⟨k1, k2⟩ := asc_of_perm HPM.out HND.out HPW.out
      exact ⟨HR.out.bl.trans HB7.out, Or.inr ⟨all, _, ms, HE.out, k1, (by rw [HTX.out]; exact k2), rfl, HLV.out⟩⟩
end Go.Proofs.YtmkendjmfdaedaaGreat
