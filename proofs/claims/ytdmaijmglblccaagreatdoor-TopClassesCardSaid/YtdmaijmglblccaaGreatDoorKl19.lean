/- Walks: the texts of each class, in order (closure.texts). -/
import Derived.Test.YtdmaijmglblccaaGreatDoorKl18
namespace Go.Proofs.YtdmaijmglblccaaGreatDoor
open Go.RowKit
set_option linter.unusedSimpArgs false
set_option linter.unusedVariables false
set_option maxRecDepth 8000

theorem drop_st {w w' : World} {N : Nat} {v : Value} {ps : List (Value × List ByteArray)} (h : ∀ p ∈ ps, StG N w v p) : ∀ p ∈ ps, StG 0 w v p := fun p hp => by
  obtain ⟨g, c, e, _, h2⟩ := h p hp
  exact ⟨g, c, e, Nat.zero_le _, h2⟩
set_option maxHeartbeats 8000000 in
theorem texts_any (hS : SrtR) (hN0 : SrtN) {N B r : Nat} {X : Nat → Prop} {o : Nat → Oid} {k : Kl} {m : Km} (w : World) (hK : KlAt N B r X w o k m) (hlm : k.mb.length = k.ts.length) (hmlt : ∀ c, c < k.ts.length → ∀ i ∈ k.M c, i < k.ts.length) (hml : ∀ c, c < k.ts.length → (k.M c).length ≤ 900) (h9 : k.ts.length ≤ 900) (htx : ∀ i, i < k.ts.length → (txtL [k.T i]).length ≤ 1000000) :
    Calls Tryz.prog 32 #[.pointer (some ⟨B, 0, none⟩)] w (TxP k w) := by
  obtain ⟨a3, c3, hv3⟩ := hK.r3.shape
  have e3 : w.cell? ⟨B, 3, none⟩ = some (.slice a3 k.mb.length c3) := by rw [hK.box.cell]; simp [hv3, hK.l3]
  have hv3' : m.v3 = .slice a3 k.mb.length c3 := by rw [hv3, hK.l3]
  have HV3 := hide hv3'
  have HK := hide hK
  have HMLT := hide hmlt
  have HML := hide hml
  have HTX := hide htx
  have HS := hide hS
  have HN0 := hide hN0
  have HLM := hide hlm
  clear hK hmlt hml htx hv3 hv3' hS hN0 hlm
  go_enter Tryz.func32, Tryz.ntmps32
  go_wp2_with fail
  go_loopw [3, 14] (fun v i wr => TxI k w v i wr) (fun v i wr => k.mb.length - (intOf i).toNat)
  case atStart => exact ⟨0, [], Nat.zero_le _, rfl, Nat.le_refl _, rfl, World.ownsRow_nil _ _ _ _, by simp, Below.refl _ _⟩
  case round =>
    obtain ⟨c, ps, hc, rfl, hpl, hT, ho, hst, hb⟩ := hrel
    generalize wr = w1 at *
    obtain ⟨va, vc, rfl⟩ := own_sh2 ho
    have HO := hide ho
    have HT := hide hT
    have HST := hide hst
    have HB := hide hb
    by_cases hcl : c < k.mb.length
    · have hci : (c : Int) < (k.mb.length : Int) := by omega
      have hcT : c < k.ts.length := by rw [← HLM.out]; exact hcl
      have KW := HK.out.later hb
      obtain ⟨g3, c3', ar, cr, h1, hgd, hcell, -, -, -, -⟩ := KW.mb_at hcl
      rw [HV3.out] at h1
      have ha3 : a3 = some ⟨g3, 0, none⟩ := by injection h1
      subst ha3
      have HGD := hide hgd
      have HKW := hide KW
      clear h1 KW hgd ho hT hst hb
      have HLEN : Hid ((k.M c).length ≤ 900) := HML.out c hcT
      go_wp2_with fail
      go_loopw [6, 20] (fun v i wq => TxJ k c w1 v i wq) (fun v i wq => (k.M c).length - (intOf i).toNat)
      case atStart => exact ⟨0, Nat.zero_le _, rfl, by simpa using World.ownsRow_nil _ _ _ _, Below.refl _ _⟩
      case round =>
        obtain ⟨j, hj, rfl, hl, hbq⟩ := hrel
        obtain ⟨la, lc, rfl⟩ := own_sh2 hl
        have HL := hide hl
        have HEL : Hid ((((k.M c).take j).map fun i => Value.string (txB (k.T i))).length = j) := by unfold Hid; rw [List.length_map, List.length_take]; omega
        rw [HEL.out]
        have HBQ := hide hbq
        by_cases hjl : j < (k.M c).length
        · have hji : (j : Int) < ((k.M c).length : Int) := by omega
          have hjb : j < 900 := Nat.lt_of_lt_of_le hjl HLEN.out
          have KQ := HKW.out.later hbq
          have hrow := KQ.i3 c hcl
          rw [HGD.out] at hrow
          rw [iL_len] at hrow
          obtain ⟨gr, u, hga, hu, hcu, -, -, -, -⟩ := hrow.at (i := j) hjl
          subst hga
          have hue := iL_at hu
          subst hue
          have hmem : gd (k.M c) 0 j ∈ k.M c := gd_mem hjl
          have hit := HMLT.out c hcT _ hmem
          obtain ⟨g0, c0, at_, ct, -, b0, d0, d1, s0, hz⟩ := KQ.ts_at hit
          have hi0 : ((gd (k.M c) 0 j : Nat) : Int) < (m.cs.length : Int) := by rw [hz]; omega
          have HTK : Hid (((k.M c).take (j + 1)).map (fun i => Value.string (txB (k.T i))) = ((k.M c).take j).map (fun i => Value.string (txB (k.T i))) ++ [Value.string (txB (k.T (gd (k.M c) 0 j)))]) := by
            unfold Hid
            rw [List.take_succ_eq_append_getElem hjl, List.map_append, gd_get hjl]
            rfl
          have HL1 := HTX.out _ hit
          have HZ : Hid ((((k.M c).take j).map fun i => Value.string (txB (k.T i))).length ≤ 900) := by
            unfold Hid; simp; have := HLEN.out; omega
          have HS0 := hide s0
          clear hmem hit hu hrow KQ s0 hl hbq hz
          generalize k.T (gd (k.M c) 0 j) = tt at *
          generalize gd (k.M c) 0 j = ii at *
          go_wp2_with fail
          refine (ktext_any tt _ wr X ⟨_, _, rfl, HS0.out⟩ HL1).mono ?_
          rintro e w2 ⟨rfl, hb2⟩
          have HL2 := ownsRow_at HL.out fun g hg => hb2.block g (HL.out.lt g hg).2
          have HBZ := HBQ.out.trans (hb2.mono HBQ.out.size)
          obtain ⟨g, cap, w5, hr5, R5, hat5, hx5⟩ := appK_own Tryz.underlying31 Tryz.infoStr rfl (by decide) HL2 HBZ.size (Nat.le_trans HZ.out (by omega)) (.string (txB tt)) rfl
          have e9 : (((k.M c).take j).map (fun i => Value.string (txB (k.T i))) ++ [Value.string (txB tt)]).length = j + 1 := by rw [List.length_append, HEL.out]; rfl
          have NXT : Hid (TxJ k c w1 (.slice (some ⟨g, 0, none⟩) (j + 1) cap) (.int .i64 ((j + 1 : Nat) : Int)) w5) := by
            refine ⟨j + 1, hjl, rfl, ?_, ?_⟩
            · rw [HTK.out, ← e9]; exact R5
            · refine ⟨hx5.os.trans HBZ.os, hx5.tape.trans HBZ.tape, hx5.output.trans HBZ.output, Nat.le_trans HBZ.size hx5.size, fun b hb2 => ?_⟩
              rw [hx5.block b (Nat.lt_of_lt_of_le hb2 HBZ.size) fun e => ?_]
              · exact HBZ.block b hb2
              · have := (HL2.lt b e).1; omega
          rw [HEL.out] at hr5
          have HR5 := hide hr5
          clear hr5 R5 hat5 hx5 HBZ HL2 e9 hb2
          change Hid ((Builtin.append_ #[31, 31] 31 #[.slice la j lc, .slice (some ⟨w2.heap.size, 0, none⟩) 1 1]).run Tryz.prog (w2.alloc (.cells #[.string ⟨(txtL [tt]).toArray⟩] 9)) = .ok (.slice (some ⟨g, 0, none⟩) (j + 1) cap) w5) at HR5
          go_wp2_with (at_builtin; refine wpList_append_eq rfl _ _ _ _ rfl rfl rfl HR5.out ?_)
          go_roundw
          case rel => exact NXT.out
          case measure => simp [intOf]; omega
        · have hji : ¬ (j : Int) < ((k.M c).length : Int) := by omega
          have hcb : c < 900 := by omega
          have etk : (k.M c).take j = k.M c := List.take_of_length_le (by omega)
          rw [etk] at HL
          by_cases he : k.M c = []
          · have hj0 : j = 0 := by rw [he] at hj; simpa using hj
            subst hj0
            have NXT : Hid (TxI k w (.slice va ps.length vc) (.int .i64 ((c + 1 : Nat) : Int)) wr) := by
              have h := TxI.next0 hcl hpl HT.out HO.out HST.out HB.out he HBQ.out
              rwa [List.length_map] at h
            have HN1 := AnyM.slices_Sort_string_none Tryz.laysSlM6_f49 la lc wr
            change Calls Tryz.prog 49 _ _ _ at HN1
            have HN2 := hide HN1
            clear HN1 hl hbq etk
            have etk0 : (((k.M c).take 0).map fun i => Value.string (txB (k.T i))).length = 0 := rfl
            go_wp2_with (first | (at_builtin; fail) | fail)
            refine HN2.out.mono ?_
            rintro e w2 ⟨rfl, rfl⟩
            go_wp2_with fail
            go_roundw
            case rel => exact NXT.out
            case measure => simp [intOf]; omega
          · have HNE := hide he
            have hpos : 0 < (k.M c).length := List.length_pos_iff.2 he
            have hjeq : j = (k.M c).length := by omega
            have HL3 := HL.out
            rw [List.length_map] at HL3
            obtain ⟨g, cap, hvl, hgN, hglt⟩ := HL3.form hpos
            have hla : la = some ⟨g, 0, none⟩ := by injection hvl
            subst hla
            have hcap := own_cap HL3
            have HH : ∀ q (h : q < ((k.M c).map fun i => txB (k.T i)).length), wr.cell? ⟨g, q, none⟩ = some (.string ((k.M c).map fun i => txB (k.T i))[q]) ∧ wr.frozen? ⟨g, q, none⟩ = false := fun q h => by
              refine ⟨?_, HL3.frozenAt q⟩
              have h2 : q < (k.M c).length := by simpa using h
              rw [HL3.cellAt q (by omega)]
              simp [h2]
            have CS := kSort_any ((k.M c).map fun i => txB (k.T i)) g lc wr (by rw [List.length_map]; have := HLEN.out; omega) hglt (by rw [List.length_map]; have := HLEN.out; omega) HH
            rw [List.length_map] at CS
            rw [← hjeq] at CS
            have HCS := hide CS
            have HJE := hide hjeq
            have hj0 : (0 : Int) < (j : Int) := by omega
            have hjn : (j : Int) ≤ 900 := by have := HLEN.out; omega
            clear CS HH HL3 hvl hl etk hbq hcap he hjeq hpos
            go_wp2_with fail
            refine HCS.out.mono ?_
            rintro e w2 ⟨rfl, ms, hp, hsrt, hLV, hx⟩
            have hms : ms.length = j := by rw [hp.length_eq, List.length_map]; exact HJE.out.symm
            have hcells : ∀ q (h : q < ms.length), w2.cell? ⟨g, q, none⟩ = some (.string ms[q]) := by
              obtain ⟨a9, c9, e9, -, h9⟩ := hLV
              rcases h9 with h9 | ⟨b9, o9, e10, -, h10⟩
              · intro q h; rw [h9] at h; simp at h
              · subst e10
                injection e9 with e11
                injection e11 with e12
                injection e12 with e13 e14
                subst e13 e14
                intro q h
                have := h10 q h
                rwa [Nat.zero_add] at this
            have HB2 : Below w1.heap.size w1 w2 := by
              refine ⟨hx.os.trans HBQ.out.os, hx.tape.trans HBQ.out.tape, hx.output.trans HBQ.out.output, Nat.le_trans HBQ.out.size hx.size, fun b hb2 => ?_⟩
              rw [hx.block b (Nat.lt_of_lt_of_le hb2 HBQ.out.size) (by omega)]
              exact HBQ.out.block b hb2
            have HO2 := ownsRow_at HO.out fun b hb => HB2.block b (HO.out.lt b hb).2
            obtain ⟨g2, cap2, w6, hr6, R6, hat6, hx6⟩ := appK_own Tryz.underlying37 Tryz.infoStrs rfl (by decide) HO2 (Nat.le_trans HB.out.size HB2.size) (by rw [List.length_map]; omega) (.slice (some ⟨g, 0, none⟩) ms.length lc) rfl
            have NXT : Hid (TxI k w (.slice (some ⟨g2, 0, none⟩) (ps.length + 1) cap2) (.int .i64 ((c + 1 : Nat) : Int)) w6) := by
              have h := TxI.next1 hcl hpl HT.out HO.out HST.out HB.out HNE.out HB2 hp hsrt (by omega) hgN (Nat.lt_of_lt_of_le hglt hx.size) hcells R6 hat6 hx6
              rwa [List.length_append, List.length_map] at h
            rw [hms, List.length_map] at hr6
            have HR6 := hide hr6
            clear hr6 R6 hat6 hx6 HO2 HB2 hcells hx hLV hp hsrt
            go_wp2_with (at_builtin; refine wpList_append_eq rfl _ _ _ _ rfl rfl rfl HR6.out ?_)
            go_roundw
            case rel => exact NXT.out
            case measure => simp [intOf]; omega
    · have hci : ¬ (c : Int) < (k.mb.length : Int) := by omega
      have hcE : c = k.mb.length := by omega
      subst hcE
      have HZ := hide ho.lt
      by_cases hp0 : ps = []
      · subst hp0
        have HT0 := HT.out
        have HB0 := HB.out
        have HN1 := hide (HN0.out va vc w1)
        clear ho hT hst hb
        go_wp2_with fail
        refine HN1.out.mono ?_
        rintro e w2 ⟨rfl, rfl⟩
        go_wp2_with fail
        go_ret
        exact ⟨HB0, va, vc, [], _, rfl, Or.inl rfl, by simp, List.Perm.refl _, HT0, List.Pairwise.nil⟩
      · have hpos : 0 < ps.length := List.length_pos_iff.2 hp0
        have ho3 := ho
        obtain ⟨g, cap, hvl, hgN, hglt⟩ := ho3.form (by rw [List.length_map]; exact hpos)
        have hva : va = some ⟨g, 0, none⟩ := by injection hvl
        subst hva
        rw [List.length_map] at ho3
        have HH : ∀ q (h : q < ps.length), w1.cell? ⟨g, q, none⟩ = some ps[q].1 ∧ w1.frozen? ⟨g, q, none⟩ = false := fun q h => by
          refine ⟨?_, ho3.frozenAt q⟩
          rw [ho3.cellAt q (by omega)]
          simp [h]
        have hst2 := drop_st (w' := w1) hst
        rw [List.length_map] at hst2
        have CS := hide (HS.out ps g vc w1 hpos (by have := HLM.out; omega) hglt HH hst2)
        have HST2 := hide hst2
        clear ho hT hst hb ho3 HH hst2 hvl
        go_wp2_with fail
        refine CS.out.mono ?_
        rintro e w2 ⟨rfl, qs, hp, hsrt, hcells, hx⟩
        have hql : qs.length = ps.length := hp.length_eq
        have FIN : Hid (∀ e, e = .returned (.slice (some ⟨g, 0, none⟩) ps.length vc) → TxP k w e w2) := by
          rintro e rfl
          refine ⟨?_, some ⟨g, 0, none⟩, vc, qs, ps.map (·.2), by rw [hql], Or.inr ⟨g, rfl, hcells⟩, fun p hpm => ?_, hp.map _, HT.out, hsrt.imp fun {a b} h => by omega⟩
          · have HB0 := HB.out
            refine ⟨hx.os.trans HB0.os, hx.tape.trans HB0.tape, hx.output.trans HB0.output, Nat.le_trans HB0.size hx.size, fun b hb2 => ?_⟩
            rw [hx.block b (Nat.lt_of_lt_of_le hb2 HB0.size) (by omega)]
            exact HB0.block b hb2
          · obtain ⟨g', c', e', -, h2, h3, h4, h5⟩ := HST2.out p (hp.subset hpm)
            have hne : ¬ g' = g := fun e => h3 (by rw [e]; rfl)
            exact ⟨g', c', e', Nat.lt_of_lt_of_le h2 hx.size, h4, fun j hj => by
              rw [← h5 j hj]
              simp only [World.cell?, hx.block g' h2 hne]⟩
        clear hp hsrt hcells hx hql
        go_wp2_with fail
        go_ret
        exact FIN.out _ rfl
end Go.Proofs.YtdmaijmglblccaaGreatDoor
