/- Walks: kinds are joined till no round joins any (ClosureOf, its last part). -/
import Derived.Test.YtdmaijmglblccaaGreatDoorKl27
import Derived.BigQuiet
import Derived.Deep.LoopGhost
namespace Go.Proofs.YtdmaijmglblccaaGreatDoor
open Go.RowKit
set_option linter.unusedSimpArgs false
set_option linter.unusedVariables false
set_option maxRecDepth 8000

/-- What stands fast while kinds are joined: the terms, and their parts by numbers. -/
structure FxK (L : List Tm) (bl : List (List Nat)) (A : Nat) (oa : Option Addr) (n oc gb G : Nat) (w : World) : Prop where
  bx : Blk w A #[.slice oa n oc] 23
  nA : A ≠ G
  ln : L.length = n
  tm : ∀ i, i < n → ∃ g ax cx, oa = some ⟨g, 0, none⟩ ∧ g ≠ G ∧ w.cell? ⟨g, i * 2, none⟩ = some (.string (gd L noK i).name) ∧ w.cell? ⟨g, i * 2 + 1, none⟩ = some (.slice ax (gd L noK i).args.length cx)
  bw : ∀ i, i < n → ∃ ai ci, w.cell? ⟨gb, i, none⟩ = some (.slice ai (gd bl [] i).length ci) ∧ ∀ j, j < (gd bl [] i).length → ∃ gi, ai = some ⟨gi, 0, none⟩ ∧ gi ≠ G ∧ w.cell? ⟨gi, j, none⟩ = some (.int .i64 ((gd (gd bl [] i) 0 j : Nat) : Int))
  nb : gb ≠ G
  sl : Sl w (fun b => b ≠ G) oa L
theorem cell_exq {Q : Nat → Prop} {w w' : World} {a : Addr} {v : Value} (he : ExQ Q w w') (hq : ¬ Q a.block) (h : w.cell? a = some v) : w'.cell? a = some v :=
  (World.cell?_of_block (he.block a.block (World.block_lt_of_cell? w _ h) hq)).trans h
theorem FxK.exq {L : List Tm} {bl : List (List Nat)} {A : Nat} {oa : Option Addr} {n oc gb G : Nat} {w w' : World} (h : FxK L bl A oa n oc gb G w) (he : ExQ (fun b => b = G) w w') : FxK L bl A oa n oc gb G w' :=
  ⟨h.bx.exq he h.nA, h.nA, h.ln, fun i hi => by
    obtain ⟨g, ax, cx, e, h1, h2, h3⟩ := h.tm i hi
    exact ⟨g, ax, cx, e, h1, cell_exq he h1 h2, cell_exq he h1 h3⟩, fun i hi => by
    obtain ⟨ai, ci, h1, h2⟩ := h.bw i hi
    refine ⟨ai, ci, cell_exq he h.nb h1, fun j hj => ?_⟩
    obtain ⟨gi, e, h3, h4⟩ := h2 j hj
    exact ⟨gi, e, h3, cell_exq he h3 h4⟩, h.nb, h.sl.exq he fun b hb e => hb e⟩
/-- Each equation's sides are of one kind. -/
def GvK (ls : List Pr) (L : List Tm) (K : List Nat) : Prop := ∀ p ∈ ls, ∃ i k, i < L.length ∧ k < L.length ∧ gd L noK i = p.l ∧ gd L noK k = p.r ∧ gd K 0 i = gd K 0 k
theorem GvK.join {ls : List Pr} {L : List Tm} {K : List Nat} (h : GvK ls L K) (hl : K.length = L.length) (a b : Nat) : GvK ls L (joK K a b) := fun p hp => by
  obtain ⟨i, k, h1, h2, h3, h4, h5⟩ := h p hp
  exact ⟨i, k, h1, h2, h3, h4, joK_keep (by omega) (by omega) h5⟩
/-- What ClosureOf tells. -/
def ClO (ls : List Pr) (qs : List Tm) (w : World) (e : Ending) (w' : World) : Prop :=
  Below w.heap.size w w' ∧ ∃ (L : List Tm) (K : List Nat) (oa : Option Addr) (oc G : Nat), e = .returned (.tuple #[.slice oa L.length oc, .slice (some ⟨G, 0, none⟩) L.length L.length]) ∧ Sl w' (fun _ => True) oa L ∧ Blk w' G (iL K).toArray 3 ∧ Num ls L K ∧ Done ls L K ∧ (∀ x, x ∈ L ↔ x ∈ preL (prT ls ++ qs)) ∧ K.length = L.length ∧ (∀ c ∈ K, c < L.length) ∧ L.length ≤ 1000
/-- Does it begin with that region? -/
def headIsK (n : Nat) : Code → Bool
  | .region m _ _ => m == n
  | .seq a _ => headIsK n a
  | .scope c => headIsK n c
  | .block _ c => headIsK n c
  | _ => false
/-- The statements from a region on. -/
def seqFromK (n : Nat) : Code → Code
  | .seq a b => bif headIsK n a then .seq a b else seqFromK n b
  | .scope c => seqFromK n c
  | c => c
/-- At each round's head. -/
structure AgK (ls : List Pr) (L : List Tm) (bl : List (List Nat)) (B G n : Nat) (w3 : World) (g : Nat) (ag : Value) (wr : World) : Prop where
  ex : ∃ (K : List Nat) (b : Bool), ag = .bool b ∧ KdA B G n K wr ∧ KdI ls L K ∧ GvK ls L K ∧ (b = false → ∀ i, i < n → ∀ k, k < i → okP L bl K i k) ∧ (b = true → cnK n K + 1 ≤ g)
  fr : ExQ (fun b => b = G) w3 wr
/-- Within a round. -/
structure AiK (ls : List Pr) (L : List Tm) (bl : List (List Nat)) (B G n : Nat) (w3 : World) (K0 : List Nat) (ag iv : Value) (wr : World) : Prop where
  ex : ∃ (K : List Nat) (b : Bool) (i : Nat), ag = .bool b ∧ iv = .int .i64 (i : Int) ∧ i ≤ n ∧ KdA B G n K wr ∧ KdI ls L K ∧ GvK ls L K ∧ (b = false → K = K0 ∧ ∀ i', i' < i → ∀ k, k < i' → okP L bl K i' k) ∧ (b = true → cnK n K < cnK n K0)
  fr : ExQ (fun b => b = G) w3 wr
structure AkK (ls : List Pr) (L : List Tm) (bl : List (List Nat)) (B G n : Nat) (w3 : World) (K0 : List Nat) (i : Nat) (ag kv : Value) (wr : World) : Prop where
  ex : ∃ (K : List Nat) (b : Bool) (k : Nat), ag = .bool b ∧ kv = .int .i64 (k : Int) ∧ k ≤ i ∧ KdA B G n K wr ∧ KdI ls L K ∧ GvK ls L K ∧ (b = false → K = K0 ∧ (∀ i', i' < i → ∀ k', k' < i' → okP L bl K i' k') ∧ ∀ k', k' < k → okP L bl K i k') ∧ (b = true → cnK n K < cnK n K0)
  fr : ExQ (fun b => b = G) w3 wr
/-- Within a pair. -/
structure AjK (K pi pk : List Nat) (B G n : Nat) (w3 : World) (ok jv : Value) (wr : World) : Prop where
  ex : ∃ (z : Bool) (j : Nat), ok = .bool z ∧ jv = .int .i64 (j : Int) ∧ j ≤ pi.length ∧ (z = true ↔ ∀ j', j' < j → gd K 0 (gd pi 0 j') = gd K 0 (gd pk 0 j')) ∧ KdA B G n K wr
  fr : ExQ (fun b => b = G) w3 wr
theorem blK_len {L : List Tm} {i : Nat} (hi : i < L.length) : (gd (blK L) [] i).length = (gd L noK i).args.length := by
  unfold blK
  rw [gd_map (e := []) (f := fun t : Tm => t.args.map (plK L)) (d := noK) hi, List.length_map]
theorem bytes_eqK {a b : ByteArray} : (a.toList == b.toList) = true ↔ a = b := by
  constructor
  · intro h
    exact bytes_inj (by simpa using h)
  · rintro rfl
    exact beq_self_eq_true _
noncomputable def tailK3 : Code := seqFromK 33 ((Tryz.f27.body).getD .skip)
set_option maxHeartbeats 20000000 in
theorem closK3 (ls : List Pr) (qs L : List Tm) (K0 : List Nat) (A T B G gb n oc : Nat) (oa : Option Addr) (w w3 : World) (hF : FxK L (blK L) A oa n oc gb G w3) (hK : KdA B G n K0 w3) (hI : KdI ls L K0) (hG : GvK ls L K0) (hB : BlK L (blK L)) (hnd : L.Nodup) (hmem : ∀ x, x ∈ L ↔ x ∈ preL (prT ls ++ qs)) (hcl : ∀ t ∈ L, ∀ x ∈ t.args, x ∈ L) (hal : ∀ t ∈ L, t.args.length ≤ 1000) (hw : Below w.heap.size w w3) (hGn : w.heap.size ≤ G) (hn : n ≤ 1000)
    {s0 s1 s2 s3 s4 s5 s8 s9 s10 s11 s13 s15 s17 s18 s19 s20 s21 s22 s23 s24 s25 s26 s27 s28 s29 s30 s31 s32 s33 s34 s35 s36 s37 s38 s39 s40 s41 s42 s43 s44 s45 s46 s47 s48 s49 s50 s51 s52 s53 s54 s55 s56 s57 s58 s59 s60 s61 s62 s63 s64 s65 s66 s67 s68 s69 s70 s71 s72 s73 s74 s75 s76 s77 s78 s79 s80 s81 s82 s83 s84 s85 s86 s87 s88 s89 s90 s91 s92 s93 s94 s95 s96 s97 s98 s99 s100 s101 s102 s103 s104 s105 s106 s107 s108 s109 s110 s111 s112 s113 s114 s115 s116 s117 s118 s119 s120 s121 s122 s123 s124 s125 s126 s127 s128 s129 s130 s131 s132 s133 s134 s135 s136 s137 s138 s139 s140 s141 s142 s143 s144 s145 s146 s147 s148 s149 s150 s151 s152 s153 s154 s155 s156 s157 s158 s159 s160 s161 s162 s163 s164 s165 s166 s167 s168 s169 s170 s171 s172 s173 s174 s175 s176 s177 s178 s179 s180 s181 s182 s183 s184 s185 s186 s187 s188 s189 s190 s191 s192 s193 s194 s195 s196 s197 s198 s199 s200 s201 s202 s203 s204 s205 s206 s207 s208 s209 s210 s211 s212 s213 s214 s215 s216 s217 s218 s219 s220 s221 s222 s223 s224 s225 s226 s227 s228 s229 : Value} :
    Code.wp Tryz.prog tailK3 (bodyPost Tryz.prog Tryz.f27 fun e w' => ClO ls qs w e w') ⟨List.toArray (s0 :: s1 :: s2 :: s3 :: s4 :: s5 :: .pointer (some ⟨A, 0, none⟩) :: .pointer (some ⟨T, 0, none⟩) :: s8 :: s9 :: s10 :: s11 :: .pointer (some ⟨B, 0, none⟩) :: s13 :: .func (.func 44) #[] #[.pointer (some ⟨B, 0, none⟩)] :: s15 :: .slice (some ⟨gb, 0, none⟩) n n :: s17 :: s18 :: s19 :: s20 :: s21 :: s22 :: s23 :: s24 :: s25 :: s26 :: s27 :: s28 :: s29 :: s30 :: s31 :: s32 :: s33 :: s34 :: s35 :: s36 :: s37 :: s38 :: s39 :: s40 :: s41 :: s42 :: s43 :: s44 :: s45 :: s46 :: s47 :: s48 :: s49 :: s50 :: s51 :: s52 :: s53 :: s54 :: s55 :: s56 :: s57 :: s58 :: s59 :: s60 :: s61 :: s62 :: s63 :: s64 :: s65 :: s66 :: s67 :: s68 :: s69 :: s70 :: s71 :: s72 :: s73 :: s74 :: s75 :: s76 :: s77 :: s78 :: s79 :: s80 :: s81 :: s82 :: s83 :: s84 :: s85 :: s86 :: s87 :: s88 :: s89 :: s90 :: s91 :: s92 :: s93 :: s94 :: s95 :: s96 :: s97 :: s98 :: s99 :: s100 :: s101 :: s102 :: s103 :: s104 :: s105 :: s106 :: s107 :: s108 :: s109 :: s110 :: s111 :: s112 :: s113 :: s114 :: s115 :: s116 :: s117 :: s118 :: s119 :: s120 :: s121 :: s122 :: s123 :: s124 :: s125 :: s126 :: s127 :: s128 :: s129 :: s130 :: s131 :: s132 :: s133 :: s134 :: s135 :: s136 :: s137 :: s138 :: s139 :: s140 :: s141 :: s142 :: s143 :: s144 :: s145 :: s146 :: s147 :: s148 :: s149 :: s150 :: s151 :: s152 :: s153 :: s154 :: s155 :: s156 :: s157 :: s158 :: s159 :: s160 :: s161 :: s162 :: s163 :: s164 :: s165 :: s166 :: s167 :: s168 :: s169 :: s170 :: s171 :: s172 :: s173 :: s174 :: s175 :: s176 :: s177 :: s178 :: s179 :: s180 :: s181 :: s182 :: s183 :: s184 :: s185 :: s186 :: s187 :: s188 :: s189 :: s190 :: s191 :: s192 :: s193 :: s194 :: s195 :: s196 :: s197 :: s198 :: s199 :: s200 :: s201 :: s202 :: s203 :: s204 :: s205 :: s206 :: s207 :: s208 :: s209 :: s210 :: s211 :: s212 :: s213 :: s214 :: s215 :: s216 :: s217 :: s218 :: s219 :: s220 :: s221 :: s222 :: s223 :: s224 :: s225 :: s226 :: s227 :: s228 :: s229 :: []), []⟩ w3 := by
  conv => arg 2; whnf
  have HF := hide hF
  have HK := hide hK
  have HI := hide hI
  have HG := hide hG
  have HB := hide hB
  have HND := hide hnd
  have HME := hide hmem
  have HCL := hide hcl
  have HAL := hide hal
  have HW := hide hw
  have HGN := hide hGn
  have HLN := hide hF.ln
  have HAB : Hid (∀ W, Below w.heap.size w3 W → Below w.heap.size w W) := fun W hb => hw.trans hb
  clear hF hK hI hG hB hnd hmem hcl hal hw hGn
  go_wp2_with fail
  go_loopg [19] (cnK n K0 + 1) (fun g ag wr => AgK ls L (blK L) B G n w3 g ag wr)
  case atStart => exact ⟨⟨K0, true, rfl, HK.out, HI.out, HG.out, (fun h => by cases h), fun _ => Nat.le_refl _⟩, ExQ.refl _ _⟩
  case round =>
    obtain ⟨⟨K1, b, rfl, hk1, hi1, hg1, hf1, ht1⟩, hx1⟩ := hrel
    have HK1 := hide hk1
    have HI1 := hide hi1
    have HG1 := hide hg1
    have HF1 := hide hf1
    have HT1 := hide ht1
    have HX1 := hide hx1
    clear hk1 hi1 hg1 hf1 ht1 hx1
    obtain ⟨wa, hwa⟩ : ∃ x, x = wr := ⟨_, rfl⟩
    rw [← hwa] at HK1 HX1 ⊢
    clear hwa
    cases b with
    | false =>
      have HFA := hide (HF.out.exq HX1.out)
      have a0 := HFA.out.bx.cell 0
      have a1 := HK1.out.box
      simp only [List.getElem?_toArray, List.getElem?_cons_zero] at a0
      have HDN : Hid (Done ls L K1) := done_of HND.out HI1.out HB.out HG1.out fun i hi k hk => HF1.out (by trivial) i (by have := HLN.out; omega) k hk
      have HNM : Hid (Num ls L K1) := ⟨HND.out, HI1.out.len, HCL.out, fun p hp => by
        obtain ⟨i, k, h1, h2, h3, h4, _⟩ := HG1.out p hp
        exact ⟨by rw [← h3]; exact gd_mem h1, by rw [← h4]; exact gd_mem h2⟩⟩
      go_wp2_with fail
      go_quiet (fail)
      have kd : Below wa.heap.size wa (wa.drewN nq) := below_drewN (Below.refl _ _) _
      have HSL : Hid (Sl (wa.drewN nq) (fun _ => True) oa L) := (HFA.out.sl.later kd).mono fun _ _ _ => trivial
      have HGB := hide (HK1.out.rw_.below kd HK1.out.rw_.lt)
      have HWE : Hid (Below w.heap.size w (wa.drewN nq)) := (HAB.out _ (HX1.out.below HW.out.size fun b e => by rw [e]; exact HGN.out)).trans (kd.mono (Nat.le_trans HW.out.size HX1.out.size))
      generalize wa.drewN nq = wz at *
      go_wp2_with fail
      refine bodyPost_ret (v := .tuple #[.slice oa n oc, .slice (some ⟨G, 0, none⟩) n n]) (by simp [results, Tryz.results27, go_sem]) rfl ?_
      exact ⟨HWE.out, L, K1, oa, oc, G, by rw [HLN.out], HSL.out, HGB.out, HNM.out, HDN.out, HME.out, HI1.out.len, HI1.out.lt, by rw [HLN.out]; exact hn⟩
    | true =>
      go_wp2_with fail
      go_loopw [19, 20] (fun ag iv wr => AiK ls L (blK L) B G n w3 K1 ag iv wr) (fun ag iv wr => n - (intOf iv).toNat)
      case atStart => exact ⟨⟨K1, false, 0, rfl, rfl, Nat.zero_le _, HK1.out, HI1.out, HG1.out, (fun _ => ⟨rfl, fun i hi => absurd hi (Nat.not_lt_zero _)⟩), (fun h => by cases h)⟩, HX1.out⟩
      case round =>
        obtain ⟨⟨K2, b2, i, rfl, rfl, hi, hk2, hi2, hg2, hf2, ht2⟩, hx2⟩ := hrel
        have HK2 := hide hk2
        have HI2 := hide hi2
        have HG2 := hide hg2
        have HF2 := hide hf2
        have HT2 := hide ht2
        have HX2 := hide hx2
        clear hk2 hi2 hg2 hf2 ht2 hx2
        obtain ⟨wb, hwb⟩ : ∃ x, x = wr := ⟨_, rfl⟩
        rw [← hwb] at HK2 HX2 ⊢
        clear hwb
        have HFB := hide (HF.out.exq HX2.out)
        have a0 := HFB.out.bx.cell 0
        simp only [List.getElem?_toArray, List.getElem?_cons_zero] at a0
        by_cases hli : i < n
        · have hii : (i : Int) < (n : Int) := by omega
          go_wp2_with fail
          clear a0
          go_loopw [19, 21] (fun ag kv wr => AkK ls L (blK L) B G n w3 K1 i ag kv wr) (fun ag kv wr => i - (intOf kv).toNat)
          case atStart => exact ⟨⟨K2, b2, 0, rfl, rfl, Nat.zero_le _, HK2.out, HI2.out, HG2.out, (fun h => ⟨(HF2.out h).1, (HF2.out h).2, fun k hk => absurd hk (Nat.not_lt_zero _)⟩), HT2.out⟩, HX2.out⟩
          case round =>
            obtain ⟨⟨K3, b3, k, rfl, rfl, hk, hk3, hi3, hg3, hf3, ht3⟩, hx3⟩ := hrel
            have HK3 := hide hk3
            have HI3 := hide hi3
            have HG3 := hide hg3
            have HF3 := hide hf3
            have HT3 := hide ht3
            have HX3 := hide hx3
            clear hk3 hi3 hg3 hf3 ht3 hx3
            obtain ⟨wc, hwc⟩ : ∃ x, x = wr := ⟨_, rfl⟩
            rw [← hwc] at HK3 HX3 ⊢
            clear hwc
            by_cases hlk : k < i
            · have hki : (k : Int) < (i : Int) := by omega
              have hkn : k < n := by omega
              have HFC := hide (HF.out.exq HX3.out)
              have a0 := HFC.out.bx.cell 0
              simp only [List.getElem?_toArray, List.getElem?_cons_zero] at a0
              have b0 := HK3.out.box
              have c1 := HK3.out.cell hli
              have c2 := HK3.out.cell hkn
              obtain ⟨ga, ax, cx, rfl, hga, d1, -⟩ := HFC.out.tm i hli
              obtain ⟨ga', ax', cx', e9, -, d2, -⟩ := HFC.out.tm k hkn
              obtain rfl : ga = ga' := by cases e9; rfl
              obtain ⟨ai, ci, e1, hbi⟩ := HFC.out.bw i hli
              obtain ⟨ak, ck, e2, hbk⟩ := HFC.out.bw k hkn
              have HBI := hide hbi
              have HBK := hide hbk
              have hkni : (k : Int) < (n : Int) := by omega
              have hii : (i : Int) < (n : Int) := by omega
              have HNU : Hid (okP L (blK L) K3 i k → b3 = false → K3 = K1 ∧ (∀ i', i' < i → ∀ k', k' < i' → okP L (blK L) K3 i' k') ∧ ∀ k', k' < k + 1 → okP L (blK L) K3 i k') := fun ho h => by
                obtain ⟨h1, h2, h3⟩ := HF3.out h
                refine ⟨h1, h2, fun k' hk' => ?_⟩
                by_cases e : k' = k
                · subst e; exact ho
                · exact h3 k' (by omega)
              have HOK : Hid (okP L (blK L) K3 i k ↔ (cngK L (blK L) K3 i k → gd K3 0 i = gd K3 0 k)) := Iff.rfl
              have HCG : Hid (cngK L (blK L) K3 i k ↔ (gd L noK i).name = (gd L noK k).name ∧ (gd (blK L) [] i).length = (gd (blK L) [] k).length ∧ ∀ j, j < (gd (blK L) [] i).length → gd K3 0 (gd (gd (blK L) [] i) 0 j) = gd K3 0 (gd (gd (blK L) [] k) 0 j)) := Iff.rfl
              have HIB : Hid (∀ j, j < (gd (blK L) [] i).length → gd (gd (blK L) [] i) 0 j < n) := fun j hj => by have := (HB.out i (by have := HLN.out; omega)).2 _ (gd_mem (d := 0) hj); have := HLN.out; omega
              have HKB : Hid (∀ j, j < (gd (blK L) [] k).length → gd (gd (blK L) [] k) 0 j < n) := fun j hj => by have := (HB.out k (by have := HLN.out; omega)).2 _ (gd_mem (d := 0) hj); have := HLN.out; omega
              clear hbi hbk e9
              have hpl : (gd (blK L) [] i).length ≤ 1000 := by
                have hiL : i < L.length := by have := HLN.out; omega
                rw [blK_len hiL]; exact HAL.out _ (gd_mem hiL)
              obtain ⟨ki, hki_⟩ : ∃ x, x = gd K3 0 i := ⟨_, rfl⟩
              obtain ⟨kk, hkk_⟩ : ∃ x, x = gd K3 0 k := ⟨_, rfl⟩
              obtain ⟨ni, hni_⟩ : ∃ x, x = (gd L noK i).name := ⟨_, rfl⟩
              obtain ⟨nk, hnk_⟩ : ∃ x, x = (gd L noK k).name := ⟨_, rfl⟩
              obtain ⟨pi, hpi_⟩ : ∃ x, x = gd (blK L) [] i := ⟨_, rfl⟩
              obtain ⟨pk, hpk_⟩ : ∃ x, x = gd (blK L) [] k := ⟨_, rfl⟩
              rw [← hki_] at c1 HOK
              rw [← hkk_] at c2 HOK
              rw [← hni_] at d1 HCG
              rw [← hnk_] at d2 HCG
              rw [← hpi_] at e1 HBI HCG HIB hpl
              rw [← hpk_] at e2 HBK HCG HKB
              have HKI := hide hki_
              have HKK := hide hkk_
              have HPI := hide hpi_
              have HPK := hide hpk_
              clear hki_ hkk_ hni_ hnk_ hpi_ hpk_
              by_cases h1 : ki = kk
              · have hcmp : ((ki : Int) == (kk : Int)) = true := by rw [h1]; simp
                have HNX := hide (HNU.out (HOK.out.2 fun _ => h1))
                clear h1
                go_wp2_with fail
                go_quiet (fail)
                have kd : Below wc.heap.size wc (wc.drewN nq) := below_drewN (Below.refl _ _) _
                have HKd := hide (HK3.out.later kd)
                have HXd : Hid (ExQ (fun b => b = G) w3 (wc.drewN nq)) := HX3.out.drewN _
                generalize wc.drewN nq = wd at *
                go_wp2_with fail
                go_roundw
                case rel => exact ⟨⟨K3, b3, k + 1, rfl, by go_num, by omega, HKd.out, HI3.out, HG3.out, HNX.out, HT3.out⟩, HXd.out⟩
                case measure => simp [intOf]; omega
              · have hcmp : ((ki : Int) == (kk : Int)) = false := by simp; omega
                have HNE : Hid (ki ≠ kk) := h1
                clear h1
                by_cases h2 : ni = nk
                · have hnm : (ni.toList == nk.toList) = true := bytes_eqK.2 h2
                  have HN2 : Hid (ni = nk) := h2
                  clear h2
                  by_cases h3 : pi.length = pk.length
                  · have hln : ((pi.length : Int) != (pk.length : Int)) = false := by rw [h3]; simp
                    have HL3 : Hid (pi.length = pk.length) := h3
                    clear h3
                    go_wp2_with fail
                    go_quiet (fail)
                    have kd : Below wc.heap.size wc (wc.drewN nq) := below_drewN (Below.refl _ _) _
                    have HKd := hide (HK3.out.later kd)
                    have HXd : Hid (ExQ (fun b => b = G) w3 (wc.drewN nq)) := HX3.out.drewN _
                    have HFd := hide (HF.out.exq HXd.out)
                    generalize wc.drewN nq = wd at *
                    clear a0 b0 c1 c2 d1 d2 e1 e2 hcmp hnm
                    go_wp2_with fail
                    clear hln
                    go_loopw [22, 23] (fun ok jv wr => AjK K3 pi pk B G n w3 ok jv wr) (fun ok jv wr => pi.length - (intOf jv).toNat)
                    case atStart => exact ⟨⟨true, 0, rfl, rfl, Nat.zero_le _, ⟨fun _ j' h => absurd h (Nat.not_lt_zero _), fun _ => rfl⟩, HKd.out⟩, HXd.out⟩
                    case round =>
                      obtain ⟨⟨z, j, rfl, rfl, hj, hz, hkz⟩, hxz⟩ := hrel
                      have HZ := hide hz
                      have HKZ := hide hkz
                      have HXZ := hide hxz
                      have HFZ := hide (HF.out.exq hxz)
                      clear hz hkz hxz
                      have b0 := HKZ.out.box
                      obtain ⟨ai2, ci2, e1, hbi2⟩ := HFZ.out.bw i hli
                      obtain ⟨ak2, ck2, e2, hbk2⟩ := HFZ.out.bw k hkn
                      rw [← HPI.out] at e1 hbi2
                      rw [← HPK.out] at e2 hbk2
                      have HBI2 := hide hbi2
                      have HBK2 := hide hbk2
                      clear hbi2 hbk2
                      obtain ⟨wj, hwj⟩ : ∃ x, x = wr := ⟨_, rfl⟩
                      rw [← hwj] at HKZ HXZ HFZ b0 e1 e2 HBI2 HBK2 ⊢
                      clear hwj
                      by_cases hlj : j < pi.length
                      · have hji : (j : Int) < (pi.length : Int) := by omega
                        obtain ⟨gi, rfl, hgi, f1⟩ := HBI2.out j hlj
                        obtain ⟨gk2, rfl, hgk2, f2⟩ := HBK2.out j (by have := HL3.out; omega)
                        have hjk : (j : Int) < (pk.length : Int) := by have := HL3.out; omega
                        have l1 := HIB.out j hlj
                        have l2 := HKB.out j (by have := HL3.out; omega)
                        have g1 := HKZ.out.cell l1
                        have g2 := HKZ.out.cell l2
                        have HSN : Hid ((∀ j', j' < j + 1 → gd K3 0 (gd pi 0 j') = gd K3 0 (gd pk 0 j')) ↔ ((∀ j', j' < j → gd K3 0 (gd pi 0 j') = gd K3 0 (gd pk 0 j')) ∧ gd K3 0 (gd pi 0 j) = gd K3 0 (gd pk 0 j))) := by
                          constructor
                          · intro h; exact ⟨fun j' h' => h j' (by omega), h j (by omega)⟩
                          · rintro ⟨h, h'⟩ j' hj'
                            by_cases e : j' = j
                            · subst e; exact h'
                            · exact h j' (by omega)
                        obtain ⟨pj, hpj⟩ : ∃ x, x = gd pi 0 j := ⟨_, rfl⟩
                        obtain ⟨qj, hqj⟩ : ∃ x, x = gd pk 0 j := ⟨_, rfl⟩
                        rw [← hpj] at f1 l1 g1 HSN
                        rw [← hqj] at f2 l2 g2 HSN
                        have hpn : (pj : Int) < (n : Int) := by omega
                        have hqn : (qj : Int) < (n : Int) := by omega
                        clear hpj hqj l1 l2
                        obtain ⟨x1, hx1⟩ : ∃ x, x = gd K3 0 pj := ⟨_, rfl⟩
                        obtain ⟨x2, hx2⟩ : ∃ x, x = gd K3 0 qj := ⟨_, rfl⟩
                        rw [← hx1] at g1 HSN
                        rw [← hx2] at g2 HSN
                        clear hx1 hx2
                        cases z with
                        | true =>
                          have HZN : Hid (((x1 : Int) == (x2 : Int)) = true ↔ ∀ j', j' < j + 1 → gd K3 0 (gd pi 0 j') = gd K3 0 (gd pk 0 j')) := by
                            unfold Hid
                            rw [HSN.out, beq_iff_eq]
                            have := HZ.out.1 rfl
                            constructor
                            · intro h; exact ⟨this, by omega⟩
                            · rintro ⟨_, h⟩; omega
                          go_wp2_with fail
                          go_quiet (fail)
                          have kd : Below wj.heap.size wj (wj.drewN nq) := below_drewN (Below.refl _ _) _
                          have HKy := hide (HKZ.out.later kd)
                          have HXy : Hid (ExQ (fun b => b = G) w3 (wj.drewN nq)) := HXZ.out.drewN _
                          generalize wj.drewN nq = wy at *
                          go_wp2_with fail
                          go_roundw
                          case rel => exact ⟨⟨_, j + 1, rfl, by go_num, by omega, HZN.out, HKy.out⟩, HXy.out⟩
                          case measure => simp [intOf]; omega
                        | false =>
                          have HZN : Hid (false = true ↔ ∀ j', j' < j + 1 → gd K3 0 (gd pi 0 j') = gd K3 0 (gd pk 0 j')) := by
                            unfold Hid
                            rw [HSN.out]
                            constructor
                            · intro h; cases h
                            · rintro ⟨h, _⟩; exact HZ.out.2 h
                          go_wp2_with fail
                          go_quiet (fail)
                          have kd : Below wj.heap.size wj (wj.drewN nq) := below_drewN (Below.refl _ _) _
                          have HKy := hide (HKZ.out.later kd)
                          have HXy : Hid (ExQ (fun b => b = G) w3 (wj.drewN nq)) := HXZ.out.drewN _
                          generalize wj.drewN nq = wy at *
                          go_wp2_with fail
                          go_roundw
                          case rel => exact ⟨⟨false, j + 1, rfl, by go_num, by omega, HZN.out, HKy.out⟩, HXy.out⟩
                          case measure => simp [intOf]; omega
                      · have hji : ¬ (j : Int) < (pi.length : Int) := by omega
                        have HZE : Hid (z = true ↔ ∀ j', j' < pi.length → gd K3 0 (gd pi 0 j') = gd K3 0 (gd pk 0 j')) := by
                          have h := HZ.out
                          rwa [show j = pi.length by omega] at h
                        cases z with
                        | false =>
                          have HNX := hide (HNU.out (HOK.out.2 fun hc => absurd (HZE.out.2 (HCG.out.1 hc).2.2) (by simp)))
                          go_wp2_with fail
                          go_roundw
                          case rel => exact ⟨⟨K3, b3, k + 1, rfl, by go_num, by omega, HKZ.out, HI3.out, HG3.out, HNX.out, HT3.out⟩, HXZ.out⟩
                          case measure => simp [intOf]; omega
                        | true =>
                          have HCI : Hid (cngK L (blK L) K3 i k) := HCG.out.2 ⟨HN2.out, HL3.out, HZE.out.1 rfl⟩
                          have HCC : Hid (Cg ls (· ∈ L) (gd L noK i) (gd L noK k)) := cng_Cg HI3.out HB.out (by have := HLN.out; omega) (by have := HLN.out; omega) HCI.out
                          have HIJ : Hid (KdI ls L (joK K3 i k)) := HI3.out.join (by have := HLN.out; omega) (by have := HLN.out; omega) HCC.out
                          have HGJ : Hid (GvK ls L (joK K3 i k)) := HG3.out.join HI3.out.len i k
                          have hdn : decide (gd K3 0 i ≠ gd K3 0 k) = true := by rw [decide_eq_true_eq, ← HKI.out, ← HKK.out]; exact HNE.out
                          have HLS : Hid (cnK n (joK K3 i k) < cnK n K1) := by
                            have h1 := joK_cnt (n := n) (K := K3) (a := i) (b := k) (by rw [HI3.out.len, HLN.out]; exact hli) (by rw [HI3.out.len, HLN.out]; exact hkn) (fun c hc => by have := HI3.out.lt c hc; rwa [HLN.out] at this) (by rw [← HKI.out, ← HKK.out]; exact HNE.out)
                            have h2 : cnK n K3 ≤ cnK n K1 := by
                              cases b3 with
                              | true => exact Nat.le_of_lt (HT3.out rfl)
                              | false => rw [(HF3.out rfl).1]; exact Nat.le_refl _
                            exact Nat.lt_of_lt_of_le h1 h2
                          have HJN := hide (joinK_any HKZ.out hli hkn (by omega))
                          unfold JkP at HJN
                          rw [hdn] at HJN
                          clear hdn
                          go_wp2_with fail
                          refine HJN.out.mono ?_
                          rintro e wq ⟨rfl, hkq, hxq⟩
                          have HKQ := hide hkq
                          have HXQ : Hid (ExQ (fun b => b = G) w3 wq) := HXZ.out.trans hxq
                          clear hkq hxq b0 e1 e2
                          go_wp2_with fail
                          go_roundw
                          case rel => exact ⟨⟨joK K3 i k, true, k + 1, rfl, by go_num, by omega, HKQ.out, HIJ.out, HGJ.out, (fun h => by cases h), (fun _ => HLS.out)⟩, HXQ.out⟩
                          case measure => simp [intOf]; omega
                  · have hln : ((pi.length : Int) != (pk.length : Int)) = true := by simp; omega
                    have HNX := hide (HNU.out (HOK.out.2 fun hc => absurd (HCG.out.1 hc).2.1 h3))
                    clear h3
                    go_wp2_with fail
                    go_quiet (fail)
                    have kd : Below wc.heap.size wc (wc.drewN nq) := below_drewN (Below.refl _ _) _
                    have HKd := hide (HK3.out.later kd)
                    have HXd : Hid (ExQ (fun b => b = G) w3 (wc.drewN nq)) := HX3.out.drewN _
                    generalize wc.drewN nq = wd at *
                    go_wp2_with fail
                    go_roundw
                    case rel => exact ⟨⟨K3, b3, k + 1, rfl, by go_num, by omega, HKd.out, HI3.out, HG3.out, HNX.out, HT3.out⟩, HXd.out⟩
                    case measure => simp [intOf]; omega
                · have hnm : (ni.toList == nk.toList) = false := by rw [Bool.eq_false_iff]; exact fun h => h2 (bytes_eqK.1 h)
                  have HNX := hide (HNU.out (HOK.out.2 fun hc => absurd (HCG.out.1 hc).1 h2))
                  clear h2
                  go_wp2_with fail
                  go_quiet (fail)
                  have kd : Below wc.heap.size wc (wc.drewN nq) := below_drewN (Below.refl _ _) _
                  have HKd := hide (HK3.out.later kd)
                  have HXd : Hid (ExQ (fun b => b = G) w3 (wc.drewN nq)) := HX3.out.drewN _
                  generalize wc.drewN nq = wd at *
                  go_wp2_with fail
                  go_roundw
                  case rel => exact ⟨⟨K3, b3, k + 1, rfl, by go_num, by omega, HKd.out, HI3.out, HG3.out, HNX.out, HT3.out⟩, HXd.out⟩
                  case measure => simp [intOf]; omega
            · have hki : ¬ (k : Int) < (i : Int) := by omega
              have HFN : Hid (b3 = false → K3 = K1 ∧ ∀ i', i' < i + 1 → ∀ k', k' < i' → okP L (blK L) K3 i' k') := fun h => by
                obtain ⟨h1, h2, h3⟩ := HF3.out h
                refine ⟨h1, fun i' hi' k' hk' => ?_⟩
                by_cases e : i' = i
                · subst e; exact h3 k' (by omega)
                · exact h2 i' (by omega) k' hk'
              go_wp2_with fail
              go_roundw
              case rel => exact ⟨⟨K3, b3, i + 1, rfl, by go_num, by omega, HK3.out, HI3.out, HG3.out, HFN.out, HT3.out⟩, HX3.out⟩
              case measure => simp [intOf]; omega
        · have hii : ¬ (i : Int) < (n : Int) := by omega
          have HCN : Hid (b2 = false → ∀ i', i' < n → ∀ k, k < i' → okP L (blK L) K2 i' k) := fun h i' hi' k hk => (HF2.out h).2 i' (by omega) k hk
          cases b2 with
          | true =>
            have HLS : Hid (cnK n K2 + 1 < gk) := by have h1 := HT2.out rfl; have h2 := HT1.out (by trivial); unfold Hid; omega
            go_wp2_with fail
            go_roundg (cnK n K2 + 1)
            case measure => exact HLS.out
            case rel => exact ⟨⟨K2, true, rfl, HK2.out, HI2.out, HG2.out, (fun h => by cases h), fun _ => Nat.le_refl _⟩, HX2.out⟩
          | false =>
            have HLS : Hid (0 < gk) := by have h2 := HT1.out (by trivial); unfold Hid; omega
            go_wp2_with fail
            go_roundg 0
            case measure => exact HLS.out
            case rel => exact ⟨⟨K2, false, rfl, HK2.out, HI2.out, HG2.out, (fun _ => HCN.out (by trivial)), (fun h => by cases h)⟩, HX2.out⟩
end Go.Proofs.YtdmaijmglblccaaGreatDoor
