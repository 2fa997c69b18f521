/- Walks: the parts of each term by their numbers (ClosureOf, its middle part). -/
import Derived.Test.YtdmaijmglblccaaGreatDoorKl28
import Derived.Test.YtdmaijmglblccaaGreatDoorKl26
import Derived.Laws.MakeOwn
namespace Go.Proofs.YtdmaijmglblccaaGreatDoor
open Go.RowKit
set_option linter.unusedSimpArgs false
set_option linter.unusedVariables false
set_option maxRecDepth 8000

theorem madeK (v : Value) (n : Nat) (hv : v.cells = #[v]) : madeCells v.cells n = Array.replicate n v := by
  have h3 := toList_madeCells_one v n
  rw [hv]
  apply Array.ext'
  rw [Array.toList_replicate, ← h3]
theorem make_intsK (n : Nat) (hn : n ≤ 20000) (w : World) : (Instr.makeSlice 45 (.int .i64 (n : Int)) (.int .i64 (n : Int))).run Tryz.prog w = .ok (.slice (some ⟨w.heap.size, 0, none⟩) n n) (w.alloc (.cells (Array.replicate n (Value.int .i64 0)) 3)) := by
  obtain ⟨i0, hi, hz0, hz1, hz2⟩ := info_parts Tryz.infoInt
  have hr := run_make (P := Tryz.prog) w 45 3 i0 _ Tryz.underlying45 hi hz0 .i64 .i64 n n (by omega) (by omega) (by rw [hz2]; omega) (by omega)
  rw [hz1, Nat.mul_one] at hr
  simp only [Int.toNat_natCast] at hr
  rw [madeK _ _ rfl] at hr
  exact hr
theorem make_rowsK (n : Nat) (hn : n ≤ 20000) (w : World) : (Instr.makeSlice 62 (.int .i64 (n : Int)) (.int .i64 (n : Int))).run Tryz.prog w = .ok (.slice (some ⟨w.heap.size, 0, none⟩) n n) (w.alloc (.cells (Array.replicate n (Value.slice none 0 0)) 45)) := by
  obtain ⟨i0, hi, hz0, hz1, hz2⟩ := info_parts Tryz.infoInts
  have hr := run_make (P := Tryz.prog) w 62 45 i0 _ Tryz.underlying62 hi hz0 .i64 .i64 n n (by omega) (by omega) (by rw [hz2]; omega) (by omega)
  rw [hz1, Nat.mul_one] at hr
  simp only [Int.toNat_natCast] at hr
  rw [madeK _ _ rfl] at hr
  exact hr
theorem own_litK (w : World) (N T n : Nat) (cs : Array Value) (hN : N ≤ w.heap.size) (hn : cs.size = n) (hm : n ≤ maxLen) : (w.alloc (.cells cs T)).ownsRow N T 1 (.slice (some ⟨w.heap.size, 0, none⟩) n n) n cs.toList :=
  ⟨by simpa using hn, Or.inr ⟨w.heap.size, n, cs, rfl, hN, heap_alloc_new w _, Nat.le_refl _, hm, by omega, by rw [Nat.mul_one, ← hn, ← Array.length_toList, List.take_length]⟩⟩
/-- The rows of numbers while they are made. -/
structure BwI (N gb n : Nat) (R : Nat → List Nat) (vb : List Value) (o : Nat → Oid) (w : World) : Prop where
  top : Rwo w N o (4, 0) 45 1 (.slice (some ⟨gb, 0, none⟩) n n) n vb
  row : ∀ i, i < n → Rwo w N o (8, i) 3 1 (gd vb nV i) (iL (R i)).length (iL (R i))
  lo : ∀ b, b < N → o b = eX
theorem BwI.later {N gb n : Nat} {R : Nat → List Nat} {vb : List Value} {o : Nat → Oid} {w w' : World} (h : BwI N gb n R vb o w) (hb : Below w.heap.size w w') : BwI N gb n R vb o w' :=
  ⟨h.top.later hb, fun i hi => (h.row i hi).later hb, h.lo⟩
theorem BwI.congr {N gb n : Nat} {R S : Nat → List Nat} {vb : List Value} {o : Nat → Oid} {w : World} (h : BwI N gb n R vb o w) (e : ∀ i, i < n → S i = R i) : BwI N gb n S vb o w :=
  ⟨h.top, fun i hi => by rw [e i hi]; exact h.row i hi, h.lo⟩
theorem gd_rep {α : Type} (n : Nat) (v : α) (i : Nat) (h : i < n) : gd (List.replicate n v) v i = v := by
  rw [gd_get (by simpa using h)]; simp
theorem BwI.start (w : World) (n : Nat) (hn : n ≤ 20000) : BwI w.heap.size w.heap.size n (fun _ => []) (List.replicate n nV) (fun b => if b = w.heap.size then (4, 0) else eX) (w.alloc (.cells (Array.replicate n (Value.slice none 0 0)) 45)) := by
  refine ⟨⟨?_, fun b hb => ?_⟩, fun i hi => ?_, fun b hb => if_neg (by omega)⟩
  · have := own_litK w w.heap.size 45 n (Array.replicate n (Value.slice none 0 0)) (Nat.le_refl _) (by simp) (by unfold maxLen; omega)
    rwa [Array.toList_replicate] at this
  · have e : w.heap.size = b := by simpa [Value.ownBlock] using hb
    exact if_pos e.symm
  · rw [gd_rep n nV i hi]
    exact Rwo.nil _ _ _ _ _ _
theorem BwI.push {N gb n : Nat} {R : Nat → List Nat} {vb : List Value} {o : Nat → Oid} {w : World} (h : BwI N gb n R vb o w) {i : Nat} (hi : i < n) (hN : N ≤ w.heap.size) (hl : (R i).length ≤ 900000) (x : Nat) :
    ∃ g cap w3, (Builtin.append_ #[45, 45] 45 #[gd vb nV i, .slice (some ⟨w.heap.size, 0, none⟩) 1 1]).run Tryz.prog (w.alloc (.cells #[.int .i64 (x : Int)] 3)) = .ok (.slice (some ⟨g, 0, none⟩) ((R i).length + 1) cap) w3 ∧ w3.cell? ⟨gb, i, none⟩ = some (gd vb nV i) ∧ w3.frozen? ⟨gb, i, none⟩ = false ∧ gb < w3.heap.size ∧ Below N w w3 ∧
      (∃ vb' o', BwI N gb n (fun j => if j = i then R i ++ [x] else R j) vb' o' (w3.setCell ⟨gb, i, none⟩ (.slice (some ⟨g, 0, none⟩) ((R i).length + 1) cap))) ∧ Below N w (w3.setCell ⟨gb, i, none⟩ (.slice (some ⟨g, 0, none⟩) ((R i).length + 1) cap)) := by
  obtain ⟨g, cap, w3, hr, ho, hf⟩ := app_cell Tryz.underlying45 Tryz.infoInt rfl (by decide) (h.row i hi) hN (by rw [iL_len]; omega) (iV x) rfl
  rw [iL_len] at hr ho hf
  have e : iL (R i) ++ [iV x] = iL (R i ++ [x]) := by simp [iL]
  rw [e] at ho
  obtain ⟨o2, ho2⟩ : ∃ o2, o2 = upV o (.slice (some ⟨g, 0, none⟩) ((R i).length + 1) cap) (8, i) := ⟨_, rfl⟩
  rw [← ho2] at ho hf
  have ht := h.top.fr hf (by simp)
  obtain ⟨g', u, e1, hu, hc, hz, -, hlt, hge⟩ := ht.at hi
  cases e1
  have hue : u = gd vb nV i := by unfold gd; rw [hu]; rfl
  rw [hue] at hc
  obtain ⟨ht2, hf2⟩ := ht.put i (.slice (some ⟨g, 0, none⟩) ((R i).length + 1) cap)
  have hlo2 : ∀ b, b < N → o2 b = eX := fun b hb => (hf.blk b (by omega) (by rw [h.lo b hb]; simp)).2.trans (h.lo b hb)
  have hvl : vb.length = n := by simpa using h.top.1.1
  have hb3 : Below N w w3 := ⟨hf.os, hf.tape, hf.output, hf.size, fun b hb => (hf.blk b (by omega) (by rw [h.lo b hb]; simp)).1⟩
  refine ⟨g, cap, w3, hr, hc, hz, hlt, hb3, ⟨_, o2, ht2, fun j hj => ?_, hlo2⟩, hb3.setCell (p := ⟨gb, i, none⟩) hge _⟩
  by_cases hji : j = i
  · subst hji
    rw [if_pos rfl, gd_set (by omega)]
    have := ho.fr hf2 (by simp)
    rw [iL_len] at this ⊢
    rw [show (R j ++ [x]).length = (R j).length + 1 by simp] at this ⊢
    exact this
  · rw [if_neg hji, gd_set_ne (fun e => hji e.symm)]
    exact ((h.row j hj).fr hf (by simp [hji])).fr hf2 (by simp)
/-- All rows are there: what stands fast from now on. -/
theorem BwI.fx {N gb n : Nat} {R : Nat → List Nat} {vb : List Value} {o : Nat → Oid} {w : World} (h : BwI N gb n R vb o w) {G : Nat} (hG : G < N) {i : Nat} (hi : i < n) : ∃ ai ci, w.cell? ⟨gb, i, none⟩ = some (.slice ai (R i).length ci) ∧ ∀ j, j < (R i).length → ∃ gi, ai = some ⟨gi, 0, none⟩ ∧ gi ≠ G ∧ w.cell? ⟨gi, j, none⟩ = some (.int .i64 ((gd (R i) 0 j : Nat) : Int)) := by
  obtain ⟨g', u, e1, hu, hc, -, -, -, -⟩ := h.top.at hi
  cases e1
  have hue : u = gd vb nV i := by unfold gd; rw [hu]; rfl
  rw [hue] at hc
  have hr := h.row i hi
  obtain ⟨ai, ci, ev⟩ := hr.shape
  rw [ev] at hr hc
  rw [iL_len] at hc hr
  refine ⟨ai, ci, hc, fun j hj => ?_⟩
  obtain ⟨gi, v, ea, hv, hcv, -, -, -, hN⟩ := hr.at hj
  refine ⟨gi, ea, by omega, ?_⟩
  rw [hcv, iL_at hv]
theorem AdI.tm {N A T n : Nat} {L : List Tm} {tx : List ByteArray} {oa : Option Addr} {oc : Nat} {ev : Value} {w : World} (h : AdI N A T L tx (.slice oa n oc) ev w) (hn : L.length = n) {i : Nat} (hi : i < n) : ∃ g ax cx, oa = some ⟨g, 0, none⟩ ∧ N ≤ g ∧ w.cell? ⟨g, i * 2, none⟩ = some (.string (gd L noK i).name) ∧ w.cell? ⟨g, i * 2 + 1, none⟩ = some (.slice ax (gd L noK i).args.length cx) ∧ Sl w (fun b => b < N) ax (gd L noK i).args ∧ some g = (Value.slice oa n oc).ownBlock := by
  obtain ⟨xs, hR⟩ := h.ra
  obtain ⟨g, cap, ax, cx, e, h1, h2, h3, h4⟩ := rowH_at hR (show i < L.length by omega)
  rw [← gd_get (d := noK) (show i < L.length by omega)] at h1 h2 h3
  cases e
  exact ⟨g, ax, cx, rfl, (hR.own.lt g rfl).1, h1, h2, h3, rfl⟩
theorem AdI.sl {N A T n : Nat} {L : List Tm} {tx : List ByteArray} {oa : Option Addr} {oc : Nat} {ev : Value} {w : World} (h : AdI N A T L tx (.slice oa n oc) ev w) (hn : L.length = n) {Y : Nat → Prop} (hY : ∀ b, b < N → Y b) (hY2 : ∀ b, some b = (Value.slice oa n oc).ownBlock → Y b) : Sl w Y oa L := by
  obtain ⟨xs, hR⟩ := h.ra
  by_cases h0 : L = []
  · subst h0; exact ⟨by simp, Or.inl rfl⟩
  · have hp : 0 < L.length := List.length_pos_iff.2 h0
    obtain ⟨g, cap, e, h1, h2, h3⟩ := owned_val hR.own hp
    cases e
    have hm := hR.own
    rcases hm.2 with ⟨e, _⟩ | ⟨g', cap', cur, e, _, _, hnc, hcm, _⟩
    · cases e
    · unfold maxLen at hcm
      refine ⟨by omega, Or.inr ⟨g, 0, rfl, lies_of_rowT g (hY2 g rfl) L xs 0 hR.row (fun a k hs => hs.mono fun b hb _ => hY b hb) fun j u hj => by rw [Nat.zero_add]; exact h3 j u hj⟩⟩
/-- The rows while they are made: i rows, and k of the next one. -/
def rwK (L : List Tm) (i k : Nat) (j : Nat) : List Nat := if j < i then gd (blK L) [] j else if j = i then (gd (blK L) [] j).take k else []
noncomputable def tailK2 : Code := seqFromK 25 ((Tryz.f27.body).getD .skip)
def BiK (L : List Tm) (gb n : Nat) (w2 : World) (v : Value) (wr : World) : Prop := ∃ (i : Nat) (vb : List Value) (o : Nat → Oid), v = .int .i64 (i : Int) ∧ i ≤ n ∧ BwI w2.heap.size gb n (rwK L i 0) vb o wr ∧ Below w2.heap.size w2 wr
def BkK (L : List Tm) (gb n i : Nat) (w2 : World) (v : Value) (wr : World) : Prop := ∃ (k : Nat) (vb : List Value) (o : Nat → Oid), v = .int .i64 (k : Int) ∧ k ≤ (gd L noK i).args.length ∧ BwI w2.heap.size gb n (rwK L i k) vb o wr ∧ Below w2.heap.size w2 wr
set_option maxHeartbeats 20000000 in
theorem closK2 (ls : List Pr) (qs L : List Tm) (K0 : List Nat) (N A T B G M n oc : Nat) (oa : Option Addr) (ev : Value) (w w2 : World) (hA : AdI N A T L (L.map txB) (.slice oa n oc) ev w2) (hln : L.length = n) (hM : MapAt w2 M (ixK (L.map txB))) (hK : KdA B G n K0 w2) (hAG : A ≠ G) (hoG : ∀ b, some b = (Value.slice oa n oc).ownBlock → b ≠ G) (hGl : G < w2.heap.size) (hI : KdI ls L K0) (hG : GvK ls L K0) (hnd : L.Nodup) (hmem : ∀ x, x ∈ L ↔ x ∈ preL (prT ls ++ qs)) (hcl : ∀ t ∈ L, ∀ x ∈ t.args, x ∈ L) (herr : ∀ x ∈ L, errL [x] = 0) (hsz : ∀ x ∈ L, sizeL [x] ≤ 1000) (hw : Below w.heap.size w w2) (hGn : w.heap.size ≤ G) (hNw : N = w.heap.size) (hn : n ≤ 1000)
    {s0 s1 s2 s3 s4 s5 s8 s9 s10 s13 s15 s16 s17 s18 s19 s20 s21 s22 s23 s24 s25 s26 s27 s28 s29 s30 s31 s32 s33 s34 s35 s36 s37 s38 s39 s40 s41 s42 s43 s44 s45 s46 s47 s48 s49 s50 s51 s52 s53 s54 s55 s56 s57 s58 s59 s60 s61 s62 s63 s64 s65 s66 s67 s68 s69 s70 s71 s72 s73 s74 s75 s76 s77 s78 s79 s80 s81 s82 s83 s84 s85 s86 s87 s88 s89 s90 s91 s92 s93 s94 s95 s96 s97 s98 s99 s100 s101 s102 s103 s104 s105 s106 s107 s108 s109 s110 s111 s112 s113 s114 s115 s116 s117 s118 s119 s120 s121 s122 s123 s124 s125 s126 s127 s128 s129 s130 s131 s132 s133 s134 s135 s136 s137 s138 s139 s140 s141 s142 s143 s144 s145 s146 s147 s148 s149 s150 s151 s152 s153 s154 s155 s156 s157 s158 s159 s160 s161 s162 s163 s164 s165 s166 s167 s168 s169 s170 s171 s172 s173 s174 s175 s176 s177 s178 s179 s180 s181 s182 s183 s184 s185 s186 s187 s188 s189 s190 s191 s192 s193 s194 s195 s196 s197 s198 s199 s200 s201 s202 s203 s204 s205 s206 s207 s208 s209 s210 s211 s212 s213 s214 s215 s216 s217 s218 s219 s220 s221 s222 s223 s224 s225 s226 s227 s228 s229 : Value} :
    Code.wp Tryz.prog tailK2 (bodyPost Tryz.prog Tryz.f27 fun e w' => ClO ls qs w e w') ⟨List.toArray (s0 :: s1 :: s2 :: s3 :: s4 :: s5 :: .pointer (some ⟨A, 0, none⟩) :: .pointer (some ⟨T, 0, none⟩) :: s8 :: s9 :: s10 :: .map (some M) :: .pointer (some ⟨B, 0, none⟩) :: s13 :: .func (.func 44) #[] #[.pointer (some ⟨B, 0, none⟩)] :: s15 :: s16 :: s17 :: s18 :: s19 :: s20 :: s21 :: s22 :: s23 :: s24 :: s25 :: s26 :: s27 :: s28 :: s29 :: s30 :: s31 :: s32 :: s33 :: s34 :: s35 :: s36 :: s37 :: s38 :: s39 :: s40 :: s41 :: s42 :: s43 :: s44 :: s45 :: s46 :: s47 :: s48 :: s49 :: s50 :: s51 :: s52 :: s53 :: s54 :: s55 :: s56 :: s57 :: s58 :: s59 :: s60 :: s61 :: s62 :: s63 :: s64 :: s65 :: s66 :: s67 :: s68 :: s69 :: s70 :: s71 :: s72 :: s73 :: s74 :: s75 :: s76 :: s77 :: s78 :: s79 :: s80 :: s81 :: s82 :: s83 :: s84 :: s85 :: s86 :: s87 :: s88 :: s89 :: s90 :: s91 :: s92 :: s93 :: s94 :: s95 :: s96 :: s97 :: s98 :: s99 :: s100 :: s101 :: s102 :: s103 :: s104 :: s105 :: s106 :: s107 :: s108 :: s109 :: s110 :: s111 :: s112 :: s113 :: s114 :: s115 :: s116 :: s117 :: s118 :: s119 :: s120 :: s121 :: s122 :: s123 :: s124 :: s125 :: s126 :: s127 :: s128 :: s129 :: s130 :: s131 :: s132 :: s133 :: s134 :: s135 :: s136 :: s137 :: s138 :: s139 :: s140 :: s141 :: s142 :: s143 :: s144 :: s145 :: s146 :: s147 :: s148 :: s149 :: s150 :: s151 :: s152 :: s153 :: s154 :: s155 :: s156 :: s157 :: s158 :: s159 :: s160 :: s161 :: s162 :: s163 :: s164 :: s165 :: s166 :: s167 :: s168 :: s169 :: s170 :: s171 :: s172 :: s173 :: s174 :: s175 :: s176 :: s177 :: s178 :: s179 :: s180 :: s181 :: s182 :: s183 :: s184 :: s185 :: s186 :: s187 :: s188 :: s189 :: s190 :: s191 :: s192 :: s193 :: s194 :: s195 :: s196 :: s197 :: s198 :: s199 :: s200 :: s201 :: s202 :: s203 :: s204 :: s205 :: s206 :: s207 :: s208 :: s209 :: s210 :: s211 :: s212 :: s213 :: s214 :: s215 :: s216 :: s217 :: s218 :: s219 :: s220 :: s221 :: s222 :: s223 :: s224 :: s225 :: s226 :: s227 :: s228 :: s229 :: []), []⟩ w2 := by
  conv => arg 2; whnf
  have HA := hide hA
  have HM := hide hM
  have HK := hide hK
  have HLN := hide hln
  have HAG := hide hAG
  have HOG := hide hoG
  have HI := hide hI
  have HG := hide hG
  have HND := hide hnd
  have HME := hide hmem
  have HCL := hide hcl
  have HER := hide herr
  have HSZ := hide hsz
  have HW := hide hw
  have HGN := hide hGn
  have HNW := hide hNw
  have HGL := hide hGl
  have HTN : Hid ((L.map txB).Nodup) := by
    unfold Hid
    rw [List.nodup_iff_pairwise_ne, List.pairwise_map]
    exact List.Pairwise.imp_of_mem (fun {a b} ha hb hne e => hne (txB_inj (herr a ha) (herr b hb) e)) (List.nodup_iff_pairwise_ne.1 hnd)
  have a0 := hA.ba.cell 0
  have HS := hide (BwI.start w2 n (by omega))
  have hmk := make_rowsK n (by omega) w2
  have B0 : Hid (Below w2.heap.size w2 (w2.alloc (.cells (Array.replicate n (Value.slice none 0 0)) 45))) := (Below.refl _ _).alloc (Nat.le_refl _) _
  simp only [List.getElem?_toArray, List.getElem?_cons_zero] at a0
  clear hA hM hK hln hAG hoG hI hG hnd hmem hcl herr hsz hw hGn hNw hGl
  go_step
  go_step
  go_cut [16] (fun v wc => ∃ gb, gb = w2.heap.size ∧ v = .slice (some ⟨gb, 0, none⟩) n n ∧ (∃ vb o, BwI w2.heap.size gb n (rwK L 0 0) vb o wc) ∧ Below w2.heap.size w2 wc)
  case first =>
    go_wp2_with fail
    go_meet
    exact ⟨_, rfl, rfl, ⟨_, _, HS.out.congr fun i hi => by unfold rwK; simp⟩, B0.out⟩
  clear hmk a0 HS B0
  obtain ⟨gb, hgb, rfl, ⟨vb0, o0, hs0⟩, hb0⟩ := hcut
  have HGB := hide hgb
  have HS := hide hs0
  have B0 := hide hb0
  clear hgb hs0 hb0
  obtain ⟨w4, hw4⟩ : ∃ x, x = wc := ⟨_, rfl⟩
  rw [← hw4] at HS B0 ⊢
  clear hw4 wc
  go_step
  go_step
  go_cut [] (fun wd => (∃ vb o, BwI w2.heap.size gb n (fun j => gd (blK L) [] j) vb o wd) ∧ Below w2.heap.size w2 wd)
  case rest =>
    obtain ⟨⟨vb, o, hbw⟩, hbr⟩ := hcut
    obtain ⟨wa, hwa⟩ : ∃ x, x = wc := ⟨_, rfl⟩
    rw [← hwa] at hbw hbr ⊢
    clear hwa wc
    have HBE := hide hbw
    have HBR := hide hbr
    clear hbw hbr
    have HAA := hide (HA.out.later HBR.out)
    have HSL : Hid (Sl wa (fun b => b ≠ G) oa L) := HAA.out.sl HLN.out (fun b hb => by have := HNW.out; have := HGN.out; omega) HOG.out
    have HFX : Hid (FxK L (blK L) A oa n oc gb G wa) := ⟨HAA.out.ba, HAG.out, HLN.out, fun i hi => by
      obtain ⟨g, ax, cx, e, _, h1, h2, _, h4⟩ := HAA.out.tm HLN.out hi
      exact ⟨g, ax, cx, e, HOG.out g h4, h1, h2⟩, fun i hi => HBE.out.fx HGL.out hi, by have := HGB.out; have := HGL.out; omega, HSL.out⟩
    have HAL : Hid (∀ t ∈ L, t.args.length ≤ 1000) := fun t ht => by
      have h1 := HSZ.out t ht
      have h2 : sizeL [t] = 1 + sizeL t.args := by obtain ⟨s, l⟩ := t; simp [sizeL]
      have h3 := sizeL_len t.args
      omega
    have HBK : Hid (BlK L (blK L)) := blK_ok HER.out HCL.out
    have HWE : Hid (Below w.heap.size w wa) := HW.out.trans (HBR.out.mono HW.out.size)
    have HKE := hide (HK.out.later HBR.out)
    go_step
    exact closK3 ls qs L K0 A T B G gb n oc oa w wa HFX.out HKE.out HI.out HG.out HBK.out HND.out HME.out HCL.out HAL.out HWE.out HGN.out hn
  go_wp2_with fail
  go_loopw [17] (fun v wr => BiK L gb n w2 v wr) (fun v wr => n - (intOf v).toNat)
  case atStart => exact ⟨0, vb0, o0, rfl, Nat.zero_le _, HS.out, B0.out⟩
  case round =>
    obtain ⟨i, vb, o, rfl, hi, hbw, hbr⟩ := hrel
    have HBW := hide hbw
    have HBR := hide hbr
    clear hbw hbr
    obtain ⟨wa, hwa⟩ : ∃ x, x = wr := ⟨_, rfl⟩
    rw [← hwa] at HBW HBR ⊢
    clear hwa
    have HAA := hide (HA.out.later HBR.out)
    have a0 := HAA.out.ba.cell 0
    simp only [List.getElem?_toArray, List.getElem?_cons_zero] at a0
    by_cases hli : i < n
    · have hii : (i : Int) < (n : Int) := by omega
      have hiL : i < L.length := by have := HLN.out; omega
      have HXM : Hid (gd L noK i ∈ L) := gd_mem hiL
      have HBL : Hid (gd (blK L) [] i = (gd L noK i).args.map (plK L)) := by
        unfold Hid blK
        rw [gd_map (e := []) (f := fun t : Tm => t.args.map (plK L)) (d := noK) hiL]
      clear hiL
      go_wp2_with fail
      clear a0
      go_loopw [18] (fun v wr => BkK L gb n i w2 v wr) (fun v wr => (gd L noK i).args.length - (intOf v).toNat)
      case atStart => exact ⟨0, vb, o, rfl, Nat.zero_le _, HBW.out, HBR.out⟩
      case round =>
        obtain ⟨k, vb2, o2, rfl, hk, hbw, hbr⟩ := hrel
        have HB2 := hide hbw
        have HR2 := hide hbr
        clear hbw hbr
        obtain ⟨wb, hwb⟩ : ∃ x, x = wr := ⟨_, rfl⟩
        rw [← hwb] at HB2 HR2 ⊢
        clear hwb
        have HAB := hide (HA.out.later HR2.out)
        have a0 := HAB.out.ba.cell 0
        obtain ⟨ga, ax, cx, rfl, hga, d0, d1, hsx, hown9⟩ := HAB.out.tm HLN.out hli
        have HGA : Hid (ga < w2.heap.size) := by
          obtain ⟨xs, hR⟩ := HA.out.ra
          exact (hR.own.lt ga hown9.symm).2
        have HAX : Hid ((gd L noK i).args.length ≤ 1000) := by
          have h1 := HSZ.out _ HXM.out
          have h2 : sizeL [gd L noK i] = 1 + sizeL (gd L noK i).args := by obtain ⟨s, l⟩ := gd L noK i; simp [sizeL]
          have h3 := sizeL_len (gd L noK i).args
          unfold Hid
          omega
        have hax := HAX.out
        simp only [List.getElem?_toArray, List.getElem?_cons_zero] at a0
        obtain ⟨x, hx⟩ : ∃ x, x = gd L noK i := ⟨_, rfl⟩
        have HX := hide hx
        rw [← hx] at d0 d1 hsx hk hax ⊢
        rw [← hx] at HXM HBL
        clear hx
        by_cases hlk : k < x.args.length
        · have hki : (k : Int) < (x.args.length : Int) := by omega
          obtain ⟨b', o', rfl, hlies⟩ : ∃ b' o', ax = some ⟨b', o', none⟩ ∧ Lies wb (fun b => b < N) b' o' x.args := by
            rcases hsx.2 with h | ⟨b', o', e, h⟩
            · rw [h] at hlk; exact absurd hlk (Nat.not_lt_zero _)
            · exact ⟨b', o', e, h⟩
          obtain ⟨hb0, f0, ⟨a1, c1, f1, hsy⟩⟩ := lies_get _ _ _ hlies k hlk
          have HB0 : Hid (b' < w2.heap.size) := by have h1 : b' < N := hb0; have := HNW.out; have := HW.out.size; unfold Hid; omega
          have HYM : Hid (x.args[k] ∈ L) := HCL.out x HXM.out _ (List.getElem_mem hlk)
          have HTK : Hid (∀ j, rwK L i (k + 1) j = if j = i then rwK L i k i ++ [plK L x.args[k]] else rwK L i k j) := fun j => by
            unfold rwK
            by_cases e1 : j < i
            · rw [if_pos e1, if_neg (show ¬ j = i by omega), if_pos e1]
            · by_cases e2 : j = i
              · subst e2
                rw [if_neg e1, if_pos rfl, if_pos rfl, if_neg e1, if_pos rfl, HBL.out, List.take_succ_eq_append_getElem (by simpa using hlk), List.getElem_map]
              · rw [if_neg e1, if_neg e2, if_neg e2, if_neg e1, if_neg e2]
          have HYE := hide (HER.out _ HYM.out)
          have HYZ := hide (HSZ.out _ HYM.out)
          have hb'l : b' < wb.heap.size := World.block_lt_of_cell? wb _ f0
          have HSY := hide hsy
          have HRL : Hid ((rwK L i k i).length = k) := by
            unfold Hid rwK
            rw [if_neg (show ¬ i < i by omega), if_pos rfl, List.length_take, HBL.out, List.length_map]
            omega
          generalize x.args[k] = y at *
          clear hsy hsx hlies hown9 hb0
          have hgal : ga < wb.heap.size := World.block_lt_of_cell? wb _ d0
          have hAl : A < wb.heap.size := World.block_lt_of_cell? wb _ a0
          have HST : Hid (∀ W, Below wb.heap.size wb W → (fun w' : World => w'.cell? ⟨A, 0, none⟩ = some (.slice (some ⟨ga, 0, none⟩) n oc) ∧ w'.cell? ⟨ga, i * 2 + 1, none⟩ = some (.slice (some ⟨b', o', none⟩) x.args.length cx) ∧ w'.cell? ⟨b', o' + k * 2, none⟩ = some (.string y.name) ∧ w'.cell? ⟨b', o' + k * 2 + 1, none⟩ = some (.slice a1 y.args.length c1) ∧ MapAt w' M (ixK (L.map txB))) W) := fun W hb => ⟨(hb.cell (p := ⟨A, 0, none⟩) hAl).trans a0, (hb.cell (p := ⟨ga, i * 2 + 1, none⟩) hgal).trans d1, (hb.cell (p := ⟨b', o' + k * 2, none⟩) hb'l).trans f0, (hb.cell (p := ⟨b', o' + k * 2 + 1, none⟩) hb'l).trans f1, (HM.out.below HR2.out HM.out.lt).below hb (Nat.lt_of_lt_of_le HM.out.lt HR2.out.size)⟩
          have HSP : Hid (∀ W, Below w2.heap.size wb W → (fun w' : World => w'.cell? ⟨A, 0, none⟩ = some (.slice (some ⟨ga, 0, none⟩) n oc) ∧ w'.cell? ⟨ga, i * 2 + 1, none⟩ = some (.slice (some ⟨b', o', none⟩) x.args.length cx) ∧ w'.cell? ⟨b', o' + k * 2, none⟩ = some (.string y.name) ∧ w'.cell? ⟨b', o' + k * 2 + 1, none⟩ = some (.slice a1 y.args.length c1) ∧ MapAt w' M (ixK (L.map txB))) W) := fun W hb => ⟨(World.cell?_of_block (hb.block A (by have := HA.out.ba.lt; omega))).trans a0, (World.cell?_of_block (hb.block ga (by have := HGA.out; omega))).trans d1, (World.cell?_of_block (hb.block b' (by have := HB0.out; omega))).trans f0, (World.cell?_of_block (hb.block b' (by have := HB0.out; omega))).trans f1, (HM.out.below HR2.out HM.out.lt).kept (hb.block M HM.out.lt)⟩
          have kd : Below wb.heap.size wb wb.drew := (Below.refl _ _).drew
          go_upto_region 32 with fail
          refine wp_region_held_drew (S := fun W => (fun w' : World => w'.cell? ⟨A, 0, none⟩ = some (.slice (some ⟨ga, 0, none⟩) n oc) ∧ w'.cell? ⟨ga, i * 2 + 1, none⟩ = some (.slice (some ⟨b', o', none⟩) x.args.length cx) ∧ w'.cell? ⟨b', o' + k * 2, none⟩ = some (.string y.name) ∧ w'.cell? ⟨b', o' + k * 2 + 1, none⟩ = some (.slice a1 y.args.length c1) ∧ MapAt w' M (ixK (L.map txB))) W) (by kernel_rfl) (HST.out _ kd) (fun hHeld => ?_)
          have HBD : Hid (Below wb.heap.size wb wb.drew) := kd
          clear kd
          generalize wb.drew = wd at *
          obtain ⟨va, vc, hv⟩ := (HB2.out.row i hli).shape
          rw [iL_len, HRL.out] at hv
          have HV := hide hv
          clear hv
          have HBG : Hid (∀ W, Below wb.heap.size wb W → W.cell? ⟨gb, i, none⟩ = some (.slice va k vc)) := fun W hb => by
            obtain ⟨g', u, e1, hu, hc, -, -, -, -⟩ := (HB2.out.later hb).top.at hli
            cases e1
            rw [hc, ← HV.out]
            unfold gd
            rw [hu]
            rfl
          have b0 := HBG.out _ HBD.out
          refine wpAnyH_take (i := 0) (v := ?_) rfl (by kernel_rfl) (by kernel_rfl) (by kernel_rfl) (fun _ _ _ h => h) (Or.inl ⟨by rfl, ?_⟩) (by assumption) ?_
          rotate_left
          · intro w' hSw
            go_simp <;> with_reducible rfl
          try simp only [Act.put, List.setIfInBounds_toArray, List.set_cons_zero, List.set_cons_succ, List.getElem_toArray, List.getElem_cons_succ, List.getElem_cons_zero]
          refine wpAnyH_take (i := 1) (v := ?_) rfl (by kernel_rfl) (by kernel_rfl) (by kernel_rfl) (fun _ _ _ h => h) (Or.inl ⟨by rfl, ?_⟩) (by assumption) ?_
          rotate_left
          · intro w' hSw
            go_simp <;> with_reducible rfl
          try simp only [Act.put, List.setIfInBounds_toArray, List.set_cons_zero, List.set_cons_succ, List.getElem_toArray, List.getElem_cons_succ, List.getElem_cons_zero]
          refine wpAnyH_take (i := 2) (v := ?_) rfl (by kernel_rfl) (by kernel_rfl) (by kernel_rfl) (fun _ _ _ h => h) (Or.inl ⟨by rfl, ?_⟩) (by assumption) ?_
          rotate_left
          · intro w' hSw
            go_simp <;> with_reducible rfl
          try simp only [Act.put, List.setIfInBounds_toArray, List.set_cons_zero, List.set_cons_succ, List.getElem_toArray, List.getElem_cons_succ, List.getElem_cons_zero]
          refine wpAnyH_take (i := 3) (v := ?_) rfl (by kernel_rfl) (by kernel_rfl) (by kernel_rfl) (fun _ _ _ h => h) (Or.inl ⟨by rfl, ?_⟩) (by assumption) ?_
          rotate_left
          · intro w' hSw
            go_simp <;> with_reducible rfl
          try simp only [Act.put, List.setIfInBounds_toArray, List.set_cons_zero, List.set_cons_succ, List.getElem_toArray, List.getElem_cons_succ, List.getElem_cons_zero]
          refine wpAnyH_take (i := 4) (v := ?_) rfl (by kernel_rfl) (by kernel_rfl) (by kernel_rfl) (fun _ _ _ h => h) (Or.inl ⟨by rfl, ?_⟩) (by assumption) ?_
          rotate_left
          · intro w' hSw
            go_simp <;> with_reducible rfl
          try simp only [Act.put, List.setIfInBounds_toArray, List.set_cons_zero, List.set_cons_succ, List.getElem_toArray, List.getElem_cons_succ, List.getElem_cons_zero]
          refine wpAnyH_take (i := 6) (v := ?_) rfl (by kernel_rfl) (by kernel_rfl) (by kernel_rfl) (fun _ _ _ h => h) (Or.inl ⟨by rfl, ?_⟩) (by assumption) ?_
          rotate_left
          · intro w' hSw
            go_simp <;> with_reducible rfl
          try simp only [Act.put, List.setIfInBounds_toArray, List.set_cons_zero, List.set_cons_succ, List.getElem_toArray, List.getElem_cons_succ, List.getElem_cons_zero]
          refine wpAnyH_take (i := 7) (v := ?_) rfl (by kernel_rfl) (by kernel_rfl) (by kernel_rfl) (fun _ _ _ h => h) (Or.inl ⟨by rfl, ?_⟩) (by assumption) ?_
          rotate_left
          · intro w' hSw
            obtain ⟨z0, z1, z2, z3, -⟩ := hSw
            go_simp <;> with_reducible rfl
          try simp only [Act.put, List.setIfInBounds_toArray, List.set_cons_zero, List.set_cons_succ, List.getElem_toArray, List.getElem_cons_succ, List.getElem_cons_zero]
          refine wpAnyH_take (i := 8) (v := ?_) rfl (by kernel_rfl) (by kernel_rfl) (by kernel_rfl) (fun _ _ _ h => h) (Or.inl ⟨by rfl, ?_⟩) (by assumption) ?_
          rotate_left
          · intro w' hSw
            obtain ⟨z0, z1, z2, z3, -⟩ := hSw
            go_simp <;> with_reducible rfl
          try simp only [Act.put, List.setIfInBounds_toArray, List.set_cons_zero, List.set_cons_succ, List.getElem_toArray, List.getElem_cons_succ, List.getElem_cons_zero]
          refine wpAnyH_take (i := 9) (v := ?_) rfl (by kernel_rfl) (by kernel_rfl) (by kernel_rfl) (fun _ _ _ h => h) (Or.inl ⟨by rfl, ?_⟩) (by assumption) ?_
          rotate_left
          · intro w' hSw
            obtain ⟨z0, z1, z2, z3, -⟩ := hSw
            go_simp <;> with_reducible rfl
          try simp only [Act.put, List.setIfInBounds_toArray, List.set_cons_zero, List.set_cons_succ, List.getElem_toArray, List.getElem_cons_succ, List.getElem_cons_zero]
          refine wpAnyH_take (i := 10) (v := ?_) rfl (by kernel_rfl) (by kernel_rfl) (by kernel_rfl) (fun _ _ _ h => h) (Or.inl ⟨by rfl, ?_⟩) (by assumption) ?_
          rotate_left
          · intro w' hSw
            obtain ⟨z0, z1, z2, z3, -⟩ := hSw
            go_simp <;> with_reducible rfl
          try simp only [Act.put, List.setIfInBounds_toArray, List.set_cons_zero, List.set_cons_succ, List.getElem_toArray, List.getElem_cons_succ, List.getElem_cons_zero]
          refine wpAnyH_take (i := 11) (v := ?_) rfl (by kernel_rfl) (by kernel_rfl) (by kernel_rfl) (fun _ _ _ h => h) (Or.inl ⟨by rfl, ?_⟩) (by assumption) ?_
          rotate_left
          · intro w' hSw
            obtain ⟨z0, z1, z2, z3, -⟩ := hSw
            go_simp <;> with_reducible rfl
          try simp only [Act.put, List.setIfInBounds_toArray, List.set_cons_zero, List.set_cons_succ, List.getElem_toArray, List.getElem_cons_succ, List.getElem_cons_zero]
          refine wpAnyH_take (i := 12) (v := ?_) rfl (by kernel_rfl) (by kernel_rfl) (by kernel_rfl) (fun _ _ _ h => h) (Or.inl ⟨by rfl, ?_⟩) (by assumption) ?_
          rotate_left
          · intro w' hSw
            obtain ⟨z0, z1, z2, z3, -⟩ := hSw
            go_simp <;> with_reducible rfl
          try simp only [Act.put, List.setIfInBounds_toArray, List.set_cons_zero, List.set_cons_succ, List.getElem_toArray, List.getElem_cons_succ, List.getElem_cons_zero]
          refine wpAnyH_take (i := 13) (v := ?_) rfl (by kernel_rfl) (by kernel_rfl) (by kernel_rfl) (fun _ _ _ h => h) (Or.inl ⟨by rfl, ?_⟩) (by assumption) ?_
          rotate_left
          · intro w' hSw
            obtain ⟨z0, z1, z2, z3, -⟩ := hSw
            go_simp <;> with_reducible rfl
          try simp only [Act.put, List.setIfInBounds_toArray, List.set_cons_zero, List.set_cons_succ, List.getElem_toArray, List.getElem_cons_succ, List.getElem_cons_zero]
          refine wpAnyH_take (i := 14) (v := ?_) rfl (by kernel_rfl) (by kernel_rfl) (by kernel_rfl) (fun _ _ _ h => h) (Or.inl ⟨by rfl, ?_⟩) (by assumption) ?_
          rotate_left
          · intro w' hSw
            obtain ⟨z0, z1, z2, z3, -⟩ := hSw
            go_simp <;> with_reducible rfl
          try simp only [Act.put, List.setIfInBounds_toArray, List.set_cons_zero, List.set_cons_succ, List.getElem_toArray, List.getElem_cons_succ, List.getElem_cons_zero]
          refine wpAnyH_ready (rs := [5, 15]) (by kernel_rfl) (by simp) ?_
          refine AllReadyH.cons rfl (fun K hK => ?_) (AllReadyH.cons rfl (fun K hK => ?_) AllReadyH.nil)
          · go_simp
            refine hK.out _ _ (by exact (HST.out _ HBD.out)) (fun hHeld => ?_)
            clear hK K
            try simp only [Act.put, List.setIfInBounds_toArray, List.set_cons_zero, List.set_cons_succ, List.getElem_toArray, List.getElem_cons_succ, List.getElem_cons_zero]
            refine wpAnyH_ready (rs := [15]) (by kernel_rfl) (by simp) ?_
            refine AllReadyH.cons rfl (fun K hK => ?_) AllReadyH.nil
            go_simp
            go_at_call 23
            refine (show_any y _ _ _ ⟨a1, c1, rfl, HSY.out.later HBD.out⟩ (txt_mayK HYE.out HYZ.out)).mono ?_
            rintro e wC ⟨rfl, hbC⟩
            rw [show (⟨(txtL [y]).toArray⟩ : ByteArray) = txB y from rfl]
            have HBC : Hid (Below wb.heap.size wb wC) := HBD.out.trans (hbC.mono HBD.out.size)
            clear hbC
            go_simp
            refine hK.out _ _ (by exact (HST.out _ HBC.out)) (fun hHeld => ?_)
            clear hK K
            try simp only [Act.put, List.setIfInBounds_toArray, List.set_cons_zero, List.set_cons_succ, List.getElem_toArray, List.getElem_cons_succ, List.getElem_cons_zero]
            refine wpAnyH_take (i := 16) (v := ?_) rfl (by kernel_rfl) (by kernel_rfl) (by kernel_rfl) (fun _ _ _ h => h) (Or.inl ⟨by rfl, ?_⟩) (by assumption) ?_
            rotate_left
            · intro w' hSw
              have hlk9 := look_plK (L := L) hSw.2.2.2.2 HTN.out HYM.out
              go_simp <;> with_reducible rfl
            try simp only [Act.put, List.setIfInBounds_toArray, List.set_cons_zero, List.set_cons_succ, List.getElem_toArray, List.getElem_cons_succ, List.getElem_cons_zero]
            have hBW := HB2.out.later HBC.out
            obtain ⟨g, cap, w7, hr7, k0, kf, kl, hb7, hbw7, hb8⟩ := hBW.push hli (by have := HR2.out.size; have := HBC.out.size; omega) (by rw [HRL.out]; omega) (plK L y)
            rw [HRL.out] at hr7 hbw7 hb8
            rw [HV.out] at hr7 k0
            have HR7 := hide hr7
            have HBW7 := hide hbw7
            have HB7 : Hid (Below w2.heap.size wb w7) := (HBC.out.mono HR2.out.size).trans hb7
            have HB8 : Hid (Below w2.heap.size wb (w7.setCell ⟨gb, i, none⟩ (.slice (some ⟨g, 0, none⟩) (k + 1) cap))) := (HBC.out.mono HR2.out.size).trans hb8
            clear hr7 hbw7 hb7 hb8 hBW
            refine wpAnyH_ready (rs := [17]) (by kernel_rfl) (by simp) ?_
            refine AllReadyH.cons rfl (fun K hK => ?_) AllReadyH.nil
            go_simp
            refine hK.out _ _ (by exact (HST.out _ (HBC.out.alloc HBC.out.size _))) (fun hHeld => ?_)
            clear hK K
            try simp only [Act.put, List.setIfInBounds_toArray, List.set_cons_zero, List.set_cons_succ, List.getElem_toArray, List.getElem_cons_succ, List.getElem_cons_zero]
            refine wpAnyH_ready (rs := [18]) (by kernel_rfl) (by simp) ?_
            refine AllReadyH.cons rfl (fun K hK => ?_) AllReadyH.nil
            refine step_append_eqK rfl _ _ _ _ rfl rfl rfl HR7.out ?_
            refine hK.out _ _ (by exact (HSP.out _ HB7.out)) (fun hHeld => ?_)
            clear hK K
            try simp only [Act.put, List.setIfInBounds_toArray, List.set_cons_zero, List.set_cons_succ, List.getElem_toArray, List.getElem_cons_succ, List.getElem_cons_zero]
            refine wpAnyH_take (i := 19) (v := ?_) rfl (by kernel_rfl) (by kernel_rfl) (by kernel_rfl) (fun _ _ _ h => h) (Or.inl ⟨by rfl, ?_⟩) (by assumption) ?_
            rotate_left
            · intro w' hSw
              go_simp <;> with_reducible rfl
            try simp only [Act.put, List.setIfInBounds_toArray, List.set_cons_zero, List.set_cons_succ, List.getElem_toArray, List.getElem_cons_succ, List.getElem_cons_zero]
            refine wpAnyH_ready (rs := [20]) (by kernel_rfl) (by simp) ?_
            refine AllReadyH.cons rfl (fun K hK => ?_) AllReadyH.nil
            go_simp
            refine hK.out _ _ (by exact (HSP.out _ HB8.out)) (fun hHeld => ?_)
            clear hK K
            try simp only [Act.put, List.setIfInBounds_toArray, List.set_cons_zero, List.set_cons_succ, List.getElem_toArray, List.getElem_cons_succ, List.getElem_cons_zero]
            refine wpAnyH_done (by kernel_rfl) ?_ _
            clear hHeld k0 kf kl b0 a0 d0 d1 f0 f1
            have HRN : Hid (Below w2.heap.size w2 (w7.setCell ⟨gb, i, none⟩ (.slice (some ⟨g, 0, none⟩) (k + 1) cap))) := HR2.out.trans HB8.out
            generalize w7.setCell ⟨gb, i, none⟩ (.slice (some ⟨g, 0, none⟩) (k + 1) cap) = w8 at *
            obtain ⟨vb3, o3, hbw3⟩ := HBW7.out
            have HBN : Hid (BwI w2.heap.size gb n (rwK L i (k + 1)) vb3 o3 w8) := hbw3.congr fun j _ => HTK.out j
            clear hbw3
            go_wp2_with fail
            go_roundw
            case rel => exact ⟨k + 1, vb3, o3, by go_num, by rw [← HX.out]; omega, HBN.out, HRN.out⟩
            case measure => simp [intOf]; omega
          · go_simp
            go_at_call 23
            refine (show_any y _ _ _ ⟨a1, c1, rfl, HSY.out.later HBD.out⟩ (txt_mayK HYE.out HYZ.out)).mono ?_
            rintro e wC ⟨rfl, hbC⟩
            rw [show (⟨(txtL [y]).toArray⟩ : ByteArray) = txB y from rfl]
            have HBC : Hid (Below wb.heap.size wb wC) := HBD.out.trans (hbC.mono HBD.out.size)
            clear hbC
            go_simp
            refine hK.out _ _ (by exact (HST.out _ HBC.out)) (fun hHeld => ?_)
            clear hK K
            try simp only [Act.put, List.setIfInBounds_toArray, List.set_cons_zero, List.set_cons_succ, List.getElem_toArray, List.getElem_cons_succ, List.getElem_cons_zero]
            have b1 := HBG.out _ HBC.out
            refine wpAnyH_take (i := 16) (v := ?_) rfl (by kernel_rfl) (by kernel_rfl) (by kernel_rfl) (fun _ _ _ h => h) (Or.inl ⟨by rfl, ?_⟩) (by assumption) ?_
            rotate_left
            · intro w' hSw
              have hlk9 := look_plK (L := L) hSw.2.2.2.2 HTN.out HYM.out
              go_simp <;> with_reducible rfl
            try simp only [Act.put, List.setIfInBounds_toArray, List.set_cons_zero, List.set_cons_succ, List.getElem_toArray, List.getElem_cons_succ, List.getElem_cons_zero]
            refine wpAnyH_ready (rs := [5, 17]) (by kernel_rfl) (by simp) ?_
            refine AllReadyH.cons rfl (fun K hK => ?_) (AllReadyH.cons rfl (fun K hK => ?_) AllReadyH.nil)
            · go_simp
              refine hK.out _ _ (by exact (HST.out _ HBC.out)) (fun hHeld => ?_)
              clear hK K
              try simp only [Act.put, List.setIfInBounds_toArray, List.set_cons_zero, List.set_cons_succ, List.getElem_toArray, List.getElem_cons_succ, List.getElem_cons_zero]
              have hBW := HB2.out.later HBC.out
              obtain ⟨g, cap, w7, hr7, k0, kf, kl, hb7, hbw7, hb8⟩ := hBW.push hli (by have := HR2.out.size; have := HBC.out.size; omega) (by rw [HRL.out]; omega) (plK L y)
              rw [HRL.out] at hr7 hbw7 hb8
              rw [HV.out] at hr7 k0
              have HR7 := hide hr7
              have HBW7 := hide hbw7
              have HB7 : Hid (Below w2.heap.size wb w7) := (HBC.out.mono HR2.out.size).trans hb7
              have HB8 : Hid (Below w2.heap.size wb (w7.setCell ⟨gb, i, none⟩ (.slice (some ⟨g, 0, none⟩) (k + 1) cap))) := (HBC.out.mono HR2.out.size).trans hb8
              clear hr7 hbw7 hb7 hb8 hBW
              refine wpAnyH_ready (rs := [17]) (by kernel_rfl) (by simp) ?_
              refine AllReadyH.cons rfl (fun K hK => ?_) AllReadyH.nil
              go_simp
              refine hK.out _ _ (by exact (HST.out _ (HBC.out.alloc HBC.out.size _))) (fun hHeld => ?_)
              clear hK K
              try simp only [Act.put, List.setIfInBounds_toArray, List.set_cons_zero, List.set_cons_succ, List.getElem_toArray, List.getElem_cons_succ, List.getElem_cons_zero]
              refine wpAnyH_ready (rs := [18]) (by kernel_rfl) (by simp) ?_
              refine AllReadyH.cons rfl (fun K hK => ?_) AllReadyH.nil
              refine step_append_eqK rfl _ _ _ _ rfl rfl rfl HR7.out ?_
              refine hK.out _ _ (by exact (HSP.out _ HB7.out)) (fun hHeld => ?_)
              clear hK K
              try simp only [Act.put, List.setIfInBounds_toArray, List.set_cons_zero, List.set_cons_succ, List.getElem_toArray, List.getElem_cons_succ, List.getElem_cons_zero]
              refine wpAnyH_take (i := 19) (v := ?_) rfl (by kernel_rfl) (by kernel_rfl) (by kernel_rfl) (fun _ _ _ h => h) (Or.inl ⟨by rfl, ?_⟩) (by assumption) ?_
              rotate_left
              · intro w' hSw
                go_simp <;> with_reducible rfl
              try simp only [Act.put, List.setIfInBounds_toArray, List.set_cons_zero, List.set_cons_succ, List.getElem_toArray, List.getElem_cons_succ, List.getElem_cons_zero]
              refine wpAnyH_ready (rs := [20]) (by kernel_rfl) (by simp) ?_
              refine AllReadyH.cons rfl (fun K hK => ?_) AllReadyH.nil
              go_simp
              refine hK.out _ _ (by exact (HSP.out _ HB8.out)) (fun hHeld => ?_)
              clear hK K
              try simp only [Act.put, List.setIfInBounds_toArray, List.set_cons_zero, List.set_cons_succ, List.getElem_toArray, List.getElem_cons_succ, List.getElem_cons_zero]
              refine wpAnyH_done (by kernel_rfl) ?_ _
              clear hHeld k0 kf kl b0 a0 d0 d1 f0 f1
              have HRN : Hid (Below w2.heap.size w2 (w7.setCell ⟨gb, i, none⟩ (.slice (some ⟨g, 0, none⟩) (k + 1) cap))) := HR2.out.trans HB8.out
              generalize w7.setCell ⟨gb, i, none⟩ (.slice (some ⟨g, 0, none⟩) (k + 1) cap) = w8 at *
              obtain ⟨vb3, o3, hbw3⟩ := HBW7.out
              have HBN : Hid (BwI w2.heap.size gb n (rwK L i (k + 1)) vb3 o3 w8) := hbw3.congr fun j _ => HTK.out j
              clear hbw3
              go_wp2_with fail
              go_roundw
              case rel => exact ⟨k + 1, vb3, o3, by go_num, by rw [← HX.out]; omega, HBN.out, HRN.out⟩
              case measure => simp [intOf]; omega
            · go_simp
              refine hK.out _ _ (by exact (HST.out _ (HBC.out.alloc HBC.out.size _))) (fun hHeld => ?_)
              clear hK K
              try simp only [Act.put, List.setIfInBounds_toArray, List.set_cons_zero, List.set_cons_succ, List.getElem_toArray, List.getElem_cons_succ, List.getElem_cons_zero]
              have b2 := HBG.out _ (HBC.out.alloc HBC.out.size (.cells #[.int .i64 ((plK L y : Nat) : Int)] 3))
              refine wpAnyH_ready (rs := [5]) (by kernel_rfl) (by simp) ?_
              refine AllReadyH.cons rfl (fun K hK => ?_) AllReadyH.nil
              go_simp
              refine hK.out _ _ (by exact (HST.out _ (HBC.out.alloc HBC.out.size _))) (fun hHeld => ?_)
              clear hK K
              try simp only [Act.put, List.setIfInBounds_toArray, List.set_cons_zero, List.set_cons_succ, List.getElem_toArray, List.getElem_cons_succ, List.getElem_cons_zero]
              have hBW := HB2.out.later HBC.out
              obtain ⟨g, cap, w7, hr7, k0, kf, kl, hb7, hbw7, hb8⟩ := hBW.push hli (by have := HR2.out.size; have := HBC.out.size; omega) (by rw [HRL.out]; omega) (plK L y)
              rw [HRL.out] at hr7 hbw7 hb8
              rw [HV.out] at hr7 k0
              have HR7 := hide hr7
              have HBW7 := hide hbw7
              have HB7 : Hid (Below w2.heap.size wb w7) := (HBC.out.mono HR2.out.size).trans hb7
              have HB8 : Hid (Below w2.heap.size wb (w7.setCell ⟨gb, i, none⟩ (.slice (some ⟨g, 0, none⟩) (k + 1) cap))) := (HBC.out.mono HR2.out.size).trans hb8
              clear hr7 hbw7 hb7 hb8 hBW
              refine wpAnyH_ready (rs := [18]) (by kernel_rfl) (by simp) ?_
              refine AllReadyH.cons rfl (fun K hK => ?_) AllReadyH.nil
              refine step_append_eqK rfl _ _ _ _ rfl rfl rfl HR7.out ?_
              refine hK.out _ _ (by exact (HSP.out _ HB7.out)) (fun hHeld => ?_)
              clear hK K
              try simp only [Act.put, List.setIfInBounds_toArray, List.set_cons_zero, List.set_cons_succ, List.getElem_toArray, List.getElem_cons_succ, List.getElem_cons_zero]
              refine wpAnyH_take (i := 19) (v := ?_) rfl (by kernel_rfl) (by kernel_rfl) (by kernel_rfl) (fun _ _ _ h => h) (Or.inl ⟨by rfl, ?_⟩) (by assumption) ?_
              rotate_left
              · intro w' hSw
                go_simp <;> with_reducible rfl
              try simp only [Act.put, List.setIfInBounds_toArray, List.set_cons_zero, List.set_cons_succ, List.getElem_toArray, List.getElem_cons_succ, List.getElem_cons_zero]
              refine wpAnyH_ready (rs := [20]) (by kernel_rfl) (by simp) ?_
              refine AllReadyH.cons rfl (fun K hK => ?_) AllReadyH.nil
              go_simp
              refine hK.out _ _ (by exact (HSP.out _ HB8.out)) (fun hHeld => ?_)
              clear hK K
              try simp only [Act.put, List.setIfInBounds_toArray, List.set_cons_zero, List.set_cons_succ, List.getElem_toArray, List.getElem_cons_succ, List.getElem_cons_zero]
              refine wpAnyH_done (by kernel_rfl) ?_ _
              clear hHeld k0 kf kl b0 a0 d0 d1 f0 f1
              have HRN : Hid (Below w2.heap.size w2 (w7.setCell ⟨gb, i, none⟩ (.slice (some ⟨g, 0, none⟩) (k + 1) cap))) := HR2.out.trans HB8.out
              generalize w7.setCell ⟨gb, i, none⟩ (.slice (some ⟨g, 0, none⟩) (k + 1) cap) = w8 at *
              obtain ⟨vb3, o3, hbw3⟩ := HBW7.out
              have HBN : Hid (BwI w2.heap.size gb n (rwK L i (k + 1)) vb3 o3 w8) := hbw3.congr fun j _ => HTK.out j
              clear hbw3
              go_wp2_with fail
              go_roundw
              case rel => exact ⟨k + 1, vb3, o3, by go_num, by rw [← HX.out]; omega, HBN.out, HRN.out⟩
              case measure => simp [intOf]; omega
        · have hki : ¬ (k : Int) < (x.args.length : Int) := by omega
          have HBE : Hid (BwI w2.heap.size gb n (rwK L (i + 1) 0) vb2 o2 wb) := HB2.out.congr fun j hj => by
            unfold rwK
            by_cases e1 : j < i
            · rw [if_pos (show j < i + 1 by omega), if_pos e1]
            · by_cases e2 : j = i
              · subst e2
                rw [if_pos (show j < j + 1 by omega), if_neg e1, if_pos rfl, List.take_of_length_le (by rw [HBL.out, List.length_map]; omega)]
              · rw [if_neg (show ¬ j < i + 1 by omega), if_neg e1, if_neg e2]
                split <;> simp
          go_wp2_with fail
          go_roundw
          case rel => exact ⟨i + 1, vb2, o2, by go_num, by omega, HBE.out, HR2.out⟩
          case measure => simp [intOf]; omega
    · have hii : ¬ (i : Int) < (n : Int) := by omega
      have HBE : Hid (BwI w2.heap.size gb n (fun j => gd (blK L) [] j) vb o wa) := HBW.out.congr fun j hj => by
        unfold rwK
        rw [if_pos (show j < i by omega)]
      go_wp2_with fail
      go_meet
      exact ⟨⟨vb, o, HBE.out⟩, HBR.out⟩
end Go.Proofs.YtdmaijmglblccaaGreatDoor
