/- Walks: one symbol; a new variable for two terms (general.sameSymbol, general.common.variable). -/
import Derived.Test.YtglcijkhlppjfaaDoorZTopPlotkinOwn
import Derived.Test.YtglcijkhlppjfaaDoorW23
import Derived.Deep.RegionHeld
import Derived.Deep.RegionHeld3
import Derived.Deep.DeepCutAuto
namespace Go.Proofs.YtglcijkhlppjfaaDoor
open Go.RowKit
set_option linter.unusedSimpArgs false
set_option linter.unusedVariables false
set_option maxRecDepth 8000

theorem name_eqZ (a b : ByteArray) : (a.toList == b.toList) = decide (a = b) := by
  rw [ByteArray.toList_eq, ByteArray.toList_eq]
  by_cases h : a = b
  · subst h; simp
  · have : ¬ a.data.toList = b.data.toList := fun e => h (ByteArray.ext (Array.ext' e))
    simp [h]
    intro e
    exact h (ByteArray.ext e)

set_option maxHeartbeats 2000000 in
theorem sameSymbol_any (a b : Tm) (va vb : Value) (w : World) (X Y : Nat → Prop) (ha : TV w X va a) (hb : TV w Y vb b) :
    Calls Tryd.prog 35 #[va, vb] w fun e w' => e = .returned (.bool (symB a b)) ∧ Below w.heap.size w w' := by
  obtain ⟨aa, ca, rfl, hsa⟩ := ha
  obtain ⟨ab, cb, rfl, hsb⟩ := hb
  have hl1 := hsa.1
  have hl2 := hsb.1
  have HB2 : Hid (Below w.heap.size w ((w.alloc (.cells #[.string a.name, .slice aa a.args.length ca] 25)).alloc (.cells #[.string b.name, .slice ab b.args.length cb] 25))) := ((Below.refl _ _).alloc (Nat.le_refl _) _).alloc (by simp) _
  have KA : Hid (Blk ((w.alloc (.cells #[.string a.name, .slice aa a.args.length ca] 25)).alloc (.cells #[.string b.name, .slice ab b.args.length cb] 25)) w.heap.size #[.string a.name, .slice aa a.args.length ca] 25) := (Blk.new w _ _).alloc _
  have KB : Hid (Blk ((w.alloc (.cells #[.string a.name, .slice aa a.args.length ca] 25)).alloc (.cells #[.string b.name, .slice ab b.args.length cb] 25)) (w.heap.size + 1) #[.string b.name, .slice ab b.args.length cb] 25) := by
    have h := Blk.new (w.alloc (.cells #[.string a.name, .slice aa a.args.length ca] 25)) #[.string b.name, .slice ab b.args.length cb] 25
    rw [World.size_alloc] at h
    exact h
  have c0 := KA.out.cell 0
  have c1 := KA.out.cell 1
  have d0 := KB.out.cell 0
  have d1 := KB.out.cell 1
  clear hsa hsb
  have HV := hide (isVariable_all a.name ((w.alloc (.cells #[.string a.name, .slice aa a.args.length ca] 25)).alloc (.cells #[.string b.name, .slice ab b.args.length cb] 25)))
  cases hv : varB a.name with
  | true =>
    have HZ : Hid (symB a b = false) := by unfold Hid symB; simp [hv]
    have HVV := hide hv
    clear hv
    go_enter Tryd.func35, Tryd.ntmps35
    go_wp2_with fail
    refine HV.out.mono ?_
    rintro e w2 ⟨rfl, rfl⟩
    rw [HVV.out]
    go_wp2_with fail
    go_ret
    rw [HZ.out]
    exact ⟨rfl, HB2.out⟩
  | false =>
    have HVV := hide hv
    clear hv
    by_cases hn : a.name = b.name
    · by_cases hl : a.args.length = b.args.length
      · have HZ : Hid (symB a b = true) := by unfold Hid symB; simp [HVV.out, hn, hl]; rw [← hn]; exact HVV.out
        have hni : (a.name.toList == b.name.toList) = true := by rw [name_eqZ]; simpa using hn
        have hli : ((a.args.length : Int) == (b.args.length : Int)) = true := by simpa using (by omega : (a.args.length : Int) = (b.args.length : Int))
        have HN := hide hn
        have HL := hide hl
        clear hn hl
        go_enter Tryd.func35, Tryd.ntmps35
        go_wp2_with fail
        refine HV.out.mono ?_
        rintro e w2 ⟨rfl, rfl⟩
        rw [HVV.out]
        go_wp2_with fail
        go_ret
        rw [HZ.out]
        exact ⟨rfl, HB2.out⟩
      · have HZ : Hid (symB a b = false) := by unfold Hid symB; simp [hl]
        have hni : (a.name.toList == b.name.toList) = true := by rw [name_eqZ]; simpa using hn
        have hli : ((a.args.length : Int) == (b.args.length : Int)) = false := by simpa using (by omega : ¬ (a.args.length : Int) = (b.args.length : Int))
        have HN := hide hn
        have HL := hide hl
        clear hn hl
        go_enter Tryd.func35, Tryd.ntmps35
        go_wp2_with fail
        refine HV.out.mono ?_
        rintro e w2 ⟨rfl, rfl⟩
        rw [HVV.out]
        go_wp2_with fail
        go_ret
        rw [HZ.out]
        exact ⟨rfl, HB2.out⟩
    · have HZ : Hid (symB a b = false) := by unfold Hid symB; simp [hn]
      have hni : (a.name.toList == b.name.toList) = false := by rw [name_eqZ]; simpa using hn
      have HN := hide hn
      clear hn
      go_enter Tryd.func35, Tryd.ntmps35
      go_wp2_with fail
      refine HV.out.mono ?_
      rintro e w2 ⟨rfl, rfl⟩
      rw [HVV.out]
      go_wp2_with fail
      go_ret
      rw [HZ.out]
      exact ⟨rfl, HB2.out⟩

/-- What two terms have got so far. -/
structure GmAt (w : World) (B r r1 r2 : Nat) (Y : Nat → Prop) (h : List Pr) : Prop where
  nm : NmAt w B r (h.map kyT)
  lf : MapZ w Y r1 (bdL (·.l) 0 h)
  rt : MapZ w Y r2 (bdL (·.r) 0 h)
  n1 : r ≠ r1
  n2 : r ≠ r2
  n3 : r1 ≠ r2
  b1 : B ≠ r1
  b2 : B ≠ r2
  ok : ∀ q ∈ h, OkPr q
def Mps (r r1 r2 : Nat) (b : Nat) : Prop := b = r ∨ b = r1 ∨ b = r2
theorem GmAt.later {w w' : World} {B r r1 r2 : Nat} {Y : Nat → Prop} {h : List Pr} (g : GmAt w B r r1 r2 Y h) (hb : Below w.heap.size w w') : GmAt w' B r r1 r2 Y h := ⟨g.nm.later hb, g.lf.later hb, g.rt.later hb, g.n1, g.n2, g.n3, g.b1, g.b2, g.ok⟩
theorem GmAt.alloc {w : World} {B r r1 r2 : Nat} {Y : Nat → Prop} {h : List Pr} (g : GmAt w B r r1 r2 Y h) (o : Obj) : GmAt (w.alloc o) B r r1 r2 Y h := g.later ((Below.refl _ _).alloc (Nat.le_refl _) o)
theorem GmAt.kept {w w' : World} {B r r1 r2 : Nat} {Y : Nat → Prop} {h : List Pr} (g : GmAt w B r r1 r2 Y h) (hk : ∀ b, b < w.heap.size → (b = B ∨ Mps r r1 r2 b ∨ Y b) → w'.heap[b]? = w.heap[b]?) : GmAt w' B r r1 r2 Y h := by
  have hs : ∀ a l, Sl w Y a l → Sl w' Y a l := fun a l hs => ((hs.mono (Y := fun b => Y b ∧ b < w.heap.size) fun b h1 h2 => ⟨h1, h2⟩).kept fun b hb => hk b hb.2 (Or.inr (Or.inr hb.1))).mono fun b hb _ => hb.1
  exact ⟨⟨(hk B g.nm.box.lt (Or.inl rfl)).trans g.nm.box, g.nm.map.kept (hk r g.nm.map.lt (Or.inr (Or.inl (Or.inl rfl)))), g.nm.ne⟩, g.lf.kept (hk r1 g.lf.lt (Or.inr (Or.inl (Or.inr (Or.inl rfl))))) hs, g.rt.kept (hk r2 g.rt.lt (Or.inr (Or.inl (Or.inr (Or.inr rfl))))) hs, g.n1, g.n2, g.n3, g.b1, g.b2, g.ok⟩
theorem cat_ky (a b : Tm) : ((⟨(txtL [a]).toArray⟩ : ByteArray) ++ ⟨#[61]⟩) ++ ⟨(txtL [b]).toArray⟩ = kyT ⟨a, b⟩ := by
  apply ByteArray.ext
  unfold kyT
  apply Array.ext'
  simp [ByteArray.toList_data_append]

set_option maxHeartbeats 4000000 in
theorem variable_any (BT B r r1 r2 : Nat) (hBr : BT ≤ r ∧ BT ≤ r1 ∧ BT ≤ r2) (h : List Pr) (a b : Tm) (va vb : Value) (w : World) (Y : Nat → Prop) (ha : TV w Y va a) (hb : TV w Y vb b) (hY : ∀ x, Y x → ¬ Mps r r1 r2 x) (hYw : ∀ x, Y x → x < w.heap.size) (hg : GmAt w B r r1 r2 Y h) (hT : Tb BT w) (hea : errL [a] = 0) (heb : errL [b] = 0) (hza : sizeL [a] ≤ 200) (hzb : sizeL [b] ≤ 200) (hl : h.length ≤ 100000) :
    Calls Tryd.prog 36 #[.agg #[.func (.func 33) #[] #[.pointer (some ⟨B, 0, none⟩)], .map (some r1), .map (some r2)], va, vb] w fun e w' => e = .returned (.agg #[.string (vrP h a b).1.name, .slice none 0 0]) ∧ GmAt w' B r r1 r2 Y (vrP h a b).2 ∧ ExQ (Mps r r1 r2) w w' := by
  obtain ⟨aa, ca, rfl, hsa⟩ := ha
  obtain ⟨ab, cb, rfl, hsb⟩ := hb
  obtain ⟨p, hp⟩ : ∃ p : Pr, p = ⟨a, b⟩ := ⟨_, rfl⟩
  have HKY : Hid (((⟨(txtL [a]).toArray⟩ : ByteArray) ++ ⟨#[61]⟩) ++ ⟨(txtL [b]).toArray⟩ = kyT p) := by rw [hp]; exact cat_ky a b
  have HOK : Hid (OkPr p) := by rw [hp]; exact ⟨hea, heb⟩
  have HVR : Hid (vrP h a b = (⟨nmZ (idxP p h + 1), []⟩, addP h p)) := by rw [hp]; rfl
  have HPL : Hid (p.l = a ∧ p.r = b) := by rw [hp]; exact ⟨rfl, rfl⟩
  have HSA := hide hsa
  have HSB := hide hsb
  have HY := hide hY
  have HYW := hide hYw
  have HG := hide hg
  have HT := hide hT
  have HRL : Hid (B < w.heap.size ∧ r < w.heap.size ∧ r1 < w.heap.size ∧ r2 < w.heap.size) := ⟨hg.nm.box.lt, hg.nm.map.lt, hg.lf.lt, hg.rt.lt⟩
  have lta := txt_len [a] hea
  have ltb := txt_len [b] heb
  clear hsa hsb hY hYw hg hT hp hea heb
  have W4 : Hid (Below w.heap.size w ((((w.alloc (.cells #[.func (.func 33) #[] #[.pointer (some ⟨B, 0, none⟩)], .map (some r1), .map (some r2)] 57)).alloc (.cells #[.string a.name, .slice aa a.args.length ca] 25)).alloc (.cells #[.string b.name, .slice ab b.args.length cb] 25)).alloc (.cells #[.string ⟨#[]⟩, .slice none 0 0] 25))) := ((((Below.refl _ _).alloc (Nat.le_refl _) _).alloc (by simp) _).alloc (by simp; omega) _).alloc (by simp; omega) _
  have KC : Hid (Blk ((((w.alloc (.cells #[.func (.func 33) #[] #[.pointer (some ⟨B, 0, none⟩)], .map (some r1), .map (some r2)] 57)).alloc (.cells #[.string a.name, .slice aa a.args.length ca] 25)).alloc (.cells #[.string b.name, .slice ab b.args.length cb] 25)).alloc (.cells #[.string ⟨#[]⟩, .slice none 0 0] 25)) w.heap.size #[.func (.func 33) #[] #[.pointer (some ⟨B, 0, none⟩)], .map (some r1), .map (some r2)] 57) := (((Blk.new w _ _).alloc _).alloc _).alloc _
  have KA : Hid (Blk ((((w.alloc (.cells #[.func (.func 33) #[] #[.pointer (some ⟨B, 0, none⟩)], .map (some r1), .map (some r2)] 57)).alloc (.cells #[.string a.name, .slice aa a.args.length ca] 25)).alloc (.cells #[.string b.name, .slice ab b.args.length cb] 25)).alloc (.cells #[.string ⟨#[]⟩, .slice none 0 0] 25)) (w.heap.size + 1) #[.string a.name, .slice aa a.args.length ca] 25) := by
    have h := ((Blk.new (w.alloc (.cells #[.func (.func 33) #[] #[.pointer (some ⟨B, 0, none⟩)], .map (some r1), .map (some r2)] 57)) #[.string a.name, .slice aa a.args.length ca] 25).alloc (.cells #[.string b.name, .slice ab b.args.length cb] 25)).alloc (.cells #[.string ⟨#[]⟩, .slice none 0 0] 25)
    rw [World.size_alloc] at h
    exact h
  have KB : Hid (Blk ((((w.alloc (.cells #[.func (.func 33) #[] #[.pointer (some ⟨B, 0, none⟩)], .map (some r1), .map (some r2)] 57)).alloc (.cells #[.string a.name, .slice aa a.args.length ca] 25)).alloc (.cells #[.string b.name, .slice ab b.args.length cb] 25)).alloc (.cells #[.string ⟨#[]⟩, .slice none 0 0] 25)) (w.heap.size + 2) #[.string b.name, .slice ab b.args.length cb] 25) := by
    have h := (Blk.new ((w.alloc (.cells #[.func (.func 33) #[] #[.pointer (some ⟨B, 0, none⟩)], .map (some r1), .map (some r2)] 57)).alloc (.cells #[.string a.name, .slice aa a.args.length ca] 25)) #[.string b.name, .slice ab b.args.length cb] 25).alloc (.cells #[.string ⟨#[]⟩, .slice none 0 0] 25)
    rw [World.size_alloc, World.size_alloc] at h
    exact h
  have KR : Hid (Blk ((((w.alloc (.cells #[.func (.func 33) #[] #[.pointer (some ⟨B, 0, none⟩)], .map (some r1), .map (some r2)] 57)).alloc (.cells #[.string a.name, .slice aa a.args.length ca] 25)).alloc (.cells #[.string b.name, .slice ab b.args.length cb] 25)).alloc (.cells #[.string ⟨#[]⟩, .slice none 0 0] 25)) (w.heap.size + 3) #[.string ⟨#[]⟩, .slice none 0 0] 25) := by
    have h := Blk.new (((w.alloc (.cells #[.func (.func 33) #[] #[.pointer (some ⟨B, 0, none⟩)], .map (some r1), .map (some r2)] 57)).alloc (.cells #[.string a.name, .slice aa a.args.length ca] 25)).alloc (.cells #[.string b.name, .slice ab b.args.length cb] 25)) #[.string ⟨#[]⟩, .slice none 0 0] 25
    rw [World.size_alloc, World.size_alloc, World.size_alloc] at h
    exact h
  go_enter Tryd.func36, Tryd.ntmps36
  go_upto_region 1 with fail
  generalize ((((w.alloc (.cells #[.func (.func 33) #[] #[.pointer (some ⟨B, 0, none⟩)], .map (some r1), .map (some r2)] 57)).alloc (.cells #[.string a.name, .slice aa a.args.length ca] 25)).alloc (.cells #[.string b.name, .slice ab b.args.length cb] 25)).alloc (.cells #[.string ⟨#[]⟩, .slice none 0 0] 25)) = w4 at *
  have KP : Hid (∀ w', ExQ (Mps r r1 r2) w4 w' → (w'.cell? ⟨w.heap.size, 0, none⟩ = some (.func (.func 33) #[] #[.pointer (some ⟨B, 0, none⟩)]) ∧ w'.cell? ⟨w.heap.size, 1, none⟩ = some (.map (some r1)) ∧ w'.cell? ⟨w.heap.size, 2, none⟩ = some (.map (some r2))) ∧ (w'.cell? ⟨w.heap.size + 1, 0, none⟩ = some (.string a.name) ∧ w'.cell? ⟨w.heap.size + 1, 1, none⟩ = some (.slice aa a.args.length ca)) ∧ w'.cell? ⟨w.heap.size + 2, 0, none⟩ = some (.string b.name) ∧ w'.cell? ⟨w.heap.size + 2, 1, none⟩ = some (.slice ab b.args.length cb)) := fun w' he => by
    have hr := HRL.out
    have k1 := KC.out.exq he (by unfold Mps; omega)
    have k2 := KA.out.exq he (by unfold Mps; omega)
    have k3 := KB.out.exq he (by unfold Mps; omega)
    exact ⟨⟨k1.cell 0, k1.cell 1, k1.cell 2⟩, ⟨k2.cell 0, k2.cell 1⟩, k3.cell 0, k3.cell 1⟩
  have VA : Hid (∀ w', Below w4.heap.size w4 w' → TV w' Y (.agg #[.string a.name, .slice aa a.args.length ca]) a) := fun w' hb' => ⟨aa, ca, rfl, (HSA.out.later W4.out).later hb'⟩
  have VB : Hid (∀ w', Below w4.heap.size w4 w' → TV w' Y (.agg #[.string b.name, .slice ab b.args.length cb]) b) := fun w' hb' => ⟨ab, cb, rfl, (HSB.out.later W4.out).later hb'⟩
  have kd : Below w4.heap.size w4 w4.drew := (Below.refl _ _).drew
  have HSd := hide (KP.out _ (ExQ.ofBelow kd))
  have l1 : (txtL [a]).length + 1 ≤ 9223372036854775807 := by omega
  have l2 : ¬ 9223372036854775807 < (txtL [a]).length + 1 := by omega
  have l3 : (txtL [a]).length + 1 + (txtL [b]).length ≤ 9223372036854775807 := by omega
  have l4 : ¬ 9223372036854775807 < (txtL [a]).length + 1 + (txtL [b]).length := by omega
  refine wp_region_held_drew (S := (fun w' => (w'.cell? ⟨w.heap.size, 0, none⟩ = some (.func (.func 33) #[] #[.pointer (some ⟨B, 0, none⟩)]) ∧ w'.cell? ⟨w.heap.size, 1, none⟩ = some (.map (some r1)) ∧ w'.cell? ⟨w.heap.size, 2, none⟩ = some (.map (some r2))) ∧ (w'.cell? ⟨w.heap.size + 1, 0, none⟩ = some (.string a.name) ∧ w'.cell? ⟨w.heap.size + 1, 1, none⟩ = some (.slice aa a.args.length ca)) ∧ w'.cell? ⟨w.heap.size + 2, 0, none⟩ = some (.string b.name) ∧ w'.cell? ⟨w.heap.size + 2, 1, none⟩ = some (.slice ab b.args.length cb))) (by kernel_rfl) HSd.out (fun hHeld => ?_)
  refine wpAnyH_take (i := 0) (v := ?_) rfl (by kernel_rfl) (by kernel_rfl) (by kernel_rfl) (fun _ _ _ h => h) (Or.inl ⟨by rfl, ?_⟩) (by assumption) ?_
  rotate_left
  · intro w' hSw
    go_simp <;> with_reducible rfl
  try simp only [Act.put, List.setIfInBounds_toArray, List.set_cons_zero, List.set_cons_succ, List.getElem_toArray, List.getElem_cons_succ, List.getElem_cons_zero]
  refine wpAnyH_take (i := 1) (v := ?_) rfl (by kernel_rfl) (by kernel_rfl) (by kernel_rfl) (fun _ _ _ h => h) (Or.inl ⟨by rfl, ?_⟩) (by assumption) ?_
  rotate_left
  · intro w' hSw
    obtain ⟨⟨x0, x1, x2⟩, ⟨x3, x4⟩, x5, x6⟩ := hSw
    go_simp <;> with_reducible rfl
  try simp only [Act.put, List.setIfInBounds_toArray, List.set_cons_zero, List.set_cons_succ, List.getElem_toArray, List.getElem_cons_succ, List.getElem_cons_zero]
  refine wpAnyH_take (i := 2) (v := ?_) rfl (by kernel_rfl) (by kernel_rfl) (by kernel_rfl) (fun _ _ _ h => h) (Or.inl ⟨by rfl, ?_⟩) (by assumption) ?_
  rotate_left
  · intro w' hSw
    obtain ⟨⟨x0, x1, x2⟩, ⟨x3, x4⟩, x5, x6⟩ := hSw
    go_simp <;> with_reducible rfl
  try simp only [Act.put, List.setIfInBounds_toArray, List.set_cons_zero, List.set_cons_succ, List.getElem_toArray, List.getElem_cons_succ, List.getElem_cons_zero]
  refine wpAnyH_take (i := 5) (v := ?_) rfl (by kernel_rfl) (by kernel_rfl) (by kernel_rfl) (fun _ _ _ h => h) (Or.inl ⟨by rfl, ?_⟩) (by assumption) ?_
  rotate_left
  · intro w' hSw
    obtain ⟨⟨x0, x1, x2⟩, ⟨x3, x4⟩, x5, x6⟩ := hSw
    go_simp <;> with_reducible rfl
  try simp only [Act.put, List.setIfInBounds_toArray, List.set_cons_zero, List.set_cons_succ, List.getElem_toArray, List.getElem_cons_succ, List.getElem_cons_zero]
  refine wpAnyH_ready (rs := [3]) (by kernel_rfl) (by simp) ?_
  refine AllReadyH.cons rfl (fun K hK => ?_) AllReadyH.nil
  go_simp
  go_at_call 51
  refine (ktext_any a _ _ _ (VA.out _ kd) (by omega)).mono ?_
  rintro e w5 ⟨rfl, hb5⟩
  have k5 : Below w4.heap.size w4 w5 := kd.trans (hb5.mono kd.size)
  clear hb5
  go_simp
  refine hK.out _ _ (by exact KP.out _ (ExQ.ofBelow k5)) (fun hHeld => ?_)
  clear hK K
  try simp only [Act.put, List.setIfInBounds_toArray, List.set_cons_zero, List.set_cons_succ, List.getElem_toArray, List.getElem_cons_succ, List.getElem_cons_zero]
  refine wpAnyH_take (i := 4) (v := ?_) rfl (by kernel_rfl) (by kernel_rfl) (by kernel_rfl) (fun _ _ _ h => h) (Or.inl ⟨by rfl, ?_⟩) (by assumption) ?_
  rotate_left
  · intro w' hSw
    go_simp <;> with_reducible rfl
  try simp only [Act.put, List.setIfInBounds_toArray, List.set_cons_zero, List.set_cons_succ, List.getElem_toArray, List.getElem_cons_succ, List.getElem_cons_zero]
  refine wpAnyH_ready (rs := [6]) (by kernel_rfl) (by simp) ?_
  refine AllReadyH.cons rfl (fun K hK => ?_) AllReadyH.nil
  go_simp
  go_at_call 51
  refine (ktext_any b _ _ _ (VB.out _ k5) (by omega)).mono ?_
  rintro e w6 ⟨rfl, hb6⟩
  have k6 : Below w4.heap.size w4 w6 := k5.trans (hb6.mono k5.size)
  clear hb6
  go_simp
  refine hK.out _ _ (by exact KP.out _ (ExQ.ofBelow k6)) (fun hHeld => ?_)
  clear hK K
  try simp only [Act.put, List.setIfInBounds_toArray, List.set_cons_zero, List.set_cons_succ, List.getElem_toArray, List.getElem_cons_succ, List.getElem_cons_zero]
  refine wpAnyH_take (i := 7) (v := ?_) rfl (by kernel_rfl) (by kernel_rfl) (by kernel_rfl) (fun _ _ _ h => h) (Or.inl ⟨by rfl, ?_⟩) (by assumption) ?_
  rotate_left
  · intro w' hSw
    go_simp <;> with_reducible rfl
  try simp only [Act.put, List.setIfInBounds_toArray, List.set_cons_zero, List.set_cons_succ, List.getElem_toArray, List.getElem_cons_succ, List.getElem_cons_zero]
  have W6 := hide (W4.out.trans (k6.mono W4.out.size))
  have NM := hide (namer_any BT (kyT p) (h.map kyT) B r w6 ((HG.out.nm.later W6.out)) (HT.out.on (W6.out.mono (by have := HRL.out; omega))) hBr.1 (by have := HRL.out; have := W6.out.size; omega) (by simpa using hl))
  refine wpAnyH_ready (rs := [8]) (by kernel_rfl) (by simp) ?_
  refine AllReadyH.cons rfl (fun K hK => ?_) AllReadyH.nil
  go_simp
  rw [HKY.out]
  go_at_call 33
  refine NM.out.mono ?_
  rintro e w7 ⟨rfl, hn7, hx7⟩
  have X7 : Hid (ExQ (Mps r r1 r2) w4 w7) := (ExQ.ofBelow k6).transN hx7 (fun i h _ => Or.inl h)
  have HN7 := hide hn7
  have HX7 := hide hx7
  clear hn7 hx7
  go_simp
  refine hK.out _ _ (by exact KP.out _ X7.out) (fun hHeld => ?_)
  clear hK K
  try simp only [Act.put, List.setIfInBounds_toArray, List.set_cons_zero, List.set_cons_succ, List.getElem_toArray, List.getElem_cons_succ, List.getElem_cons_zero]
  refine wpAnyH_take (i := 9) (v := ?_) rfl (by kernel_rfl) (by kernel_rfl) (by kernel_rfl) (fun _ _ _ h => h) (Or.inl ⟨by rfl, ?_⟩) (by assumption) ?_
  rotate_left
  · intro w' hSw
    go_simp <;> with_reducible rfl
  try simp only [Act.put, List.setIfInBounds_toArray, List.set_cons_zero, List.set_cons_succ, List.getElem_toArray, List.getElem_cons_succ, List.getElem_cons_zero]
  refine wpAnyH_done (by kernel_rfl) ?_ _
  have G7 : Hid (NmAt w7 B r ((addP h p).map kyT) ∧ MapZ w7 Y r1 (bdL (·.l) 0 h) ∧ MapZ w7 Y r2 (bdL (·.r) 0 h)) := by
    have hr := HRL.out
    have hz := W6.out.size
    have hs : ∀ a l, Sl w6 Y a l → Sl w7 Y a l := fun a l hs => hs.exq HX7.out (fun x hx e => HY.out x hx (Or.inl e))
    refine ⟨by rw [addP_keys]; exact HN7.out, ?_, ?_⟩
    · exact (HG.out.lf.later W6.out).kept (HX7.out.block r1 (by omega) (fun e => HG.out.n1 e.symm)) hs
    · exact (HG.out.rt.later W6.out).kept (HX7.out.block r2 (by omega) (fun e => HG.out.n2 e.symm)) hs
  have kd7 : Below w7.heap.size w7 w7.drew := (Below.refl _ _).drew
  have SA7 : Hid (Sl w7 Y aa a.args) := ((HSA.out.later W6.out)).exq HX7.out (fun x hx e => HY.out x hx (Or.inl e))
  have SB7 : Hid (Sl w7 Y ab b.args) := ((HSB.out.later W6.out)).exq HX7.out (fun x hx e => HY.out x hx (Or.inl e))
  have hidx : idxS (kyT p) (h.map kyT) = idxP p h := rfl
  rw [hidx]
  obtain ⟨w8, run8, M8, z8, o8, t8, u8, k8⟩ := mz_put (w := w7.drew) (·.l) (p := p) (a := aa) (c := ca) (G7.out.2.1.later kd7) (fun x hx e => HY.out x hx (Or.inr (Or.inl e))) HOK.out HG.out.ok (by rw [HPL.out.1]; exact SA7.out.later kd7)
  have SB8 : Hid (Sl w8 Y ab b.args) := (SB7.out.later kd7).kept fun x hx => k8 x (fun e => HY.out x hx (Or.inr (Or.inl e)))
  have R8 : Hid (MapZ w8 Y r2 (bdL (·.r) 0 h)) := (G7.out.2.2.later kd7).kept (k8 r2 (fun e => HG.out.n3 e.symm)) (fun a l hs => hs.kept fun x hx => k8 x (fun e => HY.out x hx (Or.inr (Or.inl e))))
  obtain ⟨w9, run9, M9, z9, o9, t9, u9, k9⟩ := mz_put (·.r) (p := p) (a := ab) (c := cb) R8.out (fun x hx e => HY.out x hx (Or.inr (Or.inr e))) HOK.out HG.out.ok (by rw [HPL.out.2]; exact SB8.out)
  simp only [HPL.out.1] at run8
  simp only [HPL.out.2] at run9
  have X8 : Hid (ExQ (Mps r r1 r2) w4 w8) := X7.out.drew.trans ⟨o8, t8, u8, by omega, fun x _ hn => k8 x (fun e => hn (Or.inr (Or.inl e)))⟩
  have X9 : Hid (ExQ (Mps r r1 r2) w4 w9) := X8.out.trans ⟨o9, t9, u9, by omega, fun x _ hn => k9 x (fun e => hn (Or.inr (Or.inr e)))⟩
  have N7 := hide (G7.out.1.later kd7)
  have G9 : Hid (GmAt w9 B r r1 r2 Y (addP h p)) := by
    have hr := HRL.out
    refine ⟨⟨(k9 B HG.out.b2).trans ((k8 B HG.out.b1).trans N7.out.box), N7.out.map.kept ((k9 r HG.out.n2).trans (k8 r HG.out.n1)), N7.out.ne⟩, M8.kept (k9 r1 HG.out.n3) (fun a l hs => hs.kept fun x hx => k9 x (fun e => HY.out x hx (Or.inr (Or.inr e)))), M9, HG.out.n1, HG.out.n2, HG.out.n3, HG.out.b1, HG.out.b2, addP_ok HG.out.ok HOK.out⟩
  have R9 := hide (KR.out.exq X9.out (by have := HRL.out; unfold Mps; omega))
  have RUN8 := hide run8
  have RUN9 := hide run9
  have HS7 := hide (KP.out _ X7.out.drew)
  have HS8 := hide (KP.out _ X8.out)
  have HS9 := hide (KP.out _ X9.out)
  generalize nmZ (idxP p h + 1) = nm at *
  clear kd7 run8 run9 M8 M9 z8 z9 o8 o9 t8 t9 u8 u9 k8 k9 hidx NM l1 l2 l3 l4 lta ltb
  go_upto_region 2 with fail
  refine wp_region_held_drew (S := (fun w' => (w'.cell? ⟨w.heap.size, 0, none⟩ = some (.func (.func 33) #[] #[.pointer (some ⟨B, 0, none⟩)]) ∧ w'.cell? ⟨w.heap.size, 1, none⟩ = some (.map (some r1)) ∧ w'.cell? ⟨w.heap.size, 2, none⟩ = some (.map (some r2))) ∧ (w'.cell? ⟨w.heap.size + 1, 0, none⟩ = some (.string a.name) ∧ w'.cell? ⟨w.heap.size + 1, 1, none⟩ = some (.slice aa a.args.length ca)) ∧ w'.cell? ⟨w.heap.size + 2, 0, none⟩ = some (.string b.name) ∧ w'.cell? ⟨w.heap.size + 2, 1, none⟩ = some (.slice ab b.args.length cb))) (by kernel_rfl) HS7.out (fun hHeld => ?_)
  refine wpAnyH_take (i := 0) (v := ?_) rfl (by kernel_rfl) (by kernel_rfl) (by kernel_rfl) (fun _ _ _ h => h) (Or.inl ⟨by rfl, ?_⟩) (by assumption) ?_
  rotate_left
  · intro w' hSw
    go_simp <;> with_reducible rfl
  try simp only [Act.put, List.setIfInBounds_toArray, List.set_cons_zero, List.set_cons_succ, List.getElem_toArray, List.getElem_cons_succ, List.getElem_cons_zero]
  refine wpAnyH_take (i := 1) (v := ?_) rfl (by kernel_rfl) (by kernel_rfl) (by kernel_rfl) (fun _ _ _ h => h) (Or.inl ⟨by rfl, ?_⟩) (by assumption) ?_
  rotate_left
  · intro w' hSw
    obtain ⟨⟨x0, x1, x2⟩, ⟨x3, x4⟩, x5, x6⟩ := hSw
    go_simp <;> with_reducible rfl
  try simp only [Act.put, List.setIfInBounds_toArray, List.set_cons_zero, List.set_cons_succ, List.getElem_toArray, List.getElem_cons_succ, List.getElem_cons_zero]
  refine wpAnyH_take (i := 2) (v := ?_) rfl (by kernel_rfl) (by kernel_rfl) (by kernel_rfl) (fun _ _ _ h => h) (Or.inl ⟨by rfl, ?_⟩) (by assumption) ?_
  rotate_left
  · intro w' hSw
    go_simp <;> with_reducible rfl
  try simp only [Act.put, List.setIfInBounds_toArray, List.set_cons_zero, List.set_cons_succ, List.getElem_toArray, List.getElem_cons_succ, List.getElem_cons_zero]
  refine wpAnyH_take (i := 3) (v := ?_) rfl (by kernel_rfl) (by kernel_rfl) (by kernel_rfl) (fun _ _ _ h => h) (Or.inl ⟨by rfl, ?_⟩) (by assumption) ?_
  rotate_left
  · intro w' hSw
    go_simp <;> with_reducible rfl
  try simp only [Act.put, List.setIfInBounds_toArray, List.set_cons_zero, List.set_cons_succ, List.getElem_toArray, List.getElem_cons_succ, List.getElem_cons_zero]
  refine wpAnyH_take (i := 4) (v := ?_) rfl (by kernel_rfl) (by kernel_rfl) (by kernel_rfl) (fun _ _ _ h => h) (Or.inl ⟨by rfl, ?_⟩) (by assumption) ?_
  rotate_left
  · intro w' hSw
    obtain ⟨⟨x0, x1, x2⟩, ⟨x3, x4⟩, x5, x6⟩ := hSw
    go_simp <;> with_reducible rfl
  try simp only [Act.put, List.setIfInBounds_toArray, List.set_cons_zero, List.set_cons_succ, List.getElem_toArray, List.getElem_cons_succ, List.getElem_cons_zero]
  refine wpAnyH_take (i := 5) (v := ?_) rfl (by kernel_rfl) (by kernel_rfl) (by kernel_rfl) (fun _ _ _ h => h) (Or.inl ⟨by rfl, ?_⟩) (by assumption) ?_
  rotate_left
  · intro w' hSw
    go_simp <;> with_reducible rfl
  try simp only [Act.put, List.setIfInBounds_toArray, List.set_cons_zero, List.set_cons_succ, List.getElem_toArray, List.getElem_cons_succ, List.getElem_cons_zero]
  refine wpAnyH_take (i := 6) (v := ?_) rfl (by kernel_rfl) (by kernel_rfl) (by kernel_rfl) (fun _ _ _ h => h) (Or.inl ⟨by rfl, ?_⟩) (by assumption) ?_
  rotate_left
  · intro w' hSw
    obtain ⟨⟨x0, x1, x2⟩, ⟨x3, x4⟩, x5, x6⟩ := hSw
    go_simp <;> with_reducible rfl
  try simp only [Act.put, List.setIfInBounds_toArray, List.set_cons_zero, List.set_cons_succ, List.getElem_toArray, List.getElem_cons_succ, List.getElem_cons_zero]
  refine wpAnyH_take (i := 7) (v := ?_) rfl (by kernel_rfl) (by kernel_rfl) (by kernel_rfl) (fun _ _ _ h => h) (Or.inl ⟨by rfl, ?_⟩) (by assumption) ?_
  rotate_left
  · intro w' hSw
    obtain ⟨⟨x0, x1, x2⟩, ⟨x3, x4⟩, x5, x6⟩ := hSw
    go_simp <;> with_reducible rfl
  try simp only [Act.put, List.setIfInBounds_toArray, List.set_cons_zero, List.set_cons_succ, List.getElem_toArray, List.getElem_cons_succ, List.getElem_cons_zero]
  have run8 := RUN8.out
  refine wpAnyH_ready (rs := [8]) (by kernel_rfl) (by simp) ?_
  refine AllReadyH.cons rfl (fun K hK => ?_) AllReadyH.nil
  go_simp
  refine hK.out _ _ (by exact HS8.out) (fun hHeld => ?_)
  clear hK K
  try simp only [Act.put, List.setIfInBounds_toArray, List.set_cons_zero, List.set_cons_succ, List.getElem_toArray, List.getElem_cons_succ, List.getElem_cons_zero]
  clear run8
  have run9 := RUN9.out
  refine wpAnyH_ready (rs := [9]) (by kernel_rfl) (by simp) ?_
  refine AllReadyH.cons rfl (fun K hK => ?_) AllReadyH.nil
  go_simp
  refine hK.out _ _ (by exact HS9.out) (fun hHeld => ?_)
  clear hK K
  try simp only [Act.put, List.setIfInBounds_toArray, List.set_cons_zero, List.set_cons_succ, List.getElem_toArray, List.getElem_cons_succ, List.getElem_cons_zero]
  clear run9
  refine wpAnyH_done (by kernel_rfl) ?_ _
  have q0 : w9.cell? ⟨w.heap.size + 3, 0, none⟩ = some (.string ⟨#[]⟩) := R9.out.cell 0
  have q1 : w9.cell? ⟨w.heap.size + 3, 1, none⟩ = some (.slice none 0 0) := R9.out.cell 1
  have qf := R9.out.frozen
  have hRl : w.heap.size + 3 < w9.heap.size := R9.out.lt
  clear HS7 HS8 HS9 KP VA VB
  go_wp2_with fail
  refine bodyPost_ret (v := .agg #[.string nm, .slice none 0 0]) (by simp [results, Tryd.results36, go_sem, World.cell?_setCell_same, World.cell?_setCell_other, q0, q1, hRl]) rfl ?_
  rw [HVR.out]
  have hr := HRL.out
  refine ⟨rfl, G9.out.kept fun x hx hc => ?_, ?_⟩
  · have hne : x ≠ w.heap.size + 3 := by
      rcases hc with h1 | h1 | h1
      · omega
      · unfold Mps at h1; omega
      · intro e
        subst e
        exact absurd (HYW.out _ h1) (by omega)
    rw [Below.heap_setCell _ _ _ _ (by simpa using hne), Below.heap_setCell _ _ _ _ (by simpa using hne)]
  · exact (((ExQ.ofBelow W4.out).trans X9.out).setNew (by omega) _ _).setNew (by omega) _ _
end Go.Proofs.YtglcijkhlppjfaaDoor
