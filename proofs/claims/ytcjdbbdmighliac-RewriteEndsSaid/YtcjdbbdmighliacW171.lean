/- Walks: the rules that fit a term, handed over one by one. -/
import Derived.Test.YtcjdbbdmighliacZCRewriteEndsOwn
import Derived.Test.YtcjdbbdmighliacW96a
import Derived.Test.YtcjdbbdmighliacFr1
import Derived.Test.YtcjdbbdmighliacZRewriteEndsOwn
namespace Go.Proofs.Ytcjdbbdmighliac
open Go.RowKit Go.Shelf
attribute [local go_sem] Oper.semAt_some
set_option linter.unusedSimpArgs false
set_option linter.unusedVariables false
set_option maxRecDepth 8000

/-- A rule, and what stands for its variables. -/
abbrev Ft := Pr × List Bd
def fitsL (rs : List Pr) (x : Tm) : List Ft := rs.filterMap fun p => (mtT p.l x []).map fun h => (p, h)
theorem fitsL_no {rs : List Pr} {x : Tm} {k : Nat} (h : k < rs.length) (h0 : mtT rs[k].l x [] = none) : fitsL (rs.take (k + 1)) x = fitsL (rs.take k) x := by
  unfold fitsL
  rw [List.take_succ_eq_append_getElem h, List.filterMap_append]
  simp [h0]
theorem fitsL_yes {rs : List Pr} {x : Tm} {k : Nat} {g : List Bd} (h : k < rs.length) (h0 : mtT rs[k].l x [] = some g) : fitsL (rs.take (k + 1)) x = fitsL (rs.take k) x ++ [(rs[k], g)] := by
  unfold fitsL
  rw [List.take_succ_eq_append_getElem h, List.filterMap_append]
  simp [h0]
theorem fitsL_split (rs : List Pr) (x : Tm) (k : Nat) : fitsL rs x = fitsL (rs.take k) x ++ fitsL (rs.drop k) x := by
  unfold fitsL
  rw [← List.filterMap_append, List.take_append_drop]

/-- How a fit is handed over. -/
def LpF (x : Ft) (args : Array Value) (W : World) (Z : Nat → Prop) : Prop :=
  ∃ ra rc q L, args = #[.agg #[.string x.1.r.name, .slice ra x.1.r.args.length rc, .map (some q)]] ∧ Sl W Z ra x.1.r.args ∧ Z q ∧ EnvR W q Z x.2 L

theorem pairsL_of {w : World} {Y : Nat → Prop} : ∀ {Z' : List Bc}, (∀ x ∈ Z', Sl w Y x.2.1 x.1.t.args) → PairsL w Y (Z'.map (·.1)) (Z'.map toP)
  | [], _ => rfl
  | x :: r, h => ⟨x.2.1, x.2.2, _, rfl, h x (by simp), pairsL_of fun y hy => h y (by simp [hy])⟩

def FtInv {J : Tk Ft} (w : World) (f : Nat → Prop) (pre : List Ft) (rs : List Pr) (x : Tm) (i : Value) (wr : World) : Prop :=
  ∃ (k : Nat) (f' : Nat → Prop), k ≤ rs.length ∧ i = .int .i64 (k : Int) ∧ J (pre ++ fitsL (rs.take k) x) true f' wr ∧ ExQ f w wr ∧ ∀ b, f' b → f b ∨ w.heap.size ≤ b

set_option maxHeartbeats 2000000 in
theorem fits1S_any {J : Tk Ft} {K : Nat → Prop} {all : List Ft} (hJ : TkOk J K) (lp : Nat) {S : World → Prop} (RH : RndS lp LpF J all S) (rs : List Pr) (x : Tm) (R T : Nat) (uv : Value) (aa : Option Addr) (ca : Nat) (pre : List Ft) (f : Nat → Prop) (w : World) (X : Nat → Prop) (hR : Blk w R #[uv] 43) (hu : QV w X uv rs) (hT : Blk w T #[.string x.name, .slice aa x.args.length ca] 25) (hs : Sl w X aa x.args) (hX : ∀ b, X b → b < w.heap.size ∧ ¬ f b) (hRf : ¬ f R) (hTf : ¬ f T) (hj : J pre true f w) (hOk : (pre ++ fitsL rs x) <+: all) :
    Calls Try.prog 123 #[.func (.yield lp) #[] #[], .pointer (some ⟨R, 0, none⟩), .pointer (some ⟨T, 0, none⟩)] w fun e w' => WentS J (fitsL rs x) pre f S w e w' := by
  have HOK := hide hOk
  clear hOk
  have HU := hide hu
  have HS := hide hs
  have HX := hide hX
  have HJ := hide hJ
  have HRH := hide RH
  have HT := hide hT
  have HJ0 := hide hj
  have r0 := hR.cell 0
  have hRl := hR.lt
  have hTl := hT.lt
  obtain ⟨ua, uc, rfl, hul, _⟩ := hu
  clear hs hX hJ RH hT hj hR
  simp only [List.getElem?_toArray, List.getElem?_cons_zero] at r0
  go_enter Try.func123, Try.ntmps123
  go_wp2_with fail
  go_loopw [10] (fun v wr => FtInv (J := J) w f pre rs x v wr) (fun v wr => rs.length - (intOf v).toNat)
  case atStart => exact ⟨0, f, Nat.zero_le _, rfl, by simpa [fitsL] using HJ0.out, ExQ.refl _ _, fun b hb => Or.inl hb⟩
  case round =>
    obtain ⟨k, f2, hk, rfl, hj2, he2, hff2⟩ := hrel
    have HJ2 := hide hj2
    have HE2 := hide he2
    have HFF2 := hide hff2
    have HX2 : Hid (∀ b, X b → b < wr.heap.size ∧ ¬ f2 b) := fun b hb => ⟨Nat.lt_of_lt_of_le (HX.out b hb).1 he2.size, fun h => by
      rcases HFF2.out b h with h | h
      · exact (HX.out b hb).2 h
      · have := (HX.out b hb).1; omega⟩
    have HTr := hide (HT.out.exq he2 hTf)
    have HSr := hide (HS.out.exq he2 fun b hb => (HX.out b hb).2)
    have HUr : Hid (QV wr X (.slice ua rs.length uc) rs) := ((HU.out.mono (Y := fun b => X b ∧ b < w.heap.size) fun b h1 h2 => ⟨h1, h2⟩).kept fun b hb => HE2.out.block b hb.2 (HX.out b hb.1).2).mono fun b hb _ => hb.1
    clear hj2 he2 hff2
    by_cases hlt : k < rs.length
    · obtain ⟨b, o, a1, c1, a2, c2, rfl, d0, d1, d2, d3, hs1, hs2⟩ := HUr.out.get k hlt
      have hlt2 : (k : Int) < (rs.length : Int) := by omega
      have HX1 := hide hs1
      have HX3 := hide hs2
      have HNO := fun h => hide (fitsL_no (x := x) hlt h)
      have HYES := fun g h => hide (fitsL_yes (x := x) (g := g) hlt h)
      have HSPL := hide (fitsL_split rs x (k + 1))
      have hTr := HTr.out.lt
      clear hs1 hs2
      generalize rs[k] = d at *
      have t0 : ∀ o, (wr.alloc o).cell? ⟨T, 0, none⟩ = some (.string x.name) := fun o => (HTr.out.alloc o).cell 0
      have t1 : ∀ o, (wr.alloc o).cell? ⟨T, 1, none⟩ = some (.slice aa x.args.length ca) := fun o => (HTr.out.alloc o).cell 1
      have hbA : Below wr.heap.size wr (wr.alloc (.cells #[.string d.l.name, .slice a1 d.l.args.length c1, .string d.r.name, .slice a2 d.r.args.length c2] 77)) := (Below.refl _ _).alloc (Nat.le_refl _) _
      have HBA := hide hbA
      have P0 := hide (Blk.new wr #[.string d.l.name, .slice a1 d.l.args.length c1, .string d.r.name, .slice a2 d.r.args.length c2] 77)
      refine (wpIn_wide (n := 1)).1 ?_
      gi_wp2
      clear t0 t1 d0 d1 d2 d3
      refine ⟨trivial, (callsIn_wide.2 (fitN_any d.l x _ _ _ X ⟨a1, c1, rfl, HX1.out.later hbA⟩ ⟨aa, ca, rfl, HSr.out.later hbA⟩)).mono ?_⟩
      clear hbA
      rintro e w3 ⟨hb3, ⟨h0, rfl⟩ | ⟨h', q, Z', h0, rfl, hz', hm', hq⟩⟩
      · have HJ3 : Hid (J (pre ++ fitsL (rs.take k) x) true f2 w3) := HJ.out.abide HJ2.out (Nat.le_trans HBA.out.size hb3.size) fun j hj => ((hb3.block j (by have := HJ.out.inside HJ2.out j hj; simp; omega))).trans (HBA.out.block j (HJ.out.inside HJ2.out j hj))
        have HE3 : Hid (ExQ f w w3) := (HE2.out.trans (ExQ.ofBelow HBA.out)).trans (ExQ.ofBelow hb3)
        have HN := HNO h0
        clear hb3 h0
        gi_wp2
        refine ⟨fun _ h => (by cases h), ?_⟩
        gi_wp2
        go_roundw
        case rel => exact ⟨k + 1, f2, by omega, by go_num, by rw [HN.out]; exact HJ3.out, HE3.out, HFF2.out⟩
        case measure => simp [intOf]; omega
      · have hz3 := Nat.le_trans HBA.out.size hb3.size
        have HJ3 : Hid (J (pre ++ fitsL (rs.take k) x) true f2 w3) := HJ.out.abide HJ2.out (Nat.le_trans HBA.out.size hb3.size) fun j hj => ((hb3.block j (by have := HJ.out.inside HJ2.out j hj; simp; omega))).trans (HBA.out.block j (HJ.out.inside HJ2.out j hj))
        have HE3 : Hid (ExQ f w w3) := (HE2.out.trans (ExQ.ofBelow HBA.out)).trans (ExQ.ofBelow hb3)
        have HY := HYES h' h0
        have P3 := hide (P0.out.below hb3 P0.out.lt)
        have p2 : w3.cell? ⟨wr.heap.size, 2, none⟩ = some (.string d.r.name) := P3.out.cell 2
        have p3 : w3.cell? ⟨wr.heap.size, 3, none⟩ = some (.slice a2 d.r.args.length c2) := P3.out.cell 3
        have hqn : wr.heap.size ≤ q := by simp at hq; omega
        have hsr : Sl w3 X a2 d.r.args := (HX3.out.later HBA.out).later hb3
        have RHW := HRH.out 0 _ (d, h') #[.agg #[.string d.r.name, .slice a2 d.r.args.length c2, .map (some q)]] (fun b => (X b ∨ b = q) ∧ b < w3.heap.size) f2 w3 (List.IsPrefix.trans ⟨fitsL (rs.drop (k + 1)) x, by rw [HSPL.out, HY.out]; simp⟩ HOK.out) HJ3.out ⟨a2, c2, q, Z'.map toP, rfl, hsr.mono fun b hb hl => ⟨Or.inl hb, hl⟩, ⟨Or.inr rfl, hm'.1.lt⟩, hm'.1, by rw [← hz']; exact pairsL_of fun y hy => (hm'.2 y hy).mono fun b hb hl => ⟨Or.inl hb.1, hl⟩⟩ (fun b hb => ⟨hb.2, fun h => by
          rcases hb.1 with h1 | h1
          · exact (HX2.out b h1).2 h
          · have := HJ.out.inside HJ2.out b (Or.inl h); omega⟩)
        obtain ⟨hfn, htmps, hasg, hbody, hy, hR⟩ := RHW
        have HR := hide hR
        clear hR hm' hz' h0 hb3 hsr
        gi_wp2
        refine HR.out.mono ?_
        rintro e W5 ⟨s5, rfl, f5, hj5, he5, hff5, hS5⟩
        have HS5 := hide hS5
        clear hS5
        have HJ5 := hide hj5
        have HE5 := hide he5
        have HFF5 := hide hff5
        have hz5 := he5.size
        have HE9 : Hid (ExQ f w W5) := HE3.out.transN he5 fun i hi hl => by
          rcases HFF2.out i hi with h | h
          · exact h
          · omega
        have HFF9 : Hid (∀ b, f5 b → f b ∨ w.heap.size ≤ b) := fun b hb => by
          have := HE3.out.size
          rcases HFF5.out b hb with h | h
          · exact HFF2.out b h
          · right; omega
        clear hj5 he5 hff5 hy
        cases s5 with
        | true =>
          gi_wp2
          go_roundw
          case rel => exact ⟨k + 1, f5, by omega, by go_num, by rw [HY.out]; simpa using HJ5.out, HE9.out, HFF9.out⟩
          case measure => simp [intOf]; omega
        | false =>
          gi_wp2
          refine bodyPost_ret (results_none rfl _ _ _) rfl ?_
          refine ⟨⟨_, rfl⟩, false, ⟨(fitsL (rs.take (k + 1)) x).length, f5, by rw [HSPL.out]; simp, by simp, ?_, HE9.out.mono fun b hb _ => Or.inl hb, HFF9.out⟩, fun _ => HS5.out rfl⟩
          rw [HSPL.out, List.take_left, HY.out]
          simpa using HJ5.out
    · have htk : rs.take k = rs := List.take_of_length_le (by omega)
      rw [htk] at HJ2
      have hge : ¬ ((k : Int) < (rs.length : Int)) := by omega
      go_wp2_with fail
      go_end0
      exact ⟨⟨_, rfl⟩, true, ⟨(fitsL rs x).length, f2, Nat.le_refl _, fun _ => rfl, by rw [List.take_length]; exact HJ2.out, HE2.out.mono fun b hb _ => Or.inl hb, HFF2.out⟩, fun h => by cases h⟩
set_option maxHeartbeats 2000000 in
theorem fits1I_any {J : Tk Ft} {K : Nat → Prop} {all : List Ft} (hJ : TkOk J K) (lp : Nat) (RH : Rnd lp LpF J all) (rs : List Pr) (x : Tm) (R T : Nat) (uv : Value) (aa : Option Addr) (ca : Nat) (pre : List Ft) (f : Nat → Prop) (w : World) (X : Nat → Prop) (hR : Blk w R #[uv] 43) (hu : QV w X uv rs) (hT : Blk w T #[.string x.name, .slice aa x.args.length ca] 25) (hs : Sl w X aa x.args) (hX : ∀ b, X b → b < w.heap.size ∧ ¬ f b) (hRf : ¬ f R) (hTf : ¬ f T) (hj : J pre true f w) (hOk : (pre ++ fitsL rs x) <+: all) :
    Calls Try.prog 123 #[.func (.yield lp) #[] #[], .pointer (some ⟨R, 0, none⟩), .pointer (some ⟨T, 0, none⟩)] w fun e w' => (∃ v, e = .returned v) ∧ ∃ b, Went J (fitsL rs x) pre f (fun _ => False) w b w' := by
  refine (fits1S_any hJ lp RH.toS rs x R T uv aa ca pre f w X hR hu hT hs hX hRf hTf hj hOk).mono ?_
  rintro e w' ⟨h1, b, h2, _⟩
  exact ⟨h1, b, h2⟩
#print axioms fits1I_any
end Go.Proofs.Ytcjdbbdmighliac
