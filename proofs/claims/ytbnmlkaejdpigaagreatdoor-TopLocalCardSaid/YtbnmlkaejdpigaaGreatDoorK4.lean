import Derived.Test.YtbnmlkaejdpigaaGreatDoorK3
namespace Go.Proofs.YtbnmlkaejdpigaaGreatDoor
open Go.RowKit
set_option linter.unusedSimpArgs false
set_option linter.unusedVariables false
set_option maxRecDepth 8000
theorem Free.knot {s : List Bd} (hs : OkS s) {t : Tm} (h : Free s t) : onT s t = ⟨t.name, onL s t.args⟩ := by
 cases hv : varB t.name with
 | false => exact onT_knot hs hv
 | true =>
  rw [h.var hv]
  have e : t.args = [] := by rw [var_leaf h.1 hv]
  rw [e]
  simp [onL]
theorem occ_onL {s : List Bd} {x : ByteArray} : ∀ {l : List Tm}, occL x (onL s l) ↔ ∃ k, ∃ h : k < l.length, occL x [onT s l[k]]
 | [] => by
  simp only [onL]
  exact ⟨fun h => absurd h occL_nil, fun ⟨k, h, _⟩ => absurd h (by simp)⟩
 | t :: r => by
  rw [onL_cons, occL_cons, occ_onL (l := r)]
  constructor
  ·rintro (h | ⟨k, hk, h⟩)
   ·exact ⟨0, by simp, h⟩
   ·exact ⟨k + 1, by simpa using hk, h⟩
  ·rintro ⟨k, hk, h⟩
   cases k with
   | zero => exact Or.inl h
   | succ k => exact Or.inr ⟨k, by simpa using hk, h⟩
theorem err_at : ∀ {l : List Tm}, errL l = 0 → ∀ k (h : k < l.length), errL [l[k]] = 0
 | t :: r, he, 0, _ => (err_two.1 he).1
 | t :: r, he, k + 1, h => err_at (err_two.1 he).2 k (by simpa using h)
def HoP (w : World) (S q : Nat) (X : Nat → Prop) (Z : List Zp) (left : Int) (t : Tm) (x : ByteArray) (e : Ending) (w' : World) : Prop :=
 ∃ (r : Bool) (n : Int), e = .returned (.bool r) ∧ SkS w' S q X Z n ∧ ExQ (SkQ S q) w w' ∧ n < left ∧ -2 ≤ n ∧ (n < 0 → r = true) ∧ (0 ≤ n → ∀ s, Clo Z s → (∀ d ∈ s, d.nm ≠ x) → (r = true ↔ occL x [onT s t]))
def HoI (w : World) (S q : Nat) (X : Nat → Prop) (Z : List Zp) (left : Int) (b1 o1 : Nat) (t1 : Tm) (x : ByteArray) (i : Value) (wr : World) : Prop :=
 ∃ (k : Nat) (n : Int), k ≤ t1.args.length ∧ i = .int .i64 (k : Int) ∧ PX wr X b1 o1 t1 ∧ SkS wr S q X Z n ∧ ExQ (SkQ S q) w wr ∧ n < left ∧ 0 ≤ n ∧ ∀ s, Clo Z s → (∀ d ∈ s, d.nm ≠ x) → ∀ j (h : j < t1.args.length), j < k → ¬ occL x [onT s t1.args[j]]
set_option maxHeartbeats 2000000 in
theorem skHolds_any (S q : Nat) (X : Nat → Prop) (Z : List Zp) (hZ : ∀ z ∈ Z, errL [z.t] = 0) (x : ByteArray) (m : Nat) : ∀ (left : Int) (t : Tm) (b o : Nat) (w : World), left.toNat = m → 0 ≤ left → left ≤ 100000 → SkS w S q X Z left → PX w X b o t → errL [t] = 0 →
  Calls Tryz.prog 115 #[.pointer (some ⟨S, 0, none⟩), .pointer (some ⟨b, o, none⟩), .string x] w fun e w' => HoP w S q X Z left t x e w' := by
 induction m using Nat.strongRecOn with
 | _ m ih =>
  intro left t b o w hm h0 h1 hS hP he
  have IH := hide ih
  have HS := hide hS
  have HP := hide hP
  clear ih hS hP
  go_enter Tryz.func115, Tryz.ntmps115
  go_wp2_with fail
  refine (skLook_any S q X Z hZ left t b o w HS.out (by omega) h1 HP.out he).mono ?_
  rintro e w1 ⟨b1, o1, t1, n, rfl, hS1, hP1, hE1, hn1, hn2, he1, hc1⟩
  have HS1 := hide hS1
  have HP1 := hide hP1
  have HE1 := hide hE1
  have HC1 := hide hc1
  have s1 : w1.cell? ⟨S, 1, none⟩ = some (.int .i64 n) := hS1.1.cell 1
  have f1 : w1.frozen? ⟨S, 1, none⟩ = false := hS1.1.frozen 1
  have hwrap : IntKind.i64.wrap (n - 1) = n - 1 := by rw [IntKind.wrap_i64]; omega
  have hE2 : ExQ (SkQ S q) w1 (w1.setCell ⟨S, 1, none⟩ (.int .i64 (n - 1))) := (ExQ.refl (SkQ S q) w1).set (Or.inl rfl) 1 _
  have HE2 := hide (hE1.trans hE2)
  have HS2 := hide (hS1.spend (n - 1))
  have HP2 := hide (hP1.exq hE2 hS1.X)
  have HSX := hide hS1.X
  obtain ⟨⟨a1, c1, p0, p1, hsl, hbl⟩, hXb⟩ := HP2.out
  have hl1 := hsl.1
  clear hS1 hE1 hc1 hP1 hsl hE2
  by_cases hlt : n - 1 < 0
  ·go_wp2_with fail
   refine bodyPost_ret (v := .bool true) (by simp [results, Tryz.results115, go_sem]) rfl ?_
   exact ⟨true, n - 1, rfl, HS2.out, HE2.out, by omega, by omega, fun _ => rfl, fun h => absurd h (by omega)⟩
  ·have HFR : Hid (∀ s, Clo Z s → onT s t1 = onT s t ∧ onT s t1 = ⟨t1.name, onL s t1.args⟩) := fun s hs => ⟨(HC1.out s hs).1, ((HC1.out s hs).2 (by omega)).knot hs.1⟩
   cases hnm : (t1.name.toList == x.toList) with
   | true =>
    have hx : t1.name = x := bytes_inj (by simpa using hnm)
    go_wp2_with fail
    refine bodyPost_ret (v := .bool true) (by simp [results, Tryz.results115, go_sem]) rfl ?_
    refine ⟨true, n - 1, rfl, HS2.out, HE2.out, by omega, by omega, fun _ => rfl, fun _ s hs _ => ⟨fun _ => ?_, fun _ => rfl⟩⟩
    rw [← (HFR.out s hs).1, (HFR.out s hs).2, ← hx]
    exact occL_node.2 (Or.inl rfl)
   | false =>
    have HX : Hid (t1.name ≠ x) := fun e => by rw [e] at hnm; simp at hnm
    have HOC : Hid (∀ s, Clo Z s → (occL x [onT s t] ↔ ∃ k, ∃ h : k < t1.args.length, occL x [onT s t1.args[k]])) := fun s hs => by
     rw [← (HFR.out s hs).1, (HFR.out s hs).2, occL_node, occ_onL]
     exact ⟨fun h => h.elim (fun e => absurd e HX.out) (fun h => h.elim id fun h => absurd h occL_nil), fun h => Or.inr (Or.inl h)⟩
    have hea : errL t1.args = 0 := err_sub he1
    go_wp2_with fail
    go_loopw [36] (fun i wr => HoI w S q X Z left b1 o1 t1 x i wr) (fun i wr => t1.args.length - (intOf i).toNat)
    case atStart => exact ⟨0, n - 1, Nat.zero_le _, rfl, HP2.out, HS2.out, HE2.out, by omega, by omega, fun _ _ _ j _ h => absurd h (by omega)⟩
    case round =>
     obtain ⟨k, n2, hk, rfl, hP3, hS3, hE3, hn3, hn4, hno⟩ := hrel
     have HP3 := hide hP3
     have HS3 := hide hS3
     have HE3 := hide hE3
     have HNO := hide hno
     obtain ⟨a', c', q1, _, hsub⟩ := hP3.sub
     clear hP3 hS3 hE3 hno p0 p1
     by_cases hlk : k < t1.args.length
     ·obtain ⟨b', o', rfl, hx⟩ := hsub k hlk
      have hk2 : (k : Int) < (t1.args.length : Int) := by omega
      have HIH := hide (IH.out n2.toNat (by omega) n2 t1.args[k] b' (o' + k * 2) wr rfl hn4 (by omega) HS3.out hx (err_at hea k hlk))
      have HX3 := hide hx
      clear hsub hx
      go_wp2_with fail
      refine HIH.out.mono ?_
      rintro e w5 ⟨r5, n5, rfl, hS5, hE5, hn5, hn6, hr5, hc5⟩
      have HS5 := hide hS5
      have HE5 := hide (HE3.out.trans hE5)
      have HP5 := hide (HP3.out.exq hE5 HSX.out)
      have HC5 := hide hc5
      clear hS5 hE5 hc5
      cases r5 with
      | true =>
       go_wp2_with fail
       refine bodyPost_ret (v := .bool true) (by simp [results, Tryz.results115, go_sem]) rfl ?_
       refine ⟨true, n5, rfl, HS5.out, HE5.out, by omega, by omega, fun _ => rfl, fun h5 s hs hu => ⟨fun _ => ?_, fun _ => rfl⟩⟩
       exact (HOC.out s hs).2 ⟨k, hlk, (HC5.out h5 s hs hu).1 (by simp)⟩
      | false =>
       have hn7 : 0 ≤ n5 := by
        by_cases h : n5 < 0
        ·have := hr5 h; cases this
        ·omega
       go_wp2_with fail
       go_roundw
       case rel => exact ⟨k + 1, n5, by omega, by go_num, HP5.out, HS5.out, HE5.out, by omega, hn7, fun s hs hu j h hj => by
        by_cases e : j = k
        ·subst e
         intro hoc
         have := (HC5.out hn7 s hs hu).2 hoc
         cases this
        ·exact HNO.out s hs hu j h (by omega)⟩
       case measure => simp [intOf]; omega
     ·clear hsub
      go_wp2_with fail
      refine bodyPost_ret (v := .bool false) (by simp [results, Tryz.results115, go_sem]) rfl ?_
      refine ⟨false, n2, rfl, HS3.out, HE3.out, by omega, by omega, fun h => absurd h (by omega), fun _ s hs hu => ⟨(fun h => absurd h (by simp)), fun h => ?_⟩⟩
      obtain ⟨j, hj, hoc⟩ := (HOC.out s hs).1 h
      exact absurd hoc (HNO.out s hs hu j hj (by omega))
end Go.Proofs.YtbnmlkaejdpigaaGreatDoor
