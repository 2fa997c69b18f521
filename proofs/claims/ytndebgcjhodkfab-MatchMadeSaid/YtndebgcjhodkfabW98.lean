/- Walks: Match, Variant, Encompasses, whole. -/
import Derived.Test.YtndebgcjhodkfabW97
namespace Go.Proofs.Ytndebgcjhodkfab
open Go.RowKit
set_option linter.unusedSimpArgs false
set_option linter.unusedVariables false
set_option maxRecDepth 8000

theorem mtT_size_one {p t : Tm} {h h' : List Bd} {n : Nat} (ih : ∀ ts g g', mtL p.args ts g = some g' → sizeL ts ≤ n → (∀ d ∈ g, sizeL [d.t] ≤ n) → ∀ d ∈ g', sizeL [d.t] ≤ n) (he : mtT p t h = some h') (ht : sizeL [t] ≤ n) (ha : ∀ d ∈ h, sizeL [d.t] ≤ n) : ∀ d ∈ h', sizeL [d.t] ≤ n := by
  unfold mtT at he
  split at he
  · split at he
    · split at he
      · cases he; exact ha
      · cases he
    · cases he
      intro d hd
      rcases List.mem_append.1 hd with hd | hd
      · exact ha d hd
      · have e : d = ⟨p.name, t⟩ := by simpa using hd
        rw [e]; exact ht
  · split at he
    · refine ih _ _ _ he ?_ ha
      obtain ⟨s2, m⟩ := t
      simp [sizeL] at ht ⊢
      omega
    · cases he
theorem mtL_size {n : Nat} : ∀ (l ts : List Tm) (h h' : List Bd), mtL l ts h = some h' → sizeL ts ≤ n → (∀ d ∈ h, sizeL [d.t] ≤ n) → ∀ d ∈ h', sizeL [d.t] ≤ n := by
  intro l
  induction l using Tm.indL with
  | h0 => intro ts h h' he _ ha; simp [mtL] at he; subst he; exact ha
  | h s l r ihl ihr =>
    intro ts h h' he ht ha
    cases ts with
    | nil => simp [mtL] at he
    | cons t ts =>
      rw [mtL_cons] at he
      have e1 : sizeL (t :: ts) = sizeL [t] + sizeL ts := by obtain ⟨s2, m⟩ := t; simp [sizeL]
      rw [e1] at ht
      cases hm : mtT ⟨s, l⟩ t h with
      | none => rw [hm] at he; cases he
      | some g =>
        rw [hm] at he
        exact ihr ts g h' he (by omega) (mtT_size_one (p := ⟨s, l⟩) (fun ts g g' h3 h4 h5 => ihl ts g g' h3 h4 h5) hm (by omega) ha)
theorem mtT_size {p t : Tm} {h' : List Bd} (he : mtT p t [] = some h') : ∀ d ∈ h', sizeL [d.t] ≤ sizeL [t] :=
  mtT_size_one (fun ts g g' h3 h4 h5 => mtL_size p.args ts g g' h3 h4 h5) he (Nat.le_refl _) (by simp)
theorem twoE_parts {p t : Tm} (h : twoE p t = 0) : mayE p = 0 ∧ mayE t = 0 := by
  unfold twoE at h
  split at h
  · exact ⟨‹_›, h⟩
  · exact absurd h ‹_›
theorem mayE_size {t : Tm} (h : mayE t = 0) : sizeL [t] ≤ 200 := by
  unfold mayE at h
  split at h
  · cases h
  · omega

def MaPost (w : World) (p t : Tm) (e : Ending) (w' : World) : Prop :=
  Below w.heap.size w w' ∧ ((twoE p t ≠ 0 ∧ e = .returned (.tuple #[.slice none 0 0, .bool false, .int .i64 (twoE p t)])) ∨ (twoE p t = 0 ∧ mtT p t [] = none ∧ e = .returned (.tuple #[.slice none 0 0, .bool false, .int .i64 0])) ∨
    (twoE p t = 0 ∧ ∃ h' v l', mtT p t [] = some h' ∧ e = .returned (.tuple #[v, .bool true, .int .i64 0]) ∧ BV w' (fun b => w.heap.size ≤ b) v l' ∧ l'.Perm h' ∧ SortedB l'))

set_option maxHeartbeats 400000 in
theorem match_any (p t : Tm) (pv tv : Value) (w : World) (X : Nat → Prop) (hp : TV w X pv p) (ht : TV w X tv t) :
    Calls Try.prog 18 #[pv, tv] w fun e w' => MaPost w p t e w' := by
  obtain ⟨a, c, rfl, hs⟩ := hp
  obtain ⟨a2, c2, rfl, hs2⟩ := ht
  have HS := hide hs
  have HS2 := hide hs2
  clear hs hs2
  have HB2 : Hid (Below w.heap.size w ((w.alloc (.cells #[.string p.name, .slice a p.args.length c] 29)).alloc (.cells #[.string t.name, .slice a2 t.args.length c2] 29))) := below2 _ _
  have PA := hide ((Blk.new w #[.string p.name, .slice a p.args.length c] 29).alloc (.cells #[.string t.name, .slice a2 t.args.length c2] 29))
  have PB : Hid (Blk ((w.alloc (.cells #[.string p.name, .slice a p.args.length c] 29)).alloc (.cells #[.string t.name, .slice a2 t.args.length c2] 29)) (w.heap.size + 1) #[.string t.name, .slice a2 t.args.length c2] 29) := by
    have h := Blk.new (w.alloc (.cells #[.string p.name, .slice a p.args.length c] 29)) #[.string t.name, .slice a2 t.args.length c2] 29
    unfold Hid
    simpa using h
  go_enter Try.func18, Try.ntmps18
  go_wp2_with fail
  generalize (w.alloc (.cells #[.string p.name, .slice a p.args.length c] 29)).alloc (.cells #[.string t.name, .slice a2 t.args.length c2] 29) = w2 at *
  refine (mcheck_any p t _ _ w2 X ⟨_, _, rfl, HS.out.later HB2.out⟩ ⟨_, _, rfl, HS2.out.later HB2.out⟩).mono ?_
  rintro e w3 ⟨rfl, hb3⟩
  have HB3 := hide (HB2.out.trans (hb3.mono HB2.out.size))
  have PA3 := hide (PA.out.below hb3 PA.out.lt)
  have PB3 := hide (PB.out.below hb3 PB.out.lt)
  clear hb3
  by_cases h : twoE p t = 0
  case neg =>
    have HE := hide h
    have h2 : (twoE p t == 0) = false := by simpa using h
    clear h
    go_wp2_with fail
    refine bodyPost_ret (v := .tuple #[.slice none 0 0, .bool false, .int .i64 (twoE p t)]) (by simp [results, Try.results18, go_sem]) rfl ?_
    exact ⟨HB3.out, Or.inl ⟨HE.out, rfl⟩⟩
  have HE := hide h
  rw [h]
  clear h
  have a0 : w3.cell? ⟨w.heap.size, 0, none⟩ = some (.string p.name) := PA3.out.cell 0
  have a1 : w3.cell? ⟨w.heap.size, 1, none⟩ = some (.slice a p.args.length c) := PA3.out.cell 1
  have b0 : w3.cell? ⟨w.heap.size + 1, 0, none⟩ = some (.string t.name) := PB3.out.cell 0
  have b1 : w3.cell? ⟨w.heap.size + 1, 1, none⟩ = some (.slice a2 t.args.length c2) := PB3.out.cell 1
  go_wp2_with fail
  refine (fit_any p t _ _ w3 X ⟨_, _, rfl, HS.out.later HB3.out⟩ ⟨_, _, rfl, HS2.out.later HB3.out⟩).mono ?_
  rintro e w4 ⟨hb4, hc4⟩
  have HB4 := hide (HB3.out.trans (hb4.mono HB3.out.size))
  clear hb4 a0 a1 b0 b1
  rcases hc4 with ⟨h0, rfl⟩ | ⟨h', q, Z', h0, rfl, hz', hm'⟩
  · have H0 := hide h0
    clear h0
    go_wp2_with fail
    refine bodyPost_ret (v := .tuple #[.slice none 0 0, .bool false, .int .i64 0]) (by simp [results, Try.results18, go_sem]) rfl ?_
    exact ⟨HB4.out, Or.inr (Or.inl ⟨HE.out, H0.out, rfl⟩)⟩
  · have H0 := hide h0
    have HZ := hide hz'
    have HM := hide hm'
    obtain ⟨hmp, hmt⟩ := twoE_parts HE.out
    have hsz : ∀ x ∈ Z', sizeL [x.1.t] ≤ 1000000 := fun x hx => by
      have h1 := mtT_size h0 x.1 (by rw [← hz']; exact List.mem_map.2 ⟨x, hx, rfl⟩)
      have := mayE_size hmt
      omega
    have hap := mtT_apart h0 List.Pairwise.nil
    have hlen : Z'.length ≤ 1000000 := by
      have h1 := hap.2
      rw [← hz'] at h1
      have := mayE_size hmp
      simp at h1
      omega
    have hapz : ApartB (Z'.map (·.1)) := by rw [hz']; exact hap.1
    have HIO := hide (inOrder_of (hide sortBinds) Z' q w4 _ hm'.1 hm'.2 hsz hlen hapz)
    clear h0 hz' hm' hmp hmt hsz hap hlen hapz
    go_wp2_with fail
    refine HIO.out.mono ?_
    rintro e w5 ⟨v5, l5, rfl, hbv, hp5, hs5, hb5⟩
    have HBV := hide hbv
    have HP5 := hide hp5
    have HS5 := hide hs5
    have HB5 := hide (HB4.out.trans (hb5.mono HB4.out.size))
    have hz4 := HB4.out.size
    clear hbv hp5 hs5 hb5
    go_wp2_with fail
    refine bodyPost_ret (v := .tuple #[v5, .bool true, .int .i64 0]) (by simp [results, Try.results18, go_sem]) rfl ?_
    exact ⟨HB5.out, Or.inr (Or.inr ⟨HE.out, h', v5, l5, H0.out, rfl, HBV.out.mono fun b hb _ => by omega, by rw [← HZ.out]; exact HP5.out, HS5.out⟩)⟩

set_option maxHeartbeats 400000 in
theorem variant_any (p t : Tm) (pv tv : Value) (w : World) (X : Nat → Prop) (hp : TV w X pv p) (ht : TV w X tv t) :
    Calls Try.prog 19 #[pv, tv] w fun e w' => e = .returned (.tuple #[.bool (decide (twoE p t = 0) && (mtB p t && mtB t p)), .int .i64 (twoE p t)]) ∧ Below w.heap.size w w' := by
  obtain ⟨a, c, rfl, hs⟩ := hp
  obtain ⟨a2, c2, rfl, hs2⟩ := ht
  have HS := hide hs
  have HS2 := hide hs2
  clear hs hs2
  generalize hR : (.tuple #[.bool (decide (twoE p t = 0) && (mtB p t && mtB t p)), .int .i64 (twoE p t)] : Value) = R
  have HR := hide hR
  clear hR
  have HB2 : Hid (Below w.heap.size w ((w.alloc (.cells #[.string p.name, .slice a p.args.length c] 29)).alloc (.cells #[.string t.name, .slice a2 t.args.length c2] 29))) := below2 _ _
  have PA := hide ((Blk.new w #[.string p.name, .slice a p.args.length c] 29).alloc (.cells #[.string t.name, .slice a2 t.args.length c2] 29))
  have PB : Hid (Blk ((w.alloc (.cells #[.string p.name, .slice a p.args.length c] 29)).alloc (.cells #[.string t.name, .slice a2 t.args.length c2] 29)) (w.heap.size + 1) #[.string t.name, .slice a2 t.args.length c2] 29) := by
    have h := Blk.new (w.alloc (.cells #[.string p.name, .slice a p.args.length c] 29)) #[.string t.name, .slice a2 t.args.length c2] 29
    unfold Hid
    simpa using h
  go_enter Try.func19, Try.ntmps19
  go_wp2_with fail
  generalize (w.alloc (.cells #[.string p.name, .slice a p.args.length c] 29)).alloc (.cells #[.string t.name, .slice a2 t.args.length c2] 29) = w2 at *
  refine (mcheck_any p t _ _ w2 X ⟨_, _, rfl, HS.out.later HB2.out⟩ ⟨_, _, rfl, HS2.out.later HB2.out⟩).mono ?_
  rintro e w3 ⟨rfl, hb3⟩
  have HB3 := hide (HB2.out.trans (hb3.mono HB2.out.size))
  have PA3 := hide (PA.out.below hb3 PA.out.lt)
  have PB3 := hide (PB.out.below hb3 PB.out.lt)
  clear hb3
  by_cases h : twoE p t = 0
  case neg =>
    have hR1 : Hid (.tuple #[.bool false, .int .i64 (twoE p t)] = R) := by unfold Hid; rw [← HR.out]; simp [h]
    have h2 : (twoE p t == 0) = false := by simpa using h
    clear h
    go_wp2_with fail
    refine bodyPost_ret (v := .tuple #[.bool false, .int .i64 (twoE p t)]) (by simp [results, Try.results19, go_sem]) rfl ?_
    exact ⟨by rw [← hR1.out], HB3.out⟩
  have hR1 : Hid (.tuple #[.bool (mtB p t && mtB t p), .int .i64 0] = R) := by unfold Hid; rw [← HR.out, h]; simp
  rw [h]
  clear h
  have a0 : w3.cell? ⟨w.heap.size, 0, none⟩ = some (.string p.name) := PA3.out.cell 0
  have a1 : w3.cell? ⟨w.heap.size, 1, none⟩ = some (.slice a p.args.length c) := PA3.out.cell 1
  have b0 : w3.cell? ⟨w.heap.size + 1, 0, none⟩ = some (.string t.name) := PB3.out.cell 0
  have b1 : w3.cell? ⟨w.heap.size + 1, 1, none⟩ = some (.slice a2 t.args.length c2) := PB3.out.cell 1
  go_wp2_with fail
  refine (isCase_any t p _ _ w3 X ⟨_, _, rfl, HS2.out.later HB3.out⟩ ⟨_, _, rfl, HS.out.later HB3.out⟩).mono ?_
  rintro e w4 ⟨rfl, hb4⟩
  have HB4 := hide (HB3.out.trans (hb4.mono HB3.out.size))
  have PA4 := hide (PA3.out.below hb4 PA3.out.lt)
  have PB4 := hide (PB3.out.below hb4 PB3.out.lt)
  clear hb4 a0 a1 b0 b1
  have a0 : w4.cell? ⟨w.heap.size, 0, none⟩ = some (.string p.name) := PA4.out.cell 0
  have a1 : w4.cell? ⟨w.heap.size, 1, none⟩ = some (.slice a p.args.length c) := PA4.out.cell 1
  have b0 : w4.cell? ⟨w.heap.size + 1, 0, none⟩ = some (.string t.name) := PB4.out.cell 0
  have b1 : w4.cell? ⟨w.heap.size + 1, 1, none⟩ = some (.slice a2 t.args.length c2) := PB4.out.cell 1
  cases hx : mtB p t with
  | false =>
    rw [hx] at hR1
    go_wp2_with fail
    refine bodyPost_ret (v := .tuple #[.bool false, .int .i64 0]) (by simp [results, Try.results19, go_sem]) rfl ?_
    exact ⟨by rw [← hR1.out]; rfl, HB4.out⟩
  | true =>
    rw [hx] at hR1
    go_wp2_with fail
    refine (isCase_any p t _ _ w4 X ⟨_, _, rfl, HS.out.later HB4.out⟩ ⟨_, _, rfl, HS2.out.later HB4.out⟩).mono ?_
    rintro e w5 ⟨rfl, hb5⟩
    have HB5 := hide (HB4.out.trans (hb5.mono HB4.out.size))
    clear hb5
    go_wp2_with fail
    refine bodyPost_ret (v := .tuple #[.bool (mtB t p), .int .i64 0]) (by simp [results, Try.results19, go_sem]) rfl ?_
    exact ⟨by rw [← hR1.out]; rfl, HB5.out⟩

set_option maxHeartbeats 400000 in
theorem encompasses_any (t p : Tm) (tv pv : Value) (w : World) (X : Nat → Prop) (ht : TV w X tv t) (hp : TV w X pv p) :
    Calls Try.prog 20 #[tv, pv] w fun e w' => e = .returned (.tuple #[.bool (decide (twoE t p = 0) && hcB t p), .int .i64 (twoE t p)]) ∧ Below w.heap.size w w' := by
  obtain ⟨a, c, rfl, hs⟩ := ht
  obtain ⟨a2, c2, rfl, hs2⟩ := hp
  have HS := hide hs
  have HS2 := hide hs2
  clear hs hs2
  generalize hR : (.tuple #[.bool (decide (twoE t p = 0) && hcB t p), .int .i64 (twoE t p)] : Value) = R
  have HR := hide hR
  clear hR
  have HB2 : Hid (Below w.heap.size w ((w.alloc (.cells #[.string t.name, .slice a t.args.length c] 29)).alloc (.cells #[.string p.name, .slice a2 p.args.length c2] 29))) := below2 _ _
  have PA := hide ((Blk.new w #[.string t.name, .slice a t.args.length c] 29).alloc (.cells #[.string p.name, .slice a2 p.args.length c2] 29))
  have PB : Hid (Blk ((w.alloc (.cells #[.string t.name, .slice a t.args.length c] 29)).alloc (.cells #[.string p.name, .slice a2 p.args.length c2] 29)) (w.heap.size + 1) #[.string p.name, .slice a2 p.args.length c2] 29) := by
    have h := Blk.new (w.alloc (.cells #[.string t.name, .slice a t.args.length c] 29)) #[.string p.name, .slice a2 p.args.length c2] 29
    unfold Hid
    simpa using h
  go_enter Try.func20, Try.ntmps20
  go_wp2_with fail
  generalize (w.alloc (.cells #[.string t.name, .slice a t.args.length c] 29)).alloc (.cells #[.string p.name, .slice a2 p.args.length c2] 29) = w2 at *
  refine (mcheck_any t p _ _ w2 X ⟨_, _, rfl, HS.out.later HB2.out⟩ ⟨_, _, rfl, HS2.out.later HB2.out⟩).mono ?_
  rintro e w3 ⟨rfl, hb3⟩
  have HB3 := hide (HB2.out.trans (hb3.mono HB2.out.size))
  have PA3 := hide (PA.out.below hb3 PA.out.lt)
  have PB3 := hide (PB.out.below hb3 PB.out.lt)
  clear hb3
  by_cases h : twoE t p = 0
  case neg =>
    have hR1 : Hid (.tuple #[.bool false, .int .i64 (twoE t p)] = R) := by unfold Hid; rw [← HR.out]; simp [h]
    have h2 : (twoE t p == 0) = false := by simpa using h
    clear h
    go_wp2_with fail
    refine bodyPost_ret (v := .tuple #[.bool false, .int .i64 (twoE t p)]) (by simp [results, Try.results20, go_sem]) rfl ?_
    exact ⟨by rw [← hR1.out], HB3.out⟩
  have hR1 : Hid (.tuple #[.bool (hcB t p), .int .i64 0] = R) := by unfold Hid; rw [← HR.out, h]; simp
  rw [h]
  clear h
  have a0 : w3.cell? ⟨w.heap.size, 0, none⟩ = some (.string t.name) := PA3.out.cell 0
  have a1 : w3.cell? ⟨w.heap.size, 1, none⟩ = some (.slice a t.args.length c) := PA3.out.cell 1
  have b0 : w3.cell? ⟨w.heap.size + 1, 0, none⟩ = some (.string p.name) := PB3.out.cell 0
  have b1 : w3.cell? ⟨w.heap.size + 1, 1, none⟩ = some (.slice a2 p.args.length c2) := PB3.out.cell 1
  go_wp2_with fail
  refine (hasCase_any p t _ _ w3 X ⟨_, _, rfl, HS.out.later HB3.out⟩ ⟨_, _, rfl, HS2.out.later HB3.out⟩).mono ?_
  rintro e w4 ⟨rfl, hb4⟩
  have HB4 := hide (HB3.out.trans (hb4.mono HB3.out.size))
  clear hb4
  go_wp2_with fail
  refine bodyPost_ret (v := .tuple #[.bool (hcB t p), .int .i64 0]) (by simp [results, Try.results20, go_sem]) rfl ?_
  exact ⟨by rw [← hR1.out], HB4.out⟩
#print axioms match_any
#print axioms variant_any
#print axioms encompasses_any
end Go.Proofs.Ytndebgcjhodkfab
