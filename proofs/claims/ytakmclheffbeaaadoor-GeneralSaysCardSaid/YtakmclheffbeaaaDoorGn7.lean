/- Walks: general.General. -/
import Derived.Test.YtakmclheffbeaaaDoorZBGeneralSaysOwn
import Derived.Laws.EntriesVeiled
namespace Go.Proofs.YtakmclheffbeaaaDoor
open Go.RowKit
set_option linter.unusedSimpArgs false
set_option linter.unusedVariables false
set_option maxRecDepth 8000

/-- All that are met are small. -/
def SmP (M : Nat) (h : List Pr) : Prop := ∀ p ∈ h, sizeL [p.l] ≤ M ∧ sizeL [p.r] ≤ M
theorem gn_small (M : Nat) (l : List Tm) : ∀ (q : List Tm) (h : List Pr), sizeL l ≤ M → sizeL q ≤ M → SmP M h → SmP M (gnL h l q).2 := by
  induction l using Tm.indL with
  | h0 => intro q h _ _ hh; rw [gnL_nil]; exact hh
  | h s l r ihl ihr =>
    intro q h e1 e2 hh
    have e : sizeL ((⟨s, l⟩ : Tm) :: r) = 1 + sizeL l + sizeL r := by simp [sizeL]
    cases q with
    | nil =>
      have : gnL h (⟨s, l⟩ :: r) [] = ([], h) := by rw [gnL]; simp
      rw [this]
      exact hh
    | cons u q =>
      obtain ⟨su, lu⟩ := u
      have eu : sizeL ((⟨su, lu⟩ : Tm) :: q) = 1 + sizeL lu + sizeL q := by simp [sizeL]
      rw [gnL_cons]
      refine ihr q _ (by omega) (by omega) ?_
      unfold gnT
      split
      · exact ihl lu h (by omega) (by omega) hh
      · unfold vrP addP
        simp only
        split
        · exact hh
        · intro p hp
          rcases List.mem_append.1 hp with h1 | h1
          · exact hh p h1
          · have e3 : p = ⟨⟨s, l⟩, ⟨su, lu⟩⟩ := by simpa using h1
            rw [e3]
            have e4 : sizeL [(⟨s, l⟩ : Tm)] = 1 + sizeL l := by simp [sizeL]
            have e5 : sizeL [(⟨su, lu⟩ : Tm)] = 1 + sizeL lu := by simp [sizeL]
            exact ⟨by simp only [e4]; omega, by simp only [e5]; omega⟩
theorem gnT_facts {a b : Tm} (ha : errL [a] = 0) (hb : errL [b] = 0) (za : sizeL [a] ≤ 200) (zb : sizeL [b] ≤ 200) : (∀ p ∈ (gnT [] a b).2, OkPr p) ∧ (gnT [] a b).2.length ≤ 200 ∧ SmP 200 (gnT [] a b).2 := by
  have h1 := gn_ok [a] [b] [] ha hb (by simp)
  have h2 := gn_small 200 [a] [b] [] za zb (by unfold SmP; simp)
  rw [gnL_cons, gnL_nil] at h1 h2
  exact ⟨h1.1, by have := h1.2; simp only [List.length_nil] at this; omega, h2⟩
/-- What General tells. -/
def GnP (a b : Tm) (w : World) (e : Ending) (w' : World) : Prop :=
  Below w.heap.size w w' ∧ ((twoE a b = 0 ∧ ∃ x c vl vr ls rs, e = .returned (.tuple #[.agg #[.string (gnT [] a b).1.name, .slice x (gnT [] a b).1.args.length c], vl, vr, .int .i64 0]) ∧ Sl w' (fun b => w.heap.size ≤ b) x (gnT [] a b).1.args ∧
    (BV w' (fun b => w.heap.size ≤ b) vl ls ∧ ls.Perm (bdL (·.l) 0 (gnT [] a b).2) ∧ SortedB ls) ∧ BV w' (fun b => w.heap.size ≤ b) vr rs ∧ rs.Perm (bdL (·.r) 0 (gnT [] a b).2) ∧ SortedB rs) ∨
    (twoE a b ≠ 0 ∧ e = .returned (.tuple #[.agg #[.string ⟨#[]⟩, .slice none 0 0], .slice none 0 0, .slice none 0 0, .int .i64 (twoE a b)])))
theorem mz_in (HSORT : Hid SortBinds) (f : Pr → Tm) {w : World} {Y : Nat → Prop} {r : Nat} {h : List Pr} (hM : MapZ w Y r (bdL f 0 h)) (hl : h.length ≤ 200) (hs : ∀ p ∈ h, sizeL [f p] ≤ 200) :
    Calls Tryd.prog 25 #[.map (some r)] w fun e w' => ∃ v ls', e = .returned v ∧ BV w' (fun b => w.heap.size ≤ b) v ls' ∧ ls'.Perm (bdL f 0 h) ∧ SortedB ls' ∧ Below w.heap.size w w' := by
  obtain ⟨Z, h1, h2, h3⟩ := hM
  have hzl : Z.length = h.length := by have := congrArg List.length h2; simpa [bdL_len] using this
  have := inOrder_of HSORT Z r w Y h1 h3 (fun x hx => by
    have hm : x.1 ∈ bdL f 0 h := by rw [← h2]; exact List.mem_map_of_mem hx
    obtain ⟨i, hi, e⟩ := List.mem_iff_getElem.1 hm
    have hi' : i < h.length := by rw [bdL_len] at hi; exact hi
    rw [bdL_get f 0 h i hi'] at e
    rw [← e]
    have := hs h[i] (List.getElem_mem hi')
    simp only
    omega) (by omega) (by rw [h2]; exact bdL_apart f h 0)
  rw [h2] at this
  exact this

set_option maxHeartbeats 8000000 in
theorem general_any (HSORT : Hid SortBinds) (a b : Tm) (va vb : Value) (w : World) (X : Nat → Prop) (ha : TV w X va a) (hb : TV w X vb b) (hT : Tb w.heap.size w) :
    Calls Tryd.prog 9 #[va, vb] w fun e w' => GnP a b w e w' := by
  obtain ⟨aa, ca, rfl, hsa⟩ := ha
  obtain ⟨ab, cb, rfl, hsb⟩ := hb
  obtain ⟨Y, hYd⟩ : ∃ Y : Nat → Prop, Y = fun b => X b ∧ b < w.heap.size := ⟨_, rfl⟩
  have VA : Hid (∀ w', Below w.heap.size w w' → TV w' Y (.agg #[.string a.name, .slice aa a.args.length ca]) a) := fun w' hb => by rw [hYd]; exact ⟨aa, ca, rfl, (hsa.mono (Y := fun b => X b ∧ b < w.heap.size) fun b h1 h2 => ⟨h1, h2⟩).below hb (fun b h _ => h.2)⟩
  have VB : Hid (∀ w', Below w.heap.size w w' → TV w' Y (.agg #[.string b.name, .slice ab b.args.length cb]) b) := fun w' hb => by rw [hYd]; exact ⟨ab, cb, rfl, (hsb.mono (Y := fun b => X b ∧ b < w.heap.size) fun b h1 h2 => ⟨h1, h2⟩).below hb (fun b h _ => h.2)⟩
  have HYW : Hid (∀ x, Y x → x < w.heap.size) := fun x hx => by rw [hYd] at hx; exact hx.2
  have HT := hide hT
  have HSO := hide HSORT.out
  clear hsa hsb hYd hT HSORT
  have HB3 : Hid (Below w.heap.size w (((w.alloc (.cells #[.string a.name, .slice aa a.args.length ca] 24)).alloc (.cells #[.string b.name, .slice ab b.args.length cb] 24)).alloc (.cells #[.string ⟨#[]⟩, .slice none 0 0] 24))) := (((Below.refl _ _).alloc (Nat.le_refl _) _).alloc (by simp) _).alloc (by simp; omega) _
  have KA : Hid (Blk (((w.alloc (.cells #[.string a.name, .slice aa a.args.length ca] 24)).alloc (.cells #[.string b.name, .slice ab b.args.length cb] 24)).alloc (.cells #[.string ⟨#[]⟩, .slice none 0 0] 24)) w.heap.size #[.string a.name, .slice aa a.args.length ca] 24) := ((Blk.new w _ _).alloc _).alloc _
  have KB : Hid (Blk (((w.alloc (.cells #[.string a.name, .slice aa a.args.length ca] 24)).alloc (.cells #[.string b.name, .slice ab b.args.length cb] 24)).alloc (.cells #[.string ⟨#[]⟩, .slice none 0 0] 24)) (w.heap.size + 1) #[.string b.name, .slice ab b.args.length cb] 24) := by
    have h := (Blk.new (w.alloc (.cells #[.string a.name, .slice aa a.args.length ca] 24)) #[.string b.name, .slice ab b.args.length cb] 24).alloc (.cells #[.string ⟨#[]⟩, .slice none 0 0] 24)
    rw [World.size_alloc] at h
    exact h
  have KR : Hid (Blk (((w.alloc (.cells #[.string a.name, .slice aa a.args.length ca] 24)).alloc (.cells #[.string b.name, .slice ab b.args.length cb] 24)).alloc (.cells #[.string ⟨#[]⟩, .slice none 0 0] 24)) (w.heap.size + 2) #[.string ⟨#[]⟩, .slice none 0 0] 24) := by
    have h := Blk.new ((w.alloc (.cells #[.string a.name, .slice aa a.args.length ca] 24)).alloc (.cells #[.string b.name, .slice ab b.args.length cb] 24)) #[.string ⟨#[]⟩, .slice none 0 0] 24
    rw [World.size_alloc, World.size_alloc] at h
    exact h
  have c0 := KA.out.cell 0
  have c1 := KA.out.cell 1
  have CK := hide (check_any a _ (((w.alloc (.cells #[.string a.name, .slice aa a.args.length ca] 24)).alloc (.cells #[.string b.name, .slice ab b.args.length cb] 24)).alloc (.cells #[.string ⟨#[]⟩, .slice none 0 0] 24)) _ (VA.out _ HB3.out))
  have hmm := @run_makeMap Tryd.prog
  go_enter Tryd.func9, Tryd.ntmps9
  go_wp2_with fail
  generalize (((w.alloc (.cells #[.string a.name, .slice aa a.args.length ca] 24)).alloc (.cells #[.string b.name, .slice ab b.args.length cb] 24)).alloc (.cells #[.string ⟨#[]⟩, .slice none 0 0] 24)) = w3 at *
  obtain ⟨R, eR⟩ : ∃ R, R = w.heap.size + 1 + 1 := ⟨_, rfl⟩
  have KR' : Hid (Blk w3 R #[.string ⟨#[]⟩, .slice none 0 0] 24) := by rw [eR]; exact KR.out
  rw [← eR]
  have hRR : w.heap.size + 2 ≤ R := by omega
  clear eR
  refine CK.out.mono ?_
  rintro e w4 ⟨rfl, hbn⟩
  have HB4 := hide (HB3.out.trans (hbn.mono HB3.out.size))
  have KA4 := hide (KA.out.below hbn KA.out.lt)
  have KB4 := hide (KB.out.below hbn KB.out.lt)
  have KR4 := hide (KR'.out.below hbn KR'.out.lt)
  clear hbn c0 c1 KA KB KR KR' CK
  by_cases hea : mayE a = 0
  · rw [hea]
    have CK2 := hide (check_any b _ w4 _ (VB.out _ HB4.out))
    have d0 := KB4.out.cell 0
    have d1 := KB4.out.cell 1
    have HEA := hide hea
    clear hea
    go_wp2_with fail
    refine CK2.out.mono ?_
    rintro e w5 ⟨rfl, hbn⟩
    have HB5 := hide (HB4.out.trans (hbn.mono HB4.out.size))
    have KA5 := hide (KA4.out.below hbn KA4.out.lt)
    have KB5 := hide (KB4.out.below hbn KB4.out.lt)
    have KR5 := hide (KR4.out.below hbn KR4.out.lt)
    clear hbn d0 d1 KA4 KB4 KR4 CK2
    have HTW : Hid (twoE a b = mayE b) := by unfold Hid twoE; rw [if_pos HEA.out]
    by_cases heb : mayE b = 0
    · rw [heb]
      have HEB := hide heb
      clear heb
      go_wp2_with fail
      refine (newNamer_any w5).mono ?_
      rintro e w6 ⟨B, r, rfl, hn6, hr6, hB6, hbn⟩
      have HB6 := hide (HB5.out.trans (hbn.mono HB5.out.size))
      have KA6 := hide (KA5.out.below hbn KA5.out.lt)
      have KB6 := hide (KB5.out.below hbn KB5.out.lt)
      have KR6 := hide (KR5.out.below hbn KR5.out.lt)
      have HRL : Hid (w.heap.size ≤ r ∧ r < w6.heap.size ∧ B < w6.heap.size ∧ R < B ∧ R < r) := ⟨by have := HB5.out.size; omega, hn6.map.lt, hn6.box.lt, by have := KR5.out.lt; omega, by have := KR5.out.lt; omega⟩
      have B7 : Hid (Below w6.heap.size w6 (((w6.alloc (.map #[] 0)).alloc (.map #[] 0)).alloc (.cells #[.func (.func 40) #[] #[.pointer (some ⟨B, 0, none⟩)], .map (some w6.heap.size), .map (some (w6.heap.size + 1))] 61))) := (((Below.refl _ _).alloc (Nat.le_refl _) _).alloc (by simp) _).alloc (by simp; omega) _
      have N7 := hide (hn6.later B7.out)
      have L7 : Hid (MapAt (((w6.alloc (.map #[] 0)).alloc (.map #[] 0)).alloc (.cells #[.func (.func 40) #[] #[.pointer (some ⟨B, 0, none⟩)], .map (some w6.heap.size), .map (some (w6.heap.size + 1))] 61)) w6.heap.size []) := ((MapAt.new w6).below (B := w6.heap.size + 1) ((Below.refl _ _).alloc (by simp) _) (by omega)).below (B := w6.heap.size + 1) ((Below.refl _ _).alloc (by simp) _) (by omega)
      have M7 : Hid (MapAt (((w6.alloc (.map #[] 0)).alloc (.map #[] 0)).alloc (.cells #[.func (.func 40) #[] #[.pointer (some ⟨B, 0, none⟩)], .map (some w6.heap.size), .map (some (w6.heap.size + 1))] 61)) (w6.heap.size + 1) []) := by
        have h := MapAt.new (w6.alloc (.map #[] 0))
        rw [World.size_alloc] at h
        exact h.below (B := w6.heap.size + 2) ((Below.refl _ _).alloc (by simp) _) (by omega)
      have C7 : Hid (Blk (((w6.alloc (.map #[] 0)).alloc (.map #[] 0)).alloc (.cells #[.func (.func 40) #[] #[.pointer (some ⟨B, 0, none⟩)], .map (some w6.heap.size), .map (some (w6.heap.size + 1))] 61)) (w6.heap.size + 2) #[.func (.func 40) #[] #[.pointer (some ⟨B, 0, none⟩)], .map (some w6.heap.size), .map (some (w6.heap.size + 1))] 61) := by
        have h := Blk.new ((w6.alloc (.map #[] 0)).alloc (.map #[] 0)) #[.func (.func 40) #[] #[.pointer (some ⟨B, 0, none⟩)], .map (some w6.heap.size), .map (some (w6.heap.size + 1))] 61
        rw [World.size_alloc, World.size_alloc] at h
        exact h
      have KA7 := hide (KA6.out.below B7.out KA6.out.lt)
      have KB7 := hide (KB6.out.below B7.out KB6.out.lt)
      have KR7 := hide (KR6.out.below B7.out KR6.out.lt)
      have HB7 := hide (HB6.out.trans (B7.out.mono HB6.out.size))
      have c0 := C7.out.cell 0
      have c1 := C7.out.cell 1
      have c2 := C7.out.cell 2
      have d0 := KA7.out.cell 0
      have d1 := KA7.out.cell 1
      have e0 := KB7.out.cell 0
      have e1 := KB7.out.cell 1
      clear hn6 hr6 hB6 hbn KA5 KB5 KR5 KA6 KB6 KR6
      go_wp2_with fail
      generalize (((w6.alloc (.map #[] 0)).alloc (.map #[] 0)).alloc (.cells #[.func (.func 40) #[] #[.pointer (some ⟨B, 0, none⟩)], .map (some w6.heap.size), .map (some (w6.heap.size + 1))] 61)) = w7 at *
      obtain ⟨C, eC⟩ : ∃ C, C = w6.heap.size + 1 + 1 := ⟨_, rfl⟩
      obtain ⟨r2, er2⟩ : ∃ r2, r2 = w6.heap.size + 1 := ⟨_, rfl⟩
      obtain ⟨r1, er1⟩ : ∃ r1, r1 = w6.heap.size := ⟨_, rfl⟩
      have C7' : Hid (Blk w7 C #[.func (.func 40) #[] #[.pointer (some ⟨B, 0, none⟩)], .map (some r1), .map (some r2)] 61) := by rw [eC, er2, er1]; exact C7.out
      have L7' : Hid (MapAt w7 r1 []) := by rw [er1]; exact L7.out
      have M7' : Hid (MapAt w7 r2 []) := by rw [er2]; exact M7.out
      rw [← eC, ← er2, ← er1]
      have HR2 : Hid (w.heap.size ≤ r ∧ r < r1 ∧ B < r1 ∧ r2 = r1 + 1 ∧ C = r1 + 2 ∧ R < B ∧ R < r) := by have := HRL.out; unfold Hid; omega
      clear er1 er2 eC c0 c1 c2 d0 d1 e0 e1 C7 L7 M7
      have G7 : Hid (GmAt w7 B r r1 r2 Y []) := by
        have h := HR2.out
        exact ⟨N7.out, ⟨[], L7'.out, rfl, by simp⟩, ⟨[], M7'.out, rfl, by simp⟩, by omega, by omega, by omega, by omega, by omega, by simp⟩
      obtain ⟨ea1, za⟩ := may_partsZ HEA.out
      obtain ⟨eb1, zb⟩ := may_partsZ HEB.out
      have OF := hide (of_any w.heap.size B r r1 r2 (by have := HR2.out; omega) Y (fun x hx hm => by have := HYW.out x hx; have := HR2.out; unfold Mps at hm; omega) a b [] _ _ w7 (VA.out _ HB7.out) (VB.out _ HB7.out) (fun x hx => by have := HYW.out x hx; have := HB7.out.size; omega) G7.out (HT.out.on HB7.out) ea1 eb1 za zb (by simp; omega))
      obtain ⟨f1, f2, f3⟩ := gnT_facts ea1 eb1 za zb
      obtain ⟨y, hy⟩ : ∃ y, y = gnT [] a b := ⟨_, rfl⟩
      rw [← hy] at OF f1 f2 f3
      have HYE := hide hy
      have HF := hide (And.intro f2 f3)
      have HSZ : Hid (R < w7.heap.size ∧ C < w7.heap.size) := ⟨KR7.out.lt, C7'.out.lt⟩
      clear hy f1 f2 f3 ea1 eb1 za zb N7 L7' M7'
      refine OF.out.mono ?_
      rintro e w8 ⟨a8, c8, rfl, hs8, hg8, hx8⟩
      have X8 := hide hx8
      have KR8 := hide (KR7.out.exq hx8 (by have := HR2.out; unfold Mps; omega))
      have C8 := hide (C7'.out.exq hx8 (by have := HR2.out; unfold Mps; omega))
      have G8 := hide hg8
      have S8 := hide hs8
      clear hs8 hg8 hx8 OF
      have r0 : w8.cell? ⟨R, 0, none⟩ = some (.string ⟨#[]⟩) := KR8.out.cell 0
      have q1 : w8.cell? ⟨R, 1, none⟩ = some (.slice none 0 0) := KR8.out.cell 1
      have rf := KR8.out.frozen
      have hRl : R < w8.heap.size := KR8.out.lt
      have R9 : Hid (Blk ((w8.setCell ⟨R, 0, none⟩ (.string y.1.name)).setCell ⟨R, 1, none⟩ (.slice a8 y.1.args.length c8)) (R) #[.string y.1.name, .slice a8 y.1.args.length c8] 24) := (KR8.out.set 0 (.string y.1.name)).set 1 (.slice a8 y.1.args.length c8)
      have C9 : Hid (Blk ((w8.setCell ⟨R, 0, none⟩ (.string y.1.name)).setCell ⟨R, 1, none⟩ (.slice a8 y.1.args.length c8)) C #[.func (.func 40) #[] #[.pointer (some ⟨B, 0, none⟩)], .map (some r1), .map (some r2)] 61) := (C8.out.setOther _ _ (by have := HR2.out; omega)).setOther _ _ (by have := HR2.out; omega)
      have G9 : Hid (GmAt ((w8.setCell ⟨R, 0, none⟩ (.string y.1.name)).setCell ⟨R, 1, none⟩ (.slice a8 y.1.args.length c8)) B r r1 r2 Y y.2) := G8.out.kept fun x hx hc => by
        have hne : x ≠ R := by
          have := HR2.out
          rcases hc with h1 | h1 | h1
          · omega
          · unfold Mps at h1; omega
          · have := HYW.out x h1; omega
        rw [Below.heap_setCell _ _ _ _ (by simpa using hne), Below.heap_setCell _ _ _ _ (by simpa using hne)]
      have S9 : Hid (Sl ((w8.setCell ⟨R, 0, none⟩ (.string y.1.name)).setCell ⟨R, 1, none⟩ (.slice a8 y.1.args.length c8)) (fun b => w7.heap.size ≤ b) a8 y.1.args) := S8.out.kept fun x hx => by
        have hne : x ≠ R := by have := HSZ.out; omega
        rw [Below.heap_setCell _ _ _ _ (by simpa using hne), Below.heap_setCell _ _ _ _ (by simpa using hne)]
      have B9 : Hid (Below w.heap.size w ((w8.setCell ⟨R, 0, none⟩ (.string y.1.name)).setCell ⟨R, 1, none⟩ (.slice a8 y.1.args.length c8))) := ((HB7.out.trans (X8.out.below HB7.out.size (fun x hm => by have := HR2.out; unfold Mps at hm; omega))).setCell (by show w.heap.size ≤ R; omega) _).setCell (by show w.heap.size ≤ R; omega) _
      go_upto_region 9 with fail
      generalize ((w8.setCell ⟨R, 0, none⟩ (.string y.1.name)).setCell ⟨R, 1, none⟩ (.slice a8 y.1.args.length c8)) = w9 at *
      have KP : Hid (∀ w', Below w9.heap.size w9 w' → (w'.cell? ⟨C, 1, none⟩ = some (.map (some r1)) ∧ w'.cell? ⟨C, 2, none⟩ = some (.map (some r2))) ∧ w'.cell? ⟨R, 0, none⟩ = some (.string y.1.name) ∧ w'.cell? ⟨R, 1, none⟩ = some (.slice a8 y.1.args.length c8)) := fun w' hb => ⟨⟨(C9.out.below hb C9.out.lt).cell 1, (C9.out.below hb C9.out.lt).cell 2⟩, (R9.out.below hb R9.out.lt).cell 0, (R9.out.below hb R9.out.lt).cell 1⟩
      have kd : Below w9.heap.size w9 w9.drew := (Below.refl _ _).drew
      have HSd := hide (KP.out _ kd)
      clear r0 q1 rf hRl KR8 C8 G8 S8 X8 KA7 KB7 KR7 C7' G7
      refine wp_region_held_drew (S := (fun w' => (w'.cell? ⟨C, 1, none⟩ = some (.map (some r1)) ∧ w'.cell? ⟨C, 2, none⟩ = some (.map (some r2))) ∧ w'.cell? ⟨R, 0, none⟩ = some (.string y.1.name) ∧ w'.cell? ⟨R, 1, none⟩ = some (.slice a8 y.1.args.length c8))) (by kernel_rfl) HSd.out (fun hHeld => ?_)
      refine wpAnyH_take (i := 0) (v := ?_) rfl (by kernel_rfl) (by kernel_rfl) (by kernel_rfl) (fun _ _ _ h => h) (Or.inl ⟨by rfl, ?_⟩) (by assumption) ?_
      rotate_left
      · intro w' hSw
        obtain ⟨⟨x0, x1⟩, x2, x3⟩ := hSw
        go_simp <;> with_reducible rfl
      try simp only [Act.put, List.setIfInBounds_toArray, List.set_cons_zero, List.set_cons_succ, List.getElem_toArray, List.getElem_cons_succ, List.getElem_cons_zero]
      refine wpAnyH_take (i := 1) (v := ?_) rfl (by kernel_rfl) (by kernel_rfl) (by kernel_rfl) (fun _ _ _ h => h) (Or.inl ⟨by rfl, ?_⟩) (by assumption) ?_
      rotate_left
      · intro w' hSw
        go_simp <;> with_reducible rfl
      try simp only [Act.put, List.setIfInBounds_toArray, List.set_cons_zero, List.set_cons_succ, List.getElem_toArray, List.getElem_cons_succ, List.getElem_cons_zero]
      refine wpAnyH_take (i := 2) (v := ?_) rfl (by kernel_rfl) (by kernel_rfl) (by kernel_rfl) (fun _ _ _ h => h) (Or.inl ⟨by rfl, ?_⟩) (by assumption) ?_
      rotate_left
      · intro w' hSw
        obtain ⟨⟨x0, x1⟩, x2, x3⟩ := hSw
        go_simp <;> with_reducible rfl
      try simp only [Act.put, List.setIfInBounds_toArray, List.set_cons_zero, List.set_cons_succ, List.getElem_toArray, List.getElem_cons_succ, List.getElem_cons_zero]
      refine wpAnyH_take (i := 4) (v := ?_) rfl (by kernel_rfl) (by kernel_rfl) (by kernel_rfl) (fun _ _ _ h => h) (Or.inl ⟨by rfl, ?_⟩) (by assumption) ?_
      rotate_left
      · intro w' hSw
        go_simp <;> with_reducible rfl
      try simp only [Act.put, List.setIfInBounds_toArray, List.set_cons_zero, List.set_cons_succ, List.getElem_toArray, List.getElem_cons_succ, List.getElem_cons_zero]
      refine wpAnyH_take (i := 5) (v := ?_) rfl (by kernel_rfl) (by kernel_rfl) (by kernel_rfl) (fun _ _ _ h => h) (Or.inl ⟨by rfl, ?_⟩) (by assumption) ?_
      rotate_left
      · intro w' hSw
        obtain ⟨⟨x0, x1⟩, x2, x3⟩ := hSw
        go_simp <;> with_reducible rfl
      try simp only [Act.put, List.setIfInBounds_toArray, List.set_cons_zero, List.set_cons_succ, List.getElem_toArray, List.getElem_cons_succ, List.getElem_cons_zero]
      refine wpAnyH_ready (rs := [3]) (by kernel_rfl) (by simp) ?_
      refine AllReadyH.cons rfl (fun K hK => ?_) AllReadyH.nil
      go_simp
      go_at_call 25
      refine (mz_in HSO (·.l) (G9.out.lf.later kd) HF.out.1 (fun p hp => (HF.out.2 p hp).1)).mono ?_
      rintro e w10 ⟨vl, ls, rfl, hv, hp1, hp2, hbn⟩
      have k10 : Below w9.heap.size w9 w10 := kd.trans (hbn.mono kd.size)
      have VL0 : Hid (BV w10 (fun b => w9.heap.size ≤ b) vl ls) := hv
      have PL := hide (And.intro hp1 hp2)
      clear hv hp1 hp2 hbn
      go_simp
      refine hK.out _ _ (by exact KP.out _ k10) (fun hHeld => ?_)
      clear hK K
      try simp only [Act.put, List.setIfInBounds_toArray, List.set_cons_zero, List.set_cons_succ, List.getElem_toArray, List.getElem_cons_succ, List.getElem_cons_zero]
      refine wpAnyH_ready (rs := [6]) (by kernel_rfl) (by simp) ?_
      refine AllReadyH.cons rfl (fun K hK => ?_) AllReadyH.nil
      go_simp
      go_at_call 25
      refine (mz_in HSO (·.r) (G9.out.rt.later k10) HF.out.1 (fun p hp => (HF.out.2 p hp).2)).mono ?_
      rintro e w11 ⟨vr, rs, rfl, hv, hp1, hp2, hbn⟩
      have k11 : Below w9.heap.size w9 w11 := k10.trans (hbn.mono k10.size)
      have VR : Hid (BV w11 (fun b => w9.heap.size ≤ b) vr rs) := hv.mono fun b h _ => by have := k10.size; omega
      have VL := hide (VL0.out.later hbn)
      have PR := hide (And.intro hp1 hp2)
      have R11 := hide (R9.out.below k11 R9.out.lt)
      have q0 : w11.cell? ⟨R, 0, none⟩ = some (.string y.1.name) := R11.out.cell 0
      have q1 : w11.cell? ⟨R, 1, none⟩ = some (.slice a8 y.1.args.length c8) := R11.out.cell 1
      have qf := R11.out.frozen
      have hRl : R < w11.heap.size := R11.out.lt
      have HS12 : Hid ((((w11.setCell ⟨R, 0, none⟩ (.string y.1.name)).setCell ⟨R, 1, none⟩ (.slice a8 y.1.args.length c8)).cell? ⟨C, 1, none⟩ = some (.map (some r1)) ∧ ((w11.setCell ⟨R, 0, none⟩ (.string y.1.name)).setCell ⟨R, 1, none⟩ (.slice a8 y.1.args.length c8)).cell? ⟨C, 2, none⟩ = some (.map (some r2))) ∧ ((w11.setCell ⟨R, 0, none⟩ (.string y.1.name)).setCell ⟨R, 1, none⟩ (.slice a8 y.1.args.length c8)).cell? ⟨R, 0, none⟩ = some (.string y.1.name) ∧ ((w11.setCell ⟨R, 0, none⟩ (.string y.1.name)).setCell ⟨R, 1, none⟩ (.slice a8 y.1.args.length c8)).cell? ⟨R, 1, none⟩ = some (.slice a8 y.1.args.length c8)) := by
        have k1 := ((C9.out.below k11 C9.out.lt).setOther (b' := R) 0 (.string y.1.name) (by have := HR2.out; omega)).setOther (b' := R) 1 (.slice a8 y.1.args.length c8) (by have := HR2.out; omega)
        have k2 := (R11.out.set 0 (.string y.1.name)).set 1 (.slice a8 y.1.args.length c8)
        exact ⟨⟨k1.cell 1, k1.cell 2⟩, k2.cell 0, k2.cell 1⟩
      clear hv hp1 hp2 hbn
      go_simp
      refine hK.out _ _ (by exact KP.out _ k11) (fun hHeld => ?_)
      clear hK K
      try simp only [Act.put, List.setIfInBounds_toArray, List.set_cons_zero, List.set_cons_succ, List.getElem_toArray, List.getElem_cons_succ, List.getElem_cons_zero]
      refine wpAnyH_ready (rs := [7]) (by kernel_rfl) (by simp) ?_
      refine AllReadyH.cons rfl (fun K hK => ?_) AllReadyH.nil
      go_simp
      refine hK.out _ _ (by exact HS12.out) (fun hHeld => ?_)
      clear hK K
      try simp only [Act.put, List.setIfInBounds_toArray, List.set_cons_zero, List.set_cons_succ, List.getElem_toArray, List.getElem_cons_succ, List.getElem_cons_zero]
      refine wpAnyH_take (i := 8) (v := ?_) rfl (by kernel_rfl) (by kernel_rfl) (by kernel_rfl) (fun _ _ _ h => h) (Or.inl ⟨by rfl, ?_⟩) (by assumption) ?_
      rotate_left
      · intro w' hSw
        go_simp <;> with_reducible rfl
      try simp only [Act.put, List.setIfInBounds_toArray, List.set_cons_zero, List.set_cons_succ, List.getElem_toArray, List.getElem_cons_succ, List.getElem_cons_zero]
      refine wpAnyH_take (i := 9) (v := ?_) rfl (by kernel_rfl) (by kernel_rfl) (by kernel_rfl) (fun _ _ _ h => h) (Or.inl ⟨by rfl, ?_⟩) (by assumption) ?_
      rotate_left
      · intro w' hSw
        go_simp <;> with_reducible rfl
      try simp only [Act.put, List.setIfInBounds_toArray, List.set_cons_zero, List.set_cons_succ, List.getElem_toArray, List.getElem_cons_succ, List.getElem_cons_zero]
      refine wpAnyH_take (i := 10) (v := ?_) rfl (by kernel_rfl) (by kernel_rfl) (by kernel_rfl) (fun _ _ _ h => h) (Or.inl ⟨by rfl, ?_⟩) (by assumption) ?_
      rotate_left
      · intro w' hSw
        go_simp <;> with_reducible rfl
      try simp only [Act.put, List.setIfInBounds_toArray, List.set_cons_zero, List.set_cons_succ, List.getElem_toArray, List.getElem_cons_succ, List.getElem_cons_zero]
      refine wpAnyH_done (by kernel_rfl) ?_ _
      go_wp2_with fail
      refine bodyPost_ret (v := .tuple #[.agg #[.string y.1.name, .slice a8 y.1.args.length c8], vl, vr, .int .i64 0]) (by simp [results, Tryd.results9, go_sem, World.cell?_setCell_same, World.cell?_setCell_other, q0, q1, hRl]) rfl ?_
      unfold GnP
      rw [← HYE.out]
      have hb11 := B9.out.trans (k11.mono B9.out.size)
      have hz9 := B9.out.size
      have hz10 := k10.size
      refine ⟨(hb11.setCell (by show w.heap.size ≤ R; omega) _).setCell (by show w.heap.size ≤ R; omega) _, Or.inl ⟨by rw [HTW.out]; exact HEB.out, a8, c8, vl, vr, ls, rs, rfl, ?_, ⟨?_, PL.out.1, PL.out.2⟩, ?_, PR.out.1, PR.out.2⟩⟩
      · refine ((S9.out.later k11).kept fun x hx => ?_).mono fun x hx _ => by have := HB7.out.size; omega
        have hne : x ≠ R := by have := HSZ.out; omega
        rw [Below.heap_setCell _ _ _ _ (by simpa using hne), Below.heap_setCell _ _ _ _ (by simpa using hne)]
      · refine (VL.out.kept fun x hx => ?_).mono fun x hx _ => by omega
        have hne : x ≠ R := by have := R9.out.lt; omega
        rw [Below.heap_setCell _ _ _ _ (by simpa using hne), Below.heap_setCell _ _ _ _ (by simpa using hne)]
      · refine (VR.out.kept fun x hx => ?_).mono fun x hx _ => by omega
        have hne : x ≠ R := by have := R9.out.lt; omega
        rw [Below.heap_setCell _ _ _ _ (by simpa using hne), Below.heap_setCell _ _ _ _ (by simpa using hne)]
    · have h1 : (mayE b == 0) = false := by simpa using heb
      have h2 : (mayE b != 0) = true := by simpa using heb
      have r0 : w5.cell? ⟨R, 0, none⟩ = some (.string ⟨#[]⟩) := KR5.out.cell 0
      have r1 : w5.cell? ⟨R, 1, none⟩ = some (.slice none 0 0) := KR5.out.cell 1
      have rf := KR5.out.frozen
      have hRl : R < w5.heap.size := KR5.out.lt
      go_wp2_with fail
      refine bodyPost_ret (v := .tuple #[.agg #[.string ⟨#[]⟩, .slice none 0 0], .slice none 0 0, .slice none 0 0, .int .i64 (mayE b)]) (by simp [results, Tryd.results9, go_sem, World.cell?_setCell_same, World.cell?_setCell_other, r0, r1, hRl]) rfl ?_
      exact ⟨(HB5.out.setCell (by show w.heap.size ≤ R; omega) _).setCell (by show w.heap.size ≤ R; omega) _, Or.inr ⟨by rw [HTW.out]; exact heb, by rw [HTW.out]⟩⟩
  · have h1 : (mayE a == 0) = false := by simpa using hea
    have h2 : (mayE a != 0) = true := by simpa using hea
    have HTW : Hid (twoE a b = mayE a) := by unfold Hid twoE; rw [if_neg hea]
    have r0 : w4.cell? ⟨R, 0, none⟩ = some (.string ⟨#[]⟩) := KR4.out.cell 0
    have r1 : w4.cell? ⟨R, 1, none⟩ = some (.slice none 0 0) := KR4.out.cell 1
    have rf := KR4.out.frozen
    have hRl : R < w4.heap.size := KR4.out.lt
    go_wp2_with fail
    refine bodyPost_ret (v := .tuple #[.agg #[.string ⟨#[]⟩, .slice none 0 0], .slice none 0 0, .slice none 0 0, .int .i64 (mayE a)]) (by simp [results, Tryd.results9, go_sem, World.cell?_setCell_same, World.cell?_setCell_other, r0, r1, hRl]) rfl ?_
    exact ⟨(HB4.out.setCell (by show w.heap.size ≤ R; omega) _).setCell (by show w.heap.size ≤ R; omega) _, Or.inr ⟨by rw [HTW.out]; exact hea, by rw [HTW.out]⟩⟩
end Go.Proofs.YtakmclheffbeaaaDoor
