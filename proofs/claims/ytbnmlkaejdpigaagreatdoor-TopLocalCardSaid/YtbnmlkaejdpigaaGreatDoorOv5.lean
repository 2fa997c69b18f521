import Derived.Test.YtbnmlkaejdpigaaGreatDoorZDTopLocalOwn
import Derived.Test.YtbnmlkaejdpigaaGreatDoorZBTopLocalOwn
import Derived.Test.YtbnmlkaejdpigaaGreatDoorZTopLocalOwn
namespace Go.Proofs.YtbnmlkaejdpigaaGreatDoor
open Go.RowKit
set_option linter.unusedSimpArgs false
set_option linter.unusedVariables false
set_option maxRecDepth 8000
def PaQ (ls : List Bd) (a b : Pr) (pl : List Int) : Pr := ⟨fT ls a.r, fT ls (putT b.r pl a.l)⟩
def PaP (ls : List Bd) (a b : Pr) (pl : List Int) (w : World) (e : Ending) (w' : World) : Prop :=
 Below w.heap.size w w' ∧ (((2000 < sizeL [(PaQ ls a b pl).l] ∨ 2000 < sizeL [(PaQ ls a b pl).r]) ∧ e = .returned (.tuple #[.agg #[.string ⟨#[]⟩, .slice none 0 0, .string ⟨#[]⟩, .slice none 0 0], .int .i64 8])) ∨
  (sizeL [(PaQ ls a b pl).l] ≤ 2000 ∧ sizeL [(PaQ ls a b pl).r] ≤ 2000 ∧ ∃ y b1 d1 b2 d2, y = nmP (PaQ ls a b pl) ∧ e = .returned (.tuple #[.agg #[.string y.l.name, .slice b1 y.l.args.length d1, .string y.r.name, .slice b2 y.r.args.length d2], .int .i64 0]) ∧ Sl w' (fun b => w.heap.size ≤ b) b1 y.l.args ∧ Sl w' (fun b => w.heap.size ≤ b) b2 y.r.args))
set_option maxHeartbeats 4000000 in
theorem pairAt_any (BT : Nat) (ls : List Bd) (ho : Once ls) (oa nb : Pr) (pl : List Int) (a1 a2 a3 a4 : Option Addr) (c1 c2 c3 c4 : Nat) (pv u : Value) (w : World) (X : Nat → Prop) (hs1 : Sl w X a1 oa.l.args) (hs2 : Sl w X a2 oa.r.args) (hs3 : Sl w X a3 nb.l.args) (hs4 : Sl w X a4 nb.r.args) (hp : PV w X pv pl) (hu : BV w X u ls) (hat : (atT oa.l pl).isSome = true) (hz : sizeL [oa.l] ≤ 1000000) (hT : Tb BT w) (hBw : BT ≤ w.heap.size) :
  Calls Tryz.prog 22 #[.agg #[.string oa.l.name, .slice a1 oa.l.args.length c1, .string oa.r.name, .slice a2 oa.r.args.length c2, .string nb.l.name, .slice a3 nb.l.args.length c3, .string nb.r.name, .slice a4 nb.r.args.length c4], pv, u] w fun e w' => PaP ls oa nb pl w e w' := by
 have HS1 := hide (hs1.mono (Y := fun b => X b ∧ b < w.heap.size) fun b h1 h2 => ⟨h1, h2⟩)
 have HS2 := hide (hs2.mono (Y := fun b => X b ∧ b < w.heap.size) fun b h1 h2 => ⟨h1, h2⟩)
 have HS4 := hide (hs4.mono (Y := fun b => X b ∧ b < w.heap.size) fun b h1 h2 => ⟨h1, h2⟩)
 have HPV := hide (hp.mono (Y := fun b => X b ∧ b < w.heap.size) fun b h1 h2 => ⟨h1, h2⟩)
 have HU := hide (hu.mono (Y := fun b => X b ∧ b < w.heap.size) fun b h1 h2 => ⟨h1, h2⟩)
 have HT := hide hT
 obtain ⟨pa, pc, rfl, hpl, _⟩ := hp
 obtain ⟨ua, uc, rfl, hul, _⟩ := hu
 clear hs1 hs2 hs3 hs4 hT
 go_enter Tryz.func22, Tryz.ntmps22
 go_wp2_with fail
 have hB2 : Below w.heap.size w ((w.alloc (.cells #[.string oa.l.name, .slice a1 oa.l.args.length c1, .string oa.r.name, .slice a2 oa.r.args.length c2, .string nb.l.name, .slice a3 nb.l.args.length c3, .string nb.r.name, .slice a4 nb.r.args.length c4] 54)).alloc (.cells #[.string ⟨#[]⟩, .slice none 0 0, .string ⟨#[]⟩, .slice none 0 0] 34)) := ((Below.refl _ _).alloc (Nat.le_refl _) _).alloc (by simp) _
 have hP2 : Blk ((w.alloc (.cells #[.string oa.l.name, .slice a1 oa.l.args.length c1, .string oa.r.name, .slice a2 oa.r.args.length c2, .string nb.l.name, .slice a3 nb.l.args.length c3, .string nb.r.name, .slice a4 nb.r.args.length c4] 54)).alloc (.cells #[.string ⟨#[]⟩, .slice none 0 0, .string ⟨#[]⟩, .slice none 0 0] 34)) w.heap.size #[.string oa.l.name, .slice a1 oa.l.args.length c1, .string oa.r.name, .slice a2 oa.r.args.length c2, .string nb.l.name, .slice a3 nb.l.args.length c3, .string nb.r.name, .slice a4 nb.r.args.length c4] 54 := (Blk.new w _ _).alloc _
 have hR2 : Blk ((w.alloc (.cells #[.string oa.l.name, .slice a1 oa.l.args.length c1, .string oa.r.name, .slice a2 oa.r.args.length c2, .string nb.l.name, .slice a3 nb.l.args.length c3, .string nb.r.name, .slice a4 nb.r.args.length c4] 54)).alloc (.cells #[.string ⟨#[]⟩, .slice none 0 0, .string ⟨#[]⟩, .slice none 0 0] 34)) (w.heap.size + 1) #[.string ⟨#[]⟩, .slice none 0 0, .string ⟨#[]⟩, .slice none 0 0] 34 := by
  have h := Blk.new (w.alloc (.cells #[.string oa.l.name, .slice a1 oa.l.args.length c1, .string oa.r.name, .slice a2 oa.r.args.length c2, .string nb.l.name, .slice a3 nb.l.args.length c3, .string nb.r.name, .slice a4 nb.r.args.length c4] 54)) #[.string ⟨#[]⟩, .slice none 0 0, .string ⟨#[]⟩, .slice none 0 0] 34
  rw [World.size_alloc] at h
  exact h
 have hz2 : ((w.alloc (.cells #[.string oa.l.name, .slice a1 oa.l.args.length c1, .string oa.r.name, .slice a2 oa.r.args.length c2, .string nb.l.name, .slice a3 nb.l.args.length c3, .string nb.r.name, .slice a4 nb.r.args.length c4] 54)).alloc (.cells #[.string ⟨#[]⟩, .slice none 0 0, .string ⟨#[]⟩, .slice none 0 0] 34)).heap.size = w.heap.size + 2 := by simp
 generalize (w.alloc (.cells #[.string oa.l.name, .slice a1 oa.l.args.length c1, .string oa.r.name, .slice a2 oa.r.args.length c2, .string nb.l.name, .slice a3 nb.l.args.length c3, .string nb.r.name, .slice a4 nb.r.args.length c4] 54)).alloc (.cells #[.string ⟨#[]⟩, .slice none 0 0, .string ⟨#[]⟩, .slice none 0 0] 34) = W at *
 obtain ⟨R, hR⟩ : ∃ R, R = w.heap.size + 1 := ⟨_, rfl⟩
 obtain ⟨Q, hQ⟩ : ∃ Q, Q = w.heap.size := ⟨_, rfl⟩
 rw [← hR] at hR2 ⊢
 rw [← hQ] at hP2 ⊢
 have HRQ : Hid (R = w.heap.size + 1 ∧ Q = w.heap.size) := ⟨hR, hQ⟩
 clear hR hQ
 refine (byName_any ls ho _ W _ (HU.out.later hB2)).mono ?_
 rintro e w3 ⟨L, rfl, hM3, hL3, hb3⟩
 have hB3 := hB2.trans (hb3.mono hB2.size)
 have HL3 := hide hL3
 have hP3 := hP2.below hb3 hP2.lt
 have hR3 := hR2.below hb3 hR2.lt
 have HM3 := hide hM3
 obtain ⟨mr, hmr⟩ : ∃ mr, mr = W.heap.size := ⟨_, rfl⟩
 rw [← hmr] at HM3 ⊢
 have HMR : Hid (w.heap.size + 2 ≤ mr) := by unfold Hid; omega
 clear hmr hL3 hM3 hb3 hB2 hP2 hR2
 go_wp2_with fail
 refine (look_any mr w3).mono ?_
 rintro e w4 ⟨rfl, hw4⟩
 have hb34 : Below w3.heap.size w3 w4 := by rw [hw4]; exact (Below.refl _ _).alloc (Nat.le_refl _) _
 obtain ⟨mb, hmb⟩ : ∃ mb, mb = w3.heap.size := ⟨_, rfl⟩
 have hEb : Blk w4 mb #[.map (some mr)] 87 := by rw [hw4, hmb]; exact Blk.new w3 _ _
 rw [← hmb]
 have hz3 : W.heap.size ≤ W.heap.size := Nat.le_refl _
 have HE4 : Hid (Env w4 mb mr (fun _ => True) ls L) := ⟨hEb, HM3.out.below hb34 HM3.out.lt, HL3.out.imp fun a l h => ((h.later hb34).mono fun _ _ _ => trivial)⟩
 have hB4 := hB3.trans (hb34.mono hB3.size)
 have hP4 := hP3.below hb34 hP3.lt
 have HR4 := hide (hR3.below hb34 hR3.lt)
 have HB4 := hide hB4
 have HP4 := hide hP4
 have p4 := fun k => hP4.cell k
 have p40 := hP4.c0
 have p41 := hP4.c1
 have p42 := hP4.c2
 have p43 := hP4.c3
 have p44 : w4.cell? ⟨Q, 4, none⟩ = some (.string nb.l.name) := hP4.cell 4
 have p45 : w4.cell? ⟨Q, 5, none⟩ = some (.slice a3 nb.l.args.length c3) := hP4.cell 5
 have p46 : w4.cell? ⟨Q, 6, none⟩ = some (.string nb.r.name) := hP4.cell 6
 have p47 : w4.cell? ⟨Q, 7, none⟩ = some (.slice a4 nb.r.args.length c4) := hP4.cell 7
 clear hw4 hb34 hEb hmb hB3 hP3 hR3 hB4 hP4 HM3 HL3 p4
 go_wp2_with fail
 refine (fill_any mb mr ls L oa.r 2000 a2 c2 w4 (fun _ => True) (by decide) ((HS2.out.later HB4.out).mono fun _ _ _ => trivial) HE4.out).mono ?_
 rintro e w5 ⟨hb5, hcase⟩
 have HB5 := hide (HB4.out.trans (hb5.mono HB4.out.size))
 have HR5 := hide (HR4.out.below hb5 HR4.out.lt)
 have HP5 := hide (HP4.out.below hb5 HP4.out.lt)
 have HE5 := hide (HE4.out.later hb5)
 have HMB : Hid (mb < w5.heap.size) := HE5.out.1.lt
 clear hb5 p40 p41 p42 p43 p44 p45 p46 p47 HE4
 rcases hcase with ⟨hle, b1, d1, rfl, hsl⟩ | ⟨hle, rfl⟩
 case inr =>
  have HLE := hide hle
  clear hle
  have q0 : ∀ o, (w5.alloc o).cell? ⟨R, 0, none⟩ = some (.string ⟨#[]⟩) := fun o => (HR5.out.alloc o).cell 0
  have q1 : ∀ o, (w5.alloc o).cell? ⟨R, 1, none⟩ = some (.slice none 0 0) := fun o => (HR5.out.alloc o).cell 1
  have q2 : ∀ o, (w5.alloc o).cell? ⟨R, 2, none⟩ = some (.string ⟨#[]⟩) := fun o => (HR5.out.alloc o).cell 2
  have q3 : ∀ o, (w5.alloc o).cell? ⟨R, 3, none⟩ = some (.slice none 0 0) := fun o => (HR5.out.alloc o).cell 3
  have r0 := HR5.out.cell 0
  have r1 := HR5.out.cell 1
  have r2 := HR5.out.cell 2
  have r3 := HR5.out.cell 3
  have qf : ∀ o k, (w5.alloc o).frozen? ⟨R, k, none⟩ = false := fun o k => (HR5.out.alloc o).frozen k
  have rf := HR5.out.frozen
  have ql : R < w5.heap.size := HR5.out.lt
  go_wp2_with fail
  refine bodyPost_ret (v := .tuple #[.agg #[.string ⟨#[]⟩, .slice none 0 0, .string ⟨#[]⟩, .slice none 0 0], .int .i64 8]) (by simp [results, Tryz.results22, go_sem, World.cell?_setCell_same, World.cell?_setCell_other, World.cell?_alloc_old, q0, q1, q2, q3, r0, r1, r2, r3, ql]) rfl ?_
  have hk := HRQ.out
  exact ⟨by first | exact ((((HB5.out.setCell (p := ⟨R, 0, none⟩) (by simp; omega) _).setCell (p := ⟨R, 1, none⟩) (by simp; omega) _).setCell (p := ⟨R, 2, none⟩) (by simp; omega) _).setCell (p := ⟨R, 3, none⟩) (by simp; omega) _).alloc (by simp [World.setCell]; exact HB5.out.size) _ | exact ((((HB5.out.alloc HB5.out.size _).setCell (p := ⟨R, 0, none⟩) (by simp; omega) _).setCell (p := ⟨R, 1, none⟩) (by simp; omega) _).setCell (p := ⟨R, 2, none⟩) (by simp; omega) _).setCell (p := ⟨R, 3, none⟩) (by simp; omega) _, Or.inl ⟨Or.inl HLE.out, rfl⟩⟩
 case inl =>
  have HLE := hide hle
  have HSL := hide hsl
  clear hle hsl
  have HF1 : Hid (fT ls oa.r = (PaQ ls oa nb pl).l) := rfl
  rw [HF1.out] at HLE HSL ⊢
  obtain ⟨g1, hg1⟩ : ∃ g1, g1 = (PaQ ls oa nb pl).l := ⟨_, rfl⟩
  rw [← hg1] at HLE HSL HF1 ⊢
  have HG1 := hide hg1
  clear hg1
  have hbB : Below w5.heap.size w5 (w5.alloc (.cells #[.string g1.name, .slice b1 g1.args.length d1] 32)) := (Below.refl _ _).alloc (Nat.le_refl _) _
  have hBB := Blk.new w5 #[.string g1.name, .slice b1 g1.args.length d1] 32
  have hPB := HP5.out.alloc (.cells #[.string g1.name, .slice b1 g1.args.length d1] 32)
  have hRB := HR5.out.alloc (.cells #[.string g1.name, .slice b1 g1.args.length d1] 32)
  have pB0 : (w5.alloc (.cells #[.string g1.name, .slice b1 g1.args.length d1] 32)).cell? ⟨Q, 0, none⟩ = some (.string oa.l.name) := hPB.cell 0
  have pB1 : (w5.alloc (.cells #[.string g1.name, .slice b1 g1.args.length d1] 32)).cell? ⟨Q, 1, none⟩ = some (.slice a1 oa.l.args.length c1) := hPB.cell 1
  have pB2 : (w5.alloc (.cells #[.string g1.name, .slice b1 g1.args.length d1] 32)).cell? ⟨Q, 2, none⟩ = some (.string oa.r.name) := hPB.cell 2
  have pB3 : (w5.alloc (.cells #[.string g1.name, .slice b1 g1.args.length d1] 32)).cell? ⟨Q, 3, none⟩ = some (.slice a2 oa.r.args.length c2) := hPB.cell 3
  have pB4 : (w5.alloc (.cells #[.string g1.name, .slice b1 g1.args.length d1] 32)).cell? ⟨Q, 4, none⟩ = some (.string nb.l.name) := hPB.cell 4
  have pB5 : (w5.alloc (.cells #[.string g1.name, .slice b1 g1.args.length d1] 32)).cell? ⟨Q, 5, none⟩ = some (.slice a3 nb.l.args.length c3) := hPB.cell 5
  have pB6 : (w5.alloc (.cells #[.string g1.name, .slice b1 g1.args.length d1] 32)).cell? ⟨Q, 6, none⟩ = some (.string nb.r.name) := hPB.cell 6
  have pB7 : (w5.alloc (.cells #[.string g1.name, .slice b1 g1.args.length d1] 32)).cell? ⟨Q, 7, none⟩ = some (.slice a4 nb.r.args.length c4) := hPB.cell 7
  go_wp2_with fail
  generalize w5.alloc (.cells #[.string g1.name, .slice b1 g1.args.length d1] 32) = wb at *
  obtain ⟨Bw, hBw2⟩ : ∃ Bw, Bw = w5.heap.size := ⟨_, rfl⟩
  rw [← hBw2] at hBB ⊢
  have HBb := hide (HB5.out.trans (hbB.mono HB5.out.size))
  have HBWn : Hid (w.heap.size + 2 ≤ Bw) := by have := HMR.out; have h2 := HR5.out.lt; have h3 := HRQ.out; have h4 := HE5.out.2.1.lt; unfold Hid; omega
  have HSLb := hide (HSL.out.later hbB)
  have HEb := hide (HE5.out.later hbB)
  clear pB0 pB1 pB2 pB3 pB4 pB5 pB6 pB7 hbB hBw2 HB5 HR5 HP5 HE5 HSL
  refine (kputY_any nb.r pl oa.l _ _ _ wb (fun _ => True) (fun _ => True) ⟨a1, c1, rfl, (HS1.out.later HBb.out).mono fun _ _ _ => trivial⟩ ((HPV.out.later HBb.out).mono fun _ _ _ => trivial) ⟨a4, c4, rfl, (HS4.out.later HBb.out).mono fun _ _ _ => trivial⟩ hat hz).mono ?_
  rintro e w6 ⟨v6, rfl, ⟨a6, c6, hv6, hs6⟩, hb6⟩
  subst hv6
  have HS6 := hide (hs6.mono (Y := fun _ => True) fun _ _ _ => trivial)
  have HB6 := hide (HBb.out.trans (hb6.mono HBb.out.size))
  have hR6 := hRB.below hb6 hRB.lt
  have hB6 := hBB.below hb6 hBB.lt
  have HE6 := hide (HEb.out.later hb6)
  have HSL6 := hide (HSLb.out.later hb6)
  clear hs6 hb6 hRB hBB hPB HEb HSLb HBb
  generalize hpt : putT nb.r pl oa.l = pt at *
  have HPT := hide hpt
  clear hpt
  go_wp2_with fail
  refine (fill_any mb mr ls L pt 2000 a6 c6 w6 (fun _ => True) (by decide) HS6.out HE6.out).mono ?_
  rintro e w7 ⟨hb7, hcase⟩
  have HB7 := hide (HB6.out.trans (hb7.mono HB6.out.size))
  have HR7 := hide (hR6.below hb7 hR6.lt)
  have HBx := hide (hB6.below hb7 hB6.lt)
  have HSL7 := hide (HSL6.out.later hb7)
  have HTB7 := hide (HT.out.on (HB7.out.mono hBw))
  clear hb7 hR6 hB6 HSL6 HE6 HS6
  rcases hcase with ⟨hle2, b2, d2, rfl, hsl2⟩ | ⟨hle2, rfl⟩
  case inr =>
   have HLE2 : Hid (2000 < sizeL [(PaQ ls oa nb pl).r]) := by unfold Hid PaQ; rw [HPT.out]; exact hle2
   clear hle2
   have q0 : ∀ o, (w7.alloc o).cell? ⟨R, 0, none⟩ = some (.string ⟨#[]⟩) := fun o => (HR7.out.alloc o).cell 0
   have q1 : ∀ o, (w7.alloc o).cell? ⟨R, 1, none⟩ = some (.slice none 0 0) := fun o => (HR7.out.alloc o).cell 1
   have q2 : ∀ o, (w7.alloc o).cell? ⟨R, 2, none⟩ = some (.string ⟨#[]⟩) := fun o => (HR7.out.alloc o).cell 2
   have q3 : ∀ o, (w7.alloc o).cell? ⟨R, 3, none⟩ = some (.slice none 0 0) := fun o => (HR7.out.alloc o).cell 3
   have r0 := HR7.out.cell 0
   have r1 := HR7.out.cell 1
   have r2 := HR7.out.cell 2
   have r3 := HR7.out.cell 3
   have qf : ∀ o k, (w7.alloc o).frozen? ⟨R, k, none⟩ = false := fun o k => (HR7.out.alloc o).frozen k
   have rf := HR7.out.frozen
   have ql : R < w7.heap.size := HR7.out.lt
   go_wp2_with fail
   refine bodyPost_ret (v := .tuple #[.agg #[.string ⟨#[]⟩, .slice none 0 0, .string ⟨#[]⟩, .slice none 0 0], .int .i64 8]) (by simp [results, Tryz.results22, go_sem, World.cell?_setCell_same, World.cell?_setCell_other, World.cell?_alloc_old, q0, q1, q2, q3, r0, r1, r2, r3, ql]) rfl ?_
   have hk := HRQ.out
   exact ⟨by first | exact ((((HB7.out.setCell (p := ⟨R, 0, none⟩) (by simp; omega) _).setCell (p := ⟨R, 1, none⟩) (by simp; omega) _).setCell (p := ⟨R, 2, none⟩) (by simp; omega) _).setCell (p := ⟨R, 3, none⟩) (by simp; omega) _).alloc (by simp [World.setCell]; exact HB7.out.size) _ | exact ((((HB7.out.alloc HB7.out.size _).setCell (p := ⟨R, 0, none⟩) (by simp; omega) _).setCell (p := ⟨R, 1, none⟩) (by simp; omega) _).setCell (p := ⟨R, 2, none⟩) (by simp; omega) _).setCell (p := ⟨R, 3, none⟩) (by simp; omega) _, Or.inl ⟨Or.inr HLE2.out, rfl⟩⟩
  case inl =>
   obtain ⟨g2, hg2⟩ : ∃ g2, g2 = fT ls pt := ⟨_, rfl⟩
   rw [← hg2] at hle2 hsl2 ⊢
   have HG2 : Hid (PaQ ls oa nb pl = ⟨g1, g2⟩) := by unfold Hid; rw [hg2, HG1.out, ← HPT.out]; rfl
   have HLE2 := hide hle2
   have HSL2 := hide hsl2
   have hle1 := HLE.out
   clear hg2 hsl2
   have hbC : Below w7.heap.size w7 (w7.alloc (.cells #[.string g2.name, .slice b2 g2.args.length d2] 32)) := (Below.refl _ _).alloc (Nat.le_refl _) _
   have hCC := Blk.new w7 #[.string g2.name, .slice b2 g2.args.length d2] 32
   have hBC := HBx.out.alloc (.cells #[.string g2.name, .slice b2 g2.args.length d2] 32)
   have hRC := HR7.out.alloc (.cells #[.string g2.name, .slice b2 g2.args.length d2] 32)
   have k0 : (w7.alloc (.cells #[.string g2.name, .slice b2 g2.args.length d2] 32)).cell? ⟨Bw, 0, none⟩ = some (.string g1.name) := hBC.cell 0
   have k1 : (w7.alloc (.cells #[.string g2.name, .slice b2 g2.args.length d2] 32)).cell? ⟨Bw, 1, none⟩ = some (.slice b1 g1.args.length d1) := hBC.cell 1
   go_wp2_with fail
   generalize w7.alloc (.cells #[.string g2.name, .slice b2 g2.args.length d2] 32) = w8 at *
   have HB8 := hide (HB7.out.trans (hbC.mono HB7.out.size))
   refine (named_any BT ⟨g1, g2⟩ b1 b2 d1 d2 w8 (fun _ => True) ((HSL7.out.later hbC).mono fun _ _ _ => trivial) ((HSL2.out.later hbC).mono fun _ _ _ => trivial) (HTB7.out.on (hbC.mono (by have := HB7.out.size; omega))) (by have := HB8.out.size; omega) (by simp only; omega)).mono ?_
   rintro e w9 ⟨e1, f1, e2, f2, rfl, hs9, ht9, hb9⟩
   have HB9 := hide (HB8.out.trans (hb9.mono HB8.out.size))
   have HR9 := hide (hRC.below hb9 hRC.lt)
   have hz8 := HB8.out.size
   obtain ⟨y, hy⟩ : ∃ y, y = nmP ⟨g1, g2⟩ := ⟨_, rfl⟩
   rw [← hy] at hs9 ht9 ⊢
   have HY := hide hy
   have HW8 : Hid (w.heap.size + 2 ≤ w8.heap.size) := by have := HRQ.out; have := hRC.lt; unfold Hid; omega
   have HA9 := hide (hs9.mono (Y := fun b => w.heap.size + 2 ≤ b) fun b hb _ => by have := HW8.out; omega)
   have HC9 := hide (ht9.mono (Y := fun b => w.heap.size + 2 ≤ b) fun b hb _ => by have := HW8.out; omega)
   clear hs9 ht9 hy hb9 hRC hBC hCC hbC k0 k1 hz8
   have q0 := HR9.out.cell 0
   have q1 := HR9.out.cell 1
   have q2 := HR9.out.cell 2
   have q3 := HR9.out.cell 3
   have qf := HR9.out.frozen
   have ql : R < w9.heap.size := HR9.out.lt
   go_wp2_with fail
   refine bodyPost_ret (v := .tuple #[.agg #[.string y.l.name, .slice e1 y.l.args.length f1, .string y.r.name, .slice e2 y.r.args.length f2], .int .i64 0]) (by simp [results, Tryz.results22, go_sem, World.cell?_setCell_same, World.cell?_setCell_other, World.cell?_alloc_old, q0, q1, q2, q3, ql]) rfl ?_
   have hk := HRQ.out
   refine ⟨(((HB9.out.setCell (p := ⟨R, 0, none⟩) (by simp; omega) _).setCell (p := ⟨R, 1, none⟩) (by simp; omega) _).setCell (p := ⟨R, 2, none⟩) (by simp; omega) _).setCell (p := ⟨R, 3, none⟩) (by simp; omega) _, Or.inr ⟨?_, ?_, y, e1, f1, e2, f2, ?_, rfl, ?_, ?_⟩⟩
   ·rw [HG2.out]; exact hle1
   ·rw [HG2.out]; exact hle2
   ·rw [HG2.out]; exact HY.out
   ·refine Sl.mono (X := fun b => w.heap.size + 2 ≤ b) ?_ (fun b hb _ => by omega)
    exact sl_set (sl_set (sl_set (sl_set HA9.out (by omega)) (by omega)) (by omega)) (by omega)
   ·refine Sl.mono (X := fun b => w.heap.size + 2 ≤ b) ?_ (fun b hb _ => by omega)
    exact sl_set (sl_set (sl_set (sl_set HC9.out (by omega)) (by omega)) (by omega)) (by omega)
end Go.Proofs.YtbnmlkaejdpigaaGreatDoor
