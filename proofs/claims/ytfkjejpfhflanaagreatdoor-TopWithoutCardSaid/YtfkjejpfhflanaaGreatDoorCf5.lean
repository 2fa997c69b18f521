
/- Walks: comb.From, and the law CombFrom. -/
import Derived.Test.YtfkjejpfhflanaaGreatDoorCf4
import Derived.Test.YtfkjejpfhflanaaGreatDoorZKTopWithoutOwn
namespace Go.Proofs.YtfkjejpfhflanaaGreatDoor
open Go.RowKit
set_option linter.unusedSimpArgs false
set_option linter.unusedVariables false
set_option maxRecDepth 8000

theorem Tb.up {B B' : Nat} {w w' : World} (h : Tb B w) (hb : Below B w w') (hle : B ≤ B') : Tb B' w' := fun w'' h2 => h w'' (hb.trans (h2.mono hle))
theorem lamE_may {t : Lm} (h : lamE 0 0 t = 0) : errM 0 0 [t] = 0 ∧ sizeM [t] ≤ 200 := by
  unfold lamE at h
  rw [if_neg (by omega)] at h
  split at h
  · omega
  · exact ⟨h, by omega⟩
theorem cfrom_zero (n BT : Nat) (t : Lm) (v : Value) (w : World) (X : Nat → Prop) (hn : n ≤ 1000) (he : errM 0 0 [t] = 0) (hv : MV w X v t) (hz : sizeM [t] ≤ n) (hB : BT ≤ w.heap.size) (hT : Tb BT w) :
    Calls Tryz.prog 16 #[v, .int .i64 0] w fun e w' => FmP (cmb 88 n 0 t) w e w' := cfrom_any n BT 0 t v w X (by omega) he hv hz hB hT

set_option maxHeartbeats 2000000 in
theorem cFrom_any (t : Lm) (v : Value) (w : World) (X : Nat → Prop) (hv : MV w X v t) (hT : Tb w.heap.size w) :
    Calls Tryz.prog 6 #[v] w fun e w' => (lamE 0 0 t = 0 → CmP (cmb 88 (sizeM [t]) 0 t) w e w') ∧ (lamE 0 0 t ≠ 0 → e = .returned (.tuple #[.agg #[.string ⟨#[]⟩, .slice none 0 0], .int .i64 (lamE 0 0 t)]) ∧ Below w.heap.size w w') := by
  obtain ⟨a, c, rfl, hs⟩ := hv
  generalize hW : ((w.alloc (.cells #[.int .i64 t.kind, .int .i64 t.idx, .slice a t.subs.length c] 25)).alloc (.cells #[.string ⟨#[]⟩, .slice none 0 0] 30)) = w3
  have K3 : Hid (Below w.heap.size w w3) := by unfold Hid; rw [← hW]; exact ((Below.refl _ _).alloc (Nat.le_refl _) _).alloc (by simp) _
  have T3 : Hid (Blk w3 w.heap.size #[.int .i64 t.kind, .int .i64 t.idx, .slice a t.subs.length c] 25) := by unfold Hid; rw [← hW]; exact (Blk.new w _ _).alloc _
  have R3 : Hid (Blk w3 (w.heap.size + 1) #[.string ⟨#[]⟩, .slice none 0 0] 30) := by
    unfold Hid; rw [← hW]
    have h := Blk.new (w.alloc (.cells #[.int .i64 t.kind, .int .i64 t.idx, .slice a t.subs.length c] 25)) #[.string ⟨#[]⟩, .slice none 0 0] 30
    rw [World.size_alloc] at h
    exact h
  have HZ3 : Hid (w3.heap.size = w.heap.size + 2) := by unfold Hid; rw [← hW]; simp
  have V3 : Hid (∀ w', Below w.heap.size w w' → MV w' X (.agg #[.int .i64 t.kind, .int .i64 t.idx, .slice a t.subs.length c]) t) := fun w' hb => MV.later ⟨a, c, rfl, hs⟩ hb
  have HT : Hid (∀ w', Below w.heap.size w w' → Tb w.heap.size w') := fun w' hb => hT.on hb
  have HW := hide hW
  clear hW hs hT
  go_enter Tryz.func6, Tryz.ntmps6
  go_upto_region 1 with fail
  rw [HW.out]
  clear HW
  obtain ⟨R, hR⟩ : ∃ R, R = w.heap.size + 1 := ⟨_, rfl⟩
  rw [← hR] at R3 ⊢
  obtain ⟨P, hP⟩ : ∃ P, P = w.heap.size := ⟨_, rfl⟩
  rw [← hP] at T3 ⊢
  have HOZ : Hid (R = w.heap.size + 1 ∧ P = w.heap.size) := ⟨hR, hP⟩
  rw [hP]
  clear hR hP
  have c0 : w3.cell? ⟨P, 0, none⟩ = some (.int .i64 t.kind) := T3.out.cell 0
  have c1 : w3.cell? ⟨P, 1, none⟩ = some (.int .i64 t.idx) := T3.out.cell 1
  have c2 : w3.cell? ⟨P, 2, none⟩ = some (.slice a t.subs.length c) := T3.out.cell 2
  have cl := T3.out.lt
  rw [← HOZ.out.2]
  go_wp2_with fail
  refine (lCheck_any t _ 0 _ X (by exact V3.out _ K3.out)).mono ?_
  rintro e w4 ⟨rfl, hb4⟩
  have K4 := hide (K3.out.trans (hb4.mono K3.out.size))
  have T4 := hide (T3.out.below hb4 T3.out.lt)
  have R4 := hide (R3.out.below hb4 R3.out.lt)
  have HS4 := hide hb4.size
  clear hb4 c0 c1 c2 cl
  by_cases he : lamE 0 0 t = 0
  · have HE := hide he
    rw [he]
    obtain ⟨h1, h2⟩ := lamE_may he
    have HE1 := hide h1
    have HE2 := hide h2
    clear he h1 h2
    have c0 : w4.cell? ⟨P, 0, none⟩ = some (.int .i64 t.kind) := T4.out.cell 0
    have c1 : w4.cell? ⟨P, 1, none⟩ = some (.int .i64 t.idx) := T4.out.cell 1
    have c2 : w4.cell? ⟨P, 2, none⟩ = some (.slice a t.subs.length c) := T4.out.cell 2
    have cl := T4.out.lt
    go_wp2_with fail
    refine (cfrom_zero (sizeM [t]) w.heap.size t _ _ X (by have := HE2.out; omega) HE1.out (by exact V3.out _ K4.out) (Nat.le_refl _) K4.out.size (HT.out _ K4.out)).mono ?_
    rintro e w5 ⟨hb5, h⟩
    have K5 := hide (K4.out.trans (hb5.mono K4.out.size))
    have R5 := hide (R4.out.below hb5 R4.out.lt)
    have HS5 := hide (Nat.le_trans HS4.out hb5.size)
    clear hb5 c0 c1 c2 cl
    rcases h with ⟨u, au, cu, hu, rfl, hsu⟩ | ⟨hu, rfl⟩
    · have HU := hide hu
      have R6 := hide (R5.out.alloc (.cells #[.string u.name, .slice au u.args.length cu] 30))
      have K6 : Hid (Below w.heap.size w (w5.alloc (.cells #[.string u.name, .slice au u.args.length cu] 30))) := K5.out.alloc K5.out.size _
      have U6 : Hid (Blk (w5.alloc (.cells #[.string u.name, .slice au u.args.length cu] 30)) w5.heap.size #[.string u.name, .slice au u.args.length cu] 30) := Blk.new w5 _ _
      have SU6 : Hid (Sl (w5.alloc (.cells #[.string u.name, .slice au u.args.length cu] 30)) (fun b => w4.heap.size ≤ b) au u.args) := hsu.later ((Below.refl _ _).alloc (Nat.le_refl _) _)
      clear hsu hu
      go_upto_region 7 with fail
      generalize (w5.alloc (.cells #[.string u.name, .slice au u.args.length cu] 30)) = w6 at *
      obtain ⟨PX, hPX⟩ : ∃ PX, PX = w5.heap.size := ⟨_, rfl⟩
      rw [← hPX] at U6 ⊢
      clear hPX
      have u0 : w6.cell? ⟨PX, 0, none⟩ = some (.string u.name) := U6.out.cell 0
      have u1 : w6.cell? ⟨PX, 1, none⟩ = some (.slice au u.args.length cu) := U6.out.cell 1
      have ul := U6.out.lt
      have y0 : w6.cell? ⟨R, 0, none⟩ = some (.string ⟨#[]⟩) := R6.out.cell 0
      have y1 : w6.cell? ⟨R, 1, none⟩ = some (.slice none 0 0) := R6.out.cell 1
      have yf := R6.out.frozen
      have yl := R6.out.lt
      go_wp2_with fail
      refine bodyPost_ret (v := .tuple #[.agg #[.string u.name, .slice au u.args.length cu], .int .i64 0]) (by simp [results, Tryz.results6, go_sem, World.cell?_setCell_same, World.cell?_setCell_other, y0, y1]) rfl ?_
      refine ⟨fun _ => ⟨(K6.out.setCell (by have := HOZ.out; simp; omega) _).setCell (by have := HOZ.out; simp; omega) _, Or.inl ⟨u, au, cu, HU.out, rfl, ?_⟩⟩, fun h => absurd HE.out h⟩
      have hne : ∀ b, w4.heap.size ≤ b → b ≠ R := fun b hb => by have := HOZ.out; have := HZ3.out; have := HS4.out; omega
      exact (SU6.out.kept fun b hb => by rw [Below.heap_setCell _ _ _ _ (by simpa using hne b hb), Below.heap_setCell _ _ _ _ (by simpa using hne b hb)]).mono fun b hb _ => Nat.le_trans K4.out.size hb
    · have HU := hide hu
      have R6 := hide (R5.out.alloc (.cells #[.string ⟨#[]⟩, .slice none 0 0] 30))
      have K6 : Hid (Below w.heap.size w (w5.alloc (.cells #[.string ⟨#[]⟩, .slice none 0 0] 30))) := K5.out.alloc K5.out.size _
      clear hu
      go_upto_region 6 with fail
      generalize (w5.alloc (.cells #[.string ⟨#[]⟩, .slice none 0 0] 30)) = w6 at *
      have y0 : w6.cell? ⟨R, 0, none⟩ = some (.string ⟨#[]⟩) := R6.out.cell 0
      have y1 : w6.cell? ⟨R, 1, none⟩ = some (.slice none 0 0) := R6.out.cell 1
      have yf := R6.out.frozen
      have yl := R6.out.lt
      go_wp2_with fail
      refine bodyPost_ret (v := .tuple #[.agg #[.string ⟨#[]⟩, .slice none 0 0], .int .i64 8]) (by simp [results, Tryz.results6, go_sem, World.cell?_setCell_same, World.cell?_setCell_other, y0, y1]) rfl ?_
      exact ⟨fun _ => ⟨(K6.out.setCell (by have := HOZ.out; simp; omega) _).setCell (by have := HOZ.out; simp; omega) _, Or.inr ⟨HU.out, rfl⟩⟩, fun h => absurd HE.out h⟩
  · have HE := hide he
    have he' : (lamE 0 0 t == 0) = false := by simpa using he
    obtain ⟨er, her⟩ : ∃ er, er = lamE 0 0 t := ⟨_, rfl⟩
    rw [← her] at he he' HE ⊢
    have HER := hide her
    clear her
    have y0 : w4.cell? ⟨R, 0, none⟩ = some (.string ⟨#[]⟩) := R4.out.cell 0
    have y1 : w4.cell? ⟨R, 1, none⟩ = some (.slice none 0 0) := R4.out.cell 1
    have yf := R4.out.frozen
    have yl := R4.out.lt
    go_wp2_with fail
    refine bodyPost_ret (v := .tuple #[.agg #[.string ⟨#[]⟩, .slice none 0 0], .int .i64 er]) (by simp [results, Tryz.results6, go_sem, World.cell?_setCell_same, World.cell?_setCell_other, y0, y1]) rfl ?_
    have h9 : er = lamE 0 0 t := HER.out
    clear HER
    subst h9
    exact ⟨fun h => absurd h HE.out, fun _ => ⟨rfl, (K4.out.setCell (by have := HOZ.out; simp; omega) _).setCell (by have := HOZ.out; simp; omega) _⟩⟩

end Go.Proofs.YtfkjejpfhflanaaGreatDoor
