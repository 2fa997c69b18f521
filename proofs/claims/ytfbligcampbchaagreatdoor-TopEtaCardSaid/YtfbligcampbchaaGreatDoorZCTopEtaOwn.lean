/- Several texts in one. -/
import Derived.Test.YtfbligcampbchaaGreatDoorZBTopEtaOwn
import Derived.Test.YtfbligcampbchaaGreatDoorZTopEtaOwn
import Derived.Defers
import Derived.Recover
import Derived.Laws.Pointers
import Derived.Ground.SlgnProg
import Derived.Shelf.SlicesE.Clone
import Derived.Deep.RegionHeld3
/- Walks: Text. -/
namespace Go.Proofs.YtfbligcampbchaaGreatDoor
open Go.RowKit
set_option linter.unusedSimpArgs false
set_option linter.unusedVariables false
set_option maxRecDepth 8000

theorem Tb.raise {B B' : Nat} {w w' : World} (h : Tb B w) (hb : Below B w w') (hle : B ≤ B') : Tb B' w' := fun w'' h2 => h w'' (hb.trans (h2.mono hle))

/-- What is wrong with a term that is to be written. -/
def txE (fr : List ByteArray) (t : Lm) : Int := if freE fr = 0 then lamE fr.length 0 t else freE fr
/-- What is written. -/
def txB (fr : List ByteArray) (t : Lm) : List UInt8 := if txE fr t = 0 then ltx fr 0 t else []

theorem lam_ok {u : Int} {t : Lm} (h : lamE u 0 t = 0) : errM u 0 [t] = 0 ∧ sizeM [t] ≤ 200 := by
  unfold lamE at h
  by_cases h1 : u < 0 ∨ 40 < u
  · rw [if_pos h1] at h; cases h
  rw [if_neg h1] at h
  by_cases h2 : 200 < sizeM [t]
  · rw [if_pos h2] at h; cases h
  rw [if_neg h2] at h
  exact ⟨h, by omega⟩
theorem fre_small {fr : List ByteArray} (h : freE fr = 0) : ∀ s ∈ fr, s.size ≤ 8 ∧ 0 < s.size := by
  intro s hs
  obtain ⟨k, hk, rfl⟩ := List.mem_iff_getElem.1 hs
  have h1 := (freE_name h hk).1
  simp [nameB] at h1
  omega
theorem ltx_ne (fr : List ByteArray) (hfr : ∀ s ∈ fr, s.size ≤ 8 ∧ 0 < s.size) (t : Lm) (d : Nat) (u : Int) (he : errM u 0 [t] = 0) (hu : u = fr.length + d) : ltx fr d t ≠ [] := by
  rcases may_look he with ⟨y, rfl, h0, h1⟩ | ⟨b, rfl, hb⟩ | ⟨f, a, rfl, hf, ha⟩ | ⟨y, rfl, h0, h1⟩
  · rw [ltx_bound]
    unfold nmAt
    by_cases hk : (d : Int) - 1 - y < 0
    · rw [if_pos hk]
      have hlt : ((fr.length : Int) + (d - 1 - y)).toNat < fr.length := by omega
      rw [List.getElem?_eq_getElem hlt]
      intro e
      have h2 := (hfr _ (List.getElem_mem hlt)).2
      have h3 := congrArg List.length e
      simp only [Option.getD_some] at h3
      have h4 : (fr[((fr.length : Int) + (d - 1 - y)).toNat]).data.toList.length = (fr[((fr.length : Int) + (d - 1 - y)).toNat]).size := by rw [Array.length_toList]; rfl
      rw [h4] at h3
      simp only [List.length_nil] at h3
      omega
    · rw [if_neg hk]; simp
  · rw [ltx_fun]; simp
  · rw [ltx_app]; simp
  · rw [ltx_con]; simp

set_option maxHeartbeats 2000000 in
theorem bText_any (fr : List ByteArray) (t : Lm) (v : Value) (fa : Option Addr) (fc : Nat) (w : World) (X Y : Nat → Prop) (hv : MV w X v t) (hf : LV Value.string w Y (.slice fa fr.length fc) fr) (hT : Tb w.heap.size w) (h1 : freE fr = 0) (h2 : lamE fr.length 0 t = 0) :
    Calls Tryz.prog 39 #[v, .slice fa fr.length fc] w fun e w' => e = .returned (.string ⟨(ltx fr 0 t).toArray⟩) ∧ Below w.heap.size w w' := by
  obtain ⟨a, c, rfl, hs⟩ := hv
  have hv : MV w X (.agg #[.int .i64 t.kind, .int .i64 t.idx, .slice a t.subs.length c]) t := ⟨a, c, rfl, hs⟩
  have H1 := hide h1
  have H2 := hide (lam_ok h2)
  have HV := hide hv
  have HN := hide hf
  have HT := hide hT
  have K2 := hide (Blk.new w #[.int .i64 t.kind, .int .i64 t.idx, .slice a t.subs.length c] 26)
  have HB2 : Hid (Below w.heap.size w (w.alloc (.cells #[.int .i64 t.kind, .int .i64 t.idx, .slice a t.subs.length c] 26))) := (Below.refl _ _).alloc (Nat.le_refl _) _
  clear hv hs hf hT h1 h2
  go_enter Tryz.func39, Tryz.ntmps39
  go_upto_region 1 with fail
  generalize hw2 : (w.alloc (.cells #[.int .i64 t.kind, .int .i64 t.idx, .slice a t.subs.length c] 26)) = w2 at *
  clear hw2
  have k0 : w2.cell? ⟨w.heap.size, 0, none⟩ = some (.int .i64 t.kind) := K2.out.cell 0
  have k1 : w2.cell? ⟨w.heap.size, 1, none⟩ = some (.int .i64 t.idx) := K2.out.cell 1
  have k2 : w2.cell? ⟨w.heap.size, 2, none⟩ = some (.slice a t.subs.length c) := K2.out.cell 2
  have hlt := K2.out.lt
  go_wp2_with fail
  have HW : Hid (Wrt (w2.alloc (.cells #[.pointer none, .slice none 0 0, .slice fa fr.length fc] 87)) w2.heap.size w2.heap.size (.slice fa fr.length fc) (Lib.byteCells []) (.slice none 0 0)) := ⟨Nat.le_refl _, ⟨_, Or.inl rfl, heap_alloc_new _ _⟩, World.ownsRow_nil _ _ _ _⟩
  have HB3 : Hid (Below w2.heap.size w2 (w2.alloc (.cells #[.pointer none, .slice none 0 0, .slice fa fr.length fc] 87))) := (Below.refl _ _).alloc (Nat.le_refl _) _
  have HX : Hid (MV w (fun b => X b ∧ b < w.heap.size) (.agg #[.int .i64 t.kind, .int .i64 t.idx, .slice a t.subs.length c]) t ∧ LV Value.string w (fun b => Y b ∧ b < w.heap.size) (.slice fa fr.length fc) fr) := ⟨HV.out.mono fun b h1 h2 => ⟨h1, h2⟩, HN.out.mono fun b h1 h2 => ⟨h1, h2⟩⟩
  have hfs := fre_small H1.out
  have hz2 := HB2.out.size
  have hz3 := HB3.out.size
  have h40 := (freE_at H1.out).1
  have HLEN := hide (ltx_len fr (fun s hs => (hfs s hs).1) t _ 0 500 H2.out.1 (by simp) (by have := H2.out.2; omega))
  have hlen : (ltx fr 0 t).length ≤ 1000000 := by have h5 : (500 + 60) * sizeM [t] ≤ 560 * 200 := Nat.mul_le_mul (by omega) H2.out.2; have := HLEN.out; omega
  generalize (w2.alloc (.cells #[.pointer none, .slice none 0 0, .slice fa fr.length fc] 87)) = w3 at *
  have hc0 : ((0 : Nat) : Int) = 0 := rfl
  rw [← hc0]
  refine (wterm_any fr h40 (fun s hs => (hfs s hs).1) t 0 _ _ [] w2.heap.size w2.heap.size fa fc _ (fun b => X b ∧ b < w.heap.size) (fun b => Y b ∧ b < w.heap.size) (by simpa using H2.out.1) (by have := H2.out.2; omega) (by exact (HX.out.1.later HB2.out).later HB3.out) (fun b hb => by have := hb.2; omega) (by exact (HX.out.2.later HB2.out).later HB3.out) (fun b hb => by have := hb.2; omega) (by exact HW.out) hz3 (HT.out.raise (HB2.out.trans (HB3.out.mono hz2)) hz2) (by simp; omega)).mono ?_
  rintro e w4 ⟨rfl, q4, hw4, hf4⟩
  have HW4 : Hid (Wrt w4 w2.heap.size w2.heap.size (.slice fa fr.length fc) (Lib.byteCells (ltx fr 0 t)) q4) := by unfold Hid; rw [List.nil_append] at hw4; exact hw4
  have HB4 := hide (HB2.out.trans ((HB3.out.trans (HW.out.fr hf4 hz3)).mono hz2))
  have HNE := hide (ltx_ne fr hfs t 0 _ H2.out.1 (by simp))
  clear hw4 hf4 HW k0 k1 k2 hlt hc0
  go_wp2_with fail
  refine (stringW_any w2.heap.size w2.heap.size _ q4 (ltx fr 0 t) _ HW4.out HNE.out).mono ?_
  rintro e w5 ⟨rfl, hb5⟩
  have HB5 := hide (HB4.out.trans (hb5.mono hz2))
  clear hb5
  go_wp2_with fail
  go_ret
  exact ⟨rfl, HB5.out⟩

set_option maxHeartbeats 2000000 in
theorem lText_any (fr : List ByteArray) (t : Lm) (v : Value) (fa : Option Addr) (fc : Nat) (w : World) (X Y : Nat → Prop) (hv : MV w X v t) (hf : LV Value.string w Y (.slice fa fr.length fc) fr) (hT : Tb w.heap.size w) :
    Calls Tryz.prog 22 #[v, .slice fa fr.length fc] w fun e w' => e = .returned (.tuple #[.string ⟨(txB fr t).toArray⟩, .int .i64 (txE fr t)]) ∧ Below w.heap.size w w' := by
  obtain ⟨a, c, rfl, hs⟩ := hv
  have hv : MV w X (.agg #[.int .i64 t.kind, .int .i64 t.idx, .slice a t.subs.length c]) t := ⟨a, c, rfl, hs⟩
  have HV := hide hv
  have HN := hide hf
  have HT := hide hT
  have hl := hf
  obtain ⟨a2, c2, e2, ⟨hl1, hl2⟩, _⟩ := hl
  have K0 := hide (Blk.new w #[.int .i64 t.kind, .int .i64 t.idx, .slice a t.subs.length c] 26)
  have HB0 : Hid (Below w.heap.size w (w.alloc (.cells #[.int .i64 t.kind, .int .i64 t.idx, .slice a t.subs.length c] 26))) := (Below.refl _ _).alloc (Nat.le_refl _) _
  clear hv hs hf hT hl2 e2
  generalize hR : (.tuple #[.string ⟨(txB fr t).toArray⟩, .int .i64 (txE fr t)] : Value) = R
  have HR := hide hR
  clear hR
  go_enter Tryz.func22, Tryz.ntmps22
  go_wp2_with fail
  refine (lNames_any fr _ _ Y (by exact HN.out.later HB0.out)).mono ?_
  rintro e w1 ⟨rfl, hb1⟩
  have HB1 := hide (HB0.out.trans (hb1.mono (by simp)))
  have K1 := hide (K0.out.below hb1 K0.out.lt)
  clear hb1
  by_cases h1 : freE fr = 0
  · have H1 := hide h1
    rw [h1]
    clear h1
    have k0 : w1.cell? ⟨w.heap.size, 0, none⟩ = some (.int .i64 t.kind) := K1.out.cell 0
    have k1 : w1.cell? ⟨w.heap.size, 1, none⟩ = some (.int .i64 t.idx) := K1.out.cell 1
    have k2 : w1.cell? ⟨w.heap.size, 2, none⟩ = some (.slice a t.subs.length c) := K1.out.cell 2
    go_wp2_with fail
    refine (lCheck_any t _ _ _ X (by exact HV.out.later HB1.out)).mono ?_
    rintro e w2 ⟨rfl, hb2⟩
    have HB2 := hide (HB1.out.trans (hb2.mono HB1.out.size))
    have K2 := hide (K1.out.below hb2 K1.out.lt)
    clear hb2 k0 k1 k2
    by_cases h2 : lamE fr.length 0 t = 0
    · have HL2 := hide h2
      have HE : Hid (txE fr t = 0) := by unfold Hid txE; rw [if_pos H1.out, h2]
      have HE2 : Hid (txB fr t = ltx fr 0 t) := by unfold Hid txB; rw [if_pos HE.out]
      rw [h2]
      clear h2
      have k0 : w2.cell? ⟨w.heap.size, 0, none⟩ = some (.int .i64 t.kind) := K2.out.cell 0
      have k1 : w2.cell? ⟨w.heap.size, 1, none⟩ = some (.int .i64 t.idx) := K2.out.cell 1
      have k2 : w2.cell? ⟨w.heap.size, 2, none⟩ = some (.slice a t.subs.length c) := K2.out.cell 2
      have hlt := K2.out.lt
      go_wp2_with fail
      refine (bText_any fr t _ fa fc _ X Y (by exact HV.out.later HB2.out) (by exact HN.out.later HB2.out) (HT.out.raise HB2.out HB2.out.size) H1.out HL2.out).mono ?_
      rintro e w5 ⟨rfl, hb5⟩
      have HB5 := hide (HB2.out.trans (hb5.mono HB2.out.size))
      clear hb5 k0 k1 k2 hlt
      go_wp2_with fail
      go_ret2
      exact ⟨by rw [← HR.out, HE2.out, HE.out]; rfl, HB5.out⟩
    · have hne : (lamE fr.length 0 t == 0) = false := by simpa using h2
      have hne2 : (lamE fr.length 0 t != 0) = true := by simpa using h2
      have HE : Hid (.tuple #[.string ⟨#[]⟩, .int .i64 (lamE fr.length 0 t)] = R) := by
        unfold Hid; rw [← HR.out]; unfold txB txE; rw [if_pos H1.out, if_neg h2]
      clear h2
      go_wp2_with fail
      go_ret2
      exact ⟨by rw [← HE.out]; rfl, HB2.out⟩
  · have hne : (freE fr == 0) = false := by simpa using h1
    have hne2 : (freE fr != 0) = true := by simpa using h1
    have HE : Hid (.tuple #[.string ⟨#[]⟩, .int .i64 (freE fr)] = R) := by
      unfold Hid; rw [← HR.out]; unfold txB txE; rw [if_neg h1, if_neg h1]
    clear h1
    go_wp2_with fail
    go_ret2
    exact ⟨by rw [← HE.out]; rfl, HB1.out⟩
end Go.Proofs.YtfbligcampbchaaGreatDoor

/- Walks: reading a text as a lambda term, and what is thrown is caught. -/
namespace Go.Proofs.YtfbligcampbchaaGreatDoor
open Go.RowKit
set_option linter.unusedSimpArgs false
set_option linter.unusedVariables false
set_option maxRecDepth 8000

theorem lread_all (N B : Nat) (s : ByteArray) (hs : s.size ≤ 4000) : ∀ F, (∀ F', F' ≤ F → LTerm N B s F' ∧ LPiece N B s F') := by
  intro F
  induction F with
  | zero =>
    intro F' hF'
    have : F' = 0 := by omega
    subst this
    exact ⟨fun nm nv i k w h h1 h2 h3 h4 => by omega, fun nm nv i k w h h1 h2 h3 h4 => by omega⟩
  | succ F ih =>
    intro F' hF'
    by_cases h : F' = F + 1
    · subst h
      exact ⟨lterm_of N B s hs F (ih F (Nat.le_refl _)).1 (fun F' h => (ih F' h).2), lpiece_of N B s hs F (ih F (Nat.le_refl _)).1⟩
    · exact ih F' (by omega)

theorem assertErrnoL (v : Value) (xT : TypeId) (w : World) : (Instr.typeAssert (.iface 28 v) xT 28 false).run Tryz.prog w = .ok v w := by
  simp [Instr.typeAssert, run_underlying Tryz.underlying28, go_sem, Result.andThen]

theorem catchL_panicking (Pt Pe : Nat) (z z0 : Int) (x0 x1 : Int) (x2 : Value) (w : World) (ht : Blk w Pt #[.int .i64 x0, .int .i64 x1, x2] 26) (he : Blk w Pe #[.int .i64 z0] 28) :
    CallsD Tryz.prog 32 #[.pointer (some ⟨Pt, 0, none⟩), .pointer (some ⟨Pe, 0, none⟩)] (.panicking [{ v := .iface 28 (.int .i64 z), recovered := false }]) w fun e u' w' =>
      e = .returned (.tuple #[]) ∧ u' = .panicking [{ v := .iface 28 (.int .i64 z), recovered := true }] ∧ w' = ((((w.setCell ⟨Pt, 0, none⟩ (.int .i64 0)).setCell ⟨Pt, 1, none⟩ (.int .i64 0)).setCell ⟨Pt, 2, none⟩ (.slice none 0 0)).setCell ⟨Pe, 0, none⟩ (.int .i64 z)).drew := by
  refine callsD_of_wpS Tryz.func32 rfl fun c₀ cs hu => ?_
  apply wpS_seq
  apply wpS_region
  simp [wpOpsS, go_sem, recoverD, hu, Tryz.ntmps32, Exit.thenS]
  apply wpS_seq
  apply wpS_region
  simp [wpOpsS, go_sem, Exit.thenS, Array.replicate]
  refine wpS_cond (t := true) (by simp [Act.eval, Array.replicate]) ?_
  simp only [if_true]
  refine wpS_of_wp ?_
  have t0 : w.cell? ⟨Pt, 0, none⟩ = some (.int .i64 x0) := ht.cell 0
  have t1 : w.cell? ⟨Pt, 1, none⟩ = some (.int .i64 x1) := ht.cell 1
  have t2 : w.cell? ⟨Pt, 2, none⟩ = some x2 := ht.cell 2
  have tf := ht.frozen
  have e0 : w.cell? ⟨Pe, 0, none⟩ = some (.int .i64 z0) := he.cell 0
  have ef := he.frozen
  have hne : ¬ Pt = Pe := fun h => by
    subst h
    unfold Blk at ht he
    rw [ht] at he
    simp at he
  have hne2 : ¬ Pe = Pt := fun h => hne h.symm
  have hta := assertErrnoL (.int .i64 z)
  go_region
  exact ⟨rfl, _, rfl, .tuple #[], by simp [results, Tryz.results32, go_sem], rfl, rfl, rfl⟩

theorem catchL_idle (Pt Pe : Nat) (w : World) :
    CallsD Tryz.prog 32 #[.pointer (some ⟨Pt, 0, none⟩), .pointer (some ⟨Pe, 0, none⟩)] .returning w fun e u' w' => e = .returned (.tuple #[]) ∧ u' = .returning ∧ w' = w := by
  refine callsD_of_wpS Tryz.func32 rfl fun c₀ cs hu => ?_
  apply wpS_seq
  apply wpS_region
  simp [wpOpsS, go_sem, recoverD, hu, Tryz.ntmps32, Exit.thenS]
  apply wpS_seq
  apply wpS_region
  simp [wpOpsS, go_sem, Exit.thenS, Array.replicate]
  refine wpS_cond (t := false) (by simp [Act.eval, Array.replicate]) ?_
  simp only [Bool.false_eq_true, if_false]
  refine wpS_of_wp (wp_skip ?_)
  cases c₀
  simp_all [bodyPostS, results, Tryz.results32]

/-- What making a reader does. -/
def NewPostL (w : World) (s : ByteArray) (e : Ending) (w' : World) : Prop :=
  if 4000 < s.size then e = thrownL 3 ∧ Below w.heap.size w w' else e = .returned (.agg #[.string s, .int .i64 0, .int .i64 0]) ∧ Below w.heap.size w w'
theorem new_anyL (s : ByteArray) (w : World) : Calls Tryz.prog 34 #[.string s] w fun e w' => NewPostL w s e w' := by
  by_cases hs : 4000 < s.size
  · have HP : Hid (∀ w', Below w.heap.size w w' → NewPostL w s (thrownL 3) w') := fun w' h => by unfold NewPostL; rw [if_pos hs]; exact ⟨rfl, h⟩
    go_enter Tryz.func34, Tryz.ntmps34
    go_wp2_with fail
    exact ⟨rfl, HP.out _ (by first | exact Below.refl _ _ | exact (Below.refl _ _).alloc (Nat.le_refl _) _)⟩
  · have HP : Hid (∀ w', Below w.heap.size w w' → NewPostL w s (.returned (.agg #[.string s, .int .i64 0, .int .i64 0])) w') := fun w' h => by unfold NewPostL; rw [if_neg hs]; exact ⟨rfl, h⟩
    go_enter Tryz.func34, Tryz.ntmps34
    go_wp2_with fail
    refine bodyPost_ret (v := .agg #[.string s, .int .i64 0, .int .i64 0]) (by simp [results, Tryz.results34, go_sem, World.cell?_setCell_same, World.cell?_setCell_other]) rfl ?_
    exact HP.out _ (by first | exact Below.refl _ _ | exact (Below.refl _ _).alloc (Nat.le_refl _) _)
def EndPostL (w : World) (e : Ending) (w' : World) : Prop := (∃ v, e = .returned v) ∧ ∃ m, w' = w.drewN m
theorem end_yesL {nv : Value} (B i k : Nat) (s : ByteArray) (he : i = s.size) (w : World) (h : Bl nv w B s i k) :
    Calls Tryz.prog 37 #[.pointer (some ⟨B, 0, none⟩)] w fun e w' => EndPostL w e w' := by
  have HA := hide (atEnd_yesL (nv := nv) B i k s he w h)
  clear he h
  go_enter Tryz.func37, Tryz.ntmps37
  go_wp2_with fail
  refine HA.out.mono ?_
  rintro e w' ⟨rfl, m, rfl⟩
  go_wp2_with fail
  refine bodyPost_ret (v := .tuple #[]) (by simp [results, Tryz.results37, go_sem]) rfl ?_
  exact ⟨⟨_, rfl⟩, m, rfl⟩
theorem end_noL {nv : Value} (B i k : Nat) (s : ByteArray) (he : ¬ i = s.size) (w : World) (h : Bl nv w B s i k) :
    Calls Tryz.prog 37 #[.pointer (some ⟨B, 0, none⟩)] w fun e w' => e = thrownL 12 ∧ ∃ m, w' = w.drewN m := by
  have HA := hide (atEnd_noL (nv := nv) B i k s he w h)
  clear he h
  go_enter Tryz.func37, Tryz.ntmps37
  go_wp2_with fail
  refine HA.out.mono ?_
  rintro e w' ⟨rfl, m, rfl⟩
  go_wp2_with fail
  exact ⟨rfl, rfl, m, rfl⟩

/-- What reading a whole text gives. -/
def lrdAll (s : ByteArray) (fr : List ByteArray) : Lrd :=
  if freE fr ≠ 0 then noLr (freE fr)
  else if 4000 < s.size then noLr 3
  else if (lrd s (3 * s.size + 3) .term fr 0 0).err ≠ 0 then noLr (lrd s (3 * s.size + 3) .term fr 0 0).err
  else if (lrd s (3 * s.size + 3) .term fr 0 0).pos = s.size then lrd s (3 * s.size + 3) .term fr 0 0
  else noLr 12
def ParsePostL (w : World) (r : Lrd) (e : Ending) (w' : World) : Prop :=
  ∃ v, e = .returned (.tuple #[v, .int .i64 r.err]) ∧ (r.err = 0 → MV w' (fun b => w.heap.size ≤ b) v r.t) ∧ (r.err ≠ 0 → v = .agg #[.int .i64 0, .int .i64 0, .slice none 0 0]) ∧ Below w.heap.size w w'
theorem parseL_no {w w' : World} {r : Lrd} {z : Int} (h : r = noLr z) (hz : z ≠ 0) (hb : Below w.heap.size w w') : ParsePostL w r (.returned (.tuple #[.agg #[.int .i64 0, .int .i64 0, .slice none 0 0], .int .i64 z])) w' := by
  subst h
  exact ⟨_, rfl, fun h => absurd h hz, fun _ => rfl, hb⟩

/-- A copy of names. -/
theorem cloneN_any (fr : List ByteArray) (fa : Option Addr) (fc : Nat) (w : World) (Y : Nat → Prop) (hl : fr.length ≤ 1000) (h : LV Value.string w Y (.slice fa fr.length fc) fr) :
    Calls Tryz.prog 35 #[.slice fa fr.length fc] w fun e w' => ∃ v', e = .returned v' ∧ w'.ownsRow w.heap.size 9 1 v' fr.length (fr.map Value.string) ∧ Below w.heap.size w w' := by
  obtain ⟨a2, c2, e2, ⟨_, hc2⟩, h3⟩ := h
  simp at e2
  obtain ⟨rfl, rfl⟩ := e2
  cases fa with
  | none =>
    rcases h3 with rfl | ⟨b, o, e, _⟩
    · refine (Tryz.slices_Clone_string_nil _ _ w).mono ?_
      rintro e w' ⟨rfl, rfl⟩
      exact ⟨_, rfl, World.ownsRow_nil _ _ _ _, Below.refl _ _⟩
    · cases e
  | some ad =>
    by_cases h0 : fr = []
    · subst h0
      refine (Tryz.slices_Clone_string_zero ad fc w).mono ?_
      rintro e w' ⟨v', rfl, ho, _, hb⟩
      exact ⟨v', rfl, ho, hb⟩
    · obtain ⟨b, o, e, _, hcl⟩ := h3.resolve_left h0
      cases e
      refine (Tryz.slices_Clone_string b o fr.length fc fr w (Nat.le_refl _) (by omega) (fun j hj => by
        have := hcl j hj
        rw [this]
        simp [List.getD, hj])).mono ?_
      rintro e w' ⟨v', rfl, ho, _, hb⟩
      exact ⟨v', rfl, by simpa using ho, hb⟩

set_option maxHeartbeats 4000000 in
theorem parseL_any (s : ByteArray) (fr : List ByteArray) (fa : Option Addr) (fc : Nat) (w : World) (Y : Nat → Prop) (hf : LV Value.string w Y (.slice fa fr.length fc) fr) (hT : Tb w.heap.size w) (hS : Tse w.heap.size w) :
    Calls Tryz.prog 20 #[.string s, .slice fa fr.length fc] w fun e w' => ParsePostL w (lrdAll s fr) e w' := by
  have hmf : ∀ (fn : Fn) (first cap : Array Value) (w : World), (Instr.makeFunc fn first cap).run Tryz.prog w = .ok (.func fn first cap) w := fun _ _ _ _ => rfl
  have HN := hide hf
  have HT := hide hT
  have HS := hide hS
  obtain ⟨r, hr⟩ : ∃ r, r = lrdAll s fr := ⟨_, rfl⟩
  have HR0 : Hid (r = if freE fr ≠ 0 then noLr (freE fr) else if 4000 < s.size then noLr 3 else if (lrd s (3 * s.size + 3) .term fr 0 0).err ≠ 0 then noLr (lrd s (3 * s.size + 3) .term fr 0 0).err else if (lrd s (3 * s.size + 3) .term fr 0 0).pos = s.size then lrd s (3 * s.size + 3) .term fr 0 0 else noLr 12) := by unfold Hid; rw [hr]; rfl
  rw [← hr]
  clear hr hf hT hS
  go_enter_defers Tryz.func20, Tryz.ntmps20
  go_wp2_with fail
  have PT2 := hide (show Blk ((w.alloc (.cells #[.int .i64 0, .int .i64 0, .slice none 0 0] 26)).alloc (.cells #[.int .i64 0] 28)) w.heap.size #[.int .i64 0, .int .i64 0, .slice none 0 0] 26 from (Blk.new w _ _).alloc _)
  have PE2 : Hid (Blk ((w.alloc (.cells #[.int .i64 0, .int .i64 0, .slice none 0 0] 26)).alloc (.cells #[.int .i64 0] 28)) (w.heap.size + 1) #[.int .i64 0] 28) := by
    have h := Blk.new (w.alloc (.cells #[.int .i64 0, .int .i64 0, .slice none 0 0] 26)) #[.int .i64 0] 28
    have hz : (w.alloc (.cells #[.int .i64 0, .int .i64 0, .slice none 0 0] 26)).heap.size = w.heap.size + 1 := by simp
    rw [hz] at h
    exact h
  have PB2 := hide (show Below w.heap.size w ((w.alloc (.cells #[.int .i64 0, .int .i64 0, .slice none 0 0] 26)).alloc (.cells #[.int .i64 0] 28)) from ((Below.refl _ _).alloc (Nat.le_refl _) _).alloc (by simp) _)
  have hz2 : ((w.alloc (.cells #[.int .i64 0, .int .i64 0, .slice none 0 0] 26)).alloc (.cells #[.int .i64 0] 28)).heap.size = w.heap.size + 2 := by simp
  generalize ((w.alloc (.cells #[.int .i64 0, .int .i64 0, .slice none 0 0] 26)).alloc (.cells #[.int .i64 0] 28)) = w2 at *
  refine (lNames_any fr _ _ Y (by exact HN.out.later PB2.out)).mono ?_
  rintro e w3 ⟨rfl, hb3⟩
  have PT3 := hide (PT2.out.below hb3 PT2.out.lt)
  have PE3 := hide (PE2.out.below hb3 PE2.out.lt)
  have PB3 := hide (PB2.out.trans (hb3.mono PB2.out.size))
  have hz3 := hb3.size
  clear hb3 PT2 PE2 PB2
  by_cases h1 : freE fr = 0
  case neg =>
    have HRF : Hid (r = noLr (freE fr)) := by unfold Hid; rw [HR0.out, if_pos h1]
    have hne : (freE fr == 0) = false := by simpa using h1
    have hne2 : (freE fr != 0) = true := by simpa using h1
    go_wp2_with fail
    refine leaves_cons (f := 32) (args := #[.pointer (some ⟨w.heap.size, 0, none⟩), .pointer (some ⟨w.heap.size + 1, 0, none⟩)]) (by simp) (by simp [go_sem]) ?_
    refine (catchL_panicking w.heap.size (w.heap.size + 1) (freE fr) 0 _ _ _ w3 PT3.out PE3.out).mono ?_
    rintro e u' w'' ⟨rfl, rfl, rfl⟩
    have Q := (lt_set3 PT3.out (.int .i64 0) (.int .i64 0) (.slice none 0 0)).setOther (b' := w.heap.size + 1) 0 (.int .i64 (freE fr)) (by omega)
    have q0 := Q.cell 0
    have q1 := Q.cell 1
    have q2 := Q.cell 2
    have q3 := ((lt_set3o (B := w.heap.size) PE3.out (by omega) (.int .i64 0) (.int .i64 0) (.slice none 0 0)).set 0 (.int .i64 (freE fr))).cell 0
    simp at q0 q1 q2 q3
    simp [Leaves, settle, results, Tryz.results20, go_sem, q0, q1, q2, q3]
    exact parseL_no HRF.out h1 (((((PB3.out).setCell (by simp) _).setCell (by simp) _).setCell (by simp) _).setCell (by simp) _).drew
  have HR1 := hide (show r = _ from (HR0.out).trans (if_neg (by rw [h1]; simp)))
  have h40 := (freE_at h1).1
  rw [h1]
  clear HR0 h1
  go_wp2_with fail
  refine (new_anyL s w3).mono ?_
  intro e w4 hp
  unfold NewPostL at hp
  by_cases hs : 4000 < s.size
  case pos =>
    rw [if_pos hs] at hp
    obtain ⟨he, hb4⟩ := hp
    unfold thrownL at he
    subst he
    have HRF : Hid (r = noLr 3) := by unfold Hid; rw [HR1.out, if_pos hs]
    have PT4 := PT3.out.below hb4 PT3.out.lt
    have PE4 := PE3.out.below hb4 PE3.out.lt
    have PB4 := PB3.out.trans (hb4.mono PB3.out.size)
    refine leaves_cons (f := 32) (args := #[.pointer (some ⟨w.heap.size, 0, none⟩), .pointer (some ⟨w.heap.size + 1, 0, none⟩)]) (by simp) (by simp [go_sem]) ?_
    refine (catchL_panicking w.heap.size (w.heap.size + 1) (3) 0 _ _ _ w4 PT4 PE4).mono ?_
    rintro e u' w'' ⟨rfl, rfl, rfl⟩
    have Q := (lt_set3 PT4 (.int .i64 0) (.int .i64 0) (.slice none 0 0)).setOther (b' := w.heap.size + 1) 0 (.int .i64 (3)) (by omega)
    have q0 := Q.cell 0
    have q1 := Q.cell 1
    have q2 := Q.cell 2
    have q3 := ((lt_set3o (B := w.heap.size) PE4 (by omega) (.int .i64 0) (.int .i64 0) (.slice none 0 0)).set 0 (.int .i64 (3))).cell 0
    simp at q0 q1 q2 q3
    simp [Leaves, settle, results, Tryz.results20, go_sem, q0, q1, q2, q3]
    exact parseL_no HRF.out (by decide) (((((PB4).setCell (by simp) _).setCell (by simp) _).setCell (by simp) _).setCell (by simp) _).drew
  rw [if_neg hs] at hp
  obtain ⟨rfl, hb4⟩ := hp
  have HR2 := hide (show r = _ from (HR1.out).trans (if_neg hs))
  have PT4 := hide (PT3.out.below hb4 PT3.out.lt)
  have PE4 := hide (PE3.out.below hb4 PE3.out.lt)
  have PB4 := hide (PB3.out.trans (hb4.mono PB3.out.size))
  have hz4 := hb4.size
  clear hb4 PT3 PE3 PB3 HR1
  go_wp2_with fail
  refine (cloneN_any fr fa fc w4 Y (by omega) (by exact HN.out.later PB4.out)).mono ?_
  rintro e w5 ⟨nv, rfl, ho5, hb5⟩
  have PT5 := hide ((PT4.out.below hb5 PT4.out.lt).alloc (.cells #[.string s, .int .i64 0, .int .i64 0, nv] 67))
  have PE5 := hide ((PE4.out.below hb5 PE4.out.lt).alloc (.cells #[.string s, .int .i64 0, .int .i64 0, nv] 67))
  have hz5 := hb5.size
  have PB5 := hide ((PB4.out.trans (hb5.mono PB4.out.size)).alloc (by omega) (.cells #[.string s, .int .i64 0, .int .i64 0, nv] 67))
  have ZX : Hid (Rst w4.heap.size w5.heap.size s fr 0 0 nv (w5.alloc (.cells #[.string s, .int .i64 0, .int .i64 0, nv] 67))) := by
    have hbb : Below w.heap.size w (w5.alloc (.cells #[.string s, .int .i64 0, .int .i64 0, nv] 67)) := PB5.out
    exact ⟨Blk.new w5 _ _, ho5.alloc _, hz5, by simp; omega, HT.out.raise hbb (by omega), HS.out.raise hbb (by omega)⟩
  have hnv : ∃ a k c, nv = .slice a k c := by
    rcases ho5.2 with ⟨h, _⟩ | ⟨g, cap, cur, h, _⟩
    · exact ⟨_, _, _, h⟩
    · exact ⟨_, _, _, h⟩
  obtain ⟨na, nl, nc, rfl⟩ := hnv
  have hlast := hide (lread_all w4.heap.size w5.heap.size s (by omega) (3 * s.size + 3) (3 * s.size + 3) (Nat.le_refl _)).1
  clear ho5 hb5 PT4 PE4 PB4
  go_wp2_with fail
  have hz6 : (w5.alloc (.cells #[.string s, .int .i64 0, .int .i64 0, .slice na nl nc] 67)).heap.size = w5.heap.size + 1 := by simp
  generalize (w5.alloc (.cells #[.string s, .int .i64 0, .int .i64 0, .slice na nl nc] 67)) = w6 at *
  refine (hlast.out fr _ 0 0 w6 ZX.out (by omega) (by omega) (by omega) (by omega)).mono ?_
  intro e w7 hp
  generalize lrd s (3 * s.size + 3) .term fr 0 0 = q at *
  have hPT := PT5.out.lt
  have hPE := PE5.out.lt
  have hn0 : Hid (∀ b, b < w4.heap.size → some b ≠ (Value.slice na nl nc).ownBlock) := fun b hb e => by have := (ZX.out.own.lt _ e.symm).1; omega
  rcases hp with ⟨hr0, nv7, a, c, rfl, hs7, hst7, hf7⟩ | ⟨hr0, rfl, nv7, hf7⟩
  case inr =>
    have HRF : Hid (r = noLr q.err) := by unfold Hid; rw [HR2.out, if_pos hr0]
    have PT7 := blk_bfr PT5.out hf7 (by omega) (hn0.out _ (by omega))
    have PE7 := blk_bfr PE5.out hf7 (by omega) (hn0.out _ (by omega))
    have PB7 := PB5.out.trans ((ZX.out.fr hf7).mono (by omega))
    refine leaves_cons (f := 32) (args := #[.pointer (some ⟨w.heap.size, 0, none⟩), .pointer (some ⟨w.heap.size + 1, 0, none⟩)]) (by simp) (by simp [go_sem]) ?_
    refine (catchL_panicking w.heap.size (w.heap.size + 1) (q.err) 0 _ _ _ w7 PT7 PE7).mono ?_
    rintro e u' w'' ⟨rfl, rfl, rfl⟩
    have Q := (lt_set3 PT7 (.int .i64 0) (.int .i64 0) (.slice none 0 0)).setOther (b' := w.heap.size + 1) 0 (.int .i64 (q.err)) (by omega)
    have q0 := Q.cell 0
    have q1 := Q.cell 1
    have q2 := Q.cell 2
    have q3 := ((lt_set3o (B := w.heap.size) PE7 (by omega) (.int .i64 0) (.int .i64 0) (.slice none 0 0)).set 0 (.int .i64 (q.err))).cell 0
    simp at q0 q1 q2 q3
    simp [Leaves, settle, results, Tryz.results20, go_sem, q0, q1, q2, q3]
    exact parseL_no HRF.out hr0 (((((PB7).setCell (by simp) _).setCell (by simp) _).setCell (by simp) _).setCell (by simp) _).drew
  have HR3 := hide (show r = _ from (HR2.out).trans (if_neg (by rw [hr0]; simp)))
  have PT7 := hide (blk_bfr PT5.out hf7 (by omega) (hn0.out _ (by omega)))
  have PE7 := hide (blk_bfr PE5.out hf7 (by omega) (hn0.out _ (by omega)))
  have PB7 := hide (PB5.out.trans ((ZX.out.fr hf7).mono (by omega)))
  have X7 := hide hst7.bx
  have HQ0 := hide hr0
  have S7 := hide (hs7.mono (Y := fun b => w.heap.size + 2 ≤ b) fun b hb _ => by omega)
  clear hs7 hst7 hf7 hr0 PT5 PE5 PB5 ZX HR2 hlast
  have t0 : w7.cell? ⟨w.heap.size, 0, none⟩ = some (.int .i64 0) := PT7.out.cell 0
  have t1 : w7.cell? ⟨w.heap.size, 1, none⟩ = some (.int .i64 0) := PT7.out.cell 1
  have t2 : w7.cell? ⟨w.heap.size, 2, none⟩ = some (.slice none 0 0) := PT7.out.cell 2
  have tf := PT7.out.frozen
  go_wp2_with fail
  have PT8 := hide (lt_set3 PT7.out (.int .i64 q.t.kind) (.int .i64 q.t.idx) (.slice a q.t.subs.length c))
  have PE8 := hide (lt_set3o (B := w.heap.size) PE7.out (by omega) (.int .i64 q.t.kind) (.int .i64 q.t.idx) (.slice a q.t.subs.length c))
  have X8 : Hid (Bl nv7 (((w7.setCell ⟨w.heap.size, 0, none⟩ (.int .i64 q.t.kind)).setCell ⟨w.heap.size, 1, none⟩ (.int .i64 q.t.idx)).setCell ⟨w.heap.size, 2, none⟩ (.slice a q.t.subs.length c)) w5.heap.size s q.pos q.k) := lt_set3o X7.out (by omega) _ _ _
  have PB8 := hide (((PB7.out.setCell (p := ⟨w.heap.size, 0, none⟩) (by simp) (.int .i64 q.t.kind)).setCell (p := ⟨w.heap.size, 1, none⟩) (by simp) (.int .i64 q.t.idx)).setCell (p := ⟨w.heap.size, 2, none⟩) (by simp) (.slice a q.t.subs.length c))
  have S8 : Hid (SlM (((w7.setCell ⟨w.heap.size, 0, none⟩ (.int .i64 q.t.kind)).setCell ⟨w.heap.size, 1, none⟩ (.int .i64 q.t.idx)).setCell ⟨w.heap.size, 2, none⟩ (.slice a q.t.subs.length c)) (fun b => w.heap.size + 2 ≤ b) a q.t.subs) := S7.out.kept fun b hb => by rw [Below.heap_setCell _ _ _ _ (by simp; omega), Below.heap_setCell _ _ _ _ (by simp; omega), Below.heap_setCell _ _ _ _ (by simp; omega)]
  clear t0 t1 t2 tf
  generalize (((w7.setCell ⟨w.heap.size, 0, none⟩ (.int .i64 q.t.kind)).setCell ⟨w.heap.size, 1, none⟩ (.int .i64 q.t.idx)).setCell ⟨w.heap.size, 2, none⟩ (.slice a q.t.subs.length c)) = w8 at *
  clear PT7 PE7 X7 PB7 S7
  by_cases hps : q.pos = s.size
  case neg =>
    refine (end_noL w5.heap.size q.pos q.k s hps _ X8.out).mono ?_
    rintro e w9 ⟨he, n9, rfl⟩
    unfold thrownL at he
    subst he
    have HRF : Hid (r = noLr 12) := by unfold Hid; rw [HR3.out, if_neg hps]
    have PT9 := PT8.out.drewN n9
    have PE9 := PE8.out.drewN n9
    have PB9 := below_drewN PB8.out n9
    generalize w8.drewN n9 = w9 at *
    refine leaves_cons (f := 32) (args := #[.pointer (some ⟨w.heap.size, 0, none⟩), .pointer (some ⟨w.heap.size + 1, 0, none⟩)]) (by simp) (by simp [go_sem]) ?_
    refine (catchL_panicking w.heap.size (w.heap.size + 1) (12) 0 _ _ _ w9 PT9 PE9).mono ?_
    rintro e u' w'' ⟨rfl, rfl, rfl⟩
    have Q := (lt_set3 PT9 (.int .i64 0) (.int .i64 0) (.slice none 0 0)).setOther (b' := w.heap.size + 1) 0 (.int .i64 (12)) (by omega)
    have q0 := Q.cell 0
    have q1 := Q.cell 1
    have q2 := Q.cell 2
    have q3 := ((lt_set3o (B := w.heap.size) PE9 (by omega) (.int .i64 0) (.int .i64 0) (.slice none 0 0)).set 0 (.int .i64 (12))).cell 0
    simp at q0 q1 q2 q3
    simp [Leaves, settle, results, Tryz.results20, go_sem, q0, q1, q2, q3]
    exact parseL_no HRF.out (by decide) (((((PB9).setCell (by simp) _).setCell (by simp) _).setCell (by simp) _).setCell (by simp) _).drew
  refine (end_yesL w5.heap.size q.pos q.k s hps _ X8.out).mono ?_
  rintro e w9 ⟨⟨v9, rfl⟩, n9, rfl⟩
  have PT9 := hide (PT8.out.drewN n9)
  have PE9 := hide (PE8.out.drewN n9)
  have PB9 := hide (below_drewN PB8.out n9)
  have S9 : Hid (SlM (w8.drewN n9) (fun b => w.heap.size + 2 ≤ b) a q.t.subs) := S8.out.kept fun b hb => rfl
  generalize w8.drewN n9 = w9 at *
  clear PT8 PE8 PB8 S8 X8
  have t0 : w9.cell? ⟨w.heap.size, 0, none⟩ = some (.int .i64 q.t.kind) := PT9.out.cell 0
  have t1 : w9.cell? ⟨w.heap.size, 1, none⟩ = some (.int .i64 q.t.idx) := PT9.out.cell 1
  have t2 : w9.cell? ⟨w.heap.size, 2, none⟩ = some (.slice a q.t.subs.length c) := PT9.out.cell 2
  have tf := PT9.out.frozen
  have e0 : w9.cell? ⟨w.heap.size + 1, 0, none⟩ = some (.int .i64 0) := PE9.out.cell 0
  have ef := PE9.out.frozen
  have HRF : Hid (r = q) := by unfold Hid; rw [HR3.out, if_pos hps]
  go_wp2_with fail
  refine leaves_cons (f := 32) (args := #[.pointer (some ⟨w.heap.size, 0, none⟩), .pointer (some ⟨w.heap.size + 1, 0, none⟩)]) (by simp) (by simp [go_sem]) ?_
  refine (catchL_idle w.heap.size (w.heap.size + 1) _).mono ?_
  rintro e u' w'' ⟨rfl, rfl, rfl⟩
  have Q := (lt_set3 PT9.out (.int .i64 q.t.kind) (.int .i64 q.t.idx) (.slice a q.t.subs.length c)).setOther (b' := w.heap.size + 1) 0 (.int .i64 0) (by omega)
  have q0 := Q.cell 0
  have q1 := Q.cell 1
  have q2 := Q.cell 2
  have q3 := ((lt_set3o (B := w.heap.size) PE9.out (by omega) (.int .i64 q.t.kind) (.int .i64 q.t.idx) (.slice a q.t.subs.length c)).set 0 (.int .i64 0)).cell 0
  simp at q0 q1 q2 q3
  simp [Leaves, settle, results, Tryz.results20, go_sem, q0, q1, q2, q3]
  refine ⟨.agg #[.int .i64 q.t.kind, .int .i64 q.t.idx, .slice a q.t.subs.length c], by rw [HRF.out, HQ0.out], fun _ => ?_, fun h => absurd (by rw [HRF.out]; exact HQ0.out) h, (((PB9.out.setCell (by simp) _).setCell (by simp) _).setCell (by simp) _).setCell (by simp) _⟩
  rw [HRF.out]
  exact ⟨a, c, rfl, (S9.out.kept fun b hb => by rw [Below.heap_setCell _ _ _ _ (by simp; omega), Below.heap_setCell _ _ _ _ (by simp; omega), Below.heap_setCell _ _ _ _ (by simp; omega), Below.heap_setCell _ _ _ _ (by simp; omega)]).mono fun b hb _ => by omega⟩
end Go.Proofs.YtfbligcampbchaaGreatDoor


/- Walks: a term is put in for what is bound from outside, as the document says. -/
namespace Go.Proofs.YtfbligcampbchaaGreatDoor
open Go.RowKit
set_option linter.unusedSimpArgs false
set_option linter.unusedVariables false
set_option maxRecDepth 8000

end Go.Proofs.YtfbligcampbchaaGreatDoor


/- Walks: where a lambda term can step; how often what is bound is used. -/
namespace Go.Proofs.YtfbligcampbchaaGreatDoor
open Go.RowKit
set_option linter.unusedSimpArgs false
set_option linter.unusedVariables false
set_option maxRecDepth 8000

theorem ret_boolM {a b : Bool} (h : a = b) : Ending.returned (.bool a) = .returned (.bool b) := by rw [h]
/-- Each knot has as many below it as its kind asks. -/
def ShM : List Lm → Prop
  | [] => True
  | ⟨k, _, l⟩ :: r => l.length = subsK k ∧ ShM l ∧ ShM r
theorem ShM_nil : ShM [] := by simp [ShM]
theorem ShM_cons (k x : Int) (l r : List Lm) : ShM (⟨k, x, l⟩ :: r) ↔ l.length = subsK k ∧ ShM l ∧ ShM r := by simp [ShM]
theorem ShM.at : ∀ {l : List Lm} (k : Nat) (h : k < l.length), ShM l → ShM [l[k]]
  | [], k, h, _ => by simp at h
  | ⟨s, x, l⟩ :: r, 0, h, hb => by
    rw [ShM_cons] at hb
    exact (ShM_cons s x l []).2 ⟨hb.1, hb.2.1, ShM_nil⟩
  | ⟨s, x, l⟩ :: r, k + 1, h, hb => by
    rw [ShM_cons] at hb
    have := ShM.at (l := r) k (by simpa using h) hb.2.2
    simpa using this
/-- Is there a step at this knot? -/
def rdxT (t : Lm) : Bool := decide (t.kind = 3) && (match t.subs with | [] => false | y :: _ => decide (y.kind = 2))
/-- Is there a step somewhere? -/
def stepM : List Lm → Bool
  | [] => false
  | ⟨k, x, l⟩ :: r => rdxT ⟨k, x, l⟩ || stepM l || stepM r
theorem stepM_append (a b : List Lm) : stepM (a ++ b) = (stepM a || stepM b) := by
  induction a with
  | nil => simp [stepM]
  | cons t r ih => obtain ⟨k, x, l⟩ := t; simp only [List.cons_append, stepM, ih, Bool.or_assoc]
theorem stepM_take (l : List Lm) (k : Nat) (h : k < l.length) : stepM (l.take (k + 1)) = (stepM (l.take k) || stepM [l[k]]) := by
  rw [List.take_succ_eq_append_getElem h, stepM_append]
theorem stepM_of {l : List Lm} {k : Nat} (h : k < l.length) (hs : stepM [l[k]] = true) : stepM l = true := by
  have h1 := stepM_append (l.take (k + 1)) (l.drop (k + 1))
  rw [List.take_append_drop, stepM_take l k h, hs] at h1
  simpa using h1
theorem stepM_one (k x : Int) (l : List Lm) : stepM [⟨k, x, l⟩] = (rdxT ⟨k, x, l⟩ || stepM l) := by simp [stepM]
/-- How often what is bound is used. -/
def usesM : Int → List Lm → Nat
  | _, [] => 0
  | i, ⟨k, x, l⟩ :: r => (if k = 1 then (if x = i then 1 else 0) else usesM (deepK i k) l) + usesM i r
theorem usesM_append (i : Int) (a b : List Lm) : usesM i (a ++ b) = usesM i a + usesM i b := by
  induction a with
  | nil => simp [usesM]
  | cons t r ih => obtain ⟨k, x, l⟩ := t; simp only [List.cons_append, usesM, ih]; omega
theorem usesM_take (i : Int) (l : List Lm) (k : Nat) (h : k < l.length) : usesM i (l.take (k + 1)) = usesM i (l.take k) + usesM i [l[k]] := by
  rw [List.take_succ_eq_append_getElem h, usesM_append]
theorem usesM_le (l : List Lm) : ∀ i, usesM i l ≤ sizeM l := by
  induction l using Lm.indL with
  | h0 => intro i; simp [usesM]
  | h k x l r ihl ihr =>
    intro i
    have h1 := ihl (deepK i k)
    have h2 := ihr i
    rw [usesM, sizeM]
    split
    · split <;> omega
    · omega

end Go.Proofs.YtfbligcampbchaaGreatDoor

/- Plain: the first step of a lambda term, and what it becomes at last. -/
namespace Go.Proofs.YtfbligcampbchaaGreatDoor
open Go.RowKit
set_option linter.unusedSimpArgs false
set_option linter.unusedVariables false
set_option maxRecDepth 8000

/-- What an applied binder becomes. -/
def conT : List Lm → Lm
  | [⟨_, _, [b]⟩, z] => insT z 0 b
  | _ => ⟨0, 0, []⟩
/-- The first that has a step is worked on. -/
def repF (f : Lm → Lm) : List Lm → List Lm
  | [] => []
  | y :: r => if stepM [y] = true then f y :: r else y :: repF f r
/-- Is the step done at this knot? -/
def hereT (inn : Bool) (t : Lm) : Bool := rdxT t && (!inn || !stepM t.subs)
def stpT (inn : Bool) : Nat → Lm → Lm
  | 0, t => t
  | n + 1, ⟨k, x, l⟩ => if hereT inn ⟨k, x, l⟩ = true then conT l else ⟨k, x, repF (stpT inn n) l⟩
/-- What a term becomes at last: an error or none, the term, how many steps. -/
def endM (inn : Bool) : Nat → Lm → Int × Lm × Nat
  | 0, t => if stepM [t] = true then (9, t, 0) else (0, t, 0)
  | k + 1, t => if stepM [t] = true then (if 2000 < sizeM [stpT inn 2001 t] then (8, t, 0) else ((endM inn k (stpT inn 2001 t)).1, (endM inn k (stpT inn 2001 t)).2.1, (endM inn k (stpT inn 2001 t)).2.2 + 1)) else (0, t, 0)
theorem knE_zero {u m k x : Int} {n : Nat} : knE u m k x n = 0 ↔ (1 ≤ k ∧ k ≤ 5) ∧ n = subsK k ∧ 0 ≤ x ∧ x < mostK u m k := by
  unfold knE
  constructor
  · intro h
    split at h
    · cases h
    · split at h
      · cases h
      · split at h
        · cases h
        · omega
  · rintro ⟨h1, h2, h3, h4⟩
    rw [if_neg (by omega), if_neg (by omega), if_neg (by omega)]
theorem err_two0 {u m : Int} {t : Lm} {r : List Lm} : errM u m (t :: r) = 0 ↔ errM u m [t] = 0 ∧ errM u m r = 0 := by
  rw [errM_cons]
  constructor
  · intro h
    split at h
    · rename_i h1; exact ⟨h1, h⟩
    · rename_i h1; exact absurd h h1
  · rintro ⟨h1, h2⟩; rw [if_pos h1]; exact h2
theorem err_one0 {u m k x : Int} {l : List Lm} : errM u m [⟨k, x, l⟩] = 0 ↔ knE u m k x l.length = 0 ∧ errM (deepK u k) m l = 0 := by
  constructor
  · intro h
    by_cases h1 : knE u m k x l.length = 0
    · rw [errM_good h1] at h; exact ⟨h1, h⟩
    · rw [errM_bad h1] at h; exact absurd h h1
  · rintro ⟨h1, h2⟩; rw [errM_good h1]; exact h2
theorem err_all0 {u m : Int} {l : List Lm} : errM u m l = 0 ↔ ∀ t ∈ l, errM u m [t] = 0 := by
  induction l with
  | nil => simp [errM]
  | cons t r ih => rw [err_two0, ih]; simp
theorem sh_of_err (l : List Lm) : ∀ u m, errM u m l = 0 → ShM l := by
  induction l using Lm.indL with
  | h0 => intro _ _ _; exact ShM_nil
  | h k x l r ihl ihr =>
    intro u m h
    obtain ⟨h1, h2⟩ := err_two0.1 h
    obtain ⟨h3, h4⟩ := err_one0.1 h1
    exact (ShM_cons k x l r).2 ⟨(knE_zero.1 h3).2.1, ihl _ _ h4, ihr _ _ h2⟩
theorem hig_len (y d : Int) (l : List Lm) : (higM y d l).length = l.length := by rw [higM_map]; simp
theorem ins_len (z : Lm) (d : Int) (l : List Lm) : (insM z d l).length = l.length := by rw [insM_map]; simp
theorem mostK_ne {u u' m k : Int} (h : k ≠ 1) : mostK u m k = mostK u' m k := by unfold mostK; rw [if_neg h, if_neg h]
/-- What is moved is as good as before. -/
theorem err_hig (m : Int) (l : List Lm) : ∀ u c y : Int, 0 ≤ u → 0 ≤ c → 0 ≤ y → errM (u + c) m l = 0 → errM (u + c + y) m (higM y c l) = 0 := by
  induction l using Lm.indL with
  | h0 => intro u c y _ _ _ _; simp [higM, errM]
  | h k x l r ihl ihr =>
    intro u c y hu hc hy h
    obtain ⟨h1, h2⟩ := err_two0.1 h
    obtain ⟨h3, h4⟩ := err_one0.1 h1
    obtain ⟨a1, a2, a3, a4⟩ := knE_zero.1 h3
    rw [higM]
    refine err_two0.2 ⟨?_, ihr u c y hu hc hy h2⟩
    by_cases hk : k = 1
    · subst hk
      have hl : l = [] := List.length_eq_zero_iff.1 (by rw [a2]; rfl)
      subst hl
      have a5 : x < u + c := by simpa [mostK] using a4
      rw [if_pos rfl]
      split
      · exact err_one0.2 ⟨knE_zero.2 ⟨a1, a2, a3, by show x < mostK _ _ 1; simp [mostK]; omega⟩, by simp [errM]⟩
      · exact err_one0.2 ⟨knE_zero.2 ⟨by omega, rfl, by omega, by show x + y < mostK _ _ 1; simp [mostK]; omega⟩, by simp [errM]⟩
    · rw [if_neg hk]
      refine err_one0.2 ⟨knE_zero.2 ⟨a1, by rw [hig_len]; exact a2, a3, by rw [mostK_ne hk (u' := u + c)]; exact a4⟩, ?_⟩
      by_cases h2 : k = 2
      · subst h2
        have e1 : deepK (u + c + y) 2 = u + (c + 1) + y := by simp [deepK]; omega
        have e2 : deepK c 2 = c + 1 := by simp [deepK]
        have e3 : deepK (u + c) 2 = u + (c + 1) := by simp [deepK]; omega
        rw [e1, e2]
        rw [e3] at h4
        exact ihl u (c + 1) y hu (by omega) hy h4
      · have e1 : ∀ z, deepK z k = z := fun z => by simp [deepK, h2]
        rw [e1, e1]
        rw [e1] at h4
        exact ihl u c y hu hc hy h4
theorem err_higT {m u c y : Int} {t : Lm} (hu : 0 ≤ u) (hc : 0 ≤ c) (hy : 0 ≤ y) (h : errM (u + c) m [t] = 0) : errM (u + c + y) m [higT y c t] = 0 := by
  have := err_hig m [t] u c y hu hc hy h
  rw [higM_map] at this
  exact this
theorem err_ins (m : Int) (z : Lm) (l : List Lm) : ∀ u c : Int, 0 ≤ u → 0 ≤ c → errM u m [z] = 0 → errM (u + c + 1) m l = 0 → errM (u + c) m (insM z c l) = 0 := by
  induction l using Lm.indL with
  | h0 => intro u c _ _ _ _; simp [insM, errM]
  | h k x l r ihl ihr =>
    intro u c hu hc hz h
    obtain ⟨h1, h2⟩ := err_two0.1 h
    obtain ⟨h3, h4⟩ := err_one0.1 h1
    obtain ⟨a1, a2, a3, a4⟩ := knE_zero.1 h3
    rw [insM]
    refine err_two0.2 ⟨?_, ihr u c hu hc hz h2⟩
    by_cases hk : k = 1
    · subst hk
      have hl : l = [] := List.length_eq_zero_iff.1 (by rw [a2]; rfl)
      subst hl
      have a5 : x < u + c + 1 := by simpa [mostK] using a4
      rw [if_pos rfl]
      split
      · exact err_one0.2 ⟨knE_zero.2 ⟨a1, a2, a3, by show x < mostK _ _ 1; simp [mostK]; omega⟩, by simp [errM]⟩
      · split
        · have h9 := err_higT (m := m) (u := u) (c := 0) (y := c) (t := z) hu (by omega) hc (by simpa using hz)
          simpa using h9
        · exact err_one0.2 ⟨knE_zero.2 ⟨by omega, rfl, by omega, by show x - 1 < mostK _ _ 1; simp [mostK]; omega⟩, by simp [errM]⟩
    · rw [if_neg hk]
      refine err_one0.2 ⟨knE_zero.2 ⟨a1, by rw [ins_len]; exact a2, a3, by rw [mostK_ne hk (u' := u + c + 1)]; exact a4⟩, ?_⟩
      by_cases h2 : k = 2
      · subst h2
        have e1 : deepK (u + c) 2 = u + (c + 1) := by simp [deepK]; omega
        have e2 : deepK c 2 = c + 1 := by simp [deepK]
        have e3 : deepK (u + c + 1) 2 = u + (c + 1) + 1 := by simp [deepK]; omega
        rw [e1, e2]
        rw [e3] at h4
        exact ihl u (c + 1) hu (by omega) hz h4
      · have e1 : ∀ z, deepK z k = z := fun z => by simp [deepK, h2]
        rw [e1, e1]
        rw [e1] at h4
        exact ihl u c hu hc hz h4
theorem err_insT {m u : Int} {z t : Lm} (hu : 0 ≤ u) (hz : errM u m [z] = 0) (h : errM (u + 1) m [t] = 0) : errM u m [insT z 0 t] = 0 := by
  have := err_ins m z [t] u 0 hu (by omega) hz (by simpa using h)
  rw [insM_map] at this
  simpa using this
theorem subs_two {t : Lm} {u m : Int} (he : errM u m [t] = 0) (hr : rdxT t = true) : ∃ x i b z, t = ⟨3, x, [⟨2, i, [b]⟩, z]⟩ ∧ errM (u + 1) m [b] = 0 ∧ errM u m [z] = 0 := by
  obtain ⟨k, x, l⟩ := t
  obtain ⟨h3, h4⟩ := err_one0.1 he
  obtain ⟨a1, a2, a3, a4⟩ := knE_zero.1 h3
  unfold rdxT at hr
  simp only [Bool.and_eq_true, decide_eq_true_eq] at hr
  obtain ⟨rfl, hr⟩ := hr
  have a5 : l.length = 2 := by rw [a2]; rfl
  match l, a5 with
  | [⟨k1, i, lb⟩, z], _ =>
    simp only [decide_eq_true_eq] at hr
    subst hr
    have e1 : deepK u 3 = u := by simp [deepK]
    rw [e1] at h4
    obtain ⟨h5, h6⟩ := err_two0.1 h4
    obtain ⟨h7, h8⟩ := err_one0.1 h5
    obtain ⟨b1, b2, b3, b4⟩ := knE_zero.1 h7
    have b5 : lb.length = 1 := by rw [b2]; rfl
    match lb, b5 with
    | [b], _ =>
      have e2 : deepK u 2 = u + 1 := by simp [deepK]
      rw [e2] at h8
      exact ⟨x, i, b, z, rfl, h8, h6⟩
theorem repF_len (f : Lm → Lm) : ∀ l : List Lm, (repF f l).length = l.length
  | [] => rfl
  | y :: r => by
    unfold repF
    split
    · rfl
    · simp [repF_len f r]
/-- What it is, where the first that has a step is the i-th. -/
theorem repF_at (f : Lm → Lm) : ∀ (l : List Lm) (i : Nat) (h : i < l.length), stepM (l.take i) = false → stepM [l[i]] = true → repF f l = l.set i (f l[i])
  | y :: r, 0, h, _, hs => by
    have hs' : stepM [y] = true := hs
    unfold repF
    rw [if_pos hs']; rfl
  | y :: r, i + 1, h, h0, hs => by
    have e : stepM (y :: r.take i) = (stepM [y] || stepM (r.take i)) := stepM_append [y] (r.take i)
    rw [List.take_succ_cons, e, Bool.or_eq_false_iff] at h0
    unfold repF
    rw [if_neg (by rw [h0.1]; simp), repF_at f r i (by simpa using h) h0.2 (by simpa using hs)]
    rfl
theorem repF_mem {f : Lm → Lm} : ∀ {l : List Lm} {y : Lm}, y ∈ repF f l → y ∈ l ∨ ∃ z ∈ l, y = f z
  | [], y, h => by simp [repF] at h
  | z :: r, y, h => by
    unfold repF at h
    split at h
    · rcases List.mem_cons.1 h with rfl | h
      · exact Or.inr ⟨z, by simp, rfl⟩
      · exact Or.inl (by simp [h])
    · rcases List.mem_cons.1 h with rfl | h
      · exact Or.inl (by simp)
      · rcases repF_mem h with h | ⟨q, hq, e⟩
        · exact Or.inl (by simp [h])
        · exact Or.inr ⟨q, by simp [hq], e⟩
/-- A step leaves a term as good as it was. -/
theorem err_stp (inn : Bool) (m : Int) (n : Nat) : ∀ (t : Lm) (u : Int), 0 ≤ u → errM u m [t] = 0 → errM u m [stpT inn n t] = 0 := by
  induction n with
  | zero => intro t u _ h; exact h
  | succ n ih =>
    intro t u hu h
    obtain ⟨k, x, l⟩ := t
    rw [stpT]
    split
    · rename_i hh
      unfold hereT at hh
      simp only [Bool.and_eq_true] at hh
      obtain ⟨x', i, b, z, e, h1, h2⟩ := subs_two h hh.1
      cases e
      exact err_insT hu h2 h1
    · obtain ⟨h3, h4⟩ := err_one0.1 h
      refine err_one0.2 ⟨by rw [repF_len]; exact h3, err_all0.2 fun y hy => ?_⟩
      have hd : 0 ≤ deepK u k := by unfold deepK; split <;> omega
      rcases repF_mem hy with hy | ⟨z, hz, rfl⟩
      · exact err_all0.1 h4 y hy
      · exact ih z _ hd (err_all0.1 h4 z hz)
theorem sizeM_one (k x : Int) (l : List Lm) : sizeM [⟨k, x, l⟩] = 1 + sizeM l := by simp [sizeM]
theorem sizeM_posL (t : Lm) : 0 < sizeM [t] := by obtain ⟨k, x, l⟩ := t; rw [sizeM_one]; omega
theorem sizeM_get (l : List Lm) (i : Nat) (h : i < l.length) : sizeM [l[i]] ≤ sizeM l := by
  have h1 := sizeM_append (l.take (i + 1)) (l.drop (i + 1))
  rw [List.take_append_drop, sizeM_take l i h] at h1
  omega
theorem sizeM_set (l : List Lm) (i : Nat) (h : i < l.length) (y : Lm) : sizeM [y] ≤ sizeM (l.set i y) := by
  have h2 : i < (l.set i y).length := by simpa using h
  have := sizeM_get (l.set i y) i h2
  simpa using this
/-- What is handed over at a step: whether it is small; the term, where it is. -/
def FsOk (inn : Bool) (n : Nat) (t : Lm) (x : Lm) (ok : Bool) : Prop := (ok = true → x = stpT inn n t) ∧ (ok = false → 2000 < sizeM [stpT inn n t])
theorem FsOk.up {inn : Bool} {n : Nat} {k x : Int} {l : List Lm} {i : Nat} (h : i < l.length) (hh : hereT inn ⟨k, x, l⟩ = false) (h0 : stepM (l.take i) = false) (h1 : stepM [l[i]] = true) {y : Lm} {ok : Bool} (hf : FsOk inn n l[i] y ok) : FsOk inn (n + 1) ⟨k, x, l⟩ ⟨k, x, l.set i y⟩ ok := by
  have e : stpT inn (n + 1) ⟨k, x, l⟩ = ⟨k, x, l.set i (stpT inn n l[i])⟩ := by
    rw [stpT, if_neg (by rw [hh]; simp), repF_at _ l i h h0 h1]
  refine ⟨fun hk => by rw [e, hf.1 hk], fun hk => ?_⟩
  have := hf.2 hk
  have h3 := sizeM_set l i h (stpT inn n l[i])
  rw [e, sizeM_one]
  omega
theorem FsOk.at {inn : Bool} {n : Nat} {t : Lm} (hh : hereT inn t = true) {y : Lm} {ok : Bool} (h1 : ok = true → y = conT t.subs) (h2 : ok = false → 2000 < sizeM [conT t.subs]) : FsOk inn (n + 1) t y ok := by
  obtain ⟨k, x, l⟩ := t
  have e : stpT inn (n + 1) ⟨k, x, l⟩ = conT l := by rw [stpT, if_pos hh]
  exact ⟨fun h => by rw [e, h1 h], fun h => by rw [e]; exact h2 h⟩
end Go.Proofs.YtfbligcampbchaaGreatDoor

/- The fact that what is applied to itself takes a step: its text is read, its term worked out and written. -/
namespace Go.Proofs.YtfbligcampbchaaGreatDoor
open Go.RowKit
set_option linter.unusedSimpArgs false
set_option linter.unusedVariables false
set_option maxRecDepth 8000

/-- The text, its term, and what that becomes. -/
def apS : ByteArray := ⟨#[40, 92, 121, 46, 121, 32, 121, 41, 32, 99, 49]⟩
def apC : Lm := ⟨4, 1, []⟩
def apY : Lm := ⟨1, 0, []⟩
def apB : Lm := ⟨3, 0, [apY, apY]⟩
def apT : Lm := ⟨3, 0, [⟨2, 0, [apB]⟩, apC]⟩
def apE : Lm := ⟨3, 0, [apC, apC]⟩
def apN : ByteArray := ⟨#[121]⟩
def apK : ByteArray := ⟨#[99, 49]⟩

theorem ap_dec : Lib.decDigits 1 = [49] := by rw [Lib.decDigits, dif_pos (by decide)]; rfl
theorem ap_nameY {i : Nat} (h : stopAt apS i = i + 1) (he : apS.extract i (i + 1) = apN) : nameE apS i = 0 := by
  unfold nameE
  rw [h, he, if_neg (by omega), if_neg (by decide)]
theorem ap_y (F k p i : Nat) (h : stopAt apS i = i + 1) (he : apS.extract i (i + 1) = apN) (hb : byteAt apS i = 121) (hk : k < 200) (hp : p = i + 1) : lrd apS (F + 1) .piece [apN] i k = ⟨0, apY, p, k + 1⟩ := by
  subst hp
  rw [lrd, if_neg (by rw [hb]; omega), if_neg (by rw [ap_nameY h he]; simp), if_neg (by omega), h, he]
  have : lastN apN [apN] = some 0 := by simp [lastN]
  unfold namedL
  rw [this]
  rfl
theorem ap_c (F k : Nat) (hk : k < 200) : lrd apS (F + 1) .piece [] 9 k = ⟨0, apC, 11, k + 1⟩ := by
  have h1 : stopAt apS 9 = 11 := by decide
  have h2 : apS.extract 9 11 = apK := by decide
  have hb : byteAt apS 9 = 99 := by decide
  have hn : nameE apS 9 = 0 := by
    unfold nameE
    rw [h1, h2, if_neg (by omega), if_neg (by decide)]
  have hc : conN apK = some 1 := conN_is (by decide) (by rw [ap_dec]; rfl)
  rw [lrd, if_neg (by rw [hb]; omega), if_neg (by rw [hn]; simp), if_neg (by omega), h1, h2]
  unfold namedL
  have : lastN apK [] = none := rfl
  rw [this, hc]
  rfl
/-- The body of the binder. -/
theorem ap_body (F k : Nat) (hk : k < 100) : lrd apS (F + 4) .term [apN] 4 k = ⟨0, apB, 7, k + 3⟩ := by
  have b4 : byteAt apS 4 = 121 := by decide
  have b5 : byteAt apS 5 = 32 := by decide
  have b7 : byteAt apS 7 = 41 := by decide
  rw [lrd, if_neg (by rw [b4]; omega), ap_y (F + 2) k 5 4 (by decide) (by decide) b4 (by omega) rfl]
  simp only [ne_eq, not_true_eq_false, if_false]
  rw [lrd, if_pos ⟨by decide, b5⟩, if_neg (by omega), ap_y (F + 1) (k + 1 + 1) 7 6 (by decide) (by decide) (by decide) (by omega) rfl]
  simp only [ne_eq, not_true_eq_false, if_false]
  rw [lrd, if_neg (by rw [b7]; omega)]
  rfl
theorem ap_fun (F k : Nat) (hk : k < 90) : lrd apS (F + 5) .term [] 1 k = ⟨0, ⟨2, 0, [apB]⟩, 7, k + 4⟩ := by
  have b1 : byteAt apS 1 = 92 := by decide
  have h2 : stopAt apS 2 = 3 := by decide
  have he : apS.extract 2 3 = apN := by decide
  have ha : askE apS 3 46 = 0 := by decide
  rw [lrd, if_pos ⟨by decide, b1⟩, if_neg (by omega), if_neg (by rw [ap_nameY h2 he]; simp), h2, if_neg (by rw [ha]; simp), he]
  have := ap_body F (k + 1) (by omega)
  simp only [List.nil_append, Nat.reduceAdd] at this ⊢
  rw [this]
  simp
theorem ap_all (F : Nat) : lrd apS (F + 8) .term [] 0 0 = ⟨0, apT, 11, 6⟩ := by
  have b0 : byteAt apS 0 = 40 := by decide
  have b8 : byteAt apS 8 = 32 := by decide
  have ha : askE apS 7 41 = 0 := by decide
  have hp : lrd apS (F + 7) .piece [] 0 0 = ⟨0, ⟨2, 0, [apB]⟩, 8, 4⟩ := by
    have := ap_fun (F + 1) 0 (by omega)
    rw [lrd, if_pos ⟨by decide, b0⟩]
    simp only [Nat.zero_add] at this ⊢
    rw [this]
    simp [ha]
  rw [lrd, if_neg (by rw [b0]; omega), hp]
  simp only [ne_eq, not_true_eq_false, if_false]
  rw [lrd, if_pos ⟨by decide, b8⟩, if_neg (by omega), ap_c (F + 5) 5 (by omega)]
  simp only [ne_eq, not_true_eq_false, if_false]
  rw [lrd, if_neg (by rw [show apS.size = 11 from rfl]; omega)]
  rfl
theorem ap_read : (lrdAll apS []).err = 0 ∧ (lrdAll apS []).t = apT := by
  have h := ap_all 28
  have hf : freE [] = 0 := by decide
  unfold lrdAll
  rw [hf, show 3 * apS.size + 3 = 28 + 8 from rfl, h]
  rw [if_neg (by simp), if_neg (by decide)]
  simp [show apS.size = 11 from rfl]
theorem ap_may : lamE 0 0 apT = 0 := by
  unfold lamE
  simp [apT, apB, apY, apC, sizeM, errM, knE, subsK, mostK, deepK]
theorem ap_end : endM false 5 apT = (0, apE, 1) := by
  have h1 : stepM [apT] = true := by simp [apT, stepM, rdxT]
  have h2 : stpT false 2001 apT = apE := by
    show stpT false (2000 + 1) ⟨3, 0, [⟨2, 0, [apB]⟩, apC]⟩ = apE
    rw [stpT, if_pos (by simp [hereT, rdxT])]
    simp [conT, insT, insM, apB, apY, apC, apE, higT, higM, deepK]
  have h3 : stepM [apE] = false := by simp [apE, apC, stepM, rdxT]
  have h4 : sizeM [apE] = 3 := by simp [apE, apC, sizeM]
  rw [endM, if_pos h1, h2, if_neg (by rw [h4]; omega)]
  rw [endM, if_neg (by rw [h3]; simp)]
/-- What is written. -/
theorem ap_text : txE [] apE = 0 ∧ txB [] apE = [99, 49, 32, 99, 49] := by
  have h0 : txE [] apE = 0 := by
    unfold txE
    have hf : freE [] = 0 := by decide
    rw [hf, if_pos rfl]
    unfold lamE
    simp [apE, apC, sizeM, errM, knE, subsK, mostK, deepK]
  refine ⟨h0, ?_⟩
  unfold txB
  rw [if_pos h0]
  show ltx [] 0 ⟨3, 0, [⟨4, 1, []⟩, ⟨4, 1, []⟩]⟩ = _
  rw [ltx_app, ltx_con]
  simp [brk, ap_dec]
end Go.Proofs.YtfbligcampbchaaGreatDoor

/- Lambda terms: the library's Clone at their rows; one who takes the first step that he is handed. -/
namespace Go.Proofs.YtfbligcampbchaaGreatDoor
open Go.RowKit Go.Shelf
set_option linter.unusedSimpArgs false
set_option linter.unusedVariables false
set_option maxRecDepth 8000

def clm_ren : Go.Shelf.Ren := ⟨fun | 41 => 62 | n => n, fun | 22 => 24 | 23 => 26 | 4 => 4 | n => n, fun | n => n⟩
theorem clm_lays : Go.Proofs.SlLaysE0.n41 Tryz.prog clm_ren := {
  mixed := by kernel_rfl
  f41 := ⟨Tryz.f62.name, by decide, Tryz.func62.trans (congrArg some (by kernel_rfl))⟩
  t4 := Tryz.underlying4
  a4 := Tryz.isAgg4
  z4 := Tryz.sizeOf4
  v4 := Tryz.zeroValue4
  t22 := Tryz.underlying24
  a22 := Tryz.isAgg24
  z22 := Tryz.sizeOf24
  v22 := Tryz.zeroValue24 }
/-- A row of lambda terms cloned: its cells lie in memory of the call's own. -/
theorem cloneM_any (b off n c : Nat) (news : List Value) (w : World) (hl : news.length = n * 3) (hn : n ≤ 1000000) (hc : ∀ j u, news[j]? = some u → w.cell? ⟨b, off + j, none⟩ = some u) (h1 : ∀ u ∈ news, u.oneCell' = true) :
    Calls Tryz.prog 62 #[.slice (some ⟨b, off, none⟩) n c] w fun e w' => ∃ v', e = .returned v' ∧ w'.ownsRow w.heap.size 26 3 v' n news ∧ v' ≠ .slice none 0 0 ∧ Below w.heap.size w w' := by
  obtain ⟨i0, hi, hz0, hz1, hz2⟩ := info_parts Tryz.infoLam
  exact AnyE.slices_Clone clm_lays i0 _ 3 40 hi hz0 hz1 hz2 rfl (by decide) Tryz.sizeOf26 b off n c news w hl (by unfold maxLen; omega) (by omega) hc h1
theorem rowTM_of_lies {w : World} {X : Nat → Prop} : ∀ (l : List Lm) (b o : Nat), LiesM w X b o l → ∃ xs, RowTM w X l xs ∧ ∀ j u, xs[j]? = some u → w.cell? ⟨b, o + j, none⟩ = some u := by
  intro l
  induction l with
  | nil => intro b o _; exact ⟨[], rfl, by simp⟩
  | cons t r ih =>
    intro b o h
    obtain ⟨s, x, k⟩ := t
    simp only [LiesM] at h
    obtain ⟨hx, h1, h1', ⟨a, c, h2, h3, h4⟩, h5⟩ := h
    obtain ⟨xs, hr, hc⟩ := ih b (o + 3) h5
    refine ⟨.int .i64 s :: .int .i64 x :: .slice a k.length c :: xs, ⟨a, c, xs, rfl, ⟨h3, h4⟩, hr⟩, fun j u hj => ?_⟩
    match j, hj with
    | 0, hj => simp at hj; subst hj; exact h1
    | 1, hj => simp at hj; subst hj; exact h1'
    | 2, hj => simp at hj; subst hj; exact h2
    | j + 3, hj => rw [show o + (j + 3) = o + 3 + j by omega]; exact hc j u (by simpa using hj)
theorem RowTM.one {w : World} {X : Nat → Prop} : ∀ {l : List Lm} {xs : List Value}, RowTM w X l xs → ∀ u ∈ xs, u.oneCell' = true
  | [], xs, h, u, hu => by simp [RowTM] at h; subst h; cases hu
  | t :: l, xs, h, u, hu => by
    obtain ⟨a, c, r, rfl, _, h⟩ := h
    rcases List.mem_cons.1 hu with e | hu
    · subst e; rfl
    · rcases List.mem_cons.1 hu with e | hu
      · subst e; rfl
      · rcases List.mem_cons.1 hu with e | hu
        · subst e; rfl
        · exact RowTM.one h u hu
theorem RowTM.put {w : World} {X : Nat → Prop} {y : Lm} {a : Option Addr} {c : Nat} (hy : SlM w X a y.subs) : ∀ {l : List Lm} {xs : List Value} (k : Nat), RowTM w X l xs → k < l.length → RowTM w X (l.set k y) (((xs.set (k * 3) (.int .i64 y.kind)).set (k * 3 + 1) (.int .i64 y.idx)).set (k * 3 + 2) (.slice a y.subs.length c))
  | [], xs, k, h, hk => by simp at hk
  | t :: l, xs, 0, h, _ => by
    obtain ⟨a', c', r, rfl, h1, h2⟩ := h
    exact ⟨a, c, r, by simp, hy, h2⟩
  | t :: l, xs, k + 1, h, hk => by
    obtain ⟨a', c', r, rfl, h1, h2⟩ := h
    refine ⟨a', c', ((r.set (k * 3) (.int .i64 y.kind)).set (k * 3 + 1) (.int .i64 y.idx)).set (k * 3 + 2) (.slice a y.subs.length c), ?_, h1, RowTM.put hy k h2 (by simpa using hk)⟩
    have e : (k + 1) * 3 = k * 3 + 1 + 1 + 1 := by omega
    have e2 : (k + 1) * 3 + 1 = k * 3 + 1 + 1 + 1 + 1 := by omega
    have e3 : (k + 1) * 3 + 2 = k * 3 + 2 + 1 + 1 + 1 := by omega
    rw [e3, e2, e]
    simp
theorem set3_keep {w : World} {b i O : Nat} {v u u' u'' : Value} (h : w.cell? ⟨b, i, none⟩ = some v) (hn : b ≠ O) : (((w.setCell ⟨O, 0, none⟩ u).setCell ⟨O, 1, none⟩ u').setCell ⟨O, 2, none⟩ u'').cell? ⟨b, i, none⟩ = some v := by
  refine cell_sameM ?_ h
  rw [Below.heap_setCell _ _ _ _ (by simpa using hn), Below.heap_setCell _ _ _ _ (by simpa using hn), Below.heap_setCell _ _ _ _ (by simpa using hn)]
theorem owns_monoM {w : World} {N M e z n : Nat} {v : Value} {xs : List Value} (h : w.ownsRow N e z v n xs) (hM : M ≤ N) : w.ownsRow M e z v n xs :=
  ⟨h.1, h.2.imp id fun ⟨g, cap, cur, h1, h2, h3⟩ => ⟨g, cap, cur, h1, Nat.le_trans hM h2, h3⟩⟩
theorem ownsRow_put3 {w : World} {N e z n G cap O : Nat} {u u' u'' : Value} {xs : List Value} (h : w.ownsRow N e z (.slice (some ⟨G, 0, none⟩) n cap) n xs) (hO : O ≠ G) : (((w.setCell ⟨O, 0, none⟩ u).setCell ⟨O, 1, none⟩ u').setCell ⟨O, 2, none⟩ u'').ownsRow N e z (.slice (some ⟨G, 0, none⟩) n cap) n xs := by
  obtain ⟨hl, h1⟩ := h
  refine ⟨hl, ?_⟩
  rcases h1 with h1 | ⟨g, cap', cur, hv, hg, hh, hr⟩
  · exact Or.inl h1
  · refine Or.inr ⟨g, cap', cur, hv, hg, ?_, hr⟩
    have e : g = G := by simp at hv; exact hv.1.symm
    rw [Below.heap_setCell _ _ _ _ (by simp; omega), Below.heap_setCell _ _ _ _ (by simp; omega), Below.heap_setCell _ _ _ _ (by simp; omega)]
    exact hh
/-- What has been laid. -/
def KpL (W : World) (N : Nat) (k x : Int) (n : Nat) (xs : List Value) (o8 : Value) (wc : World) : Prop :=
  ∃ G O cap : Nat, o8 = .pointer (some ⟨O, 0, none⟩) ∧ N ≤ G ∧ N ≤ O ∧ G ≠ O ∧ Blk wc O #[.int .i64 k, .int .i64 x, .slice (some ⟨G, 0, none⟩) n cap] 26 ∧ wc.ownsRow N 26 3 (.slice (some ⟨G, 0, none⟩) n cap) n xs ∧ Below N W wc
theorem kpL_last {W w1 : World} {N n G cap : Nat} {k x : Int} {xs : List Value} (hN : W.heap.size = N) (hown : w1.ownsRow N 26 3 (.slice (some ⟨G, 0, none⟩) n cap) n xs) (hb : Below N W w1) :
    KpL W N k x n xs (.pointer (some ⟨w1.heap.size, 0, none⟩)) (w1.alloc (.cells #[.int .i64 k, .int .i64 x, .slice (some ⟨G, 0, none⟩) n cap] 26)) := by
  have hl := hown.lt G rfl
  have hs := hb.size
  exact ⟨G, w1.heap.size, cap, rfl, hl.1, by omega, by omega, Blk.new _ _ _, hown.alloc _, hb.alloc (by omega) _⟩
theorem kpL_first {W w1 : World} {N n G cap O : Nat} {k x : Int} {xs : List Value} (hO : N ≤ O) (hB : Blk w1 O #[.int .i64 0, .int .i64 0, .slice none 0 0] 26) (hGO : O < G) (hown : w1.ownsRow N 26 3 (.slice (some ⟨G, 0, none⟩) n cap) n xs) (hb : Below N W w1) :
    KpL W N k x n xs (.pointer (some ⟨O, 0, none⟩)) (((w1.setCell ⟨O, 0, none⟩ (.int .i64 k)).setCell ⟨O, 1, none⟩ (.int .i64 x)).setCell ⟨O, 2, none⟩ (.slice (some ⟨G, 0, none⟩) n cap)) := by
  have hl := hown.lt G rfl
  refine ⟨G, O, cap, rfl, hl.1, hO, by omega, ?_, ownsRow_put3 hown (by omega), ((hb.setCell (by simpa using hO) _).setCell (by simpa using hO) _).setCell (by simpa using hO) _⟩
  have := ((hB.set 0 (.int .i64 k)).set 1 (.int .i64 x)).set 2 (.slice (some ⟨G, 0, none⟩) n cap)
  simpa using this
/-- A row with another at a place. -/
theorem kputM_fin {wc : World} {X : Nat → Prop} {l : List Lm} {k G T : Nat} {xs : List Value} {cur : Array Value} {a9 : Option Addr} {c9 : Nat} {y : Lm} (hXG : ∀ b, X b → b ≠ G) (hk : k < l.length) (hl : l.length ≤ 9223372036854775807) (hrt : RowTM wc X l xs) (hcx : cur.toList.take (l.length * 3) = xs) (GB : Blk wc G cur T) (ht : SlM wc X a9 y.subs) :
    SlM (((wc.setCell ⟨G, k * 3, none⟩ (.int .i64 y.kind)).setCell ⟨G, k * 3 + 1, none⟩ (.int .i64 y.idx)).setCell ⟨G, k * 3 + 2, none⟩ (.slice a9 y.subs.length c9)) (fun b => X b ∨ b = G) (some ⟨G, 0, none⟩) (l.set k y) := by
  have keep : ∀ b, b ≠ G → (((wc.setCell ⟨G, k * 3, none⟩ (.int .i64 y.kind)).setCell ⟨G, k * 3 + 1, none⟩ (.int .i64 y.idx)).setCell ⟨G, k * 3 + 2, none⟩ (.slice a9 y.subs.length c9)).heap[b]? = wc.heap[b]? := fun b h1 => by
    rw [Below.heap_setCell _ _ _ _ (by simpa using h1), Below.heap_setCell _ _ _ _ (by simpa using h1), Below.heap_setCell _ _ _ _ (by simpa using h1)]
  generalize hwF : (((wc.setCell ⟨G, k * 3, none⟩ (.int .i64 y.kind)).setCell ⟨G, k * 3 + 1, none⟩ (.int .i64 y.idx)).setCell ⟨G, k * 3 + 2, none⟩ (.slice a9 y.subs.length c9)) = wF at *
  have h1 : RowTM wF (fun b => X b ∨ b = G) l xs := hrt.imp fun a kk hs => (hs.kept fun b hb2 => keep b (hXG b hb2)).mono fun b hb2 _ => Or.inl hb2
  have h2 : SlM wF (fun b => X b ∨ b = G) a9 y.subs := (ht.kept fun b hb2 => keep b (hXG b hb2)).mono fun b hb2 _ => Or.inl hb2
  have h3 := RowTM.put (c := c9) h2 k h1 hk
  have hBF : Blk wF G (((cur.setIfInBounds (k * 3) (.int .i64 y.kind)).setIfInBounds (k * 3 + 1) (.int .i64 y.idx)).setIfInBounds (k * 3 + 2) (.slice a9 y.subs.length c9)) T := by
    rw [← hwF]
    exact ((GB.set (k * 3) (.int .i64 y.kind)).set (k * 3 + 1) (.int .i64 y.idx)).set (k * 3 + 2) (.slice a9 y.subs.length c9)
  refine ⟨by simpa using hl, Or.inr ⟨G, 0, rfl, liesM_of_row G (Or.inr rfl) _ _ 0 h3 (fun _ _ h => h) fun j u hj => ?_⟩⟩
  rw [Nat.zero_add]
  refine (hBF.cell j).trans ?_
  rw [← hcx, ← List.take_set, ← List.take_set, ← List.take_set, List.getElem?_take] at hj
  split at hj
  · rw [← Array.getElem?_toList]
    simpa using hj
  · cases hj

/-- One who takes is called. -/
def TkAt (y v : Value) (ok : Bool) (W : World) (Post : Ending → World → Prop) : Prop :=
  (∃ T I Y : Nat, y = .func (.func 61) #[] #[.pointer (some ⟨T, 0, none⟩), .pointer (some ⟨I, 0, none⟩), .pointer (some ⟨Y, 0, none⟩)] ∧ Calls Tryz.prog 61 #[v, .bool ok, .pointer (some ⟨T, 0, none⟩), .pointer (some ⟨I, 0, none⟩), .pointer (some ⟨Y, 0, none⟩)] W Post) ∨
  (∃ lp : Nat, y = .func (.yield lp) #[] #[] ∧ ∀ n, YieldAt Fence.wide n Tryz.prog lp #[v, .bool ok] W Post)
/-- He wants just the first that he is handed; it lies in blocks that P lets. -/
def StopAt (y : Value) (P : Nat → Prop) (J : World → Prop) (S : Lm → Bool → World → Prop) : Prop :=
  ∀ (W : World) (v : Value) (x : Lm) (ok : Bool) (Z : Nat → Prop), J W → MV W Z v x → (∀ b, Z b → b < W.heap.size ∧ P b) → TkAt y v ok W fun e W' => e = .returned (.bool false) ∧ S x ok W'
def StopTk (y : Value) (P : Nat → Prop) (J : World → Prop) (S : Lm → Bool → World → Prop) : Prop :=
  (∃ T I Y : Nat, y = .func (.func 61) #[] #[.pointer (some ⟨T, 0, none⟩), .pointer (some ⟨I, 0, none⟩), .pointer (some ⟨Y, 0, none⟩)] ∧
    ∀ (W : World) (v : Value) (x : Lm) (ok : Bool) (Z : Nat → Prop), J W → MV W Z v x → (∀ b, Z b → b < W.heap.size ∧ P b) → Calls Tryz.prog 61 #[v, .bool ok, .pointer (some ⟨T, 0, none⟩), .pointer (some ⟨I, 0, none⟩), .pointer (some ⟨Y, 0, none⟩)] W fun e W' => e = .returned (.bool false) ∧ S x ok W') ∨
  (∃ lp : Nat, y = .func (.yield lp) #[] #[] ∧
    ∀ (W : World) (v : Value) (x : Lm) (ok : Bool) (Z : Nat → Prop), J W → MV W Z v x → (∀ b, Z b → b < W.heap.size ∧ P b) → ∀ n, YieldAt Fence.wide n Tryz.prog lp #[v, .bool ok] W fun e W' => e = .returned (.bool false) ∧ S x ok W')
theorem StopTk.at {y : Value} {P : Nat → Prop} {J : World → Prop} {S : Lm → Bool → World → Prop} (h : StopTk y P J S) : StopAt y P J S := by
  intro W v x ok Z h1 h2 h3
  rcases h with ⟨T, I, Y, e, h⟩ | ⟨lp, e, h⟩
  · exact Or.inl ⟨T, I, Y, e, h W v x ok Z h1 h2 h3⟩
  · exact Or.inr ⟨lp, e, h W v x ok Z h1 h2 h3⟩
def StayJ (J : World → Prop) : Prop := ∀ W W' : World, J W → Below W.heap.size W W' → J W'
/-- What the closure has around it. -/
structure BeS (t : Lm) (a : Option Addr) (c T I Y k : Nat) (y : Value) (X : Nat → Prop) (W : World) : Prop where
  bt : Blk W T #[.int .i64 t.kind, .int .i64 t.idx, .slice a t.subs.length c] 26
  bi : Blk W I #[.int .i64 (k : Int)] 3
  by' : Blk W Y #[y] 56
  sl : SlM W X a t.subs
theorem BeS.later {t : Lm} {a : Option Addr} {c T I Y k : Nat} {y : Value} {X : Nat → Prop} {W W' : World} (h : BeS t a c T I Y k y X W) (hb : Below W.heap.size W W') : BeS t a c T I Y k y X W' :=
  ⟨h.bt.below hb h.bt.lt, h.bi.below hb h.bi.lt, h.by'.below hb h.by'.lt, h.sl.later hb⟩
end Go.Proofs.YtfbligcampbchaaGreatDoor

/- Walks: the closure that hands on a step below a knot. -/
namespace Go.Proofs.YtfbligcampbchaaGreatDoor
open Go.RowKit Go.Shelf
attribute [local go_sem] Oper.semAt_some
set_option linter.unusedSimpArgs false
set_option linter.unusedVariables false
set_option maxRecDepth 8000

set_option maxHeartbeats 4000000 in
theorem below1_any {y : Value} {P : Nat → Prop} {hi : Nat} {J : World → Prop} {S : Lm → Bool → World → Prop} (hP : ∀ b, hi ≤ b → P b) (hT : StopAt y P J S) (hJ : StayJ J) (k xi : Int) (l : List Lm) (i : Nat) (hil : i < l.length) (hlen : l.length ≤ 1000000) (a : Option Addr) (c T I Y : Nat) (X : Nat → Prop) (hTh : hi ≤ T) (W : World) (hjw : J W) (hE : BeS ⟨k, xi, l⟩ a c T I Y i y X W) (hX : ∀ b, X b → b < W.heap.size ∧ P b) (v : Value) (x : Lm) (ok : Bool) (Z : Nat → Prop) (hv : MV W Z v x) (hZ : ∀ b, Z b → b < W.heap.size ∧ P b) :
    Calls Tryz.prog 61 #[v, .bool ok, .pointer (some ⟨T, 0, none⟩), .pointer (some ⟨I, 0, none⟩), .pointer (some ⟨Y, 0, none⟩)] W fun e W' => e = .returned (.bool false) ∧ S ⟨k, xi, l.set i x⟩ ok W' := by
  obtain ⟨va, vc, rfl, hxs⟩ := hv
  have hB1 : Below W.heap.size W (W.alloc (.cells #[.int .i64 x.kind, .int .i64 x.idx, .slice va x.subs.length vc] 26)) := (Below.refl _ _).alloc (Nat.le_refl _) _
  have hsl := hE.sl
  obtain ⟨ba, oa, rfl, hlies⟩ := hsl.2.resolve_left (fun e => by simp only at e; rw [e] at hil; simp at hil)
  obtain ⟨xs, hrt, hxc⟩ := rowTM_of_lies l ba oa hlies
  have hbal : ba < W.heap.size := (hX _ (liesM_get _ _ _ hlies 0 (by show 0 < l.length; omega)).1).1
  have hTW : T < W.heap.size := hE.bt.lt
  have CL : Hid (∀ w', Below W.heap.size W w' → Calls Tryz.prog 62 #[.slice (some ⟨ba, oa, none⟩) l.length c] w' fun e w'' => ∃ G cap, e = .returned (.slice (some ⟨G, 0, none⟩) l.length cap) ∧ w''.ownsRow w'.heap.size 26 3 (.slice (some ⟨G, 0, none⟩) l.length cap) l.length xs ∧ Below w'.heap.size w' w'') := fun w' hb => by
    refine (cloneM_any ba oa l.length c xs w' hrt.len hlen (fun j u hj => (hb.cell (p := ⟨ba, oa + j, none⟩) hbal).trans (hxc j u hj)) hrt.one).mono ?_
    rintro e w'' ⟨v', rfl, ho, hne, hb2⟩
    rcases ho.2 with ⟨h1, _⟩ | ⟨g, cap, cur, hv, _⟩
    · exact absurd h1 hne
    · subst hv
      exact ⟨g, cap, rfl, ho, hb2⟩
  have HRT := hide hrt
  have HE := hide hE
  have HXS := hide hxs
  have HJW := hide hjw
  have HTK := hide hT
  have HX := hide hX
  have HZ := hide hZ
  have hX1 : Blk (W.alloc (.cells #[.int .i64 x.kind, .int .i64 x.idx, .slice va x.subs.length vc] 26)) W.heap.size #[.int .i64 x.kind, .int .i64 x.idx, .slice va x.subs.length vc] 26 := Blk.new _ _ _
  have HX1 := hide hX1
  have HB1 := hide hB1
  clear hrt hE hxs hjw hT hX hZ hsl hlies hxc hX1 hB1
  go_enter Tryz.func61, Tryz.ntmps61
  go_upto_region 1 with fail
  go_cut [8] (fun o8 wc => KpL (W.alloc (.cells #[.int .i64 x.kind, .int .i64 x.idx, .slice va x.subs.length vc] 26)) (W.heap.size + 1) k xi l.length xs o8 wc)
  case first =>
    have hz1 : ((W.alloc (.cells #[.int .i64 x.kind, .int .i64 x.idx, .slice va x.subs.length vc] 26))).heap.size = W.heap.size + 1 := by simp
    have E1 := HE.out.later HB1.out
    generalize (W.alloc (.cells #[.int .i64 x.kind, .int .i64 x.idx, .slice va x.subs.length vc] 26)) = W1 at *
    have t0 : W1.cell? ⟨T, 0, none⟩ = some (.int .i64 k) := E1.bt.cell 0
    have t1 : W1.cell? ⟨T, 1, none⟩ = some (.int .i64 xi) := E1.bt.cell 1
    have t2 : W1.cell? ⟨T, 2, none⟩ = some (.slice (some ⟨ba, oa, none⟩) l.length c) := E1.bt.cell 2
    have HS0 := hide (And.intro t0 (And.intro t1 t2))
    have KP : Hid (∀ w', Below (W.heap.size + 1) W1 w' → w'.cell? ⟨T, 0, none⟩ = some (.int .i64 k) ∧ w'.cell? ⟨T, 1, none⟩ = some (.int .i64 xi) ∧ w'.cell? ⟨T, 2, none⟩ = some (.slice (some ⟨ba, oa, none⟩) l.length c)) := fun w' hb => ⟨(hb.cell (p := ⟨T, 0, none⟩) (by simp; omega)).trans t0, (hb.cell (p := ⟨T, 1, none⟩) (by simp; omega)).trans t1, (hb.cell (p := ⟨T, 2, none⟩) (by simp; omega)).trans t2⟩
    have HD : Hid (Below (W.heap.size + 1) W1 W1.drew) := (Below.refl _ _).drew
    have HA : Hid (∀ o, Below (W.heap.size + 1) W1 (W1.drew.alloc o)) := fun o => ((Below.refl _ _).drew).alloc (by simp; omega) o
    have CL2 : Hid (∀ w', Below (W.heap.size + 1) W1 w' → Calls Tryz.prog 62 #[.slice (some ⟨ba, oa, none⟩) l.length c] w' fun e w'' => ∃ G cap, e = .returned (.slice (some ⟨G, 0, none⟩) l.length cap) ∧ w''.ownsRow w'.heap.size 26 3 (.slice (some ⟨G, 0, none⟩) l.length cap) l.length xs ∧ Below w'.heap.size w' w'' ∧ Below (W.heap.size + 1) W1 w'') := fun w' hb => by
      refine (CL.out w' (HB1.out.trans (hb.mono (by omega)))).mono ?_
      rintro e w'' ⟨G, cap, rfl, h1, h2⟩
      exact ⟨G, cap, rfl, h1, h2, hb.trans (h2.mono (by have := hb.size; omega))⟩
    have HZ1 := hide hz1
    have nW : T ≠ W1.heap.size := by omega
    clear hz1 t0 t1 t2 E1
    go_region_held3 (fun w' => w'.cell? ⟨T, 0, none⟩ = some (.int .i64 k) ∧ w'.cell? ⟨T, 1, none⟩ = some (.int .i64 xi) ∧ w'.cell? ⟨T, 2, none⟩ = some (.slice (some ⟨ba, oa, none⟩) l.length c)) (first | exact hS | exact HS0.out | exact KP.out _ (HA.out _) | exact ⟨set3_keep hS.1 nW, set3_keep hS.2.1 nW, set3_keep hS.2.2 nW⟩ | go_keep)
      (first
        | (go_at_call 62;
            first
              | (refine (CL2.out _ (by first | exact Below.refl _ _ | exact HD.out)).mono ?_; rintro e w5 ⟨G, cap, rfl, ho5, hb5, hB5⟩; have hS := KP.out _ hB5)
              | (refine (CL2.out _ (by exact HA.out (.cells #[.int .i64 0, .int .i64 0, .slice none 0 0] 26))).mono ?_; rintro e w5 ⟨G, cap, rfl, ho5, hb5, hB5⟩; have hS := KP.out _ hB5; have QB : Blk w5 W1.heap.size #[.int .i64 0, .int .i64 0, .slice none 0 0] 26 := (Blk.new W1.drew _ _).below hb5 (by simp); have q0 : w5.cell? ⟨W1.heap.size, 0, none⟩ = some (.int .i64 0) := QB.cell 0; have q1 : w5.cell? ⟨W1.heap.size, 1, none⟩ = some (.int .i64 0) := QB.cell 1; have q2 : w5.cell? ⟨W1.heap.size, 2, none⟩ = some (.slice none 0 0) := QB.cell 2; have qf := QB.frozen)))
    all_goals have hGl := ho5.lt G rfl
    all_goals go_wp2_with fail
    all_goals go_meet
    all_goals first
      | exact kpL_last (by exact HZ1.out) (owns_monoM ho5 (by have := HZ1.out; simp; omega)) hB5
      | (have hz3 := HZ1.out; have e : W1.heap.size = W.heap.size + 1 := hz3; exact kpL_first (by omega) QB (by have := hGl.1; simp at this; omega) (owns_monoM ho5 (by simp; omega)) hB5)
  case rest =>
    obtain ⟨G, O, cap, rfl, hG3, hO3, hGO, hBO, hown, hbw⟩ := hcut
    have hbW : Below W.heap.size W wc := HB1.out.trans (hbw.mono (by omega))
    have XB := HX1.out.below hbw (by omega)
    have E2 := HE.out.later hbW
    obtain ⟨cur, hGb, hcur, hcx, hcap⟩ : ∃ cur : Array Value, Blk wc G cur 26 ∧ cur.size = cap * 3 ∧ cur.toList.take (l.length * 3) = xs ∧ l.length ≤ cap := by
      rcases hown.2 with ⟨h1, _⟩ | ⟨g, cap', cur, hv, _, hh, hnc, _, hz, ht⟩
      · cases h1
      · simp at hv
        obtain ⟨rfl, rfl⟩ := hv
        exact ⟨cur, hh, hz, ht, hnc⟩
    obtain ⟨y0, hy0⟩ : ∃ y, cur[i * 3]? = some y := ⟨_, Array.getElem?_eq_getElem (by omega)⟩
    obtain ⟨y1, hy1⟩ : ∃ y, cur[i * 3 + 1]? = some y := ⟨_, Array.getElem?_eq_getElem (by omega)⟩
    obtain ⟨y2, hy2⟩ : ∃ y, cur[i * 3 + 2]? = some y := ⟨_, Array.getElem?_eq_getElem (by omega)⟩
    have g0 : wc.cell? ⟨G, i * 3, none⟩ = some y0 := (hGb.cell (i * 3)).trans hy0
    have g1 : wc.cell? ⟨G, i * 3 + 1, none⟩ = some y1 := (hGb.cell (i * 3 + 1)).trans hy1
    have g2 : wc.cell? ⟨G, i * 3 + 2, none⟩ = some y2 := (hGb.cell (i * 3 + 2)).trans hy2
    have gf := hGb.frozen
    have hIlt : I < W.heap.size := HE.out.bi.lt
    have hYlt : Y < W.heap.size := HE.out.by'.lt
    have nO : O ≠ G := fun e => hGO e.symm
    have nI : I ≠ G := by omega
    have nY : Y ≠ G := by omega
    have nX : W.heap.size ≠ G := by omega
    have ci : wc.cell? ⟨I, 0, none⟩ = some (.int .i64 (i : Int)) := E2.bi.cell 0
    have x0 : wc.cell? ⟨W.heap.size, 0, none⟩ = some (.int .i64 x.kind) := XB.cell 0
    have x1 : wc.cell? ⟨W.heap.size, 1, none⟩ = some (.int .i64 x.idx) := XB.cell 1
    have x2 : wc.cell? ⟨W.heap.size, 2, none⟩ = some (.slice va x.subs.length vc) := XB.cell 2
    have o2 : wc.cell? ⟨O, 2, none⟩ = some (.slice (some ⟨G, 0, none⟩) l.length cap) := hBO.cell 2
    have hil2 : (i : Int) < (l.length : Int) := by omega
    have hlen9 : l.length ≤ 9223372036854775807 := by omega
    have SLX : SlM wc (fun b => X b ∨ Z b) va x.subs := (HXS.out.later hbW).mono fun b h _ => Or.inr h
    have RTX : RowTM wc (fun b => X b ∨ Z b) l xs := HRT.out.imp fun a kk hs => (hs.later hbW).mono fun b h _ => Or.inl h
    have HXZ : ∀ b, (X b ∨ Z b) → b < W.heap.size := fun b h => h.elim (fun h => (HX.out b h).1) fun h => (HZ.out b h).1
    have FIN := kputM_fin (c9 := vc) (fun b hb => by have := HXZ b hb; omega) hil hlen9 RTX hcx hGb SLX
    have OB := ((hBO.setOther (i * 3) (.int .i64 x.kind) nO).setOther (i * 3 + 1) (.int .i64 x.idx) nO).setOther (i * 3 + 2) (.slice va x.subs.length vc) nO
    have YB := ((E2.by'.setOther (i * 3) (.int .i64 x.kind) nY).setOther (i * 3 + 1) (.int .i64 x.idx) nY).setOther (i * 3 + 2) (.slice va x.subs.length vc) nY
    have hb9 : Below W.heap.size W (((wc.setCell ⟨G, i * 3, none⟩ (.int .i64 x.kind)).setCell ⟨G, i * 3 + 1, none⟩ (.int .i64 x.idx)).setCell ⟨G, i * 3 + 2, none⟩ (.slice va x.subs.length vc)) := ((hbW.setCell (p := ⟨G, i * 3, none⟩) (by simp; omega) _).setCell (p := ⟨G, i * 3 + 1, none⟩) (by simp; omega) _).setCell (p := ⟨G, i * 3 + 2, none⟩) (by simp; omega) _
    have hGw : G < wc.heap.size := hGb.lt
    have hsz9 : (((wc.setCell ⟨G, i * 3, none⟩ (.int .i64 x.kind)).setCell ⟨G, i * 3 + 1, none⟩ (.int .i64 x.idx)).setCell ⟨G, i * 3 + 2, none⟩ (.slice va x.subs.length vc)).heap.size = wc.heap.size := by simp [World.setCell]
    have TK := HTK.out (((wc.setCell ⟨G, i * 3, none⟩ (.int .i64 x.kind)).setCell ⟨G, i * 3 + 1, none⟩ (.int .i64 x.idx)).setCell ⟨G, i * 3 + 2, none⟩ (.slice va x.subs.length vc)) (.agg #[.int .i64 k, .int .i64 xi, .slice (some ⟨G, 0, none⟩) l.length cap]) ⟨k, xi, l.set i x⟩ ok _ (hJ _ _ HJW.out hb9) ⟨some ⟨G, 0, none⟩, cap, by simp, FIN⟩ (fun b hb => by
      rw [hsz9]
      have hWc := hbW.size
      rcases hb with hb | rfl
      · rcases hb with hb | hb
        · have := HX.out b hb; exact ⟨by omega, this.2⟩
        · have := HZ.out b hb; exact ⟨by omega, this.2⟩
      · exact ⟨by omega, hP _ (by omega)⟩)
    clear hsz9 FIN SLX RTX hGb hcx hy0 hy1 hy2 hcur hown hBO
    have u0 := OB.cell 0
    have u1 := OB.cell 1
    have u2 := OB.cell 2
    have yy := YB.cell 0
    simp only [List.getElem?_toArray, List.getElem?_cons_succ, List.getElem?_cons_zero] at u0 u1 u2 yy
    rcases TK with ⟨T', I', Y', rfl, hcall⟩ | ⟨lp, rfl, hyl⟩
    · have HC := hide hcall
      clear hcall OB YB
      go_wp2_with fail
      refine HC.out.mono ?_
      rintro e W' ⟨rfl, hS⟩
      have HS := hide hS
      clear hS
      go_wp2_with fail
      go_ret
      exact ⟨rfl, HS.out⟩
    · obtain ⟨hfn, htmps, hasg, hbody, hyy, hR⟩ := hyl 0
      have HR := hide hR
      clear hR OB YB hyl
      go_upto_region 3 with fail
      refine (wpIn_wide (n := 1)).1 ?_
      gi_wp2
      refine HR.out.mono ?_
      rintro e W' ⟨rfl, hS⟩
      have HS := hide hS
      clear hS hyy
      gi_wp2
      go_wp2_with fail
      go_ret
      exact ⟨rfl, HS.out⟩
end Go.Proofs.YtfbligcampbchaaGreatDoor
