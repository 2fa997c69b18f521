/- Walks: Text. -/
import Derived.Test.YtfbligcampbchaaDoorLt7
import Derived.Test.YtfbligcampbchaaDoorL3
namespace Go.Proofs.YtfbligcampbchaaDoor
open Go.RowKit
set_option linter.unusedSimpArgs false
set_option linter.unusedVariables false
set_option maxRecDepth 8000

theorem Tb.raise {B B' : Nat} {w w' : World} (h : Tb B w) (hb : Below B w w') (hle : B ≤ B') : Tb B' w' := fun w'' h2 => h w'' (hb.trans (h2.mono hle))

/-- What is wrong with a term that is to be written. -/
def txE (fr : List ByteArray) (t : Lm) : Int := if freE fr = 0 then lamE fr.length 0 t else freE fr
/-- What is written. -/
def txB (fr : List ByteArray) (t : Lm) : List UInt8 := if txE fr t = 0 then ltx fr 0 t else []

theorem lam_ok {u : Int} {t : Lm} (h : lamE u 0 t = 0) : errM u 0 [t] = 0 ∧ sizeM [t] ≤ 200 := by
  unfold lamE at h
  by_cases h1 : u < 0 ∨ 40 < u
  · rw [if_pos h1] at h; cases h
  rw [if_neg h1] at h
  by_cases h2 : 200 < sizeM [t]
  · rw [if_pos h2] at h; cases h
  rw [if_neg h2] at h
  exact ⟨h, by omega⟩
theorem fre_small {fr : List ByteArray} (h : freE fr = 0) : ∀ s ∈ fr, s.size ≤ 8 ∧ 0 < s.size := by
  intro s hs
  obtain ⟨k, hk, rfl⟩ := List.mem_iff_getElem.1 hs
  have h1 := (freE_name h hk).1
  simp [nameB] at h1
  omega
theorem ltx_ne (fr : List ByteArray) (hfr : ∀ s ∈ fr, s.size ≤ 8 ∧ 0 < s.size) (t : Lm) (d : Nat) (u : Int) (he : errM u 0 [t] = 0) (hu : u = fr.length + d) : ltx fr d t ≠ [] := by
  rcases may_look he with ⟨y, rfl, h0, h1⟩ | ⟨b, rfl, hb⟩ | ⟨f, a, rfl, hf, ha⟩ | ⟨y, rfl, h0, h1⟩
  · rw [ltx_bound]
    unfold nmAt
    by_cases hk : (d : Int) - 1 - y < 0
    · rw [if_pos hk]
      have hlt : ((fr.length : Int) + (d - 1 - y)).toNat < fr.length := by omega
      rw [List.getElem?_eq_getElem hlt]
      intro e
      have h2 := (hfr _ (List.getElem_mem hlt)).2
      have h3 := congrArg List.length e
      simp only [Option.getD_some] at h3
      have h4 : (fr[((fr.length : Int) + (d - 1 - y)).toNat]).data.toList.length = (fr[((fr.length : Int) + (d - 1 - y)).toNat]).size := by rw [Array.length_toList]; rfl
      rw [h4] at h3
      simp only [List.length_nil] at h3
      omega
    · rw [if_neg hk]; simp
  · rw [ltx_fun]; simp
  · rw [ltx_app]; simp
  · rw [ltx_con]; simp

set_option maxHeartbeats 2000000 in
theorem bText_any (fr : List ByteArray) (t : Lm) (v : Value) (fa : Option Addr) (fc : Nat) (w : World) (X Y : Nat → Prop) (hv : MV w X v t) (hf : LV Value.string w Y (.slice fa fr.length fc) fr) (hT : Tb w.heap.size w) (h1 : freE fr = 0) (h2 : lamE fr.length 0 t = 0) :
    Calls Tryd.prog 23 #[v, .slice fa fr.length fc] w fun e w' => e = .returned (.string ⟨(ltx fr 0 t).toArray⟩) ∧ Below w.heap.size w w' := by
  obtain ⟨a, c, rfl, hs⟩ := hv
  have hv : MV w X (.agg #[.int .i64 t.kind, .int .i64 t.idx, .slice a t.subs.length c]) t := ⟨a, c, rfl, hs⟩
  have H1 := hide h1
  have H2 := hide (lam_ok h2)
  have HV := hide hv
  have HN := hide hf
  have HT := hide hT
  have K2 := hide (Blk.new w #[.int .i64 t.kind, .int .i64 t.idx, .slice a t.subs.length c] 24)
  have HB2 : Hid (Below w.heap.size w (w.alloc (.cells #[.int .i64 t.kind, .int .i64 t.idx, .slice a t.subs.length c] 24))) := (Below.refl _ _).alloc (Nat.le_refl _) _
  clear hv hs hf hT h1 h2
  go_enter Tryd.func23, Tryd.ntmps23
  go_upto_region 1 with fail
  generalize hw2 : (w.alloc (.cells #[.int .i64 t.kind, .int .i64 t.idx, .slice a t.subs.length c] 24)) = w2 at *
  clear hw2
  have k0 : w2.cell? ⟨w.heap.size, 0, none⟩ = some (.int .i64 t.kind) := K2.out.cell 0
  have k1 : w2.cell? ⟨w.heap.size, 1, none⟩ = some (.int .i64 t.idx) := K2.out.cell 1
  have k2 : w2.cell? ⟨w.heap.size, 2, none⟩ = some (.slice a t.subs.length c) := K2.out.cell 2
  have hlt := K2.out.lt
  go_wp2_with fail
  have HW : Hid (Wrt (w2.alloc (.cells #[.pointer none, .slice none 0 0, .slice fa fr.length fc] 68)) w2.heap.size w2.heap.size (.slice fa fr.length fc) (Lib.byteCells []) (.slice none 0 0)) := ⟨Nat.le_refl _, ⟨_, Or.inl rfl, heap_alloc_new _ _⟩, World.ownsRow_nil _ _ _ _⟩
  have HB3 : Hid (Below w2.heap.size w2 (w2.alloc (.cells #[.pointer none, .slice none 0 0, .slice fa fr.length fc] 68))) := (Below.refl _ _).alloc (Nat.le_refl _) _
  have HX : Hid (MV w (fun b => X b ∧ b < w.heap.size) (.agg #[.int .i64 t.kind, .int .i64 t.idx, .slice a t.subs.length c]) t ∧ LV Value.string w (fun b => Y b ∧ b < w.heap.size) (.slice fa fr.length fc) fr) := ⟨HV.out.mono fun b h1 h2 => ⟨h1, h2⟩, HN.out.mono fun b h1 h2 => ⟨h1, h2⟩⟩
  have hfs := fre_small H1.out
  have hz2 := HB2.out.size
  have hz3 := HB3.out.size
  have h40 := (freE_at H1.out).1
  have HLEN := hide (ltx_len fr (fun s hs => (hfs s hs).1) t _ 0 500 H2.out.1 (by simp) (by have := H2.out.2; omega))
  have hlen : (ltx fr 0 t).length ≤ 1000000 := by have h5 : (500 + 60) * sizeM [t] ≤ 560 * 200 := Nat.mul_le_mul (by omega) H2.out.2; have := HLEN.out; omega
  generalize (w2.alloc (.cells #[.pointer none, .slice none 0 0, .slice fa fr.length fc] 68)) = w3 at *
  have hc0 : ((0 : Nat) : Int) = 0 := rfl
  rw [← hc0]
  refine (wterm_any fr h40 (fun s hs => (hfs s hs).1) t 0 _ _ [] w2.heap.size w2.heap.size fa fc _ (fun b => X b ∧ b < w.heap.size) (fun b => Y b ∧ b < w.heap.size) (by simpa using H2.out.1) (by have := H2.out.2; omega) (by exact (HX.out.1.later HB2.out).later HB3.out) (fun b hb => by have := hb.2; omega) (by exact (HX.out.2.later HB2.out).later HB3.out) (fun b hb => by have := hb.2; omega) (by exact HW.out) hz3 (HT.out.raise (HB2.out.trans (HB3.out.mono hz2)) hz2) (by simp; omega)).mono ?_
  rintro e w4 ⟨rfl, q4, hw4, hf4⟩
  have HW4 : Hid (Wrt w4 w2.heap.size w2.heap.size (.slice fa fr.length fc) (Lib.byteCells (ltx fr 0 t)) q4) := by unfold Hid; rw [List.nil_append] at hw4; exact hw4
  have HB4 := hide (HB2.out.trans ((HB3.out.trans (HW.out.fr hf4 hz3)).mono hz2))
  have HNE := hide (ltx_ne fr hfs t 0 _ H2.out.1 (by simp))
  clear hw4 hf4 HW k0 k1 k2 hlt hc0
  go_wp2_with fail
  refine (stringW_any w2.heap.size w2.heap.size _ q4 (ltx fr 0 t) _ HW4.out HNE.out).mono ?_
  rintro e w5 ⟨rfl, hb5⟩
  have HB5 := hide (HB4.out.trans (hb5.mono hz2))
  clear hb5
  go_wp2_with fail
  go_ret
  exact ⟨rfl, HB5.out⟩

set_option maxHeartbeats 2000000 in
theorem lText_any (fr : List ByteArray) (t : Lm) (v : Value) (fa : Option Addr) (fc : Nat) (w : World) (X Y : Nat → Prop) (hv : MV w X v t) (hf : LV Value.string w Y (.slice fa fr.length fc) fr) (hT : Tb w.heap.size w) :
    Calls Tryd.prog 10 #[v, .slice fa fr.length fc] w fun e w' => e = .returned (.tuple #[.string ⟨(txB fr t).toArray⟩, .int .i64 (txE fr t)]) ∧ Below w.heap.size w w' := by
  obtain ⟨a, c, rfl, hs⟩ := hv
  have hv : MV w X (.agg #[.int .i64 t.kind, .int .i64 t.idx, .slice a t.subs.length c]) t := ⟨a, c, rfl, hs⟩
  have HV := hide hv
  have HN := hide hf
  have HT := hide hT
  have hl := hf
  obtain ⟨a2, c2, e2, ⟨hl1, hl2⟩, _⟩ := hl
  have K0 := hide (Blk.new w #[.int .i64 t.kind, .int .i64 t.idx, .slice a t.subs.length c] 24)
  have HB0 : Hid (Below w.heap.size w (w.alloc (.cells #[.int .i64 t.kind, .int .i64 t.idx, .slice a t.subs.length c] 24))) := (Below.refl _ _).alloc (Nat.le_refl _) _
  clear hv hs hf hT hl2 e2
  generalize hR : (.tuple #[.string ⟨(txB fr t).toArray⟩, .int .i64 (txE fr t)] : Value) = R
  have HR := hide hR
  clear hR
  go_enter Tryd.func10, Tryd.ntmps10
  go_wp2_with fail
  refine (lNames_any fr _ _ Y (by exact HN.out.later HB0.out)).mono ?_
  rintro e w1 ⟨rfl, hb1⟩
  have HB1 := hide (HB0.out.trans (hb1.mono (by simp)))
  have K1 := hide (K0.out.below hb1 K0.out.lt)
  clear hb1
  by_cases h1 : freE fr = 0
  · have H1 := hide h1
    rw [h1]
    clear h1
    have k0 : w1.cell? ⟨w.heap.size, 0, none⟩ = some (.int .i64 t.kind) := K1.out.cell 0
    have k1 : w1.cell? ⟨w.heap.size, 1, none⟩ = some (.int .i64 t.idx) := K1.out.cell 1
    have k2 : w1.cell? ⟨w.heap.size, 2, none⟩ = some (.slice a t.subs.length c) := K1.out.cell 2
    go_wp2_with fail
    refine (lCheck_any t _ _ _ X (by exact HV.out.later HB1.out)).mono ?_
    rintro e w2 ⟨rfl, hb2⟩
    have HB2 := hide (HB1.out.trans (hb2.mono HB1.out.size))
    have K2 := hide (K1.out.below hb2 K1.out.lt)
    clear hb2 k0 k1 k2
    by_cases h2 : lamE fr.length 0 t = 0
    · have HL2 := hide h2
      have HE : Hid (txE fr t = 0) := by unfold Hid txE; rw [if_pos H1.out, h2]
      have HE2 : Hid (txB fr t = ltx fr 0 t) := by unfold Hid txB; rw [if_pos HE.out]
      rw [h2]
      clear h2
      have k0 : w2.cell? ⟨w.heap.size, 0, none⟩ = some (.int .i64 t.kind) := K2.out.cell 0
      have k1 : w2.cell? ⟨w.heap.size, 1, none⟩ = some (.int .i64 t.idx) := K2.out.cell 1
      have k2 : w2.cell? ⟨w.heap.size, 2, none⟩ = some (.slice a t.subs.length c) := K2.out.cell 2
      have hlt := K2.out.lt
      go_wp2_with fail
      refine (bText_any fr t _ fa fc _ X Y (by exact HV.out.later HB2.out) (by exact HN.out.later HB2.out) (HT.out.raise HB2.out HB2.out.size) H1.out HL2.out).mono ?_
      rintro e w5 ⟨rfl, hb5⟩
      have HB5 := hide (HB2.out.trans (hb5.mono HB2.out.size))
      clear hb5 k0 k1 k2 hlt
      go_wp2_with fail
      go_ret2
      exact ⟨by rw [← HR.out, HE2.out, HE.out]; rfl, HB5.out⟩
    · have hne : (lamE fr.length 0 t == 0) = false := by simpa using h2
      have hne2 : (lamE fr.length 0 t != 0) = true := by simpa using h2
      have HE : Hid (.tuple #[.string ⟨#[]⟩, .int .i64 (lamE fr.length 0 t)] = R) := by
        unfold Hid; rw [← HR.out]; unfold txB txE; rw [if_pos H1.out, if_neg h2]
      clear h2
      go_wp2_with fail
      go_ret2
      exact ⟨by rw [← HE.out]; rfl, HB2.out⟩
  · have hne : (freE fr == 0) = false := by simpa using h1
    have hne2 : (freE fr != 0) = true := by simpa using h1
    have HE : Hid (.tuple #[.string ⟨#[]⟩, .int .i64 (freE fr)] = R) := by
      unfold Hid; rw [← HR.out]; unfold txB txE; rw [if_neg h1, if_neg h1]
    clear h1
    go_wp2_with fail
    go_ret2
    exact ⟨by rw [← HE.out]; rfl, HB1.out⟩
end Go.Proofs.YtfbligcampbchaaDoor
