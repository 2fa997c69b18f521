/- Walks: terms get numbers. -/
import Derived.Test.YtccbocefgoccdaaW131
import Derived.Test.YtccbocefgoccdaaW23
namespace Go.Proofs.Ytccbocefgoccdaa
open Go.RowKit
set_option linter.unusedSimpArgs false
set_option linter.unusedVariables false
set_option maxRecDepth 8000

theorem Try.infoItem : (Try.prog.info? 83).map (fun i => (i.zero, i.size, i.bytes)) = some (some (.agg #[.string ByteArray.empty, .slice none 0 0, .int .i64 0, .int .i64 0]), 4, 56) := by kernel_rfl
theorem cell_4new (w : World) (c0 c1 c2 c3 : Value) (T : Nat) : ∀ j u, [c0, c1, c2, c3][j]? = some u → (w.alloc (.cells #[c0, c1, c2, c3] T)).cell? ((⟨w.heap.size, 0, none⟩ : Addr).add j) = some u :=
  World.news_of_block (cs := #[c0, c1, c2, c3]) (heap_alloc_new w _)
/-- One appended to a row of numbered terms. -/
theorem items_append {w : World} {N : Nat} {S : List Tm} {v : Value} {l : List Tm} {xs : List Value} (h : IRow w N 83 S v l xs) (hN : N ≤ w.heap.size) {M : Nat} (hNM : N ≤ M) {t : Tm} {a : Option Addr} {c : Nat} (hM : ∀ b, some b = v.ownBlock → b < M)
    (ht : IV w (fun b => M ≤ b) S (.agg #[.string t.name, .slice a t.args.length c, .int .i64 (numT t S), .int .i64 (sizeL [t])]) t) (hn : l.length ≤ 1000000) (A : Nat) (hA : w.heap.size = A) :
    ∃ g cap w3 xs2, (Builtin.append_ #[81, 81] 81 #[v, .slice (some ⟨A, 0, none⟩) 1 1]).run Try.prog (w.alloc (.cells #[.string t.name, .slice a t.args.length c, .int .i64 (numT t S), .int .i64 (sizeL [t])] 83)) = .ok (.slice (some ⟨g, 0, none⟩) (l.length + 1) cap) w3 ∧ IRow w3 N 83 S (.slice (some ⟨g, 0, none⟩) (l.length + 1) cap) (l ++ [t]) xs2 ∧
      (w.alloc (.cells #[.string t.name, .slice a t.args.length c, .int .i64 (numT t S), .int .i64 (sizeL [t])] 83)).grownBy w3 v.ownBlock ∧ (v.ownBlock = some g ∨ w.heap.size ≤ g) := by
  subst hA
  obtain ⟨i0, hi, hz0, hz1, hz2⟩ := info_parts Try.infoItem
  obtain ⟨g, cap, w3, hr, ho, hg, hat, hlt⟩ := run_append_lies (P := Try.prog) (w := w.alloc (.cells #[.string t.name, .slice a t.args.length c, .int .i64 (numT t S), .int .i64 (sizeL [t])] 83)) 81 81 N 83 i0 _ 4 56 Try.underlying81 hi hz0 hz1 hz2 rfl (by decide) v l.length xs (h.own.alloc _)
    ⟨w.heap.size, 0, none⟩ 1 1 [.string t.name, .slice a t.args.length c, .int .i64 (numT t S), .int .i64 (sizeL [t])] rfl (cell_4new _ _ _ _ _ _) (fun y hy => by simp at hy; rcases hy with rfl | rfl | rfl | rfl <;> rfl) (by decide) (by unfold maxLen; omega) (by omega) (by simp; omega) _ rfl
  refine ⟨g, cap, w3, _, hr, h.push hNM hM ht _ rfl ho hg hat, hg, ?_⟩
  rcases hat with h1 | h1
  · exact Or.inl h1
  · right; simp at h1; omega
theorem map_len {w : World} {r : Nat} {L : List (ByteArray × Value)} (h : MapAt w r L) {P : Program} {T kt et ty : TypeId} (hm : P.underlying T = some (.map kt et)) : (Builtin.len_ #[T] ty #[.map (some r)]).run P w = .ok (.int .i64 L.length) w := by
  obtain ⟨es, clk, hb, he, _⟩ := h
  have : es.size = L.length := by simpa using congrArg List.length he
  simp [Builtin.len_, run_underlying hm, MapKept.run_getObj_map hb, goInt, Result.andThen, this]
/-- So many of those below have got numbers. -/
def NumInv (r B O : Nat) (t : Tm) (a : Option Addr) (c : Nat) (S1 : List Tm) (w : World) (i : Value) (wr : World) : Prop :=
  ∃ (k : Nat) (R0 S2 : List Tm) (vr : Value) (xs : List Value), k ≤ t.args.length ∧ i = .int .i64 (k : Int) ∧ ((∃ R, S2 = S1 ++ R) ∧ S2.length ≤ S1.length + sizeL (t.args.take k)) ∧ (∀ x ∈ S2, errL [x] = 0) ∧ Blk wr O #[.string t.name, vr, .int .i64 (numT t S1), .int .i64 (1 + sizeL (t.args.take k))] 83 ∧
    IRow wr (O + 1) 83 S2 vr (t.args.take k) xs ∧ MapAt wr r (numL 0 S2) ∧ Blk wr B #[.string t.name, .slice a t.args.length c] 27 ∧ Blk wr (B + 1) #[.string ⟨#[]⟩, .slice none 0 0, .int .i64 0, .int .i64 0] 83 ∧ Ex r w wr

set_option maxHeartbeats 4000000 in
theorem number_any (t : Tm) : ∀ (S : List Tm) (r : Nat) (v : Value) (w : World) (X : Nat → Prop), errL [t] = 0 → sizeL [t] ≤ 20000 → (∀ x ∈ S, errL [x] = 0) → MapAt w r (numL 0 S) → TV w X v t → (∀ b, X b → b ≠ r) →
    Calls Try.prog 53 #[v, .map (some r)] w fun e w' => ∃ S' v', e = .returned v' ∧ ((∃ R, S' = S ++ R) ∧ S'.length ≤ S.length + sizeL [t]) ∧ (∀ x ∈ S', errL [x] = 0) ∧ MapAt w' r (numL 0 S') ∧ IV w' (fun b => w.heap.size ≤ b) S' v' t ∧ Ex r w w' := by
  induction t using Tm.ind with
  | h s l ih =>
    intro S r v w X he hsz hS hM hv hXr
    obtain ⟨a, c, rfl, hs⟩ := hv
    have IH := hide ih
    have HS := hide hs
    have hl := hs.1
    have hrl := hM.lt
    have hr2 : r < w.heap.size := hrl
    have HERR : Hid (∀ k (h : k < l.length), errL [l[k]] = 0) := fun k h => err_mem (errL_parts0 he) k h
    have hszl : sizeL [(⟨s, l⟩ : Tm)] = 1 + sizeL l := by simp [sizeL]
    have HSL : Hid (sizeL l + 1 ≤ 20000) := by unfold Hid; omega
    have HSZ : Hid (∀ k (h : k < l.length), sizeL [l[k]] ≤ sizeL l) := fun k h => by
      have := size_arg (t := ⟨s, l⟩) (List.getElem_mem h)
      omega
    have HTX := hide (txt_len [(⟨s, l⟩ : Tm)] he)
    have HE := hide he
    have HT := hide (show TV w X (.agg #[.string s, .slice a l.length c]) (⟨s, l⟩ : Tm) from ⟨a, c, rfl, hs⟩)
    have HMP := hide hM
    have ESS := hide hS
    clear ih hs hM hS
    go_enter Try.func53, Try.ntmps53
    go_wp2_with fail
    refine (ktext_any (⟨s, l⟩ : Tm) _ _ X (by exact (HT.out.alloc _).alloc _) (by have := HTX.out; omega)).mono ?_
    rintro e w1 ⟨rfl, hb1⟩
    have B1 : Hid (Below w.heap.size w w1) := ((((Below.refl w.heap.size w).alloc (Nat.le_refl _) (.cells #[.string s, .slice a l.length c] 27)).alloc (by simp) (.cells #[.string ⟨#[]⟩, .slice none 0 0, .int .i64 0, .int .i64 0] 83)).trans (hb1.mono (by simp; omega)))
    have KT : Hid (Blk w1 w.heap.size #[.string s, .slice a l.length c] 27) := ((Blk.new w _ _).alloc _).below hb1 (by simp; omega)
    have KQ : Hid (Blk w1 (w.heap.size + 1) #[.string ⟨#[]⟩, .slice none 0 0, .int .i64 0, .int .i64 0] 83) := by
      have h := Blk.new (w.alloc (.cells #[.string s, .slice a l.length c] 27)) #[.string ⟨#[]⟩, .slice none 0 0, .int .i64 0, .int .i64 0] 83
      have e : (w.alloc (.cells #[.string s, .slice a l.length c] 27)).heap.size = w.heap.size + 1 := by simp
      rw [e] at h
      exact h.below hb1 (by simp)
    have M1 := hide (HMP.out.below B1.out hrl)
    have E1 : Hid (Ex r w w1) := ⟨B1.out.os, B1.out.tape, B1.out.output, B1.out.size, fun k hk _ => B1.out.block k hk⟩
    clear hb1 HMP
    have hget := numL_get HE.out S 0 ESS.out
    have hz := Try.zeroValue3 w1
    by_cases hin : numT (⟨s, l⟩ : Tm) S < S.length
    · rw [if_pos hin] at hget
      have hlook : (Instr.lookup 75 (.map (some r)) (.string ⟨(txtL [(⟨s, l⟩ : Tm)]).toArray⟩) true).run Try.prog w1 = .ok (.tuple #[.int .i64 (numT (⟨s, l⟩ : Tm) S), .bool true]) w1 := by
        rw [run_look (P := Try.prog) Try.underlying75 Try.underlying9 hz M1.out _]
        rw [show (⟨(txtL [(⟨s, l⟩ : Tm)]).toArray⟩ : ByteArray) = txtB ⟨s, l⟩ from rfl, hget]
        simp
      clear hget hz
      obtain ⟨S1, hS1⟩ : ∃ S1, S1 = S := ⟨S, rfl⟩
      obtain ⟨w2, hw2⟩ : ∃ w2, w2 = w1 := ⟨w1, rfl⟩
      obtain ⟨NN, hNN⟩ : ∃ NN : Int, NN = numT (⟨s, l⟩ : Tm) S := ⟨_, rfl⟩
      rw [← hNN, ← hw2] at hlook
      have HNN : Hid ((numT (⟨s, l⟩ : Tm) S1 : Int) = NN) := by unfold Hid; rw [hS1, hNN]
      have MEM : Hid ((⟨s, l⟩ : Tm) ∈ S1) := by unfold Hid; rw [hS1]; exact numT_lt.1 hin
      have GS : Hid ((∃ R, S1 = S ++ R) ∧ S1.length ≤ S.length + 1) := ⟨⟨[], by rw [hS1]; simp⟩, by rw [hS1]; omega⟩
      have ES : Hid (∀ x ∈ S1, errL [x] = 0) := by unfold Hid; rw [hS1]; exact ESS.out
      have M2 : Hid (MapAt w2 r (numL 0 S1)) := by unfold Hid; rw [hS1, hw2]; exact M1.out
      have K2 : Hid (Blk w2 w.heap.size #[.string s, .slice a l.length c] 27) := by unfold Hid; rw [hw2]; exact KT.out
      have KR : Hid (Blk w2 (w.heap.size + 1) #[.string ⟨#[]⟩, .slice none 0 0, .int .i64 0, .int .i64 0] 83) := by unfold Hid; rw [hw2]; exact KQ.out
      have E2 : Hid (Ex r w w2) := by unfold Hid; rw [hw2]; exact E1.out
      clear M1 KT KQ E1 B1 hS1 hNN hin
      subst hw2
      have Q0 : ∀ o, (w2.alloc o).cell? ⟨w.heap.size, 0, none⟩ = some (.string s) := fun o => (K2.out.alloc o).cell 0
      have Q1 : ∀ o, (w2.alloc o).cell? ⟨w.heap.size, 1, none⟩ = some (.slice a l.length c) := fun o => (K2.out.alloc o).cell 1
      have Q2 : w2.cell? ⟨w.heap.size, 0, none⟩ = some (.string s) := K2.out.cell 0
      have Q3 : w2.cell? ⟨w.heap.size, 1, none⟩ = some (.slice a l.length c) := K2.out.cell 1
      go_wp2_with fail
      have HINV0 : Hid (NumInv r w.heap.size w2.heap.size (⟨s, l⟩ : Tm) a c S1 w (.int .i64 0) (w2.alloc (.cells #[.string s, .slice none 0 0, .int .i64 NN, .int .i64 1] 83))) := by
        refine ⟨0, [], S1, .slice none 0 0, [], Nat.zero_le _, rfl, ⟨⟨[], by simp⟩, by simp⟩, ES.out, by have h := Blk.new w2 #[.string s, .slice none 0 0, .int .i64 NN, .int .i64 1] 83; simpa [HNN.out, sizeL] using h, IRow.start _ _ _ _, M2.out.kept (Below.heap_alloc _ _ _ M2.out.lt), K2.out.alloc _, KR.out.alloc _, E2.out.alloc _⟩
      generalize w2.alloc (.cells #[.string s, .slice none 0 0, .int .i64 NN, .int .i64 1] 83) = w3 at *
      clear Q0 Q1 Q2 Q3
      have hO : w.heap.size + 2 ≤ w2.heap.size := by have := KR.out.lt; omega
      go_loopw [34] (fun i wr => NumInv r w.heap.size w2.heap.size (⟨s, l⟩ : Tm) a c S1 w i wr) (fun i wr => l.length - (intOf i).toNat)
      case atStart => exact HINV0.out
      case round =>
        clear HINV0
        obtain ⟨k, R0, S2, vr, xs, hk, rfl, ⟨⟨R, hS2⟩, hSz⟩, hES, hO1, hrow, hM, hT, hRb, hE⟩ := hrel
        have XO := hide hO1
        have XROW := hide hrow
        have XM := hide hM
        have XT := hide hT
        have XR := hide hRb
        have XE := hide hE
        have XES := hide hES
        have c1 : wr.cell? ⟨w.heap.size, 1, none⟩ = some (.slice a l.length c) := hT.cell 1
        by_cases hlt : k < l.length
        · have hlt2 : (k : Int) < (l.length : Int) := by omega
          have hSlk : Sl wr X a l := HS.out.exq (ExQ.ofEx (Q := fun b => b = r) hE rfl) (fun b hb => hXr b hb)
          obtain ⟨b, o, a', c', rfl, d0, d1, hx⟩ := hSlk.get (Below.refl _ _) (fun _ _ h => h) k hlt
          have HX := hide hx
          clear hx hSlk hO1 hrow hM hT hRb hE hES
          go_wp2_with fail
          refine (IH.out l[k] (List.getElem_mem hlt) S2 r _ _ X (HERR.out k hlt) (by have := HSZ.out k hlt; omega) XES.out (XM.out.kept (Below.heap_alloc _ _ _ XM.out.lt)) (by exact HX.out.alloc _) hXr).mono ?_
          rintro e w4 ⟨S3, v3, rfl, ⟨⟨R3, hS3⟩, hSz3⟩, hES3, hM3, hIV, hE3⟩
          obtain ⟨hmem3, a3, c3, rfl, hsl3⟩ := hIV
          have hOw : w2.heap.size < wr.heap.size := XO.out.lt
          have hE4 : Ex r wr w4 := ((Ex.refl r wr).alloc _).trans hE3
          have hrO : r ≠ w2.heap.size := by have := hr2; omega
          have hwz := hE4.size
          have hwz3 : wr.heap.size + 1 ≤ w4.heap.size := by have := hE3.size; simpa using this
          have HS3 := hide hS3
          have HS2 := hide hS2
          clear hS2
          have YO := hide (XO.out.ex hE4 (fun e => hrO e.symm))
          have YT := hide (XT.out.ex hE4 (by omega))
          have YR := hide (XR.out.ex hE4 (by omega))
          have YE := hide (XE.out.trans hE4)
          have YM := hide hM3
          have YES := hide hES3
          have YI : Hid (IV w4 (fun b => wr.heap.size + 1 ≤ b) S3 (.agg #[.string l[k].name, .slice a3 l[k].args.length c3, .int .i64 (numT l[k] S3), .int .i64 (sizeL [l[k]])]) l[k]) := ⟨hmem3, a3, c3, rfl, hsl3.mono fun b hb _ => by simp at hb; omega⟩
          have YROW : Hid (IRow w4 (w2.heap.size + 1) 83 S3 vr (l.take k) xs) := by
            unfold Hid
            rw [HS3.out]
            exact (XROW.out.kept (fun b hb1 hb2 => hE4.block b hb2 (by omega)) hwz hE4.os hE4.tape hE4.output).more R3
          clear hM3 hES3 hsl3 hE3 hE4 hS3
          have hlk : (l.take k).length = k := by simp; omega
          have hl2 : l.length ≤ 20000 := by have := sizeL_len l; have := HSL.out; omega
          have hvlt : ∀ b, some b = vr.ownBlock → b < wr.heap.size + 1 := fun b hb => by have := (XROW.out.own.lt b hb.symm).2; omega
          obtain ⟨g5, cap5, w5, xs5, hrun, hrow5, hg5, hvb5⟩ := items_append (t := l[k]) (a := a3) (c := c3) (YROW.out.kept (w' := w4.alloc (.cells #[.string l[k].name, .slice a3 l[k].args.length c3, .int .i64 (numT l[k] S3), .int .i64 (sizeL [l[k]])] 83)) (fun b _ hb => Below.heap_alloc _ _ _ hb) (by simp) rfl rfl rfl) (by simp; omega) (M := wr.heap.size + 1) (by omega) hvlt (YI.out.alloc _) (by omega) (w4.heap.size + 1) (by simp)
          rw [hlk] at hrun hrow5
          have HRUN := hide hrun
          have ZO : Blk w5 w2.heap.size #[.string s, vr, .int .i64 (numT (⟨s, l⟩ : Tm) S1), .int .i64 (1 + sizeL (l.take k))] 83 := ((YO.out.alloc _).alloc _).grown hg5 (YROW.out.ne (by omega))
          have ZX : Blk w5 w4.heap.size #[.string l[k].name, .slice a3 l[k].args.length c3, .int .i64 (numT l[k] S3), .int .i64 (sizeL [l[k]])] 83 := ((Blk.new w4 _ _).alloc _).grown hg5 (fun e => by have := hvlt _ e; omega)
          have z0 : w5.cell? ⟨w2.heap.size, 1, none⟩ = some vr := ZO.cell 1
          have z1 : w5.cell? ⟨w2.heap.size, 3, none⟩ = some (.int .i64 (1 + sizeL (l.take k))) := ZO.cell 3
          have z2 : w5.cell? ⟨w4.heap.size, 3, none⟩ = some (.int .i64 (sizeL [l[k]])) := ZX.cell 3
          have zf := ZO.frozen
          have hst := sizeL_take l k hlt
          have hsb : sizeL (l.take (k + 1)) ≤ 20000 := by have h1 := sizeL_append (l.take (k + 1)) (l.drop (k + 1)); rw [List.take_append_drop] at h1; have := HSL.out; omega
          have y1 : ∀ o, (w4.alloc o).cell? ⟨w2.heap.size, 1, none⟩ = some vr := fun o => (YO.out.alloc o).cell 1
          have YS : sizeL [l[k]] ≤ 20000 := by omega
          have HFIN : Hid (NumInv r w.heap.size w2.heap.size (⟨s, l⟩ : Tm) (some ⟨b, o, none⟩) c S1 w (.int .i64 ((k + 1 : Nat) : Int)) ((w5.setCell ⟨w2.heap.size, 1, none⟩ (.slice (some ⟨g5, 0, none⟩) (k + 1) cap5)).setCell ⟨w2.heap.size, 3, none⟩ (.int .i64 (1 + (sizeL (l.take k) : Int) + (sizeL [l[k]] : Int))))) := by
            have hgs := hg5.size
            refine ⟨k + 1, R0, S3, (.slice (some ⟨g5, 0, none⟩) (k + 1) cap5), xs5, by show k + 1 ≤ l.length; omega, rfl, ⟨⟨R ++ R3, by rw [HS3.out, HS2.out, List.append_assoc]⟩, by show S3.length ≤ S1.length + sizeL (l.take (k + 1)); omega⟩, YES.out, ?_, ?_, ?_, ?_, ?_, ?_⟩
            · have := (ZO.set 1 (.slice (some ⟨g5, 0, none⟩) (k + 1) cap5)).set 3 (.int .i64 (1 + (sizeL (l.take k) : Int) + (sizeL [l[k]] : Int)))
              simpa [hst, Int.add_assoc] using this
            · have e : l.take (k + 1) = l.take k ++ [l[k]] := List.take_succ_eq_append_getElem hlt
              rw [e]
              exact (hrow5.setCell (by omega) _).setCell (by omega) _
            · have hMl := YM.out.lt
              refine YM.out.kept ?_
              rw [Below.heap_setCell _ _ _ _ (by simpa using hrO), Below.heap_setCell _ _ _ _ (by simpa using hrO), hg5.block r (by simp; omega) (fun e => by have := (YROW.out.own.lt r e.symm).1; omega), Below.heap_alloc _ _ _ (by simp; omega), Below.heap_alloc _ _ _ hMl]
            · exact ((((YT.out.alloc _).alloc _).grown hg5 (YROW.out.ne (by omega))).setOther _ _ (by omega)).setOther _ _ (by omega)
            · exact ((((YR.out.alloc _).alloc _).grown hg5 (YROW.out.ne (by omega))).setOther _ _ (by omega)).setOther _ _ (by omega)
            · exact ((((YE.out.alloc _).alloc _).grown hg5 (fun j hj => by have := (YROW.out.own.lt j hj).1; omega)).setNew (by omega) _ _).setNew (by omega) _ _
          have hsk : sizeL (l.take k) ≤ 20000 := by omega
          clear hrun hrow5 hg5 hvb5 ZX hst
          have y3 : ∀ v, (w5.setCell ⟨w2.heap.size, 1, none⟩ v).cell? ⟨w2.heap.size, 3, none⟩ = some (.int .i64 (1 + sizeL (l.take k))) := fun v => by rw [World.cell?_setCell_other _ _ _ _ (by simp)]; exact z1
          have y4 : ∀ v, (w5.setCell ⟨w2.heap.size, 1, none⟩ v).cell? ⟨w4.heap.size, 3, none⟩ = some (.int .i64 (sizeL [l[k]])) := fun v => by rw [World.cell?_setCell_other _ _ _ _ (by simp)]; exact z2
          have zf2 := fun v => (ZO.set 1 v).frozen
          go_wp2_with (at_builtin; refine wpList_append_eq rfl _ _ _ _ rfl rfl rfl HRUN.out ?_)
          go_roundw
          case rel =>
            have h := HFIN.out
            have e : ((k + 1 : Nat) : Int) = (k : Int) + 1 := by omega
            rw [e] at h
            exact h
          case measure => simp [intOf]; omega
        · have htk : l.take k = l := List.take_of_length_le (by omega)
          rw [htk] at hO1 hrow
          obtain ⟨a9, c9, hv9, hs9⟩ := hrow.sl
          subst hv9
          have p0 := hO1.cell 0
          have p1 := hO1.cell 1
          have p2 := hO1.cell 2
          have p3 := hO1.cell 3
          have r0 := hRb.cell 0
          have r1 := hRb.cell 1
          have r2 := hRb.cell 2
          have r3 := hRb.cell 3
          have rf := hRb.frozen
          simp only [List.getElem?_toArray, List.getElem?_cons_zero, List.getElem?_cons_succ] at p0 p1 p2 p3 r0 r1 r2 r3
          have HS9 := hide hs9
          have HZN : Hid (sizeL [(⟨s, l⟩ : Tm)] = 1 + sizeL l) := by unfold Hid; simp [sizeL]
          have HSZ2 : Hid (S2.length ≤ S1.length + sizeL l) := by unfold Hid; simpa [htk] using hSz
          have HZ : Hid ((1 : Int) + sizeL l = sizeL [(⟨s, l⟩ : Tm)]) := by unfold Hid; simp [sizeL]
          have HN : Hid (numT (⟨s, l⟩ : Tm) S1 = numT (⟨s, l⟩ : Tm) S2) := by unfold Hid; rw [hS2, numT_more R MEM.out]
          have HMM : Hid ((⟨s, l⟩ : Tm) ∈ S2) := by unfold Hid; rw [hS2]; exact List.mem_append_left _ MEM.out
          clear hs9 htk hO1 hrow hM hT hRb hE hES
          go_wp2_with fail
          refine bodyPost_ret (v := .agg #[.string s, .slice a9 l.length c9, .int .i64 (numT (⟨s, l⟩ : Tm) S1), .int .i64 (1 + sizeL l)]) (by simp [results, Try.results53, go_sem, World.cell?_setCell_same, World.cell?_setCell_other, r0, r1, r2, r3]) rfl ?_
          refine ⟨S2, _, rfl, ?_, XES.out, ?_, ?_, ?_⟩
          · obtain ⟨⟨R1, hR1⟩, hR2⟩ := GS.out
            refine ⟨⟨R1 ++ R, by rw [hS2, hR1, List.append_assoc]⟩, ?_⟩
            have := HZN.out
            have h3 : S2.length ≤ S1.length + sizeL l := HSZ2.out
            omega
          · refine XM.out.kept ?_
            have hne : r ≠ w.heap.size + 1 := by omega
            rw [Below.heap_setCell _ _ _ _ (by simpa using hne), Below.heap_setCell _ _ _ _ (by simpa using hne), Below.heap_setCell _ _ _ _ (by simpa using hne), Below.heap_setCell _ _ _ _ (by simpa using hne)]
          · refine ⟨HMM.out, a9, c9, by rw [HZ.out, HN.out], ?_⟩
            refine (HS9.out.kept fun b hb => ?_).mono fun b hb _ => by omega
            have hne : b ≠ w.heap.size + 1 := by omega
            rw [Below.heap_setCell _ _ _ _ (by simpa using hne), Below.heap_setCell _ _ _ _ (by simpa using hne), Below.heap_setCell _ _ _ _ (by simpa using hne), Below.heap_setCell _ _ _ _ (by simpa using hne)]
          · exact (((XE.out.setNew (by omega) _ _).setNew (by omega) _ _).setNew (by omega) _ _).setNew (by omega) _ _
    · rw [if_neg hin] at hget
      have hlook : (Instr.lookup 75 (.map (some r)) (.string ⟨(txtL [(⟨s, l⟩ : Tm)]).toArray⟩) true).run Try.prog w1 = .ok (.tuple #[.int .i64 0, .bool false]) w1 := by
        rw [run_look (P := Try.prog) Try.underlying75 Try.underlying9 hz M1.out _]
        rw [show (⟨(txtL [(⟨s, l⟩ : Tm)]).toArray⟩ : ByteArray) = txtB ⟨s, l⟩ from rfl, hget]
        simp
      have hlen : (Builtin.len_ #[75] 3 #[.map (some r)]).run Try.prog w1 = .ok (.int .i64 (S.length : Int)) w1 := by
        rw [map_len M1.out Try.underlying75, numL_len]
      obtain ⟨w2, hrun2, hM2, hz2, ho2, ht2, hu2, hk2⟩ := run_put (P := Try.prog) Try.underlying75 Try.underlying9 M1.out (txtB ⟨s, l⟩) (.int .i64 (S.length : Int)) hget
      have hrun2' : (Instr.mapUpdate 75 (.map (some r)) (.string ⟨(txtL [(⟨s, l⟩ : Tm)]).toArray⟩) (.int .i64 (S.length : Int))).run Try.prog w1 = .ok () w2 := hrun2
      have hnl : numT (⟨s, l⟩ : Tm) S = S.length := by have := numT_le (⟨s, l⟩ : Tm) S; omega
      obtain ⟨NN, hNN⟩ : ∃ NN : Int, NN = S.length := ⟨_, rfl⟩
      rw [← hNN] at hlen hrun2'
      obtain ⟨S1, hS1⟩ : ∃ S1, S1 = S ++ [(⟨s, l⟩ : Tm)] := ⟨_, rfl⟩
      have hsee : seeT S (⟨s, l⟩ : Tm) = S1 := by rw [hS1]; unfold seeT; rw [if_neg hin]
      have HNN : Hid ((numT (⟨s, l⟩ : Tm) S1 : Int) = NN) := by unfold Hid; rw [← hsee, see_num, hnl, hNN]
      have MEM : Hid ((⟨s, l⟩ : Tm) ∈ S1) := by unfold Hid; rw [hS1]; simp
      have GS : Hid ((∃ R, S1 = S ++ R) ∧ S1.length ≤ S.length + 1) := ⟨⟨_, hS1⟩, by rw [hS1]; simp⟩
      have ES : Hid (∀ x ∈ S1, errL [x] = 0) := by
        unfold Hid
        rw [hS1]
        intro x hx
        rw [List.mem_append] at hx
        rcases hx with hx | hx
        · exact ESS.out x hx
        · have e : x = ⟨s, l⟩ := by simpa using hx
          rw [e]; exact HE.out
      have M2 : Hid (MapAt w2 r (numL 0 S1)) := by
        unfold Hid
        rw [hS1, numL_push]
        simpa using hM2
      have E2 : Hid (Ex r w w2) := ⟨ho2.trans E1.out.os, ht2.trans E1.out.tape, hu2.trans E1.out.output, by rw [hz2]; exact E1.out.size, fun k hk hn => (hk2 k hn).trans (E1.out.block k hk hn)⟩
      have K2 : Hid (Blk w2 w.heap.size #[.string s, .slice a l.length c] 27) := (hk2 _ (by omega)).trans KT.out
      have KR : Hid (Blk w2 (w.heap.size + 1) #[.string ⟨#[]⟩, .slice none 0 0, .int .i64 0, .int .i64 0] 83) := (hk2 _ (by omega)).trans KQ.out
      clear M1 KT KQ E1 B1 hS1 hNN hin hM2 hz2 ho2 ht2 hu2 hk2 hget hz hnl hsee hrun2
      have Q0 : ∀ o, (w2.alloc o).cell? ⟨w.heap.size, 0, none⟩ = some (.string s) := fun o => (K2.out.alloc o).cell 0
      have Q1 : ∀ o, (w2.alloc o).cell? ⟨w.heap.size, 1, none⟩ = some (.slice a l.length c) := fun o => (K2.out.alloc o).cell 1
      have Q2 : w2.cell? ⟨w.heap.size, 0, none⟩ = some (.string s) := K2.out.cell 0
      have Q3 : w2.cell? ⟨w.heap.size, 1, none⟩ = some (.slice a l.length c) := K2.out.cell 1
      go_wp2_with fail
      have HINV0 : Hid (NumInv r w.heap.size w2.heap.size (⟨s, l⟩ : Tm) a c S1 w (.int .i64 0) (w2.alloc (.cells #[.string s, .slice none 0 0, .int .i64 NN, .int .i64 1] 83))) := by
        refine ⟨0, [], S1, .slice none 0 0, [], Nat.zero_le _, rfl, ⟨⟨[], by simp⟩, by simp⟩, ES.out, by have h := Blk.new w2 #[.string s, .slice none 0 0, .int .i64 NN, .int .i64 1] 83; simpa [HNN.out, sizeL] using h, IRow.start _ _ _ _, M2.out.kept (Below.heap_alloc _ _ _ M2.out.lt), K2.out.alloc _, KR.out.alloc _, E2.out.alloc _⟩
      generalize w2.alloc (.cells #[.string s, .slice none 0 0, .int .i64 NN, .int .i64 1] 83) = w3 at *
      clear Q0 Q1 Q2 Q3
      have hO : w.heap.size + 2 ≤ w2.heap.size := by have := KR.out.lt; omega
      go_loopw [34] (fun i wr => NumInv r w.heap.size w2.heap.size (⟨s, l⟩ : Tm) a c S1 w i wr) (fun i wr => l.length - (intOf i).toNat)
      case atStart => exact HINV0.out
      case round =>
        clear HINV0
        obtain ⟨k, R0, S2, vr, xs, hk, rfl, ⟨⟨R, hS2⟩, hSz⟩, hES, hO1, hrow, hM, hT, hRb, hE⟩ := hrel
        have XO := hide hO1
        have XROW := hide hrow
        have XM := hide hM
        have XT := hide hT
        have XR := hide hRb
        have XE := hide hE
        have XES := hide hES
        have c1 : wr.cell? ⟨w.heap.size, 1, none⟩ = some (.slice a l.length c) := hT.cell 1
        by_cases hlt : k < l.length
        · have hlt2 : (k : Int) < (l.length : Int) := by omega
          have hSlk : Sl wr X a l := HS.out.exq (ExQ.ofEx (Q := fun b => b = r) hE rfl) (fun b hb => hXr b hb)
          obtain ⟨b, o, a', c', rfl, d0, d1, hx⟩ := hSlk.get (Below.refl _ _) (fun _ _ h => h) k hlt
          have HX := hide hx
          clear hx hSlk hO1 hrow hM hT hRb hE hES
          go_wp2_with fail
          refine (IH.out l[k] (List.getElem_mem hlt) S2 r _ _ X (HERR.out k hlt) (by have := HSZ.out k hlt; omega) XES.out (XM.out.kept (Below.heap_alloc _ _ _ XM.out.lt)) (by exact HX.out.alloc _) hXr).mono ?_
          rintro e w4 ⟨S3, v3, rfl, ⟨⟨R3, hS3⟩, hSz3⟩, hES3, hM3, hIV, hE3⟩
          obtain ⟨hmem3, a3, c3, rfl, hsl3⟩ := hIV
          have hOw : w2.heap.size < wr.heap.size := XO.out.lt
          have hE4 : Ex r wr w4 := ((Ex.refl r wr).alloc _).trans hE3
          have hrO : r ≠ w2.heap.size := by have := hr2; omega
          have hwz := hE4.size
          have hwz3 : wr.heap.size + 1 ≤ w4.heap.size := by have := hE3.size; simpa using this
          have HS3 := hide hS3
          have HS2 := hide hS2
          clear hS2
          have YO := hide (XO.out.ex hE4 (fun e => hrO e.symm))
          have YT := hide (XT.out.ex hE4 (by omega))
          have YR := hide (XR.out.ex hE4 (by omega))
          have YE := hide (XE.out.trans hE4)
          have YM := hide hM3
          have YES := hide hES3
          have YI : Hid (IV w4 (fun b => wr.heap.size + 1 ≤ b) S3 (.agg #[.string l[k].name, .slice a3 l[k].args.length c3, .int .i64 (numT l[k] S3), .int .i64 (sizeL [l[k]])]) l[k]) := ⟨hmem3, a3, c3, rfl, hsl3.mono fun b hb _ => by simp at hb; omega⟩
          have YROW : Hid (IRow w4 (w2.heap.size + 1) 83 S3 vr (l.take k) xs) := by
            unfold Hid
            rw [HS3.out]
            exact (XROW.out.kept (fun b hb1 hb2 => hE4.block b hb2 (by omega)) hwz hE4.os hE4.tape hE4.output).more R3
          clear hM3 hES3 hsl3 hE3 hE4 hS3
          have hlk : (l.take k).length = k := by simp; omega
          have hl2 : l.length ≤ 20000 := by have := sizeL_len l; have := HSL.out; omega
          have hvlt : ∀ b, some b = vr.ownBlock → b < wr.heap.size + 1 := fun b hb => by have := (XROW.out.own.lt b hb.symm).2; omega
          obtain ⟨g5, cap5, w5, xs5, hrun, hrow5, hg5, hvb5⟩ := items_append (t := l[k]) (a := a3) (c := c3) (YROW.out.kept (w' := w4.alloc (.cells #[.string l[k].name, .slice a3 l[k].args.length c3, .int .i64 (numT l[k] S3), .int .i64 (sizeL [l[k]])] 83)) (fun b _ hb => Below.heap_alloc _ _ _ hb) (by simp) rfl rfl rfl) (by simp; omega) (M := wr.heap.size + 1) (by omega) hvlt (YI.out.alloc _) (by omega) (w4.heap.size + 1) (by simp)
          rw [hlk] at hrun hrow5
          have HRUN := hide hrun
          have ZO : Blk w5 w2.heap.size #[.string s, vr, .int .i64 (numT (⟨s, l⟩ : Tm) S1), .int .i64 (1 + sizeL (l.take k))] 83 := ((YO.out.alloc _).alloc _).grown hg5 (YROW.out.ne (by omega))
          have ZX : Blk w5 w4.heap.size #[.string l[k].name, .slice a3 l[k].args.length c3, .int .i64 (numT l[k] S3), .int .i64 (sizeL [l[k]])] 83 := ((Blk.new w4 _ _).alloc _).grown hg5 (fun e => by have := hvlt _ e; omega)
          have z0 : w5.cell? ⟨w2.heap.size, 1, none⟩ = some vr := ZO.cell 1
          have z1 : w5.cell? ⟨w2.heap.size, 3, none⟩ = some (.int .i64 (1 + sizeL (l.take k))) := ZO.cell 3
          have z2 : w5.cell? ⟨w4.heap.size, 3, none⟩ = some (.int .i64 (sizeL [l[k]])) := ZX.cell 3
          have zf := ZO.frozen
          have hst := sizeL_take l k hlt
          have hsb : sizeL (l.take (k + 1)) ≤ 20000 := by have h1 := sizeL_append (l.take (k + 1)) (l.drop (k + 1)); rw [List.take_append_drop] at h1; have := HSL.out; omega
          have y1 : ∀ o, (w4.alloc o).cell? ⟨w2.heap.size, 1, none⟩ = some vr := fun o => (YO.out.alloc o).cell 1
          have YS : sizeL [l[k]] ≤ 20000 := by omega
          have HFIN : Hid (NumInv r w.heap.size w2.heap.size (⟨s, l⟩ : Tm) (some ⟨b, o, none⟩) c S1 w (.int .i64 ((k + 1 : Nat) : Int)) ((w5.setCell ⟨w2.heap.size, 1, none⟩ (.slice (some ⟨g5, 0, none⟩) (k + 1) cap5)).setCell ⟨w2.heap.size, 3, none⟩ (.int .i64 (1 + (sizeL (l.take k) : Int) + (sizeL [l[k]] : Int))))) := by
            have hgs := hg5.size
            refine ⟨k + 1, R0, S3, (.slice (some ⟨g5, 0, none⟩) (k + 1) cap5), xs5, by show k + 1 ≤ l.length; omega, rfl, ⟨⟨R ++ R3, by rw [HS3.out, HS2.out, List.append_assoc]⟩, by show S3.length ≤ S1.length + sizeL (l.take (k + 1)); omega⟩, YES.out, ?_, ?_, ?_, ?_, ?_, ?_⟩
            · have := (ZO.set 1 (.slice (some ⟨g5, 0, none⟩) (k + 1) cap5)).set 3 (.int .i64 (1 + (sizeL (l.take k) : Int) + (sizeL [l[k]] : Int)))
              simpa [hst, Int.add_assoc] using this
            · have e : l.take (k + 1) = l.take k ++ [l[k]] := List.take_succ_eq_append_getElem hlt
              rw [e]
              exact (hrow5.setCell (by omega) _).setCell (by omega) _
            · have hMl := YM.out.lt
              refine YM.out.kept ?_
              rw [Below.heap_setCell _ _ _ _ (by simpa using hrO), Below.heap_setCell _ _ _ _ (by simpa using hrO), hg5.block r (by simp; omega) (fun e => by have := (YROW.out.own.lt r e.symm).1; omega), Below.heap_alloc _ _ _ (by simp; omega), Below.heap_alloc _ _ _ hMl]
            · exact ((((YT.out.alloc _).alloc _).grown hg5 (YROW.out.ne (by omega))).setOther _ _ (by omega)).setOther _ _ (by omega)
            · exact ((((YR.out.alloc _).alloc _).grown hg5 (YROW.out.ne (by omega))).setOther _ _ (by omega)).setOther _ _ (by omega)
            · exact ((((YE.out.alloc _).alloc _).grown hg5 (fun j hj => by have := (YROW.out.own.lt j hj).1; omega)).setNew (by omega) _ _).setNew (by omega) _ _
          have hsk : sizeL (l.take k) ≤ 20000 := by omega
          clear hrun hrow5 hg5 hvb5 ZX hst
          have y3 : ∀ v, (w5.setCell ⟨w2.heap.size, 1, none⟩ v).cell? ⟨w2.heap.size, 3, none⟩ = some (.int .i64 (1 + sizeL (l.take k))) := fun v => by rw [World.cell?_setCell_other _ _ _ _ (by simp)]; exact z1
          have y4 : ∀ v, (w5.setCell ⟨w2.heap.size, 1, none⟩ v).cell? ⟨w4.heap.size, 3, none⟩ = some (.int .i64 (sizeL [l[k]])) := fun v => by rw [World.cell?_setCell_other _ _ _ _ (by simp)]; exact z2
          have zf2 := fun v => (ZO.set 1 v).frozen
          go_wp2_with (at_builtin; refine wpList_append_eq rfl _ _ _ _ rfl rfl rfl HRUN.out ?_)
          go_roundw
          case rel =>
            have h := HFIN.out
            have e : ((k + 1 : Nat) : Int) = (k : Int) + 1 := by omega
            rw [e] at h
            exact h
          case measure => simp [intOf]; omega
        · have htk : l.take k = l := List.take_of_length_le (by omega)
          rw [htk] at hO1 hrow
          obtain ⟨a9, c9, hv9, hs9⟩ := hrow.sl
          subst hv9
          have p0 := hO1.cell 0
          have p1 := hO1.cell 1
          have p2 := hO1.cell 2
          have p3 := hO1.cell 3
          have r0 := hRb.cell 0
          have r1 := hRb.cell 1
          have r2 := hRb.cell 2
          have r3 := hRb.cell 3
          have rf := hRb.frozen
          simp only [List.getElem?_toArray, List.getElem?_cons_zero, List.getElem?_cons_succ] at p0 p1 p2 p3 r0 r1 r2 r3
          have HS9 := hide hs9
          have HZN : Hid (sizeL [(⟨s, l⟩ : Tm)] = 1 + sizeL l) := by unfold Hid; simp [sizeL]
          have HSZ2 : Hid (S2.length ≤ S1.length + sizeL l) := by unfold Hid; simpa [htk] using hSz
          have HZ : Hid ((1 : Int) + sizeL l = sizeL [(⟨s, l⟩ : Tm)]) := by unfold Hid; simp [sizeL]
          have HN : Hid (numT (⟨s, l⟩ : Tm) S1 = numT (⟨s, l⟩ : Tm) S2) := by unfold Hid; rw [hS2, numT_more R MEM.out]
          have HMM : Hid ((⟨s, l⟩ : Tm) ∈ S2) := by unfold Hid; rw [hS2]; exact List.mem_append_left _ MEM.out
          clear hs9 htk hO1 hrow hM hT hRb hE hES
          go_wp2_with fail
          refine bodyPost_ret (v := .agg #[.string s, .slice a9 l.length c9, .int .i64 (numT (⟨s, l⟩ : Tm) S1), .int .i64 (1 + sizeL l)]) (by simp [results, Try.results53, go_sem, World.cell?_setCell_same, World.cell?_setCell_other, r0, r1, r2, r3]) rfl ?_
          refine ⟨S2, _, rfl, ?_, XES.out, ?_, ?_, ?_⟩
          · obtain ⟨⟨R1, hR1⟩, hR2⟩ := GS.out
            refine ⟨⟨R1 ++ R, by rw [hS2, hR1, List.append_assoc]⟩, ?_⟩
            have := HZN.out
            have h3 : S2.length ≤ S1.length + sizeL l := HSZ2.out
            omega
          · refine XM.out.kept ?_
            have hne : r ≠ w.heap.size + 1 := by omega
            rw [Below.heap_setCell _ _ _ _ (by simpa using hne), Below.heap_setCell _ _ _ _ (by simpa using hne), Below.heap_setCell _ _ _ _ (by simpa using hne), Below.heap_setCell _ _ _ _ (by simpa using hne)]
          · refine ⟨HMM.out, a9, c9, by rw [HZ.out, HN.out], ?_⟩
            refine (HS9.out.kept fun b hb => ?_).mono fun b hb _ => by omega
            have hne : b ≠ w.heap.size + 1 := by omega
            rw [Below.heap_setCell _ _ _ _ (by simpa using hne), Below.heap_setCell _ _ _ _ (by simpa using hne), Below.heap_setCell _ _ _ _ (by simpa using hne), Below.heap_setCell _ _ _ _ (by simpa using hne)]
          · exact (((XE.out.setNew (by omega) _ _).setNew (by omega) _ _).setNew (by omega) _ _).setNew (by omega) _ _
#print axioms number_any
end Go.Proofs.Ytccbocefgoccdaa
