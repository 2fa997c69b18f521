/- Walks: classes are joined till nothing is left to do (closure's classes.join). -/
import Derived.Test.YtdmaijmglblccaaGreatDoorKl11
import Derived.Test.YtdmaijmglblccaaGreatDoorKl9
import Derived.Deep.LoopGhost
namespace Go.Proofs.YtdmaijmglblccaaGreatDoor
open Go.RowKit
set_option linter.unusedSimpArgs false
set_option linter.unusedVariables false
set_option maxRecDepth 8000

/-- Where what is to be done lies. -/
def TdO (o0 : Nat → Oid) (w0 : World) (v : Value) : Prop := ∀ b, v.ownBlock = some b → b < w0.heap.size → o0 b = (11, 0)
theorem exo_todo {o0 o o' : Nat → Oid} {w0 w w3 : World} {v : Value} (E : Exo o0 w0 o w) (h1 : w3.os = w.os ∧ w3.tape = w.tape ∧ w3.output = w.output ∧ w.heap.size ≤ w3.heap.size) (h2 : ∀ b, b < w.heap.size → v.ownBlock ≠ some b → w3.heap[b]? = w.heap[b]?) (h3 : ∀ b, b < w.heap.size → o' b = o b) (hT : TdO o0 w0 v) : Exo o0 w0 o' w3 :=
  ⟨h1.1.trans E.1, h1.2.1.trans E.2.1, h1.2.2.1.trans E.2.2.1, Nat.le_trans E.2.2.2.1 h1.2.2.2, fun b hb he => by
    obtain ⟨e1, e2⟩ := E.2.2.2.2 b hb he
    have hbw := Nat.lt_of_lt_of_le hb E.2.2.2.1
    exact ⟨(h2 b hbw fun e => by rw [hT b e hb] at he; cases he).trans e1, (h3 b hbw).trans e2⟩⟩
/-- Between two that are joined. -/
def JoI (N B r : Nat) (X : Nat → Prop) (E : List Pr) (S : Tm → Prop) (W : Nat) (k0 : Kl) (o0 : Nat → Oid) (w0 : World) (g : Nat) (v : Value) (wr : World) : Prop :=
  ∃ (k : Kl) (m : Km) (o : Nat → Oid) (td : List (Nat × Nat)), JnI E S W k td (fun _ => False) ∧ KlAt N B r X wr o k m ∧ Exo o0 w0 o wr ∧ Rwo wr N o eX 81 2 v td.length (pL td) ∧ TdO o0 w0 v ∧ (k.ts = k0.ts ∧ k.bl = k0.bl) ∧ td.length + k.cnt * (W + 1) ≤ g ∧ td.length + k.cnt * (W + 1) ≤ 1000000
/-- While what looks otherwise is signed anew. -/
def JoJ (N B r : Nat) (X : Nat → Prop) (E : List Pr) (S : Tm → Prop) (W : Nat) (k0 : Kl) (o0 : Nat → Oid) (w0 : World) (kS : Kl) (tl : Nat) (al : List Nat) (av v i : Value) (wr : World) : Prop :=
  ∃ (q : Nat) (k : Kl) (m : Km) (o : Nat → Oid) (td : List (Nat × Nat)), q ≤ al.length ∧ i = .int .i64 (q : Int) ∧ JnI E S W k td (fun x => x ∈ al.drop q) ∧ KlAt N B r X wr o k m ∧ Exo o0 w0 o wr ∧ Rwo wr N o eX 81 2 v td.length (pL td) ∧ TdO o0 w0 v ∧ Rwo wr N o eX 3 1 av (iL al).length (iL al) ∧ (∀ b, av.ownBlock = some b → v.ownBlock ≠ some b) ∧ (k.ts = k0.ts ∧ k.bl = k0.bl) ∧ k.cnt = kS.cnt ∧ td.length ≤ tl + q
/-- One of the two goes into the other one. -/
def JoW (a b : Nat) (wz : World) (x y : Value) (w' : World) : Prop := ∃ l m : Nat, x = .int .i64 (l : Int) ∧ y = .int .i64 (m : Int) ∧ ((l = a ∧ m = b) ∨ (l = b ∧ m = a)) ∧ w' = wz
theorem jn_A {E : List Pr} {S : Tm → Prop} {W : Nat} {k : Kl} {td : List (Nat × Nat)} {P : Nat → Prop} (h : JnI E S W k td P) {c d : Nat} (hc : c < k.ts.length) (hd : d < k.ts.length) (hne : c ≠ d) : (k.A c).length + (k.A d).length ≤ W ∧ (k.M c).length + (k.M d).length ≤ k.ts.length := by
  have key : ∀ (L : List (List Nat)), c < L.length → d < L.length → (gd L [] c).length + (gd L [] d).length ≤ sumN L := fun L h1 h2 => by
    have e1 := sumN_set (l := L) (i := c) [] h1
    have e2 := sumN_at (l := L.set c []) (i := d) (by simpa using h2)
    rw [gd_set_ne hne] at e2
    simp only [List.length_nil] at e1
    omega
  have h1 := key k.ab (by rw [h.la]; exact hc) (by rw [h.la]; exact hd)
  have h2 := key k.mb (by rw [h.lm]; exact hc) (by rw [h.lm]; exact hd)
  exact ⟨Nat.le_trans h1 h.sa, Nat.le_trans h2 h.ms⟩
theorem Rwo.upn {w w' : World} {N : Nat} {o : Nat → Oid} {id : Oid} {T e : Nat} {v : Value} {n : Nat} {xs : List Value} (h : Rwo w N o id T e v n xs) (hb : Below w.heap.size w w') : Rwo w' N (upN o w.heap.size) id T e v n xs := h.keep fun b h1 h2 => ⟨hb.block b h1, (upN_lt h1).trans h2⟩
set_option maxHeartbeats 8000000 in
theorem join_any {BT N B r : Nat} {X : Nat → Prop} {E : List Pr} {S : Tm → Prop} {W : Nat} {w : World} {o : Nat → Oid} {k : Kl} {m : Km} {td : List (Nat × Nat)} {v : Value} (h : KlAt N B r X w o k m) (hT : TbO BT o w) (hJ : JnI E S W k td (fun _ => False)) (hv : Rwo w N o (11, 0) 81 2 v td.length (pL td)) (hz : k.ts.length ≤ 900 ∧ W ≤ 900 ∧ td.length ≤ 100) (hbl : ∀ n, n < k.ts.length → (k.B n).length ≤ 1000) :
    Calls Tryz.prog 47 #[.pointer (some ⟨B, 0, none⟩), v] w fun e w' => e = .returned (.tuple #[]) ∧ ∃ k' m' o', KlAt N B r X w' o' k' m' ∧ JnI E S W k' [] (fun _ => False) ∧ k'.ts = k.ts ∧ Exo o w o' w' := by
  have hrk : td.length + k.cnt * (W + 1) ≤ 1000000 := by
    have h1 := cnt_le k
    have h2 : k.cnt * (W + 1) ≤ 900 * 901 := Nat.mul_le_mul (by omega) (by omega)
    omega
  have START : Hid (JoI N B r X E S W k o w (td.length + k.cnt * (W + 1)) v w) := ⟨k, m, upV o v eX, td, hJ, h.relT hv.2, ⟨rfl, rfl, rfl, Nat.le_refl _, fun b _ he => ⟨rfl, by unfold upV; split; rfl; exact he⟩⟩, hv.give, fun b hb _ => hv.2 b hb, ⟨rfl, rfl⟩, Nat.le_refl _, hrk⟩
  have HX0 := hide h.hX
  have HT := hide hT
  have HBL := hide hbl
  have HZ := hide hz
  obtain ⟨ta, tc, rfl⟩ := hv.shape
  clear hT hJ hv hz hbl h hrk
  generalize td.length = tl0 at *
  go_enter Tryz.func47, Tryz.ntmps47
  go_wp2_with fail
  go_loopg [1] (tl0 + k.cnt * (W + 1)) (fun g v wr => JoI N B r X E S W k o w g v wr)
  case atStart => exact START.out
  case round =>
    obtain ⟨k1, m1, o1, td1, hJ1, hK1, hX1, hR1, hto1, hts1, hrk1, hrk2⟩ := hrel
    rcases List.eq_nil_or_concat td1 with rfl | ⟨td2, ⟨a, b⟩, rfl⟩
    · obtain ⟨ta1, tc1, rfl⟩ := hR1.shape
      have HJ1 := hide hJ1
      have HK1 := hide hK1
      have HX1 := hide hX1
      clear hJ1 hK1 hX1 hR1 hrk1 hrk2
      go_wp2_with fail
      go_end0
      exact ⟨rfl, k1, m1, o1, HK1.out, HJ1.out, hts1.1, HX1.out⟩
    · rw [List.concat_eq_append] at *
      obtain ⟨gq, cap, rfl, hc0, hc1, hle, hR2⟩ := todo_last hR1
      obtain ⟨ga, gb, gc⟩ := hJ1.tsn (a, b) (by simp)
      simp only at ga gb gc
      have hz1 : k1.ts.length ≤ 900 := by rw [hts1.1]; exact HZ.out.1
      obtain ⟨Ka, Ea⟩ := hK1.upn ((Below.refl _ _).alloc (Nat.le_refl _) (.cells #[iV a, iV b] 81))
      have Ra := hR2.upn ((Below.refl _ _).alloc (Nat.le_refl _) (.cells #[iV a, iV b] 81))
      have Pa := Blk.new wr #[iV a, iV b] 81
      have hpop := todo_pop gq td2.length cap hle
      have hn1 : ((td2.length + 1 : Nat) : Int) - 1 = ((td2.length : Nat) : Int) := by omega
      have hbd : td2.length ≤ 1000000 := by simp at hrk2; omega
      obtain ⟨g2, c2, b2, ca, hv2⟩ := Ka.cl_at (i := a) (by rw [hJ1.lc]; exact ga)
      obtain ⟨g2', c2', b2', cb, hv2'⟩ := Ka.cl_at (i := b) (by rw [hJ1.lc]; exact gb)
      obtain ⟨rfl, rfl⟩ : g2 = g2' ∧ c2 = c2' := by rw [hv2] at hv2'; simpa using hv2'
      have hai : (a : Int) < (k1.cl.length : Int) := by rw [hJ1.lc]; omega
      have hbi : (b : Int) < (k1.cl.length : Int) := by rw [hJ1.lc]; omega
      have pa0 := Pa.cell 0
      have pa1 := Pa.cell 1
      have HKa := hide Ka
      have HXa := hide (hX1.trans Ea)
      have HRa := hide Ra
      have HJ := hide hJ1
      have HTS := hide hts1
      have HTO : Hid (TdO o w (.slice (some ⟨gq, 0, none⟩) td2.length cap)) := fun b hb h2 => hto1 b hb h2
      have HRK : Hid (td2.length + 1 + k1.cnt * (W + 1) ≤ gk ∧ td2.length + 1 + k1.cnt * (W + 1) ≤ 1000000) := by simp at hrk1 hrk2; exact ⟨by omega, by omega⟩
      clear hJ1 hK1 hX1 hR1 hR2 hto1 hts1 hrk1 hrk2 Ka Ea Ra hle hv2 hv2' b2' Pa
      go_upto_region 3 with fail
      clear hpop hc0 hc1
      generalize (wr.alloc (.cells #[iV a, iV b] 81)) = wa at *
      generalize upN o1 wr.heap.size = oa at *
      generalize wr.heap.size = P at *
      go_quiet (fail)
      have kd : Below wa.heap.size wa (wa.drewN nq) := below_drewN (Below.refl _ _) _
      have HKd := hide (HKa.out.later kd)
      have HXd := hide (HXa.out.trans (Exo.below kd fun _ _ => rfl))
      have HRd := hide (HRa.out.later kd)
      generalize wa.drewN nq = wd at *
      clear HKa HXa HRa b2 ca cb pa0 pa1 kd hai hbi
      have hCa := HJ.out.clt a ga
      have hCb := HJ.out.clt b gb
      by_cases hab : k1.C a = k1.C b
      · have hcmp : ((k1.C a : Int) == (k1.C b : Int)) = true := by rw [hab]; simp
        have NXT : Hid (JoI N B r X E S W k o w (td2.length + k1.cnt * (W + 1)) (.slice (some ⟨gq, 0, none⟩) td2.length cap) wd) := ⟨k1, m1, oa, td2, jn_skip HJ.out hab, HKd.out, HXd.out, HRd.out, HTO.out, HTS.out, Nat.le_refl _, by have := HRK.out; omega⟩
        clear HKd HXd HRd HTO hab
        go_wp2_with fail
        go_roundg (td2.length + k1.cnt * (W + 1))
        case measure => have := HRK.out; omega
        case rel => exact NXT.out
      · have hcmp : ((k1.C a : Int) == (k1.C b : Int)) = false := by
          rw [beq_eq_false_iff_ne]
          omega
        obtain ⟨hA, hM⟩ := jn_A HJ.out hCa hCb hab
        have HAM : Hid ((k1.A (k1.C a)).length + (k1.A (k1.C b)).length ≤ 900 ∧ (k1.M (k1.C a)).length + (k1.M (k1.C b)).length ≤ 900) := ⟨by have := HZ.out; omega, by omega⟩
        have HS1 := hide (ksize_any HKd.out (c := k1.C a) (by rw [HJ.out.lm]; exact hCa) (by rw [HJ.out.la]; exact hCa) ⟨by have := HAM.out; omega, by have := HAM.out; omega⟩)
        have HAB := hide hab
        have HCA := hide hCa
        have HCB := hide hCb
        clear hA hM hab hCa hCb
        go_wp2_with fail
        refine HS1.out.mono ?_
        rintro e w4 ⟨rfl, hb4⟩
        have HK4 := hide (HKd.out.later hb4)
        have HX4 := hide (HXd.out.trans (Exo.below hb4 fun _ _ => rfl))
        have HR4 := hide (HRd.out.later hb4)
        have HS2 := hide (ksize_any HK4.out (c := k1.C b) (by rw [HJ.out.lm]; exact HCB.out) (by rw [HJ.out.la]; exact HCB.out) ⟨by have := HAM.out; omega, by have := HAM.out; omega⟩)
        clear hb4 HS1 HKd HXd HRd
        go_wp2_with fail
        refine HS2.out.mono ?_
        rintro e w5 ⟨rfl, hb5⟩
        have HK5 := hide (HK4.out.later hb5)
        have HX5 := hide (HX4.out.trans (Exo.below hb5 fun _ _ => rfl))
        have HR5 := hide (HR4.out.later hb5)
        clear hb5 HS2 HK4 HX4 HR4
        go_upto_if 51 with fail
        go_cut [5, 6] (fun x y w' => JoW (k1.C a) (k1.C b) w5 x y w')
        case first =>
          by_cases hgt : ((k1.M (k1.C b)).length : Int) + ((k1.A (k1.C b)).length : Int) < ((k1.M (k1.C a)).length : Int) + ((k1.A (k1.C a)).length : Int)
          · go_wp2_with fail
            go_meet
            exact ⟨k1.C b, k1.C a, rfl, rfl, Or.inr ⟨rfl, rfl⟩, rfl⟩
          · go_wp2_with fail
            go_meet
            exact ⟨k1.C a, k1.C b, rfl, rfl, Or.inl ⟨rfl, rfl⟩, rfl⟩
        case rest =>
          obtain ⟨l, mm, rfl, rfl, hlm, rfl⟩ := hcut
          have hl : l < k1.ts.length := by rcases hlm with ⟨e, _⟩ | ⟨e, _⟩ <;> rw [e]; exact HCA.out; exact HCB.out
          have hmm : mm < k1.ts.length := by rcases hlm with ⟨_, e⟩ | ⟨_, e⟩ <;> rw [e]; exact HCB.out; exact HCA.out
          have hne : l ≠ mm := by
            rcases hlm with ⟨e1, e2⟩ | ⟨e1, e2⟩ <;> rw [e1, e2]
            · exact HAB.out
            · exact fun e => HAB.out e.symm
          have hszs : (k1.M l).length + (k1.M mm).length ≤ 900000 ∧ (k1.A l).length + (k1.A mm).length ≤ 900 := by
            have h9 := HAM.out
            rcases hlm with ⟨e1, e2⟩ | ⟨e1, e2⟩ <;> rw [e1, e2] <;> omega
          have HSW := hide (swallow_any HK5.out (l := l) (m := mm) (by rw [HJ.out.lm]; exact hl) (by rw [HJ.out.lm]; exact hmm) (by rw [HJ.out.la]; exact hl) (by rw [HJ.out.la]; exact hmm) hne (fun i hi => HJ.out.mem i l (by rw [← HJ.out.lc]; exact hi) hl) (fun i hi => by rw [HJ.out.lc]; exact HJ.out.mlt l hl i hi) ⟨hszs.1, by omega⟩)
          obtain ⟨hJS, hcnt⟩ := jn_swal HJ.out hlm hne
          have HJS := hide hJS
          have HCN := hide hcnt
          have HAL : Hid ((k1.A l).length ≤ W ∧ ∀ x ∈ k1.A l, x < k1.ts.length) := ⟨Nat.le_trans (sumN_at (by rw [HJ.out.la]; exact hl)) HJ.out.sa, HJ.out.alt l hl⟩
          have hAl9 : (k1.A l).length ≤ 900 := by omega
          clear hl hmm hne hszs hlm hJS hcnt HAB HCA HCB HAM
          go_wp2_with fail
          refine HSW.out.mono ?_
          rintro e w7 ⟨v7, m7, o7, rfl, R7, h7, K7, X7⟩
          obtain ⟨a7, c7, rfl⟩ := R7.shape
          have HX7 := hide (HX5.out.trans X7)
          have START2 : Hid (JoJ N B r X E S W k o w (k1.swal l mm) td2.length (k1.A l) (.slice a7 (iL (k1.A l)).length c7) (.slice (some ⟨gq, 0, none⟩) td2.length cap) (.int .i64 0) w7) := ⟨0, k1.swal l mm, m7, o7, td2, Nat.zero_le _, rfl, by rw [List.drop_zero]; exact HJS.out, K7, HX7.out, HR5.out.exo X7, HTO.out, R7, fun b hb e => (h7 b hb).2 (HR5.out.2 b e), HTS.out, rfl, Nat.le_refl _⟩
          clear HSW HK5 HX5 HR5 R7 h7 K7 X7 HJS HX7 HJ
          go_wp2_with fail
          go_loopw [1, 59] (fun v i wr => JoJ N B r X E S W k o w (k1.swal l mm) td2.length (k1.A l) (.slice a7 (iL (k1.A l)).length c7) v i wr) (fun v i wr => (k1.A l).length - (intOf i).toNat)
          case atStart => exact START2.out
          case round =>
            obtain ⟨q, k3, m3, o3, td3, hq, rfl, hJ3, hK3, hX3, hR3, hto3, hA3, hdis3, hts3, hcn3, htl3⟩ := hrel
            obtain ⟨t3, c3, rfl⟩ := hR3.shape
            by_cases hql : q < (k1.A l).length
            · have hqi : (q : Int) < ((iL (k1.A l)).length : Int) := by rw [iL_len]; omega
              obtain ⟨gA, uA, hgA, huA, hcA, -, -, -, -⟩ := hA3.at (i := q) (by rw [iL_len]; exact hql)
              have huA2 := iL_at huA
              rw [gd_get hql] at huA2
              subst huA2
              have hnx := HAL.out.2 _ (List.getElem_mem hql)
              obtain ⟨n, hn⟩ : ∃ n, n = (k1.A l)[q] := ⟨_, rfl⟩
              have HNQ := hide hn
              rw [← hn] at hcA hnx
              have hn3 : n < k3.ts.length := by rw [hts3.1, ← HTS.out.1]; exact hnx
              have hB3 : (k3.B n).length ≤ 1000 := by
                have e : k3.B n = k.B n := by unfold Kl.B; rw [hts3.2]
                rw [e]
                exact HBL.out n (by rw [← hts3.1]; exact hn3)
              have hC3 : ∀ b, k3.C b < 100000 := fun b => by
                by_cases hb : b < k3.ts.length
                · have h1 := hJ3.clt b hb
                  rw [hts3.1] at h1
                  have := HZ.out.1
                  omega
                · unfold Kl.C gd
                  rw [List.getElem?_eq_none (by rw [hJ3.lc]; omega)]
                  simp
              have T3 := HT.out.exo hX3
              obtain ⟨g0, c0, at3, ct3, -, b0, d0, -, -, hcs⟩ := hK3.ts_at hn3
              obtain ⟨g1, c1, ab3, cb3, b1, hvb, e1, hvl⟩ := hK3.bl_at (i := n) (by rw [hJ3.lb]; exact hn3)
              have hni0 : (n : Int) < (m3.cs.length : Int) := by rw [hcs]; omega
              have hni1 : (n : Int) < (m3.vb.length : Int) := by rw [hvl, hJ3.lb]; omega
              have row := hK3.i1 n (by rw [hJ3.lb]; exact hn3)
              rw [hvb] at row
              have HSG : Hid (∀ w', Below wr.heap.size wr w' → Calls Tryz.prog 61 #[.pointer (some ⟨B, 0, none⟩), .string (k3.T n).name, .slice ab3 (k3.B n).length cb3] w' fun e w'' => e = .returned (.string (k3.sig n)) ∧ Below wr.heap.size wr w'') := fun w' hb => by
                refine (sign_any (hK3.later hb) (T3.1.on (hb.mono T3.2.1)) (Nat.le_trans T3.2.1 hb.size) (row.later hb) (fun b hb => by rw [hJ3.lc]; exact (hJ3.arg n hn3).2 b hb) hC3 (k3.T n).name (by have := name_sizeK (hJ3.nm n hn3); omega) hB3).mono ?_
                rintro e w'' ⟨rfl, hb2⟩
                exact ⟨rfl, hb.trans (hb2.mono hb.size)⟩
              have HJ3 := hide hJ3
              have HK3 := hide hK3
              have HX3 := hide hX3
              have HR3 := hide hR3
              have HTO3 := hide hto3
              have HA3 := hide hA3
              have HD3 := hide hdis3
              have HTS3 := hide hts3
              have HCN3 := hide hcn3
              have HTL3 := hide htl3
              have HN3 := hide hn3
              have KB : Hid (∀ w', Below wr.heap.size wr w' → w'.cell? ⟨B, 0, none⟩ = some (.slice (some ⟨g0, 0, none⟩) m3.cs.length c0) ∧ w'.cell? ⟨g0, n * 2, none⟩ = some (.string (k3.T n).name) ∧ w'.cell? ⟨B, 1, none⟩ = some (.slice (some ⟨g1, 0, none⟩) m3.vb.length c1) ∧ w'.cell? ⟨g1, n, none⟩ = some (.slice ab3 (k3.B n).length cb3)) := fun w' hb => ⟨cell_later hb b0, cell_later hb d0, cell_later hb b1, cell_later hb e1⟩
              have HIL : Hid (td3.length ≤ 1001000) := by have := HRK.out; have h5 := HTL3.out; unfold Hid; omega
              clear hJ3 hK3 hX3 hR3 hto3 hA3 hdis3 hts3 hcn3 htl3 T3 row hvb hvl hcs huA hB3 hC3 hn b0 d0 b1 e1 hnx hn3
              subst hgA
              go_upto_region 10 with fail
              clear hcA
              have kd : Below wr.heap.size wr wr.drew := (Below.refl _ _).drew
              refine wp_region_held_drew (S := Below wr.heap.size wr) (by kernel_rfl) kd (fun hHeld => ?_)
              generalize wr.drew = wd at *
              refine wpAnyH_take (i := 0) (v := ?_) rfl (by kernel_rfl) (by kernel_rfl) (by kernel_rfl) (fun _ _ _ h => h) (Or.inl ⟨by rfl, ?_⟩) (by assumption) ?_
              rotate_left
              · intro w' hSw
                go_simp <;> with_reducible rfl
              try simp only [Act.put, List.setIfInBounds_toArray, List.set_cons_zero, List.set_cons_succ, List.getElem_toArray, List.getElem_cons_succ, List.getElem_cons_zero]
              refine wpAnyH_take (i := 1) (v := ?_) rfl (by kernel_rfl) (by kernel_rfl) (by kernel_rfl) (fun _ _ _ h => h) (Or.inl ⟨by rfl, ?_⟩) (by assumption) ?_
              rotate_left
              · intro w' hSw
                go_simp <;> with_reducible rfl
              try simp only [Act.put, List.setIfInBounds_toArray, List.set_cons_zero, List.set_cons_succ, List.getElem_toArray, List.getElem_cons_succ, List.getElem_cons_zero]
              refine wpAnyH_take (i := 2) (v := ?_) rfl (by kernel_rfl) (by kernel_rfl) (by kernel_rfl) (fun _ _ _ h => h) (Or.inl ⟨by rfl, ?_⟩) (by assumption) ?_
              rotate_left
              · intro w' hSw
                go_simp <;> with_reducible rfl
              try simp only [Act.put, List.setIfInBounds_toArray, List.set_cons_zero, List.set_cons_succ, List.getElem_toArray, List.getElem_cons_succ, List.getElem_cons_zero]
              refine wpAnyH_take (i := 3) (v := ?_) rfl (by kernel_rfl) (by kernel_rfl) (by kernel_rfl) (fun _ _ _ h => h) (Or.inl ⟨by rfl, ?_⟩) (by assumption) ?_
              rotate_left
              · intro w' hSw
                go_simp <;> with_reducible rfl
              try simp only [Act.put, List.setIfInBounds_toArray, List.set_cons_zero, List.set_cons_succ, List.getElem_toArray, List.getElem_cons_succ, List.getElem_cons_zero]
              refine wpAnyH_take (i := 4) (v := ?_) rfl (by kernel_rfl) (by kernel_rfl) (by kernel_rfl) (fun _ _ _ h => h) (Or.inl ⟨by rfl, ?_⟩) (by assumption) ?_
              rotate_left
              · intro w' hSw
                have x0 := (KB.out w' hSw).1
                have x1 := (KB.out w' hSw).2.1
                have x2 := (KB.out w' hSw).2.2.1
                have x3 := (KB.out w' hSw).2.2.2
                go_simp <;> with_reducible rfl
              try simp only [Act.put, List.setIfInBounds_toArray, List.set_cons_zero, List.set_cons_succ, List.getElem_toArray, List.getElem_cons_succ, List.getElem_cons_zero]
              refine wpAnyH_take (i := 5) (v := ?_) rfl (by kernel_rfl) (by kernel_rfl) (by kernel_rfl) (fun _ _ _ h => h) (Or.inl ⟨by rfl, ?_⟩) (by assumption) ?_
              rotate_left
              · intro w' hSw
                go_simp <;> with_reducible rfl
              try simp only [Act.put, List.setIfInBounds_toArray, List.set_cons_zero, List.set_cons_succ, List.getElem_toArray, List.getElem_cons_succ, List.getElem_cons_zero]
              refine wpAnyH_take (i := 6) (v := ?_) rfl (by kernel_rfl) (by kernel_rfl) (by kernel_rfl) (fun _ _ _ h => h) (Or.inl ⟨by rfl, ?_⟩) (by assumption) ?_
              rotate_left
              · intro w' hSw
                go_simp <;> with_reducible rfl
              try simp only [Act.put, List.setIfInBounds_toArray, List.set_cons_zero, List.set_cons_succ, List.getElem_toArray, List.getElem_cons_succ, List.getElem_cons_zero]
              refine wpAnyH_take (i := 7) (v := ?_) rfl (by kernel_rfl) (by kernel_rfl) (by kernel_rfl) (fun _ _ _ h => h) (Or.inl ⟨by rfl, ?_⟩) (by assumption) ?_
              rotate_left
              · intro w' hSw
                go_simp <;> with_reducible rfl
              try simp only [Act.put, List.setIfInBounds_toArray, List.set_cons_zero, List.set_cons_succ, List.getElem_toArray, List.getElem_cons_succ, List.getElem_cons_zero]
              refine wpAnyH_take (i := 8) (v := ?_) rfl (by kernel_rfl) (by kernel_rfl) (by kernel_rfl) (fun _ _ _ h => h) (Or.inl ⟨by rfl, ?_⟩) (by assumption) ?_
              rotate_left
              · intro w' hSw
                have x0 := (KB.out w' hSw).1
                have x1 := (KB.out w' hSw).2.1
                have x2 := (KB.out w' hSw).2.2.1
                have x3 := (KB.out w' hSw).2.2.2
                go_simp <;> with_reducible rfl
              try simp only [Act.put, List.setIfInBounds_toArray, List.set_cons_zero, List.set_cons_succ, List.getElem_toArray, List.getElem_cons_succ, List.getElem_cons_zero]
              refine wpAnyH_take (i := 9) (v := ?_) rfl (by kernel_rfl) (by kernel_rfl) (by kernel_rfl) (fun _ _ _ h => h) (Or.inl ⟨by rfl, ?_⟩) (by assumption) ?_
              rotate_left
              · intro w' hSw
                go_simp <;> with_reducible rfl
              try simp only [Act.put, List.setIfInBounds_toArray, List.set_cons_zero, List.set_cons_succ, List.getElem_toArray, List.getElem_cons_succ, List.getElem_cons_zero]
              refine wpAnyH_take (i := 10) (v := ?_) rfl (by kernel_rfl) (by kernel_rfl) (by kernel_rfl) (fun _ _ _ h => h) (Or.inl ⟨by rfl, ?_⟩) (by assumption) ?_
              rotate_left
              · intro w' hSw
                go_simp <;> with_reducible rfl
              try simp only [Act.put, List.setIfInBounds_toArray, List.set_cons_zero, List.set_cons_succ, List.getElem_toArray, List.getElem_cons_succ, List.getElem_cons_zero]
              refine wpAnyH_take (i := 11) (v := ?_) rfl (by kernel_rfl) (by kernel_rfl) (by kernel_rfl) (fun _ _ _ h => h) (Or.inl ⟨by rfl, ?_⟩) (by assumption) ?_
              rotate_left
              · intro w' hSw
                go_simp <;> with_reducible rfl
              try simp only [Act.put, List.setIfInBounds_toArray, List.set_cons_zero, List.set_cons_succ, List.getElem_toArray, List.getElem_cons_succ, List.getElem_cons_zero]
              refine wpAnyH_take (i := 12) (v := ?_) rfl (by kernel_rfl) (by kernel_rfl) (by kernel_rfl) (fun _ _ _ h => h) (Or.inl ⟨by rfl, ?_⟩) (by assumption) ?_
              rotate_left
              · intro w' hSw
                have x0 := (KB.out w' hSw).1
                have x1 := (KB.out w' hSw).2.1
                have x2 := (KB.out w' hSw).2.2.1
                have x3 := (KB.out w' hSw).2.2.2
                go_simp <;> with_reducible rfl
              try simp only [Act.put, List.setIfInBounds_toArray, List.set_cons_zero, List.set_cons_succ, List.getElem_toArray, List.getElem_cons_succ, List.getElem_cons_zero]
              refine wpAnyH_take (i := 13) (v := ?_) rfl (by kernel_rfl) (by kernel_rfl) (by kernel_rfl) (fun _ _ _ h => h) (Or.inl ⟨by rfl, ?_⟩) (by assumption) ?_
              rotate_left
              · intro w' hSw
                go_simp <;> with_reducible rfl
              try simp only [Act.put, List.setIfInBounds_toArray, List.set_cons_zero, List.set_cons_succ, List.getElem_toArray, List.getElem_cons_succ, List.getElem_cons_zero]
              refine wpAnyH_take (i := 14) (v := ?_) rfl (by kernel_rfl) (by kernel_rfl) (by kernel_rfl) (fun _ _ _ h => h) (Or.inl ⟨by rfl, ?_⟩) (by assumption) ?_
              rotate_left
              · intro w' hSw
                go_simp <;> with_reducible rfl
              try simp only [Act.put, List.setIfInBounds_toArray, List.set_cons_zero, List.set_cons_succ, List.getElem_toArray, List.getElem_cons_succ, List.getElem_cons_zero]
              refine wpAnyH_take (i := 15) (v := ?_) rfl (by kernel_rfl) (by kernel_rfl) (by kernel_rfl) (fun _ _ _ h => h) (Or.inl ⟨by rfl, ?_⟩) (by assumption) ?_
              rotate_left
              · intro w' hSw
                have x0 := (KB.out w' hSw).1
                have x1 := (KB.out w' hSw).2.1
                have x2 := (KB.out w' hSw).2.2.1
                have x3 := (KB.out w' hSw).2.2.2
                go_simp <;> with_reducible rfl
              try simp only [Act.put, List.setIfInBounds_toArray, List.set_cons_zero, List.set_cons_succ, List.getElem_toArray, List.getElem_cons_succ, List.getElem_cons_zero]
              refine wpAnyH_ready (rs := [16]) (by kernel_rfl) (by simp) ?_
              refine AllReadyH.cons rfl (fun K hK => ?_) AllReadyH.nil
              go_simp
              go_at_call 61
              refine (HSG.out _ kd).mono ?_
              rintro e w9 ⟨rfl, hb9⟩
              go_simp
              refine hK.out _ _ (by exact hb9) (fun hHeld => ?_)
              clear hK K
              try simp only [Act.put, List.setIfInBounds_toArray, List.set_cons_zero, List.set_cons_succ, List.getElem_toArray, List.getElem_cons_succ, List.getElem_cons_zero]
              refine wpAnyH_take (i := 17) (v := ?_) rfl (by kernel_rfl) (by kernel_rfl) (by kernel_rfl) (fun _ _ _ h => h) (Or.inl ⟨by rfl, ?_⟩) (by assumption) ?_
              rotate_left
              · intro w' hSw
                go_simp <;> with_reducible rfl
              try simp only [Act.put, List.setIfInBounds_toArray, List.set_cons_zero, List.set_cons_succ, List.getElem_toArray, List.getElem_cons_succ, List.getElem_cons_zero]
              refine wpAnyH_done (by kernel_rfl) ?_ _
              have K9 := HK3.out.later hb9
              have X9 := HX3.out.trans (Exo.below hb9 fun _ _ => rfl)
              have R9 := HR3.out.later hb9
              have A9 := HA3.out.later hb9
              have b5 : w9.cell? ⟨B, 5, none⟩ = some (.map (some r)) := by rw [K9.box.cell]; simp
              have hlk := map_look K9.map (k3.sig n)
              clear hHeld kd hb9 HSG KB HK3 HX3 HR3 HA3
              cases hsg : sgG k3.sg (k3.sig n) with
              | some ot =>
                rw [hsg] at hlk
                simp only [Option.map_some, Option.getD_some, Option.isSome_some] at hlk
                obtain ⟨g, cap2, w11, o11, hr11, R11, K11, hat, hw11, hb11, ho11⟩ := app_todo K9 R9 (fun b hb hx => by
                  have h1 := HX0.out b hx
                  have h2 := HTO3.out b hb h1.1
                  rw [h1.2] at h2
                  cases h2) (Nat.le_trans HIL.out (by omega)) n ot
                have X11 := exo_todo X9 hw11 hb11 ho11 HTO3.out
                have A11 : Rwo w11 N o11 eX 3 1 (.slice (some ⟨gA, 0, none⟩) (iL (k1.A l)).length c7) (iL (k1.A l)).length (iL (k1.A l)) := ⟨ownsRow_at A9.1 fun gb hgb => hb11 gb (A9.1.lt gb hgb).2 (HD3.out gb hgb), fun b hb => (ho11 b (A9.1.lt b hb).2).trans (A9.2 b hb)⟩
                have NX2 : Hid (JoJ N B r X E S W k o w (k1.swal l mm) td2.length (k1.A l) (.slice (some ⟨gA, 0, none⟩) (iL (k1.A l)).length c7) (.slice (some ⟨g, 0, none⟩) (td3.length + 1) cap2) (.int .i64 ((q + 1 : Nat) : Int)) w11) := by
                  refine ⟨q + 1, k3, m3, o11, td3 ++ [(n, ot)], hql, rfl, (jn_other HJ3.out HN3.out hsg).less fun x hx => drop_ne hql hx.1 (by rw [← HNQ.out]; exact hx.2), K11, X11, R11, fun b hb h2 => ?_, A11, fun b hb e => ?_, HTS3.out, HCN3.out, by have := HTL3.out; simp; omega⟩
                  · have e : g = b := by simpa [Value.ownBlock] using hb
                    subst e
                    rcases hat with e | e
                    · exact HTO3.out g e h2
                    · have := X9.2.2.2.1; omega
                  · have e2 : g = b := by simpa [Value.ownBlock] using e
                    subst e2
                    rcases hat with e3 | e3
                    · exact HD3.out g hb e3
                    · have := (A9.1.lt g hb).2; omega
                have HR11 := hide hr11
                clear hsg hr11 R11 K11 hat hw11 hb11 ho11 X11 A11 K9 X9 R9 A9
                have hil := HIL.out
                go_wp2_with (at_builtin; refine wpList_append_eq rfl _ _ _ _ rfl rfl rfl HR11.out ?_)
                go_roundw
                case rel => exact NX2.out
                case measure => simp [intOf]; omega
              | none =>
                rw [hsg] at hlk
                simp only [Option.map_none, Option.getD_none, Option.isSome_none] at hlk
                obtain ⟨w10, hm10, K10, F10⟩ := K9.push_sg (k3.sig n) n hsg
                have NX2 : Hid (JoJ N B r X E S W k o w (k1.swal l mm) td2.length (k1.A l) (.slice (some ⟨gA, 0, none⟩) (iL (k1.A l)).length c7) (.slice t3 td3.length c3) (.int .i64 ((q + 1 : Nat) : Int)) w10) :=
                  ⟨q + 1, k3.signed n, m3, o3, td3, hql, rfl, (jn_new HJ3.out HN3.out hsg).less fun x hx => drop_ne hql hx.1 (by rw [← HNQ.out]; exact hx.2), K10, X9.trans (F10.exo (by simp)), R9.fr F10 (by simp), HTO3.out, A9.fr F10 (by simp), HD3.out, HTS3.out, HCN3.out, by have := HTL3.out; omega⟩
                clear hsg K10 F10 K9 X9 R9 A9
                go_wp2_with fail
                go_roundw
                case rel => exact NX2.out
                case measure => simp [intOf]; omega
            · have hqi : ¬ (q : Int) < ((iL (k1.A l)).length : Int) := by rw [iL_len]; omega
              have hdr : (k1.A l).drop q = [] := List.drop_eq_nil_of_le (by omega)
              rw [hdr] at hJ3
              have hrk9 : td3.length + k3.cnt * (W + 1) < td2.length + 1 + k1.cnt * (W + 1) := by
                have h1 := HCN.out
                rw [← hcn3] at h1
                have h2 : (k3.cnt + 1) * (W + 1) ≤ k1.cnt * (W + 1) := Nat.mul_le_mul_right _ h1
                rw [Nat.add_mul] at h2
                have h3 := HAL.out.1
                omega
              have NX3 : Hid (JoI N B r X E S W k o w (td3.length + k3.cnt * (W + 1)) (.slice t3 td3.length c3) wr) := ⟨k3, m3, o3, td3, hJ3.less (fun x hx => by cases hx), hK3, hX3, hR3, hto3, hts3, Nat.le_refl _, by have := HRK.out; omega⟩
              have HRK9 : Hid (td3.length + k3.cnt * (W + 1) < gk) := by have := HRK.out; unfold Hid; omega
              clear hJ3 hK3 hX3 hR3 hto3 hA3 hdis3 hts3 hcn3 htl3 hrk9 hdr
              go_wp2_with fail
              go_roundg (td3.length + k3.cnt * (W + 1))
              case measure => exact HRK9.out
              case rel => exact NX3.out
end Go.Proofs.YtdmaijmglblccaaGreatDoor
