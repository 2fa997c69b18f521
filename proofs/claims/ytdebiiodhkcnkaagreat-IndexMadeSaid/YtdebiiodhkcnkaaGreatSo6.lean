import Derived.Test.YtdebiiodhkcnkaaGreatZCIndexMadeOwn
import Derived.Test.YtdebiiodhkcnkaaGreatZBIndexMadeOwn
import Derived.Test.YtdebiiodhkcnkaaGreatZIndexMadeOwn
import Derived.Test.YtdebiiodhkcnkaaGreatW82
namespace Go.Proofs.YtdebiiodhkcnkaaGreat
open Go.RowKit
set_option linter.unusedSimpArgs false
set_option linter.unusedVariables false
set_option maxRecDepth 8000
def SortedKeys : Prop := ∀ (q : Nat) (L : List (ByteArray × Value)) (w : World), MapAt w q L → (L.map (·.1)).Pairwise (· ≠ ·) → (∀ p ∈ L, p.1.size ≤ 8) → L.length ≤ 1000000 →
 (Calls Tryz.prog 112 #[.map (some q)] w fun e w' => e = .returned (.func (.func 127) #[] #[.pointer (some ⟨w.heap.size, 0, none⟩)]) ∧ w' = w.alloc (.cells #[.map (some q)] 121)) ∧
 (Calls Tryz.prog 111 #[.func (.func 127) #[] #[.pointer (some ⟨w.heap.size, 0, none⟩)]] (w.alloc (.cells #[.map (some q)] 121)) fun e w' => ∃ (v : Value) (nl : List ByteArray), e = .returned v ∧ nl.Perm (L.map (·.1)) ∧ (nl.Pairwise fun a b => ltB b a = false) ∧ LV Value.string w' (fun b => w.heap.size + 1 ≤ b) v nl ∧ Below (w.heap.size + 1) (w.alloc (.cells #[.map (some q)] 121)) w')
theorem field0_run (a b c : Value) (w : World) : Sem.run Tryz.prog (Instr.field 167 (.agg #[a, b, c]) 0) w = .ok (.agg #[a, b]) w := by
 rfl
theorem binds_append6 {w w1 : World} {N : Nat} {Y : Nat → Prop} {v : Value} {cs : List Bc} (h : BRow w N Y v cs) (hN : N ≤ w.heap.size) (hY : ∀ b, Y b → b < N) (hb : Below w.heap.size w w1) (x : Bc) (ht : Sl w1 (fun b => Y b ∨ w.heap.size ≤ b) x.2.1 x.1.t.args) (hn : cs.length ≤ 1000000) (A : Nat) (hA : w1.heap.size = A) :
  ∃ v2 w3, (Builtin.append_ #[39, 39] 39 #[v, .slice (some ⟨A, 0, none⟩) 1 1]).run Tryz.prog (w1.alloc (.cells #[.string x.1.nm, .string x.1.t.name, .slice x.2.1 x.1.t.args.length x.2.2] 82)) = .ok v2 w3 ∧ BRow w3 N Y v2 (cs ++ [x]) ∧
   (w1.alloc (.cells #[.string x.1.nm, .string x.1.t.name, .slice x.2.1 x.1.t.args.length x.2.2] 82)).grownBy w3 v.ownBlock ∧ ∀ k, v2.ownBlock = some k → v.ownBlock = some k ∨ w1.heap.size ≤ k := by
 subst hA
 obtain ⟨i0, hi, hz0, hz1, hz2⟩ := info_parts Tryz.infoBind
 have hs := hb.size
 obtain ⟨g, cap, w3, hr, ho, hg, hat, hlt⟩ := run_append_lies (P := Tryz.prog) (w := w1.alloc (.cells #[.string x.1.nm, .string x.1.t.name, .slice x.2.1 x.1.t.args.length x.2.2] 82)) 39 39 N 82 i0 _ 3 56 Tryz.underlying39 hi hz0 hz1 hz2 rfl (by decide) v cs.length (flat3 cs) ((h.below hb).own.alloc _)
  ⟨w1.heap.size, 0, none⟩ 1 1 (enc3 x) rfl (cell_three_new _ _ _ _ _) (fun y hy => by simp [enc3] at hy; rcases hy with rfl | rfl | rfl <;> rfl) (by decide) (by unfold maxLen; omega) (by omega) (by simp; omega) _ rfl
 refine ⟨_, w3, hr, h.push hN hY hb ht _ rfl ho hg hat, hg, fun k hk => ?_⟩
 have e : g = k := by simpa [Value.ownBlock] using hk
 rcases hat with h1 | h1
 ·exact Or.inl (by rw [h1, e])
 ·right; simp at h1; omega
def valN (s : List Bd) (n : ByteArray) : Bd := ⟨n, (forT s n).getD ⟨n, []⟩⟩
def IuInv (S q : Nat) (td : Value) (h : List (ByteArray × Tm)) (nl : List ByteArray) (Y : Nat → Prop) (w2 : World) (u i : Value) (wr : World) : Prop :=
 ∃ (k : Nat) (f' : Bool) (Y' : Nat → Prop) (cs : List Bc), k ≤ nl.length ∧ i = .int .i64 (k : Int) ∧ BRow wr w2.heap.size (fun _ => False) u cs ∧ cs.map (·.1) = (nl.take k).map (valN (sAt h)) ∧ (∀ x ∈ cs, sizeL [x.1.t] ≤ 2000) ∧ SolE S q td h f' Y' wr ∧ (∀ b, Y' b → Y b ∨ w2.heap.size ≤ b) ∧ (∀ b, Y' b → some b ≠ u.ownBlock) ∧ ExQ (SolM S q) w2 wr
def IuPost (h : List (ByteArray × Tm)) (S q : Nat) (w : World) (e : Ending) (w' : World) : Prop :=
 ExQ (SolM S q) w w' ∧ ((grtB (sAt h) = true ∧ e = .returned (.tuple #[.slice none 0 0, .bool false])) ∨ (grtB (sAt h) = false ∧ ∃ v, e = .returned (.tuple #[v, .bool true]) ∧ BV w' (fun b => w.heap.size ≤ b) v (sAt h)))
theorem sAt_sorted : ∀ {h : List (ByteArray × Tm)}, GoodH h → SortedB (sAt h) := fun {h} g => by
 rcases List.eq_nil_or_concat h with rfl | ⟨k, p, rfl⟩
 ·simp [sAt, SortedB]
 ·rw [List.concat_eq_append] at g ⊢
  rw [sAt_snoc]
  have hk : k.length < (k ++ [p]).length := by simp
  have m := g k.length hk
  rw [List.take_append_of_le_length (Nat.le_refl _), List.take_length] at m
  have gk := g.ok k.length (by simp)
  rw [List.take_append_of_le_length (Nat.le_refl _), List.take_length] at gk
  have m2 : ∀ d ∈ sAt k, d.nm ≠ p.1 := fun d hd => by
   have := m.2.1 d hd
   simpa using this
  exact srtB_sorted _ (add_apart gk.1 m2)
theorem vals_all {h : List (ByteArray × Tm)} (g : GoodH h) {nl : List ByteArray} (hp : nl.Perm (h.map (·.1))) (ho : nl.Pairwise fun a b => ltB b a = false) : nl.map (valN (sAt h)) = sAt h := by
 have ok := g.all
 have hnd : (h.map (·.1)).Nodup := by
  rw [List.nodup_iff_pairwise_ne, List.pairwise_map, List.pairwise_iff_getElem]
  intro i j hi hj hij e
  have := g.once hi hj e
  omega
 have hnl : nl.Nodup := hp.symm.nodup hnd
 have hperm : (nl.map (valN (sAt h))).Perm (sAt h) := by
  have h1 : ((h.map (·.1)).map (valN (sAt h))).Perm (sAt h) := by
   refine (List.perm_ext_iff_of_nodup ?_ ?_).2 fun d => ?_
   ·rw [List.nodup_iff_pairwise_ne, List.pairwise_map]
    refine (List.nodup_iff_pairwise_ne.1 hnd).imp fun {a b} hab e => hab ?_
    have := congrArg Bd.nm e
    exact this
   ·exact (List.Pairwise.imp (fun {a b} hab e => hab (by rw [e])) ok.1 : (sAt h).Pairwise (· ≠ ·))
   ·constructor
    ·intro hd
     obtain ⟨n, hn, rfl⟩ := List.mem_map.1 hd
     obtain ⟨p, hp2, rfl⟩ := List.mem_map.1 hn
     obtain ⟨i, hi, rfl⟩ := List.getElem_of_mem hp2
     obtain ⟨d, hd2, e1, e2⟩ := forT_mem (forT_at g hi)
     have : valN (sAt h) h[i].1 = d := by
      unfold valN
      rw [forT_at g hi, Option.getD_some, ← e2, ← e1]
     rw [this]; exact hd2
    ·intro hd
     have h2 := (g.bound h.length (Nat.le_refl _) d.nm).1 ⟨d, by rw [List.take_length]; exact hd, rfl⟩
     obtain ⟨i, hi, _, e⟩ := h2
     refine List.mem_map.2 ⟨d.nm, List.mem_map.2 ⟨h[i], List.getElem_mem hi, e⟩, ?_⟩
     unfold valN
     rw [forT_of ok.1 hd, Option.getD_some]
  exact (hp.map _).trans h1
 refine sortedB_unique hperm (sortedB_of (ok.1.perm hperm) ?_) (sAt_sorted g)
 rw [List.pairwise_map]
 exact ho
set_option maxHeartbeats 2000000 in
theorem inOrderU_of (HSK : Hid SortedKeys) (S q : Nat) (td : Value) (h : List (ByteArray × Tm)) (g : GoodH h) (hN : NamesH h) (hh : h.length ≤ 1000000) (w : World) (Y : Nat → Prop) (f : Bool) (hE : SolE S q td h f Y w) :
  Calls Tryz.prog 79 #[.pointer (some ⟨S, 0, none⟩)] w fun e w' => IuPost h S q w e w' := by
 have HE := hide hE
 obtain ⟨⟨L, hB, hM, hSt⟩, hYS, hYq, hY, hg⟩ := hE
 have hSl := hB.lt
 have hml := hM.lt
 have hln := hSt.1
 have HY := hide hY
 have HLN : Hid (L.map (·.1) = h.map (·.1)) := by
  refine List.ext_getElem (by simp [hln]) fun i h1 h2 => ?_
  simp only [List.getElem_map]
  exact (hSt.2 i (by simpa using h2) (by simpa using h1)).1
 have SK := HSK.out q L w hM (by
   rw [HLN.out, List.pairwise_map, List.pairwise_iff_getElem]
   intro i j hi hj hij e
   have := g.once hi hj e
   omega) (fun p hp => by
   obtain ⟨i, hi, rfl⟩ := List.getElem_of_mem hp
   rw [(hSt.2 i (by omega) hi).1]
   have h1 := hN i (by omega)
   simp [nameB] at h1
   omega) (by omega)
 rw [HLN.out] at SK
 have s1 : w.cell? ⟨S, 1, none⟩ = some (.map (some q)) := hB.cell 1
 clear hB hM hSt hg hY
 go_enter Tryz.func79, Tryz.ntmps79
 go_wp2_with (first
  | (go_at_call 112; refine SK.1.mono ?_; rintro e w1 ⟨rfl, rfl⟩)
  | (go_at_call 111; refine SK.2.mono ?_; rintro e w2 ⟨v2, nl, rfl, hp2, ho2, hl2, hb2⟩; have HL2 := hide hl2; obtain ⟨na, nc, rfl, hnl, hnc⟩ := hl2; clear hnc))
 have HP := hide hp2
 have HO := hide ho2
 have HB2 : Hid (Below w.heap.size w w2) := ((Below.refl _ _).alloc (Nat.le_refl _) _).trans (hb2.mono (by omega))
 have hz2 : w.heap.size + 1 ≤ w2.heap.size := by have := hb2.size; simp at this; omega
 have HE2 := hide ((solE_ok S q td h).below HE.out HB2.out)
 have hnlen : nl.length ≤ 1000000 := by have := hp2.length_eq; simp at this; omega
 obtain ⟨hnl1, hnl2⟩ := hnl
 clear hp2 ho2 hb2 SK s1
 go_wp2_with fail
 go_loopw [4, 16] (fun u i wr => IuInv S q td h nl Y w2 u i wr) (fun u i wr => nl.length - (intOf i).toNat)
 case atStart => exact ⟨0, f, Y, [], Nat.zero_le _, rfl, BRow.start _ _ _, by simp, by simp, HE2.out, fun b hb => Or.inl hb, fun b _ e => by simp [Value.ownBlock] at e, ExQ.refl _ _⟩
 case round =>
  obtain ⟨k, f', Y', cs, hk, rfl, hR, hC, hZ, hE', hsub, hown, hx⟩ := hrel
  have HR := hide hR
  have HC := hide hC
  have HZ := hide hZ
  have HE' := hide hE'
  have HSUB := hide hsub
  have HOWN := hide hown
  have HX := hide hx
  have hzr := hx.size
  clear hR hC hZ hsub hown hx
  by_cases hlt : k < nl.length
  ·have hlt2 : (k : Int) < (nl.length : Int) := by omega
   have hLr : LV Value.string wr (fun b => w.heap.size + 1 ≤ b ∧ b < w2.heap.size) (.slice na nl.length nc) nl := (HL2.out.mono (Y := fun b => w.heap.size + 1 ≤ b ∧ b < w2.heap.size) fun b h1 h2 => ⟨h1, h2⟩).kept fun b hb => HX.out.block b hb.2 (fun hm => by rcases hm with e | e <;> omega)
   obtain ⟨na', nc', e0, _, hcell⟩ := hLr
   obtain ⟨bn, on, rfl, hbn, hcell⟩ := hcell.resolve_left (fun e => by rw [e] at hlt; simp at hlt)
   simp at e0
   obtain ⟨rfl, rfl⟩ := e0
   have nk := hcell k hlt
   obtain ⟨i, hi, hik⟩ : ∃ i, ∃ hi : i < h.length, h[i].1 = nl[k] := by
    have h1 := HP.out.subset (List.getElem_mem hlt)
    obtain ⟨p, hp, e⟩ := List.mem_map.1 h1
    obtain ⟨i, hi, rfl⟩ := List.getElem_of_mem hp
    exact ⟨i, hi, e⟩
   have htk : nl.take (k + 1) = nl.take k ++ [nl[k]] := List.take_succ_eq_append_getElem hlt
   have HTK := hide htk
   obtain ⟨⟨L', hB', hM', hSt'⟩, hYS', hYq', hY', hg'⟩ := hE'
   obtain ⟨v, hgv, hst⟩ := hSt'.get g hi
   obtain ⟨T, j, ta, tc, hT, hj, rfl, hsl⟩ := stE_lit hst
   have HSL := hide hsl
   have HT := hide hT
   have HYr := hide hY'
   have hz : ∀ w', (zeroValue 167).run Tryz.prog w' = .ok (.agg #[.string ⟨#[]⟩, .slice none 0 0, .int .i64 0]) w' := fun w' => Tryz.zeroValue167 w'
   have HIK := hide hik
   rw [hik] at hgv
   have HVN : Hid (valN (sAt h) nl[k] = ⟨nl[k], stood h i h.length hi⟩) := by
    unfold Hid valN
    rw [← hik, forT_at g hi, Option.getD_some]
   generalize nl[k] = nm at *
   have hlk : (Instr.lookup 121 (.map (some q)) (.string nm) false).run Tryz.prog wr = .ok (.agg #[.string T.name, .slice ta T.args.length tc, .int .i64 (j : Int)]) wr := by
    rw [run_look1 (P := Tryz.prog) Tryz.underlying121 Tryz.underlying9 (hz _) hM' nm, hgv]; rfl
   have hfd : Sem.run Tryz.prog (Instr.field 167 (.agg #[.string T.name, .slice ta T.args.length tc, .int .i64 (j : Int)]) 0) wr = .ok (.agg #[.string T.name, .slice ta T.args.length tc]) wr := field0_run _ _ _ _
   have s1 : wr.cell? ⟨S, 1, none⟩ = some (.map (some q)) := hB'.cell 1
   have HTG : Hid (onT (sAt h) T = stood h i h.length hi) := by
    unfold Hid
    rw [HT.out]
    exact stood_on g hi (Nat.max_le.2 ⟨hj, hi⟩) (hN i hi)
   have HTE : Hid (errL [T] = 0) := by
    unfold Hid
    rw [HT.out]
    exact stood_err g hN hi (Nat.max_le.2 ⟨hj, hi⟩)
   have FI := ufill_any S q td h g hN T HTE.out ta tc wr (fun b => Y' b ∧ b ≠ S ∧ b ≠ q) Y' f' (fun b hb hm => by rcases hm with e | e; exact hb.2.1 e; exact hb.2.2 e) HSL.out HE'.out
   rw [HTG.out] at FI
   have HCL : Hid (cs.length ≤ 1000000) := by
    have h1 := congrArg List.length HC.out
    simp at h1
    unfold Hid
    omega
   clear hB' hM' hSt' hYS' hYq' hY' hg' hgv hst hsl hT htk hcell hik HT
   go_wp2_with fail
   refine FI.mono ?_
   clear FI
   rintro e w4 ⟨y, ya, yc, ok, f2, Y2, rfl, hE4, hsub4, hff4, hx4, hsl4, hk1, hk2⟩
   have HE4 := hide hE4
   have HX4 : Hid (ExQ (SolM S q) w2 w4) := HX.out.trans hx4
   have HXX4 := hide hx4
   have HSL4 := hide hsl4
   have HS4 := hide hsub4
   have HK1 := hide hk1
   have HK2 := hide hk2
   have hz4 := hx4.size
   clear hE4 hsub4 hff4 hx4 hsl4 hk1 hk2 hlk s1 nk
   cases ok with
   | false =>
    have HGR : Hid (grtB (sAt h) = true) := by
     rcases HK2.out rfl with h1 | h1
     ·exact HE4.out.2.2.2.2 h1
     ·exact stood_great g hi h1
    clear HK1 HK2
    go_wp2_with fail
    refine bodyPost_ret (v := .tuple #[.slice none 0 0, .bool false]) (by simp [results, Tryz.results79, go_sem]) rfl ?_
    exact ⟨((ExQ.ofBelow HB2.out).trans HX4.out).alloc _, Or.inl ⟨HGR.out, rfl⟩⟩
   | true =>
    obtain ⟨rfl, hyT, hyz⟩ := HK1.out rfl
    have HYT := hide hyT
    have HYZ := hide hyz
    clear hyT hyz HK1 HK2
    obtain ⟨wm, hbm, hsm, hem⟩ := HXX4.out.mid
    have hRm := HR.out.exq hem (fun b hb => by rcases hb with rfl | rfl <;> omega) (fun _ _ h => h)
    have hz5 : (w4.alloc (.cells #[.string y.name, .slice ya y.args.length yc] 26)).heap.size = w4.heap.size + 1 := by simp
    have hb5 : Below wm.heap.size wm (w4.alloc (.cells #[.string y.name, .slice ya y.args.length yc] 26)) := hbm.alloc (by omega) _
    obtain ⟨v6, w6, hrun, hR6, hg6, ho6⟩ := binds_append6 hRm (by omega) (fun _ h => h.elim) hb5 (⟨nm, y⟩, ya, yc) ((HSL4.out.later ((Below.refl _ _).alloc (Nat.le_refl _) _)).mono fun b hb _ => Or.inr (by omega)) HCL.out (w4.heap.size + 1) hz5
    have HRUN := hide hrun
    have HR6 := hide hR6
    have hgs := hg6.size
    simp at hgs
    have HX6 : Hid (ExQ (SolM S q) w2 w6) := ((HX4.out.alloc _).alloc _).grown hg6 (fun b hb => Or.inl (HR.out.own.lt b hb).1)
    have HS6 : Hid (∀ b, Y2 b → Y b ∨ w2.heap.size ≤ b) := fun b hb => by
     rcases HS4.out b hb with h1 | h1
     ·exact HSUB.out b h1
     ·right; omega
    have HO4 : Hid (∀ b, Y2 b → some b ≠ u4.ownBlock) := fun b hb e => by
     rcases HS4.out b hb with h1 | h1
     ·exact HOWN.out b h1 e
     ·have := (HR.out.own.lt b e.symm).2; omega
    have HY4 : Hid (∀ b, Y2 b → b < w4.heap.size) := HE4.out.2.2.2.1
    have HE6 : Hid (SolE S q td h false Y2 w6) := (solE_ok S q td h).keep _ _ _ _ HE4.out fun b hb => by
     have h1 := HY4.out b hb
     rw [hg6.block b (by simp; omega) (HO4.out b hb), Below.heap_alloc _ _ _ (by simp; omega), Below.heap_alloc _ _ _ h1]
    have HO6 : Hid (∀ b, Y2 b → some b ≠ v6.ownBlock) := fun b hb e => by
     rcases ho6 b e.symm with h1 | h1
     ·exact HO4.out b hb h1.symm
     ·have := HY4.out b hb; omega
    clear hbm hem hRm hb5 hrun hR6 hg6 ho6 hgs
    go_wp2_with (at_builtin; refine wpList_append_eq rfl _ _ _ _ rfl rfl rfl HRUN.out ?_)
    go_roundw
    case rel =>
     refine ⟨k + 1, false, Y2, cs ++ [(⟨nm, y⟩, ya, yc)], by omega, by go_num, HR6.out, ?_, fun x hx => ?_, HE6.out, HS6.out, HO6.out, HX6.out⟩
     ·rw [HTK.out, List.map_append, List.map_append, HC.out]
      simp only [List.map_cons, List.map_nil]
      rw [HVN.out, HYT.out]
     ·rcases List.mem_append.1 hx with hx | hx
      ·exact HZ.out x hx
      ·have e : x = (⟨nm, y⟩, ya, yc) := by simpa using hx
       rw [e]; exact HYZ.out
    case measure => simp [intOf]; omega
  ·have htk : nl.take k = nl := List.take_of_length_le (by omega)
   rw [htk] at HC
   have HVA := hide (vals_all g HP.out HO.out)
   have HGF : Hid (grtB (sAt h) = false) := by
    unfold Hid
    rw [← HVA.out, ← HC.out]
    unfold grtB
    rw [List.any_eq_false]
    intro d hd
    obtain ⟨x, hx, rfl⟩ := List.mem_map.1 hd
    have := HZ.out x hx
    simp; omega
   clear hE' htk
   go_wp2_with fail
   refine bodyPost_ret (v := .tuple #[u4, .bool true]) (by simp [results, Tryz.results79, go_sem]) rfl ?_
   refine ⟨(ExQ.ofBelow HB2.out).trans HX.out, Or.inr ⟨HGF.out, u4, rfl, ?_⟩⟩
   have h1 := HR.out.bv
   rw [HC.out, HVA.out] at h1
   exact h1.mono fun b hb _ => by rcases hb with hb | hb; exact hb.elim; omega
end Go.Proofs.YtdebiiodhkcnkaaGreat
