import Derived.Test.YtdebiiodhkcnkaaGreatZIndexMadeOwn
import Derived.Test.YtdebiiodhkcnkaaGreatW53
import Derived.Test.YtdebiiodhkcnkaaGreatW85
import Derived.Test.YtdebiiodhkcnkaaGreatQSp
import Derived.Test.YtdebiiodhkcnkaaGreatZBIndexMadeOwn
import Derived.Deep.LoopGhost
namespace Go.Proofs.YtdebiiodhkcnkaaGreat
open Go.RowKit
set_option linter.unusedSimpArgs false
set_option linter.unusedVariables false
set_option maxRecDepth 8000
def OaC (X : Nat → Prop) (t : Tm) (s1 : ByteArray) (a1 : Option Addr) (n1 c1 : Nat) (okb : Bool) (w w' : World) : Prop :=
 (okb = false ∧ 2000 < sizeL [t]) ∨ (okb = true ∧ sizeL [t] ≤ 2000 ∧ s1 = t.name ∧ n1 = t.args.length ∧ Sl w' (fun b => (X b ∧ b < w.heap.size) ∨ w.heap.size ≤ b) a1 t.args)
theorem onAll_at (X : Nat → Prop) (ls : List Bd) (t : Tm) (u : Value) (a : Option Addr) (c : Nat) (w : World) (hu : BV w X u ls) (hs : Sl w X a t.args) (hsm : sizeL [t] ≤ 1000000) :
  Calls Tryz.prog 39 #[u, .agg #[.string t.name, .slice a t.args.length c]] w fun e w' => ∃ s1 a1 n1 c1 okb, e = .returned (.tuple #[.agg #[.string s1, .slice a1 n1 c1], .bool okb]) ∧ Below w.heap.size w w' ∧ OaC X (onT ls t) s1 a1 n1 c1 okb w w' := by
 refine (onAll_any ls t u _ w X hu ⟨a, c, rfl, hs⟩ hsm).mono ?_
 rintro e w1 ⟨hb1, ⟨h1, rfl⟩ | ⟨h1, a1, c1, rfl, hs1⟩⟩
 ·exact ⟨_, _, _, _, _, rfl, hb1, Or.inl ⟨rfl, h1⟩⟩
 ·exact ⟨_, _, _, _, _, rfl, hb1, Or.inr ⟨rfl, h1, rfl, rfl, hs1⟩⟩
def UoPost (w : World) (R : Int × List Bd) (e : Ending) (w' : World) : Prop :=
 Below w.heap.size w w' ∧ ((R.1 = 0 ∧ ∃ v, e = .returned (.tuple #[v, .int .i64 0]) ∧ BV w' (fun _ => True) v R.2) ∨ (R.1 ≠ 0 ∧ e = .returned (.tuple #[.slice none 0 0, .int .i64 R.1])))
def UoInv (V : List ByteArray) (w : World) (R : Int × List Bd) (g : Nat) (sv lv : Value) (wr : World) : Prop :=
 ∃ (h : List (ByteArray × Tm)) (l : List Pr), UI V h l ∧ grtB (sAt h) = false ∧ uRun true g (sAt h) l = some R ∧ BV wr (fun _ => True) sv (sAt h) ∧ QV wr (fun _ => True) lv l ∧ Below w.heap.size w wr
theorem uRun_next {lim : Bool} {g : Nat} {s : List Bd} {p : Pr} {l : List Pr} {R : Int × List Bd} (h : uRun lim g s (p :: l) = some R) : ∃ g', g = g' + 1 ∧ ((∃ e s', uPair lim s l (onT s p.l) (onT s p.r) = .stop e s' ∧ R = (e, s')) ∨ ∃ s' l', uPair lim s l (onT s p.l) (onT s p.r) = .go s' l' ∧ uRun lim g' s' l' = some R) := by
 cases g with
 | zero => cases h
 | succ g =>
  refine ⟨g, rfl, ?_⟩
  rw [uRun, uNext_cons] at h
  cases hn : uPair lim s l (onT s p.l) (onT s p.r) with
  | stop e s' => rw [hn] at h; cases h; exact Or.inl ⟨e, s', rfl, rfl⟩
  | go s' l' => rw [hn] at h; exact Or.inr ⟨s', l', rfl, h⟩
theorem uRun_pair {lim : Bool} {g : Nat} {s : List Bd} {p : Pr} {l : List Pr} {R : Int × List Bd} {a b : Tm} (h : uRun lim g s (p :: l) = some R) (ha : onT s p.l = a) (hb : onT s p.r = b) : ∃ g', g = g' + 1 ∧ ((∃ e s', uPair lim s l a b = .stop e s' ∧ R = (e, s')) ∨ ∃ s' l', uPair lim s l a b = .go s' l' ∧ uRun lim g' s' l' = some R) := by
 subst ha; subst hb; exact uRun_next h
theorem grt_le {s : List Bd} (h : grtB s = false) {d : Bd} (hd : d ∈ s) : sizeL [d.t] ≤ 2000 := by
 unfold grtB at h
 rw [List.any_eq_false] at h
 have := h d hd
 simp at this
 exact this
theorem zip_len2 : ∀ {a b : List Tm}, a.length = b.length → (zipP a b).length = a.length
 | [], [], _ => rfl
 | [], _ :: _, h => by simp at h
 | _ :: _, [], h => by simp at h
 | t :: a, u :: b, h => by rw [zipP, List.length_cons, zip_len2 (by simpa using h), List.length_cons]
theorem zip_get2 : ∀ {a b : List Tm} (k : Nat) (h1 : k < a.length) (h2 : k < b.length) {h3 : k < (zipP a b).length}, (zipP a b)[k] = ⟨a[k], b[k]⟩
 | [], _, k, h, _, _ => by simp at h
 | _ :: _, [], k, _, h, _ => by simp at h
 | t :: a, u :: b, 0, _, _, _ => rfl
 | t :: a, u :: b, k + 1, h1, h2, h3 => by
  have := zip_get2 (a := a) (b := b) k (by simpa using h1) (by simpa using h2) (h3 := by simpa [zipP] using h3)
  simpa [zipP] using this
def FvD (A B b1 b2 p1 p2 o1 o2 n1 n2 : Nat) (tA tB : Tm) (y1 y2 : Option Addr) (k1 k2 d1 d2 : Nat) (w' : World) : Prop :=
 w'.cell? ⟨A, 1, none⟩ = some (.slice (some ⟨b1, o1, none⟩) n1 k1) ∧ w'.cell? ⟨b1, p1, none⟩ = some (.string tA.name) ∧ w'.cell? ⟨b1, p1 + 1, none⟩ = some (.slice y1 tA.args.length d1) ∧ w'.cell? ⟨B, 1, none⟩ = some (.slice (some ⟨b2, o2, none⟩) n2 k2) ∧ w'.cell? ⟨b2, p2, none⟩ = some (.string tB.name) ∧ w'.cell? ⟨b2, p2 + 1, none⟩ = some (.slice y2 tB.args.length d2)
def UdInv (w4 : World) (lA lB : List Tm) (u i : Value) (wq : World) : Prop :=
 ∃ (k : Nat) (cs : List Pc), i = .int .i64 (k : Int) ∧ k ≤ lA.length ∧ QRow wq w4.heap.size (fun b => b < w4.heap.size) u cs ∧ cs.map (·.1) = (zipP lA lB).take k ∧ Below w4.heap.size w4 wq
theorem cons_eq2 {a b : Value} {l k : List Value} (h : a = b) (h2 : l = k) : a :: l = b :: k := by rw [h, h2]
theorem sAt_len : ∀ h : List (ByteArray × Tm), (sAt h).length = h.length := fun h => by
 obtain ⟨k, hk⟩ : ∃ k : List (ByteArray × Tm), k.reverse = h := ⟨h.reverse, List.reverse_reverse h⟩
 subst hk
 induction k with
 | nil => simp [sAt]
 | cons p r ih =>
  rw [List.reverse_cons, sAt_snoc]
  unfold addS
  rw [(srtB_perm _).length_eq]
  simp [ih]
theorem bv_one2 {w : World} {B : Nat} {n : ByteArray} {t : Tm} {a : Option Addr} {c T : Nat} (h : Blk w B #[.string n, .string t.name, .slice a t.args.length c] T) (hs : Sl w (fun _ => True) a t.args) : BV w (fun _ => True) (.slice (some ⟨B, 0, none⟩) 1 1) [⟨n, t⟩] := by
 refine ⟨some ⟨B, 0, none⟩, 1, rfl, by simp, Or.inr ⟨B, 0, rfl, trivial, fun i hi => ?_⟩⟩
 have e : i = 0 := by simp at hi; omega
 subst e
 exact ⟨h.cell 0, h.cell 1, a, c, h.cell 2, hs⟩
def UbInv (w7 : World) (s : List Bd) (x : ByteArray) (t : Tm) (u i : Value) (wq : World) : Prop :=
 ∃ (k : Nat) (cs : List Bc), i = .int .i64 (k : Int) ∧ k ≤ s.length ∧ BRow wq w7.heap.size (fun b => b < w7.heap.size) u cs ∧ cs.map (·.1) = (s.take k).map (putB x t) ∧ (∀ d ∈ s.take k, sizeL [onT [⟨x, t⟩] d.t] ≤ 2000) ∧ Below w7.heap.size w7 wq
set_option maxHeartbeats 4000000 in
theorem unifyOf_any (V : List ByteArray) (hV : V.length ≤ 400000) (R : Int × List Bd) (N : Nat) (l0 : List Pr) (v : Value) (w : World) (X : Nat → Prop) (hv : QV w X v l0) (hU : UI V [] l0) (hR : uRun true N [] l0 = some R) :
  Calls Tryz.prog 21 #[v] w fun e w' => UoPost w R e w' := by
 have HV := hide (hv.mono (Y := fun _ => True) fun _ _ _ => trivial)
 have HR := hide hR
 have HU := hide hU
 clear hR hv hU
 go_enter Tryz.func21, Tryz.ntmps21
 go_wp2_with fail
 go_loopg [4, 0] N (fun g s l wr => UoInv V w R g s l wr)
 case atStart => exact ⟨[], l0, HU.out, by simp [sAt, grtB], HR.out, ⟨none, 0, rfl, by simp [sAt], Or.inl rfl⟩, HV.out, Below.refl _ _⟩
 case round =>
  obtain ⟨h, l, hU, hgr, hR, hBV, hQV, hb⟩ := hrel
  clear HR HU HV
  have HU := hide hU
  have HGR := hide hgr
  have HR := hide hR
  have HBV := hide hBV
  have HQV := hide hQV
  have HB := hide hb
  obtain ⟨qa, qc, rfl, hq2, hq3⟩ := hQV
  clear hR hBV hb hq3 hU hgr
  cases l with
  | nil =>
   have HRR : Hid (R = (0, sAt h)) := by
    have h1 := HR.out
    cases gk with
    | zero => cases h1
    | succ gk => rw [uRun] at h1; simp [uNext] at h1; exact h1.symm
   go_wp2_with fail
   refine bodyPost_ret (v := .tuple #[u4, .int .i64 0]) (by simp [results, Tryz.results21, go_sem]) rfl ?_
   exact ⟨HB.out, Or.inl ⟨by rw [HRR.out], u4, rfl, by rw [HRR.out]; exact HBV.out⟩⟩
  | cons p l =>
   have hz := HU.out.size p (by simp)
   obtain ⟨b, o, a1, c1, a2, c2, rfl, d0, d1, d2, d3, hs1, hs2⟩ := HQV.out.get 0 (by simp)
   simp only [List.getElem_cons_zero, Nat.zero_mul, Nat.add_zero, List.length_cons] at d0 d1 d2 d3 hs1 hs2 hq2
   obtain ⟨hq2a, hq2b⟩ := hq2
   have hbl : b < wr.heap.size := cell_lt d0
   have HS2 := hide hs2
   obtain ⟨ta, hta⟩ : ∃ ta, onT (sAt h) p.l = ta := ⟨_, rfl⟩
   obtain ⟨tb, htb⟩ : ∃ tb, onT (sAt h) p.r = tb := ⟨_, rfl⟩
   have HTA := hide hta
   have HTB := hide htb
   have OA := onAll_at (fun _ => True) (sAt h) p.l u4 a1 c1 wr HBV.out hs1 (by omega)
   rw [hta] at OA
   obtain ⟨g1, hg1, hrun⟩ := uRun_pair HR.out hta htb
   have HG1 := hide hg1
   have HRUN := hide hrun
   have HZ2 : Hid (sizeL [p.r] ≤ 1000000) := by unfold Hid; omega
   clear hs1 hs2 hta htb hg1 hrun HR hz
   go_wp2_with fail
   refine OA.mono ?_
   rintro e w1 ⟨s1, x1, n1, k1, ok1, rfl, hb1, hc1⟩
   have HB1 := hide hb1
   have hzr : wr.heap.size ≤ w1.heap.size := hb1.size
   have d2' : ∀ o', (w1.alloc o').cell? ⟨b, o + 2, none⟩ = some (.string p.r.name) := fun o' => cell_later (hb1.alloc hb1.size o') d2
   have d3' : ∀ o', (w1.alloc o').cell? ⟨b, o + 2 + 1, none⟩ = some (.slice a2 p.r.args.length c2) := fun o' => cell_later (hb1.alloc hb1.size o') d3
   clear hb1 d0 d1 d2 d3 OA
   rcases hc1 with ⟨rfl, hg⟩ | ⟨rfl, hg, rfl, rfl, hx1⟩
   ·have HRR : Hid (R = (8, sAt h)) := by
     have e : uPair true (sAt h) l ta tb = .stop 8 (sAt h) := by unfold uPair; rw [if_pos (Or.inl hg)]
     rcases HRUN.out with ⟨e1, s', e2, e3⟩ | ⟨s', l', e2, _⟩
     ·rw [e] at e2; cases e2; exact e3
     ·rw [e] at e2; cases e2
    clear hg
    go_wp2_with fail
    refine bodyPost_ret (v := .tuple #[.slice none 0 0, .int .i64 8]) (by simp [results, Tryz.results21, go_sem]) rfl ?_
    exact ⟨(HB.out.trans (HB1.out.mono HB.out.size)).alloc (Nat.le_trans HB.out.size HB1.out.size) _, Or.inr ⟨by rw [HRR.out]; exact (by decide : (8 : Int) ≠ 0), by rw [HRR.out]⟩⟩
   ·have HZA := hide hg
    have HX1 := hide (hx1.mono (Y := fun b => b < w1.heap.size) fun _ _ h => h)
    have BA := hide (Blk.new w1 #[.string ta.name, .slice x1 ta.args.length k1] 26)
    have HB1' := hide (HB1.out.alloc HB1.out.size (.cells #[.string ta.name, .slice x1 ta.args.length k1] 26))
    have HX1' := hide (HX1.out.later ((Below.refl _ _).alloc (Nat.le_refl _) (.cells #[.string ta.name, .slice x1 ta.args.length k1] 26)))
    have hzw : (w1.alloc (.cells #[.string ta.name, .slice x1 ta.args.length k1] 26)).heap.size = w1.heap.size + 1 := by simp
    clear hg hx1
    go_wp2_with fail
    generalize (w1.alloc (.cells #[.string ta.name, .slice x1 ta.args.length k1] 26)) = w2 at *
    have OB := onAll_at (fun _ => True) (sAt h) p.r u4 a2 c2 w2 (HBV.out.later HB1'.out) (HS2.out.later HB1'.out) HZ2.out
    rw [HTB.out] at OB
    refine OB.mono ?_
    clear OB
    rintro e w3 ⟨s2, x2, n2, k2, ok2, rfl, hb3, hc2⟩
    have HB3 := hide (HB1'.out.trans (hb3.mono HB1'.out.size))
    have BA3 := hide (BA.out.below hb3 (by omega))
    have HX3 := hide (HX1'.out.later hb3)
    have hz3 : w1.heap.size + 1 ≤ w3.heap.size := by have := hb3.size; omega
    clear hb3
    rcases hc2 with ⟨rfl, hg⟩ | ⟨rfl, hg, rfl, rfl, hx2⟩
    ·have HRR : Hid (R = (8, sAt h)) := by
      have e : uPair true (sAt h) l ta tb = .stop 8 (sAt h) := by unfold uPair; rw [if_pos (Or.inr hg)]
      rcases HRUN.out with ⟨e1, s', e2, e3⟩ | ⟨s', l', e2, _⟩
      ·rw [e] at e2; cases e2; exact e3
      ·rw [e] at e2; cases e2
     clear hg
     go_wp2_with fail
     refine bodyPost_ret (v := .tuple #[.slice none 0 0, .int .i64 8]) (by simp [results, Tryz.results21, go_sem]) rfl ?_
     exact ⟨(HB.out.trans (HB3.out.mono HB.out.size)).alloc (Nat.le_trans HB.out.size HB3.out.size) _, Or.inr ⟨by rw [HRR.out]; exact (by decide : (8 : Int) ≠ 0), by rw [HRR.out]⟩⟩
    ·have HZB := hide hg
     have HX2 := hide (hx2.mono (Y := fun _ => True) fun _ _ _ => trivial)
     have BB := hide (Blk.new w3 #[.string tb.name, .slice x2 tb.args.length k2] 26)
     have BA4 := hide (BA3.out.alloc (.cells #[.string tb.name, .slice x2 tb.args.length k2] 26))
     have HB4 := hide (HB3.out.alloc HB3.out.size (.cells #[.string tb.name, .slice x2 tb.args.length k2] 26))
     have HXA := hide (HX3.out.later ((Below.refl _ _).alloc (Nat.le_refl _) (.cells #[.string tb.name, .slice x2 tb.args.length k2] 26)))
     have HXB := hide (HX2.out.later ((Below.refl _ _).alloc (Nat.le_refl _) (.cells #[.string tb.name, .slice x2 tb.args.length k2] 26)))
     have hzw4 : (w3.alloc (.cells #[.string tb.name, .slice x2 tb.args.length k2] 26)).heap.size = w3.heap.size + 1 := by simp
     have HTL := hide (HQV.out.tail)
     obtain ⟨sa, HSA⟩ : ∃ sa : Option Addr, Hid ((if qc = 1 then some (⟨b, o, none⟩ : Addr) else some ⟨b, o + 4, none⟩) = sa) := ⟨_, rfl⟩
     have hslq : ∀ w' : World, Sem.run Tryz.prog (Instr.slice 46 (.slice (some ⟨b, o, none⟩) (l.length + 1) qc) (some (.int .i64 1)) none none) w' = .ok (.slice sa l.length (qc - 1)) w' := fun w' => by
      rw [pair_tail_run b o l.length qc hq2b w', HSA.out]
     rw [HSA.out] at HTL
     have hle1 : (1 : Int) ≤ (l.length : Int) + 1 := by omega
     clear hg hx2 HX3 BA3 HX2 HX1 HX1' BA HB1 HB1' HB3 d2' d3' hzw
     have ba0 : (w3.alloc (.cells #[.string tb.name, .slice x2 tb.args.length k2] 26)).cell? ⟨w1.heap.size, 0, none⟩ = some (.string ta.name) := BA4.out.cell 0
     cases hva : varB ta.name with
     | true =>
      have HVA := hide hva
      clear hva
      by_cases hnn : ta.name = tb.name
      ·have hnb := bytes_yes hnn
       have HNN := hide hnn
       clear hnn
       have HSTEP : Hid (uRun true g1 (sAt h) l = some R) := by
        have e : uPair true (sAt h) l ta tb = .go (sAt h) l := by unfold uPair; rw [if_neg (by have := HZA.out; have := HZB.out; omega), if_pos HVA.out, if_pos HNN.out]
        rcases HRUN.out with ⟨e1, s', e2, e3⟩ | ⟨s', l', e2, e3⟩
        ·rw [e] at e2; cases e2
        ·rw [e] at e2; cases e2; exact e3
       go_wp2_with (go_at_call 36; refine (isVarR_any _ _).mono ?_; rintro e w' ⟨rfl, rfl⟩; rw [HVA.out])
       go_roundg g1
       case rel => exact ⟨h, l, HU.out.drop, HGR.out, HSTEP.out, HBV.out.later HB4.out, HTL.out.later HB4.out, HB.out.trans (HB4.out.mono HB.out.size)⟩
       case measure => have := HG1.out; omega
      ·have hnb := bytes_no hnn
       have HNN := hide hnn
       clear hnn
       go_wp2_with (go_at_call 36; refine (isVarR_any _ _).mono ?_; rintro e w' ⟨rfl, rfl⟩; rw [HVA.out])
       have HUP : Hid (uPair true (sAt h) l ta tb = uBind true (sAt h) l ta.name tb) := by
        unfold Hid uPair
        rw [if_neg (by have := HZA.out; have := HZB.out; omega), if_pos HVA.out, if_neg HNN.out]
       have UIB : Hid (¬ inB ta.name (varsP [] (preL [tb])) = true → MayAdd (sAt h) ta.name tb ∧ UI V (h ++ [(ta.name, tb)]) l) := fun ho => HU.out.bindV HVA.out (Or.inl ⟨by rw [HTA.out], by rw [HTB.out]⟩) ho
       have HXT := HXB
       have HZT := HZB
       have A4 := BA4
       have B4 := BB
       have HAL : Hid (w1.heap.size < w3.heap.size) := by unfold Hid; omega
       generalize (w3.alloc (.cells #[.string tb.name, .slice x2 tb.args.length k2] 26)) = w4 at *
       clear HZA HZB HXA HXB BA4 BB ba0 HNN hnb
       have a0 := A4.out.c0
       have b0 := B4.out.c0
       have b1 := B4.out.c1
       have VF : Hid (∀ w', Below w4.heap.size w4 w' → Calls Tryz.prog 41 #[.agg #[.string tb.name, .slice x2 tb.args.length k2]] w' fun e w'' => ∃ v', e = .returned v' ∧ LV Value.string w'' (fun _ => True) v' (varsP [] (preL [tb])) ∧ Below w4.heap.size w4 w'' ∧ (w''.cell? ⟨w1.heap.size, 0, none⟩ = some (.string ta.name) ∧ w''.cell? ⟨w3.heap.size, 0, none⟩ = some (.string tb.name) ∧ w''.cell? ⟨w3.heap.size, 1, none⟩ = some (.slice x2 tb.args.length k2))) := fun w' hb => by
        refine (varsOf_any tb _ w' _ ⟨_, _, rfl, HXT.out.later hb⟩ (by have := HZT.out; omega)).mono ?_
        rintro e w'' ⟨v', rfl, hl, hb2⟩
        have hb3 := hb.trans (hb2.mono hb.size)
        exact ⟨v', rfl, hl.mono (fun _ _ _ => trivial), hb3, cell_later hb3 a0, cell_later hb3 b0, cell_later hb3 b1⟩
       have HS0 := hide (And.intro a0 (And.intro b0 b1))
       go_region_held3 (fun w' => w'.cell? ⟨w1.heap.size, 0, none⟩ = some (.string ta.name) ∧ w'.cell? ⟨w3.heap.size, 0, none⟩ = some (.string tb.name) ∧ w'.cell? ⟨w3.heap.size, 1, none⟩ = some (.slice x2 tb.args.length k2)) (first | exact hS | exact HS0.out | go_keep)
        (first
         | (go_at_call 41; refine (VF.out _ (by first | exact Below.refl _ _ | exact (Below.refl _ _).drew)).mono ?_; rintro e w5 ⟨v5, rfl, hl5, hb5, hS⟩)
         | (go_at_call 40; refine (in_any _ _ _ _ (fun _ => True) (by first | exact hl5 | exact hl5.kept (fun _ _ => rfl))).mono ?_; rintro e w6 ⟨rfl, hw6⟩; have hS : w6.cell? ⟨w1.heap.size, 0, none⟩ = some (.string ta.name) ∧ w6.cell? ⟨w3.heap.size, 0, none⟩ = some (.string tb.name) ∧ w6.cell? ⟨w3.heap.size, 1, none⟩ = some (.slice x2 tb.args.length k2) := (by rw [hw6]; first | exact hS | go_keep)))
       rw [hw6] at hS
       clear hw6
       have HB6 := hide hb5
       have HS6 := hide hS
       obtain ⟨e0, e1, e2⟩ := hS
       have HXT6 := hide (HXT.out.later HB6.out)
       clear hl5 hb5 VF HS0 a0 b0 b1 hS HXT A4 B4
       cases hin : inB ta.name (varsP [] (preL [tb])) with
       | true =>
        have HRR : Hid (R = (6, sAt h)) := by
         have e : uPair true (sAt h) l ta tb = .stop 6 (sAt h) := by rw [HUP.out]; unfold uBind; rw [if_pos hin]
         rcases HRUN.out with ⟨e1, s', e2, e3⟩ | ⟨s', l', e2, _⟩
         ·rw [e] at e2; cases e2; exact e3
         ·rw [e] at e2; cases e2
        clear hin
        go_wp2_with fail
        refine bodyPost_ret (v := .tuple #[.slice none 0 0, .int .i64 6]) (by simp [results, Tryz.results21, go_sem]) rfl ?_
        exact ⟨HB.out.trans ((HB4.out.trans (HB6.out.mono HB4.out.size)).mono HB.out.size), Or.inr ⟨by rw [HRR.out]; exact (by decide : (6 : Int) ≠ 0), by rw [HRR.out]⟩⟩
       | false =>
        have HIN := hide hin
        obtain ⟨MAY, hUn⟩ := UIB.out (by rw [hin]; simp)
        have HMAY := hide MAY
        have HUN := hide hUn
        clear hin MAY hUn UIB
        have HB60 : Hid (Below wr.heap.size wr w5) := HB4.out.trans (HB6.out.mono HB4.out.size)
        obtain ⟨ua, uc, rfl, hul, hu5⟩ := HBV.out
        clear hu5
        have hsl : (sAt h).length ≤ 400000 := by rw [sAt_len]; have := HU.out.hlen; omega
        have O7 := hide (Blk.new w5 #[.string ta.name, .string tb.name, .slice x2 tb.args.length k2] 82)
        have HB7 := hide (HB60.out.alloc HB60.out.size (.cells #[.string ta.name, .string tb.name, .slice x2 tb.args.length k2] 82))
        have HX7 := hide (HXT6.out.later ((Below.refl _ _).alloc (Nat.le_refl _) (.cells #[.string ta.name, .string tb.name, .slice x2 tb.args.length k2] 82)))
        have hz7 : (w5.alloc (.cells #[.string ta.name, .string tb.name, .slice x2 tb.args.length k2] 82)).heap.size = w5.heap.size + 1 := by simp
        go_wp2_with fail
        generalize (w5.alloc (.cells #[.string ta.name, .string tb.name, .slice x2 tb.args.length k2] 82)) = w7 at *
        have HONE := hide ((bv_one2 O7.out HX7.out).mono (Y := fun b => b < w7.heap.size) fun _ _ h => h)
        have HBV7 := hide ((HBV.out.later HB7.out).mono (Y := fun b => b < w7.heap.size) fun _ _ h => h)
        have HQ7 := hide (HTL.out.later HB7.out)
        clear e0 e1 e2 HS6 HXT6 HB6 HB60
        go_loopw [9, 10] (fun u i wq => UbInv w7 (sAt h) ta.name tb u i wq) (fun u i wq => (sAt h).length - (intOf i).toNat)
        case atStart => exact ⟨0, [], rfl, Nat.zero_le _, BRow.start _ _ _, by simp, by simp, Below.refl _ _⟩
        case round =>
         obtain ⟨k, cs, rfl, hk, hrow, hcs, hfu, hb⟩ := hrel
         have HROW := hide hrow
         have HCS := hide hcs
         have HFU := hide hfu
         have HBQ := hide hb
         clear hrow hcs hfu
         have hcl : cs.length ≤ 1000000 := by
          have h1 := congrArg List.length HCS.out
          simp at h1
          omega
         by_cases hlt : k < (sAt h).length
         ·obtain ⟨b', o', a', c', rfl, d0, d1, d2, hs⟩ := (HBV7.out.later hb).get k hlt
          have hlt2 : (k : Int) < ((sAt h).length : Int) := by omega
          have HS := hide hs
          have HSK : Hid (sizeL [(sAt h)[k].t] ≤ 1000000) := by have := grt_le HGR.out (List.getElem_mem hlt); unfold Hid; omega
          clear hb hs
          have OE := onAll_at (fun b => b < w7.heap.size) [⟨ta.name, tb⟩] (sAt h)[k].t _ a' c' wr (HONE.out.later HBQ.out) HS.out HSK.out
          have HTKM : Hid (((sAt h).take (k + 1)).map (putB ta.name tb) = ((sAt h).take k).map (putB ta.name tb) ++ [putB ta.name tb (sAt h)[k]]) := by
           unfold Hid
           rw [List.take_succ_eq_append_getElem hlt, List.map_append]; rfl
          have HTKF : Hid (sizeL [onT [⟨ta.name, tb⟩] (sAt h)[k].t] ≤ 2000 → ∀ d ∈ (sAt h).take (k + 1), sizeL [onT [⟨ta.name, tb⟩] d.t] ≤ 2000) := fun hle d hd => by
           rw [List.take_succ_eq_append_getElem hlt] at hd
           rcases List.mem_append.1 hd with hd | hd
           ·exact HFU.out d hd
           ·have e : d = (sAt h)[k] := by simpa using hd
            rw [e]; exact hle
          have HBIG : Hid (2000 < sizeL [onT [⟨ta.name, tb⟩] (sAt h)[k].t] → grtB ((sAt h).map (putB ta.name tb)) = true) := fun hg => by
           unfold grtB
           rw [List.any_eq_true]
           exact ⟨putB ta.name tb (sAt h)[k], List.mem_map.2 ⟨_, List.getElem_mem hlt, rfl⟩, decide_eq_true hg⟩
          have hnm : (putB ta.name tb (sAt h)[k]).nm = (sAt h)[k].nm := rfl
          have htt : (putB ta.name tb (sAt h)[k]).t = onT [⟨ta.name, tb⟩] (sAt h)[k].t := rfl
          rw [← htt] at OE HTKF HBIG
          rw [← hnm] at d0
          generalize putB ta.name tb (sAt h)[k] = d8 at *
          generalize (sAt h)[k].t = dt at *
          go_wp2_with fail
          refine OE.mono ?_
          clear OE hnm htt
          rintro e w8 ⟨s8, x8, n8, k8, ok8, rfl, hb8, hc8⟩
          have HB8 := hide (HBQ.out.trans (hb8.mono HBQ.out.size))
          have HROW8 := hide (HROW.out.below hb8)
          have HBR8 := hide hb8
          have d0' := cell_later hb8 d0
          have hz8 := hb8.size
          clear hb8 d0 d1 d2
          rcases hc8 with ⟨rfl, hbig⟩ | ⟨rfl, hle, rfl, rfl, hsl8⟩
          ·have HRR : Hid (R = (8, sAt h)) := by
            have e : uPair true (sAt h) l ta tb = .stop 8 (sAt h) := by rw [HUP.out]; unfold uBind; rw [if_neg (by rw [HIN.out]; simp), if_pos (by rw [HBIG.out hbig]; rfl)]
            rcases HRUN.out with ⟨e1, s', e2, e3⟩ | ⟨s', l', e2, _⟩
            ·rw [e] at e2; cases e2; exact e3
            ·rw [e] at e2; cases e2
           go_wp2_with fail
           refine bodyPost_ret (v := .tuple #[.slice none 0 0, .int .i64 8]) (by simp [results, Tryz.results21, go_sem]) rfl ?_
           have hz := HB7.out.size
           exact ⟨(HB.out.trans ((HB7.out.trans (HB8.out.mono HB7.out.size)).mono HB.out.size)).alloc (Nat.le_trans HB.out.size (Nat.le_trans HB7.out.size HB8.out.size)) _, Or.inr ⟨by rw [HRR.out]; exact (by decide : (8 : Int) ≠ 0), by rw [HRR.out]⟩⟩
          ·have HSL := hide hsl8
           have HFU1 := hide (HTKF.out hle)
           clear hsl8 HTKF HBIG
           go_wp2_with fail
           have P9 := hide (Blk.new w8 #[.string d8.t.name, .slice x8 d8.t.args.length k8] 26)
           have hbA : Below w8.heap.size w8 (w8.alloc (.cells #[.string d8.t.name, .slice x8 d8.t.args.length k8] 26)) := (Below.refl _ _).alloc (Nat.le_refl _) _
           have HB9 := hide (HB8.out.trans (hbA.mono HB8.out.size))
           have HROW9 := hide (HROW8.out.below hbA)
           have HBR9 := hide (HBR8.out.trans (hbA.mono HBR8.out.size))
           have HSL9 := hide (HSL.out.later hbA)
           have d3 := cell_later hbA d0'
           have q0 := P9.out.cell 0
           have q1 := P9.out.cell 1
           clear hbA d0' P9
           generalize w8.alloc (.cells #[.string d8.t.name, .slice x8 d8.t.args.length k8] 26) = w9 at *
           generalize w8.heap.size = P at *
           obtain ⟨i0, hi, hz0, hzz1, hzz2⟩ := info_parts Tryz.infoBind
           go_region_law (refine step_append_lies _ rfl _ _ 39 rfl w7.heap.size 82 i0 _ 3 56 Tryz.underlying39 hi hz0 hzz1 hzz2 rfl (by decide) u9 cs.length (flat3 cs) rfl (by exact (HROW9.out.below (below_drewN (Below.refl _ _) 1)).own.alloc _) ⟨w9.heap.size, 0, none⟩ 1 1 (enc3 (d8, x8, k8)) rfl rfl (cell_three_new _ _ _ _ _) (fun x hx => by simp [enc3] at hx; rcases hx with rfl | rfl | rfl <;> rfl) (by decide) (by unfold maxLen; omega) (by omega) (by have := HB9.out.size; simp; omega) _ rfl ?_; intro g cap wA hownA hgrowA hatA hltA)
           all_goals
            have HRA := hide (HROW.out.push (w1 := w9.drew) (x := (d8, x8, k8)) HBQ.out.size (fun b h => h) (below_drewN HBR9.out 1) ((HSL9.out.later (below_drewN (Below.refl _ _) 1)).mono fun b hb _ => by rcases hb with hb | hb; exact Or.inl hb.1; exact Or.inr (by omega)) _ rfl hownA hgrowA hatA)
            have HBA : Hid (Below w7.heap.size w7 wA) := ((below_drewN HB9.out 1).alloc (by have := HB9.out.size; simp; omega) _).grown hgrowA (by have := HB9.out.size; simp; omega) (fun j hj => by have := (HROW9.out.own.lt j hj).1; omega)
            clear hownA hgrowA hatA hltA
            go_wp2_with fail
            go_roundw
            case rel => exact ⟨k + 1, cs ++ [(d8, x8, k8)], by go_num, by omega, HRA.out, by rw [HTKM.out, List.map_append, HCS.out]; rfl, HFU1.out, HBA.out⟩
            case measure => simp [intOf]; omega
         ·have htk : (sAt h).take k = sAt h := List.take_of_length_le (by omega)
          rw [htk] at HCS HFU
          have r0 : wr.cell? ⟨w5.heap.size, 0, none⟩ = some (.string ta.name) := cell_later HBQ.out (O7.out.cell 0)
          have r1 : wr.cell? ⟨w5.heap.size, 1, none⟩ = some (.string tb.name) := cell_later HBQ.out (O7.out.cell 1)
          have r2 : wr.cell? ⟨w5.heap.size, 2, none⟩ = some (.slice x2 tb.args.length k2) := cell_later HBQ.out (O7.out.cell 2)
          obtain ⟨v10, w10, hrun10, hR10, hg10⟩ := binds_append HROW.out HBQ.out.size (fun _ h => h) (Below.refl _ _) (⟨ta.name, tb⟩, x2, k2) ((HX7.out.mono (Y := fun b => b < w7.heap.size) fun _ _ h => h).later HBQ.out |>.mono fun b hb _ => Or.inl hb) hcl wr.heap.size rfl
          have HRUN10 := hide hrun10
          have HB10 : Hid (Below w7.heap.size w7 w10) := (HBQ.out.alloc HBQ.out.size _).grown hg10 (by have := HBQ.out.size; simp; omega) (fun j hj => (HROW.out.own.lt j hj).1)
          have hls : ((cs ++ [((⟨ta.name, tb⟩ : Bd), x2, k2)]).map (·.1)) = (sAt h).map (putB ta.name tb) ++ [⟨ta.name, tb⟩] := by rw [List.map_append, HCS.out]; rfl
          have hbv10 := hR10.bv
          rw [hls] at hbv10
          have SRT := sorted_any ((sAt h).map (putB ta.name tb) ++ [⟨ta.name, tb⟩]) v10 w10 _ hbv10 (by simp; omega)
          have HNX : Hid (uRun true g1 (sAt (h ++ [(ta.name, tb)])) l = some R ∧ grtB (sAt (h ++ [(ta.name, tb)])) = false) := by
           have hg : grtB ((sAt h).map (putB ta.name tb)) = false := by
            unfold grtB
            rw [List.any_eq_false]
            intro d hd
            obtain ⟨d', hd', rfl⟩ := List.mem_map.1 hd
            have := HFU.out d' hd'
            intro hc
            have h2 : 2000 < sizeL [onT [⟨ta.name, tb⟩] d'.t] := of_decide_eq_true hc
            omega
           have e : uPair true (sAt h) l ta tb = .go (addS (sAt h) ta.name tb) l := by rw [HUP.out]; unfold uBind; rw [if_neg (by rw [HIN.out]; simp), if_neg (by rw [hg]; simp)]; rfl
           have hz := HZT.out
           refine ⟨?_, ?_⟩
           ·rw [sAt_snoc]
            rcases HRUN.out with ⟨e1, s', e2, e3⟩ | ⟨s', l', e2, e3⟩
            ·rw [e] at e2; cases e2
            ·rw [e] at e2; cases e2; exact e3
           ·rw [sAt_snoc]
            unfold addS
            rw [grtB_new, hg]
            simpa using hz
          clear hrun10 hR10 hg10 hls hbv10 htk hb
          go_wp2_with (at_builtin; refine wpList_append_eq rfl _ _ _ _ rfl rfl rfl HRUN10.out ?_)
          refine SRT.mono ?_
          clear SRT
          rintro e w11 ⟨v11, cs11, rfl, hR11, hp11, hw11, hb11⟩
          have HBV11 : Hid (BV w11 (fun _ => True) v11 (sAt (h ++ [(ta.name, tb)]))) := by
           unfold Hid
           rw [sAt_snoc]
           have ap := add_apart (t := tb) HU.out.good.all.1 HMAY.out.2.1
           have e : cs11.map (·.1) = addS (sAt h) ta.name tb := sortedB_unique (hp11.trans (srtB_perm _).symm) (sortedB_of (ap.perm hp11) (List.pairwise_map.2 hw11)) (srtB_sorted _ ap)
           rw [← e]
           exact hR11.bv.mono fun _ _ _ => trivial
          have HB11 := hide (HB10.out.trans (hb11.mono HB10.out.size))
          clear hR11 hp11 hw11 hb11
          go_wp2_with fail
          go_roundg g1
          case rel => exact ⟨h ++ [(ta.name, tb)], l, HUN.out, HNX.out.2, HNX.out.1, HBV11.out, HQ7.out.later HB11.out, HB.out.trans ((HB7.out.trans (HB11.out.mono HB7.out.size)).mono HB.out.size)⟩
          case measure => have := HG1.out; omega
     | false =>
      have HVA := hide hva
      clear hva
      have hAB : w1.heap.size ≠ w3.heap.size := by omega
      have a0 : (w3.alloc (.cells #[.string tb.name, .slice x2 tb.args.length k2] 26)).cell? ⟨w1.heap.size, 0, none⟩ = some (.string ta.name) := BA4.out.cell 0
      have a1' : (w3.alloc (.cells #[.string tb.name, .slice x2 tb.args.length k2] 26)).cell? ⟨w1.heap.size, 1, none⟩ = some (.slice x1 ta.args.length k1) := BA4.out.cell 1
      have b0 : (w3.alloc (.cells #[.string tb.name, .slice x2 tb.args.length k2] 26)).cell? ⟨w3.heap.size, 0, none⟩ = some (.string tb.name) := BB.out.cell 0
      have b1' : (w3.alloc (.cells #[.string tb.name, .slice x2 tb.args.length k2] 26)).cell? ⟨w3.heap.size, 1, none⟩ = some (.slice x2 tb.args.length k2) := BB.out.cell 1
      cases hvb : varB tb.name with
      | true =>
       have HVB := hide hvb
       clear hvb
       have fa0 : (w3.alloc (.cells #[.string tb.name, .slice x2 tb.args.length k2] 26)).frozen? ⟨w1.heap.size, 0, none⟩ = false := BA4.out.frozen 0
       have S1 := BA4.out.set 0 (.string tb.name)
       have fa1 : ((w3.alloc (.cells #[.string tb.name, .slice x2 tb.args.length k2] 26)).setCell ⟨w1.heap.size, 0, none⟩ (.string tb.name)).frozen? ⟨w1.heap.size, 1, none⟩ = false := S1.frozen 1
       have S2 := S1.set 1 (.slice x2 tb.args.length k2)
       have T2 := (BB.out.setOther 0 (.string tb.name) hAB.symm).setOther 1 (.slice x2 tb.args.length k2) hAB.symm
       have fb0 : (((w3.alloc (.cells #[.string tb.name, .slice x2 tb.args.length k2] 26)).setCell ⟨w1.heap.size, 0, none⟩ (.string tb.name)).setCell ⟨w1.heap.size, 1, none⟩ (.slice x2 tb.args.length k2)).frozen? ⟨w3.heap.size, 0, none⟩ = false := T2.frozen 0
       have T3 := T2.set 0 (.string ta.name)
       have fb1 : ((((w3.alloc (.cells #[.string tb.name, .slice x2 tb.args.length k2] 26)).setCell ⟨w1.heap.size, 0, none⟩ (.string tb.name)).setCell ⟨w1.heap.size, 1, none⟩ (.slice x2 tb.args.length k2)).setCell ⟨w3.heap.size, 0, none⟩ (.string ta.name)).frozen? ⟨w3.heap.size, 1, none⟩ = false := T3.frozen 1
       have T4 := T3.set 1 (.slice x1 ta.args.length k1)
       have S4 := (S2.setOther 0 (.string ta.name) hAB).setOther 1 (.slice x1 ta.args.length k1) hAB
       have hkS : ∀ b, b ≠ w1.heap.size → b ≠ w3.heap.size → (((((w3.alloc (.cells #[.string tb.name, .slice x2 tb.args.length k2] 26)).setCell ⟨w1.heap.size, 0, none⟩ (.string tb.name)).setCell ⟨w1.heap.size, 1, none⟩ (.slice x2 tb.args.length k2)).setCell ⟨w3.heap.size, 0, none⟩ (.string ta.name)).setCell ⟨w3.heap.size, 1, none⟩ (.slice x1 ta.args.length k1)).heap[b]? = (w3.alloc (.cells #[.string tb.name, .slice x2 tb.args.length k2] 26)).heap[b]? := fun b h1 h2 => by
        rw [Below.heap_setCell _ _ _ _ (by simpa using h2), Below.heap_setCell _ _ _ _ (by simpa using h2), Below.heap_setCell _ _ _ _ (by simpa using h1), Below.heap_setCell _ _ _ _ (by simpa using h1)]
       have A4 : Hid (Blk (((((w3.alloc (.cells #[.string tb.name, .slice x2 tb.args.length k2] 26)).setCell ⟨w1.heap.size, 0, none⟩ (.string tb.name)).setCell ⟨w1.heap.size, 1, none⟩ (.slice x2 tb.args.length k2)).setCell ⟨w3.heap.size, 0, none⟩ (.string ta.name)).setCell ⟨w3.heap.size, 1, none⟩ (.slice x1 ta.args.length k1)) w1.heap.size #[.string tb.name, .slice x2 tb.args.length k2] 26) := hide (by simpa using S4)
       have B4 : Hid (Blk (((((w3.alloc (.cells #[.string tb.name, .slice x2 tb.args.length k2] 26)).setCell ⟨w1.heap.size, 0, none⟩ (.string tb.name)).setCell ⟨w1.heap.size, 1, none⟩ (.slice x2 tb.args.length k2)).setCell ⟨w3.heap.size, 0, none⟩ (.string ta.name)).setCell ⟨w3.heap.size, 1, none⟩ (.slice x1 ta.args.length k1)) w3.heap.size #[.string ta.name, .slice x1 ta.args.length k1] 26) := hide (by simpa using T4)
       have HXT : Hid (Sl (((((w3.alloc (.cells #[.string tb.name, .slice x2 tb.args.length k2] 26)).setCell ⟨w1.heap.size, 0, none⟩ (.string tb.name)).setCell ⟨w1.heap.size, 1, none⟩ (.slice x2 tb.args.length k2)).setCell ⟨w3.heap.size, 0, none⟩ (.string ta.name)).setCell ⟨w3.heap.size, 1, none⟩ (.slice x1 ta.args.length k1)) (fun _ => True) x1 ta.args) := (HXA.out.kept fun b hb => hkS b (by omega) (by omega)).mono fun _ _ _ => trivial
       have HB4' : Hid (Below wr.heap.size wr (((((w3.alloc (.cells #[.string tb.name, .slice x2 tb.args.length k2] 26)).setCell ⟨w1.heap.size, 0, none⟩ (.string tb.name)).setCell ⟨w1.heap.size, 1, none⟩ (.slice x2 tb.args.length k2)).setCell ⟨w3.heap.size, 0, none⟩ (.string ta.name)).setCell ⟨w3.heap.size, 1, none⟩ (.slice x1 ta.args.length k1))) := ⟨HB4.out.os, HB4.out.tape, HB4.out.output, by have := HB4.out.size; simpa [World.setCell] using this, fun b hb => (hkS b (by omega) (by omega)).trans (HB4.out.block b hb)⟩
       have hzw4' : (((((w3.alloc (.cells #[.string tb.name, .slice x2 tb.args.length k2] 26)).setCell ⟨w1.heap.size, 0, none⟩ (.string tb.name)).setCell ⟨w1.heap.size, 1, none⟩ (.slice x2 tb.args.length k2)).setCell ⟨w3.heap.size, 0, none⟩ (.string ta.name)).setCell ⟨w3.heap.size, 1, none⟩ (.slice x1 ta.args.length k1)).heap.size = w3.heap.size + 1 := by simp [World.setCell]
       have HUP : Hid (uPair true (sAt h) l ta tb = uBind true (sAt h) l tb.name ta) := by
        unfold Hid uPair
        rw [if_neg (by have := HZA.out; have := HZB.out; omega), if_neg (by rw [HVA.out]; simp), if_pos HVB.out]
       have UIB : Hid (¬ inB tb.name (varsP [] (preL [ta])) = true → MayAdd (sAt h) tb.name ta ∧ UI V (h ++ [(tb.name, ta)]) l) := fun ho => HU.out.bindV HVB.out (Or.inr ⟨by rw [HTB.out], by rw [HTA.out]⟩) ho
       have HZT := HZA
       have HAL : Hid (w1.heap.size < w3.heap.size) := by unfold Hid; omega
       clear S1 S2 S4 T2 T3 T4 hkS HZA HZB HXA HXB
       go_wp2_with (go_at_call 36; refine (isVarR_any _ _).mono ?_; rintro e w' ⟨rfl, rfl⟩; (first | rw [HVA.out] | rw [HVB.out]))
       clear HB4 hzw4 BA4 BB ba0 a0 a1' b0 b1' fa0 fa1 fb0 fb1
       generalize (((((w3.alloc (.cells #[.string tb.name, .slice x2 tb.args.length k2] 26)).setCell ⟨w1.heap.size, 0, none⟩ (.string tb.name)).setCell ⟨w1.heap.size, 1, none⟩ (.slice x2 tb.args.length k2)).setCell ⟨w3.heap.size, 0, none⟩ (.string ta.name)).setCell ⟨w3.heap.size, 1, none⟩ (.slice x1 ta.args.length k1)) = w4 at *
       have HB4 := HB4'
       clear HB4' hzw4'
       have a0 := A4.out.c0
       have b0 := B4.out.c0
       have b1 := B4.out.c1
       have VF : Hid (∀ w', Below w4.heap.size w4 w' → Calls Tryz.prog 41 #[.agg #[.string ta.name, .slice x1 ta.args.length k1]] w' fun e w'' => ∃ v', e = .returned v' ∧ LV Value.string w'' (fun _ => True) v' (varsP [] (preL [ta])) ∧ Below w4.heap.size w4 w'' ∧ (w''.cell? ⟨w1.heap.size, 0, none⟩ = some (.string tb.name) ∧ w''.cell? ⟨w3.heap.size, 0, none⟩ = some (.string ta.name) ∧ w''.cell? ⟨w3.heap.size, 1, none⟩ = some (.slice x1 ta.args.length k1))) := fun w' hb => by
        refine (varsOf_any ta _ w' _ ⟨_, _, rfl, HXT.out.later hb⟩ (by have := HZT.out; omega)).mono ?_
        rintro e w'' ⟨v', rfl, hl, hb2⟩
        have hb3 := hb.trans (hb2.mono hb.size)
        exact ⟨v', rfl, hl.mono (fun _ _ _ => trivial), hb3, cell_later hb3 a0, cell_later hb3 b0, cell_later hb3 b1⟩
       have HS0 := hide (And.intro a0 (And.intro b0 b1))
       go_region_held3 (fun w' => w'.cell? ⟨w1.heap.size, 0, none⟩ = some (.string tb.name) ∧ w'.cell? ⟨w3.heap.size, 0, none⟩ = some (.string ta.name) ∧ w'.cell? ⟨w3.heap.size, 1, none⟩ = some (.slice x1 ta.args.length k1)) (first | exact hS | exact HS0.out | go_keep)
        (first
         | (go_at_call 41; refine (VF.out _ (by first | exact Below.refl _ _ | exact (Below.refl _ _).drew)).mono ?_; rintro e w5 ⟨v5, rfl, hl5, hb5, hS⟩)
         | (go_at_call 40; refine (in_any _ _ _ _ (fun _ => True) (by first | exact hl5 | exact hl5.kept (fun _ _ => rfl))).mono ?_; rintro e w6 ⟨rfl, hw6⟩; have hS : w6.cell? ⟨w1.heap.size, 0, none⟩ = some (.string tb.name) ∧ w6.cell? ⟨w3.heap.size, 0, none⟩ = some (.string ta.name) ∧ w6.cell? ⟨w3.heap.size, 1, none⟩ = some (.slice x1 ta.args.length k1) := (by rw [hw6]; first | exact hS | go_keep)))
       rw [hw6] at hS
       clear hw6
       have HB6 := hide hb5
       have HS6 := hide hS
       obtain ⟨e0, e1, e2⟩ := hS
       have HXT6 := hide (HXT.out.later HB6.out)
       clear hl5 hb5 VF HS0 a0 b0 b1 hS HXT A4 B4
       cases hin : inB tb.name (varsP [] (preL [ta])) with
       | true =>
        have HRR : Hid (R = (6, sAt h)) := by
         have e : uPair true (sAt h) l ta tb = .stop 6 (sAt h) := by rw [HUP.out]; unfold uBind; rw [if_pos hin]
         rcases HRUN.out with ⟨e1, s', e2, e3⟩ | ⟨s', l', e2, _⟩
         ·rw [e] at e2; cases e2; exact e3
         ·rw [e] at e2; cases e2
        clear hin
        go_wp2_with fail
        refine bodyPost_ret (v := .tuple #[.slice none 0 0, .int .i64 6]) (by simp [results, Tryz.results21, go_sem]) rfl ?_
        exact ⟨HB.out.trans ((HB4.out.trans (HB6.out.mono HB4.out.size)).mono HB.out.size), Or.inr ⟨by rw [HRR.out]; exact (by decide : (6 : Int) ≠ 0), by rw [HRR.out]⟩⟩
       | false =>
        have HIN := hide hin
        obtain ⟨MAY, hUn⟩ := UIB.out (by rw [hin]; simp)
        have HMAY := hide MAY
        have HUN := hide hUn
        clear hin MAY hUn UIB
        have HB60 : Hid (Below wr.heap.size wr w5) := HB4.out.trans (HB6.out.mono HB4.out.size)
        obtain ⟨ua, uc, rfl, hul, hu5⟩ := HBV.out
        clear hu5
        have hsl : (sAt h).length ≤ 400000 := by rw [sAt_len]; have := HU.out.hlen; omega
        have O7 := hide (Blk.new w5 #[.string tb.name, .string ta.name, .slice x1 ta.args.length k1] 82)
        have HB7 := hide (HB60.out.alloc HB60.out.size (.cells #[.string tb.name, .string ta.name, .slice x1 ta.args.length k1] 82))
        have HX7 := hide (HXT6.out.later ((Below.refl _ _).alloc (Nat.le_refl _) (.cells #[.string tb.name, .string ta.name, .slice x1 ta.args.length k1] 82)))
        have hz7 : (w5.alloc (.cells #[.string tb.name, .string ta.name, .slice x1 ta.args.length k1] 82)).heap.size = w5.heap.size + 1 := by simp
        go_wp2_with fail
        generalize (w5.alloc (.cells #[.string tb.name, .string ta.name, .slice x1 ta.args.length k1] 82)) = w7 at *
        have HONE := hide ((bv_one2 O7.out HX7.out).mono (Y := fun b => b < w7.heap.size) fun _ _ h => h)
        have HBV7 := hide ((HBV.out.later HB7.out).mono (Y := fun b => b < w7.heap.size) fun _ _ h => h)
        have HQ7 := hide (HTL.out.later HB7.out)
        clear e0 e1 e2 HS6 HXT6 HB6 HB60
        go_loopw [9, 10] (fun u i wq => UbInv w7 (sAt h) tb.name ta u i wq) (fun u i wq => (sAt h).length - (intOf i).toNat)
        case atStart => exact ⟨0, [], rfl, Nat.zero_le _, BRow.start _ _ _, by simp, by simp, Below.refl _ _⟩
        case round =>
         obtain ⟨k, cs, rfl, hk, hrow, hcs, hfu, hb⟩ := hrel
         have HROW := hide hrow
         have HCS := hide hcs
         have HFU := hide hfu
         have HBQ := hide hb
         clear hrow hcs hfu
         have hcl : cs.length ≤ 1000000 := by
          have h1 := congrArg List.length HCS.out
          simp at h1
          omega
         by_cases hlt : k < (sAt h).length
         ·obtain ⟨b', o', a', c', rfl, d0, d1, d2, hs⟩ := (HBV7.out.later hb).get k hlt
          have hlt2 : (k : Int) < ((sAt h).length : Int) := by omega
          have HS := hide hs
          have HSK : Hid (sizeL [(sAt h)[k].t] ≤ 1000000) := by have := grt_le HGR.out (List.getElem_mem hlt); unfold Hid; omega
          clear hb hs
          have OE := onAll_at (fun b => b < w7.heap.size) [⟨tb.name, ta⟩] (sAt h)[k].t _ a' c' wr (HONE.out.later HBQ.out) HS.out HSK.out
          have HTKM : Hid (((sAt h).take (k + 1)).map (putB tb.name ta) = ((sAt h).take k).map (putB tb.name ta) ++ [putB tb.name ta (sAt h)[k]]) := by
           unfold Hid
           rw [List.take_succ_eq_append_getElem hlt, List.map_append]; rfl
          have HTKF : Hid (sizeL [onT [⟨tb.name, ta⟩] (sAt h)[k].t] ≤ 2000 → ∀ d ∈ (sAt h).take (k + 1), sizeL [onT [⟨tb.name, ta⟩] d.t] ≤ 2000) := fun hle d hd => by
           rw [List.take_succ_eq_append_getElem hlt] at hd
           rcases List.mem_append.1 hd with hd | hd
           ·exact HFU.out d hd
           ·have e : d = (sAt h)[k] := by simpa using hd
            rw [e]; exact hle
          have HBIG : Hid (2000 < sizeL [onT [⟨tb.name, ta⟩] (sAt h)[k].t] → grtB ((sAt h).map (putB tb.name ta)) = true) := fun hg => by
           unfold grtB
           rw [List.any_eq_true]
           exact ⟨putB tb.name ta (sAt h)[k], List.mem_map.2 ⟨_, List.getElem_mem hlt, rfl⟩, decide_eq_true hg⟩
          have hnm : (putB tb.name ta (sAt h)[k]).nm = (sAt h)[k].nm := rfl
          have htt : (putB tb.name ta (sAt h)[k]).t = onT [⟨tb.name, ta⟩] (sAt h)[k].t := rfl
          rw [← htt] at OE HTKF HBIG
          rw [← hnm] at d0
          generalize putB tb.name ta (sAt h)[k] = d8 at *
          generalize (sAt h)[k].t = dt at *
          go_wp2_with fail
          refine OE.mono ?_
          clear OE hnm htt
          rintro e w8 ⟨s8, x8, n8, k8, ok8, rfl, hb8, hc8⟩
          have HB8 := hide (HBQ.out.trans (hb8.mono HBQ.out.size))
          have HROW8 := hide (HROW.out.below hb8)
          have HBR8 := hide hb8
          have d0' := cell_later hb8 d0
          have hz8 := hb8.size
          clear hb8 d0 d1 d2
          rcases hc8 with ⟨rfl, hbig⟩ | ⟨rfl, hle, rfl, rfl, hsl8⟩
          ·have HRR : Hid (R = (8, sAt h)) := by
            have e : uPair true (sAt h) l ta tb = .stop 8 (sAt h) := by rw [HUP.out]; unfold uBind; rw [if_neg (by rw [HIN.out]; simp), if_pos (by rw [HBIG.out hbig]; rfl)]
            rcases HRUN.out with ⟨e1, s', e2, e3⟩ | ⟨s', l', e2, _⟩
            ·rw [e] at e2; cases e2; exact e3
            ·rw [e] at e2; cases e2
           go_wp2_with fail
           refine bodyPost_ret (v := .tuple #[.slice none 0 0, .int .i64 8]) (by simp [results, Tryz.results21, go_sem]) rfl ?_
           have hz := HB7.out.size
           exact ⟨(HB.out.trans ((HB7.out.trans (HB8.out.mono HB7.out.size)).mono HB.out.size)).alloc (Nat.le_trans HB.out.size (Nat.le_trans HB7.out.size HB8.out.size)) _, Or.inr ⟨by rw [HRR.out]; exact (by decide : (8 : Int) ≠ 0), by rw [HRR.out]⟩⟩
          ·have HSL := hide hsl8
           have HFU1 := hide (HTKF.out hle)
           clear hsl8 HTKF HBIG
           go_wp2_with fail
           have P9 := hide (Blk.new w8 #[.string d8.t.name, .slice x8 d8.t.args.length k8] 26)
           have hbA : Below w8.heap.size w8 (w8.alloc (.cells #[.string d8.t.name, .slice x8 d8.t.args.length k8] 26)) := (Below.refl _ _).alloc (Nat.le_refl _) _
           have HB9 := hide (HB8.out.trans (hbA.mono HB8.out.size))
           have HROW9 := hide (HROW8.out.below hbA)
           have HBR9 := hide (HBR8.out.trans (hbA.mono HBR8.out.size))
           have HSL9 := hide (HSL.out.later hbA)
           have d3 := cell_later hbA d0'
           have q0 := P9.out.cell 0
           have q1 := P9.out.cell 1
           clear hbA d0' P9
           generalize w8.alloc (.cells #[.string d8.t.name, .slice x8 d8.t.args.length k8] 26) = w9 at *
           generalize w8.heap.size = P at *
           obtain ⟨i0, hi, hz0, hzz1, hzz2⟩ := info_parts Tryz.infoBind
           go_region_law (refine step_append_lies _ rfl _ _ 39 rfl w7.heap.size 82 i0 _ 3 56 Tryz.underlying39 hi hz0 hzz1 hzz2 rfl (by decide) u9 cs.length (flat3 cs) rfl (by exact (HROW9.out.below (below_drewN (Below.refl _ _) 1)).own.alloc _) ⟨w9.heap.size, 0, none⟩ 1 1 (enc3 (d8, x8, k8)) rfl rfl (cell_three_new _ _ _ _ _) (fun x hx => by simp [enc3] at hx; rcases hx with rfl | rfl | rfl <;> rfl) (by decide) (by unfold maxLen; omega) (by omega) (by have := HB9.out.size; simp; omega) _ rfl ?_; intro g cap wA hownA hgrowA hatA hltA)
           all_goals
            have HRA := hide (HROW.out.push (w1 := w9.drew) (x := (d8, x8, k8)) HBQ.out.size (fun b h => h) (below_drewN HBR9.out 1) ((HSL9.out.later (below_drewN (Below.refl _ _) 1)).mono fun b hb _ => by rcases hb with hb | hb; exact Or.inl hb.1; exact Or.inr (by omega)) _ rfl hownA hgrowA hatA)
            have HBA : Hid (Below w7.heap.size w7 wA) := ((below_drewN HB9.out 1).alloc (by have := HB9.out.size; simp; omega) _).grown hgrowA (by have := HB9.out.size; simp; omega) (fun j hj => by have := (HROW9.out.own.lt j hj).1; omega)
            clear hownA hgrowA hatA hltA
            go_wp2_with fail
            go_roundw
            case rel => exact ⟨k + 1, cs ++ [(d8, x8, k8)], by go_num, by omega, HRA.out, by rw [HTKM.out, List.map_append, HCS.out]; rfl, HFU1.out, HBA.out⟩
            case measure => simp [intOf]; omega
         ·have htk : (sAt h).take k = sAt h := List.take_of_length_le (by omega)
          rw [htk] at HCS HFU
          have r0 : wr.cell? ⟨w5.heap.size, 0, none⟩ = some (.string tb.name) := cell_later HBQ.out (O7.out.cell 0)
          have r1 : wr.cell? ⟨w5.heap.size, 1, none⟩ = some (.string ta.name) := cell_later HBQ.out (O7.out.cell 1)
          have r2 : wr.cell? ⟨w5.heap.size, 2, none⟩ = some (.slice x1 ta.args.length k1) := cell_later HBQ.out (O7.out.cell 2)
          obtain ⟨v10, w10, hrun10, hR10, hg10⟩ := binds_append HROW.out HBQ.out.size (fun _ h => h) (Below.refl _ _) (⟨tb.name, ta⟩, x1, k1) ((HX7.out.mono (Y := fun b => b < w7.heap.size) fun _ _ h => h).later HBQ.out |>.mono fun b hb _ => Or.inl hb) hcl wr.heap.size rfl
          have HRUN10 := hide hrun10
          have HB10 : Hid (Below w7.heap.size w7 w10) := (HBQ.out.alloc HBQ.out.size _).grown hg10 (by have := HBQ.out.size; simp; omega) (fun j hj => (HROW.out.own.lt j hj).1)
          have hls : ((cs ++ [((⟨tb.name, ta⟩ : Bd), x1, k1)]).map (·.1)) = (sAt h).map (putB tb.name ta) ++ [⟨tb.name, ta⟩] := by rw [List.map_append, HCS.out]; rfl
          have hbv10 := hR10.bv
          rw [hls] at hbv10
          have SRT := sorted_any ((sAt h).map (putB tb.name ta) ++ [⟨tb.name, ta⟩]) v10 w10 _ hbv10 (by simp; omega)
          have HNX : Hid (uRun true g1 (sAt (h ++ [(tb.name, ta)])) l = some R ∧ grtB (sAt (h ++ [(tb.name, ta)])) = false) := by
           have hg : grtB ((sAt h).map (putB tb.name ta)) = false := by
            unfold grtB
            rw [List.any_eq_false]
            intro d hd
            obtain ⟨d', hd', rfl⟩ := List.mem_map.1 hd
            have := HFU.out d' hd'
            intro hc
            have h2 : 2000 < sizeL [onT [⟨tb.name, ta⟩] d'.t] := of_decide_eq_true hc
            omega
           have e : uPair true (sAt h) l ta tb = .go (addS (sAt h) tb.name ta) l := by rw [HUP.out]; unfold uBind; rw [if_neg (by rw [HIN.out]; simp), if_neg (by rw [hg]; simp)]; rfl
           have hz := HZT.out
           refine ⟨?_, ?_⟩
           ·rw [sAt_snoc]
            rcases HRUN.out with ⟨e1, s', e2, e3⟩ | ⟨s', l', e2, e3⟩
            ·rw [e] at e2; cases e2
            ·rw [e] at e2; cases e2; exact e3
           ·rw [sAt_snoc]
            unfold addS
            rw [grtB_new, hg]
            simpa using hz
          clear hrun10 hR10 hg10 hls hbv10 htk hb
          go_wp2_with (at_builtin; refine wpList_append_eq rfl _ _ _ _ rfl rfl rfl HRUN10.out ?_)
          refine SRT.mono ?_
          clear SRT
          rintro e w11 ⟨v11, cs11, rfl, hR11, hp11, hw11, hb11⟩
          have HBV11 : Hid (BV w11 (fun _ => True) v11 (sAt (h ++ [(tb.name, ta)]))) := by
           unfold Hid
           rw [sAt_snoc]
           have ap := add_apart (t := ta) HU.out.good.all.1 HMAY.out.2.1
           have e : cs11.map (·.1) = addS (sAt h) tb.name ta := sortedB_unique (hp11.trans (srtB_perm _).symm) (sortedB_of (ap.perm hp11) (List.pairwise_map.2 hw11)) (srtB_sorted _ ap)
           rw [← e]
           exact hR11.bv.mono fun _ _ _ => trivial
          have HB11 := hide (HB10.out.trans (hb11.mono HB10.out.size))
          clear hR11 hp11 hw11 hb11
          go_wp2_with fail
          go_roundg g1
          case rel => exact ⟨h ++ [(tb.name, ta)], l, HUN.out, HNX.out.2, HNX.out.1, HBV11.out, HQ7.out.later HB11.out, HB.out.trans ((HB7.out.trans (HB11.out.mono HB7.out.size)).mono HB.out.size)⟩
          case measure => have := HG1.out; omega
      | false =>
       have HVB := hide hvb
       clear hvb
       have HUP : Hid (uPair true (sAt h) l ta tb = if ta.name = tb.name ∧ ta.args.length = tb.args.length then .go (sAt h) (zipP ta.args tb.args ++ l) else .stop 5 (sAt h)) := by
        unfold Hid uPair
        rw [if_neg (by have := HZA.out; have := HZB.out; omega), if_neg (by rw [HVA.out]; simp), if_neg (by rw [HVB.out]; simp)]
       have CL : Hid (¬ (ta.name = tb.name ∧ ta.args.length = tb.args.length) → R = (5, sAt h)) := fun hn => by
        have e : uPair true (sAt h) l ta tb = .stop 5 (sAt h) := by rw [HUP.out, if_neg hn]
        rcases HRUN.out with ⟨e1, s', e2, e3⟩ | ⟨s', l', e2, _⟩
        ·rw [e] at e2; cases e2; exact e3
        ·rw [e] at e2; cases e2
       by_cases hnn : ta.name = tb.name
       ·have hnb := bytes_yes hnn
        by_cases hll : ta.args.length = tb.args.length
        ·have hlb : ((ta.args.length : Int) == (tb.args.length : Int)) = true := by simp [hll]
         have HLL := hide hll
         have HNN := hide hnn
         have HDEEP := hide (HU.out.deep (by rw [HTA.out]; exact HZA.out) (by rw [HTB.out]; exact HZB.out) (by rw [HTA.out, HTB.out]; exact hll)).1
         rw [HTA.out, HTB.out] at HDEEP
         have HSTEP : Hid (uRun true g1 (sAt h) (zipP ta.args tb.args ++ l) = some R) := by
          have e : uPair true (sAt h) l ta tb = .go (sAt h) (zipP ta.args tb.args ++ l) := by rw [HUP.out, if_pos ⟨hnn, hll⟩]
          rcases HRUN.out with ⟨e1, s', e2, e3⟩ | ⟨s', l', e2, e3⟩
          ·rw [e] at e2; cases e2
          ·rw [e] at e2; cases e2; exact e3
         have hla : ta.args.length ≤ 2000 := by
          have h1 := sizeL_len ta.args
          have h2 := size_sub ta
          have h3 := HZA.out
          omega
         have hlq : l.length ≤ 900000000 := by have h1 := HU.out.llen; simp at h1; omega
         have HXB2 := hide (HXB.out.mono (Y := fun b => b < (w3.alloc (.cells #[.string tb.name, .slice x2 tb.args.length k2] 26)).heap.size) fun _ _ h => h)
         have HXA2 := hide (HXA.out.mono (Y := fun b => b < (w3.alloc (.cells #[.string tb.name, .slice x2 tb.args.length k2] 26)).heap.size) fun _ _ h => h)
         have HQS := hide ((HTL.out.later HB4.out).mono (Y := fun b => b < (w3.alloc (.cells #[.string tb.name, .slice x2 tb.args.length k2] 26)).heap.size) fun _ _ h => h)
         clear hll hnn CL HXA HXB
         go_wp2_with (go_at_call 36; refine (isVarR_any _ _).mono ?_; rintro e w' ⟨rfl, rfl⟩; (first | rw [HVA.out] | rw [HVB.out]))
         generalize (w3.alloc (.cells #[.string tb.name, .slice x2 tb.args.length k2] 26)) = wS at *
         go_loopw [13, 14] (fun u i wq => UdInv wS ta.args tb.args u i wq) (fun u i wq => ta.args.length - (intOf i).toNat)
         case atStart => exact ⟨0, [], rfl, Nat.zero_le _, QRow.start _ _ _, by simp, Below.refl _ _⟩
         case round =>
          obtain ⟨k, cs, rfl, hk, hrow, hcs, hb⟩ := hrel
          have HROW := hide hrow
          have HCS := hide hcs
          have HBQ := hide hb
          have hcl : cs.length ≤ 1000000 := by
           have h1 := congrArg List.length hcs
           simp at h1
           omega
          have e1 : wr.cell? ⟨w1.heap.size, 1, none⟩ = some (.slice x1 ta.args.length k1) := cell_later hb a1'
          have e2 : wr.cell? ⟨w3.heap.size, 1, none⟩ = some (.slice x2 tb.args.length k2) := cell_later hb b1'
          clear hrow hcs hb
          by_cases hlt : k < ta.args.length
          ·have hlt2 : (k : Int) < (ta.args.length : Int) := by omega
           have hltb : k < tb.args.length := by have := HLL.out; omega
           have hlt3 : (k : Int) < (tb.args.length : Int) := by omega
           obtain ⟨b1, o1, y1, d1, hx1e, p0, p1, hy1⟩ := HXA2.out.get (Below.refl _ _) (fun _ _ h => h) k hlt
           obtain ⟨b2, o2, y2, d2, hx2e, r0, r1, hy2⟩ := HXB2.out.get (Below.refl _ _) (fun _ _ h => h) k hltb
           subst hx1e
           subst hx2e
           have P0 := hide p0
           have P1 := hide p1
           have R0 := hide r0
           have R1 := hide r1
           clear p0 p1 r0 r1
           obtain ⟨av, cv, ev, hsy1⟩ := hy1
           simp at ev
           obtain ⟨rfl, rfl⟩ := ev
           obtain ⟨av, cv, ev, hsy2⟩ := hy2
           simp at ev
           obtain ⟨rfl, rfl⟩ := ev
           have HY1 := hide (hsy1.later HBQ.out)
           have HY2 := hide (hsy2.later HBQ.out)
           have HZK : Hid ((zipP ta.args tb.args).take (k + 1) = (zipP ta.args tb.args).take k ++ [⟨ta.args[k], tb.args[k]⟩]) := by
            unfold Hid
            rw [List.take_succ_eq_append_getElem (by rw [zip_len2 HLL.out]; exact hlt), zip_get2 k hlt hltb]
           clear hsy1 hsy2
           generalize ta.args[k] = tA at *
           generalize tb.args[k] = tB at *
           obtain ⟨i0, hi, hz0, hzz1, hzz2⟩ := info_parts Tryz.infoPair
           have KG : Hid (∀ W : World, Below wS.heap.size wS W → FvD w1.heap.size w3.heap.size b1 b2 (o1 + k * 2) (o2 + k * 2) o1 o2 ta.args.length tb.args.length tA tB y1 y2 k1 k2 d1 d2 W) := fun W hW => ⟨cell_later hW a1', cell_later hW P0.out, cell_later hW P1.out, cell_later hW b1', cell_later hW R0.out, cell_later hW R1.out⟩
           have hS0 : FvD w1.heap.size w3.heap.size b1 b2 (o1 + k * 2) (o2 + k * 2) o1 o2 ta.args.length tb.args.length tA tB y1 y2 k1 k2 d1 d2 wr.drew := KG.out _ (below_drewN HBQ.out 1)
           have HSA : Hid (∀ o, FvD w1.heap.size w3.heap.size b1 b2 (o1 + k * 2) (o2 + k * 2) o1 o2 ta.args.length tb.args.length tA tB y1 y2 k1 k2 d1 d2 (wr.drew.alloc o)) := fun o => KG.out _ ((below_drewN HBQ.out 1).alloc (by have := HBQ.out.size; simp; omega) o)
           have HOWN := hide (HROW.out.below (below_drewN (Below.refl _ _) 1)).own
           go_wp2_with fail
           refine wp_region_held_drew (S := FvD w1.heap.size w3.heap.size b1 b2 (o1 + k * 2) (o2 + k * 2) o1 o2 ta.args.length tb.args.length tA tB y1 y2 k1 k2 d1 d2) (by kernel_rfl) hS0 (fun hHeld => ?_)
           clear hS0
           refine tkq (v := ?_) 0 rfl ?_ ?_
           rotate_left
           ·intro w' hSw
            obtain ⟨j1, j2, j3, j4, j5, j6⟩ := hSw
            go_simp <;> with_reducible rfl
           try simp only [Act.put, sq]
           refine tkq (v := ?_) 1 rfl ?_ ?_
           rotate_left
           ·intro w' hSw
            obtain ⟨j1, j2, j3, j4, j5, j6⟩ := hSw
            go_simp <;> with_reducible rfl
           try simp only [Act.put, sq]
           refine tkq (v := ?_) 2 rfl ?_ ?_
           rotate_left
           ·intro w' hSw
            obtain ⟨j1, j2, j3, j4, j5, j6⟩ := hSw
            go_simp <;> with_reducible rfl
           try simp only [Act.put, sq]
           refine tkq (v := ?_) 3 rfl ?_ ?_
           rotate_left
           ·intro w' hSw
            obtain ⟨j1, j2, j3, j4, j5, j6⟩ := hSw
            go_simp <;> with_reducible rfl
           try simp only [Act.put, sq]
           refine tkq (v := ?_) 4 rfl ?_ ?_
           rotate_left
           ·intro w' hSw
            obtain ⟨j1, j2, j3, j4, j5, j6⟩ := hSw
            go_simp <;> with_reducible rfl
           try simp only [Act.put, sq]
           refine tkq (v := ?_) 5 rfl ?_ ?_
           rotate_left
           ·intro w' hSw
            obtain ⟨j1, j2, j3, j4, j5, j6⟩ := hSw
            go_simp <;> with_reducible rfl
           try simp only [Act.put, sq]
           refine tkq (v := ?_) 6 rfl ?_ ?_
           rotate_left
           ·intro w' hSw
            obtain ⟨j1, j2, j3, j4, j5, j6⟩ := hSw
            go_simp <;> with_reducible rfl
           try simp only [Act.put, sq]
           refine tkq (v := ?_) 7 rfl ?_ ?_
           rotate_left
           ·intro w' hSw
            obtain ⟨j1, j2, j3, j4, j5, j6⟩ := hSw
            go_simp <;> with_reducible rfl
           try simp only [Act.put, sq]
           refine tkq (v := ?_) 8 rfl ?_ ?_
           rotate_left
           ·intro w' hSw
            obtain ⟨j1, j2, j3, j4, j5, j6⟩ := hSw
            go_simp <;> with_reducible rfl
           try simp only [Act.put, sq]
           refine tkq (v := ?_) 9 rfl ?_ ?_
           rotate_left
           ·intro w' hSw
            obtain ⟨j1, j2, j3, j4, j5, j6⟩ := hSw
            go_simp <;> with_reducible rfl
           try simp only [Act.put, sq]
           refine tkq (v := ?_) 10 rfl ?_ ?_
           rotate_left
           ·intro w' hSw
            obtain ⟨j1, j2, j3, j4, j5, j6⟩ := hSw
            go_simp <;> with_reducible rfl
           try simp only [Act.put, sq]
           refine tkq (v := ?_) 11 rfl ?_ ?_
           rotate_left
           ·intro w' hSw
            obtain ⟨j1, j2, j3, j4, j5, j6⟩ := hSw
            go_simp <;> with_reducible rfl
           try simp only [Act.put, sq]
           refine rdq 12 rfl fun K hK => ?_
           go_simp
           refine hK.out _ _ (by exact HSA.out _) (fun hHeld => ?_)
           clear hK K
           try simp only [Act.put, sq]
           refine rdq 13 rfl fun K hK => ?_
           refine step_append_lies _ rfl _ _ 46 rfl wS.heap.size 45 i0 _ 4 80 Tryz.underlying46 hi hz0 hzz1 hzz2 rfl (by decide) u13 cs.length (flat4 cs) rfl (by exact HOWN.out.alloc _) ⟨wr.heap.size, 0, none⟩ 1 1 [.string tA.name, .slice y1 tA.args.length d1, .string tB.name, .slice y2 tB.args.length d2] rfl rfl (by exact cell_four_new _ _ _ _ _ _) (fun x hx => by simp at hx; rcases hx with rfl | rfl | rfl | rfl <;> rfl) (by decide) (by unfold maxLen; omega) (by omega) (by have := HBQ.out.size; simp; omega) _ rfl ?_
           intro g cap wA hownA hgrowA hatA hltA
           have HRA := hide (HROW.out.push (w1 := wr.drew) (x := (⟨tA, tB⟩, (y1, d1), (y2, d2))) HBQ.out.size (fun b h => h) (below_drewN (Below.refl _ _) 1) ⟨(HY1.out.later (below_drewN (Below.refl _ _) 1)).mono fun b hb _ => Or.inl hb, (HY2.out.later (below_drewN (Below.refl _ _) 1)).mono fun b hb _ => Or.inl hb⟩ _ rfl hownA hgrowA hatA)
           have HBA : Hid (Below wS.heap.size wS wA) := ((below_drewN HBQ.out 1).alloc (by have := HBQ.out.size; simp; omega) _).grown hgrowA (by have := HBQ.out.size; simp; omega) (fun j hj => by have := (HROW.out.own.lt j hj).1; omega)
           refine hK.out _ _ (by exact KG.out _ HBA.out) (fun hHeld => ?_)
           clear hownA hgrowA hatA hltA
           clear hK K
           try simp only [Act.put, sq]
           refine tkq (v := ?_) 14 rfl ?_ ?_
           rotate_left
           ·intro w' hSw
            obtain ⟨j1, j2, j3, j4, j5, j6⟩ := hSw
            go_simp <;> with_reducible rfl
           try simp only [Act.put, sq]
           refine wpAnyH_done (by kernel_rfl) ?_ _
           clear hHeld
           go_wp2_with fail
           refine ⟨⟨?z0, ?z1, ?z2, ?z3, ?z4, ?z5, ?z6, ?z7, ?z8, ?z9, ?z10, ?z11, ?z12, ?z13, ?z14, ?z15, ?z16, ?z17, ?z18, ?z19, ?z20, ?z21, ?z22, ?rel, ?fr⟩, ?measure⟩
           case fr =>
            refine congrArg (fun t => Act.mk t []) (congrArg List.toArray ?_)
            repeat' (refine cons_eq2 ?_ ?_)
            all_goals (try rfl)
            all_goals simp [HLL.out]
           case rel => exact ⟨k + 1, cs ++ [(⟨tA, tB⟩, (y1, d1), (y2, d2))], by go_num, by omega, HRA.out, by rw [HZK.out, List.map_append, HCS.out]; rfl, HBA.out⟩
           case measure => simp [intOf]; omega
          ·have htk : (zipP ta.args tb.args).take k = zipP ta.args tb.args := List.take_of_length_le (by rw [zip_len2 HLL.out]; omega)
           rw [htk] at HCS
           obtain ⟨v10, w10, hrun10, hq10, hg10⟩ := pairs_spread HROW.out HBQ.out.size (fun _ h => h) (HQS.out.later HBQ.out) (by omega)
           have HRUN10 := hide hrun10
           have HB10 : Hid (Below wS.heap.size wS w10) := HBQ.out.grown hg10 (by have := HBQ.out.size; omega) (fun j hj => (HROW.out.own.lt j hj).1)
           have HQ10 : Hid (QV w10 (fun _ => True) v10 (zipP ta.args tb.args ++ l)) := by
            unfold Hid
            rw [← HCS.out]
            exact hq10.mono fun _ _ _ => trivial
           clear hrun10 hq10 hg10 htk
           go_wp2_with (at_builtin; refine wpList_append_eq rfl _ _ _ _ rfl rfl rfl HRUN10.out ?_)
           go_roundg g1
           case rel => exact ⟨h, zipP ta.args tb.args ++ l, HDEEP.out, HGR.out, HSTEP.out, HBV.out.later (HB4.out.trans (HB10.out.mono HB4.out.size)), HQ10.out, HB.out.trans ((HB4.out.trans (HB10.out.mono HB4.out.size)).mono HB.out.size)⟩
           case measure => have := HG1.out; omega
        ·have hlb : ((ta.args.length : Int) == (tb.args.length : Int)) = false := beq_eq_false_iff_ne.2 (by omega)
         have HRR := hide (CL.out fun hh => hll hh.2)
         clear hll hnn
         go_wp2_with (go_at_call 36; refine (isVarR_any _ _).mono ?_; rintro e w' ⟨rfl, rfl⟩; (first | rw [HVA.out] | rw [HVB.out]))
         refine bodyPost_ret (v := .tuple #[.slice none 0 0, .int .i64 5]) (by simp [results, Tryz.results21, go_sem]) rfl ?_
         exact ⟨HB.out.trans (HB4.out.mono HB.out.size), Or.inr ⟨by rw [HRR.out]; exact (by decide : (5 : Int) ≠ 0), by rw [HRR.out]⟩⟩
       ·have hnb := bytes_no hnn
        have HRR := hide (CL.out fun hh => hnn hh.1)
        clear hnn
        go_wp2_with (go_at_call 36; refine (isVarR_any _ _).mono ?_; rintro e w' ⟨rfl, rfl⟩; (first | rw [HVA.out] | rw [HVB.out]))
        refine bodyPost_ret (v := .tuple #[.slice none 0 0, .int .i64 5]) (by simp [results, Tryz.results21, go_sem]) rfl ?_
        exact ⟨HB.out.trans (HB4.out.mono HB.out.size), Or.inr ⟨by rw [HRR.out]; exact (by decide : (5 : Int) ≠ 0), by rw [HRR.out]⟩⟩
end Go.Proofs.YtdebiiodhkcnkaaGreat
