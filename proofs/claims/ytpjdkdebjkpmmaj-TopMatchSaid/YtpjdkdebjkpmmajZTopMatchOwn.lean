/- Several texts in one. -/
import Derived.Test.YtpjdkdebjkpmmajW93
import Derived.Test.YtpjdkdebjkpmmajW96
import Derived.Test.YtpjdkdebjkpmmajW82
import Derived.Test.YtpjdkdebjkpmmajPu0
import Derived.Test.YtpjdkdebjkpmmajW81
import Derived.Test.YtpjdkdebjkpmmajW64
import Derived.Test.YtpjdkdebjkpmmajW17
import Derived.Test.YtpjdkdebjkpmmajW9
import Derived.Deep.RegionHeld3
import Derived.Test.YtpjdkdebjkpmmajBmE
import Derived.Test.YtpjdkdebjkpmmajW10
import Derived.Test.YtpjdkdebjkpmmajBnd
import Derived.Test.YtpjdkdebjkpmmajW54
import Derived.Test.YtpjdkdebjkpmmajOnM
import Derived.Test.YtpjdkdebjkpmmajW50
import Derived.Test.YtpjdkdebjkpmmajW6
import Derived.Test.YtpjdkdebjkpmmajRows
import Derived.Test.YtpjdkdebjkpmmajW7
import Derived.ProofKit

/- Walks: whether a part of a term is a case of another one, as the document says. -/
namespace Go.Proofs.Ytpjdkdebjkpmmaj
open Go.RowKit
set_option linter.unusedSimpArgs false
set_option linter.unusedVariables false
set_option maxRecDepth 8000

theorem four_cells {w w1 : World} {p1 p2 p3 p4 : Addr} {v1 v2 v3 v4 : Value} (hb : Below w.heap.size w w1) (h : w.cell? p1 = some v1 ∧ w.cell? p2 = some v2 ∧ w.cell? p3 = some v3 ∧ w.cell? p4 = some v4) :
    w1.cell? p1 = some v1 ∧ w1.cell? p2 = some v2 ∧ w1.cell? p3 = some v3 ∧ w1.cell? p4 = some v4 := ⟨cell_later hb h.1, cell_later hb h.2.1, cell_later hb h.2.2.1, cell_later hb h.2.2.2⟩

end Go.Proofs.Ytpjdkdebjkpmmaj

/- Walks: Match, Variant, Encompasses. -/
namespace Go.Proofs.Ytpjdkdebjkpmmaj
open Go.RowKit
set_option linter.unusedSimpArgs false
set_option linter.unusedVariables false
set_option maxRecDepth 8000

/-- Some knot of a list of terms is a case. -/
def hcL (p : Tm) (l : List Tm) : Bool := (preL l).any fun k => mtB p k
theorem hcL_take {p : Tm} {l : List Tm} {k : Nat} (h : k < l.length) : hcL p (l.take (k + 1)) = (hcL p (l.take k) || hcB l[k] p) := by
  unfold hcL hcB
  rw [preL_take l k h, List.any_append]
theorem hcL_yes {p : Tm} {l : List Tm} {k : Nat} (h : k < l.length) (h0 : hcB l[k] p = true) : hcL p l = true := by
  have e : l = l.take (k + 1) ++ l.drop (k + 1) := (List.take_append_drop _ _).symm
  unfold hcL
  rw [e, preL_append, List.any_append]
  have h1 := hcL_take (p := p) h
  unfold hcL at h1
  rw [h1, h0]
  simp
theorem hcB_eq (s : ByteArray) (l : List Tm) (p : Tm) : hcB ⟨s, l⟩ p = (mtB p ⟨s, l⟩ || hcL p l) := by
  unfold hcB hcL
  simp [preL]
def IxInv (p : Tm) (l : List Tm) (w : World) (v : Value) (wr : World) : Prop := ∃ k : Nat, k ≤ l.length ∧ v = .int .i64 (k : Int) ∧ hcL p (l.take k) = false ∧ Below w.heap.size w wr

set_option maxHeartbeats 400000 in
theorem indexFunc_of (P : Nat) (p : Tm) (l : List Tm) (a : Option Addr) (c : Nat) (w : World) (X : Nat → Prop) (hs : Sl w X a l)
    (hcl : ∀ x ∈ l, ∀ a' c' w', Below w.heap.size w w' → Sl w' X a' x.args → Calls Try.prog 68 #[.agg #[.string x.name, .slice a' x.args.length c'], .pointer (some ⟨P, 0, none⟩)] w' fun e w'' => e = .returned (.bool (hcB x p)) ∧ Below w'.heap.size w' w'') :
    Calls Try.prog 91 #[.slice a l.length c, .func (.func 68) #[] #[.pointer (some ⟨P, 0, none⟩)]] w fun e w' => (∃ i : Int, e = .returned (.int .i64 i) ∧ decide (0 ≤ i) = hcL p l) ∧ Below w.heap.size w w' := by
  have HS := hide hs
  have HCL := hide hcl
  have hl := hs.1
  clear hs hcl
  go_enter Try.func91, Try.ntmps91
  go_wp2_with fail
  go_loopw [8] (fun v wr => IxInv p l w v wr) (fun v wr => l.length - (intOf v).toNat)
  case atStart => exact ⟨0, Nat.zero_le _, rfl, by simp [hcL, preL], Below.refl _ _⟩
  case round =>
    obtain ⟨k, hk, rfl, hT, hb⟩ := hrel
    have HT := hide hT
    have HB := hide hb
    clear hT
    by_cases hlt : k < l.length
    · have hlt2 : (k : Int) < (l.length : Int) := by omega
      obtain ⟨b, o, a', c', rfl, d0, d1, hx⟩ := HS.out.get hb (fun _ _ h => h) k hlt
      obtain ⟨av, cv, ev, hsx⟩ := hx
      simp at ev
      obtain ⟨rfl, rfl⟩ := ev
      have CK := hide (HCL.out l[k] (List.getElem_mem hlt) a' c' wr hb hsx)
      have HTK := hide (hcL_take (p := p) hlt)
      have HYS := hide (hcL_yes (p := p) hlt)
      clear hsx hb
      generalize l[k] = y at *
      go_wp2_with fail
      refine CK.out.mono ?_
      rintro e w1 ⟨rfl, hb1⟩
      have HB1 := hide (HB.out.trans (hb1.mono HB.out.size))
      clear hb1
      cases hm : hcB y p with
      | true =>
        have HF := hide (HYS.out hm)
        go_wp2_with fail
        go_ret
        exact ⟨⟨_, rfl, by rw [HF.out]; simp⟩, HB1.out⟩
      | false =>
        rw [hm] at HTK
        go_wp2_with fail
        go_roundw
        case rel => exact ⟨k + 1, by omega, by go_num, by rw [HTK.out, HT.out]; rfl, HB1.out⟩
        case measure => simp [intOf]; omega
    · have HF : Hid (false = hcL p l) := by
        unfold Hid
        rw [← HT.out, List.take_of_length_le (by omega)]
      go_wp2_with fail
      go_ret
      exact ⟨⟨-1, rfl, by rw [← HF.out]; decide⟩, HB.out⟩

set_option maxHeartbeats 400000 in
theorem containsFunc_of (P : Nat) (p : Tm) (l : List Tm) (a : Option Addr) (c : Nat) (w : World) (X : Nat → Prop) (hs : Sl w X a l)
    (hcl : ∀ x ∈ l, ∀ a' c' w', Below w.heap.size w w' → Sl w' X a' x.args → Calls Try.prog 68 #[.agg #[.string x.name, .slice a' x.args.length c'], .pointer (some ⟨P, 0, none⟩)] w' fun e w'' => e = .returned (.bool (hcB x p)) ∧ Below w'.heap.size w' w'') :
    Calls Try.prog 67 #[.slice a l.length c, .func (.func 68) #[] #[.pointer (some ⟨P, 0, none⟩)]] w fun e w' => e = .returned (.bool (hcL p l)) ∧ Below w.heap.size w w' := by
  have IC := hide (indexFunc_of P p l a c w X hs hcl)
  clear hs hcl
  go_enter Try.func67, Try.ntmps67
  go_wp2_with fail
  refine IC.out.mono ?_
  rintro e w1 ⟨⟨i, rfl, hi⟩, hb1⟩
  have HI := hide hi
  have HB1 := hide hb1
  clear hi hb1
  go_wp2_with fail
  go_ret
  exact ⟨ret_bool (by rw [← HI.out]), HB1.out⟩

set_option maxHeartbeats 400000 in
theorem hasCase_any (p : Tm) (t : Tm) : ∀ (tv pv : Value) (w : World) (X : Nat → Prop), TV w X tv t → TV w X pv p →
    Calls Try.prog 39 #[tv, pv] w fun e w' => e = .returned (.bool (hcB t p)) ∧ Below w.heap.size w w' := by
  induction t using Tm.ind with
  | h s l ih =>
    intro tv pv w X ht hp
    obtain ⟨a, c, rfl, hs⟩ := ht
    obtain ⟨a2, c2, rfl, hs2⟩ := hp
    have IH := hide ih
    have HS := hide hs
    have HS2 := hide hs2
    have HEQ := hide (hcB_eq s l p)
    clear ih hs hs2
    dsimp only
    have HB2 : Hid (Below w.heap.size w ((w.alloc (.cells #[.string s, .slice a l.length c] 25)).alloc (.cells #[.string p.name, .slice a2 p.args.length c2] 25))) := below2 _ _
    have PA := hide ((Blk.new w #[.string s, .slice a l.length c] 25).alloc (.cells #[.string p.name, .slice a2 p.args.length c2] 25))
    have PB : Hid (Blk ((w.alloc (.cells #[.string s, .slice a l.length c] 25)).alloc (.cells #[.string p.name, .slice a2 p.args.length c2] 25)) (w.heap.size + 1) #[.string p.name, .slice a2 p.args.length c2] 25) := by
      have h := Blk.new (w.alloc (.cells #[.string s, .slice a l.length c] 25)) #[.string p.name, .slice a2 p.args.length c2] 25
      unfold Hid
      simpa using h
    have hmf : ∀ (fn : Fn) (first cap : Array Value) (w : World), (Instr.makeFunc fn first cap).run Try.prog w = .ok (.func fn first cap) w := fun _ _ _ _ => rfl
    go_enter Try.func39, Try.ntmps39
    go_wp2_with fail
    generalize (w.alloc (.cells #[.string s, .slice a l.length c] 25)).alloc (.cells #[.string p.name, .slice a2 p.args.length c2] 25) = w2 at *
    refine (isCase_any ⟨s, l⟩ p _ _ w2 X ⟨_, _, rfl, HS.out.later HB2.out⟩ ⟨_, _, rfl, HS2.out.later HB2.out⟩).mono ?_
    rintro e w3 ⟨rfl, hb3⟩
    have HB3 := hide (HB2.out.trans (hb3.mono HB2.out.size))
    have PA3 := hide (PA.out.below hb3 PA.out.lt)
    have PB3 := hide (PB.out.below hb3 PB.out.lt)
    clear hb3
    cases hm : mtB p ⟨s, l⟩ with
    | true =>
      have HF : Hid (true = hcB ⟨s, l⟩ p) := by unfold Hid; rw [HEQ.out, hm]; rfl
      go_wp2_with fail
      go_ret
      exact ⟨ret_bool HF.out, HB3.out⟩
    | false =>
      have HF : Hid (hcL p l = hcB ⟨s, l⟩ p) := by unfold Hid; rw [HEQ.out, hm]; rfl
      have a1 : w3.cell? ⟨w.heap.size, 1, none⟩ = some (.slice a l.length c) := PA3.out.cell 1
      have CF := hide (containsFunc_of (w.heap.size + 1) p l a c w3 X (HS.out.later HB3.out) (fun x hx a' c' w' hb' hsx => by
        have PBx := hide (PB3.out.below hb' PB3.out.lt)
        have b0 : ∀ o, (w'.alloc o).cell? ⟨w.heap.size + 1, 0, none⟩ = some (.string p.name) := fun o => (PBx.out.alloc o).cell 0
        have b1 : ∀ o, (w'.alloc o).cell? ⟨w.heap.size + 1, 1, none⟩ = some (.slice a2 p.args.length c2) := fun o => (PBx.out.alloc o).cell 1
        have IHX := hide (IH.out x hx (.agg #[.string x.name, .slice a' x.args.length c']) (.agg #[.string p.name, .slice a2 p.args.length c2]) (w'.alloc (.cells #[.string x.name, .slice a' x.args.length c'] 25)) X ⟨_, _, rfl, hsx.later ((Below.refl _ _).alloc (Nat.le_refl _) _)⟩ ⟨_, _, rfl, ((HS2.out.later HB3.out).later hb').later ((Below.refl _ _).alloc (Nat.le_refl _) _)⟩)
        clear hsx hb'
        go_enter Try.func68, Try.ntmps68
        go_wp2_with fail
        refine IHX.out.mono ?_
        rintro e w1 ⟨rfl, hb1⟩
        have HB1 := hide (((Below.refl w'.heap.size w').alloc (Nat.le_refl _) _).trans (hb1.mono (by simp)))
        clear hb1
        go_wp2_with fail
        go_ret
        exact ⟨rfl, HB1.out⟩))
      go_wp2_with fail
      refine CF.out.mono ?_
      rintro e w4 ⟨rfl, hb4⟩
      have HB4 := hide (HB3.out.trans (hb4.mono HB3.out.size))
      clear hb4
      go_wp2_with fail
      go_ret
      exact ⟨ret_bool HF.out, HB4.out⟩
#print axioms hasCase_any
end Go.Proofs.Ytpjdkdebjkpmmaj


/- Walks: Match, Variant, Encompasses, whole. -/
namespace Go.Proofs.Ytpjdkdebjkpmmaj
open Go.RowKit
set_option linter.unusedSimpArgs false
set_option linter.unusedVariables false
set_option maxRecDepth 8000

theorem mtT_size_one {p t : Tm} {h h' : List Bd} {n : Nat} (ih : ∀ ts g g', mtL p.args ts g = some g' → sizeL ts ≤ n → (∀ d ∈ g, sizeL [d.t] ≤ n) → ∀ d ∈ g', sizeL [d.t] ≤ n) (he : mtT p t h = some h') (ht : sizeL [t] ≤ n) (ha : ∀ d ∈ h, sizeL [d.t] ≤ n) : ∀ d ∈ h', sizeL [d.t] ≤ n := by
  unfold mtT at he
  split at he
  · split at he
    · split at he
      · cases he; exact ha
      · cases he
    · cases he
      intro d hd
      rcases List.mem_append.1 hd with hd | hd
      · exact ha d hd
      · have e : d = ⟨p.name, t⟩ := by simpa using hd
        rw [e]; exact ht
  · split at he
    · refine ih _ _ _ he ?_ ha
      obtain ⟨s2, m⟩ := t
      simp [sizeL] at ht ⊢
      omega
    · cases he
theorem mtL_size {n : Nat} : ∀ (l ts : List Tm) (h h' : List Bd), mtL l ts h = some h' → sizeL ts ≤ n → (∀ d ∈ h, sizeL [d.t] ≤ n) → ∀ d ∈ h', sizeL [d.t] ≤ n := by
  intro l
  induction l using Tm.indL with
  | h0 => intro ts h h' he _ ha; simp [mtL] at he; subst he; exact ha
  | h s l r ihl ihr =>
    intro ts h h' he ht ha
    cases ts with
    | nil => simp [mtL] at he
    | cons t ts =>
      rw [mtL_cons] at he
      have e1 : sizeL (t :: ts) = sizeL [t] + sizeL ts := by obtain ⟨s2, m⟩ := t; simp [sizeL]
      rw [e1] at ht
      cases hm : mtT ⟨s, l⟩ t h with
      | none => rw [hm] at he; cases he
      | some g =>
        rw [hm] at he
        exact ihr ts g h' he (by omega) (mtT_size_one (p := ⟨s, l⟩) (fun ts g g' h3 h4 h5 => ihl ts g g' h3 h4 h5) hm (by omega) ha)
theorem mtT_size {p t : Tm} {h' : List Bd} (he : mtT p t [] = some h') : ∀ d ∈ h', sizeL [d.t] ≤ sizeL [t] :=
  mtT_size_one (fun ts g g' h3 h4 h5 => mtL_size p.args ts g g' h3 h4 h5) he (Nat.le_refl _) (by simp)
theorem twoE_parts {p t : Tm} (h : twoE p t = 0) : mayE p = 0 ∧ mayE t = 0 := by
  unfold twoE at h
  split at h
  · exact ⟨‹_›, h⟩
  · exact absurd h ‹_›
theorem mayE_size {t : Tm} (h : mayE t = 0) : sizeL [t] ≤ 200 := by
  unfold mayE at h
  split at h
  · cases h
  · omega

def MaPost (w : World) (p t : Tm) (e : Ending) (w' : World) : Prop :=
  Below w.heap.size w w' ∧ ((twoE p t ≠ 0 ∧ e = .returned (.tuple #[.slice none 0 0, .bool false, .int .i64 (twoE p t)])) ∨ (twoE p t = 0 ∧ mtT p t [] = none ∧ e = .returned (.tuple #[.slice none 0 0, .bool false, .int .i64 0])) ∨
    (twoE p t = 0 ∧ ∃ h' v l', mtT p t [] = some h' ∧ e = .returned (.tuple #[v, .bool true, .int .i64 0]) ∧ BV w' (fun b => w.heap.size ≤ b) v l' ∧ l'.Perm h' ∧ SortedB l'))

set_option maxHeartbeats 400000 in
theorem match_any (p t : Tm) (pv tv : Value) (w : World) (X : Nat → Prop) (hp : TV w X pv p) (ht : TV w X tv t) :
    Calls Try.prog 13 #[pv, tv] w fun e w' => MaPost w p t e w' := by
  obtain ⟨a, c, rfl, hs⟩ := hp
  obtain ⟨a2, c2, rfl, hs2⟩ := ht
  have HS := hide hs
  have HS2 := hide hs2
  clear hs hs2
  have HB2 : Hid (Below w.heap.size w ((w.alloc (.cells #[.string p.name, .slice a p.args.length c] 25)).alloc (.cells #[.string t.name, .slice a2 t.args.length c2] 25))) := below2 _ _
  have PA := hide ((Blk.new w #[.string p.name, .slice a p.args.length c] 25).alloc (.cells #[.string t.name, .slice a2 t.args.length c2] 25))
  have PB : Hid (Blk ((w.alloc (.cells #[.string p.name, .slice a p.args.length c] 25)).alloc (.cells #[.string t.name, .slice a2 t.args.length c2] 25)) (w.heap.size + 1) #[.string t.name, .slice a2 t.args.length c2] 25) := by
    have h := Blk.new (w.alloc (.cells #[.string p.name, .slice a p.args.length c] 25)) #[.string t.name, .slice a2 t.args.length c2] 25
    unfold Hid
    simpa using h
  go_enter Try.func13, Try.ntmps13
  go_wp2_with fail
  generalize (w.alloc (.cells #[.string p.name, .slice a p.args.length c] 25)).alloc (.cells #[.string t.name, .slice a2 t.args.length c2] 25) = w2 at *
  refine (mcheck_any p t _ _ w2 X ⟨_, _, rfl, HS.out.later HB2.out⟩ ⟨_, _, rfl, HS2.out.later HB2.out⟩).mono ?_
  rintro e w3 ⟨rfl, hb3⟩
  have HB3 := hide (HB2.out.trans (hb3.mono HB2.out.size))
  have PA3 := hide (PA.out.below hb3 PA.out.lt)
  have PB3 := hide (PB.out.below hb3 PB.out.lt)
  clear hb3
  by_cases h : twoE p t = 0
  case neg =>
    have HE := hide h
    have h2 : (twoE p t == 0) = false := by simpa using h
    clear h
    go_wp2_with fail
    refine bodyPost_ret (v := .tuple #[.slice none 0 0, .bool false, .int .i64 (twoE p t)]) (by simp [results, Try.results13, go_sem]) rfl ?_
    exact ⟨HB3.out, Or.inl ⟨HE.out, rfl⟩⟩
  have HE := hide h
  rw [h]
  clear h
  have a0 : w3.cell? ⟨w.heap.size, 0, none⟩ = some (.string p.name) := PA3.out.cell 0
  have a1 : w3.cell? ⟨w.heap.size, 1, none⟩ = some (.slice a p.args.length c) := PA3.out.cell 1
  have b0 : w3.cell? ⟨w.heap.size + 1, 0, none⟩ = some (.string t.name) := PB3.out.cell 0
  have b1 : w3.cell? ⟨w.heap.size + 1, 1, none⟩ = some (.slice a2 t.args.length c2) := PB3.out.cell 1
  go_wp2_with fail
  refine (fit_any p t _ _ w3 X ⟨_, _, rfl, HS.out.later HB3.out⟩ ⟨_, _, rfl, HS2.out.later HB3.out⟩).mono ?_
  rintro e w4 ⟨hb4, hc4⟩
  have HB4 := hide (HB3.out.trans (hb4.mono HB3.out.size))
  clear hb4 a0 a1 b0 b1
  rcases hc4 with ⟨h0, rfl⟩ | ⟨h', q, Z', h0, rfl, hz', hm'⟩
  · have H0 := hide h0
    clear h0
    go_wp2_with fail
    refine bodyPost_ret (v := .tuple #[.slice none 0 0, .bool false, .int .i64 0]) (by simp [results, Try.results13, go_sem]) rfl ?_
    exact ⟨HB4.out, Or.inr (Or.inl ⟨HE.out, H0.out, rfl⟩)⟩
  · have H0 := hide h0
    have HZ := hide hz'
    have HM := hide hm'
    obtain ⟨hmp, hmt⟩ := twoE_parts HE.out
    have hsz : ∀ x ∈ Z', sizeL [x.1.t] ≤ 1000000 := fun x hx => by
      have h1 := mtT_size h0 x.1 (by rw [← hz']; exact List.mem_map.2 ⟨x, hx, rfl⟩)
      have := mayE_size hmt
      omega
    have hap := mtT_apart h0 List.Pairwise.nil
    have hlen : Z'.length ≤ 1000000 := by
      have h1 := hap.2
      rw [← hz'] at h1
      have := mayE_size hmp
      simp at h1
      omega
    have hapz : ApartB (Z'.map (·.1)) := by rw [hz']; exact hap.1
    have HIO := hide (inOrder_of (hide sortBinds) Z' q w4 _ hm'.1 hm'.2 hsz hlen hapz)
    clear h0 hz' hm' hmp hmt hsz hap hlen hapz
    go_wp2_with fail
    refine HIO.out.mono ?_
    rintro e w5 ⟨v5, l5, rfl, hbv, hp5, hs5, hb5⟩
    have HBV := hide hbv
    have HP5 := hide hp5
    have HS5 := hide hs5
    have HB5 := hide (HB4.out.trans (hb5.mono HB4.out.size))
    have hz4 := HB4.out.size
    clear hbv hp5 hs5 hb5
    go_wp2_with fail
    refine bodyPost_ret (v := .tuple #[v5, .bool true, .int .i64 0]) (by simp [results, Try.results13, go_sem]) rfl ?_
    exact ⟨HB5.out, Or.inr (Or.inr ⟨HE.out, h', v5, l5, H0.out, rfl, HBV.out.mono fun b hb _ => by omega, by rw [← HZ.out]; exact HP5.out, HS5.out⟩)⟩

set_option maxHeartbeats 400000 in
theorem encompasses_any (t p : Tm) (tv pv : Value) (w : World) (X : Nat → Prop) (ht : TV w X tv t) (hp : TV w X pv p) :
    Calls Try.prog 15 #[tv, pv] w fun e w' => e = .returned (.tuple #[.bool (decide (twoE t p = 0) && hcB t p), .int .i64 (twoE t p)]) ∧ Below w.heap.size w w' := by
  obtain ⟨a, c, rfl, hs⟩ := ht
  obtain ⟨a2, c2, rfl, hs2⟩ := hp
  have HS := hide hs
  have HS2 := hide hs2
  clear hs hs2
  generalize hR : (.tuple #[.bool (decide (twoE t p = 0) && hcB t p), .int .i64 (twoE t p)] : Value) = R
  have HR := hide hR
  clear hR
  have HB2 : Hid (Below w.heap.size w ((w.alloc (.cells #[.string t.name, .slice a t.args.length c] 25)).alloc (.cells #[.string p.name, .slice a2 p.args.length c2] 25))) := below2 _ _
  have PA := hide ((Blk.new w #[.string t.name, .slice a t.args.length c] 25).alloc (.cells #[.string p.name, .slice a2 p.args.length c2] 25))
  have PB : Hid (Blk ((w.alloc (.cells #[.string t.name, .slice a t.args.length c] 25)).alloc (.cells #[.string p.name, .slice a2 p.args.length c2] 25)) (w.heap.size + 1) #[.string p.name, .slice a2 p.args.length c2] 25) := by
    have h := Blk.new (w.alloc (.cells #[.string t.name, .slice a t.args.length c] 25)) #[.string p.name, .slice a2 p.args.length c2] 25
    unfold Hid
    simpa using h
  go_enter Try.func15, Try.ntmps15
  go_wp2_with fail
  generalize (w.alloc (.cells #[.string t.name, .slice a t.args.length c] 25)).alloc (.cells #[.string p.name, .slice a2 p.args.length c2] 25) = w2 at *
  refine (mcheck_any t p _ _ w2 X ⟨_, _, rfl, HS.out.later HB2.out⟩ ⟨_, _, rfl, HS2.out.later HB2.out⟩).mono ?_
  rintro e w3 ⟨rfl, hb3⟩
  have HB3 := hide (HB2.out.trans (hb3.mono HB2.out.size))
  have PA3 := hide (PA.out.below hb3 PA.out.lt)
  have PB3 := hide (PB.out.below hb3 PB.out.lt)
  clear hb3
  by_cases h : twoE t p = 0
  case neg =>
    have hR1 : Hid (.tuple #[.bool false, .int .i64 (twoE t p)] = R) := by unfold Hid; rw [← HR.out]; simp [h]
    have h2 : (twoE t p == 0) = false := by simpa using h
    clear h
    go_wp2_with fail
    refine bodyPost_ret (v := .tuple #[.bool false, .int .i64 (twoE t p)]) (by simp [results, Try.results15, go_sem]) rfl ?_
    exact ⟨by rw [← hR1.out], HB3.out⟩
  have hR1 : Hid (.tuple #[.bool (hcB t p), .int .i64 0] = R) := by unfold Hid; rw [← HR.out, h]; simp
  rw [h]
  clear h
  have a0 : w3.cell? ⟨w.heap.size, 0, none⟩ = some (.string t.name) := PA3.out.cell 0
  have a1 : w3.cell? ⟨w.heap.size, 1, none⟩ = some (.slice a t.args.length c) := PA3.out.cell 1
  have b0 : w3.cell? ⟨w.heap.size + 1, 0, none⟩ = some (.string p.name) := PB3.out.cell 0
  have b1 : w3.cell? ⟨w.heap.size + 1, 1, none⟩ = some (.slice a2 p.args.length c2) := PB3.out.cell 1
  go_wp2_with fail
  refine (hasCase_any p t _ _ w3 X ⟨_, _, rfl, HS.out.later HB3.out⟩ ⟨_, _, rfl, HS2.out.later HB3.out⟩).mono ?_
  rintro e w4 ⟨rfl, hb4⟩
  have HB4 := hide (HB3.out.trans (hb4.mono HB3.out.size))
  clear hb4
  go_wp2_with fail
  refine bodyPost_ret (v := .tuple #[.bool (hcB t p), .int .i64 0]) (by simp [results, Try.results15, go_sem]) rfl ?_
  exact ⟨by rw [← hR1.out], HB4.out⟩
#print axioms match_any
#print axioms encompasses_any
end Go.Proofs.Ytpjdkdebjkpmmaj


/- Walks: what stands for itself is struck out of a map. -/
namespace Go.Proofs.Ytpjdkdebjkpmmaj
open Go.RowKit
set_option linter.unusedSimpArgs false
set_option linter.unusedVariables false
set_option maxRecDepth 8000

/-- A binding of which something is seen. -/
def keepB (d : Bd) : Bool := !(d.t.name.toList == d.nm.toList)

theorem mapGet_toP {Z : List Bc} (ha : ApartB (Z.map (·.1))) : ∀ x ∈ Z, mapGet (Z.map toP) x.1.nm = some (toP x).2 := by
  induction Z with
  | nil => intro x hx; cases hx
  | cons y r ih =>
    intro x hx
    simp only [List.map_cons] at ha ⊢
    obtain ⟨h1, h2⟩ := List.pairwise_cons.1 ha
    rcases List.mem_cons.1 hx with rfl | hx
    · simp [mapGet, toP]
    · have hne : y.1.nm ≠ x.1.nm := h1 x.1 (List.mem_map.2 ⟨x, hx, rfl⟩)
      rw [mapGet, if_neg (by simpa [toP] using hne)]
      exact ih h2 x hx
theorem delP_toP {Z : List Bc} (ha : ApartB (Z.map (·.1))) : ∀ x ∈ Z, ∃ Z' : List Bc, delP (Z.map toP) x.1.nm = Z'.map toP ∧ Z.Perm (x :: Z') := by
  induction Z with
  | nil => intro x hx; cases hx
  | cons y r ih =>
    intro x hx
    simp only [List.map_cons] at ha ⊢
    obtain ⟨h1, h2⟩ := List.pairwise_cons.1 ha
    rcases List.mem_cons.1 hx with rfl | hx
    · exact ⟨r, by simp [delP, toP], List.Perm.refl _⟩
    · have hne : y.1.nm ≠ x.1.nm := h1 x.1 (List.mem_map.2 ⟨x, hx, rfl⟩)
      obtain ⟨Z', h3, h4⟩ := ih h2 x hx
      refine ⟨y :: Z', ?_, (h4.cons y).trans (List.Perm.swap x y Z')⟩
      rw [delP, if_neg (by simpa [toP] using hne), h3]; rfl

def DfInv (w : World) (Z : List Bc) (b : Nat) (wr : World) : Prop :=
  ∃ Zc Zr K : List Bc, RangeAt wr b w.heap.size (Zc.map toP) (Zr.map toP) ∧ Zc.Perm (K ++ Zr) ∧ (K ++ Zr.filter (fun x => keepB x.1)).Perm (Z.filter fun x => keepB x.1) ∧ ApartB (Zc.map (·.1)) ∧ w.grownBy wr (some b)

end Go.Proofs.Ytpjdkdebjkpmmaj


/- Walks: Then. -/
namespace Go.Proofs.Ytpjdkdebjkpmmaj
open Go.RowKit
set_option linter.unusedSimpArgs false
set_option linter.unusedVariables false
set_option maxRecDepth 8000

theorem pairsL_Z {w : World} {X : Nat → Prop} : ∀ {ls : List Bd} {L : List (ByteArray × Value)}, PairsL w X ls L → ∃ Z : List Bc, L = Z.map toP ∧ Z.map (·.1) = ls ∧ ∀ x ∈ Z, Sl w X x.2.1 x.1.t.args
  | [], L, h => by
    have e : L = [] := h
    subst e
    exact ⟨[], rfl, rfl, by simp⟩
  | d :: r, L, h => by
    obtain ⟨a, c, L', rfl, h1, h2⟩ := h
    obtain ⟨Z, rfl, e, h3⟩ := pairsL_Z h2
    refine ⟨(d, a, c) :: Z, rfl, by simp [e], fun x hx => ?_⟩
    rcases List.mem_cons.1 hx with rfl | hx
    · exact h1
    · exact h3 x hx

/-- A binding with another list of them in its term. -/
def fB (rs : List Bd) (d : Bd) : Bd := ⟨d.nm, fT rs d.t⟩
/-- Is one of the terms too great? -/
def fullB (ls rs : List Bd) : Bool := ls.any fun d => decide (2000 < sizeL [fT rs d.t])
theorem fullB_yes {ls rs : List Bd} {k : Nat} (h : k < ls.length) (h0 : 2000 < sizeL [fT rs ls[k].t]) : fullB ls rs = true := by
  unfold fullB
  rw [List.any_eq_true]
  exact ⟨ls[k], List.getElem_mem h, by simpa using h0⟩
theorem fullB_no {ls rs : List Bd} (h : ∀ d ∈ ls, sizeL [fT rs d.t] ≤ 2000) : fullB ls rs = false := by
  unfold fullB
  rw [List.any_eq_false]
  intro d hd
  have := h d hd
  simp; omega
/-- Both, before what stands for itself is struck. -/
def bothB (ls rs : List Bd) : List Bd := ls.map (fB rs) ++ rs.filter fun d => (forT ls d.nm).isNone
def ThPost (w : World) (ls rs : List Bd) (e : Ending) (w' : World) : Prop :=
  Below w.heap.size w w' ∧ ((bindsE ls ≠ 0 ∧ e = .returned (.tuple #[.slice none 0 0, .int .i64 (bindsE ls)])) ∨ (bindsE ls = 0 ∧ bindsE rs ≠ 0 ∧ e = .returned (.tuple #[.slice none 0 0, .int .i64 (bindsE rs)])) ∨
    (bindsE ls = 0 ∧ bindsE rs = 0 ∧ fullB ls rs = true ∧ e = .returned (.tuple #[.slice none 0 0, .int .i64 8])) ∨
    (bindsE ls = 0 ∧ bindsE rs = 0 ∧ fullB ls rs = false ∧ ∃ v ls', e = .returned (.tuple #[v, .int .i64 0]) ∧ BV w' (fun b => w.heap.size ≤ b) v ls' ∧ ls'.Perm ((bothB ls rs).filter keepB) ∧ SortedB ls'))

theorem bindsE_sorted {ls : List Bd} (h : bindsE ls = 0) : SortedB ls := by
  unfold SortedB
  rw [List.pairwise_iff_getElem]
  intro i j hi hj hij
  obtain ⟨e, rfl⟩ : ∃ e, j = i + 1 + e := ⟨j - (i + 1), by omega⟩
  have h1 := bindsE_far h i e hj
  unfold leB at h1
  simp only [Bool.or_eq_false_iff] at h1
  cases h2 : ltB ls[i].nm ls[i + 1 + e].nm with
  | true => rfl
  | false =>
    have e2 := ltB_conn h2 h1.1
    rw [e2] at h1
    simp at h1
theorem mapGet_no {Z : List Bc} {n : ByteArray} (h : ∀ x ∈ Z, x.1.nm ≠ n) : mapGet (Z.map toP) n = none := by
  induction Z with
  | nil => rfl
  | cons y r ih =>
    rw [List.map_cons, mapGet, if_neg (by simpa [toP] using h y (by simp))]
    exact ih fun x hx => h x (by simp [hx])
/-- What the region of the first loop leaves. -/
def ThB (w4 : World) (P : Nat) (s : ByteArray) (a : Option Addr) (n c : Nat) (l0 : List Tm) (w9 : World) : Prop := Blk w9 P #[.string s, .slice a n c] 25 ∧ Below w4.heap.size w4 w9 ∧ Sl w9 (fun b => w4.heap.size ≤ b) a l0
theorem thB_set {w4 w8 : World} {P Q n c : Nat} {s : ByteArray} {a : Option Addr} {l0 : List Tm} (hP : Blk w8 P #[.string ⟨#[]⟩, .slice none 0 0] 25) (hw : w4.heap.size ≤ P) (hb : Below w4.heap.size w4 w8) (hs : Sl w8 (fun b => Q ≤ b) a l0) (hQ : P < Q) :
    ThB w4 P s a n c l0 ((w8.setCell ⟨P, 0, none⟩ (.string s)).setCell ⟨P, 1, none⟩ (.slice a n c)) :=
  ⟨(hP.set 0 _).set 1 _, (hb.setCell (by simpa using hw) _).setCell (by simpa using hw) _, (hs.kept fun b hb => by
    rw [Below.heap_setCell _ _ _ _ (by simp; omega), Below.heap_setCell _ _ _ _ (by simp; omega)]).mono fun b hb _ => by omega⟩
/-- What is known in the first loop. -/
def T1Inv (w3 : World) (ls rs : List Bd) (v : Value) (wr : World) : Prop :=
  ∃ (k : Nat) (Z : List Bc), v = .int .i64 (k : Int) ∧ k ≤ ls.length ∧ MapAt wr w3.heap.size (Z.map toP) ∧ Z.map (·.1) = (ls.take k).map (fB rs) ∧ (∀ x ∈ Z, Sl wr (fun b => w3.heap.size < b) x.2.1 x.1.t.args) ∧ (∀ d ∈ ls.take k, sizeL [fT rs d.t] ≤ 2000) ∧ Below w3.heap.size w3 wr

/-- What is known in the second loop. -/
def T2Inv (w3 w5 : World) (q I : Nat) (ls : List Bd) (Z Zq : List Bc) (wr : World) : Prop :=
  ∃ Zr K Zb : List Bc, RangeAt wr q I (Zq.map toP) (Zr.map toP) ∧ Zq.Perm (K ++ Zr) ∧ MapAt wr w3.heap.size (Zb.map toP) ∧ Zb.Perm (Z ++ K.filter fun x => (forT ls x.1.nm).isNone) ∧ ApartB (Zb.map (·.1)) ∧ Below w3.heap.size w3 wr ∧ (∀ b, b < I → b ≠ w3.heap.size → wr.heap[b]? = w5.heap[b]?)
theorem bindsE_len {ls : List Bd} (h : bindsE ls = 0) : ls.length ≤ 40 := by
  unfold bindsE at h
  split at h
  · cases h
  · omega
end Go.Proofs.Ytpjdkdebjkpmmaj

/- What matching an instance finds: plain. -/
namespace Go.Proofs.Ytpjdkdebjkpmmaj
open Go.RowKit
set_option linter.unusedSimpArgs false
set_option linter.unusedVariables false

theorem eqL_refl : ∀ l : List Tm, eqL l l = true := by
  intro l
  induction l using Tm.indL with
  | h0 => simp [eqL]
  | h s l r ihl ihr => simp [eqL, ihl, ihr]
theorem sameB_refl (t : Tm) : sameB t t = true := by simp [sameB, eqL_refl]

/-- What stands there is what the bindings put for it. -/
def Con (ls h : List Bd) : Prop := ∀ d ∈ h, d.t = onT ls ⟨d.nm, []⟩
theorem forT_inB {h : List Bd} {s : ByteArray} : (forT h s).isSome = inB s (h.map (·.nm)) := by
  induction h with
  | nil => rfl
  | cons d r ih =>
    by_cases e : d.nm = s
    · simp [forT, inB, e]
    · have hb := bytes_no e
      simp only [forT, e, if_false, List.map_cons, inB, List.any_cons, hb, Bool.false_or]
      exact ih
theorem onT_sym {ls : List Bd} (h : bindsE ls = 0) {s : ByteArray} (hs : varB s = false) (l : List Tm) : onT ls ⟨s, l⟩ = ⟨s, onL ls l⟩ := by
  refine onT_deep (Or.inr ?_)
  cases hf : forT ls s with
  | none => rfl
  | some x => rw [(forT_var h hf).1] at hs; cases hs

theorem mtL_on {ls : List Bd} (hE : bindsE ls = 0) : ∀ (l : List Tm) (h : List Bd), errL l = 0 → Con ls h → ∃ h', mtL l (onL ls l) h = some h' ∧ Con ls h' ∧ h'.map (·.nm) = varsP (h.map (·.nm)) (preL l) := by
  intro l
  induction l using Tm.indL with
  | h0 => intro h _ hc; exact ⟨h, by simp [mtL, onL], hc, by simp [varsP, preL]⟩
  | h s l r ihl ihr =>
    intro h he hc
    obtain ⟨h1, h2, h3⟩ := errL_parts he
    have key : ∃ g, mtT ⟨s, l⟩ (onT ls ⟨s, l⟩) h = some g ∧ Con ls g ∧ g.map (·.nm) = varsP (h.map (·.nm)) (⟨s, l⟩ :: preL l) := by
      cases hv : varB s with
      | true =>
        have hl := h1 hv
        subst hl
        cases hf : forT h s with
        | some x =>
          obtain ⟨d, hd, hn, ht⟩ := forT_mem hf
          have hx : x = onT ls ⟨s, []⟩ := by rw [← ht, hc d hd, hn]
          refine ⟨h, ?_, hc, ?_⟩
          · rw [mtT_old hv hf, hx, if_pos (sameB_refl _)]
          · have hin : inB s (h.map (·.nm)) = true := by rw [← forT_inB, hf]; rfl
            show _ = varsP (addV (h.map (·.nm)) s) (preL [])
            rw [addV_in hv hin]
            simp [varsP, preL]
        | none =>
          refine ⟨h ++ [⟨s, onT ls ⟨s, []⟩⟩], mtT_new hv hf, fun d hd => ?_, ?_⟩
          · rcases List.mem_append.1 hd with hd | hd
            · exact hc d hd
            · have e : d = ⟨s, onT ls ⟨s, []⟩⟩ := by simpa using hd
              rw [e]
          · have hin : inB s (h.map (·.nm)) = false := by rw [← forT_inB, hf]; rfl
            show _ = varsP (addV (h.map (·.nm)) s) (preL [])
            rw [addV_yes hv hin]
            simp [varsP, preL]
      | false =>
        obtain ⟨g, g1, g2, g3⟩ := ihl h h2 hc
        refine ⟨g, ?_, g2, ?_⟩
        · rw [onT_sym hE hv, mtT_deep hv (by simp) (onL_length ls l).symm]
          exact g1
        · show _ = varsP (addV (h.map (·.nm)) s) (preL l)
          rw [addV_no hv]
          exact g3
    obtain ⟨g, g1, g2, g3⟩ := key
    obtain ⟨h', k1, k2, k3⟩ := ihr g h3 g2
    refine ⟨h', ?_, k2, ?_⟩
    · rw [onL_cons, mtL_cons, g1]
      exact k1
    · rw [k3, g3, preL]
      rw [show (⟨s, l⟩ :: (preL l ++ preL r) : List Tm) = (⟨s, l⟩ :: preL l) ++ preL r from rfl, varsP_append]
theorem mtT_on {ls : List Bd} (hE : bindsE ls = 0) {p : Tm} (he : errL [p] = 0) : ∃ h', mtT p (onT ls p) [] = some h' ∧ Con ls h' ∧ h'.map (·.nm) = varsP [] (preL [p]) := by
  obtain ⟨h', h1, h2, h3⟩ := mtL_on hE [p] [] he (by intro d hd; cases hd)
  refine ⟨h', ?_, h2, h3⟩
  rw [onL_cons, mtL_cons] at h1
  cases hm : mtT p (onT ls p) [] with
  | none => rw [hm] at h1; cases h1
  | some g => rw [hm] at h1; simpa [mtL] using h1

#print axioms mtT_on
end Go.Proofs.Ytpjdkdebjkpmmaj

/- Walks: numbers out of raw numbers. -/
namespace Go.Proofs.Ytpjdkdebjkpmmaj
open Go.RowKit
set_option linter.unusedSimpArgs false
set_option linter.unusedVariables false
set_option maxRecDepth 8000

theorem mod_nat {x : Int} (hx : 0 ≤ x) {n : Nat} (hn : 0 < n) : ∃ k : Nat, x % (n : Int) = k ∧ k < n := by
  have h1 := Int.emod_nonneg x (b := (n : Int)) (by omega)
  have h2 := Int.emod_lt_of_pos x (b := (n : Int)) (by omega)
  exact ⟨(x % (n : Int)).toNat, by omega, by omega⟩

theorem pick_any (c : Int) (n : Nat) (hn : 0 < n) (hn2 : n ≤ 2000000) (hc : -9223372036854775808 ≤ c ∧ c ≤ 9223372036854775807) (w : World) :
    Calls Try.prog 9 #[.int .i64 c, .int .i64 (n : Int)] w fun e w' => ∃ k : Nat, e = .returned (.int .i64 (k : Int)) ∧ k < n ∧ w' = w := by
  go_enter Try.func9, Try.ntmps9
  by_cases h : c < 0
  · go_wp2_with fail
    go_ret
    obtain ⟨k, hk, hkn⟩ := mod_nat (x := -(c + 1)) (by omega) hn
    refine ⟨k, ?_, hkn, rfl⟩
    have h1 : -(c + 1).tmod (n : Int) = k := by rw [← Int.neg_tmod, Int.tmod_eq_emod_of_nonneg (by omega)]; exact hk
    simp [h1]
  · go_wp2_with fail
    go_ret
    obtain ⟨k, hk, hkn⟩ := mod_nat (x := c) (by omega) hn
    exact ⟨k, by simp [hk], hkn, rfl⟩

def pickN (c : Int) (n : Nat) : Nat := if c < 0 then (-(c + 1) % (n : Int)).toNat else (c % (n : Int)).toNat
theorem pickN_lt (c : Int) (n : Nat) (hn : 0 < n) : pickN c n < n := by
  unfold pickN
  split
  · obtain ⟨k, hk, hkn⟩ := mod_nat (x := -(c + 1)) (by omega) hn
    rw [hk]; simpa using hkn
  · obtain ⟨k, hk, hkn⟩ := mod_nat (x := c) (by omega) hn
    rw [hk]; simpa using hkn

theorem pick_eq (c : Int) (n : Nat) (hn : 0 < n) (hn2 : n ≤ 2000000) (hc : -9223372036854775808 ≤ c ∧ c ≤ 9223372036854775807) (w : World) :
    Calls Try.prog 9 #[.int .i64 c, .int .i64 (n : Int)] w fun e w' => e = .returned (.int .i64 (pickN c n : Int)) ∧ w' = w := by
  go_enter Try.func9, Try.ntmps9
  by_cases h : c < 0
  · have HK : Hid (((pickN c n : Nat) : Int) = -(c + 1).tmod (n : Int)) := by
      obtain ⟨k, hk, hkn⟩ := mod_nat (x := -(c + 1)) (by omega) hn
      have h1 : -(c + 1).tmod (n : Int) = k := by rw [← Int.neg_tmod, Int.tmod_eq_emod_of_nonneg (by omega)]; exact hk
      unfold Hid pickN
      rw [h1, if_pos h, hk]; simp
    go_wp2_with fail
    go_ret
    exact ⟨by simp [HK.out], rfl⟩
  · have HK : Hid (((pickN c n : Nat) : Int) = c % (n : Int)) := by
      obtain ⟨k, hk, hkn⟩ := mod_nat (x := c) (by omega) hn
      unfold Hid pickN
      rw [if_neg h, hk]; simp
    go_wp2_with fail
    go_ret
    exact ⟨by simp [HK.out], rfl⟩

theorem wrapI (x : Int) (h : -9223372036854775808 ≤ x ∧ x ≤ 9223372036854775807) : IntKind.i64.wrap x = x := by
  rw [IntKind.wrap_i64]; omega

def Rng (z : Int) : Prop := -9223372036854775808 ≤ z ∧ z ≤ 9223372036854775807

set_option maxHeartbeats 1000000 in
theorem raw_any (zs : List Int) (u : Value) (w : World) (X : Nat → Prop) (hu : PV w X u zs) (hr : ∀ z ∈ zs, Rng z) (i : Nat) (hi : i ≤ 1000000) (hzl : zs.length ≤ 1000000) :
    Calls Try.prog 30 #[u, .int .i64 (i : Int)] w fun e w' => ∃ k : Nat, e = .returned (.int .i64 (k : Int)) ∧ k ≤ 100000000000 ∧ Below w.heap.size w w' := by
  obtain ⟨a, c, rfl, hl, h⟩ := hu
  by_cases h0 : zs.length = 0
  · go_enter Try.func30, Try.ntmps30
    go_wp2_with fail
    go_ret
    exact ⟨i * 31, by simp, by omega, Below.refl _ _⟩
  · rcases h with h | ⟨b, o, rfl, hX, hc⟩
    · subst h; simp at h0
    · have hpos : 0 < zs.length := by omega
      obtain ⟨m, hm, hlt⟩ := mod_nat (x := (i : Int)) (by omega) hpos
      obtain ⟨d, hd, hdl⟩ : ∃ d : Nat, (i : Int) / (zs.length : Int) = d ∧ d ≤ i := ⟨i / zs.length, by simp, Nat.div_le_self _ _⟩
      have hm2 : (i : Int).tmod (zs.length : Int) = m := by rw [Int.tmod_eq_emod_of_nonneg (by omega)]; exact hm
      have hd2 : (i : Int).tdiv (zs.length : Int) = d := by rw [Int.tdiv_eq_ediv_of_nonneg (by omega)]; exact hd
      have hcc := hc m hlt
      have hrg := hr _ (List.getElem_mem hlt)
      generalize zs[m] = z at *
      have hm0 : (0 : Int) ≤ (m : Int) := by omega
      have hm1 : (m : Int) < (zs.length : Int) := by omega
      clear hc hr
      go_enter Try.func30, Try.ntmps30
      go_wp2_with fail
      go_region_held3 (fun w' => w'.cell? ⟨b, o + m, none⟩ = some (.int .i64 z)) (first | exact hcc | go_keep)
        ((go_at_call 9; refine (pick_any z 1000003 (by decide) (by decide) hrg _).mono ?_; rintro e w1 ⟨k, rfl, hk, rfl⟩))
      go_wp2_with fail
      go_ret
      refine ⟨k + d * 7919, by simp [wrapI (d : Int) (by omega), wrapI ((d : Int) * 7919) (by omega), wrapI ((k : Int) + (d : Int) * 7919) (by omega)], by omega, ?_⟩
      exact (Below.refl _ _).drew
#print axioms raw_any
#print axioms pick_any
end Go.Proofs.Ytpjdkdebjkpmmaj

/- Walks: terms out of raw numbers. -/
namespace Go.Proofs.Ytpjdkdebjkpmmaj
open Go.RowKit
set_option linter.unusedSimpArgs false
set_option linter.unusedVariables false
set_option maxRecDepth 8000

theorem leaf_any (s : ByteArray) (w : World) :
    Calls Try.prog 16 #[.string s] w fun e w' => e = .returned (.agg #[.string s, .slice none 0 0]) ∧ Below w.heap.size w w' := by
  go_enter Try.func16, Try.ntmps16
  go_wp2_with fail
  have hb := Blk.new w #[.string s, .slice none 0 0] 25
  have c0 := hb.cell 0
  have c1 := hb.cell 1
  refine bodyPost_ret (v := .agg #[.string s, .slice none 0 0]) (by simp [results, Try.results16, go_sem, c0, c1]) rfl ⟨rfl, (Below.refl _ _).alloc (Nat.le_refl _) _⟩

/-- How many knots at the most. -/
def top (m : Nat) : Nat := if m < 3 then 1 else 2 * m - 1

def GrowPost (w : World) (i m : Nat) (e : Ending) (w' : World) : Prop :=
  ∃ (a : Option Addr) (c n : Nat) (t : Tm), e = .returned (.tuple #[.agg #[.string t.name, .slice a t.args.length c], .int .i64 (n : Int)]) ∧ Sl w' (fun b => w.heap.size ≤ b) a t.args ∧ t.args.length ≤ c ∧ c ≤ 9223372036854775807 ∧ sizeL [t] ≤ top m ∧ i ≤ n ∧ n ≤ i + top m ∧ Below w.heap.size w w' ∧ errL [t] = 0

theorem top_pos (m : Nat) : 1 ≤ top m := by unfold top; split <;> omega

theorem top_step {m : Nat} (h : 3 ≤ m + 1) : top m + 1 ≤ top (m + 1) := by unfold top; split <;> split <;> omega

theorem top_half {m h : Nat} (hm : 3 ≤ m + 1) (hh : h = (m + 1) / 2) : 2 * top h + 1 ≤ top (m + 1) := by unfold top; split <;> split <;> omega

theorem err_leaf {s : ByteArray} (h : nameB s = true) : errL [(⟨s, []⟩ : Tm)] = 0 := by simp [errL, h]
theorem err_node {s : ByteArray} {l : List Tm} (h : nameB s = true) (hv : varB s = false) (hl : errL l = 0) : errL [(⟨s, l⟩ : Tm)] = 0 := by simp [errL, h, hv, hl]

theorem grow_leaf {w w' : World} {s : ByteArray} {i m : Nat} (hes : errL [(⟨s, []⟩ : Tm)] = 0) (hb : Below w.heap.size w w') : GrowPost w i m (.returned (.tuple #[.agg #[.string s, .slice none 0 0], .int .i64 ((i : Int) + 1)])) w' := by
  have := top_pos m
  exact ⟨none, 0, i + 1, ⟨s, []⟩, by simp, ⟨by simp, Or.inl rfl⟩, by simp, by omega, by simp [sizeL]; omega, by omega, by omega, hb, hes⟩

theorem pick_cell (w : World) (l : List ByteArray) (T k : Nat) (hl : ∀ s ∈ l, nameB s = true) (hk : k < l.length) : ∃ s, errL [(⟨s, []⟩ : Tm)] = 0 ∧ (w.alloc (.cells (l.map Value.string).toArray T)).cell? ⟨w.heap.size, k, none⟩ = some (.string s) := by
  have h := heap_alloc_new w (.cells (l.map Value.string).toArray T)
  exact ⟨l[k], err_leaf (hl _ (List.getElem_mem hk)), by rw [Lib.cell_of_heap h]; simp [hk]⟩

theorem sl_one {w : World} {X Z : Nat → Prop} {B : Nat} {t : Tm} {a : Option Addr} {c T : Nat} (hb : w.heap[B]? = some (.cells #[.string t.name, .slice a t.args.length c] T (0, 0))) (hB : X B) (hs : Sl w Z a t.args) (hZ : ∀ b, Z b → b < w.heap.size → X b) : Sl w X (some ⟨B, 0, none⟩) [t] := by
  refine ⟨by simp, Or.inr ⟨B, 0, rfl, lies_mk _ _ _ fun i hi => ?_⟩⟩
  simp at hi
  subst hi
  exact ⟨hB, by simp [World.cell?, hb], a, c, by simp [World.cell?, hb], hs.mono hZ⟩

theorem grow_one {w w5 : World} {Z : Nat → Prop} {s : ByteArray} {i m n T : Nat} {a5 : Option Addr} {c5 : Nat} {t5 : Tm} {v0 v1 : Value} {o1 : Obj} (hB : Below w.heap.size w w5) (hlt : w.heap.size < w5.heap.size) (hs : Sl w5 Z a5 t5.args) (hZ : ∀ b, Z b → w.heap.size < b) (hz : sizeL [t5] ≤ top m) (hm : 3 ≤ m + 1) (hn : i ≤ n) (hn' : n ≤ i + 1 + top m) (hes : errL [(⟨s, [t5]⟩ : Tm)] = 0) :
    GrowPost w i (m + 1) (.returned (.tuple #[.agg #[.string s, .slice (some ⟨w5.heap.size + 1, 0, none⟩) 1 1], .int .i64 (n : Int)])) ((((w5.setCell ⟨w.heap.size, 0, none⟩ v0).setCell ⟨w.heap.size, 1, none⟩ v1).alloc o1).alloc (.cells #[.string t5.name, .slice a5 t5.args.length c5] T)) := by
  have ht := top_step hm
  have hb0 : Below w.heap.size w (((w5.setCell ⟨w.heap.size, 0, none⟩ v0).setCell ⟨w.heap.size, 1, none⟩ v1).alloc o1) := ((hB.setCell (by simp) _).setCell (by simp) _).alloc (by simp [World.setCell]; omega) _
  refine ⟨some ⟨w5.heap.size + 1, 0, none⟩, 1, n, ⟨s, [t5]⟩, rfl, ?_, by simp, by omega, by simp [sizeL] at hz ⊢; omega, hn, by omega, hb0.alloc hb0.size _, hes⟩
  have hnew := heap_alloc_new (((w5.setCell ⟨w.heap.size, 0, none⟩ v0).setCell ⟨w.heap.size, 1, none⟩ v1).alloc o1) (.cells #[.string t5.name, .slice a5 t5.args.length c5] T)
  have e : (((w5.setCell ⟨w.heap.size, 0, none⟩ v0).setCell ⟨w.heap.size, 1, none⟩ v1).alloc o1).heap.size = w5.heap.size + 1 := by simp [World.setCell]
  rw [e] at hnew
  refine sl_one hnew (by omega) ((hs.mono (Y := fun b => Z b ∧ b < w5.heap.size) fun b h1 h2 => ⟨h1, h2⟩).kept (w' := _) fun b hb => ?_) (fun b hb _ => by have := hZ b hb.1; omega)
  have := hZ b hb.1
  rw [Below.heap_alloc _ _ _ (by rw [e]; omega), Below.heap_alloc _ _ _ (by simp [World.setCell]; omega), Below.heap_setCell _ _ _ _ (by simp; omega), Below.heap_setCell _ _ _ _ (by simp; omega)]

section
variable {P : Program} {ops : Array Oper} {Q : Exit → Act → World → Prop} {md : Region.Mode}
/-- A stronger condition held does as well. -/
theorem held_mono {S S' : World → Prop} (h : ∀ w, S' w → S w) : ∀ (fuel : Nat) (listed : Array Bool) (a : Act) (w : World), wpAnyH P md ops Q S' fuel listed a w → wpAnyH P md ops Q S fuel listed a w
  | 0, _, _, _, H => H
  | fuel + 1, listed, a, w, H => ⟨H.1, fun i hi => wpOp_mono (fun a' w' hh => ⟨h _ hh.1, held_mono h fuel _ a' w' hh.2⟩) (H.2 i hi)⟩
end

def TwoS (w5 w6 : World) (t5 t6 : Tm) (a5 a6 : Option Addr) (c5 c6 : Nat) (w' : World) : Prop :=
  Blk w' w5.heap.size #[.string t5.name, .slice a5 t5.args.length c5] 25 ∧ Blk w' w6.heap.size #[.string t6.name, .slice a6 t6.args.length c6] 25
def TwoF (w5 w6 : World) (t5 t6 : Tm) (a5 a6 : Option Addr) (c5 c6 : Nat) (b : Nat) (w' : World) : Prop :=
  TwoS w5 w6 t5 t6 a5 a6 c5 c6 w' ∧ Blk w' b #[.string ⟨#[102]⟩, .string ⟨#[103]⟩] 9
theorem TwoS.alloc {w5 w6 : World} {t5 t6 : Tm} {a5 a6 : Option Addr} {c5 c6 : Nat} {w' : World} (h : TwoS w5 w6 t5 t6 a5 a6 c5 c6 w') (o : Obj) : TwoS w5 w6 t5 t6 a5 a6 c5 c6 (w'.alloc o) := ⟨h.1.alloc o, h.2.alloc o⟩
theorem TwoF.alloc {w5 w6 : World} {t5 t6 : Tm} {a5 a6 : Option Addr} {c5 c6 b : Nat} {w' : World} (h : TwoF w5 w6 t5 t6 a5 a6 c5 c6 b w') (o : Obj) : TwoF w5 w6 t5 t6 a5 a6 c5 c6 b (w'.alloc o) := ⟨h.1.alloc o, h.2.alloc o⟩

theorem blk_at {w : World} {n : Nat} (h : w.heap.size = n) (cs : Array Value) (T : Nat) : Blk (w.alloc (.cells cs T)) n cs T := h ▸ Blk.new w cs T
theorem two_endA {w5 w6 : World} {t5 t6 : Tm} {a5 a6 : Option Addr} {c5 c6 b : Nat} (v0 v1 : Value) (A : Obj) (hX : Blk w6 w5.heap.size #[.string t5.name, .slice a5 t5.args.length c5] 25) (hne : w5.heap.size ≠ b) :
    TwoF w5 w6 t5 t6 a5 a6 c5 c6 (w6.heap.size + 1) (((((w6.setCell ⟨b, 0, none⟩ v0).setCell ⟨b, 1, none⟩ v1).alloc (.cells #[.string t6.name, .slice a6 t6.args.length c6] 25)).alloc (.cells #[.string ⟨#[102]⟩, .string ⟨#[103]⟩] 9)).alloc A) :=
  ⟨⟨(((((hX.setOther 0 v0 hne).setOther 1 v1 hne).alloc _).alloc _).alloc _), ((blk_at (by simp [World.setCell]) _ _).alloc _).alloc _⟩, (blk_at (by simp [World.setCell]) _ _).alloc _⟩
theorem two_endB {w5 w6 : World} {t5 t6 : Tm} {a5 a6 : Option Addr} {c5 c6 b : Nat} (v0 v1 : Value) (A : Obj) (hX : Blk w6 w5.heap.size #[.string t5.name, .slice a5 t5.args.length c5] 25) (hne : w5.heap.size ≠ b) :
    TwoF w5 w6 t5 t6 a5 a6 c5 c6 (w6.heap.size + 1 + 1) (((((w6.setCell ⟨b, 0, none⟩ v0).setCell ⟨b, 1, none⟩ v1).alloc (.cells #[.string t6.name, .slice a6 t6.args.length c6] 25)).alloc A).alloc (.cells #[.string ⟨#[102]⟩, .string ⟨#[103]⟩] 9)) :=
  ⟨⟨(((((hX.setOther 0 v0 hne).setOther 1 v1 hne).alloc _).alloc _).alloc _), ((blk_at (by simp [World.setCell]) _ _).alloc _).alloc _⟩, (blk_at (by simp [World.setCell]) _ _)⟩

theorem sl_two {w : World} {X Z5 Z6 : Nat → Prop} {B : Nat} {t5 t6 : Tm} {a5 a6 : Option Addr} {c5 c6 T : Nat} (hb : Blk w B #[.string t5.name, .slice a5 t5.args.length c5, .string t6.name, .slice a6 t6.args.length c6] T) (hB : X B) (h5 : Sl w Z5 a5 t5.args) (h6 : Sl w Z6 a6 t6.args) (hZ5 : ∀ b, Z5 b → b < w.heap.size → X b) (hZ6 : ∀ b, Z6 b → b < w.heap.size → X b) : Sl w X (some ⟨B, 0, none⟩) [t5, t6] := by
  refine ⟨by simp, Or.inr ⟨B, 0, rfl, lies_mk _ _ _ fun i hi => ?_⟩⟩
  have h01 : i = 0 ∨ i = 1 := by simp at hi; omega
  rcases h01 with rfl | rfl
  · exact ⟨hB, hb.cell 0, a5, c5, hb.cell 1, h5.mono hZ5⟩
  · exact ⟨hB, hb.cell 2, a6, c6, hb.cell 3, h6.mono hZ6⟩

theorem two_world {w w6 : World} {Z : Nat → Prop} {a : Option Addr} {l : List Tm} {v0 v1 : Value} {o1 o2 o3 : Obj} (hs : Sl w6 Z a l) (hZ : ∀ b, Z b → w.heap.size < b) : Sl (((((w6.setCell ⟨w.heap.size, 0, none⟩ v0).setCell ⟨w.heap.size, 1, none⟩ v1).alloc o1).alloc o2).alloc o3).drew (fun b => Z b ∧ b < w6.heap.size) a l := by
  refine (hs.mono (Y := fun b => Z b ∧ b < w6.heap.size) fun b h1 h2 => ⟨h1, h2⟩).kept fun b hb => ?_
  have := hZ b hb.1
  show ((((((w6.setCell ⟨w.heap.size, 0, none⟩ v0).setCell ⟨w.heap.size, 1, none⟩ v1).alloc o1).alloc o2).alloc o3)).heap[b]? = w6.heap[b]?
  rw [Below.heap_alloc _ _ _ (by simp [World.setCell]; omega), Below.heap_alloc _ _ _ (by simp [World.setCell]; omega), Below.heap_alloc _ _ _ (by simp [World.setCell]; omega), Below.heap_setCell _ _ _ _ (by simp; omega), Below.heap_setCell _ _ _ _ (by simp; omega)]

theorem grow_two {w w6 : World} {Z5 Z6 : Nat → Prop} {s : ByteArray} {i m n T bA : Nat} {a5 a6 : Option Addr} {c5 c6 : Nat} {t5 t6 : Tm} {v0 v1 : Value} {o1 o2 o3 : Obj} (hB : Below w.heap.size w w6) (hlt : w.heap.size < w6.heap.size) (h5 : Sl w6 Z5 a5 t5.args) (h6 : Sl w6 Z6 a6 t6.args) (hZ5 : ∀ b, Z5 b → w.heap.size < b) (hZ6 : ∀ b, Z6 b → w.heap.size < b) (hbig : i ≤ n ∧ n ≤ i + top (m + 1) ∧ sizeL [t5] + sizeL [t6] + 1 ≤ top (m + 1)) (hes : errL [(⟨s, [t5, t6]⟩ : Tm)] = 0) (hbA : w6.heap.size < bA)
    (hA : Blk (((((w6.setCell ⟨w.heap.size, 0, none⟩ v0).setCell ⟨w.heap.size, 1, none⟩ v1).alloc o1).alloc o2).alloc o3).drew bA #[.string t5.name, .slice a5 t5.args.length c5, .string t6.name, .slice a6 t6.args.length c6] T) :
    GrowPost w i (m + 1) (.returned (.tuple #[.agg #[.string s, .slice (some ⟨bA, 0, none⟩) 2 2], .int .i64 (n : Int)])) (((((w6.setCell ⟨w.heap.size, 0, none⟩ v0).setCell ⟨w.heap.size, 1, none⟩ v1).alloc o1).alloc o2).alloc o3).drew := by
  have hb0 : Below w.heap.size w (((((w6.setCell ⟨w.heap.size, 0, none⟩ v0).setCell ⟨w.heap.size, 1, none⟩ v1).alloc o1).alloc o2).alloc o3) := ((((hB.setCell (by simp) _).setCell (by simp) _).alloc (by simp [World.setCell]; omega) _).alloc (by simp [World.setCell]; omega) _).alloc (by simp [World.setCell]; omega) _
  refine ⟨some ⟨bA, 0, none⟩, 2, n, ⟨s, [t5, t6]⟩, rfl, ?_, by simp, by omega, ?_, hbig.1, hbig.2.1, hb0.drew, hes⟩
  · exact sl_two hA (by omega) (two_world h5 hZ5) (two_world h6 hZ6) (fun b hb _ => by have := hZ5 b hb.1; omega) (fun b hb _ => by have := hZ6 b hb.1; omega)
  · have := hbig.2.2
    have e : sizeL [t5, t6] = sizeL [t5] + sizeL [t6] := sizeL_append [t5] [t6]
    have e2 : sizeL [⟨s, [t5, t6]⟩] = 1 + sizeL [t5, t6] := by simp [sizeL]
    omega

theorem two_up {w5 w6 : World} {t5 t6 : Tm} {a5 a6 : Option Addr} {c5 c6 b : Nat} {w' : World} (h : TwoS w5 w6 t5 t6 a5 a6 c5 c6 w') (hF : Blk w' b #[.string ⟨#[102]⟩, .string ⟨#[103]⟩] 9) : TwoF w5 w6 t5 t6 a5 a6 c5 c6 b w' := ⟨h, hF⟩

set_option maxHeartbeats 8000000 in
theorem grow_any (nv : Nat) (hnv : 1 ≤ nv) (hnv4 : nv ≤ 4) (zs : List Int) (hr : ∀ z ∈ zs, Rng z) (hzl : zs.length ≤ 1000000) : ∀ (m i : Nat) (u : Value) (w : World) (X : Nat → Prop), PV w X u zs → m ≤ 100 → i + top m ≤ 1000 →
    Calls Try.prog 27 #[u, .int .i64 (i : Int), .int .i64 (m : Int), .int .i64 (nv : Int)] w fun e w' => GrowPost w i m e w' := by
  have hnvI : (0 : Int) < (nv : Int) := by omega
  intro m
  induction m using Nat.strongRecOn with
  | ind m ih =>
    intro i u w X hu hm hi
    have IH := hide ih
    clear ih
    have HU := hide hu
    clear hu
    go_enter Try.func27, Try.ntmps27
    go_wp2_with fail
    refine (raw_any zs _ _ X (by exact HU.out.alloc _) hr i (by omega) hzl).mono ?_
    rintro e w1 ⟨c, rfl, hc, hb1⟩
    have B1 := hide (((Below.refl w.heap.size w).alloc (Nat.le_refl _) (.cells #[.string ⟨#[]⟩, .slice none 0 0] 25)).trans (hb1.mono (by simp)))
    have R1 := hide ((Blk.new w #[.string ⟨#[]⟩, .slice none 0 0] 25).below hb1 (by simp))
    clear hb1
    by_cases h3 : m < 3
    · go_wp2_with fail
      refine (pick_any _ 3 (by decide) (by decide) ⟨by omega, by omega⟩ _).mono ?_
      rintro e w2 ⟨k2, rfl, hk2, rfl⟩
      by_cases h2 : 0 < k2
      · go_wp2_with fail
        refine (pick_any _ nv (by omega) (by omega) ⟨by omega, by omega⟩ _).mono ?_
        rintro e w3 ⟨k3, rfl, hk3, rfl⟩
        obtain ⟨s5, hes5, hs5⟩ := pick_cell w2 [⟨#[88]⟩, ⟨#[89]⟩, ⟨#[90]⟩, ⟨#[85]⟩] 9 k3 (by decide) (show k3 < 4 by omega)
        have hs6 : (w2.alloc (.cells #[.string ⟨#[88]⟩, .string ⟨#[89]⟩, .string ⟨#[90]⟩, .string ⟨#[85]⟩] 9)).cell? ⟨w2.heap.size, k3, none⟩ = some (.string s5) := hs5
        have hk4 : (k3 : Int) < 4 := by omega
        clear hs5
        go_wp2_with fail
        refine (leaf_any _ _).mono ?_
        rintro e w4 ⟨rfl, hb4⟩
        have R4 := hide ((R1.out.alloc _).below hb4 (by have := R1.out.lt; simp; omega))
        have B4 := hide ((B1.out.alloc B1.out.size _).trans (hb4.mono (by have := B1.out.size; simp; omega)))
        clear hb4 hs6
        have r0 : w4.cell? ⟨w.heap.size, 0, none⟩ = some (.string ⟨#[]⟩) := R4.out.cell 0
        have r1 : w4.cell? ⟨w.heap.size, 1, none⟩ = some (.slice none 0 0) := R4.out.cell 1
        have rf := R4.out.frozen
        go_wp2_with fail
        have q0 := ((R4.out.set 0 (.string s5)).set 1 (.slice none 0 0)).cell 0
        have q1 := ((R4.out.set 0 (.string s5)).set 1 (.slice none 0 0)).cell 1
        refine bodyPost_ret (v := .tuple #[.agg #[.string s5, .slice none 0 0], .int .i64 ((i : Int) + 1)]) (by simp [results, Try.results27, go_sem, q0, q1, World.cell?_setCell_same, World.cell?_setCell_other, r0, r1]) rfl ?_
        exact grow_leaf hes5 ((B4.out.setCell (by simp) _).setCell (by simp) _)
      · go_wp2_with fail
        refine (pick_any _ 3 (by decide) (by decide) ⟨by omega, by omega⟩ _).mono ?_
        rintro e w3 ⟨k3, rfl, hk3, rfl⟩
        obtain ⟨s5, hes5, hs5⟩ := pick_cell w2 [⟨#[97]⟩, ⟨#[98]⟩, ⟨#[99]⟩] 9 k3 (by decide) hk3
        have hs6 : (w2.alloc (.cells #[.string ⟨#[97]⟩, .string ⟨#[98]⟩, .string ⟨#[99]⟩] 9)).cell? ⟨w2.heap.size, k3, none⟩ = some (.string s5) := hs5
        have hk4 : (k3 : Int) < 3 := by omega
        clear hs5
        go_wp2_with fail
        refine (leaf_any _ _).mono ?_
        rintro e w4 ⟨rfl, hb4⟩
        have R4 := hide ((R1.out.alloc _).below hb4 (by have := R1.out.lt; simp; omega))
        have B4 := hide ((B1.out.alloc B1.out.size _).trans (hb4.mono (by have := B1.out.size; simp; omega)))
        clear hb4 hs6
        have r0 : w4.cell? ⟨w.heap.size, 0, none⟩ = some (.string ⟨#[]⟩) := R4.out.cell 0
        have r1 : w4.cell? ⟨w.heap.size, 1, none⟩ = some (.slice none 0 0) := R4.out.cell 1
        have rf := R4.out.frozen
        go_wp2_with fail
        have q0 := ((R4.out.set 0 (.string s5)).set 1 (.slice none 0 0)).cell 0
        have q1 := ((R4.out.set 0 (.string s5)).set 1 (.slice none 0 0)).cell 1
        refine bodyPost_ret (v := .tuple #[.agg #[.string s5, .slice none 0 0], .int .i64 ((i : Int) + 1)]) (by simp [results, Try.results27, go_sem, q0, q1, World.cell?_setCell_same, World.cell?_setCell_other, r0, r1]) rfl ?_
        exact grow_leaf hes5 ((B4.out.setCell (by simp) _).setCell (by simp) _)
    · go_wp2_with fail
      refine (pick_any _ 5 (by decide) (by decide) ⟨by omega, by omega⟩ _).mono ?_
      rintro e w1b ⟨k1, rfl, hk1, rfl⟩
      by_cases h1 : k1 < 2
      · go_wp2_with fail
        refine (pick_any _ 3 (by decide) (by decide) ⟨by omega, by omega⟩ _).mono ?_
        rintro e w2 ⟨k2, rfl, hk2, rfl⟩
        by_cases h2 : 0 < k2
        · go_wp2_with fail
          refine (pick_any _ nv (by omega) (by omega) ⟨by omega, by omega⟩ _).mono ?_
          rintro e w3 ⟨k3, rfl, hk3, rfl⟩
          obtain ⟨s5, hes5, hs5⟩ := pick_cell w2 [⟨#[88]⟩, ⟨#[89]⟩, ⟨#[90]⟩, ⟨#[85]⟩] 9 k3 (by decide) (show k3 < 4 by omega)
          have hs6 : (w2.alloc (.cells #[.string ⟨#[88]⟩, .string ⟨#[89]⟩, .string ⟨#[90]⟩, .string ⟨#[85]⟩] 9)).cell? ⟨w2.heap.size, k3, none⟩ = some (.string s5) := hs5
          have hk4 : (k3 : Int) < 4 := by omega
          clear hs5
          go_wp2_with fail
          refine (leaf_any _ _).mono ?_
          rintro e w4 ⟨rfl, hb4⟩
          have R4 := hide ((R1.out.alloc _).below hb4 (by have := R1.out.lt; simp; omega))
          have B4 := hide ((B1.out.alloc B1.out.size _).trans (hb4.mono (by have := B1.out.size; simp; omega)))
          clear hb4 hs6
          have r0 : w4.cell? ⟨w.heap.size, 0, none⟩ = some (.string ⟨#[]⟩) := R4.out.cell 0
          have r1 : w4.cell? ⟨w.heap.size, 1, none⟩ = some (.slice none 0 0) := R4.out.cell 1
          have rf := R4.out.frozen
          go_wp2_with fail
          have q0 := ((R4.out.set 0 (.string s5)).set 1 (.slice none 0 0)).cell 0
          have q1 := ((R4.out.set 0 (.string s5)).set 1 (.slice none 0 0)).cell 1
          refine bodyPost_ret (v := .tuple #[.agg #[.string s5, .slice none 0 0], .int .i64 ((i : Int) + 1)]) (by simp [results, Try.results27, go_sem, q0, q1, World.cell?_setCell_same, World.cell?_setCell_other, r0, r1]) rfl ?_
          exact grow_leaf hes5 ((B4.out.setCell (by simp) _).setCell (by simp) _)
        · go_wp2_with fail
          refine (pick_any _ 3 (by decide) (by decide) ⟨by omega, by omega⟩ _).mono ?_
          rintro e w3 ⟨k3, rfl, hk3, rfl⟩
          obtain ⟨s5, hes5, hs5⟩ := pick_cell w2 [⟨#[97]⟩, ⟨#[98]⟩, ⟨#[99]⟩] 9 k3 (by decide) hk3
          have hs6 : (w2.alloc (.cells #[.string ⟨#[97]⟩, .string ⟨#[98]⟩, .string ⟨#[99]⟩] 9)).cell? ⟨w2.heap.size, k3, none⟩ = some (.string s5) := hs5
          have hk4 : (k3 : Int) < 3 := by omega
          clear hs5
          go_wp2_with fail
          refine (leaf_any _ _).mono ?_
          rintro e w4 ⟨rfl, hb4⟩
          have R4 := hide ((R1.out.alloc _).below hb4 (by have := R1.out.lt; simp; omega))
          have B4 := hide ((B1.out.alloc B1.out.size _).trans (hb4.mono (by have := B1.out.size; simp; omega)))
          clear hb4 hs6
          have r0 : w4.cell? ⟨w.heap.size, 0, none⟩ = some (.string ⟨#[]⟩) := R4.out.cell 0
          have r1 : w4.cell? ⟨w.heap.size, 1, none⟩ = some (.slice none 0 0) := R4.out.cell 1
          have rf := R4.out.frozen
          go_wp2_with fail
          have q0 := ((R4.out.set 0 (.string s5)).set 1 (.slice none 0 0)).cell 0
          have q1 := ((R4.out.set 0 (.string s5)).set 1 (.slice none 0 0)).cell 1
          refine bodyPost_ret (v := .tuple #[.agg #[.string s5, .slice none 0 0], .int .i64 ((i : Int) + 1)]) (by simp [results, Try.results27, go_sem, q0, q1, World.cell?_setCell_same, World.cell?_setCell_other, r0, r1]) rfl ?_
          exact grow_leaf hes5 ((B4.out.setCell (by simp) _).setCell (by simp) _)
      · go_wp2_with fail
        refine (pick_eq ((c : Int) / 5) 4 (by decide) (by decide) ⟨by omega, by omega⟩ _).mono ?_
        rintro e w2 ⟨rfl, rfl⟩
        have hk4 := pickN_lt ((c : Int) / 5) 4 (by decide)
        generalize hke : pickN ((c : Int) / 5) 4 = k4 at *
        have HKE := hide hke
        clear hke
        obtain ⟨m, rfl⟩ : ∃ m', m = m' + 1 := ⟨m - 1, by omega⟩
        by_cases h40 : k4 = 0
        · subst h40
          go_wp2_with fail
          refine (IH.out m (by omega) (i + 1) _ _ X (by exact HU.out.later B1.out) (by omega) (by have := top_step (m := m) (by omega); omega)).mono ?_
          rintro e w5 ⟨a5, c5, n5, t5, rfl, hs5, hc5, hc5', hz5, hn5, hn5', hb5, he5⟩
          have R5 := hide (R1.out.below hb5 R1.out.lt)
          have B5 := hide (B1.out.trans (hb5.mono B1.out.size))
          have S5 := hide hs5
          have HE5 := hide he5
          clear he5
          have hlt5 : w.heap.size < w5.heap.size := R5.out.lt
          clear hb5 hs5
          have r0 : w5.cell? ⟨w.heap.size, 0, none⟩ = some (.string ⟨#[]⟩) := R5.out.cell 0
          have r1 : w5.cell? ⟨w.heap.size, 1, none⟩ = some (.slice none 0 0) := R5.out.cell 1
          have rf := R5.out.frozen
          go_wp2_with fail
          refine bodyPost_ret (v := .tuple #[.agg #[.string ⟨#[104]⟩, .slice (some ⟨w5.heap.size + 1, 0, none⟩) 1 1], .int .i64 (n5 : Int)]) (by simp [results, Try.results27, go_sem, World.cell?_setCell_same, World.cell?_setCell_other, r0, r1, hlt5, World.cell?_alloc_old]) rfl ?_
          exact grow_one B5.out hlt5 S5.out (fun b hb => Nat.lt_of_lt_of_le R1.out.lt hb) hz5 (by omega) (by omega) (by omega) (err_node (by decide) (by decide) HE5.out)
        · by_cases h41 : k4 = 1
          · subst h41
            go_wp2_with fail
            refine (IH.out m (by omega) (i + 1) _ _ X (by exact HU.out.later B1.out) (by omega) (by have := top_step (m := m) (by omega); omega)).mono ?_
            rintro e w5 ⟨a5, c5, n5, t5, rfl, hs5, hc5, hc5', hz5, hn5, hn5', hb5, he5⟩
            have R5 := hide (R1.out.below hb5 R1.out.lt)
            have B5 := hide (B1.out.trans (hb5.mono B1.out.size))
            have S5 := hide hs5
            have HE5 := hide he5
            clear he5
            have hlt5 : w.heap.size < w5.heap.size := R5.out.lt
            clear hb5 hs5
            have r0 : w5.cell? ⟨w.heap.size, 0, none⟩ = some (.string ⟨#[]⟩) := R5.out.cell 0
            have r1 : w5.cell? ⟨w.heap.size, 1, none⟩ = some (.slice none 0 0) := R5.out.cell 1
            have rf := R5.out.frozen
            go_wp2_with fail
            refine bodyPost_ret (v := .tuple #[.agg #[.string ⟨#[107]⟩, .slice (some ⟨w5.heap.size + 1, 0, none⟩) 1 1], .int .i64 (n5 : Int)]) (by simp [results, Try.results27, go_sem, World.cell?_setCell_same, World.cell?_setCell_other, r0, r1, hlt5, World.cell?_alloc_old]) rfl ?_
            exact grow_one B5.out hlt5 S5.out (fun b hb => Nat.lt_of_lt_of_le R1.out.lt hb) hz5 (by omega) (by omega) (by omega) (err_node (by decide) (by decide) HE5.out)
          · have h42 : 2 ≤ k4 := by omega
            obtain ⟨h, hh, hh2⟩ : ∃ h : Nat, ((m : Int) + 1) / 2 = h ∧ h = (m + 1) / 2 := ⟨(m + 1) / 2, by omega, rfl⟩
            have hth := top_half (m := m) (by omega) hh2
            have HH2 := hide hh2
            have hhb : h < m + 1 ∧ h ≤ 100 := by omega
            clear hh2
            go_wp2_with fail
            refine (IH.out h (by omega) (i + 1) _ _ X (by exact HU.out.later B1.out) (by omega) (by omega)).mono ?_
            rintro e w5 ⟨a5, c5, n5, t5, rfl, hs5, hc5, hc5', hz5, hn5, hn5', hb5, he5⟩
            have R5 := hide (R1.out.below hb5 R1.out.lt)
            have B5 := hide (B1.out.trans (hb5.mono B1.out.size))
            have S5 := hide hs5
            have HE5 := hide he5
            clear he5
            have X5 := hide (Blk.new w5 #[.string t5.name, .slice a5 t5.args.length c5] 25)
            have hlt5 : w.heap.size < w5.heap.size := R5.out.lt
            clear hb5 hs5
            go_wp2_with fail
            refine (IH.out h (by omega) n5 _ _ X (by exact HU.out.later (B5.out.alloc B5.out.size _)) (by omega) (by omega)).mono ?_
            rintro e w6 ⟨a6, c6, n6, t6, rfl, hs6, hc6, hc6', hz6, hn6, hn6', hb6, he6⟩
            have R6 := hide ((R5.out.alloc _).below hb6 (by simp; omega))
            have X6 := hide (X5.out.below hb6 (by simp))
            have B6 := hide ((B5.out.alloc B5.out.size _).trans (hb6.mono (by have := B5.out.size; simp; omega)))
            have S56 := hide ((S5.out.later ((Below.refl w5.heap.size w5).alloc (Nat.le_refl _) _)).later hb6)
            have S6 := hide hs6
            have HE6 := hide he6
            clear he6
            have hlt6 : w5.heap.size < w6.heap.size := X6.out.lt
            clear hb6 hs6
            go_wp2_with fail
            have Y6 := hide (Blk.new w6 #[.string t6.name, .slice a6 t6.args.length c6] 25)
            have x0 : ∀ o, (w6.alloc o).cell? ⟨w5.heap.size, 0, none⟩ = some (.string t5.name) := fun o => (X6.out.alloc o).cell 0
            have x1 : ∀ o, (w6.alloc o).cell? ⟨w5.heap.size, 1, none⟩ = some (.slice a5 t5.args.length c5) := fun o => (X6.out.alloc o).cell 1
            have y0 := Y6.out.cell 0
            have y1 := Y6.out.cell 1
            have r0 : w6.cell? ⟨w.heap.size, 0, none⟩ = some (.string ⟨#[]⟩) := R6.out.cell 0
            have r1 : w6.cell? ⟨w.heap.size, 1, none⟩ = some (.slice none 0 0) := R6.out.cell 1
            have rf := R6.out.frozen
            have HWR : Hid (IntKind.i64.wrap ((c : Int) / 5) = (c : Int) / 5) := wrapI _ ⟨by omega, by omega⟩
            have HPK : Hid (∀ w', Calls Try.prog 9 #[.int .i64 (IntKind.i64.wrap ((c : Int) / 5)), .int .i64 4] w' fun e w'' => e = .returned (.int .i64 (k4 : Int)) ∧ w'' = w') := fun w' => by
              have h1 := pick_eq ((c : Int) / 5) 4 (by decide) (by decide) ⟨by omega, by omega⟩ w'
              rw [HKE.out] at h1
              rw [HWR.out]
              exact h1
            have HBIG : Hid (i ≤ n6 ∧ n6 ≤ i + top (m + 1) ∧ sizeL [t5] + sizeL [t6] + 1 ≤ top (m + 1)) := ⟨by omega, by omega, by omega⟩
            have hw0 : IntKind.i64.wrap 0 = 0 := by decide
            have hw1 : IntKind.i64.wrap 1 = 1 := by decide
            have hlt56 : w.heap.size < w6.heap.size := by omega
            have hlt57 : w.heap.size < w6.heap.size + 1 := by omega
            have hlt58 : w.heap.size < w6.heap.size + 1 + 1 := by omega
            have r30 : ∀ o1 o2 o3, (((w6.alloc o1).alloc o2).alloc o3).cell? ⟨w.heap.size, 0, none⟩ = some (.string ⟨#[]⟩) := fun o1 o2 o3 => (((R6.out.alloc o1).alloc o2).alloc o3).cell 0
            have r31 : ∀ o1 o2 o3, (((w6.alloc o1).alloc o2).alloc o3).cell? ⟨w.heap.size, 1, none⟩ = some (.slice none 0 0) := fun o1 o2 o3 => (((R6.out.alloc o1).alloc o2).alloc o3).cell 1
            have r3f : ∀ o1 o2 o3 i, (((w6.alloc o1).alloc o2).alloc o3).frozen? ⟨w.heap.size, i, none⟩ = false := fun o1 o2 o3 => (((R6.out.alloc o1).alloc o2).alloc o3).frozen
            have HZ6 : Hid (∀ b, (w5.alloc (.cells #[.string t5.name, .slice a5 t5.args.length c5] 25)).heap.size ≤ b → w.heap.size < b) := fun b hb => by
              simp at hb
              omega
            obtain rfl | rfl : k4 = 2 ∨ k4 = 3 := by omega
            · clear hth hhb hh hn6 hn6' hz6 hz5 hn5 hn5' hc5 hc5' hc6 hc6' hi hm hc hr hzl h42 h41 h40 hk4 h1 hk1 h3
              have HS0 : TwoS w5 w6 t5 t6 a5 a6 c5 c6 (w6.alloc (.cells #[.string t6.name, .slice a6 t6.args.length c6] 25)).drew := ⟨X6.out.alloc _, Y6.out⟩
              refine wp_region_held_drew (S := TwoS w5 w6 t5 t6 a5 a6 c5 c6) (by kernel_rfl) HS0 (fun hHeld => ?_)
              refine wpAnyH_take (i := 1) (v := ?_) rfl (by kernel_rfl) (by kernel_rfl) (by kernel_rfl) (fun _ _ _ h => h) (Or.inl ⟨by rfl, ?_⟩) (by assumption) ?_
              rotate_left
              · intro w' hSw
                go_simp <;> with_reducible rfl
              try simp only [Act.put, List.setIfInBounds_toArray, List.set_cons_zero, List.set_cons_succ, List.getElem_toArray, List.getElem_cons_succ, List.getElem_cons_zero]
              refine wpAnyH_take (i := 2) (v := ?_) rfl (by kernel_rfl) (by kernel_rfl) (by kernel_rfl) (fun _ _ _ h => h) (Or.inl ⟨by rfl, ?_⟩) (by assumption) ?_
              rotate_left
              · intro w' hSw
                go_simp <;> with_reducible rfl
              try simp only [Act.put, List.setIfInBounds_toArray, List.set_cons_zero, List.set_cons_succ, List.getElem_toArray, List.getElem_cons_succ, List.getElem_cons_zero]
              refine wpAnyH_take (i := 7) (v := ?_) rfl (by kernel_rfl) (by kernel_rfl) (by kernel_rfl) (fun _ _ _ h => h) (Or.inl ⟨by rfl, ?_⟩) (by assumption) ?_
              rotate_left
              · intro w' hSw
                have k0 : w'.cell? ⟨w5.heap.size, 0, none⟩ = some (.string t5.name) := hSw.1.cell 0
                have k1 : w'.cell? ⟨w5.heap.size, 1, none⟩ = some (.slice a5 t5.args.length c5) := hSw.1.cell 1
                go_simp <;> with_reducible rfl
              try simp only [Act.put, List.setIfInBounds_toArray, List.set_cons_zero, List.set_cons_succ, List.getElem_toArray, List.getElem_cons_succ, List.getElem_cons_zero]
              refine wpAnyH_take (i := 8) (v := ?_) rfl (by kernel_rfl) (by kernel_rfl) (by kernel_rfl) (fun _ _ _ h => h) (Or.inl ⟨by rfl, ?_⟩) (by assumption) ?_
              rotate_left
              · intro w' hSw
                have k2 : w'.cell? ⟨w6.heap.size, 0, none⟩ = some (.string t6.name) := hSw.2.cell 0
                have k3 : w'.cell? ⟨w6.heap.size, 1, none⟩ = some (.slice a6 t6.args.length c6) := hSw.2.cell 1
                go_simp <;> with_reducible rfl
              try simp only [Act.put, List.setIfInBounds_toArray, List.set_cons_zero, List.set_cons_succ, List.getElem_toArray, List.getElem_cons_succ, List.getElem_cons_zero]
              refine wpAnyH_take (i := 11) (v := ?_) rfl (by kernel_rfl) (by kernel_rfl) (by kernel_rfl) (fun _ _ _ h => h) (Or.inl ⟨by rfl, ?_⟩) (by assumption) ?_
              rotate_left
              · intro w' hSw
                go_simp <;> with_reducible rfl
              try simp only [Act.put, List.setIfInBounds_toArray, List.set_cons_zero, List.set_cons_succ, List.getElem_toArray, List.getElem_cons_succ, List.getElem_cons_zero]
              refine wpAnyH_ready (rs := [0, 3, 9]) (by kernel_rfl) (by simp) ?_
              refine AllReadyH.cons rfl (fun K hK => ?_) (AllReadyH.cons rfl (fun K hK => ?_) (AllReadyH.cons rfl (fun K hK => ?_) AllReadyH.nil))
              · go_simp
                refine hK.out _ _ (by exact hHeld.alloc _) (fun hHeld => ?_)
                clear hK K
                try simp only [Act.put, List.setIfInBounds_toArray, List.set_cons_zero, List.set_cons_succ, List.getElem_toArray, List.getElem_cons_succ, List.getElem_cons_zero]
                refine held_mono (S' := TwoF w5 w6 t5 t6 a5 a6 c5 c6 (w6.heap.size + 1)) (fun _ h => h.1) _ _ _ _ ?_
                replace hHeld := two_up (b := w6.heap.size + 1) hHeld (by exact blk_at (w := w6.alloc (.cells #[.string t6.name, .slice a6 t6.args.length c6] 25)) (by simp) _ _)
                refine wpAnyH_ready (rs := [3, 9]) (by kernel_rfl) (by simp) ?_
                refine AllReadyH.cons rfl (fun K hK => ?_) (AllReadyH.cons rfl (fun K hK => ?_) AllReadyH.nil)
                · go_simp
                  go_at_call 9
                  refine (HPK.out _).mono ?_
                  rintro e w7 ⟨rfl, rfl⟩
                  go_simp
                  refine hK.out _ _ (by exact hHeld) (fun hHeld => ?_)
                  clear hK K
                  try simp only [Act.put, List.setIfInBounds_toArray, List.set_cons_zero, List.set_cons_succ, List.getElem_toArray, List.getElem_cons_succ, List.getElem_cons_zero]
                  refine wpAnyH_take (i := 4) (v := ?_) rfl (by kernel_rfl) (by kernel_rfl) (by kernel_rfl) (fun _ _ _ h => h) (Or.inl ⟨by rfl, ?_⟩) (by assumption) ?_
                  rotate_left
                  · intro w' hSw
                    go_simp <;> with_reducible rfl
                  try simp only [Act.put, List.setIfInBounds_toArray, List.set_cons_zero, List.set_cons_succ, List.getElem_toArray, List.getElem_cons_succ, List.getElem_cons_zero]
                  refine wpAnyH_take (i := 5) (v := ?_) rfl (by kernel_rfl) (by kernel_rfl) (by kernel_rfl) (fun _ _ _ h => h) (Or.inl ⟨by rfl, ?_⟩) (by assumption) ?_
                  rotate_left
                  · intro w' hSw
                    go_simp <;> with_reducible rfl
                  try simp only [Act.put, List.setIfInBounds_toArray, List.set_cons_zero, List.set_cons_succ, List.getElem_toArray, List.getElem_cons_succ, List.getElem_cons_zero]
                  refine wpAnyH_take (i := 6) (v := ?_) rfl (by kernel_rfl) (by kernel_rfl) (by kernel_rfl) (fun _ _ _ h => h) (Or.inl ⟨by rfl, ?_⟩) (by assumption) ?_
                  rotate_left
                  · intro w' hSw
                    have k4 : w'.cell? ⟨w6.heap.size + 1, 0, none⟩ = some (.string ⟨#[102]⟩) := hSw.2.cell 0
                    have k5 : w'.cell? ⟨w6.heap.size + 1, 1, none⟩ = some (.string ⟨#[103]⟩) := hSw.2.cell 1
                    go_simp <;> with_reducible rfl
                  try simp only [Act.put, List.setIfInBounds_toArray, List.set_cons_zero, List.set_cons_succ, List.getElem_toArray, List.getElem_cons_succ, List.getElem_cons_zero]
                  refine wpAnyH_ready (rs := [9]) (by kernel_rfl) (by simp) ?_
                  refine AllReadyH.cons rfl (fun K hK => ?_) AllReadyH.nil
                  · go_simp
                    refine hK.out _ _ (by exact hHeld.alloc _) (fun hHeld => ?_)
                    clear hK K
                    try simp only [Act.put, List.setIfInBounds_toArray, List.set_cons_zero, List.set_cons_succ, List.getElem_toArray, List.getElem_cons_succ, List.getElem_cons_zero]
                    refine wpAnyH_take (i := 10) (v := ?_) rfl (by kernel_rfl) (by kernel_rfl) (by kernel_rfl) (fun _ _ _ h => h) (Or.inl ⟨by rfl, ?_⟩) (by assumption) ?_
                    rotate_left
                    · intro w' hSw
                      go_simp <;> with_reducible rfl
                    try simp only [Act.put, List.setIfInBounds_toArray, List.set_cons_zero, List.set_cons_succ, List.getElem_toArray, List.getElem_cons_succ, List.getElem_cons_zero]
                    refine wpAnyH_ready (rs := [12]) (by kernel_rfl) (by simp) ?_
                    refine AllReadyH.cons rfl (fun K hK => ?_) AllReadyH.nil
                    · go_simp
                      refine hK.out _ _ (by exact two_endA _ _ _ X6.out (Nat.ne_of_gt hlt5)) (fun hHeld => ?_)
                      clear hK K
                      try simp only [Act.put, List.setIfInBounds_toArray, List.set_cons_zero, List.set_cons_succ, List.getElem_toArray, List.getElem_cons_succ, List.getElem_cons_zero]
                      refine wpAnyH_take (i := 13) (v := ?_) rfl (by kernel_rfl) (by kernel_rfl) (by kernel_rfl) (fun _ _ _ h => h) (Or.inl ⟨by rfl, ?_⟩) (by assumption) ?_
                      rotate_left
                      · intro w' hSw
                        go_simp <;> with_reducible rfl
                      try simp only [Act.put, List.setIfInBounds_toArray, List.set_cons_zero, List.set_cons_succ, List.getElem_toArray, List.getElem_cons_succ, List.getElem_cons_zero]
                      refine wpAnyH_done (by kernel_rfl) ?_ _
                      go_wp2_with fail
                      refine bodyPost_ret (v := .tuple #[.agg #[.string ⟨#[102]⟩, .slice (some ⟨w6.heap.size + 1 + 1, 0, none⟩) 2 2], .int .i64 (n6 : Int)]) (by simp [results, Try.results27, go_sem, World.cell?_setCell_same, World.cell?_setCell_other, r0, r1, hlt56, hlt57, hlt58, World.cell?_alloc_old]) rfl ?_
                      exact grow_two B6.out hlt56 S56.out S6.out (fun b hb => Nat.lt_of_lt_of_le R1.out.lt hb) HZ6.out HBIG.out (err_node (by decide) (by decide) (by rw [errL_cons, if_pos HE5.out]; exact HE6.out)) (by omega) (by exact blk_at (by simp [World.setCell]) _ _)
                · go_simp
                  refine hK.out _ _ (by exact hHeld.alloc _) (fun hHeld => ?_)
                  clear hK K
                  try simp only [Act.put, List.setIfInBounds_toArray, List.set_cons_zero, List.set_cons_succ, List.getElem_toArray, List.getElem_cons_succ, List.getElem_cons_zero]
                  refine wpAnyH_ready (rs := [3]) (by kernel_rfl) (by simp) ?_
                  refine AllReadyH.cons rfl (fun K hK => ?_) AllReadyH.nil
                  · go_simp
                    go_at_call 9
                    refine (HPK.out _).mono ?_
                    rintro e w7 ⟨rfl, rfl⟩
                    go_simp
                    refine hK.out _ _ (by exact hHeld) (fun hHeld => ?_)
                    clear hK K
                    try simp only [Act.put, List.setIfInBounds_toArray, List.set_cons_zero, List.set_cons_succ, List.getElem_toArray, List.getElem_cons_succ, List.getElem_cons_zero]
                    refine wpAnyH_take (i := 4) (v := ?_) rfl (by kernel_rfl) (by kernel_rfl) (by kernel_rfl) (fun _ _ _ h => h) (Or.inl ⟨by rfl, ?_⟩) (by assumption) ?_
                    rotate_left
                    · intro w' hSw
                      go_simp <;> with_reducible rfl
                    try simp only [Act.put, List.setIfInBounds_toArray, List.set_cons_zero, List.set_cons_succ, List.getElem_toArray, List.getElem_cons_succ, List.getElem_cons_zero]
                    refine wpAnyH_take (i := 5) (v := ?_) rfl (by kernel_rfl) (by kernel_rfl) (by kernel_rfl) (fun _ _ _ h => h) (Or.inl ⟨by rfl, ?_⟩) (by assumption) ?_
                    rotate_left
                    · intro w' hSw
                      go_simp <;> with_reducible rfl
                    try simp only [Act.put, List.setIfInBounds_toArray, List.set_cons_zero, List.set_cons_succ, List.getElem_toArray, List.getElem_cons_succ, List.getElem_cons_zero]
                    refine wpAnyH_take (i := 6) (v := ?_) rfl (by kernel_rfl) (by kernel_rfl) (by kernel_rfl) (fun _ _ _ h => h) (Or.inl ⟨by rfl, ?_⟩) (by assumption) ?_
                    rotate_left
                    · intro w' hSw
                      have k4 : w'.cell? ⟨w6.heap.size + 1, 0, none⟩ = some (.string ⟨#[102]⟩) := hSw.2.cell 0
                      have k5 : w'.cell? ⟨w6.heap.size + 1, 1, none⟩ = some (.string ⟨#[103]⟩) := hSw.2.cell 1
                      go_simp <;> with_reducible rfl
                    try simp only [Act.put, List.setIfInBounds_toArray, List.set_cons_zero, List.set_cons_succ, List.getElem_toArray, List.getElem_cons_succ, List.getElem_cons_zero]
                    refine wpAnyH_take (i := 10) (v := ?_) rfl (by kernel_rfl) (by kernel_rfl) (by kernel_rfl) (fun _ _ _ h => h) (Or.inl ⟨by rfl, ?_⟩) (by assumption) ?_
                    rotate_left
                    · intro w' hSw
                      go_simp <;> with_reducible rfl
                    try simp only [Act.put, List.setIfInBounds_toArray, List.set_cons_zero, List.set_cons_succ, List.getElem_toArray, List.getElem_cons_succ, List.getElem_cons_zero]
                    refine wpAnyH_ready (rs := [12]) (by kernel_rfl) (by simp) ?_
                    refine AllReadyH.cons rfl (fun K hK => ?_) AllReadyH.nil
                    · go_simp
                      refine hK.out _ _ (by exact two_endA _ _ _ X6.out (Nat.ne_of_gt hlt5)) (fun hHeld => ?_)
                      clear hK K
                      try simp only [Act.put, List.setIfInBounds_toArray, List.set_cons_zero, List.set_cons_succ, List.getElem_toArray, List.getElem_cons_succ, List.getElem_cons_zero]
                      refine wpAnyH_take (i := 13) (v := ?_) rfl (by kernel_rfl) (by kernel_rfl) (by kernel_rfl) (fun _ _ _ h => h) (Or.inl ⟨by rfl, ?_⟩) (by assumption) ?_
                      rotate_left
                      · intro w' hSw
                        go_simp <;> with_reducible rfl
                      try simp only [Act.put, List.setIfInBounds_toArray, List.set_cons_zero, List.set_cons_succ, List.getElem_toArray, List.getElem_cons_succ, List.getElem_cons_zero]
                      refine wpAnyH_done (by kernel_rfl) ?_ _
                      go_wp2_with fail
                      refine bodyPost_ret (v := .tuple #[.agg #[.string ⟨#[102]⟩, .slice (some ⟨w6.heap.size + 1 + 1, 0, none⟩) 2 2], .int .i64 (n6 : Int)]) (by simp [results, Try.results27, go_sem, World.cell?_setCell_same, World.cell?_setCell_other, r0, r1, hlt56, hlt57, hlt58, World.cell?_alloc_old]) rfl ?_
                      exact grow_two B6.out hlt56 S56.out S6.out (fun b hb => Nat.lt_of_lt_of_le R1.out.lt hb) HZ6.out HBIG.out (err_node (by decide) (by decide) (by rw [errL_cons, if_pos HE5.out]; exact HE6.out)) (by omega) (by exact blk_at (by simp [World.setCell]) _ _)
              · go_simp
                go_at_call 9
                refine (HPK.out _).mono ?_
                rintro e w7 ⟨rfl, rfl⟩
                go_simp
                refine hK.out _ _ (by exact hHeld) (fun hHeld => ?_)
                clear hK K
                try simp only [Act.put, List.setIfInBounds_toArray, List.set_cons_zero, List.set_cons_succ, List.getElem_toArray, List.getElem_cons_succ, List.getElem_cons_zero]
                refine wpAnyH_take (i := 4) (v := ?_) rfl (by kernel_rfl) (by kernel_rfl) (by kernel_rfl) (fun _ _ _ h => h) (Or.inl ⟨by rfl, ?_⟩) (by assumption) ?_
                rotate_left
                · intro w' hSw
                  go_simp <;> with_reducible rfl
                try simp only [Act.put, List.setIfInBounds_toArray, List.set_cons_zero, List.set_cons_succ, List.getElem_toArray, List.getElem_cons_succ, List.getElem_cons_zero]
                refine wpAnyH_ready (rs := [0, 9]) (by kernel_rfl) (by simp) ?_
                refine AllReadyH.cons rfl (fun K hK => ?_) (AllReadyH.cons rfl (fun K hK => ?_) AllReadyH.nil)
                · go_simp
                  refine hK.out _ _ (by exact hHeld.alloc _) (fun hHeld => ?_)
                  clear hK K
                  try simp only [Act.put, List.setIfInBounds_toArray, List.set_cons_zero, List.set_cons_succ, List.getElem_toArray, List.getElem_cons_succ, List.getElem_cons_zero]
                  refine held_mono (S' := TwoF w5 w6 t5 t6 a5 a6 c5 c6 (w6.heap.size + 1)) (fun _ h => h.1) _ _ _ _ ?_
                  replace hHeld := two_up (b := w6.heap.size + 1) hHeld (by exact blk_at (w := w6.alloc (.cells #[.string t6.name, .slice a6 t6.args.length c6] 25)) (by simp) _ _)
                  refine wpAnyH_take (i := 5) (v := ?_) rfl (by kernel_rfl) (by kernel_rfl) (by kernel_rfl) (fun _ _ _ h => h) (Or.inl ⟨by rfl, ?_⟩) (by assumption) ?_
                  rotate_left
                  · intro w' hSw
                    go_simp <;> with_reducible rfl
                  try simp only [Act.put, List.setIfInBounds_toArray, List.set_cons_zero, List.set_cons_succ, List.getElem_toArray, List.getElem_cons_succ, List.getElem_cons_zero]
                  refine wpAnyH_take (i := 6) (v := ?_) rfl (by kernel_rfl) (by kernel_rfl) (by kernel_rfl) (fun _ _ _ h => h) (Or.inl ⟨by rfl, ?_⟩) (by assumption) ?_
                  rotate_left
                  · intro w' hSw
                    have k4 : w'.cell? ⟨w6.heap.size + 1, 0, none⟩ = some (.string ⟨#[102]⟩) := hSw.2.cell 0
                    have k5 : w'.cell? ⟨w6.heap.size + 1, 1, none⟩ = some (.string ⟨#[103]⟩) := hSw.2.cell 1
                    go_simp <;> with_reducible rfl
                  try simp only [Act.put, List.setIfInBounds_toArray, List.set_cons_zero, List.set_cons_succ, List.getElem_toArray, List.getElem_cons_succ, List.getElem_cons_zero]
                  refine wpAnyH_ready (rs := [9]) (by kernel_rfl) (by simp) ?_
                  refine AllReadyH.cons rfl (fun K hK => ?_) AllReadyH.nil
                  · go_simp
                    refine hK.out _ _ (by exact hHeld.alloc _) (fun hHeld => ?_)
                    clear hK K
                    try simp only [Act.put, List.setIfInBounds_toArray, List.set_cons_zero, List.set_cons_succ, List.getElem_toArray, List.getElem_cons_succ, List.getElem_cons_zero]
                    refine wpAnyH_take (i := 10) (v := ?_) rfl (by kernel_rfl) (by kernel_rfl) (by kernel_rfl) (fun _ _ _ h => h) (Or.inl ⟨by rfl, ?_⟩) (by assumption) ?_
                    rotate_left
                    · intro w' hSw
                      go_simp <;> with_reducible rfl
                    try simp only [Act.put, List.setIfInBounds_toArray, List.set_cons_zero, List.set_cons_succ, List.getElem_toArray, List.getElem_cons_succ, List.getElem_cons_zero]
                    refine wpAnyH_ready (rs := [12]) (by kernel_rfl) (by simp) ?_
                    refine AllReadyH.cons rfl (fun K hK => ?_) AllReadyH.nil
                    · go_simp
                      refine hK.out _ _ (by exact two_endA _ _ _ X6.out (Nat.ne_of_gt hlt5)) (fun hHeld => ?_)
                      clear hK K
                      try simp only [Act.put, List.setIfInBounds_toArray, List.set_cons_zero, List.set_cons_succ, List.getElem_toArray, List.getElem_cons_succ, List.getElem_cons_zero]
                      refine wpAnyH_take (i := 13) (v := ?_) rfl (by kernel_rfl) (by kernel_rfl) (by kernel_rfl) (fun _ _ _ h => h) (Or.inl ⟨by rfl, ?_⟩) (by assumption) ?_
                      rotate_left
                      · intro w' hSw
                        go_simp <;> with_reducible rfl
                      try simp only [Act.put, List.setIfInBounds_toArray, List.set_cons_zero, List.set_cons_succ, List.getElem_toArray, List.getElem_cons_succ, List.getElem_cons_zero]
                      refine wpAnyH_done (by kernel_rfl) ?_ _
                      go_wp2_with fail
                      refine bodyPost_ret (v := .tuple #[.agg #[.string ⟨#[102]⟩, .slice (some ⟨w6.heap.size + 1 + 1, 0, none⟩) 2 2], .int .i64 (n6 : Int)]) (by simp [results, Try.results27, go_sem, World.cell?_setCell_same, World.cell?_setCell_other, r0, r1, hlt56, hlt57, hlt58, World.cell?_alloc_old]) rfl ?_
                      exact grow_two B6.out hlt56 S56.out S6.out (fun b hb => Nat.lt_of_lt_of_le R1.out.lt hb) HZ6.out HBIG.out (err_node (by decide) (by decide) (by rw [errL_cons, if_pos HE5.out]; exact HE6.out)) (by omega) (by exact blk_at (by simp [World.setCell]) _ _)
                · go_simp
                  refine hK.out _ _ (by exact hHeld.alloc _) (fun hHeld => ?_)
                  clear hK K
                  try simp only [Act.put, List.setIfInBounds_toArray, List.set_cons_zero, List.set_cons_succ, List.getElem_toArray, List.getElem_cons_succ, List.getElem_cons_zero]
                  refine wpAnyH_ready (rs := [0]) (by kernel_rfl) (by simp) ?_
                  refine AllReadyH.cons rfl (fun K hK => ?_) AllReadyH.nil
                  · go_simp
                    refine hK.out _ _ (by exact hHeld.alloc _) (fun hHeld => ?_)
                    clear hK K
                    try simp only [Act.put, List.setIfInBounds_toArray, List.set_cons_zero, List.set_cons_succ, List.getElem_toArray, List.getElem_cons_succ, List.getElem_cons_zero]
                    refine held_mono (S' := TwoF w5 w6 t5 t6 a5 a6 c5 c6 (w6.heap.size + 1 + 1)) (fun _ h => h.1) _ _ _ _ ?_
                    replace hHeld := two_up (b := w6.heap.size + 1 + 1) hHeld (by exact blk_at (w := (w6.alloc (.cells #[.string t6.name, .slice a6 t6.args.length c6] 25)).alloc (.cells #[.string t5.name, .slice a5 t5.args.length c5, .string t6.name, .slice a6 t6.args.length c6] 25)) (by simp) _ _)
                    refine wpAnyH_take (i := 5) (v := ?_) rfl (by kernel_rfl) (by kernel_rfl) (by kernel_rfl) (fun _ _ _ h => h) (Or.inl ⟨by rfl, ?_⟩) (by assumption) ?_
                    rotate_left
                    · intro w' hSw
                      go_simp <;> with_reducible rfl
                    try simp only [Act.put, List.setIfInBounds_toArray, List.set_cons_zero, List.set_cons_succ, List.getElem_toArray, List.getElem_cons_succ, List.getElem_cons_zero]
                    refine wpAnyH_take (i := 6) (v := ?_) rfl (by kernel_rfl) (by kernel_rfl) (by kernel_rfl) (fun _ _ _ h => h) (Or.inl ⟨by rfl, ?_⟩) (by assumption) ?_
                    rotate_left
                    · intro w' hSw
                      have k4 : w'.cell? ⟨w6.heap.size + 1 + 1, 0, none⟩ = some (.string ⟨#[102]⟩) := hSw.2.cell 0
                      have k5 : w'.cell? ⟨w6.heap.size + 1 + 1, 1, none⟩ = some (.string ⟨#[103]⟩) := hSw.2.cell 1
                      go_simp <;> with_reducible rfl
                    try simp only [Act.put, List.setIfInBounds_toArray, List.set_cons_zero, List.set_cons_succ, List.getElem_toArray, List.getElem_cons_succ, List.getElem_cons_zero]
                    refine wpAnyH_take (i := 10) (v := ?_) rfl (by kernel_rfl) (by kernel_rfl) (by kernel_rfl) (fun _ _ _ h => h) (Or.inl ⟨by rfl, ?_⟩) (by assumption) ?_
                    rotate_left
                    · intro w' hSw
                      go_simp <;> with_reducible rfl
                    try simp only [Act.put, List.setIfInBounds_toArray, List.set_cons_zero, List.set_cons_succ, List.getElem_toArray, List.getElem_cons_succ, List.getElem_cons_zero]
                    refine wpAnyH_ready (rs := [12]) (by kernel_rfl) (by simp) ?_
                    refine AllReadyH.cons rfl (fun K hK => ?_) AllReadyH.nil
                    · go_simp
                      refine hK.out _ _ (by exact two_endB _ _ _ X6.out (Nat.ne_of_gt hlt5)) (fun hHeld => ?_)
                      clear hK K
                      try simp only [Act.put, List.setIfInBounds_toArray, List.set_cons_zero, List.set_cons_succ, List.getElem_toArray, List.getElem_cons_succ, List.getElem_cons_zero]
                      refine wpAnyH_take (i := 13) (v := ?_) rfl (by kernel_rfl) (by kernel_rfl) (by kernel_rfl) (fun _ _ _ h => h) (Or.inl ⟨by rfl, ?_⟩) (by assumption) ?_
                      rotate_left
                      · intro w' hSw
                        go_simp <;> with_reducible rfl
                      try simp only [Act.put, List.setIfInBounds_toArray, List.set_cons_zero, List.set_cons_succ, List.getElem_toArray, List.getElem_cons_succ, List.getElem_cons_zero]
                      refine wpAnyH_done (by kernel_rfl) ?_ _
                      go_wp2_with fail
                      refine bodyPost_ret (v := .tuple #[.agg #[.string ⟨#[102]⟩, .slice (some ⟨w6.heap.size + 1, 0, none⟩) 2 2], .int .i64 (n6 : Int)]) (by simp [results, Try.results27, go_sem, World.cell?_setCell_same, World.cell?_setCell_other, r0, r1, hlt56, hlt57, hlt58, World.cell?_alloc_old]) rfl ?_
                      exact grow_two B6.out hlt56 S56.out S6.out (fun b hb => Nat.lt_of_lt_of_le R1.out.lt hb) HZ6.out HBIG.out (err_node (by decide) (by decide) (by rw [errL_cons, if_pos HE5.out]; exact HE6.out)) (by omega) (by exact (blk_at (by simp [World.setCell]) _ _).alloc _)
              · go_simp
                refine hK.out _ _ (by exact hHeld.alloc _) (fun hHeld => ?_)
                clear hK K
                try simp only [Act.put, List.setIfInBounds_toArray, List.set_cons_zero, List.set_cons_succ, List.getElem_toArray, List.getElem_cons_succ, List.getElem_cons_zero]
                refine wpAnyH_ready (rs := [0, 3]) (by kernel_rfl) (by simp) ?_
                refine AllReadyH.cons rfl (fun K hK => ?_) (AllReadyH.cons rfl (fun K hK => ?_) AllReadyH.nil)
                · go_simp
                  refine hK.out _ _ (by exact hHeld.alloc _) (fun hHeld => ?_)
                  clear hK K
                  try simp only [Act.put, List.setIfInBounds_toArray, List.set_cons_zero, List.set_cons_succ, List.getElem_toArray, List.getElem_cons_succ, List.getElem_cons_zero]
                  refine held_mono (S' := TwoF w5 w6 t5 t6 a5 a6 c5 c6 (w6.heap.size + 1 + 1)) (fun _ h => h.1) _ _ _ _ ?_
                  replace hHeld := two_up (b := w6.heap.size + 1 + 1) hHeld (by exact blk_at (w := (w6.alloc (.cells #[.string t6.name, .slice a6 t6.args.length c6] 25)).alloc (.cells #[.string t5.name, .slice a5 t5.args.length c5, .string t6.name, .slice a6 t6.args.length c6] 25)) (by simp) _ _)
                  refine wpAnyH_ready (rs := [3]) (by kernel_rfl) (by simp) ?_
                  refine AllReadyH.cons rfl (fun K hK => ?_) AllReadyH.nil
                  · go_simp
                    go_at_call 9
                    refine (HPK.out _).mono ?_
                    rintro e w7 ⟨rfl, rfl⟩
                    go_simp
                    refine hK.out _ _ (by exact hHeld) (fun hHeld => ?_)
                    clear hK K
                    try simp only [Act.put, List.setIfInBounds_toArray, List.set_cons_zero, List.set_cons_succ, List.getElem_toArray, List.getElem_cons_succ, List.getElem_cons_zero]
                    refine wpAnyH_take (i := 4) (v := ?_) rfl (by kernel_rfl) (by kernel_rfl) (by kernel_rfl) (fun _ _ _ h => h) (Or.inl ⟨by rfl, ?_⟩) (by assumption) ?_
                    rotate_left
                    · intro w' hSw
                      go_simp <;> with_reducible rfl
                    try simp only [Act.put, List.setIfInBounds_toArray, List.set_cons_zero, List.set_cons_succ, List.getElem_toArray, List.getElem_cons_succ, List.getElem_cons_zero]
                    refine wpAnyH_take (i := 5) (v := ?_) rfl (by kernel_rfl) (by kernel_rfl) (by kernel_rfl) (fun _ _ _ h => h) (Or.inl ⟨by rfl, ?_⟩) (by assumption) ?_
                    rotate_left
                    · intro w' hSw
                      go_simp <;> with_reducible rfl
                    try simp only [Act.put, List.setIfInBounds_toArray, List.set_cons_zero, List.set_cons_succ, List.getElem_toArray, List.getElem_cons_succ, List.getElem_cons_zero]
                    refine wpAnyH_take (i := 6) (v := ?_) rfl (by kernel_rfl) (by kernel_rfl) (by kernel_rfl) (fun _ _ _ h => h) (Or.inl ⟨by rfl, ?_⟩) (by assumption) ?_
                    rotate_left
                    · intro w' hSw
                      have k4 : w'.cell? ⟨w6.heap.size + 1 + 1, 0, none⟩ = some (.string ⟨#[102]⟩) := hSw.2.cell 0
                      have k5 : w'.cell? ⟨w6.heap.size + 1 + 1, 1, none⟩ = some (.string ⟨#[103]⟩) := hSw.2.cell 1
                      go_simp <;> with_reducible rfl
                    try simp only [Act.put, List.setIfInBounds_toArray, List.set_cons_zero, List.set_cons_succ, List.getElem_toArray, List.getElem_cons_succ, List.getElem_cons_zero]
                    refine wpAnyH_take (i := 10) (v := ?_) rfl (by kernel_rfl) (by kernel_rfl) (by kernel_rfl) (fun _ _ _ h => h) (Or.inl ⟨by rfl, ?_⟩) (by assumption) ?_
                    rotate_left
                    · intro w' hSw
                      go_simp <;> with_reducible rfl
                    try simp only [Act.put, List.setIfInBounds_toArray, List.set_cons_zero, List.set_cons_succ, List.getElem_toArray, List.getElem_cons_succ, List.getElem_cons_zero]
                    refine wpAnyH_ready (rs := [12]) (by kernel_rfl) (by simp) ?_
                    refine AllReadyH.cons rfl (fun K hK => ?_) AllReadyH.nil
                    · go_simp
                      refine hK.out _ _ (by exact two_endB _ _ _ X6.out (Nat.ne_of_gt hlt5)) (fun hHeld => ?_)
                      clear hK K
                      try simp only [Act.put, List.setIfInBounds_toArray, List.set_cons_zero, List.set_cons_succ, List.getElem_toArray, List.getElem_cons_succ, List.getElem_cons_zero]
                      refine wpAnyH_take (i := 13) (v := ?_) rfl (by kernel_rfl) (by kernel_rfl) (by kernel_rfl) (fun _ _ _ h => h) (Or.inl ⟨by rfl, ?_⟩) (by assumption) ?_
                      rotate_left
                      · intro w' hSw
                        go_simp <;> with_reducible rfl
                      try simp only [Act.put, List.setIfInBounds_toArray, List.set_cons_zero, List.set_cons_succ, List.getElem_toArray, List.getElem_cons_succ, List.getElem_cons_zero]
                      refine wpAnyH_done (by kernel_rfl) ?_ _
                      go_wp2_with fail
                      refine bodyPost_ret (v := .tuple #[.agg #[.string ⟨#[102]⟩, .slice (some ⟨w6.heap.size + 1, 0, none⟩) 2 2], .int .i64 (n6 : Int)]) (by simp [results, Try.results27, go_sem, World.cell?_setCell_same, World.cell?_setCell_other, r0, r1, hlt56, hlt57, hlt58, World.cell?_alloc_old]) rfl ?_
                      exact grow_two B6.out hlt56 S56.out S6.out (fun b hb => Nat.lt_of_lt_of_le R1.out.lt hb) HZ6.out HBIG.out (err_node (by decide) (by decide) (by rw [errL_cons, if_pos HE5.out]; exact HE6.out)) (by omega) (by exact (blk_at (by simp [World.setCell]) _ _).alloc _)
                · go_simp
                  go_at_call 9
                  refine (HPK.out _).mono ?_
                  rintro e w7 ⟨rfl, rfl⟩
                  go_simp
                  refine hK.out _ _ (by exact hHeld) (fun hHeld => ?_)
                  clear hK K
                  try simp only [Act.put, List.setIfInBounds_toArray, List.set_cons_zero, List.set_cons_succ, List.getElem_toArray, List.getElem_cons_succ, List.getElem_cons_zero]
                  refine wpAnyH_take (i := 4) (v := ?_) rfl (by kernel_rfl) (by kernel_rfl) (by kernel_rfl) (fun _ _ _ h => h) (Or.inl ⟨by rfl, ?_⟩) (by assumption) ?_
                  rotate_left
                  · intro w' hSw
                    go_simp <;> with_reducible rfl
                  try simp only [Act.put, List.setIfInBounds_toArray, List.set_cons_zero, List.set_cons_succ, List.getElem_toArray, List.getElem_cons_succ, List.getElem_cons_zero]
                  refine wpAnyH_ready (rs := [0]) (by kernel_rfl) (by simp) ?_
                  refine AllReadyH.cons rfl (fun K hK => ?_) AllReadyH.nil
                  · go_simp
                    refine hK.out _ _ (by exact hHeld.alloc _) (fun hHeld => ?_)
                    clear hK K
                    try simp only [Act.put, List.setIfInBounds_toArray, List.set_cons_zero, List.set_cons_succ, List.getElem_toArray, List.getElem_cons_succ, List.getElem_cons_zero]
                    refine held_mono (S' := TwoF w5 w6 t5 t6 a5 a6 c5 c6 (w6.heap.size + 1 + 1)) (fun _ h => h.1) _ _ _ _ ?_
                    replace hHeld := two_up (b := w6.heap.size + 1 + 1) hHeld (by exact blk_at (w := (w6.alloc (.cells #[.string t6.name, .slice a6 t6.args.length c6] 25)).alloc (.cells #[.string t5.name, .slice a5 t5.args.length c5, .string t6.name, .slice a6 t6.args.length c6] 25)) (by simp) _ _)
                    refine wpAnyH_take (i := 5) (v := ?_) rfl (by kernel_rfl) (by kernel_rfl) (by kernel_rfl) (fun _ _ _ h => h) (Or.inl ⟨by rfl, ?_⟩) (by assumption) ?_
                    rotate_left
                    · intro w' hSw
                      go_simp <;> with_reducible rfl
                    try simp only [Act.put, List.setIfInBounds_toArray, List.set_cons_zero, List.set_cons_succ, List.getElem_toArray, List.getElem_cons_succ, List.getElem_cons_zero]
                    refine wpAnyH_take (i := 6) (v := ?_) rfl (by kernel_rfl) (by kernel_rfl) (by kernel_rfl) (fun _ _ _ h => h) (Or.inl ⟨by rfl, ?_⟩) (by assumption) ?_
                    rotate_left
                    · intro w' hSw
                      have k4 : w'.cell? ⟨w6.heap.size + 1 + 1, 0, none⟩ = some (.string ⟨#[102]⟩) := hSw.2.cell 0
                      have k5 : w'.cell? ⟨w6.heap.size + 1 + 1, 1, none⟩ = some (.string ⟨#[103]⟩) := hSw.2.cell 1
                      go_simp <;> with_reducible rfl
                    try simp only [Act.put, List.setIfInBounds_toArray, List.set_cons_zero, List.set_cons_succ, List.getElem_toArray, List.getElem_cons_succ, List.getElem_cons_zero]
                    refine wpAnyH_take (i := 10) (v := ?_) rfl (by kernel_rfl) (by kernel_rfl) (by kernel_rfl) (fun _ _ _ h => h) (Or.inl ⟨by rfl, ?_⟩) (by assumption) ?_
                    rotate_left
                    · intro w' hSw
                      go_simp <;> with_reducible rfl
                    try simp only [Act.put, List.setIfInBounds_toArray, List.set_cons_zero, List.set_cons_succ, List.getElem_toArray, List.getElem_cons_succ, List.getElem_cons_zero]
                    refine wpAnyH_ready (rs := [12]) (by kernel_rfl) (by simp) ?_
                    refine AllReadyH.cons rfl (fun K hK => ?_) AllReadyH.nil
                    · go_simp
                      refine hK.out _ _ (by exact two_endB _ _ _ X6.out (Nat.ne_of_gt hlt5)) (fun hHeld => ?_)
                      clear hK K
                      try simp only [Act.put, List.setIfInBounds_toArray, List.set_cons_zero, List.set_cons_succ, List.getElem_toArray, List.getElem_cons_succ, List.getElem_cons_zero]
                      refine wpAnyH_take (i := 13) (v := ?_) rfl (by kernel_rfl) (by kernel_rfl) (by kernel_rfl) (fun _ _ _ h => h) (Or.inl ⟨by rfl, ?_⟩) (by assumption) ?_
                      rotate_left
                      · intro w' hSw
                        go_simp <;> with_reducible rfl
                      try simp only [Act.put, List.setIfInBounds_toArray, List.set_cons_zero, List.set_cons_succ, List.getElem_toArray, List.getElem_cons_succ, List.getElem_cons_zero]
                      refine wpAnyH_done (by kernel_rfl) ?_ _
                      go_wp2_with fail
                      refine bodyPost_ret (v := .tuple #[.agg #[.string ⟨#[102]⟩, .slice (some ⟨w6.heap.size + 1, 0, none⟩) 2 2], .int .i64 (n6 : Int)]) (by simp [results, Try.results27, go_sem, World.cell?_setCell_same, World.cell?_setCell_other, r0, r1, hlt56, hlt57, hlt58, World.cell?_alloc_old]) rfl ?_
                      exact grow_two B6.out hlt56 S56.out S6.out (fun b hb => Nat.lt_of_lt_of_le R1.out.lt hb) HZ6.out HBIG.out (err_node (by decide) (by decide) (by rw [errL_cons, if_pos HE5.out]; exact HE6.out)) (by omega) (by exact (blk_at (by simp [World.setCell]) _ _).alloc _)
            · clear hth hhb hh hn6 hn6' hz6 hz5 hn5 hn5' hc5 hc5' hc6 hc6' hi hm hc hr hzl h42 h41 h40 hk4 h1 hk1 h3
              have HS0 : TwoS w5 w6 t5 t6 a5 a6 c5 c6 (w6.alloc (.cells #[.string t6.name, .slice a6 t6.args.length c6] 25)).drew := ⟨X6.out.alloc _, Y6.out⟩
              refine wp_region_held_drew (S := TwoS w5 w6 t5 t6 a5 a6 c5 c6) (by kernel_rfl) HS0 (fun hHeld => ?_)
              refine wpAnyH_take (i := 1) (v := ?_) rfl (by kernel_rfl) (by kernel_rfl) (by kernel_rfl) (fun _ _ _ h => h) (Or.inl ⟨by rfl, ?_⟩) (by assumption) ?_
              rotate_left
              · intro w' hSw
                go_simp <;> with_reducible rfl
              try simp only [Act.put, List.setIfInBounds_toArray, List.set_cons_zero, List.set_cons_succ, List.getElem_toArray, List.getElem_cons_succ, List.getElem_cons_zero]
              refine wpAnyH_take (i := 2) (v := ?_) rfl (by kernel_rfl) (by kernel_rfl) (by kernel_rfl) (fun _ _ _ h => h) (Or.inl ⟨by rfl, ?_⟩) (by assumption) ?_
              rotate_left
              · intro w' hSw
                go_simp <;> with_reducible rfl
              try simp only [Act.put, List.setIfInBounds_toArray, List.set_cons_zero, List.set_cons_succ, List.getElem_toArray, List.getElem_cons_succ, List.getElem_cons_zero]
              refine wpAnyH_take (i := 7) (v := ?_) rfl (by kernel_rfl) (by kernel_rfl) (by kernel_rfl) (fun _ _ _ h => h) (Or.inl ⟨by rfl, ?_⟩) (by assumption) ?_
              rotate_left
              · intro w' hSw
                have k0 : w'.cell? ⟨w5.heap.size, 0, none⟩ = some (.string t5.name) := hSw.1.cell 0
                have k1 : w'.cell? ⟨w5.heap.size, 1, none⟩ = some (.slice a5 t5.args.length c5) := hSw.1.cell 1
                go_simp <;> with_reducible rfl
              try simp only [Act.put, List.setIfInBounds_toArray, List.set_cons_zero, List.set_cons_succ, List.getElem_toArray, List.getElem_cons_succ, List.getElem_cons_zero]
              refine wpAnyH_take (i := 8) (v := ?_) rfl (by kernel_rfl) (by kernel_rfl) (by kernel_rfl) (fun _ _ _ h => h) (Or.inl ⟨by rfl, ?_⟩) (by assumption) ?_
              rotate_left
              · intro w' hSw
                have k2 : w'.cell? ⟨w6.heap.size, 0, none⟩ = some (.string t6.name) := hSw.2.cell 0
                have k3 : w'.cell? ⟨w6.heap.size, 1, none⟩ = some (.slice a6 t6.args.length c6) := hSw.2.cell 1
                go_simp <;> with_reducible rfl
              try simp only [Act.put, List.setIfInBounds_toArray, List.set_cons_zero, List.set_cons_succ, List.getElem_toArray, List.getElem_cons_succ, List.getElem_cons_zero]
              refine wpAnyH_take (i := 11) (v := ?_) rfl (by kernel_rfl) (by kernel_rfl) (by kernel_rfl) (fun _ _ _ h => h) (Or.inl ⟨by rfl, ?_⟩) (by assumption) ?_
              rotate_left
              · intro w' hSw
                go_simp <;> with_reducible rfl
              try simp only [Act.put, List.setIfInBounds_toArray, List.set_cons_zero, List.set_cons_succ, List.getElem_toArray, List.getElem_cons_succ, List.getElem_cons_zero]
              refine wpAnyH_ready (rs := [0, 3, 9]) (by kernel_rfl) (by simp) ?_
              refine AllReadyH.cons rfl (fun K hK => ?_) (AllReadyH.cons rfl (fun K hK => ?_) (AllReadyH.cons rfl (fun K hK => ?_) AllReadyH.nil))
              · go_simp
                refine hK.out _ _ (by exact hHeld.alloc _) (fun hHeld => ?_)
                clear hK K
                try simp only [Act.put, List.setIfInBounds_toArray, List.set_cons_zero, List.set_cons_succ, List.getElem_toArray, List.getElem_cons_succ, List.getElem_cons_zero]
                refine held_mono (S' := TwoF w5 w6 t5 t6 a5 a6 c5 c6 (w6.heap.size + 1)) (fun _ h => h.1) _ _ _ _ ?_
                replace hHeld := two_up (b := w6.heap.size + 1) hHeld (by exact blk_at (w := w6.alloc (.cells #[.string t6.name, .slice a6 t6.args.length c6] 25)) (by simp) _ _)
                refine wpAnyH_ready (rs := [3, 9]) (by kernel_rfl) (by simp) ?_
                refine AllReadyH.cons rfl (fun K hK => ?_) (AllReadyH.cons rfl (fun K hK => ?_) AllReadyH.nil)
                · go_simp
                  go_at_call 9
                  refine (HPK.out _).mono ?_
                  rintro e w7 ⟨rfl, rfl⟩
                  go_simp
                  refine hK.out _ _ (by exact hHeld) (fun hHeld => ?_)
                  clear hK K
                  try simp only [Act.put, List.setIfInBounds_toArray, List.set_cons_zero, List.set_cons_succ, List.getElem_toArray, List.getElem_cons_succ, List.getElem_cons_zero]
                  refine wpAnyH_take (i := 4) (v := ?_) rfl (by kernel_rfl) (by kernel_rfl) (by kernel_rfl) (fun _ _ _ h => h) (Or.inl ⟨by rfl, ?_⟩) (by assumption) ?_
                  rotate_left
                  · intro w' hSw
                    go_simp <;> with_reducible rfl
                  try simp only [Act.put, List.setIfInBounds_toArray, List.set_cons_zero, List.set_cons_succ, List.getElem_toArray, List.getElem_cons_succ, List.getElem_cons_zero]
                  refine wpAnyH_take (i := 5) (v := ?_) rfl (by kernel_rfl) (by kernel_rfl) (by kernel_rfl) (fun _ _ _ h => h) (Or.inl ⟨by rfl, ?_⟩) (by assumption) ?_
                  rotate_left
                  · intro w' hSw
                    go_simp <;> with_reducible rfl
                  try simp only [Act.put, List.setIfInBounds_toArray, List.set_cons_zero, List.set_cons_succ, List.getElem_toArray, List.getElem_cons_succ, List.getElem_cons_zero]
                  refine wpAnyH_take (i := 6) (v := ?_) rfl (by kernel_rfl) (by kernel_rfl) (by kernel_rfl) (fun _ _ _ h => h) (Or.inl ⟨by rfl, ?_⟩) (by assumption) ?_
                  rotate_left
                  · intro w' hSw
                    have k4 : w'.cell? ⟨w6.heap.size + 1, 0, none⟩ = some (.string ⟨#[102]⟩) := hSw.2.cell 0
                    have k5 : w'.cell? ⟨w6.heap.size + 1, 1, none⟩ = some (.string ⟨#[103]⟩) := hSw.2.cell 1
                    go_simp <;> with_reducible rfl
                  try simp only [Act.put, List.setIfInBounds_toArray, List.set_cons_zero, List.set_cons_succ, List.getElem_toArray, List.getElem_cons_succ, List.getElem_cons_zero]
                  refine wpAnyH_ready (rs := [9]) (by kernel_rfl) (by simp) ?_
                  refine AllReadyH.cons rfl (fun K hK => ?_) AllReadyH.nil
                  · go_simp
                    refine hK.out _ _ (by exact hHeld.alloc _) (fun hHeld => ?_)
                    clear hK K
                    try simp only [Act.put, List.setIfInBounds_toArray, List.set_cons_zero, List.set_cons_succ, List.getElem_toArray, List.getElem_cons_succ, List.getElem_cons_zero]
                    refine wpAnyH_take (i := 10) (v := ?_) rfl (by kernel_rfl) (by kernel_rfl) (by kernel_rfl) (fun _ _ _ h => h) (Or.inl ⟨by rfl, ?_⟩) (by assumption) ?_
                    rotate_left
                    · intro w' hSw
                      go_simp <;> with_reducible rfl
                    try simp only [Act.put, List.setIfInBounds_toArray, List.set_cons_zero, List.set_cons_succ, List.getElem_toArray, List.getElem_cons_succ, List.getElem_cons_zero]
                    refine wpAnyH_ready (rs := [12]) (by kernel_rfl) (by simp) ?_
                    refine AllReadyH.cons rfl (fun K hK => ?_) AllReadyH.nil
                    · go_simp
                      refine hK.out _ _ (by exact two_endA _ _ _ X6.out (Nat.ne_of_gt hlt5)) (fun hHeld => ?_)
                      clear hK K
                      try simp only [Act.put, List.setIfInBounds_toArray, List.set_cons_zero, List.set_cons_succ, List.getElem_toArray, List.getElem_cons_succ, List.getElem_cons_zero]
                      refine wpAnyH_take (i := 13) (v := ?_) rfl (by kernel_rfl) (by kernel_rfl) (by kernel_rfl) (fun _ _ _ h => h) (Or.inl ⟨by rfl, ?_⟩) (by assumption) ?_
                      rotate_left
                      · intro w' hSw
                        go_simp <;> with_reducible rfl
                      try simp only [Act.put, List.setIfInBounds_toArray, List.set_cons_zero, List.set_cons_succ, List.getElem_toArray, List.getElem_cons_succ, List.getElem_cons_zero]
                      refine wpAnyH_done (by kernel_rfl) ?_ _
                      go_wp2_with fail
                      refine bodyPost_ret (v := .tuple #[.agg #[.string ⟨#[103]⟩, .slice (some ⟨w6.heap.size + 1 + 1, 0, none⟩) 2 2], .int .i64 (n6 : Int)]) (by simp [results, Try.results27, go_sem, World.cell?_setCell_same, World.cell?_setCell_other, r0, r1, hlt56, hlt57, hlt58, World.cell?_alloc_old]) rfl ?_
                      exact grow_two B6.out hlt56 S56.out S6.out (fun b hb => Nat.lt_of_lt_of_le R1.out.lt hb) HZ6.out HBIG.out (err_node (by decide) (by decide) (by rw [errL_cons, if_pos HE5.out]; exact HE6.out)) (by omega) (by exact blk_at (by simp [World.setCell]) _ _)
                · go_simp
                  refine hK.out _ _ (by exact hHeld.alloc _) (fun hHeld => ?_)
                  clear hK K
                  try simp only [Act.put, List.setIfInBounds_toArray, List.set_cons_zero, List.set_cons_succ, List.getElem_toArray, List.getElem_cons_succ, List.getElem_cons_zero]
                  refine wpAnyH_ready (rs := [3]) (by kernel_rfl) (by simp) ?_
                  refine AllReadyH.cons rfl (fun K hK => ?_) AllReadyH.nil
                  · go_simp
                    go_at_call 9
                    refine (HPK.out _).mono ?_
                    rintro e w7 ⟨rfl, rfl⟩
                    go_simp
                    refine hK.out _ _ (by exact hHeld) (fun hHeld => ?_)
                    clear hK K
                    try simp only [Act.put, List.setIfInBounds_toArray, List.set_cons_zero, List.set_cons_succ, List.getElem_toArray, List.getElem_cons_succ, List.getElem_cons_zero]
                    refine wpAnyH_take (i := 4) (v := ?_) rfl (by kernel_rfl) (by kernel_rfl) (by kernel_rfl) (fun _ _ _ h => h) (Or.inl ⟨by rfl, ?_⟩) (by assumption) ?_
                    rotate_left
                    · intro w' hSw
                      go_simp <;> with_reducible rfl
                    try simp only [Act.put, List.setIfInBounds_toArray, List.set_cons_zero, List.set_cons_succ, List.getElem_toArray, List.getElem_cons_succ, List.getElem_cons_zero]
                    refine wpAnyH_take (i := 5) (v := ?_) rfl (by kernel_rfl) (by kernel_rfl) (by kernel_rfl) (fun _ _ _ h => h) (Or.inl ⟨by rfl, ?_⟩) (by assumption) ?_
                    rotate_left
                    · intro w' hSw
                      go_simp <;> with_reducible rfl
                    try simp only [Act.put, List.setIfInBounds_toArray, List.set_cons_zero, List.set_cons_succ, List.getElem_toArray, List.getElem_cons_succ, List.getElem_cons_zero]
                    refine wpAnyH_take (i := 6) (v := ?_) rfl (by kernel_rfl) (by kernel_rfl) (by kernel_rfl) (fun _ _ _ h => h) (Or.inl ⟨by rfl, ?_⟩) (by assumption) ?_
                    rotate_left
                    · intro w' hSw
                      have k4 : w'.cell? ⟨w6.heap.size + 1, 0, none⟩ = some (.string ⟨#[102]⟩) := hSw.2.cell 0
                      have k5 : w'.cell? ⟨w6.heap.size + 1, 1, none⟩ = some (.string ⟨#[103]⟩) := hSw.2.cell 1
                      go_simp <;> with_reducible rfl
                    try simp only [Act.put, List.setIfInBounds_toArray, List.set_cons_zero, List.set_cons_succ, List.getElem_toArray, List.getElem_cons_succ, List.getElem_cons_zero]
                    refine wpAnyH_take (i := 10) (v := ?_) rfl (by kernel_rfl) (by kernel_rfl) (by kernel_rfl) (fun _ _ _ h => h) (Or.inl ⟨by rfl, ?_⟩) (by assumption) ?_
                    rotate_left
                    · intro w' hSw
                      go_simp <;> with_reducible rfl
                    try simp only [Act.put, List.setIfInBounds_toArray, List.set_cons_zero, List.set_cons_succ, List.getElem_toArray, List.getElem_cons_succ, List.getElem_cons_zero]
                    refine wpAnyH_ready (rs := [12]) (by kernel_rfl) (by simp) ?_
                    refine AllReadyH.cons rfl (fun K hK => ?_) AllReadyH.nil
                    · go_simp
                      refine hK.out _ _ (by exact two_endA _ _ _ X6.out (Nat.ne_of_gt hlt5)) (fun hHeld => ?_)
                      clear hK K
                      try simp only [Act.put, List.setIfInBounds_toArray, List.set_cons_zero, List.set_cons_succ, List.getElem_toArray, List.getElem_cons_succ, List.getElem_cons_zero]
                      refine wpAnyH_take (i := 13) (v := ?_) rfl (by kernel_rfl) (by kernel_rfl) (by kernel_rfl) (fun _ _ _ h => h) (Or.inl ⟨by rfl, ?_⟩) (by assumption) ?_
                      rotate_left
                      · intro w' hSw
                        go_simp <;> with_reducible rfl
                      try simp only [Act.put, List.setIfInBounds_toArray, List.set_cons_zero, List.set_cons_succ, List.getElem_toArray, List.getElem_cons_succ, List.getElem_cons_zero]
                      refine wpAnyH_done (by kernel_rfl) ?_ _
                      go_wp2_with fail
                      refine bodyPost_ret (v := .tuple #[.agg #[.string ⟨#[103]⟩, .slice (some ⟨w6.heap.size + 1 + 1, 0, none⟩) 2 2], .int .i64 (n6 : Int)]) (by simp [results, Try.results27, go_sem, World.cell?_setCell_same, World.cell?_setCell_other, r0, r1, hlt56, hlt57, hlt58, World.cell?_alloc_old]) rfl ?_
                      exact grow_two B6.out hlt56 S56.out S6.out (fun b hb => Nat.lt_of_lt_of_le R1.out.lt hb) HZ6.out HBIG.out (err_node (by decide) (by decide) (by rw [errL_cons, if_pos HE5.out]; exact HE6.out)) (by omega) (by exact blk_at (by simp [World.setCell]) _ _)
              · go_simp
                go_at_call 9
                refine (HPK.out _).mono ?_
                rintro e w7 ⟨rfl, rfl⟩
                go_simp
                refine hK.out _ _ (by exact hHeld) (fun hHeld => ?_)
                clear hK K
                try simp only [Act.put, List.setIfInBounds_toArray, List.set_cons_zero, List.set_cons_succ, List.getElem_toArray, List.getElem_cons_succ, List.getElem_cons_zero]
                refine wpAnyH_take (i := 4) (v := ?_) rfl (by kernel_rfl) (by kernel_rfl) (by kernel_rfl) (fun _ _ _ h => h) (Or.inl ⟨by rfl, ?_⟩) (by assumption) ?_
                rotate_left
                · intro w' hSw
                  go_simp <;> with_reducible rfl
                try simp only [Act.put, List.setIfInBounds_toArray, List.set_cons_zero, List.set_cons_succ, List.getElem_toArray, List.getElem_cons_succ, List.getElem_cons_zero]
                refine wpAnyH_ready (rs := [0, 9]) (by kernel_rfl) (by simp) ?_
                refine AllReadyH.cons rfl (fun K hK => ?_) (AllReadyH.cons rfl (fun K hK => ?_) AllReadyH.nil)
                · go_simp
                  refine hK.out _ _ (by exact hHeld.alloc _) (fun hHeld => ?_)
                  clear hK K
                  try simp only [Act.put, List.setIfInBounds_toArray, List.set_cons_zero, List.set_cons_succ, List.getElem_toArray, List.getElem_cons_succ, List.getElem_cons_zero]
                  refine held_mono (S' := TwoF w5 w6 t5 t6 a5 a6 c5 c6 (w6.heap.size + 1)) (fun _ h => h.1) _ _ _ _ ?_
                  replace hHeld := two_up (b := w6.heap.size + 1) hHeld (by exact blk_at (w := w6.alloc (.cells #[.string t6.name, .slice a6 t6.args.length c6] 25)) (by simp) _ _)
                  refine wpAnyH_take (i := 5) (v := ?_) rfl (by kernel_rfl) (by kernel_rfl) (by kernel_rfl) (fun _ _ _ h => h) (Or.inl ⟨by rfl, ?_⟩) (by assumption) ?_
                  rotate_left
                  · intro w' hSw
                    go_simp <;> with_reducible rfl
                  try simp only [Act.put, List.setIfInBounds_toArray, List.set_cons_zero, List.set_cons_succ, List.getElem_toArray, List.getElem_cons_succ, List.getElem_cons_zero]
                  refine wpAnyH_take (i := 6) (v := ?_) rfl (by kernel_rfl) (by kernel_rfl) (by kernel_rfl) (fun _ _ _ h => h) (Or.inl ⟨by rfl, ?_⟩) (by assumption) ?_
                  rotate_left
                  · intro w' hSw
                    have k4 : w'.cell? ⟨w6.heap.size + 1, 0, none⟩ = some (.string ⟨#[102]⟩) := hSw.2.cell 0
                    have k5 : w'.cell? ⟨w6.heap.size + 1, 1, none⟩ = some (.string ⟨#[103]⟩) := hSw.2.cell 1
                    go_simp <;> with_reducible rfl
                  try simp only [Act.put, List.setIfInBounds_toArray, List.set_cons_zero, List.set_cons_succ, List.getElem_toArray, List.getElem_cons_succ, List.getElem_cons_zero]
                  refine wpAnyH_ready (rs := [9]) (by kernel_rfl) (by simp) ?_
                  refine AllReadyH.cons rfl (fun K hK => ?_) AllReadyH.nil
                  · go_simp
                    refine hK.out _ _ (by exact hHeld.alloc _) (fun hHeld => ?_)
                    clear hK K
                    try simp only [Act.put, List.setIfInBounds_toArray, List.set_cons_zero, List.set_cons_succ, List.getElem_toArray, List.getElem_cons_succ, List.getElem_cons_zero]
                    refine wpAnyH_take (i := 10) (v := ?_) rfl (by kernel_rfl) (by kernel_rfl) (by kernel_rfl) (fun _ _ _ h => h) (Or.inl ⟨by rfl, ?_⟩) (by assumption) ?_
                    rotate_left
                    · intro w' hSw
                      go_simp <;> with_reducible rfl
                    try simp only [Act.put, List.setIfInBounds_toArray, List.set_cons_zero, List.set_cons_succ, List.getElem_toArray, List.getElem_cons_succ, List.getElem_cons_zero]
                    refine wpAnyH_ready (rs := [12]) (by kernel_rfl) (by simp) ?_
                    refine AllReadyH.cons rfl (fun K hK => ?_) AllReadyH.nil
                    · go_simp
                      refine hK.out _ _ (by exact two_endA _ _ _ X6.out (Nat.ne_of_gt hlt5)) (fun hHeld => ?_)
                      clear hK K
                      try simp only [Act.put, List.setIfInBounds_toArray, List.set_cons_zero, List.set_cons_succ, List.getElem_toArray, List.getElem_cons_succ, List.getElem_cons_zero]
                      refine wpAnyH_take (i := 13) (v := ?_) rfl (by kernel_rfl) (by kernel_rfl) (by kernel_rfl) (fun _ _ _ h => h) (Or.inl ⟨by rfl, ?_⟩) (by assumption) ?_
                      rotate_left
                      · intro w' hSw
                        go_simp <;> with_reducible rfl
                      try simp only [Act.put, List.setIfInBounds_toArray, List.set_cons_zero, List.set_cons_succ, List.getElem_toArray, List.getElem_cons_succ, List.getElem_cons_zero]
                      refine wpAnyH_done (by kernel_rfl) ?_ _
                      go_wp2_with fail
                      refine bodyPost_ret (v := .tuple #[.agg #[.string ⟨#[103]⟩, .slice (some ⟨w6.heap.size + 1 + 1, 0, none⟩) 2 2], .int .i64 (n6 : Int)]) (by simp [results, Try.results27, go_sem, World.cell?_setCell_same, World.cell?_setCell_other, r0, r1, hlt56, hlt57, hlt58, World.cell?_alloc_old]) rfl ?_
                      exact grow_two B6.out hlt56 S56.out S6.out (fun b hb => Nat.lt_of_lt_of_le R1.out.lt hb) HZ6.out HBIG.out (err_node (by decide) (by decide) (by rw [errL_cons, if_pos HE5.out]; exact HE6.out)) (by omega) (by exact blk_at (by simp [World.setCell]) _ _)
                · go_simp
                  refine hK.out _ _ (by exact hHeld.alloc _) (fun hHeld => ?_)
                  clear hK K
                  try simp only [Act.put, List.setIfInBounds_toArray, List.set_cons_zero, List.set_cons_succ, List.getElem_toArray, List.getElem_cons_succ, List.getElem_cons_zero]
                  refine wpAnyH_ready (rs := [0]) (by kernel_rfl) (by simp) ?_
                  refine AllReadyH.cons rfl (fun K hK => ?_) AllReadyH.nil
                  · go_simp
                    refine hK.out _ _ (by exact hHeld.alloc _) (fun hHeld => ?_)
                    clear hK K
                    try simp only [Act.put, List.setIfInBounds_toArray, List.set_cons_zero, List.set_cons_succ, List.getElem_toArray, List.getElem_cons_succ, List.getElem_cons_zero]
                    refine held_mono (S' := TwoF w5 w6 t5 t6 a5 a6 c5 c6 (w6.heap.size + 1 + 1)) (fun _ h => h.1) _ _ _ _ ?_
                    replace hHeld := two_up (b := w6.heap.size + 1 + 1) hHeld (by exact blk_at (w := (w6.alloc (.cells #[.string t6.name, .slice a6 t6.args.length c6] 25)).alloc (.cells #[.string t5.name, .slice a5 t5.args.length c5, .string t6.name, .slice a6 t6.args.length c6] 25)) (by simp) _ _)
                    refine wpAnyH_take (i := 5) (v := ?_) rfl (by kernel_rfl) (by kernel_rfl) (by kernel_rfl) (fun _ _ _ h => h) (Or.inl ⟨by rfl, ?_⟩) (by assumption) ?_
                    rotate_left
                    · intro w' hSw
                      go_simp <;> with_reducible rfl
                    try simp only [Act.put, List.setIfInBounds_toArray, List.set_cons_zero, List.set_cons_succ, List.getElem_toArray, List.getElem_cons_succ, List.getElem_cons_zero]
                    refine wpAnyH_take (i := 6) (v := ?_) rfl (by kernel_rfl) (by kernel_rfl) (by kernel_rfl) (fun _ _ _ h => h) (Or.inl ⟨by rfl, ?_⟩) (by assumption) ?_
                    rotate_left
                    · intro w' hSw
                      have k4 : w'.cell? ⟨w6.heap.size + 1 + 1, 0, none⟩ = some (.string ⟨#[102]⟩) := hSw.2.cell 0
                      have k5 : w'.cell? ⟨w6.heap.size + 1 + 1, 1, none⟩ = some (.string ⟨#[103]⟩) := hSw.2.cell 1
                      go_simp <;> with_reducible rfl
                    try simp only [Act.put, List.setIfInBounds_toArray, List.set_cons_zero, List.set_cons_succ, List.getElem_toArray, List.getElem_cons_succ, List.getElem_cons_zero]
                    refine wpAnyH_take (i := 10) (v := ?_) rfl (by kernel_rfl) (by kernel_rfl) (by kernel_rfl) (fun _ _ _ h => h) (Or.inl ⟨by rfl, ?_⟩) (by assumption) ?_
                    rotate_left
                    · intro w' hSw
                      go_simp <;> with_reducible rfl
                    try simp only [Act.put, List.setIfInBounds_toArray, List.set_cons_zero, List.set_cons_succ, List.getElem_toArray, List.getElem_cons_succ, List.getElem_cons_zero]
                    refine wpAnyH_ready (rs := [12]) (by kernel_rfl) (by simp) ?_
                    refine AllReadyH.cons rfl (fun K hK => ?_) AllReadyH.nil
                    · go_simp
                      refine hK.out _ _ (by exact two_endB _ _ _ X6.out (Nat.ne_of_gt hlt5)) (fun hHeld => ?_)
                      clear hK K
                      try simp only [Act.put, List.setIfInBounds_toArray, List.set_cons_zero, List.set_cons_succ, List.getElem_toArray, List.getElem_cons_succ, List.getElem_cons_zero]
                      refine wpAnyH_take (i := 13) (v := ?_) rfl (by kernel_rfl) (by kernel_rfl) (by kernel_rfl) (fun _ _ _ h => h) (Or.inl ⟨by rfl, ?_⟩) (by assumption) ?_
                      rotate_left
                      · intro w' hSw
                        go_simp <;> with_reducible rfl
                      try simp only [Act.put, List.setIfInBounds_toArray, List.set_cons_zero, List.set_cons_succ, List.getElem_toArray, List.getElem_cons_succ, List.getElem_cons_zero]
                      refine wpAnyH_done (by kernel_rfl) ?_ _
                      go_wp2_with fail
                      refine bodyPost_ret (v := .tuple #[.agg #[.string ⟨#[103]⟩, .slice (some ⟨w6.heap.size + 1, 0, none⟩) 2 2], .int .i64 (n6 : Int)]) (by simp [results, Try.results27, go_sem, World.cell?_setCell_same, World.cell?_setCell_other, r0, r1, hlt56, hlt57, hlt58, World.cell?_alloc_old]) rfl ?_
                      exact grow_two B6.out hlt56 S56.out S6.out (fun b hb => Nat.lt_of_lt_of_le R1.out.lt hb) HZ6.out HBIG.out (err_node (by decide) (by decide) (by rw [errL_cons, if_pos HE5.out]; exact HE6.out)) (by omega) (by exact (blk_at (by simp [World.setCell]) _ _).alloc _)
              · go_simp
                refine hK.out _ _ (by exact hHeld.alloc _) (fun hHeld => ?_)
                clear hK K
                try simp only [Act.put, List.setIfInBounds_toArray, List.set_cons_zero, List.set_cons_succ, List.getElem_toArray, List.getElem_cons_succ, List.getElem_cons_zero]
                refine wpAnyH_ready (rs := [0, 3]) (by kernel_rfl) (by simp) ?_
                refine AllReadyH.cons rfl (fun K hK => ?_) (AllReadyH.cons rfl (fun K hK => ?_) AllReadyH.nil)
                · go_simp
                  refine hK.out _ _ (by exact hHeld.alloc _) (fun hHeld => ?_)
                  clear hK K
                  try simp only [Act.put, List.setIfInBounds_toArray, List.set_cons_zero, List.set_cons_succ, List.getElem_toArray, List.getElem_cons_succ, List.getElem_cons_zero]
                  refine held_mono (S' := TwoF w5 w6 t5 t6 a5 a6 c5 c6 (w6.heap.size + 1 + 1)) (fun _ h => h.1) _ _ _ _ ?_
                  replace hHeld := two_up (b := w6.heap.size + 1 + 1) hHeld (by exact blk_at (w := (w6.alloc (.cells #[.string t6.name, .slice a6 t6.args.length c6] 25)).alloc (.cells #[.string t5.name, .slice a5 t5.args.length c5, .string t6.name, .slice a6 t6.args.length c6] 25)) (by simp) _ _)
                  refine wpAnyH_ready (rs := [3]) (by kernel_rfl) (by simp) ?_
                  refine AllReadyH.cons rfl (fun K hK => ?_) AllReadyH.nil
                  · go_simp
                    go_at_call 9
                    refine (HPK.out _).mono ?_
                    rintro e w7 ⟨rfl, rfl⟩
                    go_simp
                    refine hK.out _ _ (by exact hHeld) (fun hHeld => ?_)
                    clear hK K
                    try simp only [Act.put, List.setIfInBounds_toArray, List.set_cons_zero, List.set_cons_succ, List.getElem_toArray, List.getElem_cons_succ, List.getElem_cons_zero]
                    refine wpAnyH_take (i := 4) (v := ?_) rfl (by kernel_rfl) (by kernel_rfl) (by kernel_rfl) (fun _ _ _ h => h) (Or.inl ⟨by rfl, ?_⟩) (by assumption) ?_
                    rotate_left
                    · intro w' hSw
                      go_simp <;> with_reducible rfl
                    try simp only [Act.put, List.setIfInBounds_toArray, List.set_cons_zero, List.set_cons_succ, List.getElem_toArray, List.getElem_cons_succ, List.getElem_cons_zero]
                    refine wpAnyH_take (i := 5) (v := ?_) rfl (by kernel_rfl) (by kernel_rfl) (by kernel_rfl) (fun _ _ _ h => h) (Or.inl ⟨by rfl, ?_⟩) (by assumption) ?_
                    rotate_left
                    · intro w' hSw
                      go_simp <;> with_reducible rfl
                    try simp only [Act.put, List.setIfInBounds_toArray, List.set_cons_zero, List.set_cons_succ, List.getElem_toArray, List.getElem_cons_succ, List.getElem_cons_zero]
                    refine wpAnyH_take (i := 6) (v := ?_) rfl (by kernel_rfl) (by kernel_rfl) (by kernel_rfl) (fun _ _ _ h => h) (Or.inl ⟨by rfl, ?_⟩) (by assumption) ?_
                    rotate_left
                    · intro w' hSw
                      have k4 : w'.cell? ⟨w6.heap.size + 1 + 1, 0, none⟩ = some (.string ⟨#[102]⟩) := hSw.2.cell 0
                      have k5 : w'.cell? ⟨w6.heap.size + 1 + 1, 1, none⟩ = some (.string ⟨#[103]⟩) := hSw.2.cell 1
                      go_simp <;> with_reducible rfl
                    try simp only [Act.put, List.setIfInBounds_toArray, List.set_cons_zero, List.set_cons_succ, List.getElem_toArray, List.getElem_cons_succ, List.getElem_cons_zero]
                    refine wpAnyH_take (i := 10) (v := ?_) rfl (by kernel_rfl) (by kernel_rfl) (by kernel_rfl) (fun _ _ _ h => h) (Or.inl ⟨by rfl, ?_⟩) (by assumption) ?_
                    rotate_left
                    · intro w' hSw
                      go_simp <;> with_reducible rfl
                    try simp only [Act.put, List.setIfInBounds_toArray, List.set_cons_zero, List.set_cons_succ, List.getElem_toArray, List.getElem_cons_succ, List.getElem_cons_zero]
                    refine wpAnyH_ready (rs := [12]) (by kernel_rfl) (by simp) ?_
                    refine AllReadyH.cons rfl (fun K hK => ?_) AllReadyH.nil
                    · go_simp
                      refine hK.out _ _ (by exact two_endB _ _ _ X6.out (Nat.ne_of_gt hlt5)) (fun hHeld => ?_)
                      clear hK K
                      try simp only [Act.put, List.setIfInBounds_toArray, List.set_cons_zero, List.set_cons_succ, List.getElem_toArray, List.getElem_cons_succ, List.getElem_cons_zero]
                      refine wpAnyH_take (i := 13) (v := ?_) rfl (by kernel_rfl) (by kernel_rfl) (by kernel_rfl) (fun _ _ _ h => h) (Or.inl ⟨by rfl, ?_⟩) (by assumption) ?_
                      rotate_left
                      · intro w' hSw
                        go_simp <;> with_reducible rfl
                      try simp only [Act.put, List.setIfInBounds_toArray, List.set_cons_zero, List.set_cons_succ, List.getElem_toArray, List.getElem_cons_succ, List.getElem_cons_zero]
                      refine wpAnyH_done (by kernel_rfl) ?_ _
                      go_wp2_with fail
                      refine bodyPost_ret (v := .tuple #[.agg #[.string ⟨#[103]⟩, .slice (some ⟨w6.heap.size + 1, 0, none⟩) 2 2], .int .i64 (n6 : Int)]) (by simp [results, Try.results27, go_sem, World.cell?_setCell_same, World.cell?_setCell_other, r0, r1, hlt56, hlt57, hlt58, World.cell?_alloc_old]) rfl ?_
                      exact grow_two B6.out hlt56 S56.out S6.out (fun b hb => Nat.lt_of_lt_of_le R1.out.lt hb) HZ6.out HBIG.out (err_node (by decide) (by decide) (by rw [errL_cons, if_pos HE5.out]; exact HE6.out)) (by omega) (by exact (blk_at (by simp [World.setCell]) _ _).alloc _)
                · go_simp
                  go_at_call 9
                  refine (HPK.out _).mono ?_
                  rintro e w7 ⟨rfl, rfl⟩
                  go_simp
                  refine hK.out _ _ (by exact hHeld) (fun hHeld => ?_)
                  clear hK K
                  try simp only [Act.put, List.setIfInBounds_toArray, List.set_cons_zero, List.set_cons_succ, List.getElem_toArray, List.getElem_cons_succ, List.getElem_cons_zero]
                  refine wpAnyH_take (i := 4) (v := ?_) rfl (by kernel_rfl) (by kernel_rfl) (by kernel_rfl) (fun _ _ _ h => h) (Or.inl ⟨by rfl, ?_⟩) (by assumption) ?_
                  rotate_left
                  · intro w' hSw
                    go_simp <;> with_reducible rfl
                  try simp only [Act.put, List.setIfInBounds_toArray, List.set_cons_zero, List.set_cons_succ, List.getElem_toArray, List.getElem_cons_succ, List.getElem_cons_zero]
                  refine wpAnyH_ready (rs := [0]) (by kernel_rfl) (by simp) ?_
                  refine AllReadyH.cons rfl (fun K hK => ?_) AllReadyH.nil
                  · go_simp
                    refine hK.out _ _ (by exact hHeld.alloc _) (fun hHeld => ?_)
                    clear hK K
                    try simp only [Act.put, List.setIfInBounds_toArray, List.set_cons_zero, List.set_cons_succ, List.getElem_toArray, List.getElem_cons_succ, List.getElem_cons_zero]
                    refine held_mono (S' := TwoF w5 w6 t5 t6 a5 a6 c5 c6 (w6.heap.size + 1 + 1)) (fun _ h => h.1) _ _ _ _ ?_
                    replace hHeld := two_up (b := w6.heap.size + 1 + 1) hHeld (by exact blk_at (w := (w6.alloc (.cells #[.string t6.name, .slice a6 t6.args.length c6] 25)).alloc (.cells #[.string t5.name, .slice a5 t5.args.length c5, .string t6.name, .slice a6 t6.args.length c6] 25)) (by simp) _ _)
                    refine wpAnyH_take (i := 5) (v := ?_) rfl (by kernel_rfl) (by kernel_rfl) (by kernel_rfl) (fun _ _ _ h => h) (Or.inl ⟨by rfl, ?_⟩) (by assumption) ?_
                    rotate_left
                    · intro w' hSw
                      go_simp <;> with_reducible rfl
                    try simp only [Act.put, List.setIfInBounds_toArray, List.set_cons_zero, List.set_cons_succ, List.getElem_toArray, List.getElem_cons_succ, List.getElem_cons_zero]
                    refine wpAnyH_take (i := 6) (v := ?_) rfl (by kernel_rfl) (by kernel_rfl) (by kernel_rfl) (fun _ _ _ h => h) (Or.inl ⟨by rfl, ?_⟩) (by assumption) ?_
                    rotate_left
                    · intro w' hSw
                      have k4 : w'.cell? ⟨w6.heap.size + 1 + 1, 0, none⟩ = some (.string ⟨#[102]⟩) := hSw.2.cell 0
                      have k5 : w'.cell? ⟨w6.heap.size + 1 + 1, 1, none⟩ = some (.string ⟨#[103]⟩) := hSw.2.cell 1
                      go_simp <;> with_reducible rfl
                    try simp only [Act.put, List.setIfInBounds_toArray, List.set_cons_zero, List.set_cons_succ, List.getElem_toArray, List.getElem_cons_succ, List.getElem_cons_zero]
                    refine wpAnyH_take (i := 10) (v := ?_) rfl (by kernel_rfl) (by kernel_rfl) (by kernel_rfl) (fun _ _ _ h => h) (Or.inl ⟨by rfl, ?_⟩) (by assumption) ?_
                    rotate_left
                    · intro w' hSw
                      go_simp <;> with_reducible rfl
                    try simp only [Act.put, List.setIfInBounds_toArray, List.set_cons_zero, List.set_cons_succ, List.getElem_toArray, List.getElem_cons_succ, List.getElem_cons_zero]
                    refine wpAnyH_ready (rs := [12]) (by kernel_rfl) (by simp) ?_
                    refine AllReadyH.cons rfl (fun K hK => ?_) AllReadyH.nil
                    · go_simp
                      refine hK.out _ _ (by exact two_endB _ _ _ X6.out (Nat.ne_of_gt hlt5)) (fun hHeld => ?_)
                      clear hK K
                      try simp only [Act.put, List.setIfInBounds_toArray, List.set_cons_zero, List.set_cons_succ, List.getElem_toArray, List.getElem_cons_succ, List.getElem_cons_zero]
                      refine wpAnyH_take (i := 13) (v := ?_) rfl (by kernel_rfl) (by kernel_rfl) (by kernel_rfl) (fun _ _ _ h => h) (Or.inl ⟨by rfl, ?_⟩) (by assumption) ?_
                      rotate_left
                      · intro w' hSw
                        go_simp <;> with_reducible rfl
                      try simp only [Act.put, List.setIfInBounds_toArray, List.set_cons_zero, List.set_cons_succ, List.getElem_toArray, List.getElem_cons_succ, List.getElem_cons_zero]
                      refine wpAnyH_done (by kernel_rfl) ?_ _
                      go_wp2_with fail
                      refine bodyPost_ret (v := .tuple #[.agg #[.string ⟨#[103]⟩, .slice (some ⟨w6.heap.size + 1, 0, none⟩) 2 2], .int .i64 (n6 : Int)]) (by simp [results, Try.results27, go_sem, World.cell?_setCell_same, World.cell?_setCell_other, r0, r1, hlt56, hlt57, hlt58, World.cell?_alloc_old]) rfl ?_
                      exact grow_two B6.out hlt56 S56.out S6.out (fun b hb => Nat.lt_of_lt_of_le R1.out.lt hb) HZ6.out HBIG.out (err_node (by decide) (by decide) (by rw [errL_cons, if_pos HE5.out]; exact HE6.out)) (by omega) (by exact (blk_at (by simp [World.setCell]) _ _).alloc _)
end Go.Proofs.Ytpjdkdebjkpmmaj

/- Walks: a term out of raw numbers, and the law on all its places. -/
namespace Go.Proofs.Ytpjdkdebjkpmmaj
open Go.RowKit
set_option linter.unusedSimpArgs false
set_option linter.unusedVariables false
set_option maxRecDepth 8000

theorem one_world {w w5 : World} {Z : Nat → Prop} {a : Option Addr} {l : List Tm} {v0 v1 : Value} {o1 : Obj} (hs : Sl w5 Z a l) (hZ : ∀ b, Z b → w.heap.size < b) : Sl (((w5.setCell ⟨w.heap.size, 0, none⟩ v0).setCell ⟨w.heap.size, 1, none⟩ v1).alloc o1) (fun b => Z b ∧ b < w5.heap.size) a l := by
  refine (hs.mono (Y := fun b => Z b ∧ b < w5.heap.size) fun b h1 h2 => ⟨h1, h2⟩).kept fun b hb => ?_
  have := hZ b hb.1
  rw [Below.heap_alloc _ _ _ (by simp [World.setCell]; omega), Below.heap_setCell _ _ _ _ (by simp; omega), Below.heap_setCell _ _ _ _ (by simp; omega)]

theorem termOf_any (nv : Nat) (hnv : 1 ≤ nv) (hnv4 : nv ≤ 4) (zs : List Int) (hr : ∀ z ∈ zs, Rng z) (hzl : zs.length ≤ 1000000) (m i : Nat) (u : Value) (w : World) (X : Nat → Prop) (hu : PV w X u zs) (hm : m ≤ 100) (hi : i + top m ≤ 1000) :
    Calls Try.prog 8 #[u, .int .i64 (i : Int), .int .i64 (m : Int), .int .i64 (nv : Int)] w fun e w' => ∃ (t : Tm) (a : Option Addr) (c : Nat), e = .returned (.agg #[.string t.name, .slice a t.args.length c]) ∧ Sl w' (fun b => w.heap.size ≤ b) a t.args ∧ sizeL [t] ≤ top m ∧ Below w.heap.size w w' ∧ errL [t] = 0 := by
  have HU := hide hu
  clear hu
  go_enter Try.func8, Try.ntmps8
  go_wp2_with fail
  refine (grow_any nv hnv hnv4 zs hr hzl m i u _ X (by exact HU.out.alloc _) hm hi).mono ?_
  rintro e w5 ⟨a5, c5, n5, t5, rfl, hs5, hc5, hc5', hz5, hn5, hn5', hb5, he5⟩
  have HE5 := hide he5
  clear he5
  have R5 := hide ((Blk.new w #[.string ⟨#[]⟩, .slice none 0 0] 25).below hb5 (by simp))
  have B5 := hide (((Below.refl w.heap.size w).alloc (Nat.le_refl _) (.cells #[.string ⟨#[]⟩, .slice none 0 0] 25)).trans (hb5.mono (by simp)))
  have S5 := hide hs5
  have hlt5 : w.heap.size < w5.heap.size := R5.out.lt
  clear hb5 hs5
  have r0 : w5.cell? ⟨w.heap.size, 0, none⟩ = some (.string ⟨#[]⟩) := R5.out.cell 0
  have r1 : w5.cell? ⟨w.heap.size, 1, none⟩ = some (.slice none 0 0) := R5.out.cell 1
  have rf := R5.out.frozen
  go_wp2_with fail
  refine bodyPost_ret (v := .agg #[.string t5.name, .slice a5 t5.args.length c5]) (by simp [results, Try.results8, go_sem, World.cell?_setCell_same, World.cell?_setCell_other, r0, r1, hlt5, World.cell?_alloc_old]) rfl ?_
  refine ⟨t5, a5, c5, rfl, (one_world S5.out (fun b hb => ?_)).mono (fun b hb _ => ?_), hz5, ?_, HE5.out⟩
  · simp at hb; omega
  · have := hb.1; simp at this; omega
  · exact ((B5.out.setCell (by simp) _).setCell (by simp) _).alloc (by simp [World.setCell]; omega) _

end Go.Proofs.Ytpjdkdebjkpmmaj

/- Walks: bindings out of raw numbers. -/
namespace Go.Proofs.Ytpjdkdebjkpmmaj
open Go.RowKit
set_option linter.unusedSimpArgs false
set_option linter.unusedVariables false
set_option maxRecDepth 8000

/-- The names of made bindings. -/
def four : List ByteArray := [⟨#[85]⟩, ⟨#[88]⟩, ⟨#[89]⟩, ⟨#[90]⟩]
theorem four_at (k : Nat) (h : k < 4) : ∃ s, (#[Value.string ⟨#[85]⟩, .string ⟨#[88]⟩, .string ⟨#[89]⟩, .string ⟨#[90]⟩] : Array Value)[k]? = some (.string s) ∧ four.take (k + 1) = four.take k ++ [s] := by
  match k, h with
  | 0, _ => exact ⟨_, rfl, rfl⟩
  | 1, _ => exact ⟨_, rfl, rfl⟩
  | 2, _ => exact ⟨_, rfl, rfl⟩
  | 3, _ => exact ⟨_, rfl, rfl⟩
def BfInv (w : World) (m : Nat) (u v : Value) (wr : World) : Prop :=
  ∃ (k : Nat) (cs : List Bc), k ≤ 4 ∧ v = .int .i64 (k : Int) ∧ BRow wr (w.heap.size + 1) (fun _ => False) u cs ∧ (cs.map fun x => x.1.nm).Sublist (four.take k) ∧ (∀ x ∈ cs, sizeL [x.1.t] ≤ top m ∧ errL [x.1.t] = 0) ∧ Blk wr w.heap.size #[.string ⟨#[85]⟩, .string ⟨#[88]⟩, .string ⟨#[89]⟩, .string ⟨#[90]⟩] 9 ∧ Below w.heap.size w wr

set_option maxHeartbeats 1000000 in
theorem bindsFrom_any (nv : Nat) (hnv : 1 ≤ nv) (hnv4 : nv ≤ 4) (zs : List Int) (hr : ∀ z ∈ zs, Rng z) (hzl : zs.length ≤ 1000000) (m i : Nat) (u : Value) (w : World) (X : Nat → Prop) (hu : PV w X u zs) (hm : m ≤ 100) (hi : i + 30 + top m ≤ 1000) :
    Calls Try.prog 11 #[u, .int .i64 (i : Int), .int .i64 (m : Int), .int .i64 (nv : Int)] w fun e w' => ∃ v ls, e = .returned v ∧ BV w' (fun b => w.heap.size ≤ b) v ls ∧ (ls.map (·.nm)).Sublist four ∧ (∀ d ∈ ls, sizeL [d.t] ≤ top m ∧ errL [d.t] = 0) ∧ Below w.heap.size w w' := by
  have HU := hide hu
  clear hu
  obtain ⟨i0, hi0, hz0, hz1, hz2⟩ := info_parts Try.infoBind
  go_enter Try.func11, Try.ntmps11
  go_wp2_with fail
  go_loopw [9, 11] (fun u v wr => BfInv w m u v wr) (fun u v wr => 4 - (intOf v).toNat)
  case atStart => exact ⟨0, [], by omega, rfl, BRow.start _ _ _, by simp, by simp, Blk.new w _ _, (Below.refl _ _).alloc (Nat.le_refl _) _⟩
  case round =>
    obtain ⟨k, cs, hk, rfl, hrow, hnm, hall, hnb, hb⟩ := hrel
    have HROW := hide hrow
    have HNM := hide hnm
    have HALL := hide hall
    have HNB := hide hnb
    have HB := hide hb
    clear hrow hnm hall hnb
    by_cases hlt : k < 4
    · have hlt2 : (k : Int) < 4 := by omega
      have RA := hide (raw_any zs u wr X (HU.out.later hb) hr (i + k) (by omega) hzl)
      have e1 : ((i + k : Nat) : Int) = (i : Int) + (k : Int) := by omega
      rw [e1] at RA
      clear hb e1
      go_wp2_with fail
      refine RA.out.mono ?_
      rintro e w1 ⟨c1, rfl, hc1, hb1⟩
      have HB1 := hide (HB.out.trans (hb1.mono HB.out.size))
      have HROW1 := hide (HROW.out.below hb1)
      have HNB1 := hide (HNB.out.below hb1 HNB.out.lt)
      clear hb1
      go_wp2_with fail
      refine (pick_any _ 4 (by decide) (by decide) ⟨by omega, by omega⟩ _).mono ?_
      rintro e w2 ⟨k2, rfl, hk2, rfl⟩
      by_cases hk0 : 0 < k2
      · have hk0I : (0 : Int) < (k2 : Int) := by omega
        obtain ⟨s, hs4, htk⟩ := four_at k hlt
        have hn0 : w2.cell? ⟨w.heap.size, k, none⟩ = some (.string s) := (HNB1.out.cell k).trans hs4
        have HTK := hide htk
        clear hs4 htk
        have hw1 : IntKind.i64.wrap ((i : Int) + 4) = (i : Int) + 4 := by rw [IntKind.wrap_i64]; omega
        have hw2 : IntKind.i64.wrap (7 * (k : Int)) = 7 * (k : Int) := by rw [IntKind.wrap_i64]; omega
        have hw3 : IntKind.i64.wrap ((i : Int) + 4 + 7 * (k : Int)) = (i : Int) + 4 + 7 * (k : Int) := by rw [IntKind.wrap_i64]; omega
        have hlenc : cs.length ≤ 4 := by
          have h := HNM.out.length_le
          simp [four] at h
          omega
        have TO := hide (termOf_any nv hnv hnv4 zs hr hzl m (i + 4 + 7 * k) u w2.drew X (by exact (HU.out.later HB1.out).later (below_drewN (Below.refl _ _) 1)) hm (by omega))
        have e1 : ((i + 4 + 7 * k : Nat) : Int) = (i : Int) + 4 + 7 * (k : Int) := by omega
        rw [e1] at TO
        clear e1
        go_wp2_with fail
        go_region_law (first
          | (go_simp; go_at_call 8; refine TO.out.mono ?_; rintro e w5 ⟨t5, a5, c5, rfl, hs5, hz5, hb5, he5⟩; have hn5 : w5.cell? ⟨w.heap.size, k, none⟩ = some (.string s) := ((HNB1.out.drewN 1).below hb5 (by have := HNB1.out.lt; simp; omega)).cell k ▸ (HNB1.out.cell k) ▸ hn0)
          | (refine step_append_lies _ rfl _ _ 30 rfl (w.heap.size + 1) 46 i0 _ 3 56 Try.underlying30 hi0 hz0 hz1 hz2 rfl (by decide) u9 cs.length (flat3 cs) rfl (by exact ((HROW1.out.below (below_drewN (Below.refl _ _) 1)).below hb5).own.alloc _) ⟨w5.heap.size, 0, none⟩ 1 1 (enc3 (⟨s, t5⟩, a5, c5)) rfl rfl (cell_three_new _ _ _ _ _) (fun x hx => by simp [enc3] at hx; rcases hx with rfl | rfl | rfl <;> rfl) (by decide) (by unfold maxLen; omega) (by omega) (by have := hb5.size; have := HNB1.out.lt; simp at *; omega) _ rfl ?_; intro g cap w6 hown6 hgrow6 hat6 hlt6))
        all_goals
          have hb25 : Below w2.heap.size w2 w5 := (below_drewN (Below.refl _ _) 1).trans (hb5.mono (by simp))
          have hN2 : w.heap.size + 1 ≤ w2.heap.size := HNB1.out.lt
          have hz25 := hb25.size
          have HR6 := hide (HROW1.out.push (w1 := w5) (x := (⟨s, t5⟩, a5, c5)) hN2 (fun _ h => h.elim) hb25 (hs5.mono fun b hb _ => Or.inr (by simpa using hb)) _ rfl hown6 hgrow6 hat6)
          have hltr := HROW1.out.own.lt
          have HB6 : Hid (Below w.heap.size w w6) := ((HB1.out.trans (hb25.mono HB1.out.size)).alloc (by omega) _).grown hgrow6 (by simp; omega) (fun j hj => by have := (hltr j hj).1; omega)
          have HNB6 : Hid (Blk w6 w.heap.size #[.string ⟨#[85]⟩, .string ⟨#[88]⟩, .string ⟨#[89]⟩, .string ⟨#[90]⟩] 9) := ((HNB1.out.below hb25 HNB1.out.lt).alloc _).grown hgrow6 (HROW1.out.ne (Nat.lt_succ_self _))
          have HN6 : Hid (((cs ++ [((⟨s, t5⟩, a5, c5) : Bc)]).map fun x : Bc => x.1.nm).Sublist (four.take (k + 1))) := by
            unfold Hid
            rw [HTK.out, List.map_append]
            exact HNM.out.append (List.Sublist.refl _)
          have HA6 : Hid (∀ x ∈ cs ++ [((⟨s, t5⟩, a5, c5) : Bc)], sizeL [x.1.t] ≤ top m ∧ errL [x.1.t] = 0) := fun x hx => by
            rcases List.mem_append.1 hx with hx | hx
            · exact HALL.out x hx
            · have e : x = (⟨s, t5⟩, a5, c5) := by simpa using hx
              subst e
              exact ⟨hz5, he5⟩
          clear hown6 hgrow6 hat6 hlt6 hb5 hb25 hs5 hn5
          go_wp2_with fail
          go_roundw
          case rel => exact ⟨k + 1, _, by omega, by go_num, HR6.out, HN6.out, HA6.out, HNB6.out, HB6.out⟩
          case measure => simp [intOf]; omega
      · have hk0I : ¬ (0 : Int) < (k2 : Int) := by omega
        have HN : Hid ((cs.map fun x => x.1.nm).Sublist (four.take (k + 1))) := HNM.out.trans (List.take_sublist_take_left (by omega))
        go_wp2_with fail
        go_roundw
        case rel => exact ⟨k + 1, cs, by omega, by go_num, HROW1.out, HN.out, HALL.out, HNB1.out, HB1.out⟩
        case measure => simp [intOf]; omega
    · have HN : Hid ((cs.map fun x => x.1.nm).Sublist four) := by
        have h := HNM.out
        rwa [List.take_of_length_le (by simp [four]; omega)] at h
      go_wp2_with fail
      go_ret
      exact ⟨_, _, rfl, HROW.out.bv.mono (fun b hb _ => by rcases hb with h | h; exact h.elim; omega), by rw [List.map_map]; exact HN.out, fun d hd => by obtain ⟨x, hx, rfl⟩ := List.mem_map.1 hd; exact HALL.out x hx, HB.out⟩
#print axioms bindsFrom_any
end Go.Proofs.Ytpjdkdebjkpmmaj

/- What matching an instance finds, put into the pattern: plain. -/
namespace Go.Proofs.Ytpjdkdebjkpmmaj
open Go.RowKit
set_option linter.unusedSimpArgs false
set_option linter.unusedVariables false

theorem errL_on {ls : List Bd} (hE : bindsE ls = 0) : ∀ l : List Tm, errL l = 0 → errL (onL ls l) = 0 := by
  intro l
  induction l using Tm.indL with
  | h0 => intro _; simp [onL, errL]
  | h s l r ihl ihr =>
    intro he
    obtain ⟨h1, h2, h3⟩ := errL_parts he
    have hn := errL_name he
    rw [onL_cons]
    have key : errL [onT ls ⟨s, l⟩] = 0 := by
      cases hv : varB s with
      | false => rw [onT_sym hE hv]; exact err_node hn hv (ihl h2)
      | true =>
        have hl := h1 hv
        subst hl
        cases hf : forT ls s with
        | none =>
          rw [onT_deep (Or.inr hf)]
          simpa [onL] using err_leaf hn
        | some x =>
          rw [onT_some hf]
          have hm := (forT_var hE hf).2
          unfold mayE at hm
          split at hm
          · cases hm
          · exact hm
    rw [errL_cons, if_pos key]
    exact ihr h3
theorem errL_onT {ls : List Bd} (hE : bindsE ls = 0) {p : Tm} (he : errL [p] = 0) : errL [onT ls p] = 0 := by
  have h := errL_on hE [p] he
  rw [onL_cons] at h
  simpa [onL] using h
theorem preL_err : ∀ l : List Tm, errL l = 0 → ∀ k ∈ preL l, nameB k.name = true := by
  intro l
  induction l using Tm.indL with
  | h0 => intro _ k hk; simp [preL] at hk
  | h s l r ihl ihr =>
    intro he k hk
    obtain ⟨h1, h2, h3⟩ := errL_parts he
    rw [preL] at hk
    rcases List.mem_cons.1 hk with rfl | hk
    · exact errL_name he
    · rcases List.mem_append.1 hk with hk | hk
      · exact ihl h2 k hk
      · exact ihr h3 k hk
theorem mayE_mk {t : Tm} (he : errL [t] = 0) (hs : sizeL [t] ≤ 200) : mayE t = 0 := by
  unfold mayE
  rw [if_neg (by omega)]; exact he
theorem mayE_err {t : Tm} (h : mayE t = 0) : errL [t] = 0 := by
  unfold mayE at h
  split at h
  · cases h
  · exact h
theorem ltB_leB {a b : ByteArray} (h : ltB a b = true) : leB b a = false := by
  unfold leB
  have h1 : Op.bytesLess b.toList a.toList = false := ltB_asymm h
  rw [h1, Bool.false_or]
  cases he : (b.toList == a.toList) with
  | false => rfl
  | true =>
    have e : b = a := bytes_inj (by simpa using he)
    rw [e, ltB_irrefl] at h; cases h
theorem bindsE_mk {l : List Bd} (hs : SortedB l) (hl : l.length ≤ 40) (ha : ∀ d ∈ l, (nameB d.nm && varB d.nm) = true ∧ mayE d.t = 0) : bindsE l = 0 := by
  unfold bindsE
  rw [if_neg (by omega)]
  have key : ∀ n, n ≤ l.length → bmT l n = 0 := by
    intro n
    induction n with
    | zero => intro _; rfl
    | succ n ih =>
      intro hn
      refine bmT_next (ih (by omega)) ?_
      have hk : n < l.length := by omega
      obtain ⟨h1, h2⟩ := ha l[n] (List.getElem_mem hk)
      cases n with
      | zero => rw [bmK_first hk h1]; exact h2
      | succ j =>
        have hlt : ltB (l[j]'(by omega)).nm l[j + 1].nm = true := by
          unfold SortedB at hs
          rw [List.pairwise_iff_getElem] at hs
          exact hs j (j + 1) (by omega) hk (by omega)
        rw [bmK_may hk h1 (ltB_leB hlt)]; exact h2
  exact key _ (Nat.le_refl _)
theorem onL_eq {ls l' : List Bd} (hE : bindsE ls = 0) (hE' : bindsE l' = 0) : ∀ l : List Tm, errL l = 0 → (∀ k ∈ preL l, varB k.name = true → forT l' k.name = some (onT ls ⟨k.name, []⟩)) → onL l' l = onL ls l := by
  intro l
  induction l using Tm.indL with
  | h0 => intro _ _; simp [onL]
  | h s l r ihl ihr =>
    intro he hk
    obtain ⟨h1, h2, h3⟩ := errL_parts he
    rw [onL_cons, onL_cons, ihr h3 fun k hk' hv => hk k (by rw [preL]; simp [hk']) hv]
    congr 1
    cases hv : varB s with
    | false => rw [onT_sym hE hv, onT_sym hE' hv, ihl h2 fun k hk' hv' => hk k (by rw [preL]; simp [hk']) hv']
    | true =>
      have hl := h1 hv
      subst hl
      exact onT_some (hk ⟨s, []⟩ (by rw [preL]; simp) hv)

/-- All that the law on matching an instance asks. -/
theorem topMatch_pure {ls : List Bd} {p : Tm} (hE : bindsE ls = 0) (he : errL [p] = 0) (hsp : sizeL [p] ≤ 40) (hsx : sizeL [onT ls p] ≤ 200) :
    twoE p (onT ls p) = 0 ∧ ∃ h', mtT p (onT ls p) [] = some h' ∧ ∀ l' : List Bd, l'.Perm h' → SortedB l' → bindsE l' = 0 ∧ mayE p = 0 ∧ fT l' p = onT ls p ∧ l'.length = (varsP [] (preL [p])).length := by
  have hmp : mayE p = 0 := mayE_mk he (by omega)
  have hmx : mayE (onT ls p) = 0 := mayE_mk (errL_onT hE he) hsx
  refine ⟨by unfold twoE; rw [if_pos hmp]; exact hmx, ?_⟩
  obtain ⟨h', h1, h2, h3⟩ := mtT_on hE he
  refine ⟨h', h1, fun l' hp hs => ?_⟩
  have hlen : l'.length = (varsP [] (preL [p])).length := by
    have e1 := hp.length_eq
    have e2 := congrArg List.length h3
    rw [List.length_map] at e2
    omega
  have hE' : bindsE l' = 0 := by
    refine bindsE_mk hs ?_ fun d hd => ?_
    · have e1 := varsP_len (preL [p]) []
      have e2 := preL_length [p]
      simp at e1
      omega
    · have hd' : d ∈ h' := hp.subset hd
      have hn : d.nm ∈ varsP [] (preL [p]) := by rw [← h3]; exact List.mem_map.2 ⟨d, hd', rfl⟩
      rcases varsP_sub _ _ _ hn with h4 | ⟨k, hk, hkn, hv⟩
      · cases h4
      · refine ⟨by rw [hv, ← hkn, preL_err [p] he k hk]; rfl, mayE_mk ?_ ?_⟩
        · rw [h2 d hd']
          exact errL_onT hE (err_leaf (by rw [← hkn]; exact preL_err [p] he k hk))
        · have := mtT_size h1 d hd'
          omega
  refine ⟨hE', hmp, ?_, hlen⟩
  rw [fT_onT hE' p hmp]
  have h5 := onL_eq hE hE' [p] he fun k hk hv => by
    have hn := (varsP_has (preL [p]) []).2 k hk hv
    rw [← h3] at hn
    obtain ⟨d, hd, e⟩ := List.mem_map.1 hn
    have h6 := forT_of hs.apart (hp.symm.subset hd)
    have e' : d.nm = k.name := e
    rw [e', h2 d hd, e'] at h6
    exact h6
  rw [onL_cons, onL_cons] at h5
  simp only [onL, List.cons.injEq, and_true] at h5
  exact h5
theorem topMatch_in {p x : Tm} {sa sg : ByteArray} (hp : mayE p = 0) (hx : errL [x] = 0) (hs : sizeL [x] ≤ 190) (hm : mtB p x = true) (ha : nameB sa = true) (hg : nameB sg = true) (hv : varB sg = false) :
    twoE ⟨sg, [⟨sa, []⟩, x]⟩ p = 0 ∧ hcB ⟨sg, [⟨sa, []⟩, x]⟩ p = true := by
  have e1 : sizeL [(⟨sg, [⟨sa, []⟩, x]⟩ : Tm)] = 2 + sizeL [x] := by obtain ⟨s, l⟩ := x; simp [sizeL]; omega
  have h1 : mayE ⟨sg, [⟨sa, []⟩, x]⟩ = 0 := by
    refine mayE_mk (err_node hg hv ?_) (by omega)
    rw [errL_cons, if_pos (err_leaf ha)]; exact hx
  refine ⟨by unfold twoE; rw [if_pos h1]; exact hp, ?_⟩
  unfold hcB
  rw [List.any_eq_true]
  refine ⟨x, ?_, hm⟩
  obtain ⟨s, l⟩ := x
  simp [preL]
theorem four_E {ls : List Bd} (hs : (ls.map (·.nm)).Sublist four) (ha : ∀ d ∈ ls, sizeL [d.t] ≤ 200 ∧ errL [d.t] = 0) : bindsE ls = 0 := by
  refine bindsE_mk ?_ ?_ fun d hd => ⟨?_, mayE_mk (ha d hd).2 (ha d hd).1⟩
  · have lt1 : ∀ x y : UInt8, x < y → ltB ⟨#[x]⟩ ⟨#[y]⟩ = true := fun x y h => by
      unfold ltB
      rw [ByteArray.toList_eq, ByteArray.toList_eq]
      simp [Op.bytesLess, h]
    have h4 : four.Pairwise fun a b => ltB a b = true := by
      unfold four
      simp only [List.pairwise_cons, List.mem_cons, List.not_mem_nil, or_false, List.Pairwise.nil, and_true, false_or]
      refine ⟨fun b hb => ?_, fun b hb => ?_, fun b hb => ?_, fun b hb => by cases hb⟩
      · rcases hb with rfl | rfl | rfl <;> exact lt1 _ _ (by decide)
      · rcases hb with rfl | rfl <;> exact lt1 _ _ (by decide)
      · subst hb; exact lt1 _ _ (by decide)
    exact List.pairwise_map.1 (h4.sublist hs)
  · have := hs.length_le
    simp [four] at this
    omega
  · have h4 : ∀ n ∈ four, (nameB n && varB n) = true := by unfold four; decide
    exact h4 _ (hs.subset (List.mem_map.2 ⟨d, hd, rfl⟩))
#print axioms topMatch_pure
#print axioms topMatch_in
#print axioms four_E
end Go.Proofs.Ytpjdkdebjkpmmaj


/- Walks: two answers that are terms. -/
namespace Go.Proofs.Ytpjdkdebjkpmmaj
open Go.RowKit
set_option linter.unusedSimpArgs false
set_option linter.unusedVariables false

end Go.Proofs.Ytpjdkdebjkpmmaj


/- Walks: bindings that are the same; two answers that are bindings. -/
namespace Go.Proofs.Ytpjdkdebjkpmmaj
open Go.RowKit
set_option linter.unusedSimpArgs false
set_option linter.unusedVariables false
set_option maxRecDepth 8000

def SmbInv (ls : List Bd) (w : World) (v : Value) (wr : World) : Prop := ∃ k : Nat, v = .int .i64 (k : Int) ∧ k ≤ ls.length ∧ Below w.heap.size w wr

end Go.Proofs.Ytpjdkdebjkpmmaj


/- The law on matching: it answers true. -/
namespace Go.Proofs.Ytpjdkdebjkpmmaj
open Go.RowKit
set_option linter.unusedSimpArgs false
set_option linter.unusedVariables false
set_option maxRecDepth 8000

theorem bv_nil (w : World) (X : Nat → Prop) : BV w X (.slice none 0 0) [] := ⟨none, 0, rfl, by simp, Or.inl rfl⟩

end Go.Proofs.Ytpjdkdebjkpmmaj

/- Walks: how great a term would be with bindings in it. -/
namespace Go.Proofs.Ytpjdkdebjkpmmaj
open Go.RowKit
set_option linter.unusedSimpArgs false
set_option linter.unusedVariables false
set_option maxRecDepth 8000

def GwInv (w0 : World) (M : Nat) (ls : List Bd) (l : List Tm) (most : Int) (n i : Value) (wr : World) : Prop := ∃ k : Nat, k ≤ l.length ∧ i = .int .i64 k ∧ n = .int .i64 (min (1 + sizeL (onL ls (l.take k))) (most + 1)) ∧ Below M w0 wr

set_option maxHeartbeats 1000000 in
theorem grown_any (ls : List Bd) (t : Tm) : ∀ (u v : Value) (most : Int) (w : World) (X : Nat → Prop), BV w X u ls → TV w X v t → 0 ≤ most → most ≤ 1000000 →
    Calls Try.prog 28 #[u, v, .int .i64 most] w fun e w' => e = .returned (.int .i64 (min (sizeL [onT ls t]) (most + 1))) ∧ Below w.heap.size w w' := by
  induction t using Tm.ind with
  | h s l ih =>
    intro u v most w X hu hv hm0 hm1
    obtain ⟨a, c, rfl, hs⟩ := hv
    have IH := hide ih
    have HU := hide hu
    have HS := hide hs
    have hl := hs.1
    clear ih hu hs
    go_enter Try.func28, Try.ntmps28
    go_wp2_with fail
    refine (for_any ls s u _ X (by exact HU.out.alloc _)).mono ?_
    rintro e w1 ⟨hb1, hcase⟩
    have T1 := hide ((Blk.new w #[.string s, .slice a l.length c] 25).below hb1 (by simp))
    have B1 := hide (((Below.refl w.heap.size w).alloc (Nat.le_refl _) (.cells #[.string s, .slice a l.length c] 25)).trans (hb1.mono (by simp)))
    have hlt1 : w.heap.size < w1.heap.size := T1.out.lt
    clear hb1
    have t0 : ∀ o, (w1.alloc o).cell? ⟨w.heap.size, 0, none⟩ = some (.string s) := fun o => (T1.out.alloc o).cell 0
    have t1 : ∀ o, (w1.alloc o).cell? ⟨w.heap.size, 1, none⟩ = some (.slice a l.length c) := fun o => (T1.out.alloc o).cell 1
    rcases hcase with ⟨x, ax, cx, hf, rfl, hsx⟩ | ⟨hf, rfl⟩
    · by_cases hl0 : l = []
      · subst hl0
        have HF := hide (onT_some hf)
        have SX := hide hsx
        clear hf hsx
        go_wp2_with fail
        refine (size_any x _ most _ _ ⟨ax, cx, rfl, SX.out.later ((Below.refl w1.heap.size w1).alloc (Nat.le_refl _) _)⟩ hm0 hm1).mono ?_
        rintro e w3 ⟨rfl, hb3⟩
        go_wp2_with fail
        go_ret
        exact ⟨ret_int (by rw [HF.out]), (B1.out.alloc B1.out.size _).trans (hb3.mono (by have := B1.out.size; simp; omega))⟩
      · have HD := hide (onT_deep (l := ls) (s := s) (Or.inl hl0))
        have hlp : ((l.length : Int) == 0) = false := beq_eq_false_iff_ne.2 (by have := List.length_pos_iff.2 hl0; omega)
        clear hf hsx
        go_wp2_with fail
        have T2 := hide (T1.out.alloc (.cells #[.string x.name, .slice ax x.args.length cx] 25))
        have B2 := hide (B1.out.alloc B1.out.size (.cells #[.string x.name, .slice ax x.args.length cx] 25))
        generalize w1.alloc (.cells #[.string x.name, .slice ax x.args.length cx] 25) = w2 at *
        clear t0 t1
        go_loopw [9, 10] (fun n i wr => GwInv w2 w2.heap.size ls l most n i wr) (fun n i wr => l.length - (intOf i).toNat)
        case atStart => exact ⟨0, Nat.zero_le _, rfl, by simp [onL, sizeL]; omega, Below.refl _ _⟩
        case round =>
          obtain ⟨k, hk, rfl, rfl, hb⟩ := hrel
          have c0 : wr.cell? ⟨w.heap.size, 0, none⟩ = some (.string s) := (T2.out.below hb T2.out.lt).cell 0
          have c1 : wr.cell? ⟨w.heap.size, 1, none⟩ = some (.slice a l.length c) := (T2.out.below hb T2.out.lt).cell 1
          have hn : 0 ≤ ((1 : Int) + sizeL (onL ls (l.take k))) := by omega
          have BW := hide (B2.out.trans (hb.mono B2.out.size))
          have HB := hide hb
          by_cases hlt : k < l.length
          · obtain ⟨b, o, a', c', rfl, d0, d1, hx⟩ := HS.out.get BW.out (fun _ _ h => h) k hlt
            by_cases hle : 1 + (sizeL (onL ls (l.take k)) : Int) ≤ most
            · have hmin : min (1 + (sizeL (onL ls (l.take k)) : Int)) (most + 1) = 1 + (sizeL (onL ls (l.take k)) : Int) := by omega
              rw [hmin]
              go_wp2_with fail
              refine (IH.out _ (List.getElem_mem hlt) _ _ _ _ X (HU.out.later BW.out) hx (by omega) (by omega)).mono ?_
              rintro e w3 ⟨rfl, hb3⟩
              have Hst := hide (onL_size_take ls l k hlt)
              have hm2 : 0 ≤ min ((sizeL [onT ls l[k]] : Int)) (most - (1 + (sizeL (onL ls (l.take k)) : Int)) + 1) := by omega
              have hm3 : min ((sizeL [onT ls l[k]] : Int)) (most - (1 + (sizeL (onL ls (l.take k)) : Int)) + 1) ≤ 1000001 := by omega
              go_wp2_with fail
              go_roundw
              case rel => exact ⟨k + 1, by omega, by go_num, by rw [Hst.out]; congr 1; omega, hb.trans (hb3.mono hb.size)⟩
              case measure => simp [intOf]; omega
            · have hmin : min (1 + (sizeL (onL ls (l.take k)) : Int)) (most + 1) = most + 1 := by omega
              rw [hmin]
              have hz : (sizeL [(⟨s, onL ls l⟩ : Tm)] : Int) = 1 + sizeL (onL ls l) := by simp [sizeL]
              have hle2 := onL_size_le ls l k
              have HF := hide (show (most + 1 : Int) = min (sizeL [(⟨s, onL ls l⟩ : Tm)] : Int) (most + 1) by omega)
              clear hz
              go_wp2_with fail
              go_ret
              exact ⟨ret_int (by rw [HD.out]; exact HF.out), BW.out⟩
          · have htk : l.take k = l := List.take_of_length_le (by omega)
            rw [htk]
            have hz : (sizeL [(⟨s, onL ls l⟩ : Tm)] : Int) = 1 + sizeL (onL ls l) := by simp [sizeL]
            have HZ := hide hz
            clear hz
            go_wp2_with fail
            all_goals (go_ret; exact ⟨ret_int (by rw [HD.out]; have := HZ.out; omega), BW.out⟩)
    · have HD : Hid (onT ls ⟨s, l⟩ = ⟨s, onL ls l⟩) := onT_deep (Or.inr hf)
      clear hf
      go_wp2_with fail
      have T2 := hide (T1.out.alloc (.cells #[.string ⟨#[]⟩, .slice none 0 0] 25))
      have B2 := hide (B1.out.alloc B1.out.size (.cells #[.string ⟨#[]⟩, .slice none 0 0] 25))
      generalize w1.alloc (.cells #[.string ⟨#[]⟩, .slice none 0 0] 25) = w2 at *
      clear t0 t1
      go_loopw [9, 10] (fun n i wr => GwInv w2 w2.heap.size ls l most n i wr) (fun n i wr => l.length - (intOf i).toNat)
      case atStart => exact ⟨0, Nat.zero_le _, rfl, by simp [onL, sizeL]; omega, Below.refl _ _⟩
      case round =>
        obtain ⟨k, hk, rfl, rfl, hb⟩ := hrel
        have c0 : wr.cell? ⟨w.heap.size, 0, none⟩ = some (.string s) := (T2.out.below hb T2.out.lt).cell 0
        have c1 : wr.cell? ⟨w.heap.size, 1, none⟩ = some (.slice a l.length c) := (T2.out.below hb T2.out.lt).cell 1
        have hn : 0 ≤ ((1 : Int) + sizeL (onL ls (l.take k))) := by omega
        have BW := hide (B2.out.trans (hb.mono B2.out.size))
        have HB := hide hb
        by_cases hlt : k < l.length
        · obtain ⟨b, o, a', c', rfl, d0, d1, hx⟩ := HS.out.get BW.out (fun _ _ h => h) k hlt
          by_cases hle : 1 + (sizeL (onL ls (l.take k)) : Int) ≤ most
          · have hmin : min (1 + (sizeL (onL ls (l.take k)) : Int)) (most + 1) = 1 + (sizeL (onL ls (l.take k)) : Int) := by omega
            rw [hmin]
            go_wp2_with fail
            refine (IH.out _ (List.getElem_mem hlt) _ _ _ _ X (HU.out.later BW.out) hx (by omega) (by omega)).mono ?_
            rintro e w3 ⟨rfl, hb3⟩
            have Hst := hide (onL_size_take ls l k hlt)
            have hm2 : 0 ≤ min ((sizeL [onT ls l[k]] : Int)) (most - (1 + (sizeL (onL ls (l.take k)) : Int)) + 1) := by omega
            have hm3 : min ((sizeL [onT ls l[k]] : Int)) (most - (1 + (sizeL (onL ls (l.take k)) : Int)) + 1) ≤ 1000001 := by omega
            go_wp2_with fail
            go_roundw
            case rel => exact ⟨k + 1, by omega, by go_num, by rw [Hst.out]; congr 1; omega, hb.trans (hb3.mono hb.size)⟩
            case measure => simp [intOf]; omega
          · have hmin : min (1 + (sizeL (onL ls (l.take k)) : Int)) (most + 1) = most + 1 := by omega
            rw [hmin]
            have hz : (sizeL [(⟨s, onL ls l⟩ : Tm)] : Int) = 1 + sizeL (onL ls l) := by simp [sizeL]
            have hle2 := onL_size_le ls l k
            have HF := hide (show (most + 1 : Int) = min (sizeL [(⟨s, onL ls l⟩ : Tm)] : Int) (most + 1) by omega)
            clear hz
            go_wp2_with fail
            go_ret
            exact ⟨ret_int (by rw [HD.out]; exact HF.out), BW.out⟩
        · have htk : l.take k = l := List.take_of_length_le (by omega)
          rw [htk]
          have hz : (sizeL [(⟨s, onL ls l⟩ : Tm)] : Int) = 1 + sizeL (onL ls l) := by simp [sizeL]
          have HZ := hide hz
          clear hz
          go_wp2_with fail
          all_goals (go_ret; exact ⟨ret_int (by rw [HD.out]; have := HZ.out; omega), BW.out⟩)
#print axioms grown_any
end Go.Proofs.Ytpjdkdebjkpmmaj

/- Walks: a term with bindings in it, as the document says. -/
namespace Go.Proofs.Ytpjdkdebjkpmmaj
open Go.RowKit
set_option linter.unusedSimpArgs false
set_option linter.unusedVariables false
set_option maxRecDepth 8000

def OnPost (w : World) (X : Nat → Prop) (t : Tm) (e : Ending) (w' : World) : Prop :=
  ∃ a c, e = .returned (.agg #[.string t.name, .slice a t.args.length c]) ∧ Sl w' (fun b => (X b ∧ b < w.heap.size) ∨ w.heap.size ≤ b) a t.args ∧ Below w.heap.size w w'

/-- What is held while a knot's next term is made. -/
def OnS (w : World) (b o : Nat) (s : ByteArray) (a : Option Addr) (n c : Nat) (s1 : ByteArray) (v1 : Value) (w' : World) : Prop :=
  Blk w' w.heap.size #[.string s, .slice a n c] 25 ∧ w'.cell? ⟨b, o, none⟩ = some (.string s1) ∧ w'.cell? ⟨b, o + 1, none⟩ = some v1
theorem cell_same {w w' : World} {b i : Nat} {v : Value} (hb : w'.heap[b]? = w.heap[b]?) (h : w.cell? ⟨b, i, none⟩ = some v) : w'.cell? ⟨b, i, none⟩ = some v := by simpa [World.cell?, hb] using h
theorem OnS.below {w wr w1 : World} {b o n c : Nat} {s s1 : ByteArray} {a : Option Addr} {v1 : Value} (h : OnS w b o s a n c s1 v1 wr) (hb : Below wr.heap.size wr w1) (hlt : w.heap.size < wr.heap.size ∧ b < wr.heap.size) : OnS w b o s a n c s1 v1 w1 :=
  ⟨h.1.below hb hlt.1, cell_same (hb.block b hlt.2) h.2.1, cell_same (hb.block b hlt.2) h.2.2⟩
theorem OnS.alloc {w wr : World} {b o n c : Nat} {s s1 : ByteArray} {a : Option Addr} {v1 : Value} (h : OnS w b o s a n c s1 v1 wr) (x : Obj) : OnS w b o s a n c s1 v1 (wr.alloc x) :=
  ⟨h.1.alloc x, cell_same (Below.heap_alloc _ _ _ (cell_lt h.2.1)) h.2.1, cell_same (Below.heap_alloc _ _ _ (cell_lt h.2.1)) h.2.2⟩
theorem OnS.grown {w wr w3 : World} {b o n c : Nat} {s s1 : ByteArray} {a : Option Addr} {v1 : Value} {row : Option Nat} (h : OnS w b o s a n c s1 v1 wr) (hg : wr.grownBy w3 row) (hne : ∀ j, j ≤ w.heap.size → some j ≠ row) (hb : b < w.heap.size) (_ : True) : OnS w b o s a n c s1 v1 w3 :=
  ⟨h.1.grown hg (hne _ (Nat.le_refl _)), cell_same (hg.block b (cell_lt h.2.1) (hne b (by omega))) h.2.1, cell_same (hg.block b (cell_lt h.2.1) (hne b (by omega))) h.2.2⟩
theorem OnS.set {w wr : World} {b o n c : Nat} {s s1 : ByteArray} {a : Option Addr} {v1 : Value} {O i : Nat} (h : OnS w b o s a n c s1 v1 wr) (v : Value) (_ : True) (hO : w.heap.size ≠ O) (hb : b ≠ O) : OnS w b o s a n c s1 v1 (wr.setCell ⟨O, i, none⟩ v) :=
  ⟨h.1.setOther _ _ hO, cell_same (Below.heap_setCell _ _ _ _ (by simpa using hb)) h.2.1, cell_same (Below.heap_setCell _ _ _ _ (by simpa using hb)) h.2.2⟩
theorem hxb {w : World} {X : Nat → Prop} {b o : Nat} {l : List Tm} (h : Sl w X (some ⟨b, o, none⟩) l) (hl : 0 < l.length) : b < w.heap.size := by
  obtain ⟨_, h⟩ := h
  rcases h with rfl | ⟨b', o', e, h⟩
  · simp at hl
  · simp at e
    obtain ⟨rfl, rfl⟩ := e
    exact cell_lt (lies_get l b o h 0 hl).2.1

/-- What is laid ahead of the rounds. -/
def OnSet (w : World) (Y : Nat → Prop) (O : Nat) (s : ByteArray) (a : Option Addr) (n c : Nat) (u : Value) (L : List Tm) (wr : World) : Prop :=
  ∃ xs, Row wr (O + 1) 25 Y u L xs ∧ Below w.heap.size w wr ∧ Blk wr w.heap.size #[.string s, .slice a n c] 25 ∧ Blk wr (w.heap.size + 1) #[.string ⟨#[]⟩, .slice none 0 0] 25 ∧ Blk wr O #[.string s, u] 25 ∧ O < wr.heap.size
def OnInv (w : World) (Y : Nat → Prop) (O : Nat) (s : ByteArray) (a : Option Addr) (c : Nat) (ls : List Bd) (l : List Tm) (i : Value) (wr : World) : Prop :=
  ∃ (k : Nat) (u : Value), k ≤ l.length ∧ i = .int .i64 (k : Int) ∧ OnSet w Y O s a l.length c u (onL ls (l.take k)) wr

theorem on_step {w wr w1 w3 : World} {Y : Nat → Prop} {O n c : Nat} {u : Value} {L : List Tm} {xs : List Value} {o2 : Obj} {s s' : ByteArray} {a a1 : Option Addr} {n1 c1 g cap : Nat} {t : Tm} (hO : w.heap.size + 2 ≤ O) (hY : ∀ b, Y b → b < w.heap.size)
    (hrow : Row wr (O + 1) 25 Y u L xs) (hx : Below w.heap.size w wr) (hT : Blk wr w.heap.size #[.string s, .slice a n c] 25) (hR : Blk wr (w.heap.size + 1) #[.string ⟨#[]⟩, .slice none 0 0] 25) (hOb : Blk wr O #[.string s, u] 25)
    (he1 : Below wr.heap.size wr w1) (ht : TV w1 (fun b => Y b ∨ wr.heap.size ≤ b) (.agg #[.string s', .slice a1 n1 c1]) t)
    (hown : w3.ownsRow (O + 1) 25 2 (.slice (some ⟨g, 0, none⟩) (L.length + 1) cap) (L.length + 1) (xs ++ [.string s', .slice a1 n1 c1])) (hg : (w1.alloc o2).grownBy w3 u.ownBlock) (hat : u.ownBlock = some g ∨ g = (w1.alloc o2).heap.size) :
    OnSet w Y O s a n c (.slice (some ⟨g, 0, none⟩) (L.length + 1) cap) (L ++ [t]) (w3.setCell ⟨O, 1, none⟩ (.slice (some ⟨g, 0, none⟩) (L.length + 1) cap)) := by
  have hlt' := hrow.own.lt
  have hOl := hOb.lt
  have hp := hrow.push (w1 := w1) (w2 := w1.alloc o2) (w3 := w3) (by omega) (fun b h => by have := hY b h; omega) he1 ht o2 rfl hown hg hat
  have hne : ∀ b, b < O + 1 → some b ≠ u.ownBlock := fun b hb e => by have := (hlt' b e.symm).1; omega
  have hs1 := he1.size
  have hsx := hx.size
  have hx3 : Below w.heap.size w w3 := ((hx.trans (he1.mono (by omega))).alloc (by omega) o2).grown hg (by simp; omega) (fun k hk => by have := (hlt' k hk).1; omega)
  have hs3 := hg.size
  simp at hs3
  refine ⟨_, hp.setCell (by omega) (fun h => by have := hY _ h; omega) _, hx3.setCell (p := ⟨O, 1, none⟩) (by simp; omega) _, ?_, ?_, ?_, by simp [World.setCell]; omega⟩
  · exact (((hT.below he1 (by omega)).alloc o2).grown hg (hne _ (by omega))).setOther _ _ (by omega)
  · exact (((hR.below he1 (by omega)).alloc o2).grown hg (hne _ (by omega))).setOther _ _ (by omega)
  · exact (((hOb.below he1 (by omega)).alloc o2).grown hg (hne _ (by omega))).set 1 _

set_option maxHeartbeats 2000000 in
theorem on_any (ls : List Bd) (t : Tm) : ∀ (u v : Value) (w : World) (X : Nat → Prop), BV w X u ls → TV w X v t → sizeL [t] ≤ 1000000 →
    Calls Try.prog 29 #[u, v] w fun e w' => OnPost w X (onT ls t) e w' := by
  induction t using Tm.ind with
  | h s l ih =>
    intro u v w X hu hv hsm
    obtain ⟨a, c, rfl, hs⟩ := hv
    have IH := hide ih
    have HU := hide hu
    have HS := hide hs
    have hl := hs.1
    have hz : sizeL [(⟨s, l⟩ : Tm)] = 1 + sizeL l := by simp [sizeL]
    rw [hz] at hsm
    have hlen := sizeL_len l
    clear ih hu hs hz
    obtain ⟨i0, hi0, hz0, hz1, hz2⟩ := info_parts Try.infoTerm
    go_enter Try.func29, Try.ntmps29
    go_wp2_with fail
    refine (for_any ls s u _ (fun b => X b ∧ b < w.heap.size) (by exact ((HU.out.mono fun b h1 h2 => ⟨h1, h2⟩).alloc _).alloc _)).mono ?_
    rintro e w1 ⟨hb1, hcase⟩
    have T1 := hide (((Blk.new w #[.string s, .slice a l.length c] 25).alloc (.cells #[.string ⟨#[]⟩, .slice none 0 0] 25)).below hb1 (by simp; omega))
    have R1 : Hid (Blk w1 (w.heap.size + 1) #[.string ⟨#[]⟩, .slice none 0 0] 25) := by
      have h := (Blk.new (w.alloc (.cells #[.string s, .slice a l.length c] 25)) #[.string ⟨#[]⟩, .slice none 0 0] 25).below hb1 (by simp)
      unfold Hid
      simpa using h
    have B1 := hide ((((Below.refl w.heap.size w).alloc (Nat.le_refl _) (.cells #[.string s, .slice a l.length c] 25)).alloc (by simp) (.cells #[.string ⟨#[]⟩, .slice none 0 0] 25)).trans (hb1.mono (by simp; omega)))
    have hlt1 : w.heap.size < w1.heap.size := T1.out.lt
    have hlt1' : w.heap.size + 1 < w1.heap.size := R1.out.lt
    clear hb1
    have t0 : ∀ o, (w1.alloc o).cell? ⟨w.heap.size, 0, none⟩ = some (.string s) := fun o => (T1.out.alloc o).cell 0
    have t1 : ∀ o, (w1.alloc o).cell? ⟨w.heap.size, 1, none⟩ = some (.slice a l.length c) := fun o => (T1.out.alloc o).cell 1
    rcases hcase with ⟨x, ax, cx, hf, rfl, hsx⟩ | ⟨hf, rfl⟩
    · by_cases hl0 : l = []
      · subst hl0
        have HF := hide (onT_some hf)
        have SX := hide hsx
        clear hf hsx
        have r0 : w1.cell? ⟨w.heap.size + 1, 0, none⟩ = some (.string ⟨#[]⟩) := R1.out.cell 0
        have r1 : w1.cell? ⟨w.heap.size + 1, 1, none⟩ = some (.slice none 0 0) := R1.out.cell 1
        have rf := R1.out.frozen
        go_wp2_with fail
        refine bodyPost_ret (v := .agg #[.string x.name, .slice ax x.args.length cx]) (by simp [results, Try.results29, go_sem, World.cell?_setCell_same, World.cell?_setCell_other, r0, r1, hlt1', World.cell?_alloc_old]) rfl ?_
        rw [HF.out]
        refine ⟨ax, cx, rfl, ?_, ((B1.out.setCell (by simp) _).setCell (by simp) _).alloc (by have := B1.out.size; simpa [World.setCell] using this) _⟩
        refine ((SX.out.mono (Y := fun b => X b ∧ b < w.heap.size) fun b h1 _ => h1.1).kept fun b hb => ?_).mono fun b hb _ => Or.inl hb
        rw [Below.heap_alloc _ _ _ (by simp [World.setCell]; omega), Below.heap_setCell _ _ _ _ (by simp; omega), Below.heap_setCell _ _ _ _ (by simp; omega)]
      · have HD : Hid (onT ls ⟨s, l⟩ = ⟨s, onL ls l⟩) := onT_deep (Or.inl hl0)
        have hlp : ((l.length : Int) == 0) = false := beq_eq_false_iff_ne.2 (by have := List.length_pos_iff.2 hl0; omega)
        clear hf hsx
        go_wp2_with fail
        have T3 := hide ((T1.out.alloc (.cells #[.string x.name, .slice ax x.args.length cx] 25)).alloc (.cells #[.string s, .slice none 0 0] 25))
        have R3 := hide ((R1.out.alloc (.cells #[.string x.name, .slice ax x.args.length cx] 25)).alloc (.cells #[.string s, .slice none 0 0] 25))
        have O3 := hide (Blk.new (w1.alloc (.cells #[.string x.name, .slice ax x.args.length cx] 25)) #[.string s, .slice none 0 0] 25)
        have B3 := hide ((B1.out.alloc B1.out.size (.cells #[.string x.name, .slice ax x.args.length cx] 25)).alloc (by have := B1.out.size; simp; omega) (.cells #[.string s, .slice none 0 0] 25))
        have HO3 := hide (O3.out.lt)
        have hO : w.heap.size + 2 ≤ (w1.alloc (.cells #[.string x.name, .slice ax x.args.length cx] 25)).heap.size := by have := R1.out.lt; simp; omega
        have eO : (w1.alloc (.cells #[.string x.name, .slice ax x.args.length cx] 25)).heap.size = w1.heap.size + 1 := by simp
        rw [eO] at O3 HO3 hO
        clear eO
        generalize (w1.alloc (.cells #[.string x.name, .slice ax x.args.length cx] 25)).alloc (.cells #[.string s, .slice none 0 0] 25) = w3 at *
        generalize w1.heap.size + 1 = O at *
        clear t0 t1
        have hY : ∀ b, (X b ∧ b < w.heap.size) → b < w.heap.size := fun b h => h.2
        go_loopw [8] (fun i wr => OnInv w (fun b => X b ∧ b < w.heap.size) O s a c ls l i wr) (fun i wr => l.length - (intOf i).toNat)
        case atStart => exact ⟨0, .slice none 0 0, Nat.zero_le _, rfl, [], by have h := Row.start w3 (O + 1) 25 (fun b => X b ∧ b < w.heap.size); simpa [onL] using h, B3.out, T3.out, R3.out, O3.out, HO3.out⟩
        case round =>
          obtain ⟨k, u9, hk, rfl, xs, hrow, hbb, hT, hR, hOb, hOl⟩ := hrel
          have XW := hide hrow
          have XE := hide hbb
          have XT := hide hT
          have XR := hide hR
          have XO := hide hOb
          clear hrow hbb hT hR hOb
          have c0 : wr.cell? ⟨w.heap.size, 0, none⟩ = some (.string s) := XT.out.cell 0
          have c1 : wr.cell? ⟨w.heap.size, 1, none⟩ = some (.slice a l.length c) := XT.out.cell 1
          have o0 : wr.cell? ⟨O, 0, none⟩ = some (.string s) := XO.out.cell 0
          have o1 : wr.cell? ⟨O, 1, none⟩ = some u9 := XO.out.cell 1
          by_cases hlt : k < l.length
          · obtain ⟨b, o, a', c', rfl, d0, d1, hx⟩ := (HS.out.mono (Y := fun b => X b ∧ b < w.heap.size) fun b h1 h2 => ⟨h1, h2⟩).get XE.out (fun b h _ => h.2) k hlt
            have HX := hide hx
            have hXb : b < w.heap.size := hxb HS.out (Nat.lt_of_le_of_lt (Nat.zero_le k) hlt)
            have hszk : sizeL [l[k]] ≤ 1000000 := by
              have := sizeL_take l k hlt
              have := sizeL_take_le l (k + 1)
              omega
            have hOL : (onL ls (l.take k)).length = k := by rw [onL_length]; simp; omega
            have IHQ : Hid (Calls Try.prog 29 #[u, .agg #[.string l[k].name, .slice a' l[k].args.length c']] wr.drew fun e w'' => ∃ a1 c1, e = .returned (.agg #[.string (onT ls l[k]).name, .slice a1 (onT ls l[k]).args.length c1]) ∧ Sl w'' (fun b => (X b ∧ b < w.heap.size) ∨ wr.heap.size ≤ b) a1 (onT ls l[k]).args ∧ Below wr.heap.size wr w'') := (IH.out l[k] (List.getElem_mem hlt) u _ wr.drew (fun b => X b ∧ b < w.heap.size) ((HU.out.mono fun b h1 h2 => ⟨h1, h2⟩).later (XE.out.drew)) (HX.out.later ((Below.refl wr.heap.size wr).drew)) hszk).mono fun e w'' hp => by
              obtain ⟨a1, c1, h1, h2, h3⟩ := hp
              exact ⟨a1, c1, h1, h2.mono (fun b hb _ => hb.imp (fun h => h.1) id), ((Below.refl wr.heap.size wr).drew).trans h3⟩
            have HN1 : Hid (∀ a1 c1, ∀ x ∈ [Value.string (onT ls l[k]).name, Value.slice a1 (onT ls l[k]).args.length c1], x.oneCell' = true) := fun a1 c1 x hx => by simp at hx; rcases hx with rfl | rfl <;> rfl
            have HL1 : Hid ((onL ls (l.take k)).length + 1 ≤ maxLen ∧ ((onL ls (l.take k)).length + 1) * 40 ≤ 140737488355328) := ⟨by rw [hOL]; unfold maxLen; omega, by rw [hOL]; omega⟩
            clear hOL
            have HBW : Hid (w.heap.size < wr.heap.size ∧ b < wr.heap.size) := ⟨XT.out.lt, by have := XT.out.lt; omega⟩
            have HS8 : Hid (OnS w b (o + k * 2) s (some ⟨b, o, none⟩) l.length c l[k].name (.slice a' l[k].args.length c') wr) := ⟨XT.out, d0, d1⟩
            go_wp2_with fail
            refine wp_region_held_drew (S := OnS w b (o + k * 2) s (some ⟨b, o, none⟩) l.length c l[k].name (.slice a' l[k].args.length c')) (by kernel_rfl) (by exact HS8.out) (fun hHeld => ?_)
            refine wpAnyH_take (i := 0) (v := ?_) rfl (by kernel_rfl) (by kernel_rfl) (by kernel_rfl) (fun _ _ _ h => h) (Or.inl ⟨by rfl, ?_⟩) (by assumption) ?_
            rotate_left
            · intro w' hSw
              go_simp <;> with_reducible rfl
            try simp only [Act.put, List.setIfInBounds_toArray, List.set_cons_zero, List.set_cons_succ, List.getElem_toArray, List.getElem_cons_succ, List.getElem_cons_zero]
            refine wpAnyH_take (i := 2) (v := ?_) rfl (by kernel_rfl) (by kernel_rfl) (by kernel_rfl) (fun _ _ _ h => h) (Or.inl ⟨by rfl, ?_⟩) (by assumption) ?_
            rotate_left
            · intro w' hSw
              go_simp <;> with_reducible rfl
            try simp only [Act.put, List.setIfInBounds_toArray, List.set_cons_zero, List.set_cons_succ, List.getElem_toArray, List.getElem_cons_succ, List.getElem_cons_zero]
            refine wpAnyH_take (i := 3) (v := ?_) rfl (by kernel_rfl) (by kernel_rfl) (by kernel_rfl) (fun _ _ _ h => h) (Or.inl ⟨by rfl, ?_⟩) (by assumption) ?_
            rotate_left
            · intro w' hSw
              go_simp <;> with_reducible rfl
            try simp only [Act.put, List.setIfInBounds_toArray, List.set_cons_zero, List.set_cons_succ, List.getElem_toArray, List.getElem_cons_succ, List.getElem_cons_zero]
            refine wpAnyH_take (i := 5) (v := ?_) rfl (by kernel_rfl) (by kernel_rfl) (by kernel_rfl) (fun _ _ _ h => h) (Or.inl ⟨by rfl, ?_⟩) (by assumption) ?_
            rotate_left
            · intro w' hSw
              go_simp <;> with_reducible rfl
            try simp only [Act.put, List.setIfInBounds_toArray, List.set_cons_zero, List.set_cons_succ, List.getElem_toArray, List.getElem_cons_succ, List.getElem_cons_zero]
            refine wpAnyH_take (i := 4) (v := ?_) rfl (by kernel_rfl) (by kernel_rfl) (by kernel_rfl) (fun _ _ _ h => h) (Or.inl ⟨by rfl, ?_⟩) (by assumption) ?_
            rotate_left
            · intro w' hSw
              have k1 : w'.cell? ⟨w.heap.size, 1, none⟩ = some (.slice (some ⟨b, o, none⟩) l.length c) := hSw.1.cell 1
              go_simp <;> with_reducible rfl
            try simp only [Act.put, List.setIfInBounds_toArray, List.set_cons_zero, List.set_cons_succ, List.getElem_toArray, List.getElem_cons_succ, List.getElem_cons_zero]
            refine wpAnyH_take (i := 6) (v := ?_) rfl (by kernel_rfl) (by kernel_rfl) (by kernel_rfl) (fun _ _ _ h => h) (Or.inl ⟨by rfl, ?_⟩) (by assumption) ?_
            rotate_left
            · intro w' hSw
              go_simp <;> with_reducible rfl
            try simp only [Act.put, List.setIfInBounds_toArray, List.set_cons_zero, List.set_cons_succ, List.getElem_toArray, List.getElem_cons_succ, List.getElem_cons_zero]
            refine wpAnyH_take (i := 7) (v := ?_) rfl (by kernel_rfl) (by kernel_rfl) (by kernel_rfl) (fun _ _ _ h => h) (Or.inl ⟨by rfl, ?_⟩) (by assumption) ?_
            rotate_left
            · intro w' hSw
              have k2 := hSw.2.1
              have k3 := hSw.2.2
              go_simp <;> with_reducible rfl
            try simp only [Act.put, List.setIfInBounds_toArray, List.set_cons_zero, List.set_cons_succ, List.getElem_toArray, List.getElem_cons_succ, List.getElem_cons_zero]
            refine wpAnyH_ready (rs := [1, 8]) (by kernel_rfl) (by simp) ?_
            refine AllReadyH.cons rfl (fun K hK => ?_) (AllReadyH.cons rfl (fun K hK => ?_) AllReadyH.nil)
            · go_simp
              refine hK.out _ _ (by exact hHeld) (fun hHeld => ?_)
              clear hK K
              try simp only [Act.put, List.setIfInBounds_toArray, List.set_cons_zero, List.set_cons_succ, List.getElem_toArray, List.getElem_cons_succ, List.getElem_cons_zero]
              refine wpAnyH_ready (rs := [8]) (by kernel_rfl) (by simp) ?_
              refine AllReadyH.cons rfl (fun K hK => ?_) AllReadyH.nil
              · go_simp
                go_at_call 29
                refine IHQ.out.mono ?_
                rintro e w1 ⟨a1, c1, rfl, hs1, hb1⟩
                have hc3 : ∀ o, (w1.alloc o).cell? ⟨O, 1, none⟩ = some u9 := fun o => ((XO.out.below hb1 hOl).alloc o).cell 1
                have hc4 : w1.cell? ⟨O, 1, none⟩ = some u9 := (XO.out.below hb1 hOl).cell 1
                go_simp
                refine hK.out _ _ (by exact OnS.below HS8.out hb1 HBW.out) (fun hHeld => ?_)
                clear hK K
                try simp only [Act.put, List.setIfInBounds_toArray, List.set_cons_zero, List.set_cons_succ, List.getElem_toArray, List.getElem_cons_succ, List.getElem_cons_zero]
                refine wpAnyH_ready (rs := [9]) (by kernel_rfl) (by simp) ?_
                refine AllReadyH.cons rfl (fun K hK => ?_) AllReadyH.nil
                · go_simp
                  refine hK.out _ _ (by exact hHeld.alloc _) (fun hHeld => ?_)
                  clear hK K
                  try simp only [Act.put, List.setIfInBounds_toArray, List.set_cons_zero, List.set_cons_succ, List.getElem_toArray, List.getElem_cons_succ, List.getElem_cons_zero]
                  refine wpAnyH_ready (rs := [10]) (by kernel_rfl) (by simp) ?_
                  refine AllReadyH.cons rfl (fun K hK => ?_) AllReadyH.nil
                  · refine step_append_lies _ rfl _ _ 23 rfl (O + 1) 25 i0 _ 2 40 Try.underlying23 hi0 hz0 hz1 hz2 rfl (by decide) u9 (onL ls (l.take k)).length xs rfl (by exact (XW.out.below hb1).own.alloc _) ⟨w1.heap.size, 0, none⟩ 1 1 [.string (onT ls l[k]).name, .slice a1 (onT ls l[k]).args.length c1] rfl rfl (cell_two_new _ _ _ _) (HN1.out a1 c1) (by decide) HL1.out.1 HL1.out.2 (by have := hb1.size; simp; omega) _ rfl ?_
                    intro g cap w3 hown3 hgrow3 hat3 hlt3
                    have hB3 := hide (((XO.out.below hb1 hOl).alloc _).grown hgrow3 (XW.out.ne (Nat.lt_succ_self _)))
                    have hc5 : w3.cell? ⟨O, 1, none⟩ = some u9 := hB3.out.cell 1
                    have hf5 := hB3.out.frozen 1
                    have HFIN := hide (on_step (c := c) (n := l.length) (a := some ⟨b, o, none⟩) hO hY XW.out XE.out XT.out XR.out XO.out hb1 ⟨a1, c1, rfl, hs1⟩ hown3 hgrow3 hat3)
                    refine hK.out _ _ (by exact OnS.grown hHeld hgrow3 (fun j hj => XW.out.ne (by omega)) hXb trivial) (fun hHeld => ?_)
                    clear hK K
                    try simp only [Act.put, List.setIfInBounds_toArray, List.set_cons_zero, List.set_cons_succ, List.getElem_toArray, List.getElem_cons_succ, List.getElem_cons_zero]
                    refine wpAnyH_take (i := 11) (v := ?_) rfl (by kernel_rfl) (by kernel_rfl) (by kernel_rfl) (fun _ _ _ h => h) (Or.inl ⟨by rfl, ?_⟩) (by assumption) ?_
                    rotate_left
                    · intro w' hSw
                      go_simp <;> with_reducible rfl
                    try simp only [Act.put, List.setIfInBounds_toArray, List.set_cons_zero, List.set_cons_succ, List.getElem_toArray, List.getElem_cons_succ, List.getElem_cons_zero]
                    refine wpAnyH_ready (rs := [12]) (by kernel_rfl) (by simp) ?_
                    refine AllReadyH.cons rfl (fun K hK => ?_) AllReadyH.nil
                    · go_simp
                      refine hK.out _ _ (by exact OnS.set hHeld _ trivial (by omega) (by omega)) (fun hHeld => ?_)
                      clear hK K
                      try simp only [Act.put, List.setIfInBounds_toArray, List.set_cons_zero, List.set_cons_succ, List.getElem_toArray, List.getElem_cons_succ, List.getElem_cons_zero]
                      refine wpAnyH_done (by kernel_rfl) ?_ _
                      clear hc3 hc4 hc5 hf5 hown3 hgrow3 hat3 hlt3 hB3 hHeld
                      go_wp2_with fail
                      go_roundw
                      case rel =>
                        refine ⟨k + 1, .slice (some ⟨g, 0, none⟩) ((onL ls (l.take k)).length + 1) cap, by omega, by go_num, ?_⟩
                        rw [onL_take ls l k hlt]
                        exact HFIN.out
                      case measure => simp [intOf]; omega
            · go_simp
              go_at_call 29
              refine IHQ.out.mono ?_
              rintro e w1 ⟨a1, c1, rfl, hs1, hb1⟩
              have hc3 : ∀ o, (w1.alloc o).cell? ⟨O, 1, none⟩ = some u9 := fun o => ((XO.out.below hb1 hOl).alloc o).cell 1
              have hc4 : w1.cell? ⟨O, 1, none⟩ = some u9 := (XO.out.below hb1 hOl).cell 1
              go_simp
              refine hK.out _ _ (by exact OnS.below HS8.out hb1 HBW.out) (fun hHeld => ?_)
              clear hK K
              try simp only [Act.put, List.setIfInBounds_toArray, List.set_cons_zero, List.set_cons_succ, List.getElem_toArray, List.getElem_cons_succ, List.getElem_cons_zero]
              refine wpAnyH_ready (rs := [1, 9]) (by kernel_rfl) (by simp) ?_
              refine AllReadyH.cons rfl (fun K hK => ?_) (AllReadyH.cons rfl (fun K hK => ?_) AllReadyH.nil)
              · go_simp
                refine hK.out _ _ (by exact hHeld) (fun hHeld => ?_)
                clear hK K
                try simp only [Act.put, List.setIfInBounds_toArray, List.set_cons_zero, List.set_cons_succ, List.getElem_toArray, List.getElem_cons_succ, List.getElem_cons_zero]
                refine wpAnyH_ready (rs := [9]) (by kernel_rfl) (by simp) ?_
                refine AllReadyH.cons rfl (fun K hK => ?_) AllReadyH.nil
                · go_simp
                  refine hK.out _ _ (by exact hHeld.alloc _) (fun hHeld => ?_)
                  clear hK K
                  try simp only [Act.put, List.setIfInBounds_toArray, List.set_cons_zero, List.set_cons_succ, List.getElem_toArray, List.getElem_cons_succ, List.getElem_cons_zero]
                  refine wpAnyH_ready (rs := [10]) (by kernel_rfl) (by simp) ?_
                  refine AllReadyH.cons rfl (fun K hK => ?_) AllReadyH.nil
                  · refine step_append_lies _ rfl _ _ 23 rfl (O + 1) 25 i0 _ 2 40 Try.underlying23 hi0 hz0 hz1 hz2 rfl (by decide) u9 (onL ls (l.take k)).length xs rfl (by exact (XW.out.below hb1).own.alloc _) ⟨w1.heap.size, 0, none⟩ 1 1 [.string (onT ls l[k]).name, .slice a1 (onT ls l[k]).args.length c1] rfl rfl (cell_two_new _ _ _ _) (HN1.out a1 c1) (by decide) HL1.out.1 HL1.out.2 (by have := hb1.size; simp; omega) _ rfl ?_
                    intro g cap w3 hown3 hgrow3 hat3 hlt3
                    have hB3 := hide (((XO.out.below hb1 hOl).alloc _).grown hgrow3 (XW.out.ne (Nat.lt_succ_self _)))
                    have hc5 : w3.cell? ⟨O, 1, none⟩ = some u9 := hB3.out.cell 1
                    have hf5 := hB3.out.frozen 1
                    have HFIN := hide (on_step (c := c) (n := l.length) (a := some ⟨b, o, none⟩) hO hY XW.out XE.out XT.out XR.out XO.out hb1 ⟨a1, c1, rfl, hs1⟩ hown3 hgrow3 hat3)
                    refine hK.out _ _ (by exact OnS.grown hHeld hgrow3 (fun j hj => XW.out.ne (by omega)) hXb trivial) (fun hHeld => ?_)
                    clear hK K
                    try simp only [Act.put, List.setIfInBounds_toArray, List.set_cons_zero, List.set_cons_succ, List.getElem_toArray, List.getElem_cons_succ, List.getElem_cons_zero]
                    refine wpAnyH_take (i := 11) (v := ?_) rfl (by kernel_rfl) (by kernel_rfl) (by kernel_rfl) (fun _ _ _ h => h) (Or.inl ⟨by rfl, ?_⟩) (by assumption) ?_
                    rotate_left
                    · intro w' hSw
                      go_simp <;> with_reducible rfl
                    try simp only [Act.put, List.setIfInBounds_toArray, List.set_cons_zero, List.set_cons_succ, List.getElem_toArray, List.getElem_cons_succ, List.getElem_cons_zero]
                    refine wpAnyH_ready (rs := [12]) (by kernel_rfl) (by simp) ?_
                    refine AllReadyH.cons rfl (fun K hK => ?_) AllReadyH.nil
                    · go_simp
                      refine hK.out _ _ (by exact OnS.set hHeld _ trivial (by omega) (by omega)) (fun hHeld => ?_)
                      clear hK K
                      try simp only [Act.put, List.setIfInBounds_toArray, List.set_cons_zero, List.set_cons_succ, List.getElem_toArray, List.getElem_cons_succ, List.getElem_cons_zero]
                      refine wpAnyH_done (by kernel_rfl) ?_ _
                      clear hc3 hc4 hc5 hf5 hown3 hgrow3 hat3 hlt3 hB3 hHeld
                      go_wp2_with fail
                      go_roundw
                      case rel =>
                        refine ⟨k + 1, .slice (some ⟨g, 0, none⟩) ((onL ls (l.take k)).length + 1) cap, by omega, by go_num, ?_⟩
                        rw [onL_take ls l k hlt]
                        exact HFIN.out
                      case measure => simp [intOf]; omega
              · go_simp
                refine hK.out _ _ (by exact hHeld.alloc _) (fun hHeld => ?_)
                clear hK K
                try simp only [Act.put, List.setIfInBounds_toArray, List.set_cons_zero, List.set_cons_succ, List.getElem_toArray, List.getElem_cons_succ, List.getElem_cons_zero]
                refine wpAnyH_ready (rs := [1]) (by kernel_rfl) (by simp) ?_
                refine AllReadyH.cons rfl (fun K hK => ?_) AllReadyH.nil
                · go_simp
                  refine hK.out _ _ (by exact hHeld) (fun hHeld => ?_)
                  clear hK K
                  try simp only [Act.put, List.setIfInBounds_toArray, List.set_cons_zero, List.set_cons_succ, List.getElem_toArray, List.getElem_cons_succ, List.getElem_cons_zero]
                  refine wpAnyH_ready (rs := [10]) (by kernel_rfl) (by simp) ?_
                  refine AllReadyH.cons rfl (fun K hK => ?_) AllReadyH.nil
                  · refine step_append_lies _ rfl _ _ 23 rfl (O + 1) 25 i0 _ 2 40 Try.underlying23 hi0 hz0 hz1 hz2 rfl (by decide) u9 (onL ls (l.take k)).length xs rfl (by exact (XW.out.below hb1).own.alloc _) ⟨w1.heap.size, 0, none⟩ 1 1 [.string (onT ls l[k]).name, .slice a1 (onT ls l[k]).args.length c1] rfl rfl (cell_two_new _ _ _ _) (HN1.out a1 c1) (by decide) HL1.out.1 HL1.out.2 (by have := hb1.size; simp; omega) _ rfl ?_
                    intro g cap w3 hown3 hgrow3 hat3 hlt3
                    have hB3 := hide (((XO.out.below hb1 hOl).alloc _).grown hgrow3 (XW.out.ne (Nat.lt_succ_self _)))
                    have hc5 : w3.cell? ⟨O, 1, none⟩ = some u9 := hB3.out.cell 1
                    have hf5 := hB3.out.frozen 1
                    have HFIN := hide (on_step (c := c) (n := l.length) (a := some ⟨b, o, none⟩) hO hY XW.out XE.out XT.out XR.out XO.out hb1 ⟨a1, c1, rfl, hs1⟩ hown3 hgrow3 hat3)
                    refine hK.out _ _ (by exact OnS.grown hHeld hgrow3 (fun j hj => XW.out.ne (by omega)) hXb trivial) (fun hHeld => ?_)
                    clear hK K
                    try simp only [Act.put, List.setIfInBounds_toArray, List.set_cons_zero, List.set_cons_succ, List.getElem_toArray, List.getElem_cons_succ, List.getElem_cons_zero]
                    refine wpAnyH_take (i := 11) (v := ?_) rfl (by kernel_rfl) (by kernel_rfl) (by kernel_rfl) (fun _ _ _ h => h) (Or.inl ⟨by rfl, ?_⟩) (by assumption) ?_
                    rotate_left
                    · intro w' hSw
                      go_simp <;> with_reducible rfl
                    try simp only [Act.put, List.setIfInBounds_toArray, List.set_cons_zero, List.set_cons_succ, List.getElem_toArray, List.getElem_cons_succ, List.getElem_cons_zero]
                    refine wpAnyH_ready (rs := [12]) (by kernel_rfl) (by simp) ?_
                    refine AllReadyH.cons rfl (fun K hK => ?_) AllReadyH.nil
                    · go_simp
                      refine hK.out _ _ (by exact OnS.set hHeld _ trivial (by omega) (by omega)) (fun hHeld => ?_)
                      clear hK K
                      try simp only [Act.put, List.setIfInBounds_toArray, List.set_cons_zero, List.set_cons_succ, List.getElem_toArray, List.getElem_cons_succ, List.getElem_cons_zero]
                      refine wpAnyH_done (by kernel_rfl) ?_ _
                      clear hc3 hc4 hc5 hf5 hown3 hgrow3 hat3 hlt3 hB3 hHeld
                      go_wp2_with fail
                      go_roundw
                      case rel =>
                        refine ⟨k + 1, .slice (some ⟨g, 0, none⟩) ((onL ls (l.take k)).length + 1) cap, by omega, by go_num, ?_⟩
                        rw [onL_take ls l k hlt]
                        exact HFIN.out
                      case measure => simp [intOf]; omega
          · have htk : l.take k = l := List.take_of_length_le (by omega)
            rw [htk] at XW
            obtain ⟨a9, c9, hu9, hsl9⟩ := XW.out.sl
            subst hu9
            have S9 := hide hsl9
            have r0 : wr.cell? ⟨w.heap.size + 1, 0, none⟩ = some (.string ⟨#[]⟩) := XR.out.cell 0
            have r1 : wr.cell? ⟨w.heap.size + 1, 1, none⟩ = some (.slice none 0 0) := XR.out.cell 1
            have rf := XR.out.frozen
            clear hsl9 htk
            go_wp2_with fail
            refine bodyPost_ret (v := .agg #[.string s, .slice a9 (onL ls l).length c9]) (by simp [results, Try.results29, go_sem, World.cell?_setCell_same, World.cell?_setCell_other, r0, r1]) rfl ?_
            rw [HD.out]
            refine ⟨a9, c9, rfl, (S9.out.kept fun b hb => ?_).mono fun b hb _ => hb.imp id (fun h => by omega), (XE.out.setCell (by simp) _).setCell (by simp) _⟩
            have hbne : b ≠ w.heap.size + 1 := by
              rcases hb with h | h
              · have := h.2; omega
              · omega
            rw [Below.heap_setCell _ _ _ _ (by simpa using hbne), Below.heap_setCell _ _ _ _ (by simpa using hbne)]
    · have HD : Hid (onT ls ⟨s, l⟩ = ⟨s, onL ls l⟩) := onT_deep (Or.inr hf)
      clear hf
      go_wp2_with fail
      have T3 := hide ((T1.out.alloc (.cells #[.string ⟨#[]⟩, .slice none 0 0] 25)).alloc (.cells #[.string s, .slice none 0 0] 25))
      have R3 := hide ((R1.out.alloc (.cells #[.string ⟨#[]⟩, .slice none 0 0] 25)).alloc (.cells #[.string s, .slice none 0 0] 25))
      have O3 := hide (Blk.new (w1.alloc (.cells #[.string ⟨#[]⟩, .slice none 0 0] 25)) #[.string s, .slice none 0 0] 25)
      have B3 := hide ((B1.out.alloc B1.out.size (.cells #[.string ⟨#[]⟩, .slice none 0 0] 25)).alloc (by have := B1.out.size; simp; omega) (.cells #[.string s, .slice none 0 0] 25))
      have HO3 := hide (O3.out.lt)
      have hO : w.heap.size + 2 ≤ (w1.alloc (.cells #[.string ⟨#[]⟩, .slice none 0 0] 25)).heap.size := by have := R1.out.lt; simp; omega
      have eO : (w1.alloc (.cells #[.string ⟨#[]⟩, .slice none 0 0] 25)).heap.size = w1.heap.size + 1 := by simp
      rw [eO] at O3 HO3 hO
      clear eO
      generalize (w1.alloc (.cells #[.string ⟨#[]⟩, .slice none 0 0] 25)).alloc (.cells #[.string s, .slice none 0 0] 25) = w3 at *
      generalize w1.heap.size + 1 = O at *
      clear t0 t1
      have hY : ∀ b, (X b ∧ b < w.heap.size) → b < w.heap.size := fun b h => h.2
      go_loopw [8] (fun i wr => OnInv w (fun b => X b ∧ b < w.heap.size) O s a c ls l i wr) (fun i wr => l.length - (intOf i).toNat)
      case atStart => exact ⟨0, .slice none 0 0, Nat.zero_le _, rfl, [], by have h := Row.start w3 (O + 1) 25 (fun b => X b ∧ b < w.heap.size); simpa [onL] using h, B3.out, T3.out, R3.out, O3.out, HO3.out⟩
      case round =>
        obtain ⟨k, u9, hk, rfl, xs, hrow, hbb, hT, hR, hOb, hOl⟩ := hrel
        have XW := hide hrow
        have XE := hide hbb
        have XT := hide hT
        have XR := hide hR
        have XO := hide hOb
        clear hrow hbb hT hR hOb
        have c0 : wr.cell? ⟨w.heap.size, 0, none⟩ = some (.string s) := XT.out.cell 0
        have c1 : wr.cell? ⟨w.heap.size, 1, none⟩ = some (.slice a l.length c) := XT.out.cell 1
        have o0 : wr.cell? ⟨O, 0, none⟩ = some (.string s) := XO.out.cell 0
        have o1 : wr.cell? ⟨O, 1, none⟩ = some u9 := XO.out.cell 1
        by_cases hlt : k < l.length
        · obtain ⟨b, o, a', c', rfl, d0, d1, hx⟩ := (HS.out.mono (Y := fun b => X b ∧ b < w.heap.size) fun b h1 h2 => ⟨h1, h2⟩).get XE.out (fun b h _ => h.2) k hlt
          have HX := hide hx
          have hXb : b < w.heap.size := hxb HS.out (Nat.lt_of_le_of_lt (Nat.zero_le k) hlt)
          have hszk : sizeL [l[k]] ≤ 1000000 := by
            have := sizeL_take l k hlt
            have := sizeL_take_le l (k + 1)
            omega
          have hOL : (onL ls (l.take k)).length = k := by rw [onL_length]; simp; omega
          have IHQ : Hid (Calls Try.prog 29 #[u, .agg #[.string l[k].name, .slice a' l[k].args.length c']] wr.drew fun e w'' => ∃ a1 c1, e = .returned (.agg #[.string (onT ls l[k]).name, .slice a1 (onT ls l[k]).args.length c1]) ∧ Sl w'' (fun b => (X b ∧ b < w.heap.size) ∨ wr.heap.size ≤ b) a1 (onT ls l[k]).args ∧ Below wr.heap.size wr w'') := (IH.out l[k] (List.getElem_mem hlt) u _ wr.drew (fun b => X b ∧ b < w.heap.size) ((HU.out.mono fun b h1 h2 => ⟨h1, h2⟩).later (XE.out.drew)) (HX.out.later ((Below.refl wr.heap.size wr).drew)) hszk).mono fun e w'' hp => by
            obtain ⟨a1, c1, h1, h2, h3⟩ := hp
            exact ⟨a1, c1, h1, h2.mono (fun b hb _ => hb.imp (fun h => h.1) id), ((Below.refl wr.heap.size wr).drew).trans h3⟩
          have HN1 : Hid (∀ a1 c1, ∀ x ∈ [Value.string (onT ls l[k]).name, Value.slice a1 (onT ls l[k]).args.length c1], x.oneCell' = true) := fun a1 c1 x hx => by simp at hx; rcases hx with rfl | rfl <;> rfl
          have HL1 : Hid ((onL ls (l.take k)).length + 1 ≤ maxLen ∧ ((onL ls (l.take k)).length + 1) * 40 ≤ 140737488355328) := ⟨by rw [hOL]; unfold maxLen; omega, by rw [hOL]; omega⟩
          clear hOL
          have HBW : Hid (w.heap.size < wr.heap.size ∧ b < wr.heap.size) := ⟨XT.out.lt, by have := XT.out.lt; omega⟩
          have HS8 : Hid (OnS w b (o + k * 2) s (some ⟨b, o, none⟩) l.length c l[k].name (.slice a' l[k].args.length c') wr) := ⟨XT.out, d0, d1⟩
          go_wp2_with fail
          refine wp_region_held_drew (S := OnS w b (o + k * 2) s (some ⟨b, o, none⟩) l.length c l[k].name (.slice a' l[k].args.length c')) (by kernel_rfl) (by exact HS8.out) (fun hHeld => ?_)
          refine wpAnyH_take (i := 0) (v := ?_) rfl (by kernel_rfl) (by kernel_rfl) (by kernel_rfl) (fun _ _ _ h => h) (Or.inl ⟨by rfl, ?_⟩) (by assumption) ?_
          rotate_left
          · intro w' hSw
            go_simp <;> with_reducible rfl
          try simp only [Act.put, List.setIfInBounds_toArray, List.set_cons_zero, List.set_cons_succ, List.getElem_toArray, List.getElem_cons_succ, List.getElem_cons_zero]
          refine wpAnyH_take (i := 2) (v := ?_) rfl (by kernel_rfl) (by kernel_rfl) (by kernel_rfl) (fun _ _ _ h => h) (Or.inl ⟨by rfl, ?_⟩) (by assumption) ?_
          rotate_left
          · intro w' hSw
            go_simp <;> with_reducible rfl
          try simp only [Act.put, List.setIfInBounds_toArray, List.set_cons_zero, List.set_cons_succ, List.getElem_toArray, List.getElem_cons_succ, List.getElem_cons_zero]
          refine wpAnyH_take (i := 3) (v := ?_) rfl (by kernel_rfl) (by kernel_rfl) (by kernel_rfl) (fun _ _ _ h => h) (Or.inl ⟨by rfl, ?_⟩) (by assumption) ?_
          rotate_left
          · intro w' hSw
            go_simp <;> with_reducible rfl
          try simp only [Act.put, List.setIfInBounds_toArray, List.set_cons_zero, List.set_cons_succ, List.getElem_toArray, List.getElem_cons_succ, List.getElem_cons_zero]
          refine wpAnyH_take (i := 5) (v := ?_) rfl (by kernel_rfl) (by kernel_rfl) (by kernel_rfl) (fun _ _ _ h => h) (Or.inl ⟨by rfl, ?_⟩) (by assumption) ?_
          rotate_left
          · intro w' hSw
            go_simp <;> with_reducible rfl
          try simp only [Act.put, List.setIfInBounds_toArray, List.set_cons_zero, List.set_cons_succ, List.getElem_toArray, List.getElem_cons_succ, List.getElem_cons_zero]
          refine wpAnyH_take (i := 4) (v := ?_) rfl (by kernel_rfl) (by kernel_rfl) (by kernel_rfl) (fun _ _ _ h => h) (Or.inl ⟨by rfl, ?_⟩) (by assumption) ?_
          rotate_left
          · intro w' hSw
            have k1 : w'.cell? ⟨w.heap.size, 1, none⟩ = some (.slice (some ⟨b, o, none⟩) l.length c) := hSw.1.cell 1
            go_simp <;> with_reducible rfl
          try simp only [Act.put, List.setIfInBounds_toArray, List.set_cons_zero, List.set_cons_succ, List.getElem_toArray, List.getElem_cons_succ, List.getElem_cons_zero]
          refine wpAnyH_take (i := 6) (v := ?_) rfl (by kernel_rfl) (by kernel_rfl) (by kernel_rfl) (fun _ _ _ h => h) (Or.inl ⟨by rfl, ?_⟩) (by assumption) ?_
          rotate_left
          · intro w' hSw
            go_simp <;> with_reducible rfl
          try simp only [Act.put, List.setIfInBounds_toArray, List.set_cons_zero, List.set_cons_succ, List.getElem_toArray, List.getElem_cons_succ, List.getElem_cons_zero]
          refine wpAnyH_take (i := 7) (v := ?_) rfl (by kernel_rfl) (by kernel_rfl) (by kernel_rfl) (fun _ _ _ h => h) (Or.inl ⟨by rfl, ?_⟩) (by assumption) ?_
          rotate_left
          · intro w' hSw
            have k2 := hSw.2.1
            have k3 := hSw.2.2
            go_simp <;> with_reducible rfl
          try simp only [Act.put, List.setIfInBounds_toArray, List.set_cons_zero, List.set_cons_succ, List.getElem_toArray, List.getElem_cons_succ, List.getElem_cons_zero]
          refine wpAnyH_ready (rs := [1, 8]) (by kernel_rfl) (by simp) ?_
          refine AllReadyH.cons rfl (fun K hK => ?_) (AllReadyH.cons rfl (fun K hK => ?_) AllReadyH.nil)
          · go_simp
            refine hK.out _ _ (by exact hHeld) (fun hHeld => ?_)
            clear hK K
            try simp only [Act.put, List.setIfInBounds_toArray, List.set_cons_zero, List.set_cons_succ, List.getElem_toArray, List.getElem_cons_succ, List.getElem_cons_zero]
            refine wpAnyH_ready (rs := [8]) (by kernel_rfl) (by simp) ?_
            refine AllReadyH.cons rfl (fun K hK => ?_) AllReadyH.nil
            · go_simp
              go_at_call 29
              refine IHQ.out.mono ?_
              rintro e w1 ⟨a1, c1, rfl, hs1, hb1⟩
              have hc3 : ∀ o, (w1.alloc o).cell? ⟨O, 1, none⟩ = some u9 := fun o => ((XO.out.below hb1 hOl).alloc o).cell 1
              have hc4 : w1.cell? ⟨O, 1, none⟩ = some u9 := (XO.out.below hb1 hOl).cell 1
              go_simp
              refine hK.out _ _ (by exact OnS.below HS8.out hb1 HBW.out) (fun hHeld => ?_)
              clear hK K
              try simp only [Act.put, List.setIfInBounds_toArray, List.set_cons_zero, List.set_cons_succ, List.getElem_toArray, List.getElem_cons_succ, List.getElem_cons_zero]
              refine wpAnyH_ready (rs := [9]) (by kernel_rfl) (by simp) ?_
              refine AllReadyH.cons rfl (fun K hK => ?_) AllReadyH.nil
              · go_simp
                refine hK.out _ _ (by exact hHeld.alloc _) (fun hHeld => ?_)
                clear hK K
                try simp only [Act.put, List.setIfInBounds_toArray, List.set_cons_zero, List.set_cons_succ, List.getElem_toArray, List.getElem_cons_succ, List.getElem_cons_zero]
                refine wpAnyH_ready (rs := [10]) (by kernel_rfl) (by simp) ?_
                refine AllReadyH.cons rfl (fun K hK => ?_) AllReadyH.nil
                · refine step_append_lies _ rfl _ _ 23 rfl (O + 1) 25 i0 _ 2 40 Try.underlying23 hi0 hz0 hz1 hz2 rfl (by decide) u9 (onL ls (l.take k)).length xs rfl (by exact (XW.out.below hb1).own.alloc _) ⟨w1.heap.size, 0, none⟩ 1 1 [.string (onT ls l[k]).name, .slice a1 (onT ls l[k]).args.length c1] rfl rfl (cell_two_new _ _ _ _) (HN1.out a1 c1) (by decide) HL1.out.1 HL1.out.2 (by have := hb1.size; simp; omega) _ rfl ?_
                  intro g cap w3 hown3 hgrow3 hat3 hlt3
                  have hB3 := hide (((XO.out.below hb1 hOl).alloc _).grown hgrow3 (XW.out.ne (Nat.lt_succ_self _)))
                  have hc5 : w3.cell? ⟨O, 1, none⟩ = some u9 := hB3.out.cell 1
                  have hf5 := hB3.out.frozen 1
                  have HFIN := hide (on_step (c := c) (n := l.length) (a := some ⟨b, o, none⟩) hO hY XW.out XE.out XT.out XR.out XO.out hb1 ⟨a1, c1, rfl, hs1⟩ hown3 hgrow3 hat3)
                  refine hK.out _ _ (by exact OnS.grown hHeld hgrow3 (fun j hj => XW.out.ne (by omega)) hXb trivial) (fun hHeld => ?_)
                  clear hK K
                  try simp only [Act.put, List.setIfInBounds_toArray, List.set_cons_zero, List.set_cons_succ, List.getElem_toArray, List.getElem_cons_succ, List.getElem_cons_zero]
                  refine wpAnyH_take (i := 11) (v := ?_) rfl (by kernel_rfl) (by kernel_rfl) (by kernel_rfl) (fun _ _ _ h => h) (Or.inl ⟨by rfl, ?_⟩) (by assumption) ?_
                  rotate_left
                  · intro w' hSw
                    go_simp <;> with_reducible rfl
                  try simp only [Act.put, List.setIfInBounds_toArray, List.set_cons_zero, List.set_cons_succ, List.getElem_toArray, List.getElem_cons_succ, List.getElem_cons_zero]
                  refine wpAnyH_ready (rs := [12]) (by kernel_rfl) (by simp) ?_
                  refine AllReadyH.cons rfl (fun K hK => ?_) AllReadyH.nil
                  · go_simp
                    refine hK.out _ _ (by exact OnS.set hHeld _ trivial (by omega) (by omega)) (fun hHeld => ?_)
                    clear hK K
                    try simp only [Act.put, List.setIfInBounds_toArray, List.set_cons_zero, List.set_cons_succ, List.getElem_toArray, List.getElem_cons_succ, List.getElem_cons_zero]
                    refine wpAnyH_done (by kernel_rfl) ?_ _
                    clear hc3 hc4 hc5 hf5 hown3 hgrow3 hat3 hlt3 hB3 hHeld
                    go_wp2_with fail
                    go_roundw
                    case rel =>
                      refine ⟨k + 1, .slice (some ⟨g, 0, none⟩) ((onL ls (l.take k)).length + 1) cap, by omega, by go_num, ?_⟩
                      rw [onL_take ls l k hlt]
                      exact HFIN.out
                    case measure => simp [intOf]; omega
          · go_simp
            go_at_call 29
            refine IHQ.out.mono ?_
            rintro e w1 ⟨a1, c1, rfl, hs1, hb1⟩
            have hc3 : ∀ o, (w1.alloc o).cell? ⟨O, 1, none⟩ = some u9 := fun o => ((XO.out.below hb1 hOl).alloc o).cell 1
            have hc4 : w1.cell? ⟨O, 1, none⟩ = some u9 := (XO.out.below hb1 hOl).cell 1
            go_simp
            refine hK.out _ _ (by exact OnS.below HS8.out hb1 HBW.out) (fun hHeld => ?_)
            clear hK K
            try simp only [Act.put, List.setIfInBounds_toArray, List.set_cons_zero, List.set_cons_succ, List.getElem_toArray, List.getElem_cons_succ, List.getElem_cons_zero]
            refine wpAnyH_ready (rs := [1, 9]) (by kernel_rfl) (by simp) ?_
            refine AllReadyH.cons rfl (fun K hK => ?_) (AllReadyH.cons rfl (fun K hK => ?_) AllReadyH.nil)
            · go_simp
              refine hK.out _ _ (by exact hHeld) (fun hHeld => ?_)
              clear hK K
              try simp only [Act.put, List.setIfInBounds_toArray, List.set_cons_zero, List.set_cons_succ, List.getElem_toArray, List.getElem_cons_succ, List.getElem_cons_zero]
              refine wpAnyH_ready (rs := [9]) (by kernel_rfl) (by simp) ?_
              refine AllReadyH.cons rfl (fun K hK => ?_) AllReadyH.nil
              · go_simp
                refine hK.out _ _ (by exact hHeld.alloc _) (fun hHeld => ?_)
                clear hK K
                try simp only [Act.put, List.setIfInBounds_toArray, List.set_cons_zero, List.set_cons_succ, List.getElem_toArray, List.getElem_cons_succ, List.getElem_cons_zero]
                refine wpAnyH_ready (rs := [10]) (by kernel_rfl) (by simp) ?_
                refine AllReadyH.cons rfl (fun K hK => ?_) AllReadyH.nil
                · refine step_append_lies _ rfl _ _ 23 rfl (O + 1) 25 i0 _ 2 40 Try.underlying23 hi0 hz0 hz1 hz2 rfl (by decide) u9 (onL ls (l.take k)).length xs rfl (by exact (XW.out.below hb1).own.alloc _) ⟨w1.heap.size, 0, none⟩ 1 1 [.string (onT ls l[k]).name, .slice a1 (onT ls l[k]).args.length c1] rfl rfl (cell_two_new _ _ _ _) (HN1.out a1 c1) (by decide) HL1.out.1 HL1.out.2 (by have := hb1.size; simp; omega) _ rfl ?_
                  intro g cap w3 hown3 hgrow3 hat3 hlt3
                  have hB3 := hide (((XO.out.below hb1 hOl).alloc _).grown hgrow3 (XW.out.ne (Nat.lt_succ_self _)))
                  have hc5 : w3.cell? ⟨O, 1, none⟩ = some u9 := hB3.out.cell 1
                  have hf5 := hB3.out.frozen 1
                  have HFIN := hide (on_step (c := c) (n := l.length) (a := some ⟨b, o, none⟩) hO hY XW.out XE.out XT.out XR.out XO.out hb1 ⟨a1, c1, rfl, hs1⟩ hown3 hgrow3 hat3)
                  refine hK.out _ _ (by exact OnS.grown hHeld hgrow3 (fun j hj => XW.out.ne (by omega)) hXb trivial) (fun hHeld => ?_)
                  clear hK K
                  try simp only [Act.put, List.setIfInBounds_toArray, List.set_cons_zero, List.set_cons_succ, List.getElem_toArray, List.getElem_cons_succ, List.getElem_cons_zero]
                  refine wpAnyH_take (i := 11) (v := ?_) rfl (by kernel_rfl) (by kernel_rfl) (by kernel_rfl) (fun _ _ _ h => h) (Or.inl ⟨by rfl, ?_⟩) (by assumption) ?_
                  rotate_left
                  · intro w' hSw
                    go_simp <;> with_reducible rfl
                  try simp only [Act.put, List.setIfInBounds_toArray, List.set_cons_zero, List.set_cons_succ, List.getElem_toArray, List.getElem_cons_succ, List.getElem_cons_zero]
                  refine wpAnyH_ready (rs := [12]) (by kernel_rfl) (by simp) ?_
                  refine AllReadyH.cons rfl (fun K hK => ?_) AllReadyH.nil
                  · go_simp
                    refine hK.out _ _ (by exact OnS.set hHeld _ trivial (by omega) (by omega)) (fun hHeld => ?_)
                    clear hK K
                    try simp only [Act.put, List.setIfInBounds_toArray, List.set_cons_zero, List.set_cons_succ, List.getElem_toArray, List.getElem_cons_succ, List.getElem_cons_zero]
                    refine wpAnyH_done (by kernel_rfl) ?_ _
                    clear hc3 hc4 hc5 hf5 hown3 hgrow3 hat3 hlt3 hB3 hHeld
                    go_wp2_with fail
                    go_roundw
                    case rel =>
                      refine ⟨k + 1, .slice (some ⟨g, 0, none⟩) ((onL ls (l.take k)).length + 1) cap, by omega, by go_num, ?_⟩
                      rw [onL_take ls l k hlt]
                      exact HFIN.out
                    case measure => simp [intOf]; omega
            · go_simp
              refine hK.out _ _ (by exact hHeld.alloc _) (fun hHeld => ?_)
              clear hK K
              try simp only [Act.put, List.setIfInBounds_toArray, List.set_cons_zero, List.set_cons_succ, List.getElem_toArray, List.getElem_cons_succ, List.getElem_cons_zero]
              refine wpAnyH_ready (rs := [1]) (by kernel_rfl) (by simp) ?_
              refine AllReadyH.cons rfl (fun K hK => ?_) AllReadyH.nil
              · go_simp
                refine hK.out _ _ (by exact hHeld) (fun hHeld => ?_)
                clear hK K
                try simp only [Act.put, List.setIfInBounds_toArray, List.set_cons_zero, List.set_cons_succ, List.getElem_toArray, List.getElem_cons_succ, List.getElem_cons_zero]
                refine wpAnyH_ready (rs := [10]) (by kernel_rfl) (by simp) ?_
                refine AllReadyH.cons rfl (fun K hK => ?_) AllReadyH.nil
                · refine step_append_lies _ rfl _ _ 23 rfl (O + 1) 25 i0 _ 2 40 Try.underlying23 hi0 hz0 hz1 hz2 rfl (by decide) u9 (onL ls (l.take k)).length xs rfl (by exact (XW.out.below hb1).own.alloc _) ⟨w1.heap.size, 0, none⟩ 1 1 [.string (onT ls l[k]).name, .slice a1 (onT ls l[k]).args.length c1] rfl rfl (cell_two_new _ _ _ _) (HN1.out a1 c1) (by decide) HL1.out.1 HL1.out.2 (by have := hb1.size; simp; omega) _ rfl ?_
                  intro g cap w3 hown3 hgrow3 hat3 hlt3
                  have hB3 := hide (((XO.out.below hb1 hOl).alloc _).grown hgrow3 (XW.out.ne (Nat.lt_succ_self _)))
                  have hc5 : w3.cell? ⟨O, 1, none⟩ = some u9 := hB3.out.cell 1
                  have hf5 := hB3.out.frozen 1
                  have HFIN := hide (on_step (c := c) (n := l.length) (a := some ⟨b, o, none⟩) hO hY XW.out XE.out XT.out XR.out XO.out hb1 ⟨a1, c1, rfl, hs1⟩ hown3 hgrow3 hat3)
                  refine hK.out _ _ (by exact OnS.grown hHeld hgrow3 (fun j hj => XW.out.ne (by omega)) hXb trivial) (fun hHeld => ?_)
                  clear hK K
                  try simp only [Act.put, List.setIfInBounds_toArray, List.set_cons_zero, List.set_cons_succ, List.getElem_toArray, List.getElem_cons_succ, List.getElem_cons_zero]
                  refine wpAnyH_take (i := 11) (v := ?_) rfl (by kernel_rfl) (by kernel_rfl) (by kernel_rfl) (fun _ _ _ h => h) (Or.inl ⟨by rfl, ?_⟩) (by assumption) ?_
                  rotate_left
                  · intro w' hSw
                    go_simp <;> with_reducible rfl
                  try simp only [Act.put, List.setIfInBounds_toArray, List.set_cons_zero, List.set_cons_succ, List.getElem_toArray, List.getElem_cons_succ, List.getElem_cons_zero]
                  refine wpAnyH_ready (rs := [12]) (by kernel_rfl) (by simp) ?_
                  refine AllReadyH.cons rfl (fun K hK => ?_) AllReadyH.nil
                  · go_simp
                    refine hK.out _ _ (by exact OnS.set hHeld _ trivial (by omega) (by omega)) (fun hHeld => ?_)
                    clear hK K
                    try simp only [Act.put, List.setIfInBounds_toArray, List.set_cons_zero, List.set_cons_succ, List.getElem_toArray, List.getElem_cons_succ, List.getElem_cons_zero]
                    refine wpAnyH_done (by kernel_rfl) ?_ _
                    clear hc3 hc4 hc5 hf5 hown3 hgrow3 hat3 hlt3 hB3 hHeld
                    go_wp2_with fail
                    go_roundw
                    case rel =>
                      refine ⟨k + 1, .slice (some ⟨g, 0, none⟩) ((onL ls (l.take k)).length + 1) cap, by omega, by go_num, ?_⟩
                      rw [onL_take ls l k hlt]
                      exact HFIN.out
                    case measure => simp [intOf]; omega
        · have htk : l.take k = l := List.take_of_length_le (by omega)
          rw [htk] at XW
          obtain ⟨a9, c9, hu9, hsl9⟩ := XW.out.sl
          subst hu9
          have S9 := hide hsl9
          have r0 : wr.cell? ⟨w.heap.size + 1, 0, none⟩ = some (.string ⟨#[]⟩) := XR.out.cell 0
          have r1 : wr.cell? ⟨w.heap.size + 1, 1, none⟩ = some (.slice none 0 0) := XR.out.cell 1
          have rf := XR.out.frozen
          clear hsl9 htk
          go_wp2_with fail
          refine bodyPost_ret (v := .agg #[.string s, .slice a9 (onL ls l).length c9]) (by simp [results, Try.results29, go_sem, World.cell?_setCell_same, World.cell?_setCell_other, r0, r1]) rfl ?_
          rw [HD.out]
          refine ⟨a9, c9, rfl, (S9.out.kept fun b hb => ?_).mono fun b hb _ => hb.imp id (fun h => by omega), (XE.out.setCell (by simp) _).setCell (by simp) _⟩
          have hbne : b ≠ w.heap.size + 1 := by
            rcases hb with h | h
            · have := h.2; omega
            · omega
          rw [Below.heap_setCell _ _ _ _ (by simpa using hbne), Below.heap_setCell _ _ _ _ (by simpa using hbne)]
#print axioms on_any
end Go.Proofs.Ytpjdkdebjkpmmaj

/- Walks: a term with bindings in it, if it isn't too great; whether bindings may be. -/
namespace Go.Proofs.Ytpjdkdebjkpmmaj
open Go.RowKit
set_option linter.unusedSimpArgs false
set_option linter.unusedVariables false
set_option maxRecDepth 8000

def OnAll (w : World) (X : Nat → Prop) (t : Tm) (e : Ending) (w' : World) : Prop :=
  Below w.heap.size w w' ∧ ((2000 < sizeL [t] ∧ e = .returned (.tuple #[.agg #[.string ⟨#[]⟩, .slice none 0 0], .bool false])) ∨ (sizeL [t] ≤ 2000 ∧ ∃ a c, e = .returned (.tuple #[.agg #[.string t.name, .slice a t.args.length c], .bool true]) ∧ Sl w' (fun b => (X b ∧ b < w.heap.size) ∨ w.heap.size ≤ b) a t.args))

set_option maxHeartbeats 1000000 in
theorem onAll_any (ls : List Bd) (t : Tm) (u v : Value) (w : World) (X : Nat → Prop) (hu : BV w X u ls) (hv : TV w X v t) (hsm : sizeL [t] ≤ 1000000) :
    Calls Try.prog 10 #[u, v] w fun e w' => OnAll w X (onT ls t) e w' := by
  obtain ⟨a, c, rfl, hs⟩ := hv
  have HU := hide (hu.mono (Y := fun b => X b ∧ b < w.heap.size) fun b h1 h2 => ⟨h1, h2⟩)
  have HS := hide (hs.mono (Y := fun b => X b ∧ b < w.heap.size) fun b h1 h2 => ⟨h1, h2⟩)
  clear hu hs
  go_enter Try.func10, Try.ntmps10
  go_wp2_with fail
  refine (grown_any ls t u _ 2000 _ (fun b => X b ∧ b < w.heap.size) (by exact (HU.out.alloc _).alloc _) (by exact ⟨a, c, rfl, (HS.out.later ((Below.refl _ _).alloc (Nat.le_refl _) _)).later ((Below.refl _ _).alloc (Nat.le_refl _) _)⟩) (by decide) (by decide)).mono ?_
  rintro e w1 ⟨rfl, hb1⟩
  have T1 := hide (((Blk.new w #[.string t.name, .slice a t.args.length c] 25).alloc (.cells #[.string ⟨#[]⟩, .slice none 0 0] 25)).below hb1 (by simp; omega))
  have R1 : Hid (Blk w1 (w.heap.size + 1) #[.string ⟨#[]⟩, .slice none 0 0] 25) := by
    have h := (Blk.new (w.alloc (.cells #[.string t.name, .slice a t.args.length c] 25)) #[.string ⟨#[]⟩, .slice none 0 0] 25).below hb1 (by simp)
    unfold Hid
    simpa using h
  have B1 := hide ((((Below.refl w.heap.size w).alloc (Nat.le_refl _) (.cells #[.string t.name, .slice a t.args.length c] 25)).alloc (by simp) (.cells #[.string ⟨#[]⟩, .slice none 0 0] 25)).trans (hb1.mono (by simp; omega)))
  clear hb1
  have t0 : w1.cell? ⟨w.heap.size, 0, none⟩ = some (.string t.name) := T1.out.cell 0
  have t1 : w1.cell? ⟨w.heap.size, 1, none⟩ = some (.slice a t.args.length c) := T1.out.cell 1
  have r0 : w1.cell? ⟨w.heap.size + 1, 0, none⟩ = some (.string ⟨#[]⟩) := R1.out.cell 0
  have r1 : w1.cell? ⟨w.heap.size + 1, 1, none⟩ = some (.slice none 0 0) := R1.out.cell 1
  have rf := R1.out.frozen
  by_cases hg : 2000 < sizeL [onT ls t]
  · have hmin : min (sizeL [onT ls t] : Int) (2000 + 1) = 2001 := by omega
    rw [hmin]
    go_wp2_with fail
    refine bodyPost_ret (v := .tuple #[.agg #[.string ⟨#[]⟩, .slice none 0 0], .bool false]) (by simp [results, Try.results10, go_sem, World.cell?_setCell_same, World.cell?_setCell_other, r0, r1]) rfl ?_
    exact ⟨(B1.out.setCell (by simp) _).setCell (by simp) _, Or.inl ⟨hg, rfl⟩⟩
  · have hmin : min (sizeL [onT ls t] : Int) (2000 + 1) = sizeL [onT ls t] := by omega
    rw [hmin]
    have hle : ¬ (2000 : Int) < (sizeL [onT ls t] : Int) := by omega
    clear hmin
    go_wp2_with fail
    refine (on_any ls t u _ _ (fun b => X b ∧ b < w.heap.size) (by exact HU.out.later B1.out) (by exact ⟨a, c, rfl, HS.out.later B1.out⟩) hsm).mono ?_
    rintro e w2 ⟨a2, c2, rfl, hs2, hb2⟩
    have R2 := hide (R1.out.below hb2 R1.out.lt)
    have B2 := hide (B1.out.trans (hb2.mono B1.out.size))
    have S2 := hide (hs2.mono (Y := fun b => (X b ∧ b < w.heap.size) ∨ w.heap.size + 2 ≤ b) fun b hb _ => hb.imp (fun h => h.1) (fun h => by have := R1.out.lt; omega))
    clear hb2 hs2 r0 r1 rf t0 t1
    have r0 : w2.cell? ⟨w.heap.size + 1, 0, none⟩ = some (.string ⟨#[]⟩) := R2.out.cell 0
    have r1 : w2.cell? ⟨w.heap.size + 1, 1, none⟩ = some (.slice none 0 0) := R2.out.cell 1
    have rf := R2.out.frozen
    go_wp2_with fail
    refine bodyPost_ret (v := .tuple #[.agg #[.string (onT ls t).name, .slice a2 (onT ls t).args.length c2], .bool true]) (by simp [results, Try.results10, go_sem, World.cell?_setCell_same, World.cell?_setCell_other, r0, r1]) rfl ?_
    refine ⟨(B2.out.setCell (by simp) _).setCell (by simp) _, Or.inr ⟨by omega, a2, c2, rfl, (S2.out.kept fun b hb => ?_).mono fun b hb _ => hb.imp id (fun h => by omega)⟩⟩
    have hbne : b ≠ w.heap.size + 1 := by
      rcases hb with h | h
      · have := h.2; omega
      · omega
    rw [Below.heap_setCell _ _ _ _ (by simpa using hbne), Below.heap_setCell _ _ _ _ (by simpa using hbne)]

#print axioms onAll_any
end Go.Proofs.Ytpjdkdebjkpmmaj


/- The law on matching a term made of raw numbers: it answers true. -/
namespace Go.Proofs.Ytpjdkdebjkpmmaj
open Go.RowKit
set_option linter.unusedSimpArgs false
set_option linter.unusedVariables false
set_option maxRecDepth 8000

/-- How great a term is with bindings in it. -/
theorem onL_size {ls : List Bd} {M : Nat} (hM : 1 ≤ M) (h : ∀ d ∈ ls, sizeL [d.t] ≤ M) : ∀ l : List Tm, sizeL (onL ls l) ≤ sizeL l * M := by
  intro l
  induction l using Tm.indL with
  | h0 => simp [onL, sizeL]
  | h s l r ihl ihr =>
    have e1 : sizeL (onL ls (⟨s, l⟩ :: r)) = sizeL [onT ls ⟨s, l⟩] + sizeL (onL ls r) := by
      rw [onL_cons]
      generalize onT ls ⟨s, l⟩ = x
      obtain ⟨s2, m⟩ := x
      simp [sizeL]
    have e2 : sizeL (⟨s, l⟩ :: r) = (1 + sizeL l) + sizeL r := by simp [sizeL]
    have h1 : sizeL [onT ls ⟨s, l⟩] ≤ (1 + sizeL l) * M := by
      have hdeep : sizeL [(⟨s, onL ls l⟩ : Tm)] ≤ (1 + sizeL l) * M := by
        simp only [sizeL]
        rw [Nat.add_mul]
        omega
      unfold onT onN
      cases hf : forT ls s with
      | none => exact hdeep
      | some x =>
        dsimp only
        split
        · obtain ⟨d, hd, _, rfl⟩ := forT_mem hf
          have := h d hd
          rw [Nat.add_mul]
          omega
        · exact hdeep
    rw [e1, e2, Nat.add_mul]
    omega
theorem onT_size {ls : List Bd} {M : Nat} (hM : 1 ≤ M) (h : ∀ d ∈ ls, sizeL [d.t] ≤ M) (t : Tm) : sizeL [onT ls t] ≤ sizeL [t] * M := by
  have h1 := onL_size hM h [t]
  rw [onL_cons] at h1
  simpa [onL] using h1

/-- What the region that makes the instance leaves. -/
def MmB (w3 : World) (Q : Nat) (s : ByteArray) (a : Option Addr) (n c : Nat) (l0 : List Tm) (w9 : World) : Prop := Blk w9 Q #[.string s, .slice a n c] 25 ∧ Below w3.heap.size w3 w9 ∧ Sl w9 (fun _ => True) a l0
theorem mmB_set {w3 w8 : World} {Q n c : Nat} {s : ByteArray} {a : Option Addr} {l0 : List Tm} (hQ : Blk w8 Q #[.string ⟨#[]⟩, .slice none 0 0] 25) (hw : w3.heap.size ≤ Q) (hb : Below w3.heap.size w3 w8) (hs : Sl w8 (fun b => b ≠ Q) a l0) :
    MmB w3 Q s a n c l0 ((w8.setCell ⟨Q, 0, none⟩ (.string s)).setCell ⟨Q, 1, none⟩ (.slice a n c)) :=
  ⟨(hQ.set 0 _).set 1 _, (hb.setCell (by exact hw) _).setCell (by exact hw) _, (hs.kept fun b hb => by
    rw [Below.heap_setCell _ _ _ _ (by simpa using hb), Below.heap_setCell _ _ _ _ (by simpa using hb)]).mono fun b hb _ => trivial⟩

end Go.Proofs.Ytpjdkdebjkpmmaj

/- The law on matching an instance: it answers true. -/
namespace Go.Proofs.Ytpjdkdebjkpmmaj
open Go.RowKit
set_option linter.unusedSimpArgs false
set_option linter.unusedVariables false
set_option maxRecDepth 8000

/-- What is asked of the pattern and its instance. -/
def TmX (p x : Tm) : Prop := errL [x] = 0 ∧ (sizeL [x] ≤ 200 → twoE p x = 0 ∧ ∃ h', mtT p x [] = some h' ∧ ∀ l' : List Bd, l'.Perm h' → SortedB l' → bindsE l' = 0 ∧ mayE p = 0 ∧ fT l' p = x ∧ l'.length = (varsP [] (preL [p])).length)

set_option maxHeartbeats 3000000 in
theorem topMatch_any (zs : List Int) (hr : ∀ z ∈ zs, Rng z) (y : Int) (hy : Rng y) (u : Value) (w : World) (X : Nat → Prop) (hu : PV w X u zs) :
    Calls Try.prog 3 #[u, .int .i64 y] w fun e w' => e = .returned (.bool true) ∧ Below w.heap.size w w' := by
  have HU := hide hu
  obtain ⟨a, c, rfl, hlc, hu2⟩ := hu
  clear hu2
  by_cases h256 : 256 < zs.length
  · go_enter Try.func3, Try.ntmps3
    go_wp2_with fail
    go_ret
    exact ⟨rfl, Below.refl _ _⟩
  · go_enter Try.func3, Try.ntmps3
    go_wp2_with fail
    refine (pick_any _ 14 (by decide) (by decide) hy _).mono ?_
    rintro e w1 ⟨k1, rfl, hk1, rfl⟩
    go_wp2_with fail
    refine (termOf_any 3 (by decide) (by decide) zs hr (by omega) k1 0 _ _ X HU.out (by omega) (by unfold top; split <;> omega)).mono ?_
    rintro e w2 ⟨t2, a2, c2, rfl, hs2, hz2, hb2, he2⟩
    have htop : sizeL [t2] ≤ 25 := by
      have : top k1 ≤ 25 := by unfold top; split <;> omega
      omega
    have hbA : Below w2.heap.size w2 (w2.alloc (.cells #[.string t2.name, .slice a2 t2.args.length c2] 25)) := (Below.refl _ _).alloc (Nat.le_refl _) _
    have P3 := hide (Blk.new w2 #[.string t2.name, .slice a2 t2.args.length c2] 25)
    have B3 := hide ((hb2.trans (hbA.mono hb2.size)))
    have S3 := hide ((hs2.later hbA).mono (Y := fun _ => True) fun _ _ _ => trivial)
    have hz2' := hb2.size
    clear hb2 hs2 hbA
    go_wp2_with fail
    have p0 := P3.out.cell 0
    have p1 := P3.out.cell 1
    generalize w2.alloc (.cells #[.string t2.name, .slice a2 t2.args.length c2] 25) = w3 at *
    generalize w2.heap.size = P at *
    have BFA : Hid (∀ w', Below w3.heap.size w3 w' → Calls Try.prog 11 #[.slice a zs.length c, .int .i64 40, .int .i64 6, .int .i64 4] w' fun e w'' => ∃ v ls, e = .returned v ∧ BV w'' (fun b => w'.heap.size ≤ b) v ls ∧ (bindsE ls = 0 ∧ ∀ d ∈ ls, sizeL [d.t] ≤ 11) ∧ Below w3.heap.size w3 w'' ∧ Below w'.heap.size w' w'') := fun w' hb => by
      refine (bindsFrom_any 4 (by decide) (by decide) zs hr (by omega) 6 40 _ w' X ((HU.out.later B3.out).later hb) (by omega) (by unfold top; split <;> omega)).mono ?_
      rintro e w5 ⟨v, ls, rfl, hv, hfo, hsz, hb5⟩
      have ht : top 6 ≤ 11 := by unfold top; split <;> omega
      exact ⟨v, ls, rfl, hv, ⟨four_E hfo fun d hd => ⟨by have := (hsz d hd).1; omega, (hsz d hd).2⟩, fun d hd => by have := (hsz d hd).1; omega⟩, hb.trans (hb5.mono hb.size), hb5⟩
    have ONA : Hid (∀ (Y : Nat → Prop) v ls w', (∀ b, b < w3.heap.size → Y b) → Below w3.heap.size w3 w' → BV w' Y v ls → (bindsE ls = 0 ∧ ∀ d ∈ ls, sizeL [d.t] ≤ 11) → Calls Try.prog 10 #[v, .agg #[.string t2.name, .slice a2 t2.args.length c2]] w' fun e w'' => ∃ a6 c6, e = .returned (.tuple #[.agg #[.string (onT ls t2).name, .slice a6 (onT ls t2).args.length c6], .bool true]) ∧ Below w3.heap.size w3 w'' ∧ Below w'.heap.size w' w'' ∧ Sl w'' (fun b => Y b ∨ w'.heap.size ≤ b) a6 (onT ls t2).args ∧ TmX t2 (onT ls t2)) := fun Y v ls w' hY hb hv hd => by
      refine (onAll_any ls t2 v _ w' Y hv ⟨_, _, rfl, (((S3.out.mono (Y := fun b => b < w3.heap.size) fun b _ h => h).later hb).mono fun b h _ => hY b h)⟩ (by omega)).mono ?_
      rintro e w6 ⟨hb6, ⟨h6, _⟩ | ⟨h6, a6, c6, rfl, hs6⟩⟩
      · have := onT_size (by decide) hd.2 t2
        omega
      · exact ⟨a6, c6, rfl, hb.trans (hb6.mono hb.size), hb6, hs6.mono fun b h _ => h.imp (fun h => h.1) id, errL_onT hd.1 he2, fun hsx => topMatch_pure hd.1 he2 (by omega) hsx⟩
    have KP : Hid (∀ w', Below w3.heap.size w3 w' → w'.cell? ⟨P, 0, none⟩ = some (.string t2.name) ∧ w'.cell? ⟨P, 1, none⟩ = some (.slice a2 t2.args.length c2)) := fun w' hb => ⟨(P3.out.below hb P3.out.lt).cell 0, (P3.out.below hb P3.out.lt).cell 1⟩
    have hPl : P < w3.heap.size := P3.out.lt
    go_region_held3 (fun w' => w'.cell? ⟨P, 0, none⟩ = some (.string t2.name) ∧ w'.cell? ⟨P, 1, none⟩ = some (.slice a2 t2.args.length c2)) (first | exact hS | exact ⟨p0, p1⟩ | exact two_keep (two_keep hS nQ nQ) nQ nQ | exact two_keep hS nQ nQ | go_keep)
      (first
        | (go_at_call 11; refine (BFA.out _ (by first | exact Below.refl _ _ | exact (Below.refl _ _).drew | exact ((Below.refl _ _).alloc (Nat.le_refl _) _) | exact ((Below.refl _ _).drew.alloc (Nat.le_refl _) _) | exact ((Below.refl _ _).alloc (Nat.le_refl _) _).drew)).mono ?_; rintro e w5 ⟨v5, l5, rfl, hv5, hz5, hb5, hbl5⟩; have hS := KP.out _ hb5)
        | (go_at_call 10;
            first
              | (refine (ONA.out (fun b => b ≠ w5.heap.size) _ _ _ (fun b h => by have := hb5.size; omega) (by exact hb5.alloc hb5.size _) (by exact ((hv5.mono (Y := fun b => b ≠ w5.heap.size) (fun b _ h => by omega)).alloc _)) hz5).mono ?_; rintro e w6 ⟨a6, c6, rfl, hb6, hbl6, hs6, hz6⟩; have hS := KP.out _ hb6; have QB : Blk w6 w5.heap.size #[.string ⟨#[]⟩, .slice none 0 0] 25 := (Blk.new w5 _ _).below hbl6 (by simp); have q0 := QB.cell 0; have q1 := QB.cell 1; have qf := QB.frozen; have ql := QB.lt; have hQN : w3.heap.size ≤ w5.heap.size := hb5.size; have nQ : w5.heap.size ≠ P := by omega)
              | (have BVq : BV w5 (fun b => b ≠ w3.heap.size) v5 l5 := hv5.mono (fun b h _ => by simp at h; omega); refine (ONA.out (fun b => b ≠ w3.heap.size) _ _ _ (fun b h => by omega) (by exact hb5) (by exact BVq) hz5).mono ?_; rintro e w6 ⟨a6, c6, rfl, hb6, hbl6, hs6, hz6⟩; have hS := KP.out _ hb6; have QB : Blk w6 w3.heap.size #[.string ⟨#[]⟩, .slice none 0 0] 25 := (((Blk.new w3 _ _).drewN 1).below hbl5 (by simp)).below hbl6 (by have := hbl5.size; simp at this; omega); have q0 := QB.cell 0; have q1 := QB.cell 1; have qf := QB.frozen; have ql := QB.lt; have hQN : w3.heap.size ≤ w3.heap.size := Nat.le_refl _; have nQ : w3.heap.size ≠ P := by omega)
              | (refine (ONA.out (fun _ => True) _ _ _ (fun _ _ => trivial) (by exact hb5) (by exact hv5.mono fun _ _ _ => trivial) hz5).mono ?_; rintro e w6 ⟨a6, c6, rfl, hb6, hbl6, hs6, hz6⟩; have hS := KP.out _ hb6)))
    all_goals first
      | (have TB : Hid (MmB w3 w5.heap.size (onT l5 t2).name a6 (onT l5 t2).args.length c6 (onT l5 t2).args ((w6.setCell ⟨w5.heap.size, 0, none⟩ (.string (onT l5 t2).name)).setCell ⟨w5.heap.size, 1, none⟩ (.slice a6 (onT l5 t2).args.length c6))) := mmB_set QB hQN hb6 (hs6.mono fun b hb _ => by rcases hb with h | h; exact h; simp at h; omega); generalize ((w6.setCell ⟨w5.heap.size, 0, none⟩ (.string (onT l5 t2).name)).setCell ⟨w5.heap.size, 1, none⟩ (.slice a6 (onT l5 t2).args.length c6)) = w9 at *; generalize w5.heap.size = Q at *)
      | (have hz35 : w3.heap.size < w5.heap.size := by (have := hbl5.size; simp at this; omega)
         have TB : Hid (MmB w3 w3.heap.size (onT l5 t2).name a6 (onT l5 t2).args.length c6 (onT l5 t2).args ((w6.setCell ⟨w3.heap.size, 0, none⟩ (.string (onT l5 t2).name)).setCell ⟨w3.heap.size, 1, none⟩ (.slice a6 (onT l5 t2).args.length c6))) := mmB_set QB (by exact hQN) hb6 (hs6.mono fun b hb _ => by rcases hb with h | h; exact h; omega)
         generalize ((w6.setCell ⟨w3.heap.size, 0, none⟩ (.string (onT l5 t2).name)).setCell ⟨w3.heap.size, 1, none⟩ (.slice a6 (onT l5 t2).args.length c6)) = w9 at *
         obtain ⟨Q, hQe⟩ : ∃ Q, Q = w3.heap.size := ⟨_, rfl⟩
         rw [← hQe] at TB ⊢
         clear hQe)
      | (have TB : Hid (MmB w3 w6.heap.size (onT l5 t2).name a6 (onT l5 t2).args.length c6 (onT l5 t2).args (w6.alloc (.cells #[.string (onT l5 t2).name, .slice a6 (onT l5 t2).args.length c6] 25))) := ⟨Blk.new w6 _ _, hb6.alloc hb6.size _, (hs6.later ((Below.refl _ _).alloc (Nat.le_refl _) _)).mono fun _ _ _ => trivial⟩; generalize (w6.alloc (.cells #[.string (onT l5 t2).name, .slice a6 (onT l5 t2).args.length c6] 25)) = w9 at *; generalize w6.heap.size = Q at *)
    all_goals
      clear BFA ONA
      generalize onT l5 t2 = x at *
      have TX0 := hide hz6
      clear hz6 hS hs6 hb6 hbl6
      have HB9 := hide TB.out.2.1
      have q0 : w9.cell? ⟨Q, 0, none⟩ = some (.string x.name) := TB.out.1.cell 0
      have q1 : w9.cell? ⟨Q, 1, none⟩ = some (.slice a6 x.args.length c6) := TB.out.1.cell 1
      have p0' : w9.cell? ⟨P, 0, none⟩ = some (.string t2.name) := (KP.out w9 HB9.out).1
      have p1' : w9.cell? ⟨P, 1, none⟩ = some (.slice a2 t2.args.length c2) := (KP.out w9 HB9.out).2
      have BW9 := hide (B3.out.trans (HB9.out.mono B3.out.size))
      have TX : Hid (∀ w', Below w9.heap.size w9 w' → TV w' (fun _ => True) (.agg #[.string x.name, .slice a6 x.args.length c6]) x) := fun w' hb => ⟨_, _, rfl, TB.out.2.2.later hb⟩
      have TT : Hid (∀ w', Below w9.heap.size w9 w' → TV w' (fun _ => True) (.agg #[.string t2.name, .slice a2 t2.args.length c2]) t2) := fun w' hb => ⟨_, _, rfl, (S3.out.later HB9.out).later hb⟩
      have K4 : Hid (∀ w', Below w9.heap.size w9 w' → w'.cell? ⟨P, 0, none⟩ = some (.string t2.name) ∧ w'.cell? ⟨P, 1, none⟩ = some (.slice a2 t2.args.length c2) ∧ w'.cell? ⟨Q, 0, none⟩ = some (.string x.name) ∧ w'.cell? ⟨Q, 1, none⟩ = some (.slice a6 x.args.length c6)) := fun w' hb => ⟨cell_later hb p0', cell_later hb p1', cell_later hb q0, cell_later hb q1⟩
      go_wp2_with fail
      refine (size_any x _ 200 _ _ (TX.out _ (Below.refl _ _)) (by decide) (by decide)).mono ?_
      rintro e w10 ⟨rfl, hb10⟩
      clear p0' p1' q0 q1
      obtain ⟨p0', p1', q0, q1⟩ := K4.out _ hb10
      have HB10 := hide hb10
      clear hb10
      by_cases h200 : sizeL [x] ≤ 200
      · have e10 : min ((sizeL [x] : Nat) : Int) (200 + 1) = (sizeL [x] : Nat) := by omega
        rw [e10]
        clear e10
        obtain ⟨htw, h', hmt, hall⟩ := TX0.out.2 h200
        have HTW := hide htw
        have HMT := hide hmt
        have HALL := hide hall
        clear htw hmt hall
        go_wp2_with fail
        refine (match_any t2 x _ _ _ _ (TT.out _ HB10.out) (TX.out _ HB10.out)).mono ?_
        rintro e w11 ⟨hb11, ⟨h, _⟩ | ⟨_, h, _⟩ | ⟨_, h'', v11, l', hm', rfl, hbv, hperm, hsort⟩⟩
        · exact absurd HTW.out h
        · rw [HMT.out] at h; cases h
        have hb11' := HB10.out.trans (hb11.mono HB10.out.size)
        obtain ⟨hE', hmp, hf, hlen⟩ := HALL.out l' (by rw [HMT.out] at hm'; cases hm'; exact hperm) hsort
        clear p0' p1' q0 q1
        obtain ⟨p0', p1', q0, q1⟩ := K4.out _ hb11'
        have HB11 := hide hb11'
        have AP : Hid (Calls Try.prog 14 #[v11, .agg #[.string t2.name, .slice a2 t2.args.length c2]] w11 fun e w' => Below w11.heap.size w11 w' ∧ ∃ a' c', e = .returned (.tuple #[.agg #[.string x.name, .slice a' x.args.length c'], .int .i64 0]) ∧ Sl w' (fun b => w11.heap.size ≤ b) a' x.args) := by
          refine (apply_on l' t2 _ _ w11 (fun _ => True) (hbv.mono fun _ _ _ => trivial) (TT.out _ hb11')).mono ?_
          rintro e w12 ⟨hb12, ⟨h, _⟩ | ⟨_, h, _⟩ | ⟨_, _, ⟨_, a', c', rfl, hs⟩ | ⟨h, _⟩⟩⟩
          · exact absurd hE' h
          · exact absurd hmp h
          · rw [hf] at hs ⊢
            exact ⟨hb12, a', c', rfl, hs⟩
          · rw [hf] at h
            omega
        have HLN := hide hlen
        have HMP := hide hmp
        obtain ⟨av, cv, rfl, hlv⟩ : ∃ av cv, v11 = .slice av l'.length cv ∧ True := by
          obtain ⟨av, cv, h, _⟩ := hbv
          exact ⟨av, cv, h, trivial⟩
        clear hE' hmp hf hlen hbv hperm hsort hm' hb11 hb11' HALL hlv
        go_wp2_with fail
        refine AP.out.mono ?_
        rintro e w12 ⟨hb12, a12, c12, rfl, hs12⟩
        have hb12' := HB11.out.trans (hb12.mono HB11.out.size)
        have hbA : Below w12.heap.size w12 (w12.alloc (.cells #[.string x.name, .slice a12 x.args.length c12] 25)) := (Below.refl _ _).alloc (Nat.le_refl _) _
        have YB := hide (Blk.new w12 #[.string x.name, .slice a12 x.args.length c12] 25)
        have HB13 := hide (hb12'.trans (hbA.mono hb12'.size))
        have SY := hide ((hs12.later hbA).mono (Y := fun _ => True) fun _ _ _ => trivial)
        clear hb12 hs12 hbA hb12' AP p0' p1' q0 q1
        obtain ⟨p0', p1', q0, q1⟩ := K4.out _ HB13.out
        go_wp2_with fail
        generalize w12.alloc (.cells #[.string x.name, .slice a12 x.args.length c12] 25) = w13 at *
        generalize w12.heap.size = Y at *
        have K13 : Hid (∀ w', Below w13.heap.size w13 w' → w'.cell? ⟨P, 0, none⟩ = some (.string t2.name) ∧ w'.cell? ⟨P, 1, none⟩ = some (.slice a2 t2.args.length c2) ∧ w'.cell? ⟨Q, 0, none⟩ = some (.string x.name) ∧ w'.cell? ⟨Q, 1, none⟩ = some (.slice a6 x.args.length c6)) := fun w' hb => ⟨cell_later hb p0', cell_later hb p1', cell_later hb q0, cell_later hb q1⟩
        have HS0 := hide (And.intro p0' (And.intro p1' (And.intro q0 q1)))
        obtain ⟨G, hG0⟩ : ∃ G : Tm, G = ⟨⟨#[103]⟩, [⟨⟨#[97]⟩, []⟩, x]⟩ := ⟨_, rfl⟩
        have hG := hide hG0
        have HV : Hid (sizeL [x] ≤ 190 → (decide (twoE G t2 = 0) && hcB G t2) = true ∧ twoE G t2 = 0) := fun h => by
          have h1 := topMatch_in (p := t2) (x := x) (sa := ⟨#[97]⟩) (sg := ⟨#[103]⟩) HMP.out TX0.out.1 h (by unfold mtB; rw [HMT.out]; rfl) (by decide) (by decide) (by decide)
          rw [hG0, h1.1, h1.2]
          exact ⟨rfl, rfl⟩
        clear hG0
        have EN : Hid (∀ w14, Below w13.heap.size w13 w14 → Calls Try.prog 15 #[.agg #[.string ⟨#[103]⟩, .slice (some ⟨w14.heap.size, 0, none⟩) 2 2], .agg #[.string t2.name, .slice a2 t2.args.length c2]] (w14.alloc (.cells #[.string ⟨#[97]⟩, .slice none 0 0, .string x.name, .slice a6 x.args.length c6] 25)) fun e w'' => e = .returned (.tuple #[.bool (decide (twoE G t2 = 0) && hcB G t2), .int .i64 (twoE G t2)]) ∧ Below w13.heap.size w13 w'') := fun w14 hb => by
          have hbA : Below w14.heap.size w14 (w14.alloc (.cells #[.string ⟨#[97]⟩, .slice none 0 0, .string x.name, .slice a6 x.args.length c6] 25)) := (Below.refl _ _).alloc (Nat.le_refl _) _
          have hb9 := HB13.out.trans (hb.mono HB13.out.size)
          have hSx : Sl w14 (fun _ => True) a6 x.args := TB.out.2.2.later hb9
          have hG2 : Sl (w14.alloc (.cells #[.string ⟨#[97]⟩, .slice none 0 0, .string x.name, .slice a6 x.args.length c6] 25)) (fun _ => True) (some ⟨w14.heap.size, 0, none⟩) [⟨⟨#[97]⟩, []⟩, x] :=
            sl_two (t5 := ⟨⟨#[97]⟩, []⟩) (a5 := none) (c5 := 0) (Blk.new w14 _ _) trivial (show Sl _ (fun _ => True) none [] from ⟨by simp, Or.inl rfl⟩) (hSx.later hbA) (fun _ _ _ => trivial) (fun _ _ _ => trivial)
          refine (encompasses_any G t2 _ _ _ (fun _ => True) ⟨some ⟨w14.heap.size, 0, none⟩, 2, by rw [hG.out]; rfl, by rw [hG.out]; exact hG2⟩ (TT.out _ (hb9.trans (hbA.mono hb9.size)))).mono ?_
          rintro e w15 ⟨rfl, hb15⟩
          exact ⟨rfl, (hb.trans (hbA.mono hb.size)).trans (hb15.mono (hb.trans (hbA.mono hb.size)).size)⟩
        go_region_held3 (fun w' => w'.cell? ⟨P, 0, none⟩ = some (.string t2.name) ∧ w'.cell? ⟨P, 1, none⟩ = some (.slice a2 t2.args.length c2) ∧ w'.cell? ⟨Q, 0, none⟩ = some (.string x.name) ∧ w'.cell? ⟨Q, 1, none⟩ = some (.slice a6 x.args.length c6)) (first | exact HS0.out | exact hT2 | exact hT1 | go_keep)
          (first
            | (go_at_call 16; refine (leaf_any _ _).mono ?_; rintro e w14 ⟨rfl, hd0⟩; have hd1 : Below w13.heap.size w13 w14 := by first | exact hd0 | exact (Below.refl _ _).drew.trans (hd0.mono (by simp))
               have hT1 := K13.out _ hd1)
            | (go_at_call 15; refine (EN.out w14 hd1).mono ?_; rintro e w15 ⟨rfl, hd2⟩; have hT2 := K13.out _ hd2))
        clear hG EN
        generalize (decide (twoE G t2 = 0) && hcB G t2) = hv at *
        generalize twoE G t2 = gv at *
        have HD := hide hd2
        clear hd0 hd1 hd2 hT1
        obtain ⟨p0', p1', q0, q1⟩ := hT2
        have y0 := cell_later HD.out (YB.out.cell 0)
        have y1 := cell_later HD.out (YB.out.cell 1)
        go_wp2_with fail
        have hbF := HB13.out.trans (HD.out.mono HB13.out.size)
        have HBF := hide hbF
        refine (sameR_all x x _ _ _ _ _ (TX.out _ hbF) ⟨_, _, rfl, SY.out.later HD.out⟩).mono ?_
        rintro e w16 ⟨rfl, hb16⟩
        rw [sameB_refl]
        have hb16' := HBF.out.trans (hb16.mono HBF.out.size)
        clear p0' p1' q0 q1 y0 y1 hbF hb16
        obtain ⟨p0', p1', q0, q1⟩ := K4.out _ hb16'
        have HB16 := hide hb16'
        clear hb16'
        go_wp2_with fail
        refine (varsOf_any t2 _ _ _ (TT.out _ HB16.out) (by omega)).mono ?_
        rintro e w17 ⟨v17, rfl, ⟨a17, c17, rfl, hl17⟩, hb17⟩
        rw [← HLN.out]
        have hb17' := HB16.out.trans (hb17.mono HB16.out.size)
        clear p0' p1' q0 q1 hb17 hl17
        obtain ⟨p0', p1', q0, q1⟩ := K4.out _ hb17'
        have HB17 := hide hb17'
        clear hb17'
        go_wp2_with fail
        refine (size_any x _ 190 _ _ (TX.out _ HB17.out) (by decide) (by decide)).mono ?_
        rintro e w18 ⟨rfl, hb18⟩
        have BWF := hide (BW9.out.trans ((HB17.out.trans (hb18.mono HB17.out.size)).mono BW9.out.size))
        clear hb18
        by_cases h190 : sizeL [x] ≤ 190
        · obtain ⟨hv1, hv2⟩ := HV.out h190
          subst hv1
          subst hv2
          have e10 : min ((sizeL [x] : Nat) : Int) (190 + 1) = (sizeL [x] : Nat) := by omega
          rw [e10]
          clear e10
          go_wp2_with fail
          go_ret
          exact ⟨rfl, BWF.out⟩
        · have e10 : min ((sizeL [x] : Nat) : Int) (190 + 1) = 191 := by omega
          rw [e10]
          clear e10
          go_wp2_with fail
          go_ret
          exact ⟨rfl, BWF.out⟩
      · have e10 : min ((sizeL [x] : Nat) : Int) (200 + 1) = 201 := by omega
        rw [e10]
        clear e10
        have BWF := hide (BW9.out.trans (HB10.out.mono BW9.out.size))
        go_wp2_with fail
        go_ret
        exact ⟨rfl, BWF.out⟩
#print axioms topMatch_any
end Go.Proofs.Ytpjdkdebjkpmmaj

/- Terms and lists of numbers as they are read before the call. -/
namespace Go.Proofs.Ytpjdkdebjkpmmaj
open Go.ChangeShapes Go.WideShapes Go.ChangeAt Go.RowKit
set_option linter.unusedSimpArgs false
set_option linter.unusedVariables false
set_option maxRecDepth 8000

theorem Try.cellsTerm : Try.prog.cellsOf 25 = 2 := by kernel_rfl
theorem Try.cellsStr : Try.prog.cellsOf 9 = 1 := by kernel_rfl
theorem Try.cellsSl : Try.prog.cellsOf 23 = 1 := by kernel_rfl
theorem Try.cellsInt : Try.prog.cellsOf 3 = 1 := by kernel_rfl

theorem cells2 {w : World} {a : Addr} {cs : List Value} (h : w.cells? 0 a 2 = some cs) : ∃ c0 c1, cs = [c0, c1] ∧ w.cell? a = some c0 ∧ w.cell? (a.add 1) = some c1 := by
  have e : (List.range 2) = [0, 1] := rfl
  simp only [World.cells?, Nat.zero_le, if_true, e] at h
  simp only [List.mapM_cons, List.mapM_nil, Option.bind_eq_bind, Option.bind_eq_some_iff, Option.pure_def] at h
  obtain ⟨c0, h0, r, ⟨c1, h1, r2, h2, h3⟩, h4⟩ := h
  simp only [Option.some.injEq] at h2 h3 h4
  subst h2; subst h3; subst h4
  exact ⟨c0, c1, rfl, by simpa [Addr.add] using h0, h1⟩

theorem cells1 {w : World} {a : Addr} {cs : List Value} (h : w.cells? 0 a 1 = some cs) : ∃ c0, cs = [c0] ∧ w.cell? a = some c0 := by
  have e : (List.range 1) = [0] := rfl
  simp only [World.cells?, Nat.zero_le, if_true, e] at h
  simp only [List.mapM_cons, List.mapM_nil, Option.bind_eq_bind, Option.bind_eq_some_iff, Option.pure_def] at h
  obtain ⟨c0, h0, r, h1, h2⟩ := h
  simp only [Option.some.injEq] at h1 h2
  subst h1; subst h2
  exact ⟨c0, rfl, by simpa [Addr.add] using h0⟩

theorem open_term {H : Type} {enc : TypeId × Value → H} {w : World} {sp : Nat → Bool} {held : Bool} : ∀ (fuel : Nat) (cs : List Value) (x : DataW H × List MemPlace), DataW.trod enc Try.prog w 0 sp held fuel 25 cs = some x →
    ∃ (t : Tm) (a : Option Addr) (c : Nat), cs = [.string t.name, .slice a t.args.length c] ∧ Sl w (fun _ => True) a t.args := by
  intro fuel
  induction fuel using Nat.strongRecOn with
  | ind fuel ih =>
    intro cs x h
    obtain ⟨xs, n, hfu, hx, hl, hxl, hf⟩ := DataW.trod_struct Try.underlying25 h
    have f0 := hf 0 _ rfl
    have f1 := hf 1 _ rfl
    rw [Try.cellsTerm] at hl
    match cs, hl with
    | [c0, c1], _ =>
      match xs, hxl with
      | [y0, y1], _ =>
        simp [Try.cellsStr, Try.cellsSl] at f0 f1
        obtain ⟨s, e0, _, hs⟩ := DataW.trod_string Try.underlying9 f0
        simp at e0
        subst e0
        rcases DataW.trod_slice Try.underlying23 f1 with ⟨e1, _⟩ | ⟨a, len, cap, elems, rest, n2, hn2, e1, _, hb, hlc, hcm, hel, helem, _⟩
        · simp at e1
          subst e1
          exact ⟨⟨s, []⟩, none, 0, rfl, by simp, Or.inl rfl⟩
        · simp at e1
          subst e1
          unfold maxLen at hcm
          rw [Try.cellsTerm] at helem
          have key : ∀ i, ∃ t : Tm, i < len → ∃ a' c', w.cell? (a.add (i * 2)) = some (.string t.name) ∧ w.cell? ((a.add (i * 2)).add 1) = some (.slice a' t.args.length c') ∧ Sl w (fun _ => True) a' t.args := by
            intro i
            by_cases hi : i < len
            · have h1 := helem i hi
              have hie : i < elems.length := by omega
              rw [List.getElem?_eq_getElem hie, Option.bind_eq_some_iff] at h1
              obtain ⟨cs', h2, h3⟩ := h1
              obtain ⟨d0, d1, rfl, g0, g1⟩ := cells2 h2
              obtain ⟨t, a', c', e3, hsl⟩ := ih n2 (by omega) _ _ h3
              simp at e3
              obtain ⟨rfl, rfl⟩ := e3
              exact ⟨t, fun _ => ⟨a', c', g0, g1, hsl⟩⟩
            · exact ⟨⟨s, []⟩, fun h => absurd h hi⟩
          obtain ⟨T, hT⟩ := Classical.skolem.1 key
          refine ⟨⟨s, (List.range len).map T⟩, some a, cap, by simp, by simp; omega, ?_⟩
          by_cases h0 : len = 0
          · subst h0; exact Or.inl rfl
          · right
            obtain ⟨b, o, sp⟩ := a
            obtain ⟨a0, c0, g0, _, _⟩ := hT 0 (by omega)
            have hsp : sp = none := by simpa [Addr.add] using World.cell?_spot g0
            subst hsp
            refine ⟨b, o, rfl, lies_mk _ _ _ fun i hi => ?_⟩
            simp at hi
            obtain ⟨a', c', g0, g1, hsl⟩ := hT i hi
            refine ⟨trivial, ?_, a', c', ?_, ?_⟩
            · simp only [List.getElem_map, List.getElem_range]
              by_cases h00 : i = 0
              · subst h00; simpa [Addr.add] using g0
              · have : i * 2 ≠ 0 := by omega
                simpa [Addr.add, this] using g0
            · simp only [List.getElem_map, List.getElem_range]
              by_cases h00 : i = 0
              · subst h00; simpa [Addr.add] using g1
              · have : i * 2 ≠ 0 := by omega
                simpa [Addr.add, this] using g1
            · simpa using hsl

theorem open_tv {H : Type} {enc : TypeId × Value → H} {w : World} {sp : Nat → Bool} {held : Bool} {r : Reach} {b0 : Nat} {v : Value} {d : DataW H} {p : List MemPlace} (hv : Value.okWide Try.prog w r b0 25 v) (h : DataW.Trod enc Try.prog w 0 sp held 25 v d p) : ∃ t, TV w (fun _ => True) v t := by
  obtain ⟨cs, rfl, hsz⟩ := okWide_struct Try.underlying25 hv
  obtain ⟨fuel, hf⟩ := h
  obtain ⟨t, a, c, e, hs⟩ := open_term fuel _ _ hf
  refine ⟨t, a, c, ?_, hs⟩
  simp [Value.cells] at e
  congr 1
  apply Array.ext'
  simpa using e

theorem open_pv {H : Type} {enc : TypeId × Value → H} {w : World} {sp : Nat → Bool} {held : Bool} {r : Reach} {b0 : Nat} {v : Value} {d : DataW H} {p : List MemPlace} (hv : Value.okWide Try.prog w r b0 22 v) (h : DataW.Trod enc Try.prog w 0 sp held 22 v d p) : ∃ zs, PV w (fun _ => True) v zs := by
  obtain ⟨a0, len0, cap0, rfl⟩ := okWide_slice Try.underlying22 hv
  obtain ⟨fuel, hf⟩ := h
  rcases DataW.trod_slice Try.underlying22 hf with ⟨e1, _⟩ | ⟨a, len, cap, elems, rest, n2, hn2, e1, _, hb, hlc, hcm, hel, helem, _⟩
  · simp [Value.cells] at e1
    obtain ⟨rfl, rfl, rfl⟩ := e1
    exact ⟨[], none, 0, rfl, by simp, Or.inl rfl⟩
  · simp [Value.cells] at e1
    obtain ⟨rfl, rfl, rfl⟩ := e1
    unfold maxLen at hcm
    rw [Try.cellsInt] at helem
    have key : ∀ i, ∃ z : Int, i < len0 → w.cell? (a.add i) = some (.int .i64 z) := by
      intro i
      by_cases hi : i < len0
      · have h1 := helem i hi
        have hie : i < elems.length := by omega
        rw [List.getElem?_eq_getElem hie, Option.bind_eq_some_iff, Nat.mul_one] at h1
        obtain ⟨cs', h2, h3⟩ := h1
        obtain ⟨d0, rfl, g0⟩ := cells1 h2
        obtain ⟨z, e3, _⟩ := DataW.trod_int Try.underlying3 h3
        simp at e3
        subst e3
        exact ⟨z, fun _ => g0⟩
      · exact ⟨0, fun h => absurd h hi⟩
    obtain ⟨Z, hZ⟩ := Classical.skolem.1 key
    refine ⟨(List.range len0).map Z, some a, cap0, by simp, by simp; omega, ?_⟩
    by_cases h0 : len0 = 0
    · subst h0; exact Or.inl rfl
    · right
      obtain ⟨b, o, sp⟩ := a
      have g0 := hZ 0 (by omega)
      have hsp : sp = none := by simpa [Addr.add] using World.cell?_spot g0
      subst hsp
      refine ⟨b, o, rfl, trivial, fun i hi => ?_⟩
      simp at hi
      have g1 := hZ i hi
      simp only [List.getElem_map, List.getElem_range]
      by_cases h00 : i = 0
      · subst h00; simpa [Addr.add] using g1
      · simpa [Addr.add, h00] using g1
#print axioms open_tv
#print axioms open_pv
end Go.Proofs.Ytpjdkdebjkpmmaj

/- Lists of numbers as they are read before the call, with their bounds. -/
namespace Go.Proofs.Ytpjdkdebjkpmmaj
open Go.ChangeShapes Go.WideShapes Go.ChangeAt Go.RowKit
set_option linter.unusedSimpArgs false
set_option linter.unusedVariables false
set_option maxRecDepth 8000

theorem rng_wf {n : Int} (h : (Lit.int .i64 n).wf = true) : Rng n := by
  have h1 : IntKind.i64.min = -9223372036854775808 := by decide
  have h2 : IntKind.i64.max = 9223372036854775807 := by decide
  simp only [Lit.wf, h1, h2, Bool.and_eq_true, decide_eq_true_eq] at h
  exact h

theorem open_int {H : Type} {enc : TypeId × Value → H} {w : World} {sp : Nat → Bool} {held : Bool} {r : Reach} {b0 : Nat} {v : Value} {d : DataW H} {p : List MemPlace} (hv : Value.okWide Try.prog w r b0 3 v) (h : DataW.Trod enc Try.prog w 0 sp held 3 v d p) : ∃ z, v = .int .i64 z ∧ Rng z := by
  obtain ⟨z, rfl⟩ := okWide_int Try.underlying3 hv
  obtain ⟨fuel, hf⟩ := h
  obtain ⟨z', e3, _, hwf⟩ := DataW.trod_int Try.underlying3 hf
  simp [Value.cells] at e3
  subst e3
  exact ⟨_, rfl, rng_wf hwf⟩

theorem open_pvr {H : Type} {enc : TypeId × Value → H} {w : World} {sp : Nat → Bool} {held : Bool} {r : Reach} {b0 : Nat} {v : Value} {d : DataW H} {p : List MemPlace} (hv : Value.okWide Try.prog w r b0 22 v) (h : DataW.Trod enc Try.prog w 0 sp held 22 v d p) : ∃ zs, PV w (fun _ => True) v zs ∧ ∀ z ∈ zs, Rng z := by
  obtain ⟨a0, len0, cap0, rfl⟩ := okWide_slice Try.underlying22 hv
  obtain ⟨fuel, hf⟩ := h
  rcases DataW.trod_slice Try.underlying22 hf with ⟨e1, _⟩ | ⟨a, len, cap, elems, rest, n2, hn2, e1, _, hb, hlc, hcm, hel, helem, _⟩
  · simp [Value.cells] at e1
    obtain ⟨rfl, rfl, rfl⟩ := e1
    exact ⟨[], ⟨none, 0, rfl, by simp, Or.inl rfl⟩, by simp⟩
  · simp [Value.cells] at e1
    obtain ⟨rfl, rfl, rfl⟩ := e1
    unfold maxLen at hcm
    rw [Try.cellsInt] at helem
    have key : ∀ i, ∃ z : Int, Rng z ∧ (i < len0 → w.cell? (a.add i) = some (.int .i64 z)) := by
      intro i
      by_cases hi : i < len0
      · have h1 := helem i hi
        have hie : i < elems.length := by omega
        rw [List.getElem?_eq_getElem hie, Option.bind_eq_some_iff, Nat.mul_one] at h1
        obtain ⟨cs', h2, h3⟩ := h1
        obtain ⟨d0, rfl, g0⟩ := cells1 h2
        obtain ⟨z, e3, _, hwf⟩ := DataW.trod_int Try.underlying3 h3
        simp at e3
        subst e3
        exact ⟨z, rng_wf hwf, fun _ => g0⟩
      · exact ⟨0, by unfold Rng; omega, fun h => absurd h hi⟩
    obtain ⟨Z, hZ⟩ := Classical.skolem.1 key
    refine ⟨(List.range len0).map Z, ⟨some a, cap0, by simp, by simp; omega, ?_⟩, fun z hz => by obtain ⟨i, _, rfl⟩ := List.mem_map.1 hz; exact (hZ i).1⟩
    by_cases h0 : len0 = 0
    · subst h0; exact Or.inl rfl
    · right
      obtain ⟨b, o, sp⟩ := a
      have g0 := (hZ 0).2 (by omega)
      have hsp : sp = none := by simpa [Addr.add] using World.cell?_spot g0
      subst hsp
      refine ⟨b, o, rfl, trivial, fun i hi => ?_⟩
      simp at hi
      have g1 := (hZ i).2 hi
      simp only [List.getElem_map, List.getElem_range]
      by_cases h00 : i = 0
      · subst h00; simpa [Addr.add] using g1
      · simpa [Addr.add, h00] using g1
#print axioms open_pvr
#print axioms open_int
end Go.Proofs.Ytpjdkdebjkpmmaj
