/- Walks: the classes that equations make (closure.closed). -/
import Derived.Test.YtdmaijmglblccaaGreatDoorKl12
import Derived.Test.YtdmaijmglblccaaGreatDoorZClosureMadeOwn
namespace Go.Proofs.YtdmaijmglblccaaGreatDoor
open Go.RowKit
set_option linter.unusedSimpArgs false
set_option linter.unusedVariables false
set_option maxRecDepth 8000

/-- Both sides of equations, one behind the other. -/
def prT : List Pr → List Tm
  | [] => []
  | p :: r => p.l :: p.r :: prT r
theorem prT_app : ∀ a b : List Pr, prT (a ++ b) = prT a ++ prT b
  | [], b => rfl
  | p :: r, b => by simp [prT, prT_app r b]
def flN : List (Nat × Nat) → List Nat
  | [] => []
  | p :: r => p.1 :: p.2 :: flN r
theorem flN_app : ∀ a b : List (Nat × Nat), flN (a ++ b) = flN a ++ flN b
  | [], b => rfl
  | p :: r, b => by simp [flN, flN_app r b]
theorem flN_mem : ∀ {td : List (Nat × Nat)} {p : Nat × Nat}, p ∈ td → p.1 ∈ flN td ∧ p.2 ∈ flN td
  | q :: r, p, h => by
    rcases List.mem_cons.1 h with e | e
    · rw [e]; simp [flN]
    · have := flN_mem e; simp [flN, this.1, this.2]
theorem prT_mem : ∀ {ls : List Pr} {p : Pr}, p ∈ ls → p.l ∈ prT ls ∧ p.r ∈ prT ls
  | q :: r, p, h => by
    rcases List.mem_cons.1 h with e | e
    · rw [e]; simp [prT]
    · have := prT_mem e; simp [prT, this.1, this.2]
/-- Which numbers belong to which equation. -/
theorem td_pairs {k : Kl} : ∀ (td : List (Nat × Nat)) (ls : List Pr), (flN td).map k.T = prT ls → (∀ q ∈ td, ∃ p ∈ ls, k.T q.1 = p.l ∧ k.T q.2 = p.r) ∧ ∀ p ∈ ls, ∃ q ∈ td, k.T q.1 = p.l ∧ k.T q.2 = p.r
  | [], [], _ => ⟨by simp, by simp⟩
  | [], p :: r, h => by simp [flN, prT] at h
  | q :: t, [], h => by simp [flN, prT] at h
  | q :: t, p :: r, h => by
    simp only [flN, prT, List.map_cons, List.cons.injEq] at h
    obtain ⟨h1, h2, h3⟩ := h
    obtain ⟨i1, i2⟩ := td_pairs t r h3
    refine ⟨fun x hx => ?_, fun x hx => ?_⟩
    · rcases List.mem_cons.1 hx with e | e
      · rw [e]; exact ⟨p, by simp, h1, h2⟩
      · obtain ⟨y, hy, g⟩ := i1 x e; exact ⟨y, by simp [hy], g⟩
    · rcases List.mem_cons.1 hx with e | e
      · rw [e]; exact ⟨q, by simp, h1, h2⟩
      · obtain ⟨y, hy, g⟩ := i2 x e; exact ⟨y, by simp [hy], g⟩
def kE : Kl := ⟨[], [], [], [], [], []⟩
theorem kE_ok : NumI kE AllU := ⟨rfl, rfl, rfl, rfl, List.nodup_nil, by simp [kE], fun m h => absurd h (Nat.not_lt_zero m), fun m h => absurd h (Nat.not_lt_zero m), fun m h => absurd h (Nat.not_lt_zero m), fun m h => absurd h (Nat.not_lt_zero m), fun s m h => by simp [kE, sgG] at h, fun m h => absurd h (Nat.not_lt_zero m)⟩
def oS (B r : Nat) : Nat → Oid := fun b => if b = B then (1, 0) else if b = r then (2, 0) else eX
/-- While the equations are numbered. -/
def CdI (N B r : Nat) (X : Nat → Prop) (ls : List Pr) (o1 : Nat → Oid) (w1 : World) (v i : Value) (wr : World) : Prop :=
  ∃ (j : Nat) (td : List (Nat × Nat)) (kj : Kl) (mj : Km) (oj : Nat → Oid), j ≤ ls.length ∧ i = .int .i64 (j : Int) ∧ td.length = j ∧ NumJ kE (prT (ls.take j)) kj (flN td) ∧ KlAt N B r X wr oj kj mj ∧ Exo o1 w1 oj wr ∧ Rwo wr N oj eX 81 2 v td.length (pL td) ∧ ∀ b, v.ownBlock = some b → w1.heap.size ≤ b
/-- While some more are numbered. -/
def CdJ (N B r : Nat) (X : Nat → Prop) (ls : List Pr) (qs : List Tm) (td : List (Nat × Nat)) (tv : Value) (o1 : Nat → Oid) (w1 : World) (v i : Value) (wr : World) : Prop :=
  ∃ (j : Nat) (ns : List Nat) (kj : Kl) (mj : Km) (oj : Nat → Oid), j ≤ qs.length ∧ i = .int .i64 (j : Int) ∧ ns.length = j ∧ NumJ kE (prT ls ++ qs.take j) kj (flN td ++ ns) ∧ KlAt N B r X wr oj kj mj ∧ Exo o1 w1 oj wr ∧ Rwo wr N oj eX 81 2 tv td.length (pL td) ∧ Rwo wr N oj eX 3 1 v (iL ns).length (iL ns) ∧ (∀ b, v.ownBlock = some b → w1.heap.size ≤ b ∧ tv.ownBlock ≠ some b)
/-- The classes that are told, and the numbers of some more. -/
def CdP (X : Nat → Prop) (ls : List Pr) (qs : List Tm) (w : World) (e : Ending) (w' : World) : Prop :=
  ∃ (N B r : Nat) (k : Kl) (m : Km) (o : Nat → Oid) (nv : Value) (ns : List Nat), e = .returned (.tuple #[.pointer (some ⟨B, 0, none⟩), nv]) ∧ w.heap.size ≤ B ∧ KlAt N B r X w' o k m ∧ Rwo w' N o eX 3 1 nv (iL ns).length (iL ns) ∧ ns.map k.T = qs ∧ (∀ n ∈ ns, n < k.ts.length) ∧ Num ls k.ts k.cl ∧ Done ls k.ts k.cl ∧ (∀ x, x ∈ k.ts ↔ x ∈ preL (prT ls ++ qs)) ∧ (∀ x ∈ k.ts, errL [x] = 0) ∧ JnI ls (· ∈ k.ts) 900 k [] (fun _ => False) ∧ k.ts.length ≤ 900 ∧ Below w.heap.size w w'
theorem flN_len : ∀ td : List (Nat × Nat), (flN td).length = td.length * 2
  | [] => rfl
  | p :: r => by simp only [flN, List.length_cons, flN_len r]; omega
theorem prT_len : ∀ ls : List Pr, (prT ls).length = ls.length * 2
  | [] => rfl
  | p :: r => by simp only [prT, List.length_cons, prT_len r]; omega
theorem pre_args (l : List Tm) : ∀ {x : Tm}, x ∈ preL l → x.args.length ≤ sizeL l := by
  induction l using Tm.indL with
  | h0 => intro x h; simp [preL] at h
  | h s l r ihl ihr =>
    intro x h
    have e : sizeL ((⟨s, l⟩ : Tm) :: r) = 1 + sizeL l + sizeL r := by simp [sizeL]
    rw [e]
    simp only [preL, List.mem_cons, List.mem_append] at h
    rcases h with h | h | h
    · rw [h]; have := len_sizeK l; simp only; omega
    · have := ihl h; omega
    · have := ihr h; omega
theorem pre_self : ∀ {l : List Tm} {x : Tm}, x ∈ l → x ∈ preL l
  | ⟨s, a⟩ :: r, x, h => by
    rcases List.mem_cons.1 h with e | e
    · rw [e]; simp [preL]
    · simp [preL, pre_self e]
theorem prT_size : ∀ (ls : List Pr) (j : Nat), sizeL (prT (ls.take j)) ≤ sizeL (prT ls) := fun ls j => by
  conv => rhs; rw [← List.take_append_drop j ls, prT_app, sizeL_append]
  omega
theorem prT_take (ls : List Pr) (j : Nat) (h : j < ls.length) : prT (ls.take (j + 1)) = prT (ls.take j) ++ [ls[j].l] ++ [ls[j].r] := by
  rw [List.take_succ_eq_append_getElem h, prT_app]
  simp [prT]
set_option maxHeartbeats 8000000 in
theorem closed_any {BT : Nat} (ls : List Pr) (qs : List Tm) (u : Value) (qa : Option Addr) (qc : Nat) (w : World) (X : Nat → Prop) (hu : QV w X u ls) (hq : Sl w X qa qs) (hT : Tb BT w) (hBT : BT ≤ w.heap.size) (hX : ∀ b, X b → b < w.heap.size) (he : errL (prT ls ++ qs) = 0) (hz : sizeL (prT ls ++ qs) ≤ 900) (hl : ls.length ≤ 100) :
    Calls Tryz.prog 31 #[u, .slice qa qs.length qc] w (CdP X ls qs w) := by
  obtain ⟨ua, uc, rfl, hul, huu⟩ := id hu
  have hmm := @run_makeMap Tryz.prog
  have W2 := hide (((Below.refl w.heap.size w).alloc (Nat.le_refl _) (.map #[] 0)).alloc (by simp) (.cells #[.slice none 0 0, .slice none 0 0, .slice none 0 0, .slice none 0 0, .slice none 0 0, .map (some w.heap.size)] 65))
  have B2 : Hid (Blk ((w.alloc (.map #[] 0)).alloc (.cells #[.slice none 0 0, .slice none 0 0, .slice none 0 0, .slice none 0 0, .slice none 0 0, .map (some w.heap.size)] 65)) (w.heap.size + 1) #[.slice none 0 0, .slice none 0 0, .slice none 0 0, .slice none 0 0, .slice none 0 0, .map (some w.heap.size)] 65) := by
    have h := Blk.new (w.alloc (.map #[] 0)) #[.slice none 0 0, .slice none 0 0, .slice none 0 0, .slice none 0 0, .slice none 0 0, .map (some w.heap.size)] 65
    rw [World.size_alloc] at h
    exact h
  have M2 : Hid (MapAt ((w.alloc (.map #[] 0)).alloc (.cells #[.slice none 0 0, .slice none 0 0, .slice none 0 0, .slice none 0 0, .slice none 0 0, .map (some w.heap.size)] 65)) w.heap.size []) := (MapAt.new w).kept (Below.heap_alloc _ _ _ (by simp))
  have Z2 : Hid (((w.alloc (.map #[] 0)).alloc (.cells #[.slice none 0 0, .slice none 0 0, .slice none 0 0, .slice none 0 0, .slice none 0 0, .map (some w.heap.size)] 65)).heap.size = w.heap.size + 2) := by unfold Hid; simp
  have HU := hide hu
  have HQ := hide hq
  have HT := hide hT
  have HBT := hide hBT
  have HX := hide hX
  have HE := hide he
  have HZ := hide hz
  have hql : qs.length ≤ 900 := by
    have h1 := len_sizeK (prT ls ++ qs)
    rw [List.length_append] at h1
    omega
  clear hu hq hT hBT hX he hz huu
  go_enter Tryz.func31, Tryz.ntmps31
  go_upto_region 3 with fail
  clear hmm
  generalize ((w.alloc (.map #[] 0)).alloc (.cells #[.slice none 0 0, .slice none 0 0, .slice none 0 0, .slice none 0 0, .slice none 0 0, .map (some w.heap.size)] 65)) = w1 at *
  obtain ⟨r, hr⟩ : ∃ r, r = w.heap.size := ⟨_, rfl⟩
  obtain ⟨B, hB⟩ : ∃ B, B = w.heap.size + 1 := ⟨_, rfl⟩
  obtain ⟨N, hN⟩ : ∃ N, N = w.heap.size + 2 := ⟨_, rfl⟩
  rw [← hB] at B2 ⊢
  rw [← hr] at M2 B2
  have HSZ : Hid (r = w.heap.size ∧ B = w.heap.size + 1 ∧ N = w.heap.size + 2) := ⟨hr, hB, hN⟩
  have K1 : KlAt N B r X w1 (oS B r) kE ⟨nV, nV, nV, nV, nV, [], [], [], []⟩ := by
    have nor : ∀ (id : Oid) (T e : Nat), Rwo w1 N (oS B r) id T e nV 0 [] := fun id T e => Rwo.nil _ _ _ _ _ _
    have z2 := Z2.out
    refine ⟨B2.out, M2.out, by omega, by omega, by omega, if_pos rfl, ?_, nor _ _ _, rfl, by simp, fun b hb => ?_, nor _ _ _, nor _ _ _, nor _ _ _, nor _ _ _, rfl, rfl, rfl, fun i hi => absurd hi (Nat.not_lt_zero i), fun i hi => absurd hi (Nat.not_lt_zero i), fun i hi => absurd hi (Nat.not_lt_zero i)⟩
    · unfold oS; rw [if_neg (by omega), if_pos rfl]
    · have := HX.out b hb
      refine ⟨by omega, ?_⟩
      unfold oS
      rw [if_neg (by omega), if_neg (by omega)]
  have T1 : Hid (TbO BT (oS B r) w1) := ⟨HT.out.on (W2.out.mono HBT.out), by have := HBT.out; have := Z2.out; omega, fun b hb => by
    have := HBT.out
    unfold oS
    rw [if_neg (by omega), if_neg (by omega)]⟩
  have START : Hid (CdI N B r X ls (oS B r) w1 (.slice none 0 0) (.int .i64 0) w1) := ⟨0, [], kE, _, _, Nat.zero_le _, rfl, rfl, by rw [List.take_zero]; exact NumJ.start kE_ok, K1, Exo.refl _ _, Rwo.nil _ _ _ _ _ _, by simp [Value.ownBlock]⟩
  have HXO : Hid (∀ b, X b → b < w1.heap.size ∧ oS B r b = eX) := K1.hX
  have HU1 := hide (HU.out.later W2.out)
  have HQ1 := hide (HQ.out.later W2.out)
  have HOO : Hid (∀ b, b < w.heap.size → oS B r b = eX) := fun b hb => by unfold oS; rw [if_neg (by omega), if_neg (by omega)]
  generalize oS B r = o1 at *
  clear K1 B2 M2 hr hB hN HU HQ
  go_wp2_with fail
  go_loopw [7, 18] (fun v i wr => CdI N B r X ls o1 w1 v i wr) (fun v i wr => ls.length - (intOf i).toNat)
  case atStart => exact START.out
  case round =>
    obtain ⟨j, td, kj, mj, oj, hj, rfl, htl, hJ, hK, hXx, hR, how⟩ := hrel
    obtain ⟨va, vc, rfl⟩ := hR.shape
    by_cases hjl : j < ls.length
    · have hji : (j : Int) < (ls.length : Int) := by omega
      obtain ⟨b, ob, a1, c1, a2, c2, hva, d0, d1, d2, d3, s1, s2⟩ := (HU1.out.kept fun b hb => (hXx.2.2.2.2 b (HXO.out b hb).1 (HXO.out b hb).2).1).get j hjl
      obtain ⟨Ka, Ea⟩ := hK.upn ((Below.refl _ _).alloc (Nat.le_refl _) (.cells #[.string ls[j].l.name, .slice a1 ls[j].l.args.length c1, .string ls[j].r.name, .slice a2 ls[j].r.args.length c2] 35))
      have Pa := Blk.new wr #[.string ls[j].l.name, .slice a1 ls[j].l.args.length c1, .string ls[j].r.name, .slice a2 ls[j].r.args.length c2] 35
      have Ra := hR.exo Ea
      have Xa := hXx.trans Ea
      have S1a := s1.exo (exo_X HXO.out hXx) Ea
      have S2a := s2.exo (exo_X HXO.out hXx) Ea
      have oP : upN oj wr.heap.size wr.heap.size = eX := upN_ge (Nat.le_refl _)
      have hlen := hJ.len
      have hsum := hJ.sum
      have hsz : sizeL (prT (ls.take j)) + sizeL [ls[j].l] + sizeL [ls[j].r] ≤ 900 := by
        have h1 := prT_size ls (j + 1)
        rw [prT_take ls j hjl, sizeL_append, sizeL_append] at h1
        have h2 := HZ.out
        rw [sizeL_append] at h2
        omega
      have hk0 : kE.ts.length = 0 ∧ sumN kE.ab = 0 := ⟨rfl, rfl⟩
      have hel := err_memK HE.out (List.mem_append_left _ (prT_mem (List.getElem_mem hjl)).1)
      have her := err_memK HE.out (List.mem_append_left _ (prT_mem (List.getElem_mem hjl)).2)
      have HKa := hide Ka
      have HXa := hide Xa
      have HRa := hide Ra
      have HPa := hide Pa
      have HS1 := hide S1a
      have HS2 := hide S2a
      have HOP := hide oP
      have HJ := hide hJ
      have HOW := hide how
      have HEL := hide hel
      have HER := hide her
      have HSM : Hid (sizeL [ls[j].l] ≤ 900 ∧ sizeL [ls[j].r] ≤ 900 ∧ kj.ts.length + sizeL [ls[j].l] + sizeL [ls[j].r] ≤ 900 ∧ sumN kj.ab + sizeL [ls[j].l] + sizeL [ls[j].r] ≤ 900) := ⟨by omega, by omega, by omega, by omega⟩
      have htl1 : td.length ≤ 100 := by omega
      have HTL := hide htl
      clear htl
      clear hJ hK hXx hR how Ka Ea Pa Ra Xa S1a S2a oP hlen hsum hsz hk0 hel her s1 s2
      subst hva
      go_upto_region 6 with fail
      clear d0 d1 d2 d3
      generalize (wr.alloc (.cells #[.string ls[j].l.name, .slice a1 ls[j].l.args.length c1, .string ls[j].r.name, .slice a2 ls[j].r.args.length c2] 35)) = wa at *
      generalize upN oj wr.heap.size = oa at *
      generalize wr.heap.size = P at *
      have kd : Below wa.heap.size wa wa.drew := (Below.refl _ _).drew
      have HKd := hide (HKa.out.later kd)
      have Ed : Exo oa wa oa wa.drew := Exo.below kd fun _ _ => rfl
      have HXd := hide (HXa.out.trans Ed)
      have HRd := hide (HRa.out.exo Ed)
      have HPd : Hid (Blk wa.drew P #[.string ls[j].l.name, .slice a1 ls[j].l.args.length c1, .string ls[j].r.name, .slice a2 ls[j].r.args.length c2] 35) := HPa.out.exo Ed HOP.out
      have HS1d := hide (HS1.out.exo (exo_X HXO.out HXa.out) Ed)
      have HS2d := hide (HS2.out.exo (exo_X HXO.out HXa.out) Ed)
      clear Ed kd HKa HXa HRa HPa HS1 HS2
      refine wp_region_held_drew (S := fun w' => Blk w' P #[.string ls[j].l.name, .slice a1 ls[j].l.args.length c1, .string ls[j].r.name, .slice a2 ls[j].r.args.length c2] 35) (by kernel_rfl) HPd.out (fun hHeld => ?_)
      generalize wa.drew = wd at *
      refine wpAnyH_take (i := 0) (v := ?_) rfl (by kernel_rfl) (by kernel_rfl) (by kernel_rfl) (fun _ _ _ h => h) (Or.inl ⟨by rfl, ?_⟩) (by assumption) ?_
      rotate_left
      · intro w' hSw
        go_simp <;> with_reducible rfl
      try simp only [Act.put, List.setIfInBounds_toArray, List.set_cons_zero, List.set_cons_succ, List.getElem_toArray, List.getElem_cons_succ, List.getElem_cons_zero]
      refine wpAnyH_take (i := 1) (v := ?_) rfl (by kernel_rfl) (by kernel_rfl) (by kernel_rfl) (fun _ _ _ h => h) (Or.inl ⟨by rfl, ?_⟩) (by assumption) ?_
      rotate_left
      · intro w' hSw
        go_simp <;> with_reducible rfl
      try simp only [Act.put, List.setIfInBounds_toArray, List.set_cons_zero, List.set_cons_succ, List.getElem_toArray, List.getElem_cons_succ, List.getElem_cons_zero]
      refine wpAnyH_take (i := 2) (v := ?_) rfl (by kernel_rfl) (by kernel_rfl) (by kernel_rfl) (fun _ _ _ h => h) (Or.inl ⟨by rfl, ?_⟩) (by assumption) ?_
      rotate_left
      · intro w' hSw
        go_simp <;> with_reducible rfl
      try simp only [Act.put, List.setIfInBounds_toArray, List.set_cons_zero, List.set_cons_succ, List.getElem_toArray, List.getElem_cons_succ, List.getElem_cons_zero]
      refine wpAnyH_take (i := 3) (v := ?_) rfl (by kernel_rfl) (by kernel_rfl) (by kernel_rfl) (fun _ _ _ h => h) (Or.inl ⟨by rfl, ?_⟩) (by assumption) ?_
      rotate_left
      · intro w' hSw
        have x0 := Blk.cell hSw 0
        have x1 := Blk.cell hSw 1
        have x2 := Blk.cell hSw 2
        have x3 := Blk.cell hSw 3
        go_simp <;> with_reducible rfl
      try simp only [Act.put, List.setIfInBounds_toArray, List.set_cons_zero, List.set_cons_succ, List.getElem_toArray, List.getElem_cons_succ, List.getElem_cons_zero]
      refine wpAnyH_take (i := 5) (v := ?_) rfl (by kernel_rfl) (by kernel_rfl) (by kernel_rfl) (fun _ _ _ h => h) (Or.inl ⟨by rfl, ?_⟩) (by assumption) ?_
      rotate_left
      · intro w' hSw
        go_simp <;> with_reducible rfl
      try simp only [Act.put, List.setIfInBounds_toArray, List.set_cons_zero, List.set_cons_succ, List.getElem_toArray, List.getElem_cons_succ, List.getElem_cons_zero]
      refine wpAnyH_take (i := 6) (v := ?_) rfl (by kernel_rfl) (by kernel_rfl) (by kernel_rfl) (fun _ _ _ h => h) (Or.inl ⟨by rfl, ?_⟩) (by assumption) ?_
      rotate_left
      · intro w' hSw
        go_simp <;> with_reducible rfl
      try simp only [Act.put, List.setIfInBounds_toArray, List.set_cons_zero, List.set_cons_succ, List.getElem_toArray, List.getElem_cons_succ, List.getElem_cons_zero]
      refine wpAnyH_take (i := 7) (v := ?_) rfl (by kernel_rfl) (by kernel_rfl) (by kernel_rfl) (fun _ _ _ h => h) (Or.inl ⟨by rfl, ?_⟩) (by assumption) ?_
      rotate_left
      · intro w' hSw
        have x0 := Blk.cell hSw 0
        have x1 := Blk.cell hSw 1
        have x2 := Blk.cell hSw 2
        have x3 := Blk.cell hSw 3
        go_simp <;> with_reducible rfl
      try simp only [Act.put, List.setIfInBounds_toArray, List.set_cons_zero, List.set_cons_succ, List.getElem_toArray, List.getElem_cons_succ, List.getElem_cons_zero]
      have C4 := hide (number_any (BT := BT) ls[j].l a1 c1 HKd.out HJ.out.ok (T1.out.exo HXd.out) HEL.out HSM.out.1 (by have := HSM.out; omega) (by have := HSM.out; omega) HS1d.out)
      refine wpAnyH_ready (rs := [4]) (by kernel_rfl) (by simp) ?_
      refine AllReadyH.cons rfl (fun K hK => ?_) AllReadyH.nil
      go_simp
      go_at_call 46
      refine C4.out.mono ?_
      rintro e w4 ⟨k4, m4, o4, i4, rfl, N4, K4, X4⟩
      have HP4 : Hid (Blk w4 P #[.string ls[j].l.name, .slice a1 ls[j].l.args.length c1, .string ls[j].r.name, .slice a2 ls[j].r.args.length c2] 35) := HPd.out.exo X4 HOP.out
      have HX4 := hide (HXd.out.trans X4)
      have HR4 := hide (HRd.out.exo X4)
      have HS4 := hide (HS2d.out.exo (exo_X HXO.out HXd.out) X4)
      have oP4 := (X4.2.2.2.2 P HPd.out.lt HOP.out).2
      have HOP4 := hide oP4
      have HN4 := hide N4
      have HK4 := hide K4
      clear C4 N4 K4 X4 oP4
      go_simp
      refine hK.out _ _ (by exact HP4.out) (fun hHeld => ?_)
      clear hK K
      try simp only [Act.put, List.setIfInBounds_toArray, List.set_cons_zero, List.set_cons_succ, List.getElem_toArray, List.getElem_cons_succ, List.getElem_cons_zero]
      have C8 := hide (number_any (BT := BT) ls[j].r a2 c2 HK4.out HN4.out.ok (T1.out.exo HX4.out) HER.out HSM.out.2.1 (by have := HSM.out; have := HN4.out.len; omega) (by have := HSM.out; have := HN4.out.sum; omega) HS4.out)
      refine wpAnyH_ready (rs := [8]) (by kernel_rfl) (by simp) ?_
      refine AllReadyH.cons rfl (fun K hK => ?_) AllReadyH.nil
      go_simp
      go_at_call 46
      refine C8.out.mono ?_
      rintro e w8 ⟨k8, m8, o8, i8, rfl, N8, K8, X8⟩
      have HP8 : Hid (Blk w8 P #[.string ls[j].l.name, .slice a1 ls[j].l.args.length c1, .string ls[j].r.name, .slice a2 ls[j].r.args.length c2] 35) := HP4.out.exo X8 HOP4.out
      have HX8 := hide (HX4.out.trans X8)
      have HR8 := hide (HR4.out.exo X8)
      have oP8 := (X8.2.2.2.2 P HP4.out.lt HOP4.out).2
      obtain ⟨g, cap, w11, o11, hr11, R11, K11, hat, hw11, hb11, ho11⟩ := app_todo K8 HR8.out (fun b hb hx => by have h1 := HOW.out b hb; have h2 := (HXO.out b hx).1; omega) (by omega) i4 i8
      have HP11 : Hid (Blk w11 P #[.string ls[j].l.name, .slice a1 ls[j].l.args.length c1, .string ls[j].r.name, .slice a2 ls[j].r.args.length c2] 35) := (hb11 P HP8.out.lt (fun e => by
        rcases HR8.out.1.2 with ⟨h9, _⟩ | ⟨g9, cap9, cur9, h9, _, hh9, _⟩
        · rw [h9] at e; simp [Value.ownBlock] at e
        · rw [h9] at e
          have e9 : g9 = P := by simpa [Value.ownBlock] using e
          subst e9
          have h8 := HP8.out
          unfold Blk at h8
          rw [hh9] at h8
          cases h8)).trans HP8.out
      have X11 : Exo o1 w1 o11 w11 := exo_push (lv := .slice va td.length vc) HX8.out (I := fun _ => True) ⟨hw11.1, hw11.2.1, hw11.2.2.1, hw11.2.2.2, fun _ _ h => absurd trivial h⟩ (fun b hb he hne => ⟨hb11 b hb hne, (ho11 b hb).trans he⟩) HOW.out
      have NXT : Hid (CdI N B r X ls o1 w1 (.slice (some ⟨g, 0, none⟩) (td.length + 1) cap) (.int .i64 ((j + 1 : Nat) : Int)) w11) := by
        refine ⟨j + 1, td ++ [(i4, i8)], k8, m8, o11, hjl, rfl, by simp [HTL.out], ?_, K11, X11, R11, fun b hb => ?_⟩
        · rw [prT_take ls j hjl, flN_app]
          have h9 := (HJ.out.next HN4.out).next N8
          simpa [flN] using h9
        · have e : g = b := by simpa [Value.ownBlock] using hb
          subst e
          rcases hat with e | e
          · exact HOW.out g e
          · have := HX8.out.2.2.2.1; omega
      have HR11 := hide hr11
      clear C8 N8 K8 X8 oP8 hr11 R11 K11 hat hw11 hb11 ho11 X11
      go_simp
      refine hK.out _ _ (by exact HP8.out) (fun hHeld => ?_)
      clear hK K
      try simp only [Act.put, List.setIfInBounds_toArray, List.set_cons_zero, List.set_cons_succ, List.getElem_toArray, List.getElem_cons_succ, List.getElem_cons_zero]
      refine wpAnyH_take (i := 9) (v := ?_) rfl (by kernel_rfl) (by kernel_rfl) (by kernel_rfl) (fun _ _ _ h => h) (Or.inl ⟨by rfl, ?_⟩) (by assumption) ?_
      rotate_left
      · intro w' hSw
        go_simp <;> with_reducible rfl
      try simp only [Act.put, List.setIfInBounds_toArray, List.set_cons_zero, List.set_cons_succ, List.getElem_toArray, List.getElem_cons_succ, List.getElem_cons_zero]
      refine wpAnyH_ready (rs := [10]) (by kernel_rfl) (by simp) ?_
      refine AllReadyH.cons rfl (fun K hK => ?_) AllReadyH.nil
      go_simp
      refine hK.out _ _ (by exact HP8.out.alloc _) (fun hHeld => ?_)
      clear hK K
      try simp only [Act.put, List.setIfInBounds_toArray, List.set_cons_zero, List.set_cons_succ, List.getElem_toArray, List.getElem_cons_succ, List.getElem_cons_zero]
      refine wpAnyH_ready (rs := [11]) (by kernel_rfl) (by simp) ?_
      refine AllReadyH.cons rfl (fun K hK => ?_) AllReadyH.nil
      refine step_append_eqK rfl _ _ _ _ rfl rfl rfl HR11.out ?_
      refine hK.out _ _ (by exact HP11.out) (fun hHeld => ?_)
      clear hK K
      try simp only [Act.put, List.setIfInBounds_toArray, List.set_cons_zero, List.set_cons_succ, List.getElem_toArray, List.getElem_cons_succ, List.getElem_cons_zero]
      refine wpAnyH_take (i := 12) (v := ?_) rfl (by kernel_rfl) (by kernel_rfl) (by kernel_rfl) (fun _ _ _ h => h) (Or.inl ⟨by rfl, ?_⟩) (by assumption) ?_
      rotate_left
      · intro w' hSw
        go_simp <;> with_reducible rfl
      try simp only [Act.put, List.setIfInBounds_toArray, List.set_cons_zero, List.set_cons_succ, List.getElem_toArray, List.getElem_cons_succ, List.getElem_cons_zero]
      refine wpAnyH_done (by kernel_rfl) ?_ _
      clear hHeld
      go_wp2_with fail
      go_roundw
      case rel => exact NXT.out
      case measure => simp [intOf]; omega
    · have hji : ¬ (j : Int) < (ls.length : Int) := by omega
      have etk : ls.take j = ls := List.take_of_length_le (by omega)
      rw [etk] at hJ
      have START2 : Hid (CdJ N B r X ls qs td (.slice va td.length vc) o1 w1 (.slice none 0 0) (.int .i64 0) wr) := ⟨0, [], kj, mj, oj, Nat.zero_le _, rfl, rfl, by rw [List.take_zero, List.append_nil, List.append_nil]; exact hJ, hK, hXx, hR, Rwo.nil _ _ _ _ _ _, by simp [Value.ownBlock]⟩
      have htl1 : td.length ≤ 100 := by omega
      have HTL : Hid (td.length = ls.length) := by unfold Hid; omega
      have HOW := hide how
      clear hJ hK hXx hR how htl etk
      go_wp2_with fail
      go_loopw [10, 37] (fun v i wr => CdJ N B r X ls qs td (.slice va td.length vc) o1 w1 v i wr) (fun v i wr => qs.length - (intOf i).toNat)
      case atStart => exact START2.out
      case round =>
        obtain ⟨j2, ns, k2, m2, o2, hj2, rfl, hnl, hJ2, hK2, hX2, hT2, hR2, how2⟩ := hrel
        obtain ⟨na, nc, rfl⟩ := hR2.shape
        by_cases hjl2 : j2 < qs.length
        · have hji2 : (j2 : Int) < (qs.length : Int) := by omega
          obtain ⟨ab_, ao, aj, cj, hae, d0, d1, htv⟩ := (HQ1.out.exo HXO.out hX2).get (Below.refl _ _) (fun _ _ h => h) j2 hjl2
          obtain ⟨aj2, cj2, etv, hsj⟩ := htv
          obtain ⟨rfl, rfl⟩ : aj = aj2 ∧ cj = cj2 := by simp at etv; exact etv
          clear etv
          subst hae
          obtain ⟨Ka, Ea⟩ := hK2.upn ((Below.refl _ _).alloc (Nat.le_refl _) (.cells #[.string qs[j2].name, .slice aj qs[j2].args.length cj] 25))
          have Pa := Blk.new wr #[.string qs[j2].name, .slice aj qs[j2].args.length cj] 25
          have Sa := hsj.exo (exo_X HXO.out hX2) Ea
          have Xa := hX2.trans Ea
          have Ra := hR2.exo Ea
          have Ta := hT2.exo Ea
          have hlen := hJ2.len
          have hsum := hJ2.sum
          have hk0 : kE.ts.length = 0 ∧ sumN kE.ab = 0 := ⟨rfl, rfl⟩
          have hsz : sizeL (prT ls ++ qs.take j2) + sizeL [qs[j2]] ≤ 900 := by
            have h1 := size_takeK qs (j2 + 1)
            rw [List.take_succ_eq_append_getElem hjl2, sizeL_append] at h1
            have h2 := HZ.out
            rw [sizeL_append] at h2 ⊢
            omega
          have hel := err_memK HE.out (List.mem_append_right _ (List.getElem_mem hjl2))
          have IHc := hide (number_any (BT := BT) qs[j2] aj cj Ka hJ2.ok (T1.out.exo Xa) hel (by omega) (by omega) (by omega) Sa)
          have HXa := hide Xa
          have HRa := hide Ra
          have HTa := hide Ta
          have HJ := hide hJ2
          have HOW2 := hide how2
          have HNL := hide hnl
          have q0 := Pa.cell 0
          have q1 := Pa.cell 1
          have hns : (iL ns).length ≤ 900 := by rw [iL_len]; omega
          clear hJ2 hK2 hX2 hR2 hT2 how2 hsj Sa Xa Ra Ta Ka Ea hlen hsum hk0 hsz hel hnl
          go_upto_region 12 with fail
          clear d0 d1
          generalize (wr.alloc (.cells #[.string qs[j2].name, .slice aj qs[j2].args.length cj] 25)) = wa at *
          generalize upN o2 wr.heap.size = oa at *
          generalize wr.heap.size = Q at *
          go_wp2_with fail
          refine IHc.out.mono ?_
          rintro e w2 ⟨k3, m3, o3, i3, rfl, hNR, K3, E3⟩
          have X3 := HXa.out.trans E3
          have R3 := HRa.out.exo E3
          have T3 := HTa.out.exo E3
          obtain ⟨g, cap, w5, o5, hr5, R5, K5, hat5, hw5, hb5, ho5⟩ := app_loc K3 Tryz.underlying45 Tryz.infoInt rfl (by decide) R3 (fun b hb hx => by have h1 := (HOW2.out b hb).1; have h2 := (HXO.out b hx).1; omega) (by omega) (iV i3) rfl
          have X5 : Exo o1 w1 o5 w5 := exo_push (lv := .slice na (iL ns).length nc) X3 (I := fun _ => True) ⟨hw5.1, hw5.2.1, hw5.2.2.1, hw5.2.2.2, fun _ _ h => absurd trivial h⟩ (fun b hb he hne => ⟨hb5 b hb hne, (ho5 b hb).trans he⟩) (fun b hb => (HOW2.out b hb).1)
          have T5 : Rwo w5 N o5 eX 81 2 (.slice va td.length vc) td.length (pL td) := ⟨ownsRow_at T3.1 fun gb hgb => hb5 gb (T3.1.lt gb hgb).2 fun e => (HOW2.out gb e).2 hgb, fun b hb => (ho5 b (T3.1.lt b hb).2).trans (T3.2 b hb)⟩
          have e9 : iL ns ++ [iV i3] = iL (ns ++ [i3]) := by simp [iL]
          rw [e9] at R5
          have HR5 := hide hr5
          have NXT : Hid (CdJ N B r X ls qs td (.slice va td.length vc) o1 w1 (.slice (some ⟨g, 0, none⟩) ((iL ns).length + 1) cap) (.int .i64 ((j2 + 1 : Nat) : Int)) w5) := by
            refine ⟨j2 + 1, ns ++ [i3], k3, m3, o5, hjl2, rfl, by simp [HNL.out], ?_, K5, X5, T5, R5, fun b hb => ?_⟩
            · rw [List.take_succ_eq_append_getElem hjl2, ← List.append_assoc, ← List.append_assoc]
              exact HJ.out.next hNR
            · have e : g = b := by simpa [Value.ownBlock] using hb
              subst e
              rcases hat5 with e | e
              · exact HOW2.out g e
              · refine ⟨by have := X3.2.2.2.1; omega, fun e2 => ?_⟩
                have := (T3.1.lt g e2).2
                omega
          clear hr5 R5 K5 hat5 hw5 hb5 ho5 X5 T5 T3 e9 X3 R3 hNR K3 E3 IHc
          go_wp2_with (at_builtin; refine wpList_append_eq rfl _ _ _ _ rfl rfl rfl HR5.out ?_)
          go_roundw
          case rel => exact NXT.out
          case measure => simp [intOf]; omega
        · have hji2 : ¬ (j2 : Int) < (qs.length : Int) := by omega
          have etk2 : qs.take j2 = qs := List.take_of_length_le (by omega)
          rw [etk2] at hJ2
          have hk0 : kE.ts.length = 0 ∧ sumN kE.ab = 0 := ⟨rfl, rfl⟩
          have hlen := hJ2.len
          have hsum := hJ2.sum
          have hz9 := HZ.out
          have hsplit : (flN td).map k2.T = prT ls ∧ ns.map k2.T = qs := by
            have h1 := hJ2.eq
            rw [List.map_append] at h1
            exact List.append_inj h1 (by rw [List.length_map, flN_len, prT_len, HTL.out])
          obtain ⟨hp1, hp2⟩ := td_pairs td ls hsplit.1
          have nX : ∀ b, (Value.slice va td.length vc).ownBlock = some b → ¬ X b := fun b hb hx => by have h1 := HOW.out b hb; have h2 := (HXO.out b hx).1; omega
          have K' : KlAt N B r X wr (upV o2 (.slice va td.length vc) (11, 0)) k2 m2 := hK2.mv (Nat.le_refl _) fun b hb hor => ⟨rfl, upV_no fun e => by
            rcases hor with hne | hx
            · exact hne (hT2.2 b e)
            · exact nX b e hx⟩
          have T2 := T1.out.exo hX2
          have T' : TbO BT (upV o2 (.slice va td.length vc) (11, 0)) wr := ⟨T2.1, T2.2.1, fun b hb => by
            rw [upV_no]
            · exact T2.2.2 b hb
            · intro e
              have h1 := HOW.out b e
              have h2 := T1.out.2.1
              omega⟩
          have J0 : JnI ls (fun x => x ∈ k2.ts) 900 k2 td (fun _ => False) := jn_start hJ2.ok (by omega) (fun t ht => ht) (fun p hp => by
            obtain ⟨h1, h2⟩ := flN_mem hp
            obtain ⟨q, hq, e1, e2⟩ := hp1 p hp
            refine ⟨hJ2.lt _ (List.mem_append_left _ h1), hJ2.lt _ (List.mem_append_left _ h2), ?_⟩
            rw [e1, e2]
            exact .eq hq) hp2
          have RN : Rwo wr N (upV o2 (.slice va td.length vc) (11, 0)) eX 3 1 (.slice na (iL ns).length nc) (iL ns).length (iL ns) := ⟨hR2.1, fun b hb => by
            rw [upV_no]
            · exact hR2.2 b hb
            · exact (how2 b hb).2⟩
          have hargs : ∀ n, n < k2.ts.length → (k2.B n).length ≤ 1000 := fun n hn => by
            have h1 := (hJ2.ok.arg n hn).1
            have h2 : (k2.T n).args.length = (k2.B n).length := by rw [h1]; simp
            have h3 : k2.T n ∈ preL (prT ls ++ qs) := (hJ2.old _ (kT_mem hn)).resolve_left (by simp [kE])
            have h4 := pre_args _ h3
            omega
          have HJN := hide (join_any K' T' J0 hT2.give ⟨by omega, by omega, by omega⟩ hargs)
          have HRN := hide RN
          have HX2 := hide hX2
          have HJ2 := hide hJ2
          have HSP := hide hsplit
          have hXE : Hid (∀ b, b < w1.heap.size → o1 b = eX → upV o2 (.slice va td.length vc) (11, 0) b = eX ∧ b < wr.heap.size ∧ wr.heap[b]? = w1.heap[b]?) := fun b hb he => by
            obtain ⟨e1, e2⟩ := hX2.2.2.2.2 b hb he
            refine ⟨?_, Nat.lt_of_lt_of_le hb hX2.2.2.2.1, e1⟩
            rw [upV_no]
            · exact e2
            · intro e
              have := HOW.out b e
              omega
          clear hJ2 hK2 hX2 hT2 hR2 how2 K' T' T2 J0 RN hargs hsplit hp1 hp2 nX hk0 hlen hsum hz9 hnl
          go_wp2_with fail
          refine HJN.out.mono ?_
          rintro e w9 ⟨rfl, k9, m9, o9, K9, J9, hts, X9⟩
          have hT9 : k9.T = k2.T := by unfold Kl.T; rw [hts]
          rw [← hts] at J9
          have hall : ∀ x, x ∈ k9.ts ↔ x ∈ preL (prT ls ++ qs) := fun x => by
            rw [hts]
            exact ⟨fun h => (HJ2.out.old x h).resolve_left (by simp [kE]), HJ2.out.all x⟩
          have hnum : Num ls k9.ts k9.cl := by
            refine ⟨J9.nd, J9.lc, fun t ht x hx => ?_, fun p hp => ?_⟩
            · obtain ⟨i, hi, rfl⟩ := gd_of_mem noK ht
              have h1 := J9.arg i hi
              have hx2 : x ∈ (k9.T i).args := hx
              rw [h1.1] at hx2
              obtain ⟨y, hy, rfl⟩ := List.mem_map.1 hx2
              exact kT_mem (h1.2 y hy)
            · have h1 := prT_mem hp
              exact ⟨(hall _).2 (pre_self (List.mem_append_left _ h1.1)), (hall _).2 (pre_self (List.mem_append_left _ h1.2))⟩
          have HFIN : Hid (CdP X ls qs w (.returned (.tuple #[.pointer (some ⟨B, 0, none⟩), .slice na (iL ns).length nc])) w9) := by
            refine ⟨N, B, r, k9, m9, o9, _, ns, rfl, by have := HSZ.out; omega, K9, HRN.out.exo X9, by rw [hT9]; exact HSP.out.2, fun n hn => by rw [hts]; exact HJ2.out.lt n (List.mem_append_right _ hn), hnum, jn_done J9, hall, fun x hx => by rw [hts] at hx; exact HJ2.out.ok.may x hx, J9, by rw [hts]; have h1 := HJ2.out.len; have h2 := HZ.out; have h3 : kE.ts.length = 0 := rfl; omega, ?_⟩
            have hw2 := W2.out
            refine ⟨X9.1.trans (HX2.out.1.trans hw2.os), X9.2.1.trans (HX2.out.2.1.trans hw2.tape), X9.2.2.1.trans (HX2.out.2.2.1.trans hw2.output), Nat.le_trans hw2.size (Nat.le_trans HX2.out.2.2.2.1 X9.2.2.2.1), fun b hb => ?_⟩
            have hb1 : b < w1.heap.size := Nat.lt_of_lt_of_le hb hw2.size
            obtain ⟨q1, q2, q3⟩ := hXE.out b hb1 (HOO.out b hb)
            exact ((X9.2.2.2.2 b q2 q1).1.trans q3).trans (hw2.block b hb)
          clear K9 J9 hts X9 hT9 hall hnum HJN HRN HX2 HJ2 HSP hXE
          go_wp2_with fail
          go_ret2
          exact HFIN.out
end Go.Proofs.YtdmaijmglblccaaGreatDoor
