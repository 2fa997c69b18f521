import Derived.Test.YtpnhiaeijhokgaaGreatDoorZDInferSaysOwn
namespace Go.Proofs.YtpnhiaeijhokgaaGreatDoor
open Go.RowKit
set_option linter.unusedSimpArgs false
set_option linter.unusedVariables false
theorem le_of_apart {α : Type} : ∀ (l V : List α), l.Nodup → (∀ x ∈ l, x ∈ V) → l.length ≤ V.length
 | [], V, _, _ => by simp
 | a :: l, V, h, hs => by
  classical
  obtain ⟨h1, h2⟩ := List.nodup_cons.1 h
  have ih := le_of_apart l (V.filter fun x => decide (x ≠ a)) h2 fun x hx => List.mem_filter.2 ⟨hs x (by simp [hx]), by simp; rintro rfl; exact h1 hx⟩
  have hlt := filter_lt (p := fun _ => true) (q := fun x => decide (x ≠ a)) V (fun _ _ _ => rfl) ⟨a, hs a (by simp), rfl, by simp⟩
  have e : V.filter (fun _ => true) = V := List.filter_eq_self.2 (by simp)
  rw [e] at hlt
  simp only [List.length_cons]
  omega
structure UI (V : List ByteArray) (h : List (ByteArray × Tm)) (l : List Pr) : Prop where
 good : GoodH h
 names : NamesH h
 inV : ∀ i (hi : i < h.length), h[i].1 ∈ V
 err : errL (flatP l) = 0
 vars : ∀ y, varB y = true → occL y (onL (sAt h) (flatP l)) → y ∈ V
 size : ∀ p ∈ l, sizeL [p.l] ≤ 2000 ∧ sizeL [p.r] ≤ 2000
 len : ∃ l1 l2, l = l1 ++ l2 ∧ (∀ p ∈ l1, onT (sAt h) p.l = p.l ∧ onT (sAt h) p.r = p.r) ∧ sizeL (l1.map (·.l)) ≤ 2000 ∧ l2.length ≤ 40 + 2000 * h.length
theorem UI.hlen {V : List ByteArray} {h : List (ByteArray × Tm)} {l : List Pr} (u : UI V h l) : h.length ≤ V.length := by
 have h1 := le_of_apart (h.map (·.1)) V ?_ ?_
 ·simpa using h1
 ·rw [List.nodup_iff_pairwise_ne, List.pairwise_map, List.pairwise_iff_getElem]
  intro i j hi hj hij e
  have := u.good.once hi hj e
  omega
 ·intro x hx
  obtain ⟨p, hp, rfl⟩ := List.mem_map.1 hx
  obtain ⟨i, hi, rfl⟩ := List.getElem_of_mem hp
  exact u.inV i hi
theorem map_len_size : ∀ l : List Pr, l.length ≤ sizeL (l.map (·.l))
 | [] => by simp
 | p :: l => by
  have := map_len_size l
  rw [List.map_cons, size_cons]
  have := sizeL_pos p.l
  simp only [List.length_cons]
  omega
theorem UI.llen {V : List ByteArray} {h : List (ByteArray × Tm)} {l : List Pr} (u : UI V h l) : l.length ≤ 2040 + 2000 * V.length := by
 obtain ⟨l1, l2, rfl, _, h2, h3⟩ := u.len
 have h4 := map_len_size l1
 have h5 := u.hlen
 rw [List.length_append]
 have : 2000 * h.length ≤ 2000 * V.length := Nat.mul_le_mul_left _ h5
 omega
theorem UI.start {l : List Pr} (he : errL (flatP l) = 0) (hs : ∀ p ∈ l, sizeL [p.l] ≤ 2000 ∧ sizeL [p.r] ≤ 2000) (hl : l.length ≤ 40) : UI ((preL (onL [] (flatP l))).map (·.name)) [] l :=
 ⟨goodH_nil, fun i hi => by simp at hi, fun i hi => by simp at hi, he, fun y _ ho => by obtain ⟨k, hk, e⟩ := ho; exact List.mem_map.2 ⟨k, hk, e⟩, hs, [], l, rfl, by simp, by simp [sizeL], by simpa using hl⟩
theorem UI.drop {V : List ByteArray} {h : List (ByteArray × Tm)} {p : Pr} {l : List Pr} (u : UI V h (p :: l)) : UI V h l := by
 obtain ⟨g1, g2, g3, g4, g5, g6, l1, l2, e, g7, g8, g9⟩ := u
 rw [flatP] at g4 g5
 refine ⟨g1, g2, g3, (err_two.1 (err_two.1 g4).2).2, fun y hy ho => g5 y hy ?_, fun q hq => g6 q (by simp [hq]), ?_⟩
 ·rw [onL_cons, onL_cons]
  exact occL_cons.2 (Or.inr (occL_cons.2 (Or.inr ho)))
 ·cases l1 with
  | nil =>
   cases l2 with
   | nil => cases e
   | cons q l2 =>
    simp only [List.nil_append, List.cons.injEq] at e
    obtain ⟨rfl, rfl⟩ := e
    simp only [List.length_cons] at g9
    exact ⟨[], l, rfl, by simp, by simp [sizeL], by omega⟩
  | cons q l1 =>
   simp only [List.cons_append, List.cons.injEq] at e
   obtain ⟨rfl, rfl⟩ := e
   rw [List.map_cons, size_cons] at g8
   exact ⟨l1, l2, rfl, fun q hq => g7 q (by simp [hq]), by omega, g9⟩
theorem UI.head {V : List ByteArray} {h : List (ByteArray × Tm)} {p : Pr} {l : List Pr} (u : UI V h (p :: l)) : errL [p.l] = 0 ∧ errL [p.r] = 0 := by
 have g := u.err
 rw [flatP] at g
 exact ⟨(err_two.1 g).1, (err_two.1 (err_two.1 g).2).1⟩
theorem occ_self (u : Tm) : occL u.name [u] := by obtain ⟨n, k⟩ := u; exact occL_node.2 (Or.inl rfl)
theorem occ_sub {u : Tm} {y : ByteArray} (h : occL y u.args) : occL y [u] := by obtain ⟨n, k⟩ := u; exact occL_node.2 (Or.inr (Or.inl h))
theorem err_sub {u : Tm} (h : errL [u] = 0) : errL u.args = 0 := by obtain ⟨n, k⟩ := u; exact (errL_parts h).2.1
theorem size_sub (u : Tm) : sizeL [u] = 1 + sizeL u.args := by obtain ⟨n, k⟩ := u; simp [sizeL]
theorem name_of_err {u : Tm} (h : errL [u] = 0) : nameB u.name = true := by obtain ⟨n, k⟩ := u; exact errL_name h
theorem UI.bindV {V : List ByteArray} {h : List (ByteArray × Tm)} {p : Pr} {l : List Pr} (u : UI V h (p :: l)) {x : ByteArray} {t : Tm} (hx : varB x = true) (hxt : (x = (onT (sAt h) p.l).name ∧ t = onT (sAt h) p.r) ∨ (x = (onT (sAt h) p.r).name ∧ t = onT (sAt h) p.l)) (ho : ¬ inB x (varsP [] (preL [t])) = true) :
  MayAdd (sAt h) x t ∧ UI V (h ++ [(x, t)]) l := by
 have ok := u.good.all
 obtain ⟨e1, e2⟩ := u.head
 have ea := errL_onT2 ok e1
 have eb := errL_onT2 ok e2
 have ga := ok.goneT e1
 have gb := ok.goneT e2
 have hV := u.vars
 rw [flatP, onL_cons, onL_cons] at hV
 have e3 : errL (flatP l) = 0 := u.drop.err
 have both : (∀ d ∈ sAt h, d.nm ≠ x) ∧ errL [t] = 0 ∧ (∀ e ∈ sAt h, ¬ occL e.nm [t]) ∧ nameB x = true ∧ x ∈ V ∧ (∀ y, occL y [t] → occL y (onT (sAt h) p.l :: onT (sAt h) p.r :: onL (sAt h) (flatP l))) := by
  rcases hxt with ⟨rfl, rfl⟩ | ⟨rfl, rfl⟩
  ·exact ⟨fun d hd e => ga d hd (by rw [e]; exact occ_self _), eb, gb, name_of_err ea, hV _ hx (occL_cons.2 (Or.inl (occ_self _))), fun y hy => occL_cons.2 (Or.inr (occL_cons.2 (Or.inl hy)))⟩
  ·exact ⟨fun d hd e => gb d hd (by rw [e]; exact occ_self _), ea, ga, name_of_err eb, hV _ hx (occL_cons.2 (Or.inr (occL_cons.2 (Or.inl (occ_self _))))), fun y hy => occL_cons.2 (Or.inl hy)⟩
 obtain ⟨b1, b2, b3, b4, b5, b6⟩ := both
 have hoc := not_inB hx ho
 have may : MayAdd (sAt h) x t := ⟨hx, b1, b2, b3, hoc⟩
 obtain ⟨f1, f2, f3⟩ := bind_facts (L := flatP l) ok hx b1 b2 b3 hoc e3
 refine ⟨may, u.good.snoc may, fun i hi => ?_, fun i hi => ?_, e3, fun y hy hoc => ?_, u.drop.size, [], l, rfl, by simp, by simp [sizeL], ?_⟩
 ·by_cases e : i < h.length
  ·rw [List.getElem_append_left e]; exact u.names i e
  ·have : i = h.length := by simp at hi; omega
   subst this
   simpa using b4
 ·by_cases e : i < h.length
  ·rw [List.getElem_append_left e]; exact u.inV i e
  ·have : i = h.length := by simp at hi; omega
   subst this
   simpa using b5
 ·rw [sAt_snoc] at hoc
  rcases f2 y hy hoc with h1 | h1
  ·exact hV y hy (occL_cons.2 (Or.inr (occL_cons.2 (Or.inr h1))))
  ·exact hV y hy (b6 y h1)
 ·obtain ⟨l1, l2, e, g7, g8, g9⟩ := u.len
  have h4 := map_len_size l1
  have h5 : l.length + 1 = l1.length + l2.length := by rw [← List.length_append, ← e]; simp
  simp only [List.length_append, List.length_cons, List.length_nil]
  omega
theorem zip_mem : ∀ {a b : List Tm} {p : Pr}, p ∈ zipP a b → p.l ∈ a ∧ p.r ∈ b
 | [], _, p, h => by simp [zipP] at h
 | _ :: _, [], p, h => by simp [zipP] at h
 | t :: a, u :: b, p, h => by
  rw [zipP] at h
  rcases List.mem_cons.1 h with rfl | h
  ·exact ⟨by simp, by simp⟩
  ·have := zip_mem h
   exact ⟨by simp [this.1], by simp [this.2]⟩
theorem zip_left : ∀ {a b : List Tm}, a.length = b.length → (zipP a b).map (·.l) = a
 | [], [], _ => rfl
 | [], _ :: _, h => by simp at h
 | _ :: _, [], h => by simp at h
 | t :: a, u :: b, h => by rw [zipP, List.map_cons, zip_left (by simpa using h)]
theorem size_mem {l : List Tm} {t : Tm} (h : t ∈ l) : sizeL [t] ≤ sizeL l := by
 induction l with
 | nil => cases h
 | cons a r ih =>
  have hc := size_cons a r
  rcases List.mem_cons.1 h with rfl | h
  ·omega
  ·have := ih h; omega
theorem onT_id {s : List Bd} {t : Tm} (h : ∀ e ∈ s, ¬ occL e.nm [t]) : onT s t = t := by
 have h1 := onL_id [t] h
 rw [onL_cons] at h1
 simpa [onL] using h1
theorem occ_mem {y : ByteArray} {l : List Tm} {t : Tm} (h : t ∈ l) (ho : occL y [t]) : occL y l := by
 induction l with
 | nil => cases h
 | cons a r ih =>
  rcases List.mem_cons.1 h with rfl | h
  ·exact occL_cons.2 (Or.inl ho)
  ·exact occL_cons.2 (Or.inr (ih h))
theorem UI.deep {V : List ByteArray} {h : List (ByteArray × Tm)} {p : Pr} {l : List Pr} (u : UI V h (p :: l)) (ha : sizeL [onT (sAt h) p.l] ≤ 2000) (hb : sizeL [onT (sAt h) p.r] ≤ 2000) (hl : (onT (sAt h) p.l).args.length = (onT (sAt h) p.r).args.length) :
  UI V h (zipP (onT (sAt h) p.l).args (onT (sAt h) p.r).args ++ l) ∧ ∀ q ∈ zipP (onT (sAt h) p.l).args (onT (sAt h) p.r).args, onT (sAt h) q.l = q.l ∧ onT (sAt h) q.r = q.r := by
 have ok := u.good.all
 obtain ⟨e1, e2⟩ := u.head
 have ea := errL_onT2 ok e1
 have eb := errL_onT2 ok e2
 have ga := ok.goneT e1
 have gb := ok.goneT e2
 have hV := u.vars
 rw [flatP, onL_cons, onL_cons] at hV
 have hset : ∀ q ∈ zipP (onT (sAt h) p.l).args (onT (sAt h) p.r).args, onT (sAt h) q.l = q.l ∧ onT (sAt h) q.r = q.r := fun q hq => by
  obtain ⟨m1, m2⟩ := zip_mem hq
  exact ⟨onT_id fun e he ho => ga e he (occ_sub (occ_mem m1 ho)), onT_id fun e he ho => gb e he (occ_sub (occ_mem m2 ho))⟩
 have sa := size_sub (onT (sAt h) p.l)
 have sb := size_sub (onT (sAt h) p.r)
 refine ⟨⟨u.good, u.names, u.inV, ?_, fun y hy ho => ?_, fun q hq => ?_, ?_⟩, hset⟩
 ·rw [flatP_append]
  exact err_append.2 ⟨zip_err (err_sub ea) (err_sub eb), u.drop.err⟩
 ·rw [flatP_append, onL_append] at ho
  rcases occL_append.1 ho with ho | ho
  ·rw [onL_id] at ho
   ·rcases zip_occ ho with ho | ho
    ·exact hV y hy (occL_cons.2 (Or.inl (occ_sub ho)))
    ·exact hV y hy (occL_cons.2 (Or.inr (occL_cons.2 (Or.inl (occ_sub ho)))))
   ·intro e he hoc
    rcases zip_occ hoc with hoc | hoc
    ·exact ga e he (occ_sub hoc)
    ·exact gb e he (occ_sub hoc)
  ·exact hV y hy (occL_cons.2 (Or.inr (occL_cons.2 (Or.inr ho))))
 ·rcases List.mem_append.1 hq with hq | hq
  ·obtain ⟨m1, m2⟩ := zip_mem hq
   have := size_mem m1
   have := size_mem m2
   omega
  ·exact u.size q (by simp [hq])
 ·obtain ⟨l1, l2, e, g7, g8, g9⟩ := u.len
  cases l1 with
  | nil =>
   cases l2 with
   | nil => cases e
   | cons q l2 =>
    simp only [List.nil_append, List.cons.injEq] at e
    obtain ⟨rfl, rfl⟩ := e
    simp only [List.length_cons] at g9
    exact ⟨_, l, rfl, hset, by rw [zip_left hl]; omega, by omega⟩
  | cons q l1 =>
   simp only [List.cons_append, List.cons.injEq] at e
   obtain ⟨rfl, rfl⟩ := e
   rw [List.map_cons, size_cons] at g8
   have hp := (g7 p (by simp)).1
   refine ⟨zipP (onT (sAt h) p.l).args (onT (sAt h) p.r).args ++ l1, l2, by rw [List.append_assoc], fun q hq => ?_, ?_, g9⟩
   ·rcases List.mem_append.1 hq with hq | hq
    ·exact hset q hq
    ·exact g7 q (by simp [hq])
   ·rw [List.map_append, sizeL_append, zip_left hl]
    rw [hp] at sa ⊢
    omega
end Go.Proofs.YtpnhiaeijhokgaaGreatDoor
