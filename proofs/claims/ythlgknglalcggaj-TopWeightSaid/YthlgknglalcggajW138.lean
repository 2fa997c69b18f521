/- Walks: how often each variable stands in one term, and in another one. -/
import Derived.Test.YthlgknglalcggajW135
import Derived.Test.YthlgknglalcggajZTopWeightOwn
import Derived.Test.YthlgknglalcggajMapR
namespace Go.Proofs.Ythlgknglalcggaj
open Go.RowKit
set_option linter.unusedSimpArgs false
set_option linter.unusedVariables false
set_option maxRecDepth 8000

/-- How often a variable stands. -/
def vo (v : ByteArray) (l : List Tm) : Nat := if varB v = true then oftL v l else 0
theorem vo_app (v : ByteArray) (a b : List Tm) : vo v (a ++ b) = vo v a + vo v b := by
  unfold vo
  split
  · exact oft_app v a b
  · rfl
theorem vo_one (v s : ByteArray) (l : List Tm) : vo v [(⟨s, l⟩ : Tm)] = (if varB s = true ∧ s = v then 1 else 0) + vo v l := by
  unfold vo
  by_cases hv : varB v = true
  · rw [if_pos hv, if_pos hv, oft_one]
    by_cases h : s = v
    · subst h; simp [hv]
    · simp [h]
  · rw [if_neg hv, if_neg hv]
    have : ¬ (varB s = true ∧ s = v) := fun h => hv (by rw [← h.2]; exact h.1)
    rw [if_neg this]
theorem oft_le (v : ByteArray) (l : List Tm) : oftL v l ≤ sizeL l := by
  unfold oftL
  rw [← preL_len0]
  exact List.length_filter_le _ _
theorem vo_le (v : ByteArray) (l : List Tm) : vo v l ≤ sizeL l := by
  unfold vo
  split
  · exact oft_le v l
  · exact Nat.zero_le _
theorem vo_take (v : ByteArray) (l : List Tm) (k : Nat) (h : k < l.length) : vo v (l.take (k + 1)) = vo v (l.take k) + vo v [l[k]] := by rw [List.take_succ_eq_append_getElem h, vo_app]

/-- The map holds so much for each name. -/
def TalAt (w : World) (r : Nat) (f : ByteArray → Int) : Prop := ∃ L, MapAt w r L ∧ (∀ p ∈ L, p.2 = .int .i64 (f p.1)) ∧ (∀ v, mapGet L v = none → f v = 0) ∧ (L.map (·.1)).Nodup
theorem TalAt.lt {w : World} {r : Nat} {f : ByteArray → Int} (h : TalAt w r f) : r < w.heap.size := by obtain ⟨L, h, _⟩ := h; exact h.lt
theorem TalAt.kept {w w' : World} {r : Nat} {f : ByteArray → Int} (h : TalAt w r f) (hk : w'.heap[r]? = w.heap[r]?) : TalAt w' r f := by obtain ⟨L, h, h2⟩ := h; exact ⟨L, h.kept hk, h2⟩
theorem TalAt.congr {w : World} {r : Nat} {f g : ByteArray → Int} (h : TalAt w r f) (e : ∀ v, f v = g v) : TalAt w r g := by
  have : f = g := funext e
  rw [← this]; exact h
theorem mapGet_mem {n : ByteArray} {v : Value} : ∀ {L : List (ByteArray × Value)}, mapGet L n = some v → (n, v) ∈ L
  | [], h => by simp [mapGet] at h
  | p :: L, h => by
    by_cases hp : p.1 = n
    · simp only [mapGet, hp, if_true, Option.some.injEq] at h
      obtain ⟨a, b⟩ := p
      simp only at hp h
      subst hp; subst h
      simp
    · rw [mapGet, if_neg hp] at h
      exact List.mem_cons_of_mem _ (mapGet_mem h)
theorem mapGet_has {n : ByteArray} : ∀ {L : List (ByteArray × Value)}, mapGet L n = none ↔ n ∉ L.map (·.1)
  | [] => by simp [mapGet]
  | p :: L => by
    by_cases hp : p.1 = n
    · simp [mapGet, hp]
    · rw [mapGet, if_neg hp, mapGet_has, List.map_cons, List.mem_cons, not_or]
      exact ⟨fun h => ⟨fun e => hp e.symm, h⟩, fun h => h.2⟩
theorem setAt_keys (n : ByteArray) (v : Value) : ∀ L : List (ByteArray × Value), (setAt L n v).map (·.1) = L.map (·.1)
  | [] => rfl
  | p :: L => by
    by_cases hp : p.1 = n
    · simp [setAt, hp]
    · simp [setAt, hp, setAt_keys n v L]
theorem setAt_mem {n : ByteArray} {v : Value} : ∀ {L : List (ByteArray × Value)}, (L.map (·.1)).Nodup → ∀ p ∈ setAt L n v, p = (n, v) ∨ (p ∈ L ∧ p.1 ≠ n)
  | [], _, p, h => by simp [setAt] at h
  | q :: L, hn, p, h => by
    rw [List.map_cons, List.nodup_cons] at hn
    by_cases hq : q.1 = n
    · rw [setAt, if_pos hq, List.mem_cons] at h
      rcases h with rfl | h
      · exact Or.inl (by rw [hq])
      · refine Or.inr ⟨List.mem_cons_of_mem _ h, fun e => hn.1 ?_⟩
        rw [hq, ← e]
        exact List.mem_map.2 ⟨p, h, rfl⟩
    · rw [setAt, if_neg hq, List.mem_cons] at h
      rcases h with rfl | h
      · exact Or.inr ⟨by simp, hq⟩
      · rcases setAt_mem hn.2 p h with h | ⟨h, h'⟩
        · exact Or.inl h
        · exact Or.inr ⟨List.mem_cons_of_mem _ h, h'⟩
/-- Some more for one name. -/
def addF (f : ByteArray → Int) (n : ByteArray) (d : Int) : ByteArray → Int := fun v => if n = v then f v + d else f v
theorem TalAt.look {w : World} {r : Nat} {f : ByteArray → Int} (h : TalAt w r f) (n : ByteArray) : (Instr.lookup 113 (.map (some r)) (.string n) false).run Try.prog w = .ok (.int .i64 (f n)) w := by
  obtain ⟨L, hM, h1, h2, h3⟩ := h
  rw [run_look1 (P := Try.prog) Try.underlying113 Try.underlying9 (Try.zeroValue3 w) hM n]
  cases hg : mapGet L n with
  | none => rw [h2 n hg]; rfl
  | some z =>
    have e : z = .int .i64 (f n) := h1 _ (mapGet_mem hg)
    rw [e]; rfl
theorem TalAt.put {w : World} {r : Nat} {f : ByteArray → Int} (h : TalAt w r f) (n : ByteArray) (d : Int) :
    ∃ w', (Instr.mapUpdate 113 (.map (some r)) (.string n) (.int .i64 (f n + d))).run Try.prog w = .ok () w' ∧ TalAt w' r (addF f n d) ∧ Ex r w w' := by
  obtain ⟨L, hM, h1, h2, h3⟩ := h
  cases hg : mapGet L n with
  | none =>
    obtain ⟨w', hr, hM', hz, ho, ht, hu, hk⟩ := run_put (P := Try.prog) Try.underlying113 Try.underlying9 hM n (.int .i64 (f n + d)) hg
    have hnm := mapGet_has.1 hg
    refine ⟨w', hr, ⟨_, hM', fun p hp => ?_, fun v hv => ?_, ?_⟩, ⟨ho, ht, hu, by omega, fun k _ hn => hk k hn⟩⟩
    · rw [List.mem_append] at hp
      rcases hp with hp | hp
      · have hne : n ≠ p.1 := fun e => hnm (List.mem_map.2 ⟨p, hp, e.symm⟩)
        rw [h1 p hp, addF, if_neg hne]
      · have e : p = (n, .int .i64 (f n + d)) := by simpa using hp
        rw [e, addF, if_pos rfl]
    · rw [mapGet_has, List.map_append, List.mem_append, not_or] at hv
      have hne : n ≠ v := fun e => hv.2 (by simp [e])
      rw [addF, if_neg hne]
      exact h2 v (mapGet_has.2 hv.1)
    · rw [List.map_append, List.nodup_append]
      refine ⟨h3, by simp, fun a ha b hb => ?_⟩
      have e : b = n := by simpa using hb
      rw [e]
      exact fun e2 => hnm (by rw [← e2]; exact ha)
  | some z =>
    obtain ⟨w', hr, hM', hz, ho, ht, hu, hk⟩ := run_set (P := Try.prog) Try.underlying113 Try.underlying9 hM n (.int .i64 (f n + d)) z hg
    refine ⟨w', hr, ⟨_, hM', fun p hp => ?_, fun v hv => ?_, by rw [setAt_keys]; exact h3⟩, ⟨ho, ht, hu, by omega, fun k _ hn => hk k hn⟩⟩
    · rcases setAt_mem h3 p hp with e | ⟨hp, hne⟩
      · rw [e, addF, if_pos rfl]
      · rw [h1 p hp, addF, if_neg fun e => hne e.symm]
    · rw [mapGet_has, setAt_keys, ← mapGet_has] at hv
      have hne : n ≠ v := fun e => by rw [e, hv] at hg; cases hg
      rw [addF, if_neg hne]
      exact h2 v hv

def TyInv (S : List Tm) (r : Nat) (f : ByteArray → Int) (d : Int) (a : Tm) (aa : Option Addr) (ca : Nat) (w : World) (i : Value) (wr : World) : Prop :=
  ∃ k : Nat, k ≤ a.args.length ∧ i = .int .i64 (k : Int) ∧ Blk wr w.heap.size #[.string a.name, .slice aa a.args.length ca, .int .i64 (numT a S), .int .i64 (sizeL [a])] 128 ∧ TalAt wr r (fun v => f v + d * ((if varB a.name = true ∧ a.name = v then 1 else 0) + vo v (a.args.take k) : Nat)) ∧ Ex r w wr
set_option maxHeartbeats 4000000 in
theorem tally_any (S : List Tm) (r : Nat) (d : Int) (hd : d = 1 ∨ d = -1) (a : Tm) : ∀ (f : ByteArray → Int) (va : Value) (w : World) (X : Nat → Prop), (∀ v, -100000 ≤ f v - sizeL [a] ∧ f v + sizeL [a] ≤ 100000) → TalAt w r f → IV w X S va a → (∀ b, X b → b ≠ r) →
    Calls Try.prog 141 #[.map (some r), va, .int .i64 d] w fun e w' => e = .returned (.tuple #[]) ∧ TalAt w' r (fun v => f v + d * (vo v [a] : Nat)) ∧ Ex r w w' := by
  induction a using Tm.ind with
  | h s l ih =>
    intro f va w X hf hT hv hX
    have HV := hide hv
    obtain ⟨_, aa, ca, rfl, hsa⟩ := hv
    have HSA := hide hsa
    have hla : l.length ≤ 9223372036854775807 := hsa.1
    have IH := hide ih
    have HT := hide hT
    have HF := hide hf
    have hrl := hT.lt
    have HON : Hid (∀ v, vo v [(⟨s, l⟩ : Tm)] = (if varB s = true ∧ s = v then 1 else 0) + vo v l) := fun v => vo_one v s l
    have HZ : Hid (sizeL [(⟨s, l⟩ : Tm)] = 1 + sizeL l) := by unfold Hid; simp [sizeL]
    clear ih hsa hT hf
    go_enter Try.func141, Try.ntmps141
    go_wp2_with fail
    refine (itemVar_any S (⟨s, l⟩ : Tm) _ _ X (by exact HV.out.alloc _)).mono ?_
    rintro e w1 ⟨rfl, hb1⟩
    have K1 := hide ((Blk.new w #[.string s, .slice aa l.length ca, .int .i64 (numT (⟨s, l⟩ : Tm) S), .int .i64 (sizeL [(⟨s, l⟩ : Tm)])] 128).below hb1 (by simp))
    have E1 := hide (((Ex.refl r w).alloc _).trans (Ex.ofBel hb1))
    have T1 := hide (HT.out.kept ((hb1.block r (by simp; omega)).trans (Below.heap_alloc _ _ _ hrl)))
    clear hb1
    have c0 : w1.cell? ⟨w.heap.size, 0, none⟩ = some (.string s) := K1.out.cell 0
    have c1 : w1.cell? ⟨w.heap.size, 1, none⟩ = some (.slice aa l.length ca) := K1.out.cell 1
    have hcase : Hid (∃ w2, (varB s = true → ((Instr.lookup 113 (.map (some r)) (.string s) false).run Try.prog w1 = .ok (.int .i64 (f s)) w1 ∧ (Instr.mapUpdate 113 (.map (some r)) (.string s) (.int .i64 (f s + d))).run Try.prog w1 = .ok () w2)) ∧ (varB s = false → w2 = w1) ∧ TyInv S r f d (⟨s, l⟩ : Tm) aa ca w (.int .i64 0) w2) := by
      cases hvs : varB s with
      | true =>
        obtain ⟨w2, hr2, hT2, hE2⟩ := T1.out.put s d
        refine ⟨w2, fun _ => ⟨T1.out.look s, hr2⟩, fun h => (by cases h), 0, Nat.zero_le _, rfl, K1.out.ex hE2 (by omega), hT2.congr fun v => ?_, E1.out.trans hE2⟩
        unfold addF
        by_cases e : s = v
        · simp [e, hvs, vo, oftL, preL]
          rw [← e, hvs]; simp
        · simp [e, vo, oftL, preL]
      | false =>
        refine ⟨w1, fun h => (by cases h), fun _ => rfl, 0, Nat.zero_le _, rfl, K1.out, T1.out.congr fun v => ?_, E1.out⟩
        simp [hvs, vo, oftL, preL]
    obtain ⟨w2, h1, h2, hI⟩ := hcase.out
    have I0 := hide hI
    have k20 : w2.cell? ⟨w.heap.size, 1, none⟩ = some (.slice aa l.length ca) := by
      obtain ⟨k, _, _, hk, _⟩ := hI
      exact hk.cell 1
    have hfs := HF.out s
    clear hI hcase
    have main : ∀ (w2 : World), TyInv S r f d (⟨s, l⟩ : Tm) aa ca w (.int .i64 0) w2 → True := fun _ _ => trivial
    clear main
    cases hvs : varB s with
    | true =>
      obtain ⟨hlk, hup⟩ := h1 hvs
      clear h1 h2
      have hbd : -9223372036854775808 ≤ f s + d ∧ f s + d ≤ 9223372036854775807 := by rcases hd with e | e <;> omega
      go_wp2_with fail
      go_loopw [19] (fun i wr => TyInv S r f d (⟨s, l⟩ : Tm) aa ca w i wr) (fun i wr => l.length - (intOf i).toNat)
      case atStart => exact I0.out
      case round =>
        clear I0
        obtain ⟨k, hk, rfl, hK, hTt, hE⟩ := hrel
        have HK := hide hK
        have HTT := hide hTt
        have HE := hide hE
        by_cases hlt : k < l.length
        · have hlti : (k : Int) < (l.length : Int) := by omega
          obtain ⟨b1, o1, a1, c1, rfl, d10, d11, d12, d13, hx⟩ := (HSA.out.ex hE hX).get (Below.refl _ _) (fun _ _ h => h) k hlt
          have HX := hide hx
          have hsz1 := size_arg (t := ⟨s, l⟩) (List.getElem_mem hlt)
          have hst := sizeL_take l k hlt
          have hsb : sizeL (l.take (k + 1)) ≤ sizeL l := by have h1 := sizeL_append (l.take (k + 1)) (l.drop (k + 1)); rw [List.take_append_drop] at h1; omega
          have HVT : Hid (∀ v, vo v (l.take (k + 1)) = vo v (l.take k) + vo v [l[k]]) := fun v => vo_take v l k hlt
          clear hx hK hTt hE
          have hr2 := HTT.out.lt
          go_wp2_with fail
          refine (IH.out l[k] (List.getElem_mem hlt) (fun v => f v + d * ((if varB s = true ∧ s = v then 1 else 0) + vo v (l.take k) : Nat)) _ _ X (fun v => ?_) (by exact HTT.out.kept (Below.heap_alloc _ _ _ hr2)) (by exact HX.out.alloc _) hX).mono ?_
          · have hz := HZ.out
            have h1 := HF.out v
            have h2 := vo_le v (l.take k)
            have h3 : (if varB s = true ∧ s = v then 1 else 0 : Nat) ≤ 1 := by split <;> omega
            rcases hd with e | e <;> rw [e] <;> omega
          · rintro e w5 ⟨rfl, hT5, hE5⟩
            have HT5 := hide hT5
            have K5 := hide ((HK.out.alloc _).ex hE5 (by omega))
            have E5 := hide (HE.out.trans (((Ex.refl r wr).alloc _).trans hE5))
            clear hT5 hE5
            go_wp2_with fail
            go_roundw
            case rel =>
              refine ⟨k + 1, by show k + 1 ≤ l.length; omega, by go_num, K5.out, HT5.out.congr fun v => ?_, E5.out⟩
              show _ = f v + d * (((if varB s = true ∧ s = v then 1 else 0) + vo v (l.take (k + 1)) : Nat) : Int)
              rw [HVT.out v]
              rcases hd with e | e <;> rw [e] <;> omega
            case measure => simp [intOf]; omega
        · have htk : l.take k = l := List.take_of_length_le (by omega)
          have htt : TalAt wr r (fun v => f v + d * (vo v [(⟨s, l⟩ : Tm)] : Nat)) := hTt.congr fun v => by
            show f v + d * (((if varB s = true ∧ s = v then 1 else 0) + vo v (l.take k) : Nat) : Int) = _
            rw [htk, HON.out v]
          have HTE := hide htt
          clear htt hK hTt hE htk
          go_wp2_with fail
          go_end0
          exact ⟨rfl, HTE.out, HE.out⟩
    | false =>
      have e2 := h2 hvs
      subst e2
      clear h1 h2
      go_wp2_with fail
      go_loopw [19] (fun i wr => TyInv S r f d (⟨s, l⟩ : Tm) aa ca w i wr) (fun i wr => l.length - (intOf i).toNat)
      case atStart => exact I0.out
      case round =>
        clear I0
        obtain ⟨k, hk, rfl, hK, hTt, hE⟩ := hrel
        have HK := hide hK
        have HTT := hide hTt
        have HE := hide hE
        by_cases hlt : k < l.length
        · have hlti : (k : Int) < (l.length : Int) := by omega
          obtain ⟨b1, o1, a1, c1, rfl, d10, d11, d12, d13, hx⟩ := (HSA.out.ex hE hX).get (Below.refl _ _) (fun _ _ h => h) k hlt
          have HX := hide hx
          have hsz1 := size_arg (t := ⟨s, l⟩) (List.getElem_mem hlt)
          have hst := sizeL_take l k hlt
          have hsb : sizeL (l.take (k + 1)) ≤ sizeL l := by have h1 := sizeL_append (l.take (k + 1)) (l.drop (k + 1)); rw [List.take_append_drop] at h1; omega
          have HVT : Hid (∀ v, vo v (l.take (k + 1)) = vo v (l.take k) + vo v [l[k]]) := fun v => vo_take v l k hlt
          clear hx hK hTt hE
          have hr2 := HTT.out.lt
          go_wp2_with fail
          refine (IH.out l[k] (List.getElem_mem hlt) (fun v => f v + d * ((if varB s = true ∧ s = v then 1 else 0) + vo v (l.take k) : Nat)) _ _ X (fun v => ?_) (by exact HTT.out.kept (Below.heap_alloc _ _ _ hr2)) (by exact HX.out.alloc _) hX).mono ?_
          · have hz := HZ.out
            have h1 := HF.out v
            have h2 := vo_le v (l.take k)
            have h3 : (if varB s = true ∧ s = v then 1 else 0 : Nat) ≤ 1 := by split <;> omega
            rcases hd with e | e <;> rw [e] <;> omega
          · rintro e w5 ⟨rfl, hT5, hE5⟩
            have HT5 := hide hT5
            have K5 := hide ((HK.out.alloc _).ex hE5 (by omega))
            have E5 := hide (HE.out.trans (((Ex.refl r wr).alloc _).trans hE5))
            clear hT5 hE5
            go_wp2_with fail
            go_roundw
            case rel =>
              refine ⟨k + 1, by show k + 1 ≤ l.length; omega, by go_num, K5.out, HT5.out.congr fun v => ?_, E5.out⟩
              show _ = f v + d * (((if varB s = true ∧ s = v then 1 else 0) + vo v (l.take (k + 1)) : Nat) : Int)
              rw [HVT.out v]
              rcases hd with e | e <;> rw [e] <;> omega
            case measure => simp [intOf]; omega
        · have htk : l.take k = l := List.take_of_length_le (by omega)
          have htt : TalAt wr r (fun v => f v + d * (vo v [(⟨s, l⟩ : Tm)] : Nat)) := hTt.congr fun v => by
            show f v + d * (((if varB s = true ∧ s = v then 1 else 0) + vo v (l.take k) : Nat) : Int) = _
            rw [htk, HON.out v]
          have HTE := hide htt
          clear htt hK hTt hE htk
          go_wp2_with fail
          go_end0
          exact ⟨rfl, HTE.out, HE.out⟩
#print axioms tally_any

/-- Both counted: what the map holds. -/
theorem vo_all {a b : Tm} : (∀ v, (0 : Int) ≤ (vo v [a] : Int) - (vo v [b] : Int)) ↔ hasAll a b = true := by
  rw [hasAll_iff]
  constructor
  · intro h v hv
    have := h v
    unfold vo at this
    rw [if_pos hv, if_pos hv] at this
    omega
  · intro h v
    unfold vo
    by_cases hv : varB v = true
    · rw [if_pos hv, if_pos hv]
      have := h v hv
      omega
    · rw [if_neg hv, if_neg hv]; omega
/-- The loop over the map: what came was never below 0. -/
def HaInv (m r : Nat) (L : List (ByteArray × Value)) (f : ByteArray → Int) (w : World) (i : Value) (wr : World) : Prop := ∃ rem, RangeAt wr m r L rem ∧ (∀ p ∈ L, p ∈ rem ∨ 0 ≤ f p.1) ∧ (∀ p ∈ rem, p ∈ L) ∧ Below w.heap.size w wr
set_option maxHeartbeats 4000000 in
theorem hasAllOf_any (S : List Tm) (a b : Tm) (va vb : Value) (w : World) (X : Nat → Prop) (za : sizeL [a] ≤ 20000) (zb : sizeL [b] ≤ 20000) (ha : IV w X S va a) (hb : IV w X S vb b) :
    Calls Try.prog 112 #[va, vb] w fun e w' => e = .returned (.bool (hasAll a b)) ∧ Below w.heap.size w w' := by
  have HA := hide (ha.mono (Y := fun b => X b ∧ b < w.heap.size) fun b h1 h2 => ⟨h1, h2⟩)
  have HB := hide (hb.mono (Y := fun b => X b ∧ b < w.heap.size) fun b h1 h2 => ⟨h1, h2⟩)
  obtain ⟨_, aa, ca, rfl, hsa⟩ := ha
  obtain ⟨_, ab, cb, rfl, hsb⟩ := hb
  clear hsa hsb
  have hmm := @run_makeMap Try.prog
  have K2 : Hid (Blk (((w.alloc (.cells #[.string a.name, .slice aa a.args.length ca, .int .i64 (numT a S), .int .i64 (sizeL [a])] 128)).alloc (.cells #[.string b.name, .slice ab b.args.length cb, .int .i64 (numT b S), .int .i64 (sizeL [b])] 128)).alloc (.map #[] 0)) (w.heap.size + 1) #[.string b.name, .slice ab b.args.length cb, .int .i64 (numT b S), .int .i64 (sizeL [b])] 128) := by
    have h := Blk.new (w.alloc (.cells #[.string a.name, .slice aa a.args.length ca, .int .i64 (numT a S), .int .i64 (sizeL [a])] 128)) #[.string b.name, .slice ab b.args.length cb, .int .i64 (numT b S), .int .i64 (sizeL [b])] 128
    have e : (w.alloc (.cells #[.string a.name, .slice aa a.args.length ca, .int .i64 (numT a S), .int .i64 (sizeL [a])] 128)).heap.size = w.heap.size + 1 := by simp
    rw [e] at h
    exact h.alloc _
  have B3 : Hid (Below w.heap.size w (((w.alloc (.cells #[.string a.name, .slice aa a.args.length ca, .int .i64 (numT a S), .int .i64 (sizeL [a])] 128)).alloc (.cells #[.string b.name, .slice ab b.args.length cb, .int .i64 (numT b S), .int .i64 (sizeL [b])] 128)).alloc (.map #[] 0))) := (((Below.refl w.heap.size w).alloc (Nat.le_refl _) _).alloc (by simp) _).alloc (by simp; omega) _
  have T3 : Hid (TalAt (((w.alloc (.cells #[.string a.name, .slice aa a.args.length ca, .int .i64 (numT a S), .int .i64 (sizeL [a])] 128)).alloc (.cells #[.string b.name, .slice ab b.args.length cb, .int .i64 (numT b S), .int .i64 (sizeL [b])] 128)).alloc (.map #[] 0)) (w.heap.size + 2) (fun _ => 0)) := by
    have h := MapAt.new ((w.alloc (.cells #[.string a.name, .slice aa a.args.length ca, .int .i64 (numT a S), .int .i64 (sizeL [a])] 128)).alloc (.cells #[.string b.name, .slice ab b.args.length cb, .int .i64 (numT b S), .int .i64 (sizeL [b])] 128))
    have e : ((w.alloc (.cells #[.string a.name, .slice aa a.args.length ca, .int .i64 (numT a S), .int .i64 (sizeL [a])] 128)).alloc (.cells #[.string b.name, .slice ab b.args.length cb, .int .i64 (numT b S), .int .i64 (sizeL [b])] 128)).heap.size = w.heap.size + 2 := by simp
    rw [e] at h
    exact ⟨[], h, by simp, fun _ _ => rfl, by simp⟩
  have c0 : ∀ o, (((w.alloc (.cells #[.string a.name, .slice aa a.args.length ca, .int .i64 (numT a S), .int .i64 (sizeL [a])] 128)).alloc (.cells #[.string b.name, .slice ab b.args.length cb, .int .i64 (numT b S), .int .i64 (sizeL [b])] 128)).alloc o).cell? ⟨w.heap.size, 0, none⟩ = some (.string a.name) := fun o => (((Blk.new w #[.string a.name, .slice aa a.args.length ca, .int .i64 (numT a S), .int .i64 (sizeL [a])] 128).alloc _).alloc o).cell 0
  have c1 : ∀ o, (((w.alloc (.cells #[.string a.name, .slice aa a.args.length ca, .int .i64 (numT a S), .int .i64 (sizeL [a])] 128)).alloc (.cells #[.string b.name, .slice ab b.args.length cb, .int .i64 (numT b S), .int .i64 (sizeL [b])] 128)).alloc o).cell? ⟨w.heap.size, 1, none⟩ = some (.slice aa a.args.length ca) := fun o => (((Blk.new w #[.string a.name, .slice aa a.args.length ca, .int .i64 (numT a S), .int .i64 (sizeL [a])] 128).alloc _).alloc o).cell 1
  have c2 : ∀ o, (((w.alloc (.cells #[.string a.name, .slice aa a.args.length ca, .int .i64 (numT a S), .int .i64 (sizeL [a])] 128)).alloc (.cells #[.string b.name, .slice ab b.args.length cb, .int .i64 (numT b S), .int .i64 (sizeL [b])] 128)).alloc o).cell? ⟨w.heap.size, 2, none⟩ = some (.int .i64 (numT a S)) := fun o => (((Blk.new w #[.string a.name, .slice aa a.args.length ca, .int .i64 (numT a S), .int .i64 (sizeL [a])] 128).alloc _).alloc o).cell 2
  have c3 : ∀ o, (((w.alloc (.cells #[.string a.name, .slice aa a.args.length ca, .int .i64 (numT a S), .int .i64 (sizeL [a])] 128)).alloc (.cells #[.string b.name, .slice ab b.args.length cb, .int .i64 (numT b S), .int .i64 (sizeL [b])] 128)).alloc o).cell? ⟨w.heap.size, 3, none⟩ = some (.int .i64 (sizeL [a])) := fun o => (((Blk.new w #[.string a.name, .slice aa a.args.length ca, .int .i64 (numT a S), .int .i64 (sizeL [a])] 128).alloc _).alloc o).cell 3
  go_enter Try.func112, Try.ntmps112
  go_wp2_with fail
  have e2 : w.heap.size + 1 + 1 = w.heap.size + 2 := rfl
  rw [e2]
  clear e2 c0 c1 c2 c3 hmm
  generalize ((w.alloc (.cells #[.string a.name, .slice aa a.args.length ca, .int .i64 (numT a S), .int .i64 (sizeL [a])] 128)).alloc (.cells #[.string b.name, .slice ab b.args.length cb, .int .i64 (numT b S), .int .i64 (sizeL [b])] 128)).alloc (.map #[] 0) = w3 at *
  refine (tally_any S (w.heap.size + 2) 1 (Or.inl rfl) a (fun _ => 0) _ _ _ (fun v => by simp; omega) T3.out (by exact HA.out.later B3.out) (fun b hb => by have := hb.2; omega)).mono ?_
  rintro e w4 ⟨rfl, hT4, hE4⟩
  have T4 := hide hT4
  have K4 := hide (K2.out.ex hE4 (by omega))
  have B4 : Hid (Below w.heap.size w w4) := ⟨hE4.os.trans B3.out.os, hE4.tape.trans B3.out.tape, hE4.output.trans B3.out.output, Nat.le_trans B3.out.size hE4.size, fun k hk => (hE4.block k (by have := B3.out.size; omega) (by omega)).trans (B3.out.block k hk)⟩
  have r0 : w4.cell? ⟨w.heap.size + 1, 0, none⟩ = some (.string b.name) := K4.out.cell 0
  have r1 : w4.cell? ⟨w.heap.size + 1, 1, none⟩ = some (.slice ab b.args.length cb) := K4.out.cell 1
  have r2 : w4.cell? ⟨w.heap.size + 1, 2, none⟩ = some (.int .i64 (numT b S)) := K4.out.cell 2
  have r3 : w4.cell? ⟨w.heap.size + 1, 3, none⟩ = some (.int .i64 (sizeL [b])) := K4.out.cell 3
  clear hT4 hE4
  go_wp2_with fail
  refine (tally_any S (w.heap.size + 2) (-1) (Or.inr rfl) b (fun v => 0 + 1 * (vo v [a] : Nat)) _ _ _ (fun v => by have := vo_le v [a]; simp; omega) T4.out (by exact HB.out.later B4.out) (fun b hb => by have := hb.2; omega)).mono ?_
  rintro e w5 ⟨rfl, hT5, hE5⟩
  have B5 : Hid (Below w.heap.size w w5) := ⟨hE5.os.trans B4.out.os, hE5.tape.trans B4.out.tape, hE5.output.trans B4.out.output, Nat.le_trans B4.out.size hE5.size, fun k hk => (hE5.block k (by have := B4.out.size; omega) (by omega)).trans (B4.out.block k hk)⟩
  have hT5' : TalAt w5 (w.heap.size + 2) (fun v => (vo v [a] : Int) - (vo v [b] : Int)) := hT5.congr fun v => by omega
  obtain ⟨L, hM5, hL1, hL2, hL3⟩ := hT5'
  obtain ⟨o, hrange, hR0⟩ := hM5.range (P := Try.prog) Try.underlying113
  have HR0 := hide hR0
  have HL1 := hide hL1
  have HL2 := hide hL2
  have hml5 := hM5.lt
  clear hT5 hE5 hM5 hL1 hL2 hL3 hR0 r0 r1 r2 r3
  go_wp2_with fail
  go_loopw [7] (fun i wr => HaInv (w.heap.size + 2) w5.heap.size L (fun v => (vo v [a] : Int) - (vo v [b] : Int)) w i wr) (fun i wr => leftAt wr (w.heap.size + 2) w5.heap.size)
  case atStart => exact ⟨L, HR0.out, fun p hp => Or.inl hp, fun p hp => hp, B5.out.alloc B5.out.size _⟩
  case round =>
    obtain ⟨rem, hR, hge, hsub, hb⟩ := hrel
    have HB9 := hide hb
    have HGE := hide hge
    have HSUB := hide hsub
    have hleft := hR.left
    rcases hR.next (P := Try.prog) 0 with ⟨he, hnx⟩ | ⟨p, rem', w1, hpm, hnx, hR1, hz1, ho1, ht1, hu1, hk1, hen⟩
    · have HR : Hid (hasAll a b = true) := vo_all.1 fun v => by
        cases hg : mapGet L v with
        | none => have := HL2.out v hg; omega
        | some z =>
          rcases HGE.out _ (mapGet_mem hg) with h | h
          · rw [he] at h; cases h
          · exact h
      clear hR hb he hge hsub
      go_wp2_with fail
      go_ret
      exact ⟨by rw [HR.out]; rfl, HB9.out⟩
    · have hpL : p ∈ L := HSUB.out p (hpm.symm.subset (by simp))
      have hpv := HL1.out p hpL
      obtain ⟨n, z⟩ := p
      simp only at hpv hnx hen
      subst hpv
      have B9 : Hid (Below w.heap.size w w1) := ⟨ho1.trans hb.os, ht1.trans hb.tape, hu1.trans hb.output, by rw [hz1]; exact hb.size, fun j hj => (hk1 j (by have := B5.out.size; omega)).trans (hb.block j hj)⟩
      have HR1 := hide hR1
      have hl1 := hR1.left
      have hln := hpm.length_eq
      clear hR hb hge hsub hz1 ho1 ht1 hu1 hk1 hR1
      by_cases hneg : (vo n [a] : Int) - (vo n [b] : Int) < 0
      · have HR : Hid (hasAll a b = false) := by
          unfold Hid
          cases hh : hasAll a b with
          | false => rfl
          | true => have := vo_all.2 hh n; omega
        go_wp2_with fail
        go_ret
        exact ⟨by rw [HR.out]; rfl, B9.out⟩
      · have HREL : Hid (HaInv (w.heap.size + 2) w5.heap.size L (fun v => (vo v [a] : Int) - (vo v [b] : Int)) w (.int .i64 ((vo n [a] : Int) - (vo n [b] : Int))) w1) := by
          refine ⟨rem', HR1.out, fun q hq => ?_, fun q hq => HSUB.out q (hpm.symm.subset (by simp [hq])), B9.out⟩
          rcases HGE.out q hq with h | h
          · have h2 := hpm.subset h
            rw [List.mem_cons] at h2
            rcases h2 with e | h2
            · subst e; exact Or.inr (by show (0 : Int) ≤ (vo n [a] : Int) - (vo n [b] : Int); omega)
            · exact Or.inl h2
          · exact Or.inr h
        have HM : Hid (leftAt w1 (w.heap.size + 2) w5.heap.size < leftAt wr (w.heap.size + 2) w5.heap.size) := by
          unfold Hid
          rw [hl1, hleft, hln]
          simp
        clear hl1 hleft hln hpm
        go_wp2_with fail
        go_roundw
        case rel => exact HREL.out
        case measure => exact HM.out
#print axioms hasAllOf_any
end Go.Proofs.Ythlgknglalcggaj
