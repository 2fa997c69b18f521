/- Walks: the terms of worked rows. -/
import Derived.Test.YtcdabjekppddjaaGreatDoorCb9s
import Derived.Test.YtcdabjekppddjaaGreatDoorCb10
namespace Go.Proofs.YtcdabjekppddjaaGreatDoor
open Go.RowKit
set_option linter.unusedSimpArgs false
set_option linter.unusedVariables false
set_option maxRecDepth 8000

theorem termI (H : Tm) (L : List Tm) (B P n : Nat) (w : World) (Y : Nat → Prop) (hn : n = L.length + 1) (hR : RoL w Y B (H :: L)) (hP : Blk w P #[.int .i64 (n : Int), ro1 B] 88) (hl : 0 < L.length) :
    Calls Tryz.prog 82 #[.agg #[.int .i64 ((n : Int) - 1), .func (.func 95) #[] #[.pointer (some ⟨P, 0, none⟩)]]] w fun e w' => TPost w Y (apAll L[0] (L.drop 1)) e w' := by
  have hlen := hR.len
  simp only [List.length_cons] at hlen
  have h := term1_any L P w Y (fun w' hb p hp => by
    have h1 := work1_any (H :: L) B P p n w' _ (hR.small.later hb) (hP.below hb hP.lt) (by simpa using hp)
    simpa using h1) hl (by omega)
  rw [show ((n : Int) - 1) = (L.length : Int) by omega]
  exact h
theorem termK (H : Tm) (L : List Tm) (B P n : Nat) (w : World) (Y : Nat → Prop) (hn : n = L.length + 1) (hR : RoL w Y B (H :: L)) (hP : Blk w P #[.int .i64 (n : Int), ro1 B] 88) (hl : 1 < L.length) :
    Calls Tryz.prog 82 #[.agg #[.int .i64 ((n : Int) - 2), .func (.func 96) #[] #[.pointer (some ⟨P, 0, none⟩)]]] w fun e w' => TPost w Y (apAll (L[0]'(by omega)) (L.drop 2)) e w' := by
  have hlen := hR.len
  simp only [List.length_cons] at hlen
  have h := term2_any ((L[0]'(by omega)) :: L.drop 2) P w Y (fun w' hb p hp => by
    match p, hp with
    | 0, hp =>
      have h1 := work2_any0 (H :: L) B P n w' _ (hR.small.later hb) (hP.below hb hP.lt) (by simp; omega)
      simpa using h1
    | p + 1, hp =>
      have hp' : p + 1 + 2 < (H :: L).length := by simp at hp ⊢; omega
      have h1 := work2_any1 (H :: L) B P (p + 1) n w' _ (hR.small.later hb) (hP.below hb hP.lt) (by omega) hp'
      have e1 : (H :: L)[p + 1 + 2] = (L[0]'(by omega) :: L.drop 2)[p + 1]'hp := by simp [Nat.add_comm]
      rw [e1] at h1
      exact h1) (by simp) (by simp; omega)
  have e8 : ((L[0]'(by omega)) :: L.drop 2).length = L.length - 1 := by simp; omega
  have e9 : ((n : Int) - 2) = ((((L[0]'(by omega)) :: L.drop 2).length : Nat) : Int) := by rw [e8]; omega
  rw [← e9] at h
  exact h
theorem termS (H : Tm) (L : List Tm) (B n : Nat) (w : World) (Y : Nat → Prop) (hn : n = L.length + 1) (hR : RoL w Y B (H :: L)) (hl : 2 < L.length) :
    Calls Tryz.prog 82 #[.agg #[.int .i64 ((n : Int) - 1), .func (.func 97) #[.agg #[.int .i64 (n : Int), ro1 B]] #[]]] w fun e w' => TPost w Y (apAll (apT (apT (L[0]'(by omega)) L[2]) (apT (L[1]'(by omega)) L[2])) (L.drop 3)) e w' := by
  have hlen := hR.len
  simp only [List.length_cons] at hlen
  have h := term4_any ([L[0]'(by omega), L[2], apT (L[1]'(by omega)) L[2]] ++ L.drop 3) B n w Y (fun w' hb p hp => by
    match p, hp with
    | 0, hp =>
      have h1 := shared0 (H :: L) B n w' _ (hR.small.later hb) (by simp; omega)
      simpa using h1
    | 1, hp =>
      have h1 := shared1 (H :: L) B n w' _ (hR.small.later hb) (by simp; omega)
      simpa using h1
    | 2, hp =>
      have h1 := shared2 (H :: L) B n w' _ (hR.small.later hb) (by simp; omega)
      simpa using h1
    | p + 3, hp =>
      have hp' : p + 3 + 1 < (H :: L).length := by simp at hp ⊢; omega
      have h1 := shared3 (H :: L) B n (p + 3) w' _ (hR.small.later hb) (by omega) hp'
      have e1 : (H :: L)[p + 3 + 1] = ([L[0]'(by omega), L[2], apT (L[1]'(by omega)) L[2]] ++ L.drop 3)[p + 3]'hp := by
        rw [List.getElem_append_right (by simp), List.getElem_cons_succ]
        simp [Nat.add_comm]
      rw [e1] at h1
      exact h1) (by simp) (by simp; omega)
  have e8 : ([L[0]'(by omega), L[2], apT (L[1]'(by omega)) L[2]] ++ L.drop 3).length = L.length := by simp; omega
  have e9 : ((n : Int) - 1) = ((([L[0]'(by omega), L[2], apT (L[1]'(by omega)) L[2]] ++ L.drop 3).length : Nat) : Int) := by rw [e8]; omega
  rw [← e9] at h
  exact h
theorem termW (H : Tm) (L : List Tm) (B P Q V n q : Nat) (x : Tm) (ax : Option Addr) (cx : Nat) (w : World) (Y : Nat → Prop) (hn : n = L.length + 1) (hR : RoL w Y B (H :: L)) (hP : Blk w P #[.int .i64 (n : Int), ro1 B] 88) (hQ : Blk w Q #[.int .i64 ((q + 1 : Nat) : Int)] 3) (hV : Blk w V #[.string x.name, .slice ax x.args.length cx] 24) (hx : Sl w Y ax x.args) :
    Calls Tryz.prog 82 #[.agg #[.int .i64 (n : Int), .func (.func 98) #[] #[.pointer (some ⟨Q, 0, none⟩), .pointer (some ⟨V, 0, none⟩), .pointer (some ⟨P, 0, none⟩)]]] w fun e w' => TPost w Y (apAll H (L.set q x)) e w' := by
  have hlen := hR.len
  simp only [List.length_cons] at hlen
  have h := term3_any (H :: L.set q x) P Q V w Y (fun w' hb p hp => by
    have hp' : p < (H :: L).length := by simpa using hp
    have h1 := with1_any (H :: L) B P Q V p (q + 1) n x ax cx w' _ (hR.small.later hb) (hP.below hb hP.lt) (hQ.below hb hQ.lt) (hV.below hb hV.lt) ((hx.mono fun b h1 h2 => ⟨h1, h2⟩).later hb) hp'
    have e1 : ((H :: L).set (q + 1) x)[p]'(by simpa using hp') = (H :: L.set q x)[p]'hp := by simp
    rw [e1] at h1
    exact h1) (by simp) (by simp; omega)
  rw [hn]
  simpa using h
end Go.Proofs.YtcdabjekppddjaaGreatDoor
