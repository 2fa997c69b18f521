import Derived.Test.YtbnmlkaejdpigaaGreatDoorW36
import Derived.Test.YtbnmlkaejdpigaaGreatDoorZBTopLocalOwn
import Derived.Test.YtbnmlkaejdpigaaGreatDoorZTopLocalOwn
import Derived.Test.YtbnmlkaejdpigaaGreatDoorZDTopLocalOwn
import Derived.Test.YtbnmlkaejdpigaaGreatDoorW175
import Derived.Test.YtbnmlkaejdpigaaGreatDoorTd2
namespace Go.Proofs.YtbnmlkaejdpigaaGreatDoor
open Go.RowKit
set_option linter.unusedSimpArgs false
set_option linter.unusedVariables false
set_option maxRecDepth 8000
def RlInv (l : List ByteArray) (w : World) (u v : Value) (wr : World) : Prop :=
 ∃ (k : Nat) (cs : List Pc), 2 * k ≤ l.length ∧ v = .int .i64 ((2 * k : Nat) : Int) ∧ cs.map (fun x => x.1) = rsOf (l.take (2 * k)) ∧ cs.length = k ∧ QRow wr w.heap.size (fun _ => False) u cs ∧ Below w.heap.size w wr
def LitP (B : Nat) (l : List ByteArray) (w w' : World) : Prop := Blk w' B (l.map Value.string).toArray 9 ∧ Below w.heap.size w w'
theorem LitP.later {B : Nat} {l : List ByteArray} {w w1 w2 : World} (h : LitP B l w w1) (hb : Below w1.heap.size w1 w2) : LitP B l w w2 := ⟨h.1.below hb h.1.lt, h.2.trans (hb.mono h.2.size)⟩
def RufP (w : World) (e : Ending) (w' : World) : Prop :=
 ∃ l v cs N, e = .returned v ∧ l ∈ ten ∧ w.heap.size ≤ N ∧ N ≤ w'.heap.size ∧ QRow w' N (fun _ => False) v cs ∧ cs.map (fun x => x.1) = rsOf l ∧ cs.length ≤ 3 ∧ Below w.heap.size w w'
set_option maxHeartbeats 8000000 in
theorem rulesFromR_any (z : Int) (hz : -9223372036854775808 ≤ z ∧ z ≤ 9223372036854775807) (w : World) :
  Calls Tryz.prog 4 #[.int .i64 z] w (RufP w) := by
 obtain ⟨i0, hi0, hz0, hz1, hz2⟩ := info_parts Tryz.infoPair
 have HW : Hid (∃ W, W = (((((((((((w.alloc (.cells #[.string ⟨#[102, 40, 97, 44, 88, 41]⟩, .string ⟨#[88]⟩, .string ⟨#[102, 40, 104, 40, 88, 41, 44, 89, 41]⟩, .string ⟨#[104, 40, 102, 40, 88, 44, 89, 41, 41]⟩] 9)).alloc (.cells #[.string ⟨#[102, 40, 88, 44, 97, 41]⟩, .string ⟨#[88]⟩, .string ⟨#[102, 40, 88, 44, 104, 40, 89, 41, 41]⟩, .string ⟨#[104, 40, 102, 40, 88, 44, 89, 41, 41]⟩, .string ⟨#[102, 40, 97, 44, 88, 41]⟩, .string ⟨#[88]⟩] 9)).alloc (.cells #[.string ⟨#[102, 40, 102, 40, 88, 44, 89, 41, 44, 90, 41]⟩, .string ⟨#[102, 40, 88, 44, 102, 40, 89, 44, 90, 41, 41]⟩] 9)).alloc (.cells #[.string ⟨#[107, 40, 107, 40, 88, 41, 41]⟩, .string ⟨#[88]⟩, .string ⟨#[107, 40, 97, 41]⟩, .string ⟨#[97]⟩, .string ⟨#[107, 40, 102, 40, 88, 44, 89, 41, 41]⟩, .string ⟨#[102, 40, 107, 40, 89, 41, 44, 107, 40, 88, 41, 41]⟩] 9)).alloc (.cells #[.string ⟨#[102, 40, 88, 44, 88, 41]⟩, .string ⟨#[88]⟩] 9)).alloc (.cells #[.string ⟨#[104, 40, 107, 40, 88, 41, 41]⟩, .string ⟨#[107, 40, 104, 40, 88, 41, 41]⟩, .string ⟨#[104, 40, 104, 40, 88, 41, 41]⟩, .string ⟨#[104, 40, 88, 41]⟩] 9)).alloc (.cells #[.string ⟨#[102, 40, 97, 44, 98, 41]⟩, .string ⟨#[99]⟩, .string ⟨#[97]⟩, .string ⟨#[98]⟩] 9)).alloc (.cells #[.string ⟨#[103, 40, 88, 44, 89, 41]⟩, .string ⟨#[102, 40, 89, 44, 88, 41]⟩] 9)).alloc (.cells #[.string ⟨#[104, 40, 97, 41]⟩, .string ⟨#[98]⟩, .string ⟨#[104, 40, 97, 41]⟩, .string ⟨#[99]⟩] 9)).alloc (.cells #[.string ⟨#[102, 40, 88, 44, 103, 40, 89, 44, 90, 41, 41]⟩, .string ⟨#[103, 40, 102, 40, 88, 44, 89, 41, 44, 102, 40, 88, 44, 90, 41, 41]⟩] 9)).alloc (.cells #[.slice (some ⟨w.heap.size, 0, none⟩) 4 4, .slice (some ⟨w.heap.size + 1, 0, none⟩) 6 6, .slice (some ⟨w.heap.size + 1 + 1, 0, none⟩) 2 2, .slice (some ⟨w.heap.size + 1 + 1 + 1, 0, none⟩) 6 6, .slice (some ⟨w.heap.size + 1 + 1 + 1 + 1, 0, none⟩) 2 2, .slice (some ⟨w.heap.size + 1 + 1 + 1 + 1 + 1, 0, none⟩) 4 4, .slice (some ⟨w.heap.size + 1 + 1 + 1 + 1 + 1 + 1, 0, none⟩) 4 4, .slice (some ⟨w.heap.size + 1 + 1 + 1 + 1 + 1 + 1 + 1, 0, none⟩) 2 2, .slice (some ⟨w.heap.size + 1 + 1 + 1 + 1 + 1 + 1 + 1 + 1, 0, none⟩) 4 4, .slice (some ⟨w.heap.size + 1 + 1 + 1 + 1 + 1 + 1 + 1 + 1 + 1, 0, none⟩) 2 2] 37)) ∧ (Blk W (w.heap.size) #[.string ⟨#[102, 40, 97, 44, 88, 41]⟩, .string ⟨#[88]⟩, .string ⟨#[102, 40, 104, 40, 88, 41, 44, 89, 41]⟩, .string ⟨#[104, 40, 102, 40, 88, 44, 89, 41, 41]⟩] 9 ∧ Blk W (w.heap.size + 1) #[.string ⟨#[102, 40, 88, 44, 97, 41]⟩, .string ⟨#[88]⟩, .string ⟨#[102, 40, 88, 44, 104, 40, 89, 41, 41]⟩, .string ⟨#[104, 40, 102, 40, 88, 44, 89, 41, 41]⟩, .string ⟨#[102, 40, 97, 44, 88, 41]⟩, .string ⟨#[88]⟩] 9 ∧ Blk W (w.heap.size + 1 + 1) #[.string ⟨#[102, 40, 102, 40, 88, 44, 89, 41, 44, 90, 41]⟩, .string ⟨#[102, 40, 88, 44, 102, 40, 89, 44, 90, 41, 41]⟩] 9 ∧ Blk W (w.heap.size + 1 + 1 + 1) #[.string ⟨#[107, 40, 107, 40, 88, 41, 41]⟩, .string ⟨#[88]⟩, .string ⟨#[107, 40, 97, 41]⟩, .string ⟨#[97]⟩, .string ⟨#[107, 40, 102, 40, 88, 44, 89, 41, 41]⟩, .string ⟨#[102, 40, 107, 40, 89, 41, 44, 107, 40, 88, 41, 41]⟩] 9 ∧ Blk W (w.heap.size + 1 + 1 + 1 + 1) #[.string ⟨#[102, 40, 88, 44, 88, 41]⟩, .string ⟨#[88]⟩] 9 ∧ Blk W (w.heap.size + 1 + 1 + 1 + 1 + 1) #[.string ⟨#[104, 40, 107, 40, 88, 41, 41]⟩, .string ⟨#[107, 40, 104, 40, 88, 41, 41]⟩, .string ⟨#[104, 40, 104, 40, 88, 41, 41]⟩, .string ⟨#[104, 40, 88, 41]⟩] 9 ∧ Blk W (w.heap.size + 1 + 1 + 1 + 1 + 1 + 1) #[.string ⟨#[102, 40, 97, 44, 98, 41]⟩, .string ⟨#[99]⟩, .string ⟨#[97]⟩, .string ⟨#[98]⟩] 9 ∧ Blk W (w.heap.size + 1 + 1 + 1 + 1 + 1 + 1 + 1) #[.string ⟨#[103, 40, 88, 44, 89, 41]⟩, .string ⟨#[102, 40, 89, 44, 88, 41]⟩] 9 ∧ Blk W (w.heap.size + 1 + 1 + 1 + 1 + 1 + 1 + 1 + 1) #[.string ⟨#[104, 40, 97, 41]⟩, .string ⟨#[98]⟩, .string ⟨#[104, 40, 97, 41]⟩, .string ⟨#[99]⟩] 9 ∧ Blk W (w.heap.size + 1 + 1 + 1 + 1 + 1 + 1 + 1 + 1 + 1) #[.string ⟨#[102, 40, 88, 44, 103, 40, 89, 44, 90, 41, 41]⟩, .string ⟨#[103, 40, 102, 40, 88, 44, 89, 41, 44, 102, 40, 88, 44, 90, 41, 41]⟩] 9) ∧ Blk W (w.heap.size + 1 + 1 + 1 + 1 + 1 + 1 + 1 + 1 + 1 + 1) #[.slice (some ⟨w.heap.size, 0, none⟩) 4 4, .slice (some ⟨w.heap.size + 1, 0, none⟩) 6 6, .slice (some ⟨w.heap.size + 1 + 1, 0, none⟩) 2 2, .slice (some ⟨w.heap.size + 1 + 1 + 1, 0, none⟩) 6 6, .slice (some ⟨w.heap.size + 1 + 1 + 1 + 1, 0, none⟩) 2 2, .slice (some ⟨w.heap.size + 1 + 1 + 1 + 1 + 1, 0, none⟩) 4 4, .slice (some ⟨w.heap.size + 1 + 1 + 1 + 1 + 1 + 1, 0, none⟩) 4 4, .slice (some ⟨w.heap.size + 1 + 1 + 1 + 1 + 1 + 1 + 1, 0, none⟩) 2 2, .slice (some ⟨w.heap.size + 1 + 1 + 1 + 1 + 1 + 1 + 1 + 1, 0, none⟩) 4 4, .slice (some ⟨w.heap.size + 1 + 1 + 1 + 1 + 1 + 1 + 1 + 1 + 1, 0, none⟩) 2 2] 37 ∧ Below w.heap.size w W) := by
  obtain ⟨h1, h2, h3⟩ := allocs_facts [(.cells #[.string ⟨#[102, 40, 97, 44, 88, 41]⟩, .string ⟨#[88]⟩, .string ⟨#[102, 40, 104, 40, 88, 41, 44, 89, 41]⟩, .string ⟨#[104, 40, 102, 40, 88, 44, 89, 41, 41]⟩] 9 : Obj), (.cells #[.string ⟨#[102, 40, 88, 44, 97, 41]⟩, .string ⟨#[88]⟩, .string ⟨#[102, 40, 88, 44, 104, 40, 89, 41, 41]⟩, .string ⟨#[104, 40, 102, 40, 88, 44, 89, 41, 41]⟩, .string ⟨#[102, 40, 97, 44, 88, 41]⟩, .string ⟨#[88]⟩] 9 : Obj), (.cells #[.string ⟨#[102, 40, 102, 40, 88, 44, 89, 41, 44, 90, 41]⟩, .string ⟨#[102, 40, 88, 44, 102, 40, 89, 44, 90, 41, 41]⟩] 9 : Obj), (.cells #[.string ⟨#[107, 40, 107, 40, 88, 41, 41]⟩, .string ⟨#[88]⟩, .string ⟨#[107, 40, 97, 41]⟩, .string ⟨#[97]⟩, .string ⟨#[107, 40, 102, 40, 88, 44, 89, 41, 41]⟩, .string ⟨#[102, 40, 107, 40, 89, 41, 44, 107, 40, 88, 41, 41]⟩] 9 : Obj), (.cells #[.string ⟨#[102, 40, 88, 44, 88, 41]⟩, .string ⟨#[88]⟩] 9 : Obj), (.cells #[.string ⟨#[104, 40, 107, 40, 88, 41, 41]⟩, .string ⟨#[107, 40, 104, 40, 88, 41, 41]⟩, .string ⟨#[104, 40, 104, 40, 88, 41, 41]⟩, .string ⟨#[104, 40, 88, 41]⟩] 9 : Obj), (.cells #[.string ⟨#[102, 40, 97, 44, 98, 41]⟩, .string ⟨#[99]⟩, .string ⟨#[97]⟩, .string ⟨#[98]⟩] 9 : Obj), (.cells #[.string ⟨#[103, 40, 88, 44, 89, 41]⟩, .string ⟨#[102, 40, 89, 44, 88, 41]⟩] 9 : Obj), (.cells #[.string ⟨#[104, 40, 97, 41]⟩, .string ⟨#[98]⟩, .string ⟨#[104, 40, 97, 41]⟩, .string ⟨#[99]⟩] 9 : Obj), (.cells #[.string ⟨#[102, 40, 88, 44, 103, 40, 89, 44, 90, 41, 41]⟩, .string ⟨#[103, 40, 102, 40, 88, 44, 89, 41, 44, 102, 40, 88, 44, 90, 41, 41]⟩] 9 : Obj), (.cells #[.slice (some ⟨w.heap.size, 0, none⟩) 4 4, .slice (some ⟨w.heap.size + 1, 0, none⟩) 6 6, .slice (some ⟨w.heap.size + 1 + 1, 0, none⟩) 2 2, .slice (some ⟨w.heap.size + 1 + 1 + 1, 0, none⟩) 6 6, .slice (some ⟨w.heap.size + 1 + 1 + 1 + 1, 0, none⟩) 2 2, .slice (some ⟨w.heap.size + 1 + 1 + 1 + 1 + 1, 0, none⟩) 4 4, .slice (some ⟨w.heap.size + 1 + 1 + 1 + 1 + 1 + 1, 0, none⟩) 4 4, .slice (some ⟨w.heap.size + 1 + 1 + 1 + 1 + 1 + 1 + 1, 0, none⟩) 2 2, .slice (some ⟨w.heap.size + 1 + 1 + 1 + 1 + 1 + 1 + 1 + 1, 0, none⟩) 4 4, .slice (some ⟨w.heap.size + 1 + 1 + 1 + 1 + 1 + 1 + 1 + 1 + 1, 0, none⟩) 2 2] 37 : Obj)] w
  exact ⟨_, rfl, ⟨h3 0 _ rfl, h3 1 _ rfl, h3 2 _ rfl, h3 3 _ rfl, h3 4 _ rfl, h3 5 _ rfl, h3 6 _ rfl, h3 7 _ rfl, h3 8 _ rfl, h3 9 _ rfl⟩, h3 10 _ rfl, h1⟩
 go_enter Tryz.func4, Tryz.ntmps4
 go_upto_region 2 with fail
 obtain ⟨w0, hw0, hall, hk, hb0⟩ := HW.out
 rw [← hw0]
 have HALL := hide hall
 have HK := hide hk
 have HB0 := hide hb0
 clear hw0 HW hall hk hb0
 go_cut [4] (fun v wc => ∃ l B, l ∈ ten ∧ v = .slice (some ⟨B, 0, none⟩) l.length l.length ∧ LitP B l w wc)
 case first =>
  have HC := hide (fun i => HK.out.cell i)
  go_wp2_with fail
  refine (pick_any z 10 (by decide) (by decide) hz _).mono ?_
  rintro e w1 ⟨k, rfl, hk, rfl⟩
  obtain ⟨b0, b1, b2, b3, b4, b5, b6, b7, b8, b9⟩ := HALL.out
  match k, hk with
  | 0, _ =>
   have q : w1.cell? ⟨w.heap.size + 1 + 1 + 1 + 1 + 1 + 1 + 1 + 1 + 1 + 1, 0, none⟩ = some (.slice (some ⟨w.heap.size, 0, none⟩) 4 4) := HC.out 0
   go_wp2_with fail
   go_meet
   exact ⟨[⟨#[102, 40, 97, 44, 88, 41]⟩, ⟨#[88]⟩, ⟨#[102, 40, 104, 40, 88, 41, 44, 89, 41]⟩, ⟨#[104, 40, 102, 40, 88, 44, 89, 41, 41]⟩], w.heap.size, by simp [ten], rfl, b0, HB0.out⟩
  | 1, _ =>
   have q : w1.cell? ⟨w.heap.size + 1 + 1 + 1 + 1 + 1 + 1 + 1 + 1 + 1 + 1, 1, none⟩ = some (.slice (some ⟨w.heap.size + 1, 0, none⟩) 6 6) := HC.out 1
   go_wp2_with fail
   go_meet
   exact ⟨[⟨#[102, 40, 88, 44, 97, 41]⟩, ⟨#[88]⟩, ⟨#[102, 40, 88, 44, 104, 40, 89, 41, 41]⟩, ⟨#[104, 40, 102, 40, 88, 44, 89, 41, 41]⟩, ⟨#[102, 40, 97, 44, 88, 41]⟩, ⟨#[88]⟩], w.heap.size + 1, by simp [ten], rfl, b1, HB0.out⟩
  | 2, _ =>
   have q : w1.cell? ⟨w.heap.size + 1 + 1 + 1 + 1 + 1 + 1 + 1 + 1 + 1 + 1, 2, none⟩ = some (.slice (some ⟨w.heap.size + 1 + 1, 0, none⟩) 2 2) := HC.out 2
   go_wp2_with fail
   go_meet
   exact ⟨[⟨#[102, 40, 102, 40, 88, 44, 89, 41, 44, 90, 41]⟩, ⟨#[102, 40, 88, 44, 102, 40, 89, 44, 90, 41, 41]⟩], w.heap.size + 1 + 1, by simp [ten], rfl, b2, HB0.out⟩
  | 3, _ =>
   have q : w1.cell? ⟨w.heap.size + 1 + 1 + 1 + 1 + 1 + 1 + 1 + 1 + 1 + 1, 3, none⟩ = some (.slice (some ⟨w.heap.size + 1 + 1 + 1, 0, none⟩) 6 6) := HC.out 3
   go_wp2_with fail
   go_meet
   exact ⟨[⟨#[107, 40, 107, 40, 88, 41, 41]⟩, ⟨#[88]⟩, ⟨#[107, 40, 97, 41]⟩, ⟨#[97]⟩, ⟨#[107, 40, 102, 40, 88, 44, 89, 41, 41]⟩, ⟨#[102, 40, 107, 40, 89, 41, 44, 107, 40, 88, 41, 41]⟩], w.heap.size + 1 + 1 + 1, by simp [ten], rfl, b3, HB0.out⟩
  | 4, _ =>
   have q : w1.cell? ⟨w.heap.size + 1 + 1 + 1 + 1 + 1 + 1 + 1 + 1 + 1 + 1, 4, none⟩ = some (.slice (some ⟨w.heap.size + 1 + 1 + 1 + 1, 0, none⟩) 2 2) := HC.out 4
   go_wp2_with fail
   go_meet
   exact ⟨[⟨#[102, 40, 88, 44, 88, 41]⟩, ⟨#[88]⟩], w.heap.size + 1 + 1 + 1 + 1, by simp [ten], rfl, b4, HB0.out⟩
  | 5, _ =>
   have q : w1.cell? ⟨w.heap.size + 1 + 1 + 1 + 1 + 1 + 1 + 1 + 1 + 1 + 1, 5, none⟩ = some (.slice (some ⟨w.heap.size + 1 + 1 + 1 + 1 + 1, 0, none⟩) 4 4) := HC.out 5
   go_wp2_with fail
   go_meet
   exact ⟨[⟨#[104, 40, 107, 40, 88, 41, 41]⟩, ⟨#[107, 40, 104, 40, 88, 41, 41]⟩, ⟨#[104, 40, 104, 40, 88, 41, 41]⟩, ⟨#[104, 40, 88, 41]⟩], w.heap.size + 1 + 1 + 1 + 1 + 1, by simp [ten], rfl, b5, HB0.out⟩
  | 6, _ =>
   have q : w1.cell? ⟨w.heap.size + 1 + 1 + 1 + 1 + 1 + 1 + 1 + 1 + 1 + 1, 6, none⟩ = some (.slice (some ⟨w.heap.size + 1 + 1 + 1 + 1 + 1 + 1, 0, none⟩) 4 4) := HC.out 6
   go_wp2_with fail
   go_meet
   exact ⟨[⟨#[102, 40, 97, 44, 98, 41]⟩, ⟨#[99]⟩, ⟨#[97]⟩, ⟨#[98]⟩], w.heap.size + 1 + 1 + 1 + 1 + 1 + 1, by simp [ten], rfl, b6, HB0.out⟩
  | 7, _ =>
   have q : w1.cell? ⟨w.heap.size + 1 + 1 + 1 + 1 + 1 + 1 + 1 + 1 + 1 + 1, 7, none⟩ = some (.slice (some ⟨w.heap.size + 1 + 1 + 1 + 1 + 1 + 1 + 1, 0, none⟩) 2 2) := HC.out 7
   go_wp2_with fail
   go_meet
   exact ⟨[⟨#[103, 40, 88, 44, 89, 41]⟩, ⟨#[102, 40, 89, 44, 88, 41]⟩], w.heap.size + 1 + 1 + 1 + 1 + 1 + 1 + 1, by simp [ten], rfl, b7, HB0.out⟩
  | 8, _ =>
   have q : w1.cell? ⟨w.heap.size + 1 + 1 + 1 + 1 + 1 + 1 + 1 + 1 + 1 + 1, 8, none⟩ = some (.slice (some ⟨w.heap.size + 1 + 1 + 1 + 1 + 1 + 1 + 1 + 1, 0, none⟩) 4 4) := HC.out 8
   go_wp2_with fail
   go_meet
   exact ⟨[⟨#[104, 40, 97, 41]⟩, ⟨#[98]⟩, ⟨#[104, 40, 97, 41]⟩, ⟨#[99]⟩], w.heap.size + 1 + 1 + 1 + 1 + 1 + 1 + 1 + 1, by simp [ten], rfl, b8, HB0.out⟩
  | 9, _ =>
   have q : w1.cell? ⟨w.heap.size + 1 + 1 + 1 + 1 + 1 + 1 + 1 + 1 + 1 + 1, 9, none⟩ = some (.slice (some ⟨w.heap.size + 1 + 1 + 1 + 1 + 1 + 1 + 1 + 1 + 1, 0, none⟩) 2 2) := HC.out 9
   go_wp2_with fail
   go_meet
   exact ⟨[⟨#[102, 40, 88, 44, 103, 40, 89, 44, 90, 41, 41]⟩, ⟨#[103, 40, 102, 40, 88, 44, 89, 41, 44, 102, 40, 88, 44, 90, 41, 41]⟩], w.heap.size + 1 + 1 + 1 + 1 + 1 + 1 + 1 + 1 + 1, by simp [ten], rfl, b9, HB0.out⟩
 obtain ⟨l, B, hl, rfl, hlit⟩ := hcut
 have HLIT := hide hlit
 have HTEN := hide (ten_read l hl)
 have h6 := (ten_read l hl).2.2
 have HL := hide hl
 clear hlit hl HALL HK HB0
 go_wp2_with fail
 go_loopw [5, 6] (fun u v wr => RlInv l wc u v wr) (fun u v wr => l.length - (intOf v).toNat)
 case atStart => exact ⟨0, [], by omega, rfl, by simp [rsOf], rfl, QRow.start _ _ _, Below.refl _ _⟩
 case round =>
  obtain ⟨k, cs, hk, rfl, hcs, hlen, hrow, hb⟩ := hrel
  have HCS := hide hcs
  have HROW := hide hrow
  have HB := hide hb
  have LIT := hide (HLIT.out.later hb)
  clear hcs hrow
  by_cases hlt : 2 * k + 1 < l.length
  ·have HNX := hide (rsOf_next k l hlt)
   have hlt2 : ((2 * k : Nat) : Int) + 1 < (l.length : Int) := by omega
   have hlt1 : ((2 * k : Nat) : Int) < (l.length : Int) := by omega
   have d1 : wr.cell? ⟨B, 2 * k, none⟩ = some (.string (l[2 * k]'(by omega))) := by rw [LIT.out.1.cell]; simp
   have HE1 := hide (HTEN.out.1 (l[2 * k]'(by omega)) (List.getElem_mem _))
   have HE2 := hide (HTEN.out.1 l[2 * k + 1] (List.getElem_mem _))
   have D2 := hide (show ∀ wx, Below wr.heap.size wr wx → wx.cell? ⟨B, 2 * k + 1, none⟩ = some (.string l[2 * k + 1]) from fun wx hx => by rw [(LIT.out.later hx).1.cell]; simp)
   generalize l[2 * k] = s1 at *
   generalize l[2 * k + 1] = s2 at *
   clear hb
   go_wp2_with fail
   refine (readAll_any s1 wr).mono ?_
   rintro e w1 ⟨v1, rfl, hyes, _, hb1⟩
   obtain ⟨a1, c1, rfl, hs1⟩ := hyes HE1.out
   rw [HE1.out]
   clear hyes HE1
   generalize (rdAll s1).t = t1 at *
   have hbA : Below w1.heap.size w1 (w1.alloc (.cells #[.string t1.name, .slice a1 t1.args.length c1] 32)) := (Below.refl _ _).alloc (Nat.le_refl _) _
   have hb2 := hb1.trans (hbA.mono hb1.size)
   have A2 := hide (Blk.new w1 #[.string t1.name, .slice a1 t1.args.length c1] 32)
   have S2 := hide (hs1.later hbA)
   have DD2 := hide hb2
   have HB2 := hide (HB.out.trans (hb2.mono HB.out.size))
   have d2 : (w1.alloc (.cells #[.string t1.name, .slice a1 t1.args.length c1] 32)).cell? ⟨B, 2 * k + 1, none⟩ = some (.string s2) := D2.out _ hb2
   clear hbA hb1 hs1 hb2 d1
   go_wp2_with fail
   clear d2
   generalize w1.alloc (.cells #[.string t1.name, .slice a1 t1.args.length c1] 32) = w2 at *
   generalize w1.heap.size = A at *
   refine (readAll_any s2 w2).mono ?_
   rintro e w3 ⟨v3, rfl, hyes, _, hb3⟩
   obtain ⟨a3, c3, rfl, hs3⟩ := hyes HE2.out
   rw [HE2.out]
   clear hyes HE2
   generalize (rdAll s2).t = t3 at *
   have hbA : Below w3.heap.size w3 (w3.alloc (.cells #[.string t3.name, .slice a3 t3.args.length c3] 32)) := (Below.refl _ _).alloc (Nat.le_refl _) _
   have hb4 := hb3.trans (hbA.mono hb3.size)
   have B4 := hide (Blk.new w3 #[.string t3.name, .slice a3 t3.args.length c3] 32)
   have A4 := hide (A2.out.below hb4 A2.out.lt)
   have S4 := hide (S2.out.later hb4)
   have T4 := hide ((hs3.later hbA).mono (Y := fun b => wr.heap.size ≤ b) fun b hb _ => by have := DD2.out.size; omega)
   have D4 := hide (DD2.out.trans (hb4.mono DD2.out.size))
   have HB4 := hide (HB2.out.trans (hb4.mono HB2.out.size))
   clear hbA hb3 hs3 hb4 A2 S2 DD2 HB2
   have p0 := A4.out.cell 0
   have p1 := A4.out.cell 1
   have q0 := B4.out.cell 0
   have q1 := B4.out.cell 1
   have hlenc : cs.length ≤ 1000000 := by omega
   have hsz3 : (w3.alloc (.cells #[.string t3.name, .slice a3 t3.args.length c3] 32)).heap.size = w3.heap.size + 1 := by simp
   obtain ⟨v5, w5, hrun, hrow5, hg5, _⟩ := pairs_append HROW.out HB.out.size (fun _ h => h.elim) D4.out (⟨t1, t3⟩, (a1, c1), (a3, c3)) ⟨S4.out.mono fun b hb _ => Or.inr hb, T4.out.mono fun b hb _ => Or.inr hb⟩ hlenc (w3.heap.size + 1) hsz3
   have HRUN := hide hrun
   have HROW5 := hide hrow5
   have hltr := HROW.out.own.lt
   have HB5 : Hid (Below wc.heap.size wc w5) := (HB4.out.alloc HB4.out.size _).grown hg5 (by have := HB4.out.size; simp at *; omega) (fun j hj => (hltr j hj).1)
   have HCS5 : Hid ((cs ++ [((⟨t1, t3⟩, (a1, c1), (a3, c3)) : Pc)]).map (fun x => x.1) = rsOf (l.take (2 * (k + 1)))) := by
    unfold Hid
    rw [List.map_append, HCS.out, show 2 * (k + 1) = 2 * k + 2 by omega, HNX.out]
    rfl
   clear hrun hrow5 hg5 hltr
   go_wp2_with (at_builtin; refine wpList_append_eq rfl _ _ _ _ rfl rfl rfl HRUN.out ?_)
   go_roundw
   case rel => exact ⟨k + 1, _, by omega, by simp; omega, HCS5.out, by simp; omega, HROW5.out, HB5.out⟩
   case measure => simp [intOf]; omega
  ·have hev := HTEN.out.2.1
   have htk : Hid (l.take (2 * k) = l) := List.take_of_length_le (by omega)
   have hlt2 : ¬ ((2 * k : Nat) : Int) + 1 < (l.length : Int) := by omega
   clear hev
   go_wp2_with fail
   go_ret
   have hz9 := HLIT.out.2.size
   have h8 := HCS.out
   rw [htk.out] at h8
   exact ⟨l, _, cs, wc.heap.size, rfl, HL.out, hz9, HB.out.size, HROW.out, h8, by omega, HLIT.out.2.trans (HB.out.mono hz9)⟩
end Go.Proofs.YtbnmlkaejdpigaaGreatDoor
