import Derived.Test.YthaililgaompeaaGreatDoorZCTopNewmanOwn
import Derived.Deep.RegionHeld3
namespace Go.Proofs.YthaililgaompeaaGreatDoor
set_option linter.all false
set_option maxRecDepth 20000
set_option maxHeartbeats 8000000
open Go.RowKit
variable {w wr:World} {b c i n o:Nat} {s s1:ByteArray} {a:Option Addr} {v1:Value}
def Gb (w:World) (b o:Nat) (s:ByteArray) (a:Option Addr) (n c:Nat) (s1:ByteArray) (v1:Value) (w':World):Prop:=
 Ac w' w.heap.size #[.string s,.slice a n c] 31/\w'.cell? (zD b o)=some (.string s1)/\w'.cell? ⟨b,o+1,none⟩=some v1
theorem Iz {w':World} {v:Value} (hb:w'.heap[b]? = w.heap[b]?) (h:w.cell? (zD b i)=some v):w'.cell? (zD b i)=some v:=by simpa [World.cell?,hb] using h
theorem Gb.below {w1:World} (h:Gb w b o s a n c s1 v1 wr) (hb:Below wr.heap.size wr w1) (d:w.heap.size<wr.heap.size/\b<wr.heap.size):Gb w b o s a n c s1 v1 w1:=
 ⟨h.1.below hb d.1,Iz (hb.block b d.2) h.2.1,Iz (hb.block b d.2) h.2.2⟩
theorem Gb.alloc (h:Gb w b o s a n c s1 v1 wr) (x:Obj):Gb w b o s a n c s1 v1 (wr.alloc x):=
 ⟨h.1.alloc x,Iz (Ay _ _ _ (DR h.2.1)) h.2.1,Iz (Ay _ _ _ (DR h.2.1)) h.2.2⟩
theorem Gb.grown {w3:World} {row:Option Nat} (h:Gb w b o s a n c s1 v1 wr) (d:wr.grownBy w3 row) (e:∀j,j<=w.heap.size->some j≠row) (hb:b<w.heap.size) (_:True):Gb w b o s a n c s1 v1 w3:=
 ⟨h.1.grown d (e _ (Al _)),Iz (d.block b (DR h.2.1) (e b (by omega))) h.2.1,Iz (d.block b (DR h.2.1) (e b (by omega))) h.2.2⟩
theorem Gb.set {O:Nat} (h:Gb w b o s a n c s1 v1 wr) (v:Value) (_:True) (d:w.heap.size≠O) (hb:b≠O):Gb w b o s a n c s1 v1 (wr.setCell (zD O i) v):=
 ⟨h.1.setOther _ _ d,Iz (An _ _ _ _ (by simpa using hb)) h.2.1,Iz (An _ _ _ _ (by simpa using hb)) h.2.2⟩
theorem Lj {X:Nat->Prop} {l:List Tm} (h:Sl w X (some (zD b o)) l) (a:0<l.length):b<w.heap.size:=by
 obtain⟨_,h⟩:=h;rcases h with rfl|⟨b',o',e,h⟩
 ·simp at a
 ·simp at e;obtain⟨rfl,rfl⟩:=e;exact DR (Ip l b o h 0 a).2.1
