import Derived.Test.YtlkeafenklamjaaGreatDoorW60
import Derived.Laws.EntriesVeiled
namespace Go.Proofs.YtlkeafenklamjaaGreatDoor
set_option linter.all false
set_option maxRecDepth 20000
set_option maxHeartbeats 8000000
open Go.RowKit
theorem W4 (F B r:Nat) (ls:List Bd) (L:List (ByteArray×Value)) (t:Tm) (n:Nat) (a:Option Addr) (c:Nat) (w:World) (X:Nat->Prop) (hn:n<=1000000) (aa:∀b,X b->b≠F) (ae:B≠F) (af:r≠F) (hs:Sl w X a t.args) (hF:Ac w F #[.int .i64 (n:Int),.func (.func 86) #[] #[.pointer (some ⟨B,0,none⟩)]] 120) (hE:EE w B r X ls L):
  Calls Tryz.prog 87 #[.pointer (some ⟨F,0,none⟩),.agg #[.string t.name,.slice a t.args.length c]] w λe w'=>FU w F (.func (.func 86) #[] #[.pointer (some ⟨B,0,none⟩)]) (fT ls t) n e w':=
 O6 F B r ls L t n a c w X hn aa ae af hs hF hE (λw' h1 h2 h3=>VE F B r ls L ae af t n _ w' X ⟨a,c,rfl,h1⟩ aa hn h2 h3)
theorem PS (B r:Nat) (ls:List Bd) (L:List (ByteArray×Value)) (t:Tm) (n:Nat) (a:Option Addr) (c:Nat) (w:World) (X:Nat->Prop) (hn:n<=1000000) (hs:Sl w X a t.args) (hE:EE w B r X ls L):
  Calls Tryz.prog 64 #[.agg #[.string t.name,.slice a t.args.length c],.int .i64 (n:Int),.func (.func 86) #[] #[.pointer (some ⟨B,0,none⟩)]] w λe w'=>Below w.heap.size w w'/\
   ((Ab [fT ls t]<=n/\∃a' c',e=.returned (.tuple #[.agg #[.string (fT ls t).name,.slice a' (fT ls t).args.length c'],.bool true])/\Sl w' (λb=>w.heap.size<=b) a' (fT ls t).args)∨(n<Ab [fT ls t]/\e=.returned (.tuple #[.agg #[.string ⟨#[]⟩,.slice none 0 0],.bool false]))):=by
 have aq:=@hmq Tryz.prog
 have HS:=Aa (hs.mono (Y:=λb=>X b/\b<w.heap.size) λb h1 h2=>⟨h1,h2⟩)
 have HE:Hid (EE w B r (λb=>X b/\b<w.heap.size) ls L):=⟨hE.1,hE.2.1,hE.2.2.imp λa l hs=>hs.mono λb h1 h2=>⟨h1,h2⟩⟩
 have hBl:B<w.heap.size:=hE.1.lt
 have ar:r<w.heap.size:=hE.2.1.lt
 clear hs hE
 go_enter Tryz.func64,Tryz.ntmps64
 go_wp2_with fail
 have aa:Hid (Below w.heap.size w (((w.alloc (.cells #[.string t.name,.slice a t.args.length c] 29)).alloc (.cells #[.string ⟨#[]⟩,.slice none 0 0] 29)).alloc (.cells #[.int .i64 (n:Int),.func (.func 86) #[] #[.pointer (some ⟨B,0,none⟩)]] 120))):=((((Af w.heap.size w).alloc (Aj _) _).alloc (by simp) _).alloc (by simp; omega) _)
 have F3:Hid (Ac (((w.alloc (.cells #[.string t.name,.slice a t.args.length c] 29)).alloc (.cells #[.string ⟨#[]⟩,.slice none 0 0] 29)).alloc (.cells #[.int .i64 (n:Int),.func (.func 86) #[] #[.pointer (some ⟨B,0,none⟩)]] 120)) (w.heap.size+1+1) #[.int .i64 (n:Int),.func (.func 86) #[] #[.pointer (some ⟨B,0,none⟩)]] 120):=by
  have h:=Ac.new ((w.alloc (.cells #[.string t.name,.slice a t.args.length c] 29)).alloc (.cells #[.string ⟨#[]⟩,.slice none 0 0] 29)) #[.int .i64 (n:Int),.func (.func 86) #[] #[.pointer (some ⟨B,0,none⟩)]] 120
  unfold Hid
  simpa using h
 have R3:Hid (Ac (((w.alloc (.cells #[.string t.name,.slice a t.args.length c] 29)).alloc (.cells #[.string ⟨#[]⟩,.slice none 0 0] 29)).alloc (.cells #[.int .i64 (n:Int),.func (.func 86) #[] #[.pointer (some ⟨B,0,none⟩)]] 120)) (w.heap.size+1) #[.string ⟨#[]⟩,.slice none 0 0] 29):=by
  have h:=(Ac.new (w.alloc (.cells #[.string t.name,.slice a t.args.length c] 29)) #[.string ⟨#[]⟩,.slice none 0 0] 29).alloc (.cells #[.int .i64 (n:Int),.func (.func 86) #[] #[.pointer (some ⟨B,0,none⟩)]] 120)
  unfold Hid
  simpa using h
 have z3:(((w.alloc (.cells #[.string t.name,.slice a t.args.length c] 29)).alloc (.cells #[.string ⟨#[]⟩,.slice none 0 0] 29)).alloc (.cells #[.int .i64 (n:Int),.func (.func 86) #[] #[.pointer (some ⟨B,0,none⟩)]] 120)).heap.size=w.heap.size+3:=by simp
 generalize (((w.alloc (.cells #[.string t.name,.slice a t.args.length c] 29)).alloc (.cells #[.string ⟨#[]⟩,.slice none 0 0] 29)).alloc (.cells #[.int .i64 (n:Int),.func (.func 86) #[] #[.pointer (some ⟨B,0,none⟩)]] 120))=w3 at *
 refine(W4 (w.heap.size+1+1) B r ls L t n a c w3 (λb=>X b/\b<w.heap.size) hn (λb hb=>by have:=hb.2; omega) (by omega) (by omega) (HS.out.later aa.out) F3.out (HE.out.later aa.out)).mono ?_
 rintro e w9 ⟨s',a',l',c',m,rfl,ag,ae,hy,hno⟩
 have ah:=Aa ag
 have af:=Aa ae
 have R9:=Aa (R3.out.ex ae (by omega))
 have au:=ae.size
 clear ag ae
 have r0:=R9.out.c0
 have r1:=R9.out.c1
 have rf:=R9.out.frozen
 have ai:w.heap.size+1<w9.heap.size:=R9.out.lt
 have aj:Hid (Below w.heap.size w w9):=⟨af.out.os.trans aa.out.os,af.out.tape.trans aa.out.tape,af.out.output.trans aa.out.output,by omega,λk hk=>(af.out.block k (by omega) (by omega)).trans (aa.out.block k hk)⟩
 by_cases hle:Ab [fT ls t]<=n
 ·obtain⟨rfl,rfl,rfl,ak⟩:=hy hle
  have ao:=Aa ak
  clear hy hno ak
  have f0:∀o,(w9.alloc o).cell? ⟨w.heap.size+1+1,0,none⟩=some (.int .i64 ((n:Int)-Ab [fT ls t])):=λo=>(ah.out.alloc o).cell 0
  have hlt:¬((n:Int)-Ab [fT ls t])<0:=by omega
  go_wp2_with fail
  refine Ap (v:=.tuple #[.agg #[.string (fT ls t).name,.slice a' (fT ls t).args.length c'],.bool true]) (by simp[results,Tryz.results64,go_sem,AU,AG,r0,r1,ai,Gc]) rfl ?_
  refine⟨((aj.out.setCell (by simp) _).setCell (by simp) _).alloc (by simp[World.setCell]; omega) _,Ad ⟨hle,a',c',rfl,((ao.out.kept λb hb=>?_).later ((Af _ _).alloc (Aj _) _)).mono λb hb _=>by omega⟩⟩
  rw[Aq _ _ _ _ (by simp; omega),Aq _ _ _ _ (by simp; omega)]
 ·obtain rfl:=hno (by omega)
  clear hy hno
  have f0:∀o,(w9.alloc o).cell? ⟨w.heap.size+1+1,0,none⟩=some (.int .i64 (-1)):=λo=>(ah.out.alloc o).cell 0
  go_wp2_with fail
  refine Ap (v:=.tuple #[.agg #[.string ⟨#[]⟩,.slice none 0 0],.bool false]) (by simp[results,Tryz.results64,go_sem,AU,AG,r0,r1,ai,Gc]) rfl ?_
  exact⟨((aj.out.setCell (by simp) _).setCell (by simp) _).alloc (by simp[World.setCell]; omega) _,Ae ⟨by omega,rfl⟩⟩
end Go.Proofs.YtlkeafenklamjaaGreatDoor
