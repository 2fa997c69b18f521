import Derived.Test.YtacmmcnnhfmepaaGreatDoorZBLongMadeOwn
import Derived.Laws.IdiomStrings
import Derived.Deep.RegionHeld
import Derived.Lib.Builder
import Derived.Lib.AppendStr
import Derived.Deep.AppendSrc
import Derived.Test.YtacmmcnnhfmepaaGreatDoorShelf
import Derived.Deep.RegionHeld3
import Derived.Deep.DeepCutAuto
import Derived.Laws.OwnMore
import Derived.Lib.AppendIntMem
import Derived.Ground.SlgnProg
import Derived.Shelf.SlicesE.Clone
namespace Go.Proofs.YtacmmcnnhfmepaaGreatDoor
set_option linter.all false
set_option maxRecDepth 9999
set_option maxHeartbeats 0
open Go.RowKit Go.Proofs.Tryz
variable {w w' w1 w2 w3 wr:World} {A B N P T b base c cap g i m n o:Nat} {E E' Q R X Y Z:Nat->Prop} {q u v v1:Value} {a:Option Addr} {cs:Array Value} {l:List Tm} {d e f:Int} {xs:List Value} {p t:Lm}
theorem Tryz.infoBind:(prog.info? 93).map (λi=>(i.zero,i.size,i.bytes))=some (some (.agg #[.string ByteArray.empty,.string ByteArray.empty,zB]),3,56):=by kernel_rfl
theorem Ms (w:World) (c0 c1 c2:Value) (T:Nat):∀j u,[c0,c1,c2][j]? = some u->(w.alloc (zp #[c0,c1,c2] T)).cell? (((zD w.heap.size 0):Addr).add j)=some u:=
 World.news_of_block (cs:=#[c0,c1,c2]) (IA w _)
theorem Oa {cs:List Bc} (h:Cs w N Y v cs) (c:N<=w.heap.size) (d:∀b,Y b->b<N) (hb:Below w.heap.size w w1) (x:Bc) (ht:Sl w1 (λb=>Y b∨w.heap.size<=b) x.2.1 x.1.t.args) (hn:cs.length<=1000000) (A:Nat) (e:w1.heap.size=A):
  ∃v2 w3,(Builtin.append_ #[63,63] 63 #[v,.slice (some (zD A 0)) 1 1]).run prog (w1.alloc (zp #[.string x.1.nm,.string x.1.t.name,.slice x.2.1 x.1.t.args.length x.2.2] 93))=.ok v2 w3/\Cs w3 N Y v2 (cs++[x])/\
   (w1.alloc (zp #[.string x.1.nm,.string x.1.t.name,.slice x.2.1 x.1.t.args.length x.2.2] 93)).grownBy w3 v.ownBlock:=by
 subst e;obtain⟨i0,hi,f,i,j⟩:=Dw Tryz.infoBind;have hs:=hb.size;obtain⟨g,cap,w3,k,ho,a,l,hlt⟩:=run_append_lies (P:=prog) (w:=w1.alloc (zp #[.string x.1.nm,.string x.1.t.name,.slice x.2.1 x.1.t.args.length x.2.2] 93)) 63 63 N 93 i0 _ 3 56 underlying63 hi f i j rfl (by decide) v cs.length (DE cs) ((h.below hb).own.alloc _)
  (zD w1.heap.size 0) 1 1 (D5 x) rfl (Ms _ _ _ _ _) (λy hy=>by simp[D5] at hy; rcases hy with rfl|rfl|rfl<;>rfl) (by decide) (by unfold maxLen; omega) (by omega) (by simp; omega) _ rfl
 exact⟨_,w3,k,h.push c d hb ht _ rfl ho a l,a⟩
abbrev Pc:=Pr×(Option Addr×Nat)×(Option Addr×Nat)
instance:Inhabited Pc:=⟨(⟨⟨⟨#[]⟩,[]⟩,⟨⟨#[]⟩,[]⟩⟩,(none,0),(none,0))⟩
def Eb (x:Pc):List Value:=[.string x.1.l.name,.slice x.2.1.1 x.1.l.args.length x.2.1.2,.string x.1.r.name,.slice x.2.2.1 x.1.r.args.length x.2.2.2]
def Dg:List Pc->List Value
 | []=>[]
 |x::r=>Eb x++Dg r
theorem Mu (b:List Pc):∀a,Dg (a++b)=Dg a++Dg b
 | []=>rfl
 |x::r=>by rw[Dj,Dg,Dg,Mu b r,Jh]
theorem RB:∀a:List Pc,(Dg a).length=a.length*4
 | []=>rfl
 |x::r=>by rw[Dg,Ej,RB r]; simp[Eb]; omega
theorem Jt:∀(a:List Pc) (i:Nat) (h:i<a.length) (j:Nat),j<4->(Dg a)[i*4+j]? = (Eb a[i])[j]?
 | [],i,h,j,b=>by simp at h
 |x::r,0,h,j,b=>by
  rw[Dg,Nq (by simp[Eb]; omega)]; simp
 |x::r,i+1,h,j,b=>by
  rw[Dg,Po (by simp[Eb]; omega)];have e:(i+1)*4+j-(Eb x).length=i*4+j:=by simp[Eb]; omega
  rw[e,Jt r i (by simpa using h) j b];simp
structure Ez (w:World) (N:Nat) (Y:Nat->Prop) (v:Value) (cs:List Pc):Prop where
 own:w.ownsRow N 89 4 v cs.length (Dg cs)
 row:∀x∈cs,Sl w (λb=>Y b∨(N<=b/\some b≠v.ownBlock)) x.2.1.1 x.1.l.args/\Sl w (λb=>Y b∨(N<=b/\some b≠v.ownBlock)) x.2.2.1 x.1.r.args
theorem Ez.start (w:World) (N:Nat) (Y:Nat->Prop):Ez w N Y zB []:=⟨H5 w N _ 4,by simp⟩
theorem Ez.below {cs:List Pc} (h:Ez w N Y v cs) (hb:Below w.heap.size w w'):Ez w' N Y v cs:=
 ⟨h.own.kept (w' := w') (row := none) ⟨hb.os, hb.tape, hb.output, hb.size, λj a _ => hb.block j a⟩ (by rcases Je (Value.ownBlock v) with h | ⟨x, h⟩; exact Ad h; exact Ae (by rw [h]; simp)),
  λx hx=>⟨(h.row x hx).1.later hb,(h.row x hx).2.later hb⟩⟩
theorem Ez.ne {cs:List Pc} (h:Ez w N Y v cs) (hb:b<N):some b≠v.ownBlock:=λe=>by
 have:=(h.own.lt b e.symm).1; omega
theorem Ez.push {cs:List Pc} (h:Ez w N Y v cs) (hN:N<=w.heap.size) (i:∀b,Y b->b<N) (hb:Below w.heap.size w w1) {x:Pc}
  (ht:Sl w1 (λb=>Y b∨w.heap.size<=b) x.2.1.1 x.1.l.args/\Sl w1 (λb=>Y b∨w.heap.size<=b) x.2.2.1 x.1.r.args) (o:Obj) (m:w2=w1.alloc o) 
  (n:w3.ownsRow N 89 4 (.slice (some (zD g 0)) (cs.length+1) cap) (cs.length+1) (Dg cs++Eb x)) (j:w2.grownBy w3 v.ownBlock) (c:v.ownBlock=some g∨g=w2.heap.size):
  Ez w3 N Y (.slice (some (zD g 0)) (cs.length+1) cap) (cs++[x]):=by
 subst m;have d:=h.own.lt;have af:w1.heap.size<=(w1.alloc o).heap.size:=by simp
 have ag:=hb.size;have ah:N<=g:=by
  rcases c with e|e
  ·exact(d g e).1
  ·simp at e; omega
 have k:∀(a:Option Addr) (l:List Tm),Sl w (λb=>Y b∨(N<=b/\some b≠v.ownBlock)) a l->Sl w3 (λb=>Y b∨(N<=b/\some b≠(Value.slice (some (zD g 0)) (cs.length+1) cap).ownBlock)) a l:=λa l h0=>by
  have h1:Sl w (λb=>(Y b∨(N<=b/\some b≠v.ownBlock))/\b<w.heap.size) a l:=h0.mono λb h1 h2=>⟨h1,h2⟩;have h2:Sl w3 (λb=>(Y b∨(N<=b/\some b≠v.ownBlock))/\b<w.heap.size) a l:=h1.kept λb hx=>by
   have f:some b≠v.ownBlock:=by
    rcases hx.1 with hy|hy
    ·exact h.ne (i b hy)
    ·exact hy.2
   rw[j.block b (by simp; omega) f,BL _ _ _ (by omega),hb.block b hx.2]
  refine h2.mono λb hx _=>?_;rcases hx.1 with hy|hy
  ·exact Ad hy
  ·refine Ae ⟨hy.1,λe=>?_⟩;simp[Value.ownBlock]at e;rcases c with e'|e'
   ·exact hy.2 (by rw[e',e])
   ·simp at e'; omega
 have new:∀(a:Option Addr) (l:List Tm),Sl w1 (λb=>Y b∨w.heap.size<=b) a l->Sl w3 (λb=>Y b∨(N<=b/\some b≠(Value.slice (some (zD g 0)) (cs.length+1) cap).ownBlock)) a l:=λa l h0=>by
  have h1:Sl w1 (λb=>(Y b∨w.heap.size<=b)/\b<w1.heap.size) a l:=h0.mono λb h1 h2=>⟨h1,h2⟩;have h2:Sl w3 (λb=>(Y b∨w.heap.size<=b)/\b<w1.heap.size) a l:=h1.kept λb hx=>by
   have f:some b≠v.ownBlock:=by
    rcases hx.1 with hy|hy
    ·exact h.ne (i b hy)
    ·intro e; have:=(d b e.symm).2; omega
   rw[j.block b (by simp; omega) f,BL _ _ _ hx.2]
  refine h2.mono λb hx _=>?_;rcases hx.1 with hy|hy
  ·exact Ad hy
  ·refine Ae ⟨by omega,λe=>?_⟩;simp[Value.ownBlock]at e;rcases c with e'|e'
   ·have:=(d g e').2; omega
   ·simp at e'; omega
 refine⟨by rw[Mu]; simpa [Dg] using n,λy hy=>?_⟩;rcases BN.1 hy with hy|hy
 ·exact⟨k _ _ (h.row y hy).1,k _ _ (h.row y hy).2⟩
 ·have e:y=x:=by simpa using hy
  subst e;exact⟨new _ _ ht.1,new _ _ ht.2⟩
theorem Ez.qv {cs:List Pc} (h:Ez w N Y v cs):QV w (λb=>Y b∨N<=b) v (cs.map (·.1)):=by
 have d:cs.length<=9223372036854775807:=by
  rcases h.own.2 with ⟨_,h0⟩|⟨g,cap,cur,_,_,_,h1,h2,_⟩
  ·omega
  ·unfold maxLen at h2; omega
 by_cases h0:0<cs.length
 ·obtain⟨g,cap,rfl,f,hlt,hc⟩:=Fd h.own h0;have j:cs.length<=cap:=by
   rcases h.own.2 with ⟨e,_⟩|⟨g',ae,cur,e,_,_,h1,_⟩
   ·cases e
   ·simp at e; omega
  refine⟨_,cap,by simp,⟨by simpa using d,by simpa using j⟩,Ae ⟨g,0,rfl,Ae f,λi hi=>?_⟩⟩;have a:i<cs.length:=by simpa using hi
  have g0:=hc (i*4+0) (.string cs[i].1.l.name) (by rw[Jt cs i a 0 (by decide)]; rfl);have g1:=hc (i*4+1) (.slice cs[i].2.1.1 cs[i].1.l.args.length cs[i].2.1.2) (by rw[Jt cs i a 1 (by decide)]; rfl);have g2:=hc (i*4+2) (.string cs[i].1.r.name) (by rw[Jt cs i a 2 (by decide)]; rfl);have g3:=hc (i*4+3) (.slice cs[i].2.2.1 cs[i].1.r.args.length cs[i].2.2.2) (by rw[Jt cs i a 3 (by decide)]; rfl);simp only[List.getElem_map,Ia];obtain⟨k,m⟩:=h.row cs[i] (Bv a);exact⟨_,_,_,_,g0,g1,g2,g3,k.mono λb hb _=>hb.imp id (λh=>h.1),m.mono λb hb _=>hb.imp id (λh=>h.1)⟩
 ·have e:cs=[]:=GV.1 (by omega);subst e;rcases h.own.2 with ⟨c,_⟩|⟨g,cap,cur,c,_⟩
  ·exact⟨none,0,c,by simp,Ad rfl⟩
  ·exact⟨_,_,c,by simp,Ad rfl⟩
theorem Tryz.infoPair:(prog.info? 89).map (λi=>(i.zero,i.size,i.bytes))=some (some (.agg #[.string ByteArray.empty,zB,.string ByteArray.empty,zB]),4,80):=by kernel_rfl
theorem RC (w:World) (c0 c1 c2 c3:Value) (T:Nat):∀j u,[c0,c1,c2,c3][j]? = some u->(w.alloc (zp #[c0,c1,c2,c3] T)).cell? (((zD w.heap.size 0):Addr).add j)=some u:=
 World.news_of_block (cs:=#[c0,c1,c2,c3]) (IA w _)
structure Al (Q:Nat->Prop) (w w':World):Prop where
 os:w'.os=w.os
 tape:w'.tape=w.tape
 output:w'.output=w.output
 size:w.heap.size<=w'.heap.size
 block:∀k,k<w.heap.size->¬Q k->w'.heap[k]? = w.heap[k]?
theorem Al.refl (Q:Nat->Prop) (w:World):Al Q w w:=⟨rfl,rfl,rfl,Af _,λ_ _ _=>rfl⟩
theorem Al.trans {a b c:World} (h:Al Q a b) (k:Al Q b c):Al Q a c:=
 ⟨k.os.trans h.os,k.tape.trans h.tape,k.output.trans h.output,AJ h.size k.size,λi hi d=>(k.block i (Ce hi h.size) d).trans (h.block i hi d)⟩
theorem Al.transN {a b c:World} (h:Al Q a b) (k:Al R b c) (e:∀i,R i->i<a.heap.size->Q i):Al Q a c:=
 ⟨k.os.trans h.os,k.tape.trans h.tape,k.output.trans h.output,AJ h.size k.size,λi hi d=>(k.block i (Ce hi h.size) (λf=>d (e i f hi))).trans (h.block i hi d)⟩
theorem Al.mono {a b:World} (h:Al Q a b) (c:∀i,Q i->i<a.heap.size->R i):Al R a b:=⟨h.os,h.tape,h.output,h.size,λi hi d=>h.block i hi (λhq=>d (c i hq hi))⟩
theorem Al.drewN {a:World} (h:Al Q a w) (n:Nat):Al Q a (w.drewN n):=⟨h.os,h.tape,h.output,h.size,h.block⟩
theorem Al.drew {a:World} (h:Al Q a w):Al Q a w.drew:=⟨h.os,h.tape,h.output,h.size,h.block⟩
theorem Al.set {a:World} (h:Al Q a w) (c:Q B) (i:Nat) (v:Value):Al Q a (w.setCell (zD B i) v):=
 ⟨h.os,h.tape,h.output,by simpa [World.setCell] using h.size,λk hk b=>(Ak _ _ _ _ (by simp; intro e; subst e; exact b c)).trans (h.block k hk b)⟩
theorem Al.alloc {a:World} (h:Al Q a w) (o:Obj):Al Q a (w.alloc o):=
 ⟨h.os,h.tape,h.output,by have:=h.size; simp; omega,λk hk b=>(BL _ _ _ (Ce hk h.size)).trans (h.block k hk b)⟩
theorem Al.grown {a:World} {row:Option Nat} (h:Al Q a w) (b:w.grownBy w' row) (d:∀k,row=some k->a.heap.size<=k∨Q k):Al Q a w':=
 ⟨b.os.trans h.os,b.tape.trans h.tape,b.output.trans h.output,AJ h.size b.size,λk hk c=>(b.block k (Ce hk h.size) (λe=>by rcases d k e.symm with h1|h1; omega; exact c h1)).trans (h.block k hk c)⟩
theorem Al.setNew {a:World} (h:Al Q a w) (hb:a.heap.size<=b) (i:Nat) (v:Value):Al Q a (w.setCell (zD b i) v):=
 ⟨h.os,h.tape,h.output,by simpa [World.setCell] using h.size,λk hk c=>(Ak _ _ _ _ (by simp; omega)).trans (h.block k hk c)⟩
theorem Al.ofBelow (h:Below w.heap.size w w'):Al Q w w':=⟨h.os,h.tape,h.output,h.size,λk hk _=>h.block k hk⟩
theorem Al.ofEx (h:Ex B w w') (a:Q B):Al Q w w':=⟨h.os,h.tape,h.output,h.size,λk hk b=>h.block k hk (λe=>b (by rw[e]; exact a))⟩
theorem Al.below (h:Al Q w w') (hB:B<=w.heap.size) (a:∀b,Q b->B<=b):Below B w w':=
 ⟨h.os,h.tape,h.output,h.size,λk hk=>h.block k (by omega) (λhq=>by have:=a k hq; omega)⟩
theorem Ab.exq (h:Ab w b cs T) (he:Al Q w w') (a:¬Q b):Ab w' b cs T:=by
 unfold Ab at *;rw[he.block b (Ab.lt h) a]; exact h
theorem Sl.exq (h:Sl w X a l) (he:Al Q w w') (c:∀b,X b->¬Q b):Sl w' X a l:=
 ((h.mono (Y:=λb=>X b/\b<w.heap.size) λb h1 h2=>⟨h1,h2⟩).kept λb hb=>he.block b hb.2 (c b hb.1)).mono λb hb _=>hb.1
theorem Al.mid (h:Al Q w w1):∃a,Below a.heap.size a w1/\a.heap.size=w.heap.size/\Al Q w a:=by
 have hs:=h.size;have hz:(w1.heap.extract 0 w.heap.size).size=w.heap.size:=by simp; omega
 refine⟨{ w1 with heap:=w1.heap.extract 0 w.heap.size},⟨rfl,rfl,rfl,by simp; omega,λk hk=>?_⟩,hz,⟨h.os,h.tape,h.output,by simp[hz],λk hk b=>?_⟩⟩
 ·have c:k<w.heap.size:=by simp at hk; omega
  simp[Array.getElem?_extract,c];omega
 ·rw[<-h.block k hk b];simp[Array.getElem?_extract,hk];omega
theorem Dr {e size:Nat} (h:w.ownsRow base e size v n xs) (hk:∀g,v.ownBlock=some g->w'.heap[g]? = w.heap[g]?):w'.ownsRow base e size v n xs:=by
 obtain⟨b,h1⟩:=h;refine⟨b,?_⟩;rcases h1 with h1|⟨g,cap,cur,a,c,d,f⟩
 ·exact Ad h1
 ·refine Ae ⟨g,cap,cur,a,c,?_,f⟩;rw[hk g (by rw[a]; rfl)];exact d
theorem Cp.exq (h:Cp w N T Y v l xs) (he:Al Q w w') (c:∀b,Q b->b<N) (e:∀b,Q b->¬Y b):Cp w' N T Y v l xs:=
 ⟨Dr h.own λg d => he.block g (h.own.lt g d).2 (λhq => by have := c g hq; have := (h.own.lt g d).1; omega),
  h.row.imp λa l f=>f.exq he λb hb hq=>by
   rcases hb with h1|h1
   ·exact e b hq h1
   ·have:=c b hq; omega⟩
theorem Cs.exq {cs:List Bc} (h:Cs w N Y v cs) (he:Al Q w w') (a:∀b,Q b->b<N) (d:∀b,Q b->¬Y b):Cs w' N Y v cs:=
 ⟨Dr h.own λg c => he.block g (h.own.lt g c).2 (λhq => by have := a g hq; have := (h.own.lt g c).1; omega),
  λx hx=>(h.row x hx).exq he λb hb hq=>by
   rcases hb with h1|h1
   ·exact d b hq h1
   ·have:=a b hq; omega⟩
theorem RD (h:n<10):Lib.decDigits n=[UInt8.ofNat (48+n)]:=by rw[Lib.decDigits,dif_pos h]
theorem X3 (h:¬n<10):Lib.decDigits n=Lib.decDigits (n / 10)++Lib.decDigits (n % 10):=by
 conv=>lhs; rw[Lib.decDigits,dif_neg h]
 rw[RD (n:=n % 10) (by omega)]
theorem RE {a b:ByteArray} (h:a.data.toList=b.data.toList):Ending.returned (.string a)=.returned (.string b):=by
 have:a=b:=by
  obtain⟨⟨x⟩⟩:=a; obtain⟨⟨y⟩⟩:=b; simp at h; rw[h]
 rw[this]
theorem X4 (n:Nat):n<=1000000->∀(w:World),Calls prog 64 #[zA n] w λe w'=>e=.returned (.string ⟨(Lib.decDigits n).toArray⟩)/\Below w.heap.size w w':=by
 induction n using Nat.strongRecOn with
 |ind n d=>
  intro hn w;by_cases h:n<10
  ·have a:=Aa (RD h);generalize Lib.decDigits n=D at a ⊢;have h':(n:Int)<10:=(by omega);have b:48+(n:Int)=((UInt8.ofNat (48+n)).toNat:Int):=by
    have:(UInt8.ofNat (48+n)).toNat=48+n:=by simp; omega
    rw[this]; omega
   have ag:(convert 123 9 (.slice (some (zD w.heap.size 0)) 1 1)).run prog (w.alloc (zp #[.int .u8 (48+(n:Int))] 5))=.ok (.string ⟨([UInt8.ofNat (48+n)]).toArray⟩) (w.alloc (zp #[.int .u8 (48+(n:Int))] 5)):=
    run_convert_bytes_back _ 123 9 5 (zD w.heap.size 0) 1 [UInt8.ofNat (48+n)] underlying123 underlying5 underlying9 (λj f=>by
     have k:j=0:=by simp at f; exact f
     subst k;have:=(Ab.new w #[.int .u8 (48+(n:Int))] 5).cell 0;rw[b]at this;rw[b];exact this)
   clear b;go_in;go_wp2_with fail;go_ret;exact⟨RE (by rw[a.o]; simp[UInt8.ofNat_add]),(Ac _ _).alloc (Af _) _⟩
  ·have g:=Aa d;have a:=Aa (X3 h);clear d;have h':¬(n:Int)<10:=(by omega);have e1:(n:Int) / 10=((n / 10:Nat):Int):=(by omega);have e2:(n:Int) % 10=((n % 10:Nat):Int):=(by omega);have l:=Aa e1;have m:=Aa e2;clear e1 e2;generalize Lib.decDigits n=D at a ⊢;go_in;go_wp2_with fail;rw[l.o];refine(g.o (n / 10) (by omega) (by omega) _).mono ?_;rintro e w1 ⟨rfl,c⟩;go_wp2_with fail;rw[m.o];refine(g.o (n % 10) (by omega) (by omega) _).mono ?_;rintro e w2 ⟨rfl,i⟩;have q:Hid (Below w.heap.size w w2):=c.trans (i.mono c.size);clear c i;have l1:(Lib.decDigits (n / 10)).length<=1000001:=by have:=LU (n / 10); omega
   have l2:(Lib.decDigits (n % 10)).length<=1000001:=by have:=LU (n % 10); omega
   go_wp2_with fail;go_ret;exact⟨RE (by rw[a.o]; simp),q.o⟩
def Ju (w w':World) (b:Nat) (v v':Value):Prop:=
 w'.os=w.os/\w'.tape=w.tape/\w'.output=w.output/\w.heap.size<=w'.heap.size/\(∀k,k<w.heap.size->k≠b->some k≠v.ownBlock->w'.heap[k]? = w.heap[k]?)/\(∀k,v'.ownBlock=some k->v.ownBlock=some k∨w.heap.size<=k)
theorem Ju.refl (w:World) (b:Nat) (v:Value):Ju w w b v v:=⟨rfl,rfl,rfl,Af _,λ_ _ _ _=>rfl,λ_ h=>Ad h⟩
theorem Ju.trans {v2:Value} (h:Ju w w1 b v v1) (h1:Ju w1 w2 b v1 v2):Ju w w2 b v v2:=by
 obtain⟨d,a2,a3,a4,a5,a⟩:=h;obtain⟨c1,c2,c3,f,c5,g⟩:=h1;refine⟨c1.trans d,c2.trans a2,c3.trans a3,AJ a4 f,λk hk hb c=>?_,λk hk=>?_⟩
 ·refine(c5 k (Ce hk a4) hb (λe=>?_)).trans (a5 k hk hb c);rcases a k e.symm with h|h
  ·exact c h.symm
  ·omega
 ·rcases g k hk with h|h
  ·exact a k h
  ·exact Ae (AJ a4 h)
def CZ (w:World) (X:Nat->Prop):List Lm->List Value->Prop
 | [],xs=>xs=[]
 |t::l,xs=>∃a c r,xs=zA t.kind::zA t.idx::.slice a t.subs.length c::r/\Ap w X a t.subs/\CZ w X l r
theorem CZ.len:∀ {l:List Lm} {xs:List Value},CZ w X l xs->xs.length=l.length*3
 | [],xs,h=>by simp[CZ] at h; simp[h]
 |t::l,xs,h=>by
  obtain⟨a,c,r,rfl,_,h⟩:=h;simp only[Cl];rw[CZ.len h]; omega
theorem CZ.append:∀ {l k:List Lm} {xs b:List Value},CZ w X l xs->CZ w X k b->CZ w X (l++k) (xs++b)
 | [],k,xs,b,h,h'=>by simp[CZ] at h; subst h; simpa using h'
 |t::l,k,xs,b,h,h'=>by
  obtain⟨a,c,r,rfl,d,h⟩:=h;exact⟨a,c,r++b,rfl,d,CZ.append h h'⟩
theorem CZ.imp (b:∀a l,Ap w X a l->Ap w' Y a l):∀ {l:List Lm} {xs:List Value},CZ w X l xs->CZ w' Y l xs
 | [],xs,h=>h
 |t::l,xs,h=>by
  obtain⟨a,c,r,e,h1,h⟩:=h;exact⟨a,c,r,e,b _ _ h1,CZ.imp b h⟩
theorem RG (b:Nat) (hb:Y b):∀(l:List Lm) (xs:List Value) (o:Nat),CZ w X l xs->(∀a k,Ap w X a k->Ap w' Y a k)->(∀j u,xs[j]? = some u->w'.cell? ⟨b,o+j,none⟩=some u)->Dc w' Y b o l:=by
 intro l;induction l with
 |nil=>intro xs o _ _ _; simp[Dc]
 |cons t r e=>intro xs o h d hc;obtain⟨s,x,k⟩:=t;obtain⟨a,c,f,rfl,h1,h2⟩:=h;simp only[Dc];obtain⟨h3,g⟩:=d _ _ h1;refine⟨hb,hc 0 _ rfl,hc 1 _ rfl,⟨a,c,hc 2 _ rfl,h3,g⟩,e f (o+3) h2 d λj u i=>?_⟩;have:=hc (j+3) u (by simpa using i);rwa [show o+(j+3)=o+3+j by omega] at this
structure Cg (w:World) (N:Nat) (T:Nat) (Y:Nat->Prop) (v:Value) (l:List Lm) (xs:List Value):Prop where
 own:w.ownsRow N T 3 v l.length xs
 row:CZ w (λb=>Y b∨(N<=b/\some b≠v.ownBlock)) l xs
theorem Cg.start (w:World) (N T:Nat) (Y:Nat->Prop):Cg w N T Y zB [] []:=⟨H5 w N T 3,rfl⟩
theorem Cg.below {l:List Lm} (h:Cg w N T Y v l xs) (hb:Below w.heap.size w w'):Cg w' N T Y v l xs:=
 ⟨h.own.kept (w' := w') (row := none) ⟨hb.os, hb.tape, hb.output, hb.size, λj b _ => hb.block j b⟩ (by rcases Je (Value.ownBlock v) with h | ⟨x, h⟩; exact Ad h; exact Ae (by rw [h]; simp)),
  h.row.imp λa l h=>h.later hb⟩
theorem Cg.ne {l:List Lm} (h:Cg w N T Y v l xs) (hb:b<N):some b≠v.ownBlock:=λe=>by
 have:=(h.own.lt b e.symm).1; omega
theorem Cg.push {l:List Lm} (h:Cg w N T Y v l xs) (hN:N<=w.heap.size) (k:∀b,Y b->b<N) (hb:Below w.heap.size w w1) {s s2:Int} 
  (ht:MV w1 (λb=>Y b∨w.heap.size<=b) (.agg #[zA s,zA s2,.slice a n c]) t) (o:Obj) (u:w2=w1.alloc o) 
  (x:w3.ownsRow N T 3 (.slice (some (zD g 0)) (l.length+1) cap) (l.length+1) (xs++[zA s,zA s2,.slice a n c])) (m:w2.grownBy w3 v.ownBlock) (d:v.ownBlock=some g∨g=w2.heap.size):
  Cg w3 N T Y (.slice (some (zD g 0)) (l.length+1) cap) (l++[t]) (xs++[zA s,zA s2,.slice a n c]):=by
 subst u;have f:=h.own.lt;refine⟨by simpa using x,?_⟩;have ae:w1.heap.size<=(w1.alloc o).heap.size:=by simp
 have af:=hb.size;have ag:N<=g:=by
  rcases d with e|e
  ·exact(f g e).1
  ·simp at e; omega
 refine CZ.append (h.row.imp λq r i=>?_) ?_
 ·have h1:Ap w (λb=>(Y b∨(N<=b/\some b≠v.ownBlock))/\b<w.heap.size) q r:=i.mono λb h1 h2=>⟨h1,h2⟩;have h2:Ap w3 (λb=>(Y b∨(N<=b/\some b≠v.ownBlock))/\b<w.heap.size) q r:=h1.kept λb hx=>by
   have j:some b≠v.ownBlock:=by
    rcases hx.1 with hy|hy
    ·exact h.ne (k b hy)
    ·exact hy.2
   rw[m.block b (by simp; omega) j,BL _ _ _ (by omega),hb.block b hx.2]
  refine h2.mono λb hx _=>?_;rcases hx.1 with hy|hy
  ·exact Ad hy
  ·refine Ae ⟨hy.1,λe=>?_⟩;simp[Value.ownBlock]at e;rcases d with e'|e'
   ·exact hy.2 (by rw[e',e])
   ·simp at e'; omega
 ·obtain⟨a2,c2,e,i⟩:=ht;simp at e;obtain⟨rfl,rfl,rfl,rfl,rfl⟩:=e;refine⟨a,c,[],rfl,?_,rfl⟩;have h1:Ap w1 (λb=>(Y b∨w.heap.size<=b)/\b<w1.heap.size) a t.subs:=i.mono λb h1 h2=>⟨h1,h2⟩;have h2:Ap w3 (λb=>(Y b∨w.heap.size<=b)/\b<w1.heap.size) a t.subs:=h1.kept λb hx=>by
   have j:some b≠v.ownBlock:=by
    rcases hx.1 with hy|hy
    ·exact h.ne (k b hy)
    ·intro e; have:=(f b e.symm).2; omega
   rw[m.block b (by simp; omega) j,BL _ _ _ hx.2]
  refine h2.mono λb hx _=>?_;rcases hx.1 with hy|hy
  ·exact Ad hy
  ·refine Ae ⟨by omega,λe=>?_⟩;simp[Value.ownBlock]at e;rcases d with e'|e'
   ·have:=(f g e').2; omega
   ·simp at e'; omega
theorem Cg.setCell {l:List Lm} (h:Cg w N T Y v l xs) (hb:b<N) (d:¬Y b) (u:Value):Cg (w.setCell (zD b i) u) N T Y v l xs:=
 ⟨ownsRow_setCell_below h.own (by simpa using hb) u, h.row.imp λa k f => f.kept λc hc => Ak _ _ _ _ (by
  simp;rcases hc with hc|hc
  ·intro e; subst e; exact d hc
  ·omega)⟩
theorem Cg.sl {l:List Lm} (h:Cg w N T Y v l xs):∃a c,v=.slice a l.length c/\Ap w (λb=>Y b∨N<=b) a l:=by
 have d:l.length<=9223372036854775807:=by
  rcases h.own.2 with ⟨_,h0⟩|⟨g,cap,cur,_,_,_,h1,h2,_⟩
  ·omega
  ·unfold maxLen at h2; omega
 by_cases h0:0<l.length
 ·obtain⟨g,cap,rfl,i,hlt,hc⟩:=Fd h.own h0;exact⟨_,_,rfl,d,Ae ⟨g,0,rfl,RG g (Ae i) l xs 0 h.row (λa k m=>m.mono λb hb _=>hb.imp id (λh=>h.1)) (λj u n=>by simpa using hc j u n)⟩⟩
 ·have e:l=[]:=GV.1 (by omega);subst e;rcases h.own.2 with ⟨f,_⟩|⟨g,cap,cur,f,_⟩
  ·exact⟨none,0,f,d,Ad rfl⟩
  ·exact⟨_,_,f,d,Ad rfl⟩
theorem X6 (m:Int) (t:Lm):∀(v:Value) (u:Int) (w:World) (X:Nat->Prop),MV w X v t->0<=u->u+Ai [t]<=1000000->
  Calls prog 23 #[v,zA u,zA m] w λe w'=>e=.returned (zA (Au u m [t]))/\Below w.heap.size w w':=by
 induction t using Lm.ind with
 |h r d l N=>
  intro v u w X W ax Y;obtain⟨a,c,rfl,M⟩:=W;have O:=Aa N;clear N;have ay:=M.1;have hz:Ai [(⟨r,d,l⟩:Lm)]=1+Ai l:=by simp[Ai]
  rw[hz]at Y;clear hz;have n:Hid (Below w.heap.size w (w.alloc (zp #[zA r,zA d,.slice a l.length c] 24))):=(Ac _ _).alloc (Af _) _;have I:=Aa (Ab.new w #[zA r,zA d,.slice a l.length c] 24);by_cases P:r=1;case pos=>
   subst P;by_cases j:l.length=0;case neg=>
    have f:Hid (AG u m 1 d l.length=2):=Aa (by unfold AG Bk BF;simp[j]);have g:Hid (Au u m [(⟨1,d,l⟩:Lm)]=2):=Aa (by rw[D8 (by rw[f.o]; decide),f.o]);have C:¬(l.length:Int)=0:=(by omega);have D:((l.length:Int) !=0)=true:=(by simpa using C);go_in;go_wp2_with fail;go_ret;exact⟨AM g.o.symm,n.o⟩
   case pos=>
    have i:=Aa j;have D:((l.length:Int) !=0)=false:=(by simp[j]);clear j;by_cases hi:d<0;case pos=>
     have f:Hid (AG u m 1 d l.length=15):=Aa (by unfold AG Bk BF;simp[i.o,hi]);have g:Hid (Au u m [(⟨1,d,l⟩:Lm)]=15):=Aa (by rw[D8 (by rw[f.o]; decide),f.o]);go_in;go_wp2_with fail;go_ret;exact⟨AM g.o.symm,n.o⟩
    case neg=>
     by_cases x:(u:Int)<=d;case pos=>
      have f:Hid (AG u m 1 d l.length=15):=Aa (by unfold AG Bk BF;simp[i.o,hi,x]);have g:Hid (Au u m [(⟨1,d,l⟩:Lm)]=15):=Aa (by rw[D8 (by rw[f.o]; decide),f.o]);go_in;go_wp2_with fail;go_ret;exact⟨AM g.o.symm,n.o⟩
     case neg=>
      have f:Hid (AG u m 1 d l.length=0):=Aa (by unfold AG Bk BF;simp[i.o,hi,x]);have g:=Aa (He f.o);have A:Hid (AR u 1=u):=Aa (by unfold AR;first|rfl|simp);go_in;go_wp2_with fail;go_loopw [10] (λo wr=>IK (u) m l w o wr/\Ab wr w.heap.size #[zA 1,zA d,.slice a l.length c] 24) (λo wr=>l.length-(intOf o).toNat);case atStart=>exact⟨⟨0,Bp _,rfl,by simp[Au],n.o⟩,I.o⟩
      case round=>
       obtain⟨⟨k,hk,rfl,he,hb⟩,hT⟩:=hrel;have y:=Aa he;have B:=Aa hb;have F:=Aa hT;clear he;have H:w.heap.size<=wr.heap.size:=hb.size;have t0:=hT.c0;have t1:=hT.c1;have t2:=hT.c2;by_cases s:k<l.length
       ·exact absurd s (by have:=i.o; omega)
       ·have E:l.take k=l:=Bz (by omega);have L:¬((k:Int)<0):=by have:=i.o; omega
        have q:Hid (0=Au u m [(⟨1,d,l⟩:Lm)]):=Aa (by rw[g.o,A.o,<-E,y.o]);go_wp2_with fail;go_ret;exact⟨AM q.o,B.o⟩
  case neg=>
   by_cases R:r=2;case pos=>
    subst R;by_cases j:l.length=1;case neg=>
     have f:Hid (AG u m 2 d l.length=2):=Aa (by unfold AG Bk BF;simp[j]);have g:Hid (Au u m [(⟨2,d,l⟩:Lm)]=2):=Aa (by rw[D8 (by rw[f.o]; decide),f.o]);have C:¬(l.length:Int)=1:=(by omega);have D:((l.length:Int) !=1)=true:=(by simpa using C);go_in;go_wp2_with fail;go_ret;exact⟨AM g.o.symm,n.o⟩
    case pos=>
     have i:=Aa j;have D:((l.length:Int) !=1)=false:=(by simp[j]);clear j;by_cases hi:d<0;case pos=>
      have f:Hid (AG u m 2 d l.length=15):=Aa (by unfold AG Bk BF;simp[i.o,hi]);have g:Hid (Au u m [(⟨2,d,l⟩:Lm)]=15):=Aa (by rw[D8 (by rw[f.o]; decide),f.o]);go_in;go_wp2_with fail;go_ret;exact⟨AM g.o.symm,n.o⟩
     case neg=>
      by_cases x:(1:Int)<=d;case pos=>
       have f:Hid (AG u m 2 d l.length=15):=Aa (by unfold AG Bk BF;simp[i.o,hi,x]);have g:Hid (Au u m [(⟨2,d,l⟩:Lm)]=15):=Aa (by rw[D8 (by rw[f.o]; decide),f.o]);go_in;go_wp2_with fail;go_ret;exact⟨AM g.o.symm,n.o⟩
      case neg=>
       have f:Hid (AG u m 2 d l.length=0):=Aa (by unfold AG Bk BF;simp[i.o,hi,x]);have g:=Aa (He f.o);have A:Hid (AR u 2=u+1):=Aa (by unfold AR;first|rfl|simp);go_in;go_wp2_with fail;go_loopw [10] (λo wr=>IK (u+1) m l w o wr/\Ab wr w.heap.size #[zA 2,zA d,.slice a l.length c] 24) (λo wr=>l.length-(intOf o).toNat);case atStart=>exact⟨⟨0,Bp _,rfl,by simp[Au],n.o⟩,I.o⟩
       case round=>
        obtain⟨⟨k,hk,rfl,he,hb⟩,hT⟩:=hrel;have y:=Aa he;have B:=Aa hb;have F:=Aa hT;clear he;have H:w.heap.size<=wr.heap.size:=hb.size;have t0:=hT.c0;have t1:=hT.c1;have t2:=hT.c2;by_cases s:k<l.length
        ·obtain⟨b,o,Z,c',rfl,d0,av,d1,hx⟩:=M.get hb (λ_ _ h=>h) k s;have HT:=Aa (LR (u+1) m l k s);have aq:(k:Int)<1:=by have:=i.o; omega
         have aw:1+Ai [l[k]]<=1+Ai l:=(by have h1:=Df l k s;have h2:=DJ l (k+1);omega);clear hb hT;go_wp2_with fail;refine(O.o _ (Bv s) _ _ _ X hx (by omega) (by omega)).mono ?_;rintro e w2 ⟨rfl,G⟩;have J:Hid (Below w.heap.size w w2):=B.o.trans (G.mono H);have ar:=Aa (F.o.below G F.o.lt);clear G;by_cases z:Au (u+1) m [l[k]]=0
         ·have q:=Aa z;rw[z];clear z;go_wp2_with fail;go_roundw
          case rel=>exact⟨⟨k+1,by omega,by go_num,by rw[HT.o,y.o,q.o]; rfl,J.o⟩,ar.o⟩
          case measure=>simp[intOf]; omega
         ·have h1:(Au (u+1) m [l[k]]==0)=false:=(by simpa using z);have h2:(Au (u+1) m [l[k]] !=0)=true:=(by simpa using z);have q:Hid (Au (u+1) m [l[k]]=Au u m [(⟨2,d,l⟩:Lm)]):=by
           have h1:Au (u+1) m (l.take (k+1))=Au (u+1) m [l[k]]:=by rw[HT.o,y.o]; rfl
           unfold Hid;rw[g.o,A.o,LT (l:=l) (k:=k+1) (by rw[h1]; exact z),h1]
          go_wp2_with fail;go_ret;exact⟨AM q.o,J.o⟩
        ·have E:l.take k=l:=Bz (by omega);have L:¬((k:Int)<1):=by have:=i.o; omega
         have q:Hid (0=Au u m [(⟨2,d,l⟩:Lm)]):=Aa (by rw[g.o,A.o,<-E,y.o]);go_wp2_with fail;go_ret;exact⟨AM q.o,B.o⟩
   case neg=>
    by_cases T:r=3;case pos=>
     subst T;by_cases j:l.length=2;case neg=>
      have f:Hid (AG u m 3 d l.length=2):=Aa (by unfold AG Bk BF;simp[j]);have g:Hid (Au u m [(⟨3,d,l⟩:Lm)]=2):=Aa (by rw[D8 (by rw[f.o]; decide),f.o]);have C:¬(l.length:Int)=2:=(by omega);have D:((l.length:Int) !=2)=true:=(by simpa using C);go_in;go_wp2_with fail;go_ret;exact⟨AM g.o.symm,n.o⟩
     case pos=>
      have i:=Aa j;have D:((l.length:Int) !=2)=false:=(by simp[j]);clear j;by_cases hi:d<0;case pos=>
       have f:Hid (AG u m 3 d l.length=15):=Aa (by unfold AG Bk BF;simp[i.o,hi]);have g:Hid (Au u m [(⟨3,d,l⟩:Lm)]=15):=Aa (by rw[D8 (by rw[f.o]; decide),f.o]);go_in;go_wp2_with fail;go_ret;exact⟨AM g.o.symm,n.o⟩
      case neg=>
       by_cases x:(1:Int)<=d;case pos=>
        have f:Hid (AG u m 3 d l.length=15):=Aa (by unfold AG Bk BF;simp[i.o,hi,x]);have g:Hid (Au u m [(⟨3,d,l⟩:Lm)]=15):=Aa (by rw[D8 (by rw[f.o]; decide),f.o]);go_in;go_wp2_with fail;go_ret;exact⟨AM g.o.symm,n.o⟩
       case neg=>
        have f:Hid (AG u m 3 d l.length=0):=Aa (by unfold AG Bk BF;simp[i.o,hi,x]);have g:=Aa (He f.o);have A:Hid (AR u 3=u):=Aa (by unfold AR;first|rfl|simp);go_in;go_wp2_with fail;go_loopw [10] (λo wr=>IK (u) m l w o wr/\Ab wr w.heap.size #[zA 3,zA d,.slice a l.length c] 24) (λo wr=>l.length-(intOf o).toNat);case atStart=>exact⟨⟨0,Bp _,rfl,by simp[Au],n.o⟩,I.o⟩
        case round=>
         obtain⟨⟨k,hk,rfl,he,hb⟩,hT⟩:=hrel;have y:=Aa he;have B:=Aa hb;have F:=Aa hT;clear he;have H:w.heap.size<=wr.heap.size:=hb.size;have t0:=hT.c0;have t1:=hT.c1;have t2:=hT.c2;by_cases s:k<l.length
         ·obtain⟨b,o,Z,c',rfl,d0,av,d1,hx⟩:=M.get hb (λ_ _ h=>h) k s;have HT:=Aa (LR (u) m l k s);have aq:(k:Int)<2:=by have:=i.o; omega
          have aw:1+Ai [l[k]]<=1+Ai l:=(by have h1:=Df l k s;have h2:=DJ l (k+1);omega);clear hb hT;go_wp2_with fail;refine(O.o _ (Bv s) _ _ _ X hx (by omega) (by omega)).mono ?_;rintro e w2 ⟨rfl,G⟩;have J:Hid (Below w.heap.size w w2):=B.o.trans (G.mono H);have ar:=Aa (F.o.below G F.o.lt);clear G;by_cases z:Au (u) m [l[k]]=0
          ·have q:=Aa z;rw[z];clear z;go_wp2_with fail;go_roundw
           case rel=>exact⟨⟨k+1,by omega,by go_num,by rw[HT.o,y.o,q.o]; rfl,J.o⟩,ar.o⟩
           case measure=>simp[intOf]; omega
          ·have h1:(Au (u) m [l[k]]==0)=false:=(by simpa using z);have h2:(Au (u) m [l[k]] !=0)=true:=(by simpa using z);have q:Hid (Au (u) m [l[k]]=Au u m [(⟨3,d,l⟩:Lm)]):=by
            have h1:Au (u) m (l.take (k+1))=Au (u) m [l[k]]:=by rw[HT.o,y.o]; rfl
            unfold Hid;rw[g.o,A.o,LT (l:=l) (k:=k+1) (by rw[h1]; exact z),h1]
           go_wp2_with fail;go_ret;exact⟨AM q.o,J.o⟩
         ·have E:l.take k=l:=Bz (by omega);have L:¬((k:Int)<2):=by have:=i.o; omega
          have q:Hid (0=Au u m [(⟨3,d,l⟩:Lm)]):=Aa (by rw[g.o,A.o,<-E,y.o]);go_wp2_with fail;go_ret;exact⟨AM q.o,B.o⟩
    case neg=>
     by_cases U:r=4;case pos=>
      subst U;by_cases j:l.length=0;case neg=>
       have f:Hid (AG u m 4 d l.length=2):=Aa (by unfold AG Bk BF;simp[j]);have g:Hid (Au u m [(⟨4,d,l⟩:Lm)]=2):=Aa (by rw[D8 (by rw[f.o]; decide),f.o]);have C:¬(l.length:Int)=0:=(by omega);have D:((l.length:Int) !=0)=true:=(by simpa using C);go_in;go_wp2_with fail;go_ret;exact⟨AM g.o.symm,n.o⟩
      case pos=>
       have i:=Aa j;have D:((l.length:Int) !=0)=false:=(by simp[j]);clear j;by_cases hi:d<0;case pos=>
        have f:Hid (AG u m 4 d l.length=15):=Aa (by unfold AG Bk BF;simp[i.o,hi]);have g:Hid (Au u m [(⟨4,d,l⟩:Lm)]=15):=Aa (by rw[D8 (by rw[f.o]; decide),f.o]);go_in;go_wp2_with fail;go_ret;exact⟨AM g.o.symm,n.o⟩
       case neg=>
        by_cases x:(40:Int)<=d;case pos=>
         have f:Hid (AG u m 4 d l.length=15):=Aa (by unfold AG Bk BF;simp[i.o,hi,x]);have g:Hid (Au u m [(⟨4,d,l⟩:Lm)]=15):=Aa (by rw[D8 (by rw[f.o]; decide),f.o]);go_in;go_wp2_with fail;go_ret;exact⟨AM g.o.symm,n.o⟩
        case neg=>
         have f:Hid (AG u m 4 d l.length=0):=Aa (by unfold AG Bk BF;simp[i.o,hi,x]);have g:=Aa (He f.o);have A:Hid (AR u 4=u):=Aa (by unfold AR;first|rfl|simp);go_in;go_wp2_with fail;go_loopw [10] (λo wr=>IK (u) m l w o wr/\Ab wr w.heap.size #[zA 4,zA d,.slice a l.length c] 24) (λo wr=>l.length-(intOf o).toNat);case atStart=>exact⟨⟨0,Bp _,rfl,by simp[Au],n.o⟩,I.o⟩
         case round=>
          obtain⟨⟨k,hk,rfl,he,hb⟩,hT⟩:=hrel;have y:=Aa he;have B:=Aa hb;have F:=Aa hT;clear he;have H:w.heap.size<=wr.heap.size:=hb.size;have t0:=hT.c0;have t1:=hT.c1;have t2:=hT.c2;by_cases s:k<l.length
          ·exact absurd s (by have:=i.o; omega)
          ·have E:l.take k=l:=Bz (by omega);have L:¬((k:Int)<0):=by have:=i.o; omega
           have q:Hid (0=Au u m [(⟨4,d,l⟩:Lm)]):=Aa (by rw[g.o,A.o,<-E,y.o]);go_wp2_with fail;go_ret;exact⟨AM q.o,B.o⟩
     case neg=>
      by_cases V:r=5;case pos=>
       subst V;by_cases j:l.length=0;case neg=>
        have f:Hid (AG u m 5 d l.length=2):=Aa (by unfold AG Bk BF;simp[j]);have g:Hid (Au u m [(⟨5,d,l⟩:Lm)]=2):=Aa (by rw[D8 (by rw[f.o]; decide),f.o]);have C:¬(l.length:Int)=0:=(by omega);have D:((l.length:Int) !=0)=true:=(by simpa using C);go_in;go_wp2_with fail;go_ret;exact⟨AM g.o.symm,n.o⟩
       case pos=>
        have i:=Aa j;have D:((l.length:Int) !=0)=false:=(by simp[j]);clear j;by_cases hi:d<0;case pos=>
         have f:Hid (AG u m 5 d l.length=15):=Aa (by unfold AG Bk BF;simp[i.o,hi]);have g:Hid (Au u m [(⟨5,d,l⟩:Lm)]=15):=Aa (by rw[D8 (by rw[f.o]; decide),f.o]);go_in;go_wp2_with fail;go_ret;exact⟨AM g.o.symm,n.o⟩
        case neg=>
         by_cases x:(m:Int)<=d;case pos=>
          have f:Hid (AG u m 5 d l.length=15):=Aa (by unfold AG Bk BF;simp[i.o,hi,x]);have g:Hid (Au u m [(⟨5,d,l⟩:Lm)]=15):=Aa (by rw[D8 (by rw[f.o]; decide),f.o]);go_in;go_wp2_with fail;go_ret;exact⟨AM g.o.symm,n.o⟩
         case neg=>
          have f:Hid (AG u m 5 d l.length=0):=Aa (by unfold AG Bk BF;simp[i.o,hi,x]);have g:=Aa (He f.o);have A:Hid (AR u 5=u):=Aa (by unfold AR;first|rfl|simp);go_in;go_wp2_with fail;go_loopw [10] (λo wr=>IK (u) m l w o wr/\Ab wr w.heap.size #[zA 5,zA d,.slice a l.length c] 24) (λo wr=>l.length-(intOf o).toNat);case atStart=>exact⟨⟨0,Bp _,rfl,by simp[Au],n.o⟩,I.o⟩
          case round=>
           obtain⟨⟨k,hk,rfl,he,hb⟩,hT⟩:=hrel;have y:=Aa he;have B:=Aa hb;have F:=Aa hT;clear he;have H:w.heap.size<=wr.heap.size:=hb.size;have t0:=hT.c0;have t1:=hT.c1;have t2:=hT.c2;by_cases s:k<l.length
           ·exact absurd s (by have:=i.o; omega)
           ·have E:l.take k=l:=Bz (by omega);have L:¬((k:Int)<0):=by have:=i.o; omega
            have q:Hid (0=Au u m [(⟨5,d,l⟩:Lm)]):=Aa (by rw[g.o,A.o,<-E,y.o]);go_wp2_with fail;go_ret;exact⟨AM q.o,B.o⟩
      case neg=>have f:Hid (AG u m r d l.length=2):=Aa (by unfold AG;rw[Aq (by omega)]);have g:Hid (Au u m [(⟨r,d,l⟩:Lm)]=2):=Aa (by rw[D8 (by rw[f.o]; decide),f.o]);have e1:(r==1)=false:=(by simpa using P);have e2:(r==2)=false:=(by simpa using R);have e3:(r==3)=false:=(by simpa using T);have e4:(r==4)=false:=(by simpa using U);have e5:(r==5)=false:=(by simpa using V);go_in;go_wp2_with fail;go_ret;exact⟨AM g.o.symm,n.o⟩
theorem X7 (t:Lm) (v:Value) (u m:Int) (w:World) (X:Nat->Prop) (d:MV w X v t):
  Calls prog 8 #[v,zA u,zA m] w λe w'=>e=.returned (zA (BO u m t))/\Below w.heap.size w w':=by
 obtain⟨a,c,rfl,k⟩:=d;have d:MV w X (.agg (zE t a c)) t:=⟨a,c,rfl,k⟩;have f:Hid (Below w.heap.size w (w.alloc (zm t a c))):=(Ac _ _).alloc (Af _) _;have h:=Ab.new w (zE t a c) 24;go_in;by_cases h1:u<0
 ·have b:Hid (BO u m t=10):=Aa (by unfold BO;rw[Aq (Ad h1)]);go_wp2_with fail;go_ret;exact⟨AM b.o.symm,f.o⟩
 by_cases h2:40<u
 ·have b:Hid (BO u m t=10):=Aa (by unfold BO;rw[Aq (Ae h2)]);go_wp2_with fail;go_ret;exact⟨AM b.o.symm,f.o⟩
 go_wp2_with fail;refine(Jk t _ _ _ X (d.alloc _) (by omega) (by omega)).mono ?_;rintro e w1 ⟨rfl,i⟩;have g:=Aa (f.o.trans (i.mono (by simp)));have j:=Aa (h.below i h.lt);have t0:=j.o.c0;have t1:=j.o.c1;have t2:=j.o.c2;clear i h f;by_cases h3:200<Ai [t]
 ·have b:Hid (BO u m t=3):=Aa (by unfold BO;rw[Am (by omega),Aq h3]);have e:min (Ai [t]:Int) (200+1)=201:=by omega
  rw[e];go_wp2_with fail;go_ret;exact⟨AM b.o.symm,g.o⟩
 ·have b:Hid (BO u m t=Au u m [t]):=Aa (by unfold BO;rw[Am (by omega),Am h3]);have e:min (Ai [t]:Int) (200+1)=Ai [t]:=by omega
  rw[e];have hle:¬(200:Int)<(Ai [t]:Int):=by omega
  go_wp2_with fail;refine(X6 m t _ u _ X (d.later g.o) (by omega) (by omega)).mono ?_;rintro e w2 ⟨rfl,l⟩;go_wp2_with fail;go_ret;exact⟨AM b.o.symm,g.o.trans (l.mono g.o.size)⟩
theorem Tryz.infoLam:(prog.info? 24).map (λi=>(i.zero,i.size,i.bytes))=some (some (.agg zJ),3,40):=by kernel_rfl
theorem Hi (h:w.cell? (zD b i)=some v):b<w.heap.size:=by
 apply Er;intro hn;have e:w.heap[b]? = none:=Iz (by omega);simp[World.cell?,e]at h
theorem Kz (hb:w'.heap[b]? = w.heap[b]?) (h:w.cell? (zD b i)=some v):w'.cell? (zD b i)=some v:=by simpa [World.cell?,hb] using h
theorem Fw (w:World) (a b c:Value) (T:Nat):∀j u,([a,b,c]:List Value)[j]? = some u->(w.alloc (zp #[a,b,c] T)).cell? (((zD w.heap.size 0):Addr).add j)=some u:=λj u h=>by
 have hb:=Ab.new w #[a,b,c] T;have h1:((zD w.heap.size 0):Addr).add j=(zD w.heap.size j):=by
  by_cases h0:j=0
  ·subst h0; simp[Addr.add]
  ·simp[Addr.add,h0]
 rw[h1,hb.cell j];simpa using h
def C0 (B b o:Nat) (kd ix:Int) (a:Option Addr) (n c:Nat) (k1 x1:Int) (v1:Value) (w':World):Prop:=
 Ab w' B #[zA kd,zA ix,.slice a n c] 24/\w'.cell? (zD b o)=some (zA k1)/\w'.cell? ⟨b,o+1,none⟩=some (zA x1)/\w'.cell? ⟨b,o+2,none⟩=some v1
theorem C0.kept {g:Int} (h:C0 B b o d e a n c f g v1 wr) (h1:w1.heap[B]? = wr.heap[B]?) (h2:w1.heap[b]? = wr.heap[b]?):C0 B b o d e a n c f g v1 w1:=
 ⟨h1.trans h.1,Kz h2 h.2.1,Kz h2 h.2.2.1,Kz h2 h.2.2.2⟩
theorem C0.below {g:Int} (h:C0 B b o d e a n c f g v1 wr) (hb:Below wr.heap.size wr w1):C0 B b o d e a n c f g v1 w1:=
 h.kept (hb.block _ h.1.lt) (hb.block _ (Hi h.2.1))
def Fi (w:World) (Y:Nat->Prop) (O:Nat) (kd ix:Int) (a:Option Addr) (n c:Nat) (u:Value) (L:List Lm) (wr:World):Prop:=
 ∃xs,Cg wr (O+1) 24 Y u L xs/\Below w.heap.size w wr/\Ab wr w.heap.size #[zA kd,zA ix,.slice a n c] 24/\Ab wr (w.heap.size+1) zJ 24/\Ab wr O #[zA kd,zA ix,u] 24/\O<wr.heap.size
theorem FQ {O:Nat} {L:List Lm} {i:Option Addr} {c1:Nat} {m q:Int} (hO:w.heap.size+2<=O) (z:∀b,Y b->b<w.heap.size) (al:b<w.heap.size) (D:Fi w Y O d f a n c u L wr) (E:C0 w.heap.size b o d f a n c m q v1 wr) (hn:L.length<=1000000)
  (hb:Below wr.heap.size wr w1) (F:Ap w1 (λb=>Y b∨wr.heap.size<=b) i t.subs):
  ∃g cap w3,(Builtin.append_ #[22,22] 22 #[u,.slice (some (zD w1.heap.size 0)) 1 1]).run prog (w1.alloc (zm t i c1))=.ok (.slice (some (zD g 0)) (L.length+1) cap) w3/\
   C0 w.heap.size b o d f a n c m q v1 w1/\C0 w.heap.size b o d f a n c m q v1 (w1.alloc (zm t i c1))/\C0 w.heap.size b o d f a n c m q v1 w3/\w3.cell? (zD O 2)=some u/\w3.frozen? (zD O 2)=false/\
   C0 w.heap.size b o d f a n c m q v1 (w3.setCell (zD O 2) (.slice (some (zD g 0)) (L.length+1) cap))/\Fi w Y O d f a n c (.slice (some (zD g 0)) (L.length+1) cap) (L++[t]) (w3.setCell (zD O 2) (.slice (some (zD g 0)) (L.length+1) cap)):=by
 obtain⟨xs,v,hx,hT,G,H,an⟩:=D;obtain⟨i0,hi,I,J,M⟩:=Dw Tryz.infoLam;have A:=v.own.lt;have ao:=hb.size;have aq:=hx.size;obtain⟨g,cap,w3,N,ho,l,R,ar⟩:=run_append_lies (P:=prog) (w:=w1.alloc (zm t i c1)) 22 22 (O+1) 24 i0 _ 3 40 underlying22 hi I J M rfl (by decide) u L.length xs ((v.below hb).own.alloc _)
  (zD w1.heap.size 0) 1 1 [zA t.kind,zA t.idx,.slice i t.subs.length c1] rfl (Fw _ _ _ _ _) (λy hy=>by simp at hy; rcases hy with rfl|rfl|rfl<;>rfl) (by decide) (by unfold maxLen; omega) (by omega) (by simp; omega) _ rfl
 have hp:=v.push (w1:=w1) (w3:=w3) (t:=t) (by omega) (λb h=>by have:=z b h; omega) hb ⟨i,c1,rfl,F⟩ _ rfl ho l R;have r:∀j,j<O+1->some j≠u.ownBlock:=λj hj e=>by have:=(A j e.symm).1; omega
 have T:=l.size;simp at T;have U:Below w.heap.size w w3:=((hx.trans (hb.mono (by omega))).alloc (by omega) _).grown l (by simp; omega) (λk hk=>by have:=(A k hk).1; omega);have B:=E.below hb;have s:=B.below ((Ac w1.heap.size w1).alloc (Af _) (zm t i c1));have C:C0 w.heap.size b o d f a n c m q v1 w3:=s.kept (l.block _ s.1.lt (r _ (by omega))) (l.block _ (Hi s.2.1) (r _ (by omega)));have x:=((H.below hb (by omega)).alloc (zm t i c1)).grown l (r _ (by omega));refine⟨g,cap,w3,N,B,s,C,x.cell 2,x.frozen 2,C.kept (Ak _ _ _ _ (by simp; omega)) (Ak _ _ _ _ (by simp; omega)),_,hp.setCell (by omega) (λh=>by have:=z _ h; omega) _,U.setCell (p:=(zD O 2)) (by simp; omega) _,?_,?_,?_,by simp[World.setCell]; omega⟩
 ·exact(((hT.below hb (by omega)).alloc _).grown l (r _ (by omega))).setOther _ _ (by omega)
 ·exact(((G.below hb (by omega)).alloc _).grown l (r _ (by omega))).setOther _ _ (by omega)
 ·exact x.set 2 _
def CM (y:Int):Int->List Lm->List Lm
 |_,[]=>[]
 |d,⟨k,x,l⟩::r=>(if k=1 then (if x<d then ⟨k,x,l⟩ else ⟨1,x+y,[]⟩) else ⟨k,x,CM y (AR d k) l⟩)::CM y d r
def AZ (y d:Int) (t:Lm):Lm:=if t.kind=1 then (if t.idx<d then t else ⟨1,t.idx+y,[]⟩) else ⟨t.kind,t.idx,CM y (AR d t.kind) t.subs⟩
theorem Eo (y:Int):∀(d:Int) (l:List Lm),CM y d l=l.map (AZ y d)
 |_,[]=>by simp[CM]
 |d,⟨k,x,l⟩::r=>by rw[CM,Eo y d r]; rfl
theorem RI (y d:Int) (l:List Lm) (k:Nat) (h:k<l.length):CM y d (l.take (k+1))=CM y d (l.take k)++[AZ y d l[k]]:=by
 rw[Eo,Eo,CI h,Db];rfl
def Dl (z:Lm):Int->List Lm->List Lm
 |_,[]=>[]
 |d,⟨k,x,l⟩::r=>(if k=1 then (if x<d then ⟨k,x,l⟩ else if x=d then AZ d 0 z else ⟨1,x-1,[]⟩) else ⟨k,x,Dl z (AR d k) l⟩)::Dl z d r
def AY (z:Lm) (d:Int) (t:Lm):Lm:=if t.kind=1 then (if t.idx<d then t else if t.idx=d then AZ d 0 z else ⟨1,t.idx-1,[]⟩) else ⟨t.kind,t.idx,Dl z (AR d t.kind) t.subs⟩
theorem EN (z:Lm):∀(d:Int) (l:List Lm),Dl z d l=l.map (AY z d)
 |_,[]=>by simp[Dl]
 |d,⟨k,x,l⟩::r=>by rw[Dl,EN z d r]; rfl
theorem RJ (z:Lm) (d:Int) (l:List Lm) (k:Nat) (h:k<l.length):Dl z d (l.take (k+1))=Dl z d (l.take k)++[AY z d l[k]]:=by
 rw[EN,EN,CI h,Db];rfl
def Cz:List Lm->Prop
 | []=>True
 | ⟨_,x,l⟩::r=>(0<=x/\x<=100000)/\Cz l/\Cz r
theorem RK:Cz []:=by simp[Cz]
theorem Im (k x:Int) (l r:List Lm):Cz (⟨k,x,l⟩::r)↔(0<=x/\x<=100000)/\Cz l/\Cz r:=by simp[Cz]
theorem Cz.at:∀ {l:List Lm} (k:Nat) (h:k<l.length),Cz l->Cz [l[k]]
 | [],k,h,_=>by simp at h
 | ⟨s,x,l⟩::r,0,h,hb=>by
  rw[Im]at hb;exact(Im s x l []).2 ⟨hb.1,hb.2.1,RK⟩
 | ⟨s,x,l⟩::r,k+1,h,hb=>by
  rw[Im]at hb;have:=Cz.at (l:=r) k (by simpa using h) hb.2.2;simpa using this
theorem Jv:∀(l:List Lm) (u m:Int),0<=u->u+Ai l<=50000->m<=50000->Au u m l=0->Cz l:=by
 intro l;induction l using Lm.indL with
 |h0=>intros; exact RK
 |h k x l r a b=>
  intro u m hu c hm he;have e:Ai ((⟨k,x,l⟩:Lm)::r)=1+Ai l+Ai r:=by simp[Ai]
  rw[e]at c;rw[Au]at he;split at he
  ·rename_i h1;split at he
   ·rename_i h2;refine(Im k x l r).2 ⟨?_,a (AR u k) m ?_ ?_ hm h2,b u m hu (by omega) hm he⟩
    ·unfold AG at h1;split at h1
     ·cases h1
     ·split at h1
      ·cases h1
      ·split at h1
       ·cases h1
       ·rename_i h3;have h4:Bk u m k<=50001:=by
         unfold Bk;split
         ·omega
         ·split
          ·omega
          ·split<;>omega
        omega
    ·unfold AR; split<;>omega
    ·unfold AR; split<;>omega
   ·rename_i h2; exact absurd he h2
  ·rename_i h1; exact absurd he h1
def Mv (w:World) (X:Nat->Prop) (t:Lm) (e:Ending) (w':World):Prop:=
 ∃a c,e=.returned (.agg (zE t a c))/\Ap w' (λb=>(X b/\b<w.heap.size)∨w.heap.size<=b) a t.subs/\Below w.heap.size w w'
theorem Bo {P:Program} {ops:Array Oper} {o:Oper} {a:Act} {K:Act->World->Prop} {Q:Exit->Act->World->Prop} {E:Prop} {b:Value} (d:o.guard=none) (s x:Operand) (t c:TypeId)
  (ho:o.op=.call { callee:=.builtin .append,args:=#[s,x],argTypes:=#[t,c]}) (e:a.eval s=v) (hx:a.eval x=u)
  (f:(Builtin.append_ #[t,c] o.type #[v,u]).run P w=.ok b w') (h:K (a.put o.dst b) w'):if Region.wanted o (yielded ops a.tmps)=true then Oper.wp P o a w K Q else E:=by
 have hw:Region.wanted o (yielded ops a.tmps)=true:=by simp[Region.wanted,d]
 rw[Aq hw];unfold Oper.wp execOp;simp only[ho,resolve,invoke,builtin,Sem.run_bind,Sem.run_pure,Result.andThen_ok,List.map_toArray,CB,H4,e,hx,f];exact h
theorem RL (x:Int) (w:World):Calls prog 34 #[zA x] w λe w'=>e=.returned (.agg #[zA 1,zA x,zB])/\Below w.heap.size w w':=by
 go_in;go_wp2_with fail;refine Ao (v:=.agg #[zA 1,zA x,zB]) (by simp[results,results34,go_sem,AL,AE]) rfl ?_;exact⟨rfl,by first|exact Ac _ _|exact(Ac _ _).alloc (Af _) _⟩
theorem RM (y:Int) (aU:-100000<=y) (aV:y<=100000) (t:Lm):∀(v:Value) (d:Int) (w:World) (X:Nat->Prop),MV w X v t->0<=d->d+Ai [t]<=100000->Cz [t]->
  Calls prog 33 #[v,zA y,zA d] w λe w'=>Mv w X (AZ y d t) e w':=by
 induction t using Lm.ind with
 |h m j l ih=>
  intro v d w X hv aW aN x;obtain⟨a,c,rfl,hs⟩:=hv;have IH:=Aa ih;have HS:=Aa hs;have hl:=hs.1;have hz:Ai [(⟨m,j,l⟩:Lm)]=1+Ai l:=by simp[Ai]
  rw[hz]at aN;rw[Im]at x;obtain⟨⟨aX,aY⟩,x,_⟩:=x;have aL:=Aa x;have hlen:=Jj l;clear ih hs hz x;have W:Hid (Below w.heap.size w ((w.alloc (zp #[zA m,zA j,.slice a l.length c] 24)).alloc zi)):=((Ac _ _).alloc (Af _) _).alloc (by simp) _;have T2:Hid (Ab ((w.alloc (zp #[zA m,zA j,.slice a l.length c] 24)).alloc zi) w.heap.size #[zA m,zA j,.slice a l.length c] 24):=(Ab.new w _ _).alloc _;have R2:Hid (Ab ((w.alloc (zp #[zA m,zA j,.slice a l.length c] 24)).alloc zi) (w.heap.size+1) zJ 24):=by
   have h:=Ab.new (w.alloc (zp #[zA m,zA j,.slice a l.length c] 24)) zJ 24;rw[Ca]at h;exact h
  by_cases k1:m=1;case pos=>
   subst k1;by_cases q:j<d
   ·have HT:Hid (AZ y d ⟨1,j,l⟩=⟨1,j,l⟩):=Aa (by unfold AZ;simp[q]);go_in;go_wp2_with fail;refine Ao (v:=.agg #[zA 1,zA j,.slice a l.length c]) (by simp[results,results33,go_sem]) rfl ?_;rw[HT.o];have aM:=((Ac w.heap.size w).alloc (Af _) (.cells #[zA 1,zA j,.slice a l.length c] 24)).alloc (by simp) (.cells #[zA 1,zA j,.slice a l.length c] 24);exact⟨a,c,rfl,(HS.o.mono (Y:=λb=>X b/\b<w.heap.size) λb h1 h2=>⟨h1,h2⟩).below aM (λb h _=>h.2) |>.mono λb h _=>Ad h,aM⟩
   ·have HT:Hid (AZ y d ⟨1,j,l⟩=⟨1,j+y,[]⟩):=Aa (by unfold AZ;simp[q]);have aO:IntKind.i64.wrap (j+y)=j+y:=by rw[Ck]; omega
    go_in;go_wp2_with fail;refine(RL _ _).mono ?_;rintro e w3 ⟨rfl,aE⟩;have J:=Aa (R2.o.below aE (by simp));have B3:=Aa (W.o.trans (aE.mono (by simp; omega)));have r0:=J.o.c0;have r1:=J.o.c1;have r2:=J.o.c2;have rf:=J.o.frozen;have aw:w.heap.size+1<w3.heap.size:=J.o.lt;clear aE;go_wp2_with fail;refine Ao (v:=.agg #[zA 1,zA (j+y),zB]) (by simp[results,results33,go_sem,AL,AE,r0,r1,r2,aw]) rfl ?_;rw[HT.o];exact⟨none,0,rfl,⟨by simp,Ad rfl⟩,((B3.o.setCell (by simp) _).setCell (by simp) _).setCell (by simp) _⟩
  case neg=>
   have e1:(m==1)=false:=(by simpa using k1);by_cases k2:m=2;case pos=>
    subst k2;have aO:IntKind.i64.wrap (d+1)=d+1:=by rw[Ck]; omega
    have HT:Hid (AZ y d ⟨2,j,l⟩=⟨2,j,CM y (d+1) l⟩):=Aa (by unfold AZ;simp[AR]);go_in;go_wp2_with fail;have T3:=Aa (T2.o.alloc (zp #[zA 2,zA j,zB] 24));have J:=Aa (R2.o.alloc (zp #[zA 2,zA j,zB] 24));have L:=Aa (Ab.new ((w.alloc (zp #[zA 2,zA j,.slice a l.length c] 24)).alloc zi) #[zA 2,zA j,zB] 24);have B3:=Aa (W.o.alloc W.o.size (.cells #[zA 2,zA j,zB] 24));have z:((w.alloc (zp #[zA 2,zA j,.slice a l.length c] 24)).alloc zi).heap.size=w.heap.size+2:=(by simp);rw[z]at L;clear z W T2 R2;generalize ((w.alloc (zp #[zA 2,zA j,.slice a l.length c] 24)).alloc zi).alloc (zp #[zA 2,zA j,zB] 24)=w3 at *;obtain⟨O,z⟩:∃O,O=w.heap.size+2:=⟨_,rfl⟩;rw[<-z]at L;simp only[<-z];have hO:w.heap.size+2<=O:=(by omega);clear z;go_loopw [8] (λi wr=>∃(k:Nat) (u:Value),k<=l.length/\i=zA k/\Fi w (λb=>X b/\b<w.heap.size) O 2 j a l.length c u (CM y (d+1) (l.take k)) wr) (λi wr=>l.length-(intOf i).toNat);case atStart=>exact⟨0,zB,Bp _,rfl,[],by have h:=Cg.start w3 (O+1) 24 (λb=>X b/\b<w.heap.size); simpa [CM] using h,B3.o,T3.o,J.o,L.o,L.o.lt⟩
    case round=>
     obtain⟨k,u9,hk,rfl,s⟩:=hrel;have ax:=Aa s;obtain⟨xs,ai,ay,hT,hR,az,aP⟩:=s;have XE:=Aa ay;have XT:=Aa hT;have A:=Aa hR;have n:=Aa az;have XW:=Aa ai;clear ai ay hR az;have c0:=hT.c0;have c1:=hT.c1;have c2:=hT.c2;have o0:=n.o.c0;have o1:=n.o.c1;have o2:wr.cell? (zD O 2)=some u9:=n.o.cell 2;clear hT;by_cases q:k<l.length
     ·obtain⟨b,o,M,c',rfl,d0,a6,d1,hx⟩:=(HS.o.mono (Y:=(λb=>X b/\b<w.heap.size)) λb h1 h2=>⟨h1,h2⟩).get XE.o (λb h _=>h.2) k q;have HX:=Aa hx;have aF:(k:Int)<(l.length:Int):=(by omega);have a7:b<w.heap.size:=by
       obtain⟨_,h1⟩:=HS.o;rcases h1 with h1|⟨b',o',e',h1⟩
       ·rw[h1]at q; simp at q
       ·cases e'; exact Hi (Fe _ _ _ h1 k q).2.1
      have aG:Ai [l[k]]<=Ai l:=(by have h1:=Df l k q;have h2:=DJ l (k+1);omega);have a8:Hid ((CM y (d+1) (l.take k)).length<=1000000):=Aa (by rw[Eo];simp;omega);have aH:=Aa (Cz.at k q aL.o);have ar:=Aa (RI y (d+1) l k q);have aA:Hid (Calls prog 33 #[.agg (zE l[k] M c'),zA y,zA (d+1)] wr.drew λe Z=>∃N c1,e=.returned (.agg #[zA (AZ y (d+1) l[k]).kind,zA (AZ y (d+1) l[k]).idx,.slice N (AZ y (d+1) l[k]).subs.length c1])/\Ap Z (λb=>(X b/\b<w.heap.size)∨wr.heap.size<=b) N (AZ y (d+1) l[k]).subs/\Below wr.heap.size wr Z):=(IH.o l[k] (Bv q) _ (d+1) wr.drew (λb=>X b/\b<w.heap.size) (HX.o.later ((Ac wr.heap.size wr).drew)) (by omega) (by omega) aH.o).mono λe Z hp=>by
        obtain⟨N,c1,h1,h2,h3⟩:=hp;exact⟨N,c1,h1,h2.mono (λb hb _=>hb.imp (λh=>h.1) id),((Ac wr.heap.size wr).drew).trans h3⟩
      have av:Hid (C0 w.heap.size b (o+k*3) 2 j (some (zD b o)) l.length c l[k].kind l[k].idx (.slice M l[k].subs.length c') wr):=⟨XT.o,d0,a6,d1⟩;clear hx d0 a6 d1 c0 c1 o0 o1;go_wp2_with fail;have aB:Hid (C0 w.heap.size b (o+k*3) 2 j (some (zD b o)) l.length c l[k].kind l[k].idx (.slice M l[k].subs.length c') wr.drew):=av.o;refine Co (S:=C0 w.heap.size b (o+k*3) 2 j (some (zD b o)) l.length c l[k].kind l[k].idx (.slice M l[k].subs.length c')) (by kernel_rfl) aB.o λhH=>?_;refine tkz 0 ?_;refine tkz 2 ?_;refine tkz 3 ?_ (hy:=by intro w' B;have c2:w'.cell? (zD w.heap.size 2)=some (.slice (some (zD b o)) l.length c):=B.1.cell 2;go_simp<;>with_reducible rfl);refine tkz 4 ?_;refine tkz 5 ?_;refine tkz 6 ?_ (hy:=by intro w' B;have e0:=B.2.1;have e1:=B.2.2.1;have e2:=B.2.2.2;go_simp<;>with_reducible rfl);refine tkz 7 ?_;refine tkz 8 ?_;have aQ:wr.drew.cell? (zD O 2)=some u9:=n.o.cell 2;refine Bw (rs:=[1,9]) (by kernel_rfl) (by simp) ?_;refine Ax rfl (λK f=>?_) (Ax rfl (λK f=>?_) Bx)
      ·go_simp;refine zo f (by exact aB.o) λhH=>?_;clear f K;refine rdq 9 rfl λK f=>?_;go_simp;go_at_call 33;refine aA.o.mono ?_;rintro e w5 ⟨a5,c5,rfl,C,r⟩;obtain⟨g,cap,w3,D,E,F,G,o3,of,H,s⟩:=FQ (c1:=c5) hO (λb h=>h.2) a7 ax.o av.o a8.o r C;have P:=Aa D;have R:=Aa s;have T:=Aa E;have I:=Aa F;have U:=Aa G;have V:=Aa H;have aI:w5.cell? (zD O 2)=some u9:=(r.cell (p:=(zD O 2)) n.o.lt).trans (n.o.cell 2);have aC:=Aa r;clear D s E F G H C r;go_simp;refine zo f (by exact T.o) λhH=>?_;clear f K;refine rdq 10 rfl λK f=>?_;go_simp;refine zo f (by exact I.o) λhH=>?_;clear f K;refine rdq 11 rfl λK f=>?_;refine Bo rfl _ _ _ _ rfl rfl rfl P.o ?_;refine zo f (by exact U.o) λhH=>?_;clear f K;refine tkz 12 ?_;refine rdq 13 rfl λK f=>?_;go_simp;refine zo f (by exact V.o) λhH=>?_;clear f K;refine dnq ?_;go_wp2_with fail;go_roundw
       case rel=>exact⟨k+1,_,by omega,by go_num,by rw[ar.o]; exact R.o⟩
       case measure=>simp[intOf]; omega
      ·go_simp;go_at_call 33;refine aA.o.mono ?_;rintro e w5 ⟨a5,c5,rfl,C,r⟩;obtain⟨g,cap,w3,D,E,F,G,o3,of,H,s⟩:=FQ (c1:=c5) hO (λb h=>h.2) a7 ax.o av.o a8.o r C;have P:=Aa D;have R:=Aa s;have T:=Aa E;have I:=Aa F;have U:=Aa G;have V:=Aa H;have aI:w5.cell? (zD O 2)=some u9:=(r.cell (p:=(zD O 2)) n.o.lt).trans (n.o.cell 2);have aC:=Aa r;clear D s E F G H C r;go_simp;refine zo f (by exact T.o) λhH=>?_;clear f K;refine Bw (rs:=[1,10]) (by kernel_rfl) (by simp) ?_;refine Ax rfl (λK f=>?_) (Ax rfl (λK f=>?_) Bx)
       ·go_simp;refine zo f (by exact T.o) λhH=>?_;clear f K;refine rdq 10 rfl λK f=>?_;go_simp;refine zo f (by exact I.o) λhH=>?_;clear f K;refine rdq 11 rfl λK f=>?_;refine Bo rfl _ _ _ _ rfl rfl rfl P.o ?_;refine zo f (by exact U.o) λhH=>?_;clear f K;refine tkz 12 ?_;refine rdq 13 rfl λK f=>?_;go_simp;refine zo f (by exact V.o) λhH=>?_;clear f K;refine dnq ?_;go_wp2_with fail;go_roundw
        case rel=>exact⟨k+1,_,by omega,by go_num,by rw[ar.o]; exact R.o⟩
        case measure=>simp[intOf]; omega
       ·go_simp;refine zo f (by exact I.o) λhH=>?_;clear f K;refine rdq 1 rfl λK f=>?_;have aR:=((Aa (n.o.below aC.o n.o.lt)).o.alloc (zp #[zA (AZ y (d+1) l[k]).kind,zA (AZ y (d+1) l[k]).idx,.slice a5 (AZ y (d+1) l[k]).subs.length c5] 24)).cell 2;go_simp;refine zo f (by exact I.o) λhH=>?_;clear f K;refine rdq 11 rfl λK f=>?_;refine Bo rfl _ _ _ _ rfl rfl rfl P.o ?_;refine zo f (by exact U.o) λhH=>?_;clear f K;refine tkz 12 ?_;refine rdq 13 rfl λK f=>?_;go_simp;refine zo f (by exact V.o) λhH=>?_;clear f K;refine dnq ?_;go_wp2_with fail;go_roundw
        case rel=>exact⟨k+1,_,by omega,by go_num,by rw[ar.o]; exact R.o⟩
        case measure=>simp[intOf]; omega
     ·have aS:¬((k:Int)<(l.length:Int)):=(by omega);have aJ:l.take k=l:=Bz (by omega);rw[aJ]at XW;obtain⟨ae,ce,rfl,aD⟩:=XW.o.sl;have aK:=Aa aD;clear aD;have r0:=A.o.c0;have r1:=A.o.c1;have r2:=A.o.c2;have rf:=A.o.frozen;have aw:w.heap.size+1<wr.heap.size:=A.o.lt;have aT:Hid ((CM y (d+1) (l)).length=l.length):=Aa (by rw[Eo];simp);go_wp2_with fail;refine Ao (v:=.agg #[zA 2,zA j,.slice ae (CM y (d+1) (l)).length ce]) (by simp[results,results33,go_sem,AL,AE,r0,r1,r2,aw]) rfl ?_;rw[HT.o];refine⟨ae,ce,rfl,(aK.o.kept λb hb=>?_).mono λb hb _=>?_,((XE.o.setCell (by simp) _).setCell (by simp) _).setCell (by simp) _⟩
      ·have x:b≠w.heap.size+1:=by
        rcases hb with h|h
        ·have:=h.2; omega
        ·omega
       rw[Ak _ _ _ _ (by simpa using x),Ak _ _ _ _ (by simpa using x),Ak _ _ _ _ (by simpa using x)]
      ·rcases hb with h|h
       ·exact Ad h
       ·right; omega
   case neg=>
    have e2:(m==2)=false:=(by simpa using k2);have HT:Hid (AZ y d ⟨m,j,l⟩=⟨m,j,CM y d l⟩):=Aa (by unfold AZ;simp[AR,k1,k2]);go_in;go_wp2_with fail;have T3:=Aa (T2.o.alloc (zp #[zA m,zA j,zB] 24));have J:=Aa (R2.o.alloc (zp #[zA m,zA j,zB] 24));have L:=Aa (Ab.new ((w.alloc (zp #[zA m,zA j,.slice a l.length c] 24)).alloc zi) #[zA m,zA j,zB] 24);have B3:=Aa (W.o.alloc W.o.size (.cells #[zA m,zA j,zB] 24));have z:((w.alloc (zp #[zA m,zA j,.slice a l.length c] 24)).alloc zi).heap.size=w.heap.size+2:=(by simp);rw[z]at L;clear z W T2 R2;generalize ((w.alloc (zp #[zA m,zA j,.slice a l.length c] 24)).alloc zi).alloc (zp #[zA m,zA j,zB] 24)=w3 at *;obtain⟨O,z⟩:∃O,O=w.heap.size+2:=⟨_,rfl⟩;rw[<-z]at L;simp only[<-z];have hO:w.heap.size+2<=O:=(by omega);clear z;go_loopw [8] (λi wr=>∃(k:Nat) (u:Value),k<=l.length/\i=zA k/\Fi w (λb=>X b/\b<w.heap.size) O m j a l.length c u (CM y d (l.take k)) wr) (λi wr=>l.length-(intOf i).toNat);case atStart=>exact⟨0,zB,Bp _,rfl,[],by have h:=Cg.start w3 (O+1) 24 (λb=>X b/\b<w.heap.size); simpa [CM] using h,B3.o,T3.o,J.o,L.o,L.o.lt⟩
    case round=>
     obtain⟨k,u9,hk,rfl,s⟩:=hrel;have ax:=Aa s;obtain⟨xs,ai,ay,hT,hR,az,aP⟩:=s;have XE:=Aa ay;have XT:=Aa hT;have A:=Aa hR;have n:=Aa az;have XW:=Aa ai;clear ai ay hR az;have c0:=hT.c0;have c1:=hT.c1;have c2:=hT.c2;have o0:=n.o.c0;have o1:=n.o.c1;have o2:wr.cell? (zD O 2)=some u9:=n.o.cell 2;clear hT;by_cases q:k<l.length
     ·obtain⟨b,o,M,c',rfl,d0,a6,d1,hx⟩:=(HS.o.mono (Y:=(λb=>X b/\b<w.heap.size)) λb h1 h2=>⟨h1,h2⟩).get XE.o (λb h _=>h.2) k q;have HX:=Aa hx;have aF:(k:Int)<(l.length:Int):=(by omega);have a7:b<w.heap.size:=by
       obtain⟨_,h1⟩:=HS.o;rcases h1 with h1|⟨b',o',e',h1⟩
       ·rw[h1]at q; simp at q
       ·cases e'; exact Hi (Fe _ _ _ h1 k q).2.1
      have aG:Ai [l[k]]<=Ai l:=(by have h1:=Df l k q;have h2:=DJ l (k+1);omega);have a8:Hid ((CM y d (l.take k)).length<=1000000):=Aa (by rw[Eo];simp;omega);have aH:=Aa (Cz.at k q aL.o);have ar:=Aa (RI y d l k q);have aA:Hid (Calls prog 33 #[.agg (zE l[k] M c'),zA y,zA d] wr.drew λe Z=>∃N c1,e=.returned (.agg #[zA (AZ y d l[k]).kind,zA (AZ y d l[k]).idx,.slice N (AZ y d l[k]).subs.length c1])/\Ap Z (λb=>(X b/\b<w.heap.size)∨wr.heap.size<=b) N (AZ y d l[k]).subs/\Below wr.heap.size wr Z):=(IH.o l[k] (Bv q) _ d wr.drew (λb=>X b/\b<w.heap.size) (HX.o.later ((Ac wr.heap.size wr).drew)) (by omega) (by omega) aH.o).mono λe Z hp=>by
        obtain⟨N,c1,h1,h2,h3⟩:=hp;exact⟨N,c1,h1,h2.mono (λb hb _=>hb.imp (λh=>h.1) id),((Ac wr.heap.size wr).drew).trans h3⟩
      have av:Hid (C0 w.heap.size b (o+k*3) m j (some (zD b o)) l.length c l[k].kind l[k].idx (.slice M l[k].subs.length c') wr):=⟨XT.o,d0,a6,d1⟩;clear hx d0 a6 d1 c0 c1 o0 o1;go_wp2_with fail;have aB:Hid (C0 w.heap.size b (o+k*3) m j (some (zD b o)) l.length c l[k].kind l[k].idx (.slice M l[k].subs.length c') wr.drew):=av.o;refine Co (S:=C0 w.heap.size b (o+k*3) m j (some (zD b o)) l.length c l[k].kind l[k].idx (.slice M l[k].subs.length c')) (by kernel_rfl) aB.o λhH=>?_;refine tkz 0 ?_;refine tkz 2 ?_;refine tkz 3 ?_ (hy:=by intro w' B;have c2:w'.cell? (zD w.heap.size 2)=some (.slice (some (zD b o)) l.length c):=B.1.cell 2;go_simp<;>with_reducible rfl);refine tkz 4 ?_;refine tkz 5 ?_;refine tkz 6 ?_ (hy:=by intro w' B;have e0:=B.2.1;have e1:=B.2.2.1;have e2:=B.2.2.2;go_simp<;>with_reducible rfl);refine tkz 7 ?_;refine tkz 8 ?_;have aQ:wr.drew.cell? (zD O 2)=some u9:=n.o.cell 2;refine Bw (rs:=[1,9]) (by kernel_rfl) (by simp) ?_;refine Ax rfl (λK f=>?_) (Ax rfl (λK f=>?_) Bx)
      ·go_simp;refine zo f (by exact aB.o) λhH=>?_;clear f K;refine rdq 9 rfl λK f=>?_;go_simp;go_at_call 33;refine aA.o.mono ?_;rintro e w5 ⟨a5,c5,rfl,C,r⟩;obtain⟨g,cap,w3,D,E,F,G,o3,of,H,s⟩:=FQ (c1:=c5) hO (λb h=>h.2) a7 ax.o av.o a8.o r C;have P:=Aa D;have R:=Aa s;have T:=Aa E;have I:=Aa F;have U:=Aa G;have V:=Aa H;have aI:w5.cell? (zD O 2)=some u9:=(r.cell (p:=(zD O 2)) n.o.lt).trans (n.o.cell 2);have aC:=Aa r;clear D s E F G H C r;go_simp;refine zo f (by exact T.o) λhH=>?_;clear f K;refine rdq 10 rfl λK f=>?_;go_simp;refine zo f (by exact I.o) λhH=>?_;clear f K;refine rdq 11 rfl λK f=>?_;refine Bo rfl _ _ _ _ rfl rfl rfl P.o ?_;refine zo f (by exact U.o) λhH=>?_;clear f K;refine tkz 12 ?_;refine rdq 13 rfl λK f=>?_;go_simp;refine zo f (by exact V.o) λhH=>?_;clear f K;refine dnq ?_;go_wp2_with fail;go_roundw
       case rel=>exact⟨k+1,_,by omega,by go_num,by rw[ar.o]; exact R.o⟩
       case measure=>simp[intOf]; omega
      ·go_simp;go_at_call 33;refine aA.o.mono ?_;rintro e w5 ⟨a5,c5,rfl,C,r⟩;obtain⟨g,cap,w3,D,E,F,G,o3,of,H,s⟩:=FQ (c1:=c5) hO (λb h=>h.2) a7 ax.o av.o a8.o r C;have P:=Aa D;have R:=Aa s;have T:=Aa E;have I:=Aa F;have U:=Aa G;have V:=Aa H;have aI:w5.cell? (zD O 2)=some u9:=(r.cell (p:=(zD O 2)) n.o.lt).trans (n.o.cell 2);have aC:=Aa r;clear D s E F G H C r;go_simp;refine zo f (by exact T.o) λhH=>?_;clear f K;refine Bw (rs:=[1,10]) (by kernel_rfl) (by simp) ?_;refine Ax rfl (λK f=>?_) (Ax rfl (λK f=>?_) Bx)
       ·go_simp;refine zo f (by exact T.o) λhH=>?_;clear f K;refine rdq 10 rfl λK f=>?_;go_simp;refine zo f (by exact I.o) λhH=>?_;clear f K;refine rdq 11 rfl λK f=>?_;refine Bo rfl _ _ _ _ rfl rfl rfl P.o ?_;refine zo f (by exact U.o) λhH=>?_;clear f K;refine tkz 12 ?_;refine rdq 13 rfl λK f=>?_;go_simp;refine zo f (by exact V.o) λhH=>?_;clear f K;refine dnq ?_;go_wp2_with fail;go_roundw
        case rel=>exact⟨k+1,_,by omega,by go_num,by rw[ar.o]; exact R.o⟩
        case measure=>simp[intOf]; omega
       ·go_simp;refine zo f (by exact I.o) λhH=>?_;clear f K;refine rdq 1 rfl λK f=>?_;have aR:=((Aa (n.o.below aC.o n.o.lt)).o.alloc (zp #[zA (AZ y d l[k]).kind,zA (AZ y d l[k]).idx,.slice a5 (AZ y d l[k]).subs.length c5] 24)).cell 2;go_simp;refine zo f (by exact I.o) λhH=>?_;clear f K;refine rdq 11 rfl λK f=>?_;refine Bo rfl _ _ _ _ rfl rfl rfl P.o ?_;refine zo f (by exact U.o) λhH=>?_;clear f K;refine tkz 12 ?_;refine rdq 13 rfl λK f=>?_;go_simp;refine zo f (by exact V.o) λhH=>?_;clear f K;refine dnq ?_;go_wp2_with fail;go_roundw
        case rel=>exact⟨k+1,_,by omega,by go_num,by rw[ar.o]; exact R.o⟩
        case measure=>simp[intOf]; omega
     ·have aS:¬((k:Int)<(l.length:Int)):=(by omega);have aJ:l.take k=l:=Bz (by omega);rw[aJ]at XW;obtain⟨ae,ce,rfl,aD⟩:=XW.o.sl;have aK:=Aa aD;clear aD;have r0:=A.o.c0;have r1:=A.o.c1;have r2:=A.o.c2;have rf:=A.o.frozen;have aw:w.heap.size+1<wr.heap.size:=A.o.lt;have aT:Hid ((CM y d (l)).length=l.length):=Aa (by rw[Eo];simp);go_wp2_with fail;refine Ao (v:=.agg #[zA m,zA j,.slice ae (CM y d (l)).length ce]) (by simp[results,results33,go_sem,AL,AE,r0,r1,r2,aw]) rfl ?_;rw[HT.o];refine⟨ae,ce,rfl,(aK.o.kept λb hb=>?_).mono λb hb _=>?_,((XE.o.setCell (by simp) _).setCell (by simp) _).setCell (by simp) _⟩
      ·have x:b≠w.heap.size+1:=by
        rcases hb with h|h
        ·have:=h.2; omega
        ·omega
       rw[Ak _ _ _ _ (by simpa using x),Ak _ _ _ _ (by simpa using x),Ak _ _ _ _ (by simpa using x)]
      ·rcases hb with h|h
       ·exact Ad h
       ·right; omega
def Tb (B : Nat) (w : World) : Prop := Lib.TabBelow prog B w "internal/strconv.uint64pow10" .u64 Lib.pow10Tab
theorem Tb.on (h:Tb B w) (hb:Below B w w1):Tb B w1:=Lib.TabBelow.on h hb
theorem X8 (n B:Nat) (hn:n<=1000000) (w:World) (hT:Tb B w):Calls prog 116 #[zA n] w λe w'=>e=.returned (.string ⟨(Lib.decDigits n).toArray⟩)/\Below w.heap.size w w':=by
 refine(Tryz.strconv_Itoa n (by omega) (by omega) w hT.here).mono ?_;rintro e w' ⟨rfl,k,os,rfl⟩;refine⟨?_,Lib.below_grow _ _ (Af _) _ _⟩;have:Lib.itoa (n:Int)=Lib.decDigits n:=by simp[Lib.itoa]
 rw[this]
def Zq (E:Nat->Prop) (N P:Nat) (q:Value) (b:Nat):Prop:=N<=b/\b≠P/\some b≠q.ownBlock/\¬E b
structure Cf (E:Nat->Prop) (w:World) (N P T n:Nat) (q:Value) (cs:List Pc):Prop where
 box:Ab w P #[q,zA n] T
 own:w.ownsRow N 89 4 q cs.length (Dg cs)
 row:∀x∈cs,Sl w (Zq E N P q) x.2.1.1 x.1.l.args/\Sl w (Zq E N P q) x.2.2.1 x.1.r.args
 ne:some P≠q.ownBlock
 le:N<=w.heap.size
 ge:N<=P
def Cj (w w':World) (P:Nat) (q q':Value):Prop:=Al (λb=>b=P∨some b=q.ownBlock) w w'/\∀b,q'.ownBlock=some b->q.ownBlock=some b∨w.heap.size<=b
theorem Cj.refl (w:World) (P:Nat) (q:Value):Cj w w P q q:=⟨Al.refl _ _,λb h=>Ad h⟩
theorem Cj.trans {a c:Value} (h:Cj w w1 P q a) (k:Cj w1 w2 P a c):Cj w w2 P q c:=by
 refine⟨h.1.transN k.1 λi hi hs=>?_,λb hb=>?_⟩
 ·rcases hi with rfl|hi
  ·exact Ad rfl
  ·rcases h.2 i hi.symm with e|e
   ·exact Ae e.symm
   ·omega
 ·rcases k.2 b hb with e|e
  ·exact h.2 b e
  ·exact Ae (AJ h.1.size e)
theorem Cj.ofBelow (hb:Below w.heap.size w w') (P:Nat) (q:Value):Cj w w' P q q:=⟨Al.ofBelow hb,λb h=>Ad h⟩
theorem Cj.then {a:Value} (h:Cj w w1 P q a) (hb:Below w1.heap.size w1 w2):Cj w w2 P q a:=h.trans (Cj.ofBelow hb P a)
theorem Cj.sl {c:Value} (h:Cj w w' P q c) (d:Sl w (Zq E N P q) a l):Sl w' (Zq E N P c) a l:=by
 have h1:Sl w (λb=>Zq E N P q b/\b<w.heap.size) a l:=d.mono λb h1 h2=>⟨h1,h2⟩;refine(h1.exq h.1 λb hb hq=>?_).mono λb hb _=>⟨hb.1.1,hb.1.2.1,λe=>?_,hb.1.2.2.2⟩
 ·rcases hq with rfl|hq
  ·exact hb.1.2.1 rfl
  ·exact hb.1.2.2.1 hq
 ·rcases h.2 b e.symm with e1|e1
  ·exact hb.1.2.2.1 e1.symm
  ·have:=hb.2; omega
theorem Cf.below {a:Value} {cs:List Pc} (h:Cf E w N P T n q cs) (c:Cj w w' P q a):Below N w w':=
 c.1.below h.le λb hb=>by
  rcases hb with rfl|hb
  ·exact h.ge
  ·exact(h.own.lt b hb.symm).1
theorem Cf.later {cs:List Pc} (h:Cf E w N P T n q cs) (hb:Below w.heap.size w w'):Cf E w' N P T n q cs:=
 ⟨h.box.below hb h.box.lt,Dr h.own λg a=>hb.block g (h.own.lt g a).2,λx hx=>⟨(h.row x hx).1.later hb,(h.row x hx).2.later hb⟩,h.ne,AJ h.le hb.size,h.ge⟩
theorem Hj (c:Sl w (Zq E N P q) a l) (d:∀b,b<w.heap.size->E' b->E b):Sl w (Zq E' N P q) a l:=
 c.mono λb hb e=>⟨hb.1,hb.2.1,hb.2.2.1,λh=>hb.2.2.2 (d b e h)⟩
theorem Cf.excl {cs:List Pc} (h:Cf E w N P T n q cs) (a:∀b,b<w.heap.size->E' b->E b):Cf E' w N P T n q cs:=
 ⟨h.box,h.own,λx hx=>⟨Hj (h.row x hx).1 a,Hj (h.row x hx).2 a⟩,h.ne,h.le,h.ge⟩
theorem Cf.next {cs:List Pc} (h:Cf E w N P T n q cs) (a:Cj w w' P q q) (hq:∀g,q.ownBlock=some g->w'.heap[g]? = w.heap[g]?) (b:Ab w' P #[q,zA m] T):Cf E w' N P T m q cs:=
 ⟨b,Dr h.own hq,λx hx=>⟨a.sl (h.row x hx).1,a.sl (h.row x hx).2⟩,h.ne,AJ h.le a.1.size,h.ge⟩
theorem Jw {cs:List Pc} (x:Pc) (h:Cf E w N P T n q cs) (hl:cs.length<=1000000) (hx:Sl w (Zq E N P q) x.2.1.1 x.1.l.args/\Sl w (Zq E N P q) x.2.2.1 x.1.r.args):
  ∃g cap w3,(Builtin.append_ #[56,56] 56 #[q,.slice (some (zD w.heap.size 0)) 1 1]).run prog (w.alloc (zp #[.string x.1.l.name,.slice x.2.1.1 x.1.l.args.length x.2.1.2,.string x.1.r.name,.slice x.2.2.1 x.1.r.args.length x.2.2.2] 89))=.ok (.slice (some (zD g 0)) (cs.length+1) cap) w3/\
   (∀a:World,a=w3.setCell (zD P 0) (.slice (some (zD g 0)) (cs.length+1) cap)->Cf E a N P T n (.slice (some (zD g 0)) (cs.length+1) cap) (cs++[x])/\Cj w a P q (.slice (some (zD g 0)) (cs.length+1) cap))/\Al (λb=>b=P∨some b=q.ownBlock) w w3/\Ab w3 P #[q,zA n] T:=by
 have hN:=h.le;obtain⟨i0,hi,o,s,t⟩:=Dw Tryz.infoPair;obtain⟨g,cap,w3,u,ho,v,z,_⟩:=run_append_lies (P:=prog) (w:=w.alloc (zp #[.string x.1.l.name,.slice x.2.1.1 x.1.l.args.length x.2.1.2,.string x.1.r.name,.slice x.2.2.1 x.1.r.args.length x.2.2.2] 89)) 56 56 N 89 i0 _ 4 80 underlying56 hi o s t rfl (by decide) q cs.length (Dg cs) (h.own.alloc _) (zD w.heap.size 0) 1 1 (Eb x) rfl (RC _ _ _ _ _ _) (λy hy=>by simp[Eb] at hy; rcases hy with rfl|rfl|rfl|rfl<;>rfl) (by decide) (by unfold maxLen; omega) (by omega) (by simp; omega) _ rfl;have he:Al (λb=>some b=q.ownBlock) w w3:=((Al.refl _ w).alloc _).grown v (λk hk=>Ae hk.symm);have d:Al (λb=>b=P∨some b=q.ownBlock) w w3:=he.mono λi hi _=>Ae hi;have f:q.ownBlock=some g∨g=w.heap.size+1:=by simpa using z
 have j:g≠P:=λe=>by
  rcases f with e1|e1
  ·exact h.ne (by rw[e1,e])
  ·have:=h.box.lt; omega
 have m:Ab w3 P #[q,zA n] T:=h.box.exq he h.ne;refine⟨g,cap,w3,u,λa c=>?_,d,m⟩;have hF:Cj w a P q (.slice (some (zD g 0)) (cs.length+1) cap):=by
  rw[c];refine⟨d.set (Ad rfl) 0 _,λb hb=>?_⟩;have e:g=b:=by simpa [Value.ownBlock] using hb
  subst e;rcases f with e1|e1
  ·exact Ad e1
  ·exact Ae (by omega)
 refine⟨⟨?_,?_,λy hy=>?_,?_,AJ h.le hF.1.size,h.ge⟩,hF⟩
 ·rw[c]; exact m.set 0 _
 ·have h1:w3.ownsRow N 89 4 (.slice (some (zD g 0)) (cs.length+1) cap) (cs++[x]).length (Dg (cs++[x])):=by simpa [Mu,Dg] using ho
  refine Dr h1 λk hk=>?_;have e:g=k:=by simpa [Value.ownBlock] using hk
  rw[c,<-e];exact Ak _ _ _ _ (by simpa using j)
 ·rcases BN.1 hy with hy|hy
  ·exact⟨hF.sl (h.row y hy).1,hF.sl (h.row y hy).2⟩
  ·have e:y=x:=(by simpa using hy);rw[e];exact⟨hF.sl hx.1,hF.sl hx.2⟩
 ·intro e;have:g=P:=by simpa [Value.ownBlock] using e.symm
  exact j this
def RN (w:World) (X:Nat->Prop) (t:Tm) (e:Ending) (w':World):Prop:=
 ∃v,e=.returned v/\TV w' (λb=>X b∨w.heap.size<=b) v t/\Below w.heap.size w w'
theorem RO {c2:Nat} {a2:Option Addr} {f x:Tm} (b:Ab w g #[.string f.name,.slice a f.args.length c,.string x.name,.slice a2 x.args.length c2] T) (d:Y g) (h1:Sl w Y a f.args) (h2:Sl w Y a2 x.args):Sl w Y (some (zD g 0)) [f,x]:=by
 obtain⟨s,l⟩:=f;obtain⟨s2,l2⟩:=x;refine⟨by simp,Ae ⟨g,0,rfl,?_⟩⟩;simp only[DT];exact⟨d,b.cell 0,⟨a,c,b.cell 1,h1⟩,d,b.cell 2,⟨a2,c2,b.cell 3,h2⟩,trivial⟩
theorem RP (w:World) (f x:Tm) (a a2:Option Addr) (c c2:Nat):
  Ab ((((w.alloc (zh f a c)).alloc (zh x a2 c2)).alloc (zp #[.string ⟨#[102]⟩,.slice (some (zD (w.heap.size+1+1+1) 0)) 2 2] 61)).alloc (zp #[.string f.name,.slice a f.args.length c,.string x.name,.slice a2 x.args.length c2] 61)) (w.heap.size+1+1) #[.string ⟨#[102]⟩,.slice (some (zD (w.heap.size+1+1+1) 0)) 2 2] 61/\
  Ab ((((w.alloc (zh f a c)).alloc (zh x a2 c2)).alloc (zp #[.string ⟨#[102]⟩,.slice (some (zD (w.heap.size+1+1+1) 0)) 2 2] 61)).alloc (zp #[.string f.name,.slice a f.args.length c,.string x.name,.slice a2 x.args.length c2] 61)) (w.heap.size+1+1+1) #[.string f.name,.slice a f.args.length c,.string x.name,.slice a2 x.args.length c2] 61:=by
 constructor
 ·have h:=(Ab.new ((w.alloc (zh f a c)).alloc (zh x a2 c2)) #[.string ⟨#[102]⟩,.slice (some (zD (w.heap.size+1+1+1) 0)) 2 2] 61).alloc (zp #[.string f.name,.slice a f.args.length c,.string x.name,.slice a2 x.args.length c2] 61);simpa using h
 ·have h:=Ab.new (((w.alloc (zh f a c)).alloc (zh x a2 c2)).alloc (zp #[.string ⟨#[102]⟩,.slice (some (zD (w.heap.size+1+1+1) 0)) 2 2] 61)) #[.string f.name,.slice a f.args.length c,.string x.name,.slice a2 x.args.length c2] 61;simpa using h
theorem Ob (f x:Tm) (g i:Value) (w:World) (X:Nat->Prop) (n:TV w X g f) (hx:TV w X i x):
  Calls prog 45 #[g,i] w λe w'=>RN w X (Bu f x) e w':=by
 obtain⟨a,c,rfl,j⟩:=n;obtain⟨a2,c2,rfl,k⟩:=hx;have r:=Aa j;have s:=Aa k;clear j k;have d:Hid (Below w.heap.size w ((((w.alloc (zh f a c)).alloc (zh x a2 c2)).alloc (zp #[.string ⟨#[102]⟩,.slice (some (zD (w.heap.size+1+1+1) 0)) 2 2] 61)).alloc (zp #[.string f.name,.slice a f.args.length c,.string x.name,.slice a2 x.args.length c2] 61))):=PN _ _ _ _;have q:=RP w f x a a2 c c2;have l:=q.1.cell 0;have m:=q.1.cell 1;have t:=Aa q.2;clear q;simp at l m;go_in;go_wp2_with fail;refine Ao (v:=.agg #[.string ⟨#[102]⟩,.slice (some (zD (w.heap.size+1+1+1) 0)) 2 2]) (by simp[results,results45,go_sem,l,m]) rfl ?_;refine⟨_,rfl,⟨_,_,rfl,RO t.o (Ae (by omega)) ?_ ?_⟩,d.o⟩
 ·exact(r.o.later d.o).mono λb h _=>Ad h
 ·exact(s.o.later d.o).mono λb h _=>Ad h
theorem Oc (f x:Tm) (g i:Value) (w:World) (X:Nat->Prop) (n:TV w X g f) (hx:TV w X i x):
  Calls prog 104 #[g,i] w λe w'=>RN w X (Bu f x) e w':=by
 obtain⟨a,c,rfl,j⟩:=n;obtain⟨a2,c2,rfl,k⟩:=hx;have r:=Aa j;have s:=Aa k;clear j k;have d:Hid (Below w.heap.size w ((((w.alloc (zh f a c)).alloc (zh x a2 c2)).alloc (zp #[.string ⟨#[102]⟩,.slice (some (zD (w.heap.size+1+1+1) 0)) 2 2] 61)).alloc (zp #[.string f.name,.slice a f.args.length c,.string x.name,.slice a2 x.args.length c2] 61))):=PN _ _ _ _;have q:=RP w f x a a2 c c2;have l:=q.1.cell 0;have m:=q.1.cell 1;have t:=Aa q.2;clear q;simp at l m;go_in;go_wp2_with fail;refine Ao (v:=.agg #[.string ⟨#[102]⟩,.slice (some (zD (w.heap.size+1+1+1) 0)) 2 2]) (by simp[results,results104,go_sem,l,m]) rfl ?_;refine⟨_,rfl,⟨_,_,rfl,RO t.o (Ae (by omega)) ?_ ?_⟩,d.o⟩
 ·exact(r.o.later d.o).mono λb h _=>Ad h
 ·exact(s.o.later d.o).mono λb h _=>Ad h
theorem Ya (s:ByteArray) (w:World):
  Calls prog 63 #[.string s] w λe w'=>e=.returned (.agg #[.string s,zB])/\Below w.heap.size w w':=by
 go_in;go_wp2_with fail;have hb:=Ab.new w #[.string s,zB] 61;have c0:=hb.cell 0;have c1:=hb.cell 1;refine Ao (v:=.agg #[.string s,zB]) (by simp[results,results63,go_sem,c0,c1]) rfl ⟨rfl,(Ac _ _).alloc (Af _) _⟩
theorem Cf.belowI {cs:List Pc} (h:Cf E w N P T n q cs) (he:Al (λb=>b=P∨some b=q.ownBlock) w w') (a:B<=N):Below B w w':=
 he.below (AJ a h.le) λb hb=>by
  rcases hb with rfl|hb
  ·exact AJ a h.ge
  ·exact AJ a (h.own.lt b hb.symm).1
theorem RQ {cs:List Pc} (h:Cf E w N P 58 n q cs) (hn:n<=1000):
  Calls prog 44 #[zC P] w λe w'=>e=.returned (.agg #[.string (Ar 84 (n+1)),zB])/\Cf E w' N P 58 (n+1) q cs/\Cj w w' P q q:=by
 have H:=Aa h;have ag:P<w.heap.size:=h.box.lt;have m:=h.box.c1;have G:=h.box.c0;have A:Hid (Ab (w.alloc zd) w.heap.size ze 61):=Ab.new _ _ _;have k:Hid (Ab (w.alloc zd) P #[q,zA n] 58):=h.box.alloc _;have r:Hid (Below w.heap.size w (w.alloc zd)):=(Ac _ _).alloc (Af _) _;have s:w.heap.size≠P:=by omega
 clear h m G;go_in;go_upto_region 1 with fail;generalize w.alloc zd=w1 at *;have m:=k.o.c1;have I:w1.frozen? (zD P 1)=false:=k.o.frozen 1;have l:Hid (Ab (w1.setCell (zD P 1) (zA ((n:Int)+1))) P #[q,zA ((n:Int)+1)] 58):=k.o.set 1 _;have t:Hid (Ab (w1.setCell (zD P 1) (zA ((n:Int)+1))) w.heap.size ze 61):=A.o.setOther 1 _ s;have u:Hid (Al (λb=>b=P∨some b=q.ownBlock) w (w1.setCell (zD P 1) (zA ((n:Int)+1)))):=(Al.ofBelow r.o).set (Ad rfl) 1 _;have B:Hid (∀g,q.ownBlock=some g->(w1.setCell (zD P 1) (zA ((n:Int)+1))).heap[g]? = w.heap[g]?):=λg a=>by
  rw[Ak _ _ _ _ (by simp; exact λe=>H.o.ne (by rw[a,e]))];exact r.o.block g (H.o.own.lt g a).2
 go_upto_region 2 with fail;generalize w1.setCell (zD P 1) (zA ((n:Int)+1))=w2 at *;have J:=l.o.c1;clear m I k A r w1;go_wp2_with fail;refine(X4 (n+1) (by omega) _).mono ?_;rintro e w3 ⟨rfl,d⟩;have x:=Aa (l.o.below d l.o.lt);have y:=Aa (t.o.below d t.o.lt);have z:=Aa (u.o.transN (Al.ofBelow (Q:=λ_=>False) d) λi hi _=>hi.elim);have C:=Aa (λg a=>(d.block g (Ce (H.o.own.lt g a).2 u.o.size)).trans (B.o g a));have L:=LU (n+1);have ae:¬9223372036854775807<1+(Lib.decDigits (n+1)).length:=by omega
 have af:1+(Lib.decDigits (n+1)).length<=9223372036854775807:=by omega
 clear d l t u J L B;go_wp2_with fail;refine(Ya _ _).mono ?_;rintro e c ⟨rfl,f⟩;have M:=Aa (x.o.below f x.o.lt);have j:=Aa (y.o.below f y.o.lt);have O:=Aa (z.o.transN (Al.ofBelow (Q:=λ_=>False) f) λi hi _=>hi.elim);have R:=Aa (λg a=>(f.block g (Ce (H.o.own.lt g a).2 z.o.size)).trans (C.o g a));clear f x y z C;have r0:=j.o.c0;have r1:=j.o.c1;have f0:c.frozen? (zD w.heap.size 0)=false:=j.o.frozen 0;have f1:c.frozen? (zD w.heap.size 1)=false:=j.o.frozen 1;go_wp2_with fail;have D:Hid (Ab ((c.setCell (zD w.heap.size 0) (.string (⟨#[84]⟩++⟨(Lib.decDigits (n+1)).toArray⟩))).setCell (zD w.heap.size 1) zB) w.heap.size #[.string (⟨#[84]⟩++⟨(Lib.decDigits (n+1)).toArray⟩),zB] 61):=(j.o.set 0 _).set 1 _;have T:Hid (Ab ((c.setCell (zD w.heap.size 0) (.string (⟨#[84]⟩++⟨(Lib.decDigits (n+1)).toArray⟩))).setCell (zD w.heap.size 1) zB) P #[q,zA ((n:Int)+1)] 58):=(M.o.setOther 0 _ s.symm).setOther 1 _ s.symm;have F:Hid (Al (λb=>b=P∨some b=q.ownBlock) w ((c.setCell (zD w.heap.size 0) (.string (⟨#[84]⟩++⟨(Lib.decDigits (n+1)).toArray⟩))).setCell (zD w.heap.size 1) zB)):=(O.o.setNew (Af _) 0 _).setNew (Af _) 1 _;have U:Hid (∀g,q.ownBlock=some g->((c.setCell (zD w.heap.size 0) (.string (⟨#[84]⟩++⟨(Lib.decDigits (n+1)).toArray⟩))).setCell (zD w.heap.size 1) zB).heap[g]? = w.heap[g]?):=λg a=>by
  have hlt:=(H.o.own.lt g a).2;rw[Ak _ _ _ _ (by simp; omega),Ak _ _ _ _ (by simp; omega)];exact R.o g a
 have e:(⟨#[84]⟩:ByteArray)++⟨(Lib.decDigits (n+1)).toArray⟩=Ar 84 (n+1):=(by unfold Ar;apply ByteArray.ext;simp);generalize ((c.setCell (zD w.heap.size 0) (.string (⟨#[84]⟩++⟨(Lib.decDigits (n+1)).toArray⟩))).setCell (zD w.heap.size 1) zB)=w5 at *;have c0:=D.o.cell 0;have c1:=D.o.cell 1;simp only[BP,BU,BQ] at c0 c1;refine Ao (v:=.agg #[.string (Ar 84 (n+1)),zB]) (by simp[results,results44,go_sem,c0,c1,e]) rfl ⟨rfl,H.o.next ⟨F.o,λb h=>Ad h⟩ U.o (by have:=T.o; simpa using this),⟨F.o,λb h=>Ad h⟩⟩
theorem RR {cs:List Pc} (h:Cf E w N P 127 n q cs) (hn:n<=1000) (A:B<=N) (hT:Tb B w):
  Calls prog 103 #[zC P] w λe w'=>e=.returned (.agg #[.string (Ar 86 (n+1)),zB])/\Cf E w' N P 127 (n+1) q cs/\Cj w w' P q q:=by
 have H:=Aa h;have af:P<w.heap.size:=h.box.lt;have m:=h.box.c1;have C:=h.box.c0;have u:Hid (Ab (w.alloc zd) w.heap.size ze 61):=Ab.new _ _ _;have j:Hid (Ab (w.alloc zd) P #[q,zA n] 127):=h.box.alloc _;have r:Hid (Below w.heap.size w (w.alloc zd)):=(Ac _ _).alloc (Af _) _;have s:w.heap.size≠P:=by omega
 clear h m C;go_in;go_upto_region 1 with fail;generalize w.alloc zd=w1 at *;have m:=j.o.c1;have D:w1.frozen? (zD P 1)=false:=j.o.frozen 1;have k:Hid (Ab (w1.setCell (zD P 1) (zA ((n:Int)+1))) P #[q,zA ((n:Int)+1)] 127):=j.o.set 1 _;have t:Hid (Ab (w1.setCell (zD P 1) (zA ((n:Int)+1))) w.heap.size ze 61):=u.o.setOther 1 _ s;have l:Hid (Al (λb=>b=P∨some b=q.ownBlock) w (w1.setCell (zD P 1) (zA ((n:Int)+1)))):=(Al.ofBelow r.o).set (Ad rfl) 1 _;have x:Hid (∀g,q.ownBlock=some g->(w1.setCell (zD P 1) (zA ((n:Int)+1))).heap[g]? = w.heap[g]?):=λg a=>by
  rw[Ak _ _ _ _ (by simp; exact λe=>H.o.ne (by rw[a,e]))];exact r.o.block g (H.o.own.lt g a).2
 go_upto_region 2 with fail;generalize w1.setCell (zD P 1) (zA ((n:Int)+1))=w2 at *;have F:=k.o.c1;clear m D j u r w1;go_wp2_with fail;refine(X8 (n+1) B (by omega) _ (by exact hT.on (H.o.belowI l.o A))).mono ?_;rintro e c ⟨rfl,d⟩;have G:=Aa (k.o.below d k.o.lt);have f:=Aa (t.o.below d t.o.lt);have I:=Aa (l.o.transN (Al.ofBelow (Q:=λ_=>False) d) λi hi _=>hi.elim);have J:=Aa (λg a=>(d.block g (Ce (H.o.own.lt g a).2 l.o.size)).trans (x.o g a));have L:=LU (n+1);have ad:¬9223372036854775807<1+(Lib.decDigits (n+1)).length:=by omega
 have ae:1+(Lib.decDigits (n+1)).length<=9223372036854775807:=by omega
 clear d k t l F L x;have r0:=f.o.c0;have r1:=f.o.c1;have f0:c.frozen? (zD w.heap.size 0)=false:=f.o.frozen 0;have f1:c.frozen? (zD w.heap.size 1)=false:=f.o.frozen 1;go_wp2_with fail;have y:Hid (Ab ((c.setCell (zD w.heap.size 0) (.string (⟨#[86]⟩++⟨(Lib.decDigits (n+1)).toArray⟩))).setCell (zD w.heap.size 1) zB) w.heap.size #[.string (⟨#[86]⟩++⟨(Lib.decDigits (n+1)).toArray⟩),zB] 61):=(f.o.set 0 _).set 1 _;have M:Hid (Ab ((c.setCell (zD w.heap.size 0) (.string (⟨#[86]⟩++⟨(Lib.decDigits (n+1)).toArray⟩))).setCell (zD w.heap.size 1) zB) P #[q,zA ((n:Int)+1)] 127):=(G.o.setOther 0 _ s.symm).setOther 1 _ s.symm;have z:Hid (Al (λb=>b=P∨some b=q.ownBlock) w ((c.setCell (zD w.heap.size 0) (.string (⟨#[86]⟩++⟨(Lib.decDigits (n+1)).toArray⟩))).setCell (zD w.heap.size 1) zB)):=(I.o.setNew (Af _) 0 _).setNew (Af _) 1 _;have O:Hid (∀g,q.ownBlock=some g->((c.setCell (zD w.heap.size 0) (.string (⟨#[86]⟩++⟨(Lib.decDigits (n+1)).toArray⟩))).setCell (zD w.heap.size 1) zB).heap[g]? = w.heap[g]?):=λg a=>by
  have hlt:=(H.o.own.lt g a).2;rw[Ak _ _ _ _ (by simp; omega),Ak _ _ _ _ (by simp; omega)];exact J.o g a
 have e:(⟨#[86]⟩:ByteArray)++⟨(Lib.decDigits (n+1)).toArray⟩=Ar 86 (n+1):=(by unfold Ar;apply ByteArray.ext;simp);generalize ((c.setCell (zD w.heap.size 0) (.string (⟨#[86]⟩++⟨(Lib.decDigits (n+1)).toArray⟩))).setCell (zD w.heap.size 1) zB)=w5 at *;have c0:=y.o.cell 0;have c1:=y.o.cell 1;simp only[BP,BU,BQ] at c0 c1;refine Ao (v:=.agg #[.string (Ar 86 (n+1)),zB]) (by simp[results,results103,go_sem,c0,c1,e]) rfl ⟨rfl,H.o.next ⟨z.o,λb h=>Ad h⟩ O.o (by have:=M.o; simpa using this),⟨z.o,λb h=>Ad h⟩⟩
def Bq (w:World) (P:Nat) (q:Value) (b:Nat) (cs:Array Value) (T:Nat):Prop:=Ab w b cs T/\b≠P/\some b≠q.ownBlock
theorem Cj.bq {a:Value} (h:Cj w w' P q a) (hb:Bq w P q b cs T):Bq w' P a b cs T:=by
 refine⟨hb.1.exq h.1 λe=>?_,hb.2.1,λe=>?_⟩
 ·rcases e with e|e
  ·exact hb.2.1 e
  ·exact hb.2.2 e
 ·rcases h.2 b e.symm with e1|e1
  ·exact hb.2.2 e1.symm
  ·have:=hb.1.lt; omega
theorem Bq.new {cs:List Pc} (h:Cf E w N P T n q cs) (a:Array Value) (T':Nat):Bq (w.alloc (zp a T')) P q w.heap.size a T':=
 ⟨Ab.new _ _ _,by have:=h.box.lt; omega,λe=>by have:=(h.own.lt _ e.symm).2; omega⟩
theorem Bq.later (h:Bq w P q b cs T) (hb:Below w.heap.size w w'):Bq w' P q b cs T:=⟨h.1.below hb h.1.lt,h.2⟩
theorem Cf.store {R T':Nat} {c k n:Value} {cs:List Pc} (h:Cf (λb=>E b∨b=R) w3 N P T m c cs) (i:Cj w w3 P q c) (d:Bq w3 P c R #[k,n] T') (hw:w.heap.size<=R) (u0 u1:Value) (o:Sl w3 (Zq (λb=>E b∨b=R) N P c) a l):
  Cf E ((w3.setCell (zD R 0) u0).setCell (zD R 1) u1) N P T m c cs/\Cj w ((w3.setCell (zD R 0) u0).setCell (zD R 1) u1) P q c/\Ab ((w3.setCell (zD R 0) u0).setCell (zD R 1) u1) R #[u0,u1] T'/\Sl ((w3.setCell (zD R 0) u0).setCell (zD R 1) u1) (Zq E N P c) a l:=by
 have he:Al (λb=>b=R) w3 ((w3.setCell (zD R 0) u0).setCell (zD R 1) u1):=((Al.refl (λb=>b=R) w3).set (B:=R) rfl 0 u0).set (B:=R) rfl 1 u1;have f:∀(a:Option Addr) (l:List Tm),Sl w3 (Zq (λb=>E b∨b=R) N P c) a l->Sl ((w3.setCell (zD R 0) u0).setCell (zD R 1) u1) (Zq E N P c) a l:=λa l h1=>
  (h1.exq he λb hb e=>hb.2.2.2 (Ae e)).mono λb hb _=>⟨hb.1,hb.2.1,hb.2.2.1,λe=>hb.2.2.2 (Ad e)⟩
 refine⟨⟨h.box.exq he (λe=>d.2.1 e.symm),Dr h.own λg j=>he.block g (h.own.lt g j).2 (λe=>d.2.2 (by rw[j,e])),λx hx=>⟨f _ _ (h.row x hx).1,f _ _ (h.row x hx).2⟩,h.ne,AJ h.le he.size,h.ge⟩,⟨(i.1.setNew hw 0 u0).setNew hw 1 u1,i.2⟩,(d.1.set 0 u0).set 1 u1,f _ _ o⟩
theorem RT (h:Ap w X a [p]) (c:∀x,X x->x<B):
  ∃b' o' b c1,a=some (zD b' o')/\∀w',Below B w w'->(w'.cell? (zD b' o')=some (zA p.kind)/\w'.cell? ⟨b',o'+1,none⟩=some (zA p.idx)/\w'.cell? ⟨b',o'+2,none⟩=some (.slice b p.subs.length c1))/\MV w' X (.agg (zE p b c1)) p:=by
 obtain⟨_,h|⟨b',o',rfl,d⟩⟩:=h
 ·simp at h
 obtain⟨hx,d0,d1,b,c1,d2,f⟩:=Fe _ _ _ d 0 (by simp);refine⟨b',o',b,c1,rfl,λw' hb=>⟨?_,⟨b,c1,rfl,f.below hb λx hx _=>c x hx⟩⟩⟩;have e:∀o,w'.cell? (zD b' o)=w.cell? (zD b' o):=λo=>DI (hb.block b' (c _ hx));rw[e,e,e];exact⟨by simpa using d0,by simpa using d1,by simpa using d2⟩
theorem RU {r:Lm} (h:Ap w X a [p,r]) (c:∀x,X x->x<B):
  ∃b' o' b c1 a2 c2,a=some (zD b' o')/\∀w',Below B w w'->((w'.cell? (zD b' o')=some (zA p.kind)/\w'.cell? ⟨b',o'+1,none⟩=some (zA p.idx)/\w'.cell? ⟨b',o'+2,none⟩=some (.slice b p.subs.length c1))/\w'.cell? ⟨b',o'+3,none⟩=some (zA r.kind)/\w'.cell? ⟨b',o'+3+1,none⟩=some (zA r.idx)/\w'.cell? ⟨b',o'+3+2,none⟩=some (.slice a2 r.subs.length c2))/\MV w' X (.agg (zE p b c1)) p/\MV w' X (.agg (zE r a2 c2)) r:=by
 obtain⟨_,h|⟨b',o',rfl,d⟩⟩:=h
 ·simp at h
 obtain⟨hx,d0,d1,b,c1,d2,f⟩:=Fe _ _ _ d 0 (by simp);obtain⟨_,d3,d4,a2,c2,d5,g⟩:=Fe _ _ _ d 1 (by simp);refine⟨b',o',b,c1,a2,c2,rfl,λw' hb=>⟨?_,⟨b,c1,rfl,f.below hb λx hx _=>c x hx⟩,⟨a2,c2,rfl,g.below hb λx hx _=>c x hx⟩⟩⟩;have e:∀o,w'.cell? (zD b' o)=w.cell? (zD b' o):=λo=>DI (hb.block b' (c _ hx));rw[e,e,e,e,e,e];exact⟨⟨by simpa using d0,by simpa using d1,by simpa using d2⟩,by simpa using d3,by simpa using d4,by simpa using d5⟩
theorem Mw {c0 c1:Value} (h:Ab w A #[c0,c1] T):∀j u,[c0,c1][j]? = some u->w.cell? (((zD A 0):Addr).add j)=some u:=World.news_of_block (cs:=#[c0,c1]) h
theorem RV (ho:w'.ownsRow base 61 2 (.slice (some (zD g 0)) n cap) n xs) (b:0<n) (c:Cc w Z l xs) (d:∀a k,Sl w Z a k->Sl w' Y a k) (f:Y g) (hl:l.length<=1000000):Sl w' Y (some (zD g 0)) l:=by
 obtain⟨g',aa,e,_,_,hc⟩:=Fd ho b;cases e;exact⟨by omega,Ae ⟨g,0,rfl,Pw g f l xs 0 c d (λj u h=>by simpa using hc j u h)⟩⟩
theorem Yb {N:Nat} {n:Option Addr} {ar:List Tm} {s:ByteArray} (z:Sl w Z n ar) (hl:ar.length<=100000) (q:Ab w A #[.string s,zB] T):
  ∃g cap w',(Builtin.append_ #[59,59] 59 #[.slice n ar.length ar.length,.slice (some (zD A 0)) 1 1]).run prog w=.ok (.slice (some (zD g 0)) (ar.length+1) cap) w'/\
   Sl w' (λb=>Z b∨b=g) (some (zD g 0)) (ar++[⟨s,[]⟩])/\Below w.heap.size w w'/\w.heap.size<=g/\ar.length+1<=cap:=by
 obtain⟨i0,hi,r,t,v⟩:=Dw Tryz.infoTerm;have fin:∀(d:Value) (w':World) (xs:List Value),w'.ownsRow w.heap.size 61 2 d (ar.length+1) (xs++[.string s,zB])->w.grownBy w' none->Cc w Z ar xs->
   ∃g cap,d=.slice (some (zD g 0)) (ar.length+1) cap/\Sl w' (λb=>Z b∨b=g) (some (zD g 0)) (ar++[⟨s,[]⟩])/\Below w.heap.size w w'/\w.heap.size<=g/\ar.length+1<=cap:=by
  intro d w' xs ho f c;obtain⟨g,cap,rfl,B,_,_⟩:=Fd ho (by omega);have hb:Below w.heap.size w w':=(Ac _ _).grown f (Af _) (λk hk=>by cases hk);have C:ar.length+1<=cap:=by
   rcases ho.2 with ⟨_,h0⟩|⟨g1,aj,cur,e,_,_,h1,_⟩
   ·omega
   ·cases e; exact h1
  refine⟨g,cap,rfl,RV (Y:=λb=>Z b∨b=g) ho (by omega) (l:=ar++[⟨s,[]⟩]) (Cc.append c ⟨none,0,[],rfl,⟨by simp,Ad rfl⟩,rfl⟩) (λa k h=>(h.later hb).mono λb h _=>Ad h) (Ae rfl) (by simp; omega),hb,B,C⟩
 rcases z with ⟨al,rfl|⟨b,o,rfl,D⟩⟩
 ·cases n with
  |none=>obtain⟨g,cap,w',c,ho,f,_,_⟩:=run_append_lies (P:=prog) (w:=w) 59 59 w.heap.size 61 i0 _ 2 40 underlying59 hi r t v rfl (by decide) zB 0 [] (H5 _ _ _ _) (zD A 0) 1 1 [.string s,zB] rfl (Mw q) (λx hx=>by simp at hx; rcases hx with rfl|rfl<;>rfl) (by decide) (by unfold maxLen; omega) (by omega) (Af _) _ rfl;obtain⟨g2,m,e,h1,h2,h3,i⟩:=fin _ w' [] (by simpa using ho) (by simpa [Value.ownBlock] using f) rfl;simp only[Ek] at e i ⊢;rw[e]at c;exact⟨g2,m,w',by simpa using c,h1,h2,h3,i⟩
  |some E=>obtain⟨d,w',c,ho,f⟩:=run_append_arg_grows (P:=prog) (w:=w) 59 59 61 i0 _ 2 40 underlying59 hi r t v rfl (by decide) E 0 0 [] rfl (by simp) (zD A 0) 1 1 [.string s,zB] rfl (Mw q) (by omega) (by unfold maxLen; omega) (by omega);obtain⟨g2,m,e,h1,h2,h3,i⟩:=fin d w' [] (by simpa using ho) f rfl;simp only[Ek] at e i ⊢;rw[e]at c;exact⟨g2,m,w',by simpa using c,h1,h2,h3,i⟩
 ·obtain⟨xs,y,hc⟩:=Pv ar b o D;obtain⟨d,w',c,ho,f⟩:=run_append_arg_grows (P:=prog) (w:=w) 59 59 61 i0 _ 2 40 underlying59 hi r t v rfl (by decide) (zD b o) ar.length ar.length xs y.len (λj u F=>by
   have:=hc j u F;by_cases h0:j=0
   ·subst h0; simpa [Addr.add] using this
   ·simpa [Addr.add,h0] using this) (zD A 0) 1 1 [.string s,zB] rfl (Mw q) (by omega) (by unfold maxLen; omega) (by omega)
  obtain⟨g2,m,e,h1,h2,h3,i⟩:=fin d w' xs ho f y;rw[e]at c;exact⟨g2,m,w',c,h1,h2,h3,i⟩
open Go.RowKit Go.Shelf
theorem Cc.put {y:Tm} (hy:Sl w X a y.args):∀ {l:List Tm} {xs:List Value} (k:Nat),Cc w X l xs->k<l.length->Cc w X (l.set k y) ((xs.set (k*2) (.string y.name)).set (k*2+1) (.slice a y.args.length c))
  | [],xs,k,h,hk=>by simp at hk
  |t::l,xs,0,h,_=>by
    obtain⟨b,c',r,rfl,h1,h2⟩:=h;exact⟨a,c,r,by simp,hy,h2⟩
  |t::l,xs,k+1,h,hk=>by
    obtain⟨b,c',r,rfl,h1,h2⟩:=h;refine⟨b,c',(r.set (k*2) (.string y.name)).set (k*2+1) (.slice a y.args.length c),?_,h1,Cc.put hy k h2 (by simpa using hk)⟩;have e:(k+1)*2=k*2+1+1:=(by omega);rw[e];simp
theorem Sl.grown {r:Option Nat} (h:Sl w X a l) (c:w.grownBy w' r) (d:∀b,X b->some b≠r):Sl w' X a l:=by
 have h1:Sl w (λb=>X b/\b<w.heap.size) a l:=h.mono λb h1 h2=>⟨h1,h2⟩;have h2:Sl w' (λb=>X b/\b<w.heap.size) a l:=h1.kept λb hx=>c.block b hx.2 (d b hx.1);exact h2.mono λb hx _=>hx.1
theorem Gl.lv {d:World} {e a:Value} {c:List ByteArray} (h:Gl d B e c a w1):LV Value.string w1 (λb=>B<=b) a c:=LV.of_own h.1
theorem Gl.refl {acc:List ByteArray} (h:w.ownsRow B 9 1 q acc.length (acc.map Value.string)):Gl w B q acc q w:=
 ⟨h,LK (Ac _ _) _,λ_ h=>Ad h⟩
