/- Several texts in one. -/
import Derived.Test.YtacmmcnnhfmepaaGreatDoorZBLongSaysOwn
import Derived.Laws.EntriesVeiled
import Derived.Deep.RegionHeld3
import Derived.Sort.Grow
import Derived.Maps.RangeRun
import Derived.Laws.IdiomStrings
import Derived.Deep.RegionHeld
import Derived.Lib.Builder
import Derived.Lib.AppendStr
import Derived.Deep.AppendSrc
import Derived.Test.YtacmmcnnhfmepaaGreatDoorShelf
namespace Go.Proofs.YtacmmcnnhfmepaaGreatDoor
set_option linter.all false
set_option maxRecDepth 20000
set_option maxHeartbeats 8000000
open Go.RowKit Go.Proofs.Tryz
def fN (ls:List Bd) (s:ByteArray) (bs:List Tm):Tm:=if Av s=true then (match AC ls s with|some x=>x|none=>⟨s,bs⟩) else ⟨s,bs⟩
def fL (ls:List Bd):List Tm->List Tm
 | []=>[]
 | ⟨s,a⟩::r=>fN ls s (fL ls a)::fL ls r
def fT (ls:List Bd) (t:Tm):Tm:=fN ls t.name (fL ls t.args)
def Eq (w:World) (B r:Nat) (X:Nat->Prop) (ls:List Bd) (L:List (ByteArray×Value)):Prop:=Ab w B #[.map (some r)] 131/\BC w r L/\DS w X ls L
theorem Eq.ex {w w':World} {B r F:Nat} {X:Nat->Prop} {ls:List Bd} {L:List (ByteArray×Value)} (h:Eq w B r X ls L) (he:Ex F w w') (c:B≠F) (d:r≠F) (e:∀b,X b->b≠F):Eq w' B r X ls L:=
 ⟨h.1.ex he c,h.2.1.kept (he.block r h.2.1.lt d),h.2.2.imp λa l f=>f.ex he e⟩
theorem Eq.later {w w':World} {B r:Nat} {X:Nat->Prop} {ls:List Bd} {L:List (ByteArray×Value)} (h:Eq w B r X ls L) (hb:Below w.heap.size w w'):Eq w' B r X ls L:=
 ⟨h.1.below hb h.1.lt,h.2.1.below hb h.2.1.lt,h.2.2.imp λa l b=>b.later hb⟩
theorem Qj {a w1:World} (h:Below a.drew.heap.size a.drew w1):Below a.heap.size a w1:=((Ac a.heap.size a).drew).trans h
theorem Qk {a w1:World} {o:Obj} (h:Below (a.alloc o).drew.heap.size (a.alloc o).drew w1):Below a.heap.size a w1:=(((Ac a.heap.size a).alloc (Ag _) o).drew).trans (h.mono (by simp))
theorem Ql {a w1:World} {cs:Array Value} {T:Nat} (h:Below (a.alloc (.cells cs T)).drew.heap.size (a.alloc (.cells cs T)).drew w1):Ab w1 a.heap.size cs T:=((Ab.new a cs T).drewN 1).below h (by simp)
theorem J7 {w W a:World} {F:Nat} {d:Value} {t:Tm} {n:Nat} {s':ByteArray} {c:Option Addr} {l' c':Nat} {m:Int} {v0 v1:Value} (hF:F<w.heap.size) (hW:w.heap.size+2<=W.heap.size) (h1:Ab a F #[zA m,d] 144) (hx:Ex F w a) (hy:Ah [t]<=n->m=(n:Int)-Ah [t]/\s'=t.name/\l'=t.args.length/\Sl a (λb=>W.heap.size<=b) c t.args) (e:n<Ah [t]->m=-1):
  Gx w F d t n (.returned (.agg #[.string s',.slice c l' c'])) ((a.setCell (zD (w.heap.size+1) 0) v0).setCell (zD (w.heap.size+1) 1) v1):=by
 refine⟨s',c,l',c',m,rfl,(h1.setOther _ _ (by omega)).setOther _ _ (by omega),(hx.setNew (by omega) _ _).setNew (by omega) _ _,λh=>?_,e⟩;obtain⟨e1,e2,e3,f⟩:=hy h;refine⟨e1,e2,e3,(f.kept λb hb=>?_).mono λb hb _=>by omega⟩;rw[Al _ _ _ _ (by simp; omega),Al _ _ _ _ (by simp; omega)]
theorem Ex.ofBelow {B:Nat} {w w':World} (h:Below w.heap.size w w'):Ex B w w':=⟨h.os,h.tape,h.output,h.size,λk hk _=>h.block k hk⟩
theorem GS {w:World} {F T b:Nat} {u v x:Value} {i j k:Nat} (h:w.cell? (zD F i)=some u/\w.cell? (zD T j)=some v) (h1:b≠F) (h2:b≠T):(w.setCell (zD b k) x).cell? (zD F i)=some u/\(w.setCell (zD b k) x).cell? (zD T j)=some v:=
 ⟨(AB _ _ _ _ (λe=>h1 (by injection e))).trans h.1,(AB _ _ _ _ (λe=>h2 (by injection e))).trans h.2⟩
theorem Qm (F B r:Nat) (ls:List Bd) (L:List (ByteArray×Value)) (t:Tm) (n:Nat) (a:Option Addr) (c:Nat) (w:World) (X:Nat->Prop) (hn:n<=1000000) (a1:∀b,X b->b≠F) (aA:B≠F) (aB:r≠F) (hs:Sl w X a t.args) (hF:Ab w F #[zA n,.func (.func 108) #[] #[zC B]] 144) (hE:Eq w B r X ls L)
  (h:∀w',Sl w' X a t.args->Ab w' F #[zA n,.func (.func 108) #[] #[zC B]] 144->Eq w' B r X ls L->Calls prog 122 #[zC F,.agg (zG t a c),.func (.func 107) #[zC F] #[]] w' λe U=>Gx w' F (.func (.func 108) #[] #[zC B]) ⟨t.name,fL ls t.args⟩ n e U):
  Calls prog 107 #[zC F,.agg (zG t a c)] w λe w'=>Gx w F (.func (.func 108) #[] #[zC B]) (fT ls t) n e w':=by
 have aC:=@hmq prog;have H:=Aa h;have HS:=Aa hs;have HF:=Aa hF;have HE:=Aa hE;have aD:F<w.heap.size:=hF.lt;clear h hs hF hE;have ar:=Aa (((Ac w.heap.size w).alloc (Ag _) (.cells (zG t a c) 61)).alloc (by simp) (.cells #[.string ⟨#[]⟩,zB] 61));have f1:∀o o',((w.alloc o).alloc o').cell? (zD F 1)=some (.func (.func 108) #[] #[zC B]):=λo o'=>((HF.o.alloc o).alloc o').cell 1;cases hv:Av t.name with
 |false=>have HV:=Aa hv;have HT:Hid (fT ls t=⟨t.name,fL ls t.args⟩):=Aa (by unfold fT fN;rw[hv];rfl);clear hv;go_enter func107,ntmps107;go_wp2_with (go_at_call 109; refine(DO _ _).mono ?_; rintro e w' ⟨rfl,rfl⟩; rw[HV.o]);have G:Hid (Ab ((w.alloc (.cells (zG t a c) 61)).alloc (.cells #[.string ⟨#[]⟩,zB] 61)) (w.heap.size+1) #[.string ⟨#[]⟩,zB] 61):=Aa (by have h:=Ab.new (w.alloc (.cells (zG t a c) 61)) #[.string ⟨#[]⟩,zB] 61;simpa using h);have W:=Aa (((Ex.refl F w).alloc (.cells (zG t a c) 61)).alloc (.cells #[.string ⟨#[]⟩,zB] 61));have D:Hid (w.heap.size+2<=((w.alloc (.cells (zG t a c) 61)).alloc (.cells #[.string ⟨#[]⟩,zB] 61)).heap.size):=Aa (by simp);refine(H.o _ (HS.o.later ar.o) (by exact(HF.o.alloc _).alloc _) (HE.o.later ar.o)).mono ?_;rintro e w9 ⟨s',I,l',c',m,rfl,q,f,s,u⟩;have g:=Aa (G.o.ex f (by omega));have J:=Aa (W.o.trans f);have M:=Aa q;have N:=Aa s;have O:=Aa u;have aw:=Aa (W.o.size);clear q f s u;have P:=g.o.c0;have R:=g.o.c1;have rf:=g.o.frozen;go_wp2_with fail;refine Ao (v:=.agg #[.string s',.slice I l' c']) (by simp[results,results107,go_sem,AK,AB,P,R]) rfl ?_;rw[HT.o];exact J7 (by omega) D.o M.o J.o N.o O.o
 |true=>
  have HV:=Aa hv;clear hv;have G:Hid (Ab ((w.alloc (.cells (zG t a c) 61)).alloc (.cells #[.string ⟨#[]⟩,zB] 61)) (w.heap.size+1) #[.string ⟨#[]⟩,zB] 61):=Aa (by have h:=Ab.new (w.alloc (.cells (zG t a c) 61)) #[.string ⟨#[]⟩,zB] 61;simpa using h);have W:=Aa (((Ex.refl F w).alloc (.cells (zG t a c) 61)).alloc (.cells #[.string ⟨#[]⟩,zB] 61));have D:Hid (w.heap.size+2<=((w.alloc (.cells (zG t a c) 61)).alloc (.cells #[.string ⟨#[]⟩,zB] 61)).heap.size):=Aa (by simp);have E0:=Aa (HE.o.later ar.o);have z:=Aa ((HF.o.alloc (.cells (zG t a c) 61)).alloc (.cells #[.string ⟨#[]⟩,zB] 61));have S0:=Aa (HS.o.later ar.o);have A:=Aa ((Ab.new w (zG t a c) 61).alloc (.cells #[.string ⟨#[]⟩,zB] 61));have g1:=z.o.cell 1;have g0:=A.o.cell 0;simp only[BP,BQ,BR] at g1 g0;cases Y:AC ls t.name with
  |some x=>
   have HT:Hid (fT ls t=x):=Aa (by unfold fT fN;rw[HV.o,Y];rfl);have az:Hid (∀w',Below ((w.alloc (.cells (zG t a c) 61)).alloc (.cells #[.string ⟨#[]⟩,zB] 61)).heap.size ((w.alloc (.cells (zG t a c) 61)).alloc (.cells #[.string ⟨#[]⟩,zB] 61)) w'->Calls prog 108 #[.string t.name,zC B] w' λe U=>∃E V,e=.returned (.tuple #[.agg (zG x E V),.bool true])/\Below w'.heap.size w' U/\Sl U (λb=>X b/\b<w.heap.size) E x.args):=λw' hb=>by
    have E1:Eq w B r (λb=>X b/\b<w.heap.size) ls L:=⟨HE.o.1,HE.o.2.1,HE.o.2.2.imp λa l hs=>hs.mono λb h1 h2=>⟨h1,h2⟩⟩;obtain⟨h1,h2,h3⟩:=(E1.later ar.o).later hb;refine(Qi ls t.name B r L w' _ h1 h2 h3).mono λe U hp=>?_;obtain⟨au,hc⟩:=hp;rcases hc with ⟨y,ay,cy,hy,he,a8⟩|⟨hy,_⟩
    ·rw[Y]at hy; cases hy; exact⟨ay,cy,he,au,a8.later au⟩
    ·rw[Y]at hy; cases hy
   have av:Hid (∀w',Below ((w.alloc (.cells (zG t a c) 61)).alloc (.cells #[.string ⟨#[]⟩,zB] 61)).heap.size ((w.alloc (.cells (zG t a c) 61)).alloc (.cells #[.string ⟨#[]⟩,zB] 61)) w'->w'.cell? (zD F 1)=some (.func (.func 108) #[] #[zC B])/\w'.cell? (zD w.heap.size 0)=some (.string t.name)):=λw' hb=>⟨(z.o.below hb z.o.lt).cell 1,(A.o.below hb A.o.lt).cell 0⟩;have Z:((w.alloc (.cells (zG t a c) 61)).alloc (.cells #[.string ⟨#[]⟩,zB] 61)).heap.size≠F:=by have:=D.o; omega
   have nT:((w.alloc (.cells (zG t a c) 61)).alloc (.cells #[.string ⟨#[]⟩,zB] 61)).heap.size≠w.heap.size:=by have:=D.o; omega
   clear Y f1;go_enter func107,ntmps107;go_wp2_with (go_at_call 109; refine(DO _ _).mono ?_; rintro e w' ⟨rfl,rfl⟩; rw[HV.o]);generalize ((w.alloc (.cells (zG t a c) 61)).alloc (.cells #[.string ⟨#[]⟩,zB] 61))=k at *;go_region_held3 (λw'=>w'.cell? (zD F 1)=some (.func (.func 108) #[] #[zC B])/\w'.cell? (zD w.heap.size 0)=some (.string t.name)) (first|exact T|exact⟨g1,g0⟩|exact GS T Z nT|exact GS (GS T Z nT) Z nT|go_keep)
    ((go_at_call 108; refine(az.o _ (by first|exact(Ac _ _).drew|exact((Ac _ _).alloc (Ag _) _).drew)).mono ?_; rintro e w1 ⟨E,V,rfl,ao,a6⟩; have a7:=Aa a6; clear a6; (first|(have C:=Qj ao; have T:=av.o _ C)|(have C:=Qk ao; have xb:=Aa (Ql ao); have x0:=xb.o.cell 0; have x1:=xb.o.cell 1; have xf:=xb.o.frozen; have T:=av.o _ C))))
   ·generalize hz:(w1.alloc (Obj.cells #[Value.string x.name,Value.slice E x.args.length V] 61))=d at *;have i:Below k.heap.size k d:=by rw[<-hz]; exact C.alloc C.size _
    have aw:Hid (Sl d (λb=>X b/\b<w.heap.size) E x.args):=by rw[<-hz]; exact a7.o.later ((Ac _ _).alloc (Ag _) _)
    have q0:d.cell? (zD w1.heap.size 0)=some (.string x.name):=by rw[<-hz]; exact(Ab.new w1 _ _).cell 0
    have q1:d.cell? (zD w1.heap.size 1)=some (.slice E x.args.length V):=by rw[<-hz]; exact(Ab.new w1 _ _).cell 1
    have aq:Hid (w.heap.size+2<=d.heap.size):=AN D.o i.size;have j:=Aa i;clear i hz;go_wp2_with fail;refine(LK F _ x n _ d (λb=>X b/\b<w.heap.size) ⟨E,V,rfl,aw.o⟩ (λb hb=>a1 b hb.1) hn (z.o.below j.o z.o.lt)).mono ?_;rintro e w9 ⟨s',I,l',c',m,rfl,q,f,s,u⟩;have g:=Aa ((G.o.below j.o G.o.lt).ex f (by omega));have J:=Aa ((W.o.trans (Ex.ofBelow j.o)).trans f);have M:=Aa q;have N:=Aa s;have O:=Aa u;clear q f s u;have P:=g.o.c0;have R:=g.o.c1;have rf:=g.o.frozen;go_wp2_with fail;refine Ao (v:=.agg #[.string s',.slice I l' c']) (by simp[results,results107,go_sem,AK,AB,P,R]) rfl ?_;rw[HT.o];exact J7 (by omega) aq.o M.o J.o N.o O.o
   ·generalize hz:((w1.setCell { block:=k.heap.size,off:=0} (Value.string x.name)).setCell { block:=k.heap.size,off:=1} (Value.slice E x.args.length V))=d at *;have i:Below k.heap.size k d:=by rw[<-hz]; exact(C.setCell (Ag _) _).setCell (Ag _) _
    have aw:Hid (Sl d (λb=>X b/\b<w.heap.size) E x.args):=(by rw[<-hz];refine a7.o.kept λb hb=>?_;have au:=hb.2;have aE:=D.o;rw[Al _ _ _ _ (by simp; omega),Al _ _ _ _ (by simp; omega)]);have q0:d.cell? (zD k.heap.size 0)=some (.string x.name):=by rw[<-hz]; simp[AK,AB,x0,x1]
    have q1:d.cell? (zD k.heap.size 1)=some (.slice E x.args.length V):=by rw[<-hz]; simp[AK,AB,x0,x1]
    have aq:Hid (w.heap.size+2<=d.heap.size):=AN D.o i.size;have j:=Aa i;clear i hz;go_wp2_with fail;refine(LK F _ x n _ d (λb=>X b/\b<w.heap.size) ⟨E,V,rfl,aw.o⟩ (λb hb=>a1 b hb.1) hn (z.o.below j.o z.o.lt)).mono ?_;rintro e w9 ⟨s',I,l',c',m,rfl,q,f,s,u⟩;have g:=Aa ((G.o.below j.o G.o.lt).ex f (by omega));have J:=Aa ((W.o.trans (Ex.ofBelow j.o)).trans f);have M:=Aa q;have N:=Aa s;have O:=Aa u;clear q f s u;have P:=g.o.c0;have R:=g.o.c1;have rf:=g.o.frozen;go_wp2_with fail;refine Ao (v:=.agg #[.string s',.slice I l' c']) (by simp[results,results107,go_sem,AK,AB,P,R]) rfl ?_;rw[HT.o];exact J7 (by omega) aq.o M.o J.o N.o O.o
  |none=>
   have HT:Hid (fT ls t=⟨t.name,fL ls t.args⟩):=Aa (by unfold fT fN;rw[HV.o,Y];rfl);have az:Hid (∀w',Below ((w.alloc (.cells (zG t a c) 61)).alloc (.cells #[.string ⟨#[]⟩,zB] 61)).heap.size ((w.alloc (.cells (zG t a c) 61)).alloc (.cells #[.string ⟨#[]⟩,zB] 61)) w'->Calls prog 108 #[.string t.name,zC B] w' λe U=>e=.returned (.tuple #[.agg #[.string ⟨#[]⟩,zB],.bool false])/\Below w'.heap.size w' U):=λw' hb=>by
    obtain⟨h1,h2,h3⟩:=E0.o.later hb;refine(Qi ls t.name B r L w' X h1 h2 h3).mono λe U hp=>?_;obtain⟨au,hc⟩:=hp;rcases hc with ⟨x,_,_,hx,_⟩|⟨_,he⟩
    ·rw[Y]at hx; cases hx
    ·exact⟨he,au⟩
   have av:Hid (∀w',Below ((w.alloc (.cells (zG t a c) 61)).alloc (.cells #[.string ⟨#[]⟩,zB] 61)).heap.size ((w.alloc (.cells (zG t a c) 61)).alloc (.cells #[.string ⟨#[]⟩,zB] 61)) w'->w'.cell? (zD F 1)=some (.func (.func 108) #[] #[zC B])/\w'.cell? (zD w.heap.size 0)=some (.string t.name)):=λw' hb=>⟨(z.o.below hb z.o.lt).cell 1,(A.o.below hb A.o.lt).cell 0⟩;have Z:((w.alloc (.cells (zG t a c) 61)).alloc (.cells #[.string ⟨#[]⟩,zB] 61)).heap.size≠F:=by have:=D.o; omega
   have nT:((w.alloc (.cells (zG t a c) 61)).alloc (.cells #[.string ⟨#[]⟩,zB] 61)).heap.size≠w.heap.size:=by have:=D.o; omega
   clear Y f1;go_enter func107,ntmps107;go_wp2_with (go_at_call 109; refine(DO _ _).mono ?_; rintro e w' ⟨rfl,rfl⟩; rw[HV.o]);generalize ((w.alloc (.cells (zG t a c) 61)).alloc (.cells #[.string ⟨#[]⟩,zB] 61))=k at *;go_region_held3 (λw'=>w'.cell? (zD F 1)=some (.func (.func 108) #[] #[zC B])/\w'.cell? (zD w.heap.size 0)=some (.string t.name)) (first|exact T|exact⟨g1,g0⟩|exact GS T Z nT|exact GS (GS T Z nT) Z nT|go_keep)
    ((go_at_call 108; refine(az.o _ (by first|exact(Ac _ _).drew|exact((Ac _ _).alloc (Ag _) _).drew)).mono ?_; rintro e w1 ⟨rfl,ao⟩; (first|(have C:=Qj ao; have T:=av.o _ C)|(have C:=Qk ao; have xb:=Aa (Ql ao); have x0:=xb.o.cell 0; have x1:=xb.o.cell 1; have xf:=xb.o.frozen; have T:=av.o _ C))))
   ·generalize hz:(w1.alloc (Obj.cells #[Value.string { data:=#[]},Value.slice none 0 0] 61))=d at *;have i:Below k.heap.size k d:=by rw[<-hz]; exact C.alloc C.size _
    have t0:d.cell? (zD w.heap.size 0)=some (.string t.name):=(A.o.below i A.o.lt).cell 0;have t1:d.cell? (zD w.heap.size 1)=some (.slice a t.args.length c):=(A.o.below i A.o.lt).cell 1;have aq:Hid (w.heap.size+2<=d.heap.size):=AN D.o i.size;have j:=Aa i;clear i;go_wp2_with fail;refine(H.o _ (S0.o.later j.o) (z.o.below j.o z.o.lt) (E0.o.later j.o)).mono ?_;rintro e w9 ⟨s',I,l',c',m,rfl,q,f,s,u⟩;have g:=Aa ((G.o.below j.o G.o.lt).ex f (by omega));have J:=Aa ((W.o.trans (Ex.ofBelow j.o)).trans f);have M:=Aa q;have N:=Aa s;have O:=Aa u;clear q f s u;have P:=g.o.c0;have R:=g.o.c1;have rf:=g.o.frozen;go_wp2_with fail;refine Ao (v:=.agg #[.string s',.slice I l' c']) (by simp[results,results107,go_sem,AK,AB,P,R]) rfl ?_;rw[HT.o];exact J7 (by omega) aq.o M.o J.o N.o O.o
   ·generalize hz:((w1.setCell { block:=k.heap.size,off:=0} (Value.string { data:=#[]})).setCell { block:=k.heap.size,off:=1} (Value.slice none 0 0))=d at *;have i:Below k.heap.size k d:=by rw[<-hz]; exact(C.setCell (Ag _) _).setCell (Ag _) _
    have t0:d.cell? (zD w.heap.size 0)=some (.string t.name):=(A.o.below i A.o.lt).cell 0;have t1:d.cell? (zD w.heap.size 1)=some (.slice a t.args.length c):=(A.o.below i A.o.lt).cell 1;have aq:Hid (w.heap.size+2<=d.heap.size):=AN D.o i.size;have j:=Aa i;clear i;go_wp2_with fail;refine(H.o _ (S0.o.later j.o) (z.o.below j.o z.o.lt) (E0.o.later j.o)).mono ?_;rintro e w9 ⟨s',I,l',c',m,rfl,q,f,s,u⟩;have g:=Aa ((G.o.below j.o G.o.lt).ex f (by omega));have J:=Aa ((W.o.trans (Ex.ofBelow j.o)).trans f);have M:=Aa q;have N:=Aa s;have O:=Aa u;clear q f s u;have P:=g.o.c0;have R:=g.o.c1;have rf:=g.o.frozen;go_wp2_with fail;refine Ao (v:=.agg #[.string s',.slice I l' c']) (by simp[results,results107,go_sem,AK,AB,P,R]) rfl ?_;rw[HT.o];exact J7 (by omega) aq.o M.o J.o N.o O.o
theorem Nz (ls:List Bd):∀l:List Tm,fL ls l=l.map (fT ls)
 | []=>by simp[fL]
 | ⟨s,a⟩::r=>by rw[fL,Nz ls r]; rfl
theorem Wr (F B r:Nat) (ls:List Bd) (L:List (ByteArray×Value)) (aF:B≠F) (aG:r≠F) (t:Tm):∀(n:Nat) (v:Value) (w:World) (X:Nat->Prop),TV w X v t->(∀b,X b->b≠F)->n<=1000000->Ab w F #[zA n,.func (.func 108) #[] #[zC B]] 144->Eq w B r X ls L->
  Calls prog 122 #[zC F,v,.func (.func 107) #[zC F] #[]] w λe w'=>Gx w F (.func (.func 108) #[] #[zC B]) ⟨t.name,fL ls t.args⟩ n e w':=by
 induction t using Tm.ind with
 |h s l ih=>
  intro n v w X hv aH hn hF hE;obtain⟨a,c,rfl,hs⟩:=hv;(try dsimp only[zG]);(try dsimp only[zH]);(try dsimp only[zE]);(try dsimp only);generalize aQ:Value.func (.func 108) #[] #[zC B]=G at *;obtain⟨M,W⟩:∃M,fL ls l=M:=⟨_,rfl⟩;rw[W];have aR:M.length=l.length:=by rw[<-W,Nz]; simp
  have aS:Hid (∀k (h:k<M.length) (h':k<l.length),M[k]=fT ls l[k]):=λk h h'=>by subst W; simp[Nz]
  have HE:=Aa hE;clear hE W;have IH:=Aa ih;clear ih;obtain⟨i0,aI,aJ,aK,aL⟩:=Dq Tryz.infoTerm;have f0:∀o,(w.alloc o).cell? (zD F 0)=some (zA n):=λo=>(hF.alloc o).cell 0;have ff:∀o,(w.alloc o).frozen? (zD F 0)=false:=λo=>(hF.alloc o).frozen 0;have aM:F<w.heap.size:=hF.lt;go_enter func122,ntmps122;go_wp2_with fail;have E3:Hid (Ja w F (w.heap.size+1+1) s zB #[zA ((n:Int)-1),G] ((((w.setCell (zD F 0) (zA ((n:Int)-1))).alloc (.cells #[.string s,.slice a l.length c] 61)).alloc (.cells #[.string ⟨#[]⟩,zB] 61)).alloc (.cells #[.string s,zB] 61))):=by
   refine⟨((((Ex.refl F w).set 0 _).alloc _).alloc _).alloc _,?_,?_,(((hF.set 0 _).alloc _).alloc _).alloc _,by simp[World.setCell]⟩
   ·have h:=(Ab.new ((w.setCell (zD F 0) (zA ((n:Int)-1))).alloc (.cells #[.string s,.slice a l.length c] 61)) #[.string ⟨#[]⟩,zB] 61).alloc (.cells #[.string s,zB] 61);simpa [World.setCell] using h
   ·have h:=Ab.new (((w.setCell (zD F 0) (zA ((n:Int)-1))).alloc (.cells #[.string s,.slice a l.length c] 61)).alloc (.cells #[.string ⟨#[]⟩,zB] 61)) #[.string s,zB] 61;simpa [World.setCell] using h
  generalize ((((w.setCell (zD F 0) (zA ((n:Int)-1))).alloc (.cells #[.string s,.slice a l.length c] 61)).alloc (.cells #[.string ⟨#[]⟩,zB] 61)).alloc (.cells #[.string s,zB] 61))=w3 at *;generalize aT:w.heap.size+1+1=O at *;have hO:w.heap.size+2<=O:=by omega
  clear aT;clear f0 ff;have HS:=Aa hs;have hl:=hs.1;have I:=Aa aH;have hz:Ah [(⟨s,M⟩:Tm)]=1+Ah M:=by simp[Ah]
  clear hs aH;go_loopw [23] (λi wr=>Qf w F O s G M n i wr) (λi wr=>l.length-(intOf i).toNat);case atStart=>
   refine⟨0,zB,Bm _,rfl,?_⟩;by_cases aU:n=0
   ·subst aU;exact Ae ⟨by omega,E3.o,none,0,0,rfl⟩
   ·refine Ad ⟨n-1,[],by simp[Ah]; omega,?_,Cj.start _ _ _ _⟩;rw[show((n-1:Nat):Int)=(n:Int)-1 by omega];exact E3.o
  case round=>
   obtain⟨k,u,hk,rfl,an⟩:=hrel;rcases an with ⟨m,xs,hm,J,ao⟩|⟨aV,J,a9,N,c9,rfl⟩
   ·have d:=Aa J;have A:=Aa ao;have P:=Aa hm;clear J ao;by_cases R:k<l.length
    ·obtain⟨b,o,q,c',rfl,d0,d1,hx⟩:=(HS.o.ex d.o.1 I.o).get (Ac _ _) (λ_ _ h=>h) k R;obtain⟨av,cv,ev,aW⟩:=hx;simp at ev;obtain⟨rfl,rfl⟩:=ev;have Y:k<M.length:=(by omega);obtain⟨y,hy⟩:∃y,fT ls l[k]=y:=⟨_,rfl⟩;have az:Hid (M[k]=y):=Aa (by rw[aS.o k Y R,hy]);have aN:m<=1000000:=(by omega);have H:Hid (O≠F):=Aa (by omega);have ar:Hid (F<O+1):=Aa (by omega);have hlen:=Hw M;have a6:(M.take k).length=k:=by simp; omega
     have bh:k<=1000000:=by have h1:=Hw (M.take k); rw[a6] at h1; omega
     have Z:Hid ((M.take k).length+1<=maxLen/\((M.take k).length+1)*40<=140737488355328):=Aa (by rw[a6];exact⟨by unfold maxLen; omega,by omega⟩);clear a6;have ay:Hid (Calls prog 107 #[zC F,.agg (zG l[k] q c')] (wr.alloc (.cells (zG l[k] q c') 61)).drew λe C=>Gx (wr.alloc (.cells (zG l[k] q c') 61)).drew F G y m e C):=(by have aX:Eq (wr.alloc (.cells (zG l[k] q c') 61)).drew B r X ls L:=((HE.o.ex d.o.1 aF aG I.o).later ((Ac _ _).alloc (Ag _) _)).later ((Ac _ _).drew);have aY:Ab (wr.alloc (.cells (zG l[k] q c') 61)).drew F #[zA m,G] 144:=(d.o.2.2.2.1.alloc _).drewN 1;have aZ:Sl (wr.alloc (.cells (zG l[k] q c') 61)).drew X q l[k].args:=(aW.later ((Ac _ _).alloc (Ag _) _)).later ((Ac _ _).drew);have ba:=IH.o l[k] (Bu R) m;rw[<-hy];clear P d A;subst aQ;exact Qm F B r ls L l[k] m q c' _ X aN I.o aF aG aZ aY aX (λw' h1 h2 h3=>ba _ w' X ⟨q,c',rfl,h1⟩ I.o aN h2 h3));have f0:∀o,(wr.alloc o).cell? (zD F 0)=some (zA m):=λo=>(d.o.2.2.2.1.alloc o).cell 0;have o1:∀o,(wr.alloc o).cell? (zD O 1)=some u:=λo=>(d.o.2.2.1.alloc o).cell 1;have bj:¬(m:Int)<0:=(by omega);by_cases hle:Ah [y]<=m
     ·have a7:Hid (Calls prog 107 #[zC F,.agg (zG l[k] q c')] (wr.alloc (.cells (zG l[k] q c') 61)).drew λe C=>∃z c1,e=.returned (.agg (zG y z c1))/\Ab C F #[zA ((m:Int)-Ah [y]),G] 144/\Ex F wr C/\Sl C (λb=>wr.heap.size<=b) z y.args):=ay.o.mono λe C hp=>by
       obtain⟨s1,z,l1,c1,m1,h1,h2,h3,h4,_⟩:=hp;obtain⟨rfl,rfl,rfl,h5⟩:=h4 hle;exact⟨z,c1,h1,h2,(((Ex.refl F wr).alloc _).drew).trans h3,h5.mono λb hb _=>by simp at hb; omega⟩
      clear ay;go_wp2_with fail;go_region_law (first
       | (go_simp; go_at_call 107; refine a7.o.mono ?_; rintro e w1 ⟨z,c1,rfl,T,f,aO⟩; have a8:∀o,(w1.alloc o).cell? (zD O 1)=some u:=λo=>((Ab.ex d.o.2.2.1 f H.o).alloc o).cell 1; have aA:w1.cell? (zD O 1)=some u:=(Ab.ex d.o.2.2.1 f H.o).cell 1)
       | (refine step_append_lies _ rfl _ _ 59 rfl (O+1) 61 i0 _ 2 40 underlying59 aI aJ aK aL rfl (by decide) u (M.take k).length xs rfl (by exact(Cj.ex (B:=F) A.o f ar.o (λh=>h)).own.alloc _) (zD w1.heap.size 0) 1 1 [.string y.name,.slice z y.args.length c1] rfl rfl (cell_two_new _ _ _ _) (λx hx=>by simp at hx; rcases hx with rfl|rfl<;>rfl) (by decide) Z.o.1 Z.o.2 (by have:=f.size; have:=d.o.2.2.2.2; simp; omega) _ rfl ?_; intro g cap w3 ad D ah ai; have E:=Aa (((Ab.ex d.o.2.2.1 f H.o).alloc _).grown D (A.o.ne (Dx _))); have aB:w3.cell? (zD O 1)=some u:=E.o.cell 1; have aC:=E.o.frozen 1))
      all_goals
       have HK:=Aa (LJ (v:=.slice (some (zD g 0)) ((M.take k).length+1) cap) aM hO d.o (λj hj=>(A.o.own.lt j hj).1) f T D);have bb:=Aa (Qe (by omega) d.o.2.2.2.2 A.o f ⟨z,c1,rfl,aO⟩ ad D ah);clear ad D ah a8 aA aB aC E T f aO ai;go_wp2_with fail;go_roundw
       case rel=>
        have aD:(M.take k).length=k:=by simp; omega
        have h1:=HK.o;have h2:=bb.o;have aP:=P.o;simp only[aD] at h1 h2;have aE:min k l.length=k:=(by omega);simp only[aE];refine⟨k+1,.slice (some (zD g 0)) (k+1) cap,by omega,by go_num,Ad ⟨m-Ah [y],xs++[.string y.name,.slice z y.args.length c1],by rw[Ht M k Y,az.o]; omega,?_,?_⟩⟩
        ·rw[show((m-Ah [y]:Nat):Int)=(m:Int)-Ah [y] by omega];exact h1
        ·rw[CB Y,az.o];exact h2
       case measure=>simp[intOf]; omega
     ·have a7:Hid (Calls prog 107 #[zC F,.agg (zG l[k] q c')] (wr.alloc (.cells (zG l[k] q c') 61)).drew λe C=>∃s1 z l1 c1,e=.returned (.agg #[.string s1,.slice z l1 c1])/\Ab C F #[zA (-1),G] 144/\Ex F wr C):=ay.o.mono λe C hp=>by
       obtain⟨s1,z,l1,c1,m1,h1,h2,h3,_,h4⟩:=hp;obtain rfl:=h4 (by omega);exact⟨s1,z,l1,c1,h1,h2,(((Ex.refl F wr).alloc _).drew).trans h3⟩
      clear ay;go_wp2_with fail;go_region_law (first
       | (go_simp; go_at_call 107; refine a7.o.mono ?_; rintro e w1 ⟨s1,z,l1,c1,rfl,T,f⟩; have a8:∀o,(w1.alloc o).cell? (zD O 1)=some u:=λo=>((Ab.ex d.o.2.2.1 f H.o).alloc o).cell 1; have aA:w1.cell? (zD O 1)=some u:=(Ab.ex d.o.2.2.1 f H.o).cell 1)
       | (refine step_append_lies _ rfl _ _ 59 rfl (O+1) 61 i0 _ 2 40 underlying59 aI aJ aK aL rfl (by decide) u (M.take k).length xs rfl (by exact(Cj.ex (B:=F) A.o f ar.o (λh=>h)).own.alloc _) (zD w1.heap.size 0) 1 1 [.string s1,.slice z l1 c1] rfl rfl (cell_two_new _ _ _ _) (λx hx=>by simp at hx; rcases hx with rfl|rfl<;>rfl) (by decide) Z.o.1 Z.o.2 (by have:=f.size; have:=d.o.2.2.2.2; simp; omega) _ rfl ?_; intro g cap w3 ad D ah ai; have E:=Aa (((Ab.ex d.o.2.2.1 f H.o).alloc _).grown D (A.o.ne (Dx _))); have aB:w3.cell? (zD O 1)=some u:=E.o.cell 1; have aC:=E.o.frozen 1))
      all_goals
       have HK:=Aa (LJ (v:=.slice (some (zD g 0)) ((M.take k).length+1) cap) aM hO d.o (λj hj=>(A.o.own.lt j hj).1) f T D);clear ad D ah a8 aA aB aC E T f ai;go_wp2_with fail;go_roundw
       case rel=>
        have aD:(M.take k).length=k:=by simp; omega
        have h0:=HK.o;have aP:=P.o;simp only[aD] at h0;have aE:min k l.length=k:=(by omega);simp only[aE];refine⟨k+1,.slice (some (zD g 0)) (k+1) cap,by omega,by go_num,Ae ⟨?_,h0,_,_,_,rfl⟩⟩;have h1:=Ht M k Y;rw[az.o]at h1;have h2:=IZ M (k+1);omega
       case measure=>simp[intOf]; omega
    ·have bc:M.take k=M:=Bv (by omega);rw[bc]at A P;obtain⟨a9,c9,bd,aw⟩:=A.o.sl;subst bd;have S9:=Aa aw;clear aw;have U:=d.o.2.1.c0;have V:=d.o.2.1.c1;have rf:=d.o.2.1.frozen;have o0:=d.o.2.2.1.c0;have o1:=d.o.2.2.1.c1;go_wp2_with fail;refine Ao (v:=.agg #[.string s,.slice a9 M.length c9]) (by simp[results,results122,go_sem,AK,AB,U,V,aR]) rfl ?_;have aP:=P.o;refine⟨s,a9,M.length,c9,m,rfl,(d.o.2.2.2.1.setOther _ _ (by omega)).setOther _ _ (by omega),(d.o.1.setNew (by omega) _ _).setNew (by omega) _ _,λh=>⟨by rw[hz]; omega,rfl,rfl,(S9.o.kept λb hb=>?_).mono λb hb _=>?_⟩,λh=>by omega⟩
     ·have bf:O+1<=b:=hb.elim False.elim id;rw[Al _ _ _ _ (by simp; omega),Al _ _ _ _ (by simp; omega)]
     ·have bf:O+1<=b:=hb.elim False.elim id;omega
   ·have d:=Aa J;clear J;have f0:∀o,(wr.alloc o).cell? (zD F 0)=some (zA (-1)):=λo=>(d.o.2.2.2.1.alloc o).cell 0;by_cases R:k<l.length
    ·obtain⟨b,o,q,c',rfl,d0,d1,hx⟩:=(HS.o.ex d.o.1 I.o).get (Ac _ _) (λ_ _ h=>h) k R;clear hx;have o0:∀o,(wr.alloc o).cell? (zD O 0)=some (.string s):=λo=>(d.o.2.2.1.alloc o).cell 0;have o1:∀o,(wr.alloc o).cell? (zD O 1)=some (.slice a9 N c9):=λo=>(d.o.2.2.1.alloc o).cell 1;have U:=d.o.2.1.c0;have V:=d.o.2.1.c1;have rf:=d.o.2.1.frozen;have bg:w.heap.size+1<wr.heap.size:=d.o.2.1.lt;go_wp2_with fail;refine Ao (v:=.agg #[.string s,.slice a9 N c9]) (by simp[results,results122,go_sem,AK,AB,U,V,bg,EA]) rfl ?_;exact⟨s,a9,N,c9,-1,rfl,((d.o.2.2.2.1.setOther _ _ (by omega)).setOther _ _ (by omega)).alloc _,((d.o.1.setNew (by omega) _ _).setNew (by omega) _ _).alloc _,λh=>by omega,λ_=>rfl⟩
    ·have U:=d.o.2.1.c0;have V:=d.o.2.1.c1;have rf:=d.o.2.1.frozen;have o0:=d.o.2.2.1.c0;have o1:=d.o.2.2.1.c1;go_wp2_with fail;refine Ao (v:=.agg #[.string s,.slice a9 N c9]) (by simp[results,results122,go_sem,AK,AB,U,V]) rfl ?_;exact⟨s,a9,N,c9,-1,rfl,(d.o.2.2.2.1.setOther _ _ (by omega)).setOther _ _ (by omega),(d.o.1.setNew (by omega) _ _).setNew (by omega) _ _,λh=>by omega,λ_=>rfl⟩
theorem Ws (F B r:Nat) (ls:List Bd) (L:List (ByteArray×Value)) (t:Tm) (n:Nat) (a:Option Addr) (c:Nat) (w:World) (X:Nat->Prop) (d:n<=1000000) (f:∀b,X b->b≠F) (g:B≠F) (h:r≠F) (i:Sl w X a t.args) (hF:Ab w F #[zA n,.func (.func 108) #[] #[zC B]] 144) (j:Eq w B r X ls L):
  Calls prog 107 #[zC F,.agg (zG t a c)] w λe w'=>Gx w F (.func (.func 108) #[] #[zC B]) (fT ls t) n e w':=
 Qm F B r ls L t n a c w X d f g h i hF j (λw' h1 h2 h3=>Wr F B r ls L g h t n _ w' X ⟨a,c,rfl,h1⟩ f d h2 h3)
theorem NA (B r:Nat) (ls:List Bd) (L:List (ByteArray×Value)) (t:Tm) (n:Nat) (a:Option Addr) (c:Nat) (w:World) (X:Nat->Prop) (G:n<=1000000) (i:Sl w X a t.args) (d:Eq w B r X ls L):
  Calls prog 87 #[.agg (zG t a c),zA n,.func (.func 108) #[] #[zC B]] w λe w'=>Below w.heap.size w w'/\
   ((Ah [fT ls t]<=n/\∃g c',e=.returned (.tuple #[.agg #[.string (fT ls t).name,.slice g (fT ls t).args.length c'],.bool true])/\Sl w' (λb=>w.heap.size<=b) g (fT ls t).args)∨(n<Ah [fT ls t]/\e=.returned (.tuple #[.agg #[.string ⟨#[]⟩,zB],.bool false]))):=by
 have al:=@hmq prog;have H:=Aa (i.mono (Y:=λb=>X b/\b<w.heap.size) λb h1 h2=>⟨h1,h2⟩);have I:Hid (Eq w B r (λb=>X b/\b<w.heap.size) ls L):=⟨d.1,d.2.1,d.2.2.imp λa l i=>i.mono λb h1 h2=>⟨h1,h2⟩⟩;have an:B<w.heap.size:=d.1.lt;have ao:r<w.heap.size:=d.2.1.lt;clear i d;go_enter func87,ntmps87;go_wp2_with fail;have f:Hid (Below w.heap.size w (((w.alloc (.cells (zG t a c) 61)).alloc (.cells #[.string ⟨#[]⟩,zB] 61)).alloc (.cells #[zA n,.func (.func 108) #[] #[zC B]] 144))):=((((Ac w.heap.size w).alloc (Ag _) _).alloc (by simp) _).alloc (by simp; omega) _);have J:Hid (Ab (((w.alloc (.cells (zG t a c) 61)).alloc (.cells #[.string ⟨#[]⟩,zB] 61)).alloc (.cells #[zA n,.func (.func 108) #[] #[zC B]] 144)) (w.heap.size+1+1) #[zA n,.func (.func 108) #[] #[zC B]] 144):=Aa (by have h:=Ab.new ((w.alloc (.cells (zG t a c) 61)).alloc (.cells #[.string ⟨#[]⟩,zB] 61)) #[zA n,.func (.func 108) #[] #[zC B]] 144;simpa using h);have M:Hid (Ab (((w.alloc (.cells (zG t a c) 61)).alloc (.cells #[.string ⟨#[]⟩,zB] 61)).alloc (.cells #[zA n,.func (.func 108) #[] #[zC B]] 144)) (w.heap.size+1) #[.string ⟨#[]⟩,zB] 61):=Aa (by have h:=(Ab.new (w.alloc (.cells (zG t a c) 61)) #[.string ⟨#[]⟩,zB] 61).alloc (.cells #[zA n,.func (.func 108) #[] #[zC B]] 144);simpa using h);have z3:(((w.alloc (.cells (zG t a c) 61)).alloc (.cells #[.string ⟨#[]⟩,zB] 61)).alloc (.cells #[zA n,.func (.func 108) #[] #[zC B]] 144)).heap.size=w.heap.size+3:=by simp
 generalize (((w.alloc (.cells (zG t a c) 61)).alloc (.cells #[.string ⟨#[]⟩,zB] 61)).alloc (.cells #[zA n,.func (.func 108) #[] #[zC B]] 144))=w3 at *;refine(Ws (w.heap.size+1+1) B r ls L t n a c w3 (λb=>X b/\b<w.heap.size) G (λb hb=>by have:=hb.2; omega) (by omega) (by omega) (H.o.later f.o) J.o (I.o.later f.o)).mono ?_;rintro e j ⟨s',g,l',c',m,rfl,y,q,hy,x⟩;have z:=Aa y;have s:=Aa q;have u:=Aa (M.o.ex q (by omega));have aq:=q.size;clear y q;have A:=u.o.c0;have C:=u.o.c1;have rf:=u.o.frozen;have D:w.heap.size+1<j.heap.size:=u.o.lt;have E:Hid (Below w.heap.size w j):=⟨s.o.os.trans f.o.os,s.o.tape.trans f.o.tape,s.o.output.trans f.o.output,by omega,λk hk=>(s.o.block k (by omega) (by omega)).trans (f.o.block k hk)⟩;by_cases hle:Ah [fT ls t]<=n
 ·obtain⟨rfl,rfl,rfl,F⟩:=hy hle;have N:=Aa F;clear hy x F;have f0:∀o,(j.alloc o).cell? (zD (w.heap.size+1+1) 0)=some (zA ((n:Int)-Ah [fT ls t])):=λo=>(z.o.alloc o).cell 0;have hlt:¬((n:Int)-Ah [fT ls t])<0:=by omega
  go_wp2_with fail;refine Ao (v:=.tuple #[.agg #[.string (fT ls t).name,.slice g (fT ls t).args.length c'],.bool true]) (by simp[results,results87,go_sem,AK,AB,A,C,D,EA]) rfl ?_;refine⟨((E.o.setCell (by simp) _).setCell (by simp) _).alloc (by simp[World.setCell]; omega) _,Ad ⟨hle,g,c',rfl,((N.o.kept λb hb=>?_).later ((Ac _ _).alloc (Ag _) _)).mono λb hb _=>by omega⟩⟩;rw[Al _ _ _ _ (by simp; omega),Al _ _ _ _ (by simp; omega)]
 ·obtain rfl:=x (by omega);clear hy x;have f0:∀o,(j.alloc o).cell? (zD (w.heap.size+1+1) 0)=some (zA (-1)):=λo=>(z.o.alloc o).cell 0;go_wp2_with fail;refine Ao (v:=.tuple #[.agg #[.string ⟨#[]⟩,zB],.bool false]) (by simp[results,results87,go_sem,AK,AB,A,C,D,EA]) rfl ?_;exact⟨((E.o.setCell (by simp) _).setCell (by simp) _).alloc (by simp[World.setCell]; omega) _,Ae ⟨by omega,rfl⟩⟩
theorem Fl {s:ByteArray} {x:Tm}:∀ {ls:List Bd},AC ls s=some x->∃d,d∈ls/\d.nm=s/\d.t=x
 | [],h=>by cases h
 |d::r,h=>by
  rw[AC]at h;split at h
  ·rename_i e;exact⟨d,by simp,e,by simpa using h⟩
  ·obtain⟨d',h1,h2,h3⟩:=Fl h;exact⟨d',by simp[h1],h2,h3⟩
theorem Gy {s:ByteArray} {a r:List Tm} (h:As (⟨s,a⟩::r)=0):(Av s=true->a=[])/\As a=0/\As r=0:=by
 rw[As]at h;split at h
 ·split at h
  ·cases h
  ·rename_i h1 h2;split at h
   ·rename_i h3;refine⟨λb=>?_,h3,h⟩;cases a with
    |nil=>rfl
    |cons x y=>simp[b] at h2
   ·rename_i h3; exact absurd h h3
 ·cases h
theorem Qn {s:ByteArray} {a r:List Tm} (h:As (⟨s,a⟩::r)=0):ET s=true:=by
 rw[As]at h;split at h
 ·assumption
 ·cases h
theorem J8 {l:List Bd} (b:Eo l) {d:Bd} (hd:d∈l):AC l d.nm=some d.t:=by
 induction l with
 |nil=>cases hd
 |cons a r c=>
  obtain⟨h1,h2⟩:=KF.1 b;rcases Cn.1 hd with rfl|hd
  ·simp[AC]
  ·rw[AC,Am (h1 d hd)];exact c h2 hd
theorem Wt (a b:List Bd) (n:ByteArray):AC (a++b) n=(AC a n).or (AC b n):=by
 induction a with
 |nil=>simp[AC]
 |cons d r c=>
  rw[Di,AC,AC];split
  ·rfl
  ·exact c
theorem Fz (l:List Bd) (n:ByteArray):Af l ⟨n,[]⟩=(AC l n).getD ⟨n,[]⟩:=by
 cases h:AC l n with
 |none=>rw[GP (Ae h)]; simp[An]
 |some t=>rw[Is h]; rfl
theorem Qo {ls:List Bd} {d:Bd} (h:d∈ls):∃t,AC ls d.nm=some t:=by
 induction ls with
 |nil=>cases h
 |cons a r b=>
  rw[AC];split
  ·exact⟨_,rfl⟩
  ·rename_i c;rcases Cn.1 h with rfl|h
   ·exact absurd rfl c
   ·exact b h
theorem LM:∀(b:List Tm) (acc:List ByteArray) (n:ByteArray),n∈AR acc b->n∈acc∨∃k∈b,k.name=n/\Av n=true
 | [],acc,n,h=>Ad (by simpa [AR] using h)
 |k::r,acc,n,h=>by
  have e:AR acc (k::r)=AR (CH acc k.name) r:=rfl;rw[e]at h;rcases LM r _ n h with h1|⟨c,h1,h2⟩
  ·cases a:Av k.name with
   |false=>rw[Ll a] at h1; exact Ad h1
   |true=>
    cases hi:Cd k.name acc with
    |true=>rw[JX a hi] at h1; exact Ad h1
    |false=>
     rw[JW a hi]at h1;rcases BJ.1 h1 with h1|h1
     ·exact Ad h1
     ·have e2:n=k.name:=(by simpa using h1);exact Ae ⟨k,by simp,e2.symm,by rw[e2]; exact a⟩
  ·exact Ae ⟨c,by simp[h1],h2⟩
theorem Qp:∀(b:List Tm) (acc:List ByteArray),(∀n∈acc,n∈AR acc b)/\∀k∈b,Av k.name=true->k.name∈AR acc b
 | [],acc=>⟨λn h=>by simpa [AR] using h,λk h=>by cases h⟩
 |k::r,acc=>by
  have e:AR acc (k::r)=AR (CH acc k.name) r:=rfl;rw[e];obtain⟨h1,h2⟩:=Qp r (CH acc k.name);have g:∀n∈acc,n∈CH acc k.name:=λn a=>by
   cases c:Av k.name with
   |false=>rw[Ll c]; exact a
   |true=>
    cases hi:Cd k.name acc with
    |true=>rw[JX c hi]; exact a
    |false=>rw[JW c hi]; simp[a]
  refine⟨λn a=>h1 n (g n a),λd hk' f=>?_⟩;rcases Cn.1 hk' with rfl|hk'
  ·refine h1 _ ?_;cases hi:Cd d.name acc with
   |true=>rw[JX f hi];unfold Cd at hi;obtain⟨y,hy,e2⟩:=ER.1 hi;have e3:y=d.name:=FY (by simpa using e2);rw[<-e3]; exact hy
   |false=>rw[JW f hi]; simp
  ·exact h2 d hk' f
def top (m:Nat):Nat:=if m<3 then 1 else 2*m-1
theorem LN {s:ByteArray} (h:ET s=true):As [(⟨s,[]⟩:Tm)]=0:=by simp[As,h]
theorem Wu {s:ByteArray} {l:List Tm} (h:ET s=true) (a:Av s=false) (b:As l=0):As [(⟨s,l⟩:Tm)]=0:=by simp[As,h,a,b]
section
variable {P:Program} {ops:Array Oper} {Q:Exit->Act->World->Prop} {md:Region.Mode}
end
def LO (w5 w6:World) (t5 t6:Tm) (a5 a6:Option Addr) (c5 c6:Nat) (w':World):Prop:=
 Ab w' w5.heap.size (zG t5 a5 c5) 61/\Ab w' w6.heap.size (zG t6 a6 c6) 61
def NB (w5 w6:World) (t5 t6:Tm) (a5 a6:Option Addr) (c5 c6:Nat) (b:Nat) (w':World):Prop:=
 LO w5 w6 t5 t6 a5 a6 c5 c6 w'/\Ab w' b #[.string ⟨#[102]⟩,.string ⟨#[103]⟩] 9
theorem LO.alloc {a b:World} {t5 t6:Tm} {a5 c:Option Addr} {c5 d:Nat} {w':World} (h:LO a b t5 t6 a5 c c5 d w') (o:Obj):LO a b t5 t6 a5 c c5 d (w'.alloc o):=⟨h.1.alloc o,h.2.alloc o⟩
theorem NB.alloc {a c:World} {t5 t6:Tm} {a5 d:Option Addr} {c5 e b:Nat} {w':World} (h:NB a c t5 t6 a5 d c5 e b w') (o:Obj):NB a c t5 t6 a5 d c5 e b (w'.alloc o):=⟨h.1.alloc o,h.2.alloc o⟩
def Ax (x:ByteArray) (l:List Tm):Prop:=∃k∈Aw l,k.name=x
theorem Dt {x s:ByteArray} {l r:List Tm}:Ax x (⟨s,l⟩::r)↔s=x∨Ax x l∨Ax x r:=by
 unfold Ax;rw[Aw];constructor
 ·rintro⟨k,hk,e⟩;rcases Cn.1 hk with rfl|hk
  ·exact Ad e
  ·rcases BJ.1 hk with hk|hk
   ·exact Ae (Ad ⟨k,hk,e⟩)
   ·exact Ae (Ae ⟨k,hk,e⟩)
 ·rintro(e|⟨k,hk,e⟩|⟨k,hk,e⟩)
  ·exact⟨⟨s,l⟩,by simp,e⟩
  ·exact⟨k,by simp[hk],e⟩
  ·exact⟨k,by simp[hk],e⟩
theorem FD {x:ByteArray}:¬Ax x []:=by
 rintro⟨k,hk,_⟩;simp[Aw]at hk
theorem Ch {x:ByteArray} {t:Tm} {r:List Tm}:Ax x (t::r)↔Ax x [t]∨Ax x r:=by
 obtain⟨s,l⟩:=t;rw[Dt,Dt];have h0:¬Ax x []:=FD;constructor
 ·rintro(h|h|h)
  ·exact Ad (Ad h)
  ·exact Ad (Ae (Ad h))
  ·exact Ae h
 ·rintro((h|h|h)|h)
  ·exact Ad h
  ·exact Ae (Ad h)
  ·exact absurd h h0
  ·exact Ae (Ae h)
theorem LP {x:ByteArray} {a b:List Tm}:Ax x (a++b)↔Ax x a∨Ax x b:=by
 induction a with
 |nil=>have h0:¬Ax x []:=FD;simp[h0]
 |cons t r c=>rw[Di,Ch,Ch (r:=r),c,or_assoc]
def Ce (s:List Bd):Prop:=Eo s/\(∀d∈s,Av d.nm=true/\As [d.t]=0)/\∀d∈s,∀e∈s,¬Ax e.nm [d.t]
theorem Kc:Ce []:=⟨by simp[Eo],by simp,by simp⟩
theorem EM {s:List Bd} (h:∀d∈s,Av d.nm=true) {n:ByteArray} (a:Av n=false) (l:List Tm):Af s ⟨n,l⟩=⟨n,An s l⟩:=by
 refine GP (Ae ?_);cases b:AC s n with
 |none=>rfl
 |some x=>obtain⟨d,hd,e,_⟩:=Fl b;have h1:=h d hd;rw[e,a]at h1;cases h1
theorem Iw {s:List Bd}:∀l:List Tm,(∀e∈s,¬Ax e.nm l)->An s l=l:=by
 intro l;induction l using Tm.indL with
 |h0=>intro _; simp[An]
 |h n l r a b=>
  intro h;rw[Br,b λe he ho=>h e he (Dt.2 (Ae (Ae ho)))];congr 1
  rw[GP (Ae ?_),a λe he ho=>h e he (Dt.2 (Ae (Ad ho)))];cases c:AC s n with
  |none=>rfl
  |some x=>obtain⟨d,hd,e,_⟩:=Fl c;exact absurd (Dt.2 (Ad e.symm)) (h d hd)
theorem NC {s:List Bd} (c:∀d∈s,Av d.nm=true) {y:ByteArray} (hy:Av y=true):∀l:List Tm,As l=0->Ax y (An s l)->(Ax y l/\AC s y=none)∨∃d∈s,Ax d.nm l/\Ax y [d.t]:=by
 intro l;induction l using Tm.indL with
 |h0=>intro _ h; simp only[An] at h; exact absurd h FD
 |h n l r f g=>
  intro he h;obtain⟨g1,g2,g3⟩:=Gy he;rw[Br,Ch]at h;rcases h with h|h
  ·cases a:Av n with
   |false=>
    rw[EM c a,Dt]at h;rcases h with h|h|h
    ·rw[h,hy]at a; cases a
    ·rcases f g2 h with ⟨h1,h2⟩|⟨d,hd,h1,h2⟩
     ·exact Ad ⟨Dt.2 (Ae (Ad h1)),h2⟩
     ·exact Ae ⟨d,hd,Dt.2 (Ae (Ad h1)),h2⟩
    ·exact absurd h FD
   |true=>
    have e:=g1 a;subst e;rw[Fz]at h;cases b:AC s n with
    |none=>
     rw[b]at h;rcases Dt.1 h with h|h|h
     ·subst h; exact Ad ⟨Dt.2 (Ad rfl),b⟩
     ·exact absurd h FD
     ·exact absurd h FD
    |some x=>rw[b]at h;obtain⟨d,hd,e1,e2⟩:=Fl b;refine Ae ⟨d,hd,Dt.2 (Ad e1.symm),?_⟩;rw[e2]; exact h
  ·rcases g g3 h with ⟨h1,h2⟩|⟨d,hd,h1,h2⟩
   ·exact Ad ⟨Dt.2 (Ae (Ae h1)),h2⟩
   ·exact Ae ⟨d,hd,Dt.2 (Ae (Ae h1)),h2⟩
theorem Ce.vars {s:List Bd} (h:Ce s):∀d∈s,Av d.nm=true:=λd hd=>(h.2.1 d hd).1
theorem Ce.gone {s:List Bd} (h:Ce s) {l:List Tm} (he:As l=0):∀e∈s,¬Ax e.nm (An s l):=by
 intro e hm ho;rcases NC h.vars (h.vars e hm) l he ho with ⟨_,h2⟩|⟨d,hd,_,h2⟩
 ·obtain⟨t,ht⟩:=Qo hm;rw[ht]at h2; cases h2
 ·exact h.2.2 d hd e hm h2
theorem Ce.idem {s:List Bd} (h:Ce s) {l:List Tm} (he:As l=0):An s (An s l)=An s l:=Iw _ (h.gone he)
theorem Ix {s:List Bd} (h:Ce s):∀l:List Tm,As l=0->As (An s l)=0:=by
 intro l;induction l using Tm.indL with
 |h0=>intro _; simp[An,As]
 |h n l r c f=>
  intro he;obtain⟨g1,g2,g3⟩:=Gy he;have b:=Qn he;rw[Br];have key:As [Af s ⟨n,l⟩]=0:=by
   cases a:Av n with
   |false=>rw[EM h.vars a]; exact Wu b a (c g2)
   |true=>
    have e:=g1 a;subst e;rw[Fz];cases g:AC s n with
    |none=>exact LN b
    |some x=>obtain⟨d,hd,_,e2⟩:=Fl g;have h3:=(h.2.1 d hd).2;rw[e2]at h3;exact h3
  rw[MU,Aq key];exact f g3
theorem Qq {P:List Tm->List Tm->Prop} {s:List Bd} {t:Tm} (h:P [t] (An s [t])):P [t] [Af s t]:=by
 rw[Br]at h;simpa [An] using h
theorem EN {s:List Bd} (h:Ce s) {t:Tm} (he:As [t]=0):As [Af s t]=0:=Qq (P:=λ_ b=>As b=0) (Ix h [t] he)
theorem Ce.goneT {s:List Bd} (h:Ce s) {t:Tm} (he:As [t]=0):∀e∈s,¬Ax e.nm [Af s t]:=Qq (P:=λ_ b=>∀e∈s,¬Ax e.nm b) (h.gone he)
theorem Wv {a b:List Bd} (hp:a.Perm b) (c:Eo b) (n:ByteArray):AC a n=AC b n:=by
 have e:Eo a:=c.perm hp;cases h1:AC b n with
 |some x=>obtain⟨d,hd,e1,e2⟩:=Fl h1;have h2:=J8 e (hp.symm.subset hd);rw[e1,e2]at h2;exact h2
 |none=>
  cases h2:AC a n with
  |none=>rfl
  |some x=>obtain⟨d,hd,e1,e2⟩:=Fl h2;have h3:=J8 c (hp.subset hd);rw[e1,h1]at h3;cases h3
theorem Ww (x:ByteArray) (t:Tm) (s:List Bd) (n:ByteArray):AC (s.map (BD x t)) n=(AC s n).map (Af [⟨x,t⟩]):=by
 induction s with
 |nil=>rfl
 |cons d r a=>
  rw[Cu,AC,AC];by_cases e:d.nm=n
  ·rw[Aq e,Aq (show(BD x t d).nm=n from e)]; rfl
  ·rw[Am e,Am (show ¬(BD x t d).nm=n from e)]; exact a
def CD (s:List Bd) (x:ByteArray) (t:Tm):List Bd:=Gd (s.map (BD x t)++[⟨x,t⟩])
theorem Kd {s:List Bd} {x:ByteArray} {t:Tm} (h:Eo s) (hx:∀d∈s,d.nm≠x):Eo (s.map (BD x t)++[⟨x,t⟩]):=by
 refine MQ.2 ⟨Hr.2 h,by simp,λa c b hb=>?_⟩;obtain⟨d,hd,rfl⟩:=Cv.1 c;have e:b=⟨x,t⟩:=by simpa using hb
 rw[e];exact hx d hd
theorem LQ {s:List Bd} {x:ByteArray} {t:Tm} (h:Eo s) (hx:∀d∈s,d.nm≠x) (n:ByteArray):Af (CD s x t) ⟨n,[]⟩=Af [⟨x,t⟩] (Af s ⟨n,[]⟩):=by
 rw[Fz (CD s x t)];unfold CD;rw[Wv (EL _) (Kd h hx),Wt,Ww,Fz s];cases hf:AC s n with
 |some u=>rfl
 |none=>show(AC [⟨x,t⟩] n).getD _=Af [⟨x,t⟩] ⟨n,[]⟩;rw[Fz]
theorem Qr {x:ByteArray} {t:Tm} (hx:Av x=true):∀d∈[(⟨x,t⟩:Bd)],Av d.nm=true:=λd hd=>by
 have e:d=⟨x,t⟩:=by simpa using hd
 rw[e]; exact hx
theorem Ce.add {s:List Bd} (h:Ce s) {x:ByteArray} {t:Tm} (hx:Av x=true) (g:∀d∈s,d.nm≠x) (he:As [t]=0) (ht:∀e∈s,¬Ax e.nm [t]) (ho:¬Ax x [t]):Ce (CD s x t):=by
 have c:Ce [(⟨x,t⟩:Bd)]:=by
  refine⟨by simp[Eo],λd hd=>?_,λd hd e hm=>?_⟩
  ·have e:d=⟨x,t⟩:=(by simpa using hd);rw[e]; exact⟨hx,he⟩
  ·have e1:d=⟨x,t⟩:=(by simpa using hd);have e2:e=⟨x,t⟩:=(by simpa using hm);rw[e1,e2]; exact ho
 have hp:=EL (s.map (BD x t)++[⟨x,t⟩]);have b:∀d∈CD s x t,(∃d0∈s,d=BD x t d0)∨d=⟨x,t⟩:=λd hd=>by
  rcases BJ.1 (hp.subset hd) with hd|hd
  ·obtain⟨d0,h0,rfl⟩:=Cv.1 hd;exact Ad ⟨d0,h0,rfl⟩
  ·exact Ae (by simpa using hd)
 have i:∀d0∈s,∀y,Av y=true->(y=x∨∃e∈s,e.nm=y)->¬Ax y [Af [⟨x,t⟩] d0.t]:=λd0 h0 y hy f hoc=>by
  have h1:Ax y (An [⟨x,t⟩] [d0.t]):=by rw[Br]; simpa [An] using hoc
  rcases NC c.vars hy [d0.t] (h.2.1 d0 h0).2 h1 with ⟨h2,h3⟩|⟨d,hd,h2,h3⟩
  ·rcases f with rfl|⟨e,hm,rfl⟩
   ·simp[AC]at h3
   ·exact h.2.2 d0 h0 e hm h2
  ·have e1:d=⟨x,t⟩:=(by simpa using hd);subst e1;rcases f with rfl|⟨e,hm,rfl⟩
   ·exact ho h3
   ·exact ht e hm h3
 refine⟨(Kd h.1 g).perm hp,λd hd=>?_,λd hd e hm=>?_⟩
 ·rcases b d hd with ⟨d0,h0,rfl⟩|rfl
  ·exact⟨(h.2.1 d0 h0).1,EN c (h.2.1 d0 h0).2⟩
  ·exact⟨hx,he⟩
 ·have hy:e.nm=x∨∃a∈s,a.nm=e.nm:=by
   rcases b e hm with ⟨a,h0,rfl⟩|rfl
   ·exact Ae ⟨a,h0,rfl⟩
   ·exact Ad rfl
  have j:Av e.nm=true:=by
   rcases hy with h1|⟨a,h0,h1⟩
   ·rw[h1]; exact hx
   ·rw[<-h1]; exact(h.2.1 a h0).1
  rcases b d hd with ⟨d0,h0,rfl⟩|rfl
  ·exact i d0 h0 e.nm j hy
  ·rcases hy with h1|⟨a,h0,h1⟩
   ·rw[h1]; exact ho
   ·rw[<-h1]; exact ht a h0
theorem Jb {s:List Bd} (h:Ce s) {x:ByteArray} {t:Tm} (hx:Av x=true) (b:∀d∈s,d.nm≠x) (c:Ce (CD s x t)):∀l:List Tm,As l=0->An (CD s x t) l=An [⟨x,t⟩] (An s l):=by
 intro l;induction l using Tm.indL with
 |h0=>intro _; simp[An]
 |h n l r f g=>
  intro he;obtain⟨g1,g2,g3⟩:=Gy he;rw[Br,Br,Br,g g3];congr 1
  cases a:Av n with
  |false=>rw[EM c.vars a,EM h.vars a,EM (Qr hx) a,f g2]
  |true=>have e:=g1 a;subst e;exact LQ h.1 b n
def LR (s:ByteArray) (l:List Tm):Prop:=(Av s=true/\l=[])∨(s=⟨#[102]⟩/\l.length=2)
def AW (l:List Tm):Prop:=∀k∈Aw l,LR k.name k.args
theorem AW.cons {t:Tm} {r:List Tm}:AW (t::r)↔LR t.name t.args/\AW t.args/\AW r:=by
 obtain⟨s,l⟩:=t;unfold AW;simp only[Aw,Cn,BJ];constructor
 ·intro h;exact⟨h ⟨s,l⟩ (Ad rfl),λk hk=>h k (Ae (Ad hk)),λk hk=>h k (Ae (Ae hk))⟩
 ·rintro⟨h1,h2,h3⟩ k (rfl|hk|hk)
  ·exact h1
  ·exact h2 k hk
  ·exact h3 k hk
theorem AW.nil:AW []:=λk hk=>by simp[Aw] at hk
theorem AW.one {t:Tm}:AW [t]↔LR t.name t.args/\AW t.args:=by
 rw[AW.cons];exact⟨λh=>⟨h.1,h.2.1⟩,λh=>⟨h.1,h.2,AW.nil⟩⟩
theorem AW.all:∀ {l:List Tm},AW l↔∀t∈l,AW [t]
 | []=>by simp[AW.nil]
 |t::r=>by
  rw[AW.cons,AW.all (l:=r)];simp only[Cn,forall_eq_or_imp,AW.one];exact⟨λh=>⟨⟨h.1,h.2.1⟩,h.2.2⟩,λh=>⟨h.1.1,h.1.2,h.2⟩⟩
def Gg (s:List Bd):Prop:=∀d∈s,AW [d.t]
def Iy (l:List Pr):Prop:=∀p∈l,AW [p.l]/\AW [p.r]
theorem Qs {n:ByteArray} {x:Tm}:∀ {s:List Bd},Gg s->AC s n=some x->AW [x]
 | [],_,h=>by cases h
 |d::r,h,e=>by
  simp only[AC] at e;split at e
  ·cases e; exact h d (by simp)
  ·exact Qs (λe he=>h e (by simp[he])) e
theorem Wx {s:List Bd} (c:Gg s) (l:List Tm):AW l->AW (An s l):=by
 induction l using Tm.indL with
 |h0=>intro _; simp only[An]; exact AW.nil
 |h n l r d e=>
  intro h;obtain⟨h1,h2,h3⟩:=AW.cons.1 h;simp only[An];have key:AW [Gb s n l (An s l)]:=by
   have hq:AW [(⟨n,An s l⟩:Tm)]:=by
    refine AW.one.2 ⟨?_,d h2⟩;rcases h1 with ⟨a,b⟩|⟨a,b⟩
    ·refine Ad ⟨a,?_⟩;have:l=[]:=b;subst this;simp[An]
    ·exact Ae ⟨a,by rw[show(⟨n,An s l⟩:Tm).args=An s l from rfl,I4]; exact b⟩
   unfold Gb;cases f:AC s n with
   |none=>exact hq
   |some x=>
    simp only;split
    ·exact Qs c f
    ·exact hq
  exact AW.cons.2 ⟨(AW.one.1 key).1,(AW.one.1 key).2,e h3⟩
theorem Jc {s:List Bd} (a:Gg s) {t:Tm} (ht:AW [t]):AW [Af s t]:=by
 have h:=Wx a [t] ht;rw[Br]at h;simp only[An] at h;exact h
def Qt:UO->Prop
 | .go s l=>Gg s/\Iy l
 | .stop _ s=>Gg s
theorem Qu (lim:Bool) {s:List Bd} (a:Gg s) {l:List Pr} (b:Iy l) (x:ByteArray) {t:Tm} (ht:AW [t]):Qt (Co lim s l x t):=by
 have hp:Gg (s.map (BD x t)):=λd hd=>by
  obtain⟨d0,c,rfl⟩:=Cv.1 hd;exact Jc (λe he=>by rw[Gq.1 he]; exact ht) (a d0 c)
 unfold Co;split
 ·exact a
 ·split
  ·exact a
  ·refine⟨λd hd=>?_,b⟩;rcases BJ.1 ((EL _).subset hd) with h|h
   ·exact hp d h
   ·rw[Gq.1 h]; exact ht
theorem Qv:∀ {a b:List Tm},AW a->AW b->Iy (Az a b)
 | [],_,_,_=>λp hp=>by simp[Az] at hp
 |t::r,[],_,_=>λp hp=>by simp[Az] at hp
 |t::r,u::q,c,hb=>λp hp=>by
  obtain⟨d,a2,a3⟩:=AW.cons.1 c;obtain⟨e,f,g⟩:=AW.cons.1 hb;simp only[Az] at hp;rcases Cn.1 hp with rfl|hp
  ·exact⟨AW.one.2 ⟨d,a2⟩,AW.one.2 ⟨e,f⟩⟩
  ·exact Qv a3 g p hp
theorem Wy (lim:Bool) {s:List Bd} (c:Gg s) {l:List Pr} (d:Iy l) {a b:Tm} (e:AW [a]) (hb:AW [b]):Qt (Bp lim s l a b):=by
 unfold Bp;split
 ·exact c
 ·split
  ·split
   ·exact⟨c,d⟩
   ·exact Qu lim c d _ hb
  ·split
   ·exact Qu lim c d _ e
   ·split
    ·refine⟨c,λp hp=>?_⟩;rcases BJ.1 hp with h|h
     ·exact Qv (AW.one.1 e).2 (AW.one.1 hb).2 p h
     ·exact d p h
    ·exact c
theorem Kh (lim:Bool):∀(n:Nat) {s:List Bd} (a:Gg s) {l:List Pr} (b:Iy l) {R:Int×List Bd},AZ lim n s l=some R->Gg R.2
 |0,_,_,_,_,_,h=>by cases h
 |n+1,s,a,[],b,R,h=>by
  simp only[AZ,Eg] at h;cases h;exact a
 |n+1,s,a,p::l,b,R,h=>by
  have hp:=b p (by simp);have c:Iy l:=λq hq=>b q (by simp[hq]);have k:=Wy lim a c (Jc a hp.1) (Jc a hp.2);rw[AZ,ED]at h;revert h k;cases Bp lim s l (Af s p.l) (Af s p.r) with
  |stop e s'=>intro h k; cases h; exact k
  |go s' l'=>intro h k; exact Kh lim n k.1 k.2 h
theorem LS {p:UInt8} (hp:p=84∨p=86) (n:Nat):AW [AE p n]:=AW.one.2 ⟨Ad ⟨by show Av (Ar p n)=true; rw[Ns]; rcases hp with rfl|rfl<;>decide,rfl⟩,AW.nil⟩
theorem Qw {a b:Tm} (c:AW [a]) (hb:AW [b]):AW [Bs a b]:=AW.one.2 ⟨Ae ⟨rfl,rfl⟩,AW.cons.2 ⟨(AW.one.1 c).1,(AW.one.1 c).2,hb⟩⟩
theorem LT {p:UInt8} (hp:p=84∨p=86) (t:Lm):∀(ar:List Tm) (n:Nat),Au ar.length 0 [t]=0->A0 [t]=false->AW ar->AW [(Ay p t ar n).1]/\Iy (Ay p t ar n).2.1:=by
 induction t using Lm.ind with
 |h k i l d=>
  intro ar n he hc c;rcases I7 he with ⟨x,e,h1,h2⟩|⟨b,e,hb⟩|⟨f,a,e,m,hx⟩|⟨x,e,_,_⟩
  ·cases e;rw[I8];have g:ar.length-1-i.toNat<ar.length:=(by omega);have o:ar.getD (ar.length-1-i.toNat) DZ=ar[ar.length-1-i.toNat]:=by
    rw[Gr,FU g]; rfl
   rw[o];exact⟨AW.all.1 c _ (Bu g),λq hq=>by simp at hq⟩
  ·cases e;rw[Iu];have r:A0 [b]=false:=by rw[D2] at hc; simpa using hc
   have s:((ar++[AE p (n+1)]).length:Int)=(ar.length:Int)+1:=(by simp);have u:AW (ar++[AE p (n+1)]):=AW.all.2 λt ht=>by
    rcases BJ.1 ht with h1|h1
    ·exact AW.all.1 c t h1
    ·rw[Gq.1 h1]; exact LS hp _
   have h:=d b (by simp) (ar++[AE p (n+1)]) (n+1) (by rw[s]; exact hb) r u;exact⟨Qw (LS hp _) h.1,h.2⟩
  ·cases e;rw[I9];have j:A0 [f]=false/\A0 [a]=false:=by
    rw[D2,Iv]at hc;simpa using hc
   have h1:=d f (by simp) ar n m j.1 c;have h2:=d a (by simp) ar (Ay p f ar n).2.2 hx j.2 c;refine⟨LS hp _,λq hq=>?_⟩;rcases BJ.1 hq with hq|hq
   ·rcases BJ.1 hq with hq|hq
    ·exact h1.2 q hq
    ·exact h2.2 q hq
   ·rw[Gq.1 hq];exact⟨h1.1,Qw h2.1 (LS hp _)⟩
  ·cases e;rw[D2]at hc;simp at hc
def Bz (s:ByteArray):List ByteArray->Nat
 | []=>0
 |n::r=>if n=s then 0 else Bz s r+1
theorem LU {s:ByteArray}:∀ {l:List ByteArray},s∈l->Bz s l<l.length
 | [],h=>by cases h
 |n::r,h=>by
  rw[Bz];split
  ·simp
  ·rename_i a;have:=LU (l:=r) ((Cn.1 h).resolve_left λe=>a e.symm);simp; omega
theorem Qx {s:ByteArray}:∀ {l:List ByteArray} (r:List ByteArray),s∈l->Bz s (l++r)=Bz s l
 | [],_,h=>by cases h
 |n::q,r,h=>by
  simp only[Di,Bz];split
  ·rfl
  ·rename_i a;rw[Qx r ((Cn.1 h).resolve_left λe=>a e.symm)]
theorem Qy {s:ByteArray}:∀ {l:List ByteArray},s∉l->Bz s (l++[s])=l.length
 | [],_=>by simp[Bz]
 |n::q,h=>by
  simp only[Di,Bz];rw[Am (λe=>h (by simp[e])),Qy (l:=q) (λe=>h (by simp[e]))];rfl
def GT (ns:List ByteArray) (s:ByteArray) (l:List Tm) (bs:List Ty):Ty:=if l.length=0 then ⟨(Bz s ns:Nat),[]⟩ else ⟨0,bs⟩
def DT (ns:List ByteArray):List Tm->List Ty
 | []=>[]
 | ⟨s,l⟩::r=>GT ns s l (DT ns l)::DT ns r
def Ck (ns:List ByteArray) (t:Tm):Ty:=GT ns t.name t.args (DT ns t.args)
theorem Gz (a:List ByteArray) (t:Tm) (r:List Tm):DT a (t::r)=Ck a t::DT a r:=by
 obtain⟨s,l⟩:=t;simp only[DT,Ck]
theorem H4 (a:List ByteArray):DT a []=[]:=by simp[DT]
theorem Qz {D:ByteArray->Prop} {f:ByteArray->ByteArray} (a:Ep D f) {s:ByteArray} (b:D s):∀ {l:List ByteArray},(∀y∈l,D y)->Bz (f s) (l.map f)=Bz s l
 | [],_=>rfl
 |n::r,h=>by
  simp only[Cu,Bz];rw[Qz a b (l:=r) λy hy=>h y (by simp[hy])];by_cases e:n=s
  ·rw[Aq e,Aq (by rw[e])]
  ·rw[Am e,Am λe2=>e (a.inj _ _ (h n (by simp)) b e2)]
theorem Wz {D:ByteArray->Prop} {f:ByteArray->ByteArray} (b:Ep D f) {a:List ByteArray} (c:∀y∈a,D y) (l:List Tm):AV D l->DT (a.map f) (Cr f l)=DT a l:=by
 induction l using Tm.indL with
 |h0=>intro _; simp[Cr,DT]
 |h s l r d e=>intro h;obtain⟨h1,h2,h3⟩:=AV.cons.1 h;simp only[Cr,DT];rw[d h2,e h3];unfold GT;rw[Nq,Qz b h1 c]
theorem WA {D:ByteArray->Prop} {f:ByteArray->ByteArray} (a:Ep D f) {t:Tm} (ht:AV D [t]):Ck (AR [] (Aw [BN f t])) (BN f t)=Ck (AR [] (Aw [t])) t:=by
 have b:=PD a ht;rw[b.1];have h:=Wz a b.2 [t] ht;rw[Gf,Gz,Gz,I5,Hm,H4]at h;exact(List.cons.inj h).1
theorem WB {s:ByteArray} (a:Av s=true) {acc:List ByteArray}:s∈CH acc s:=by
 unfold CH;rw[a];cases h:Cd s acc with
 |true=>simp; exact J0.1 h
 |false=>simp
theorem WC {acc:List ByteArray} {s y:ByteArray} (h:y∈acc):y∈CH acc s:=by
 unfold CH;split
 ·simp[h]
 ·exact h
theorem WD (a:List Tm):∀acc,∃r,AR acc a=acc++r:=by
 induction a with
 |nil=>intro acc; exact⟨[],by simp[AR]⟩
 |cons k q b=>
  intro acc;obtain⟨r,c⟩:=b (CH acc k.name);rw[show AR acc (k::q)=AR (CH acc k.name) q from rfl,c];unfold CH;split
  ·exact⟨[k.name]++r,by simp⟩
  ·exact⟨r,rfl⟩
theorem WE {ls:List Bd} (e:∀d∈ls,Av d.nm=true):∀l:List Tm,AW l->fL ls l=An ls l:=by
 intro l;induction l using Tm.indL with
 |h0=>intro _; simp[fL,An]
 |h s a r f g=>
  intro h;obtain⟨h1,h2,h3⟩:=AW.cons.1 h;rw[fL,An,f h2,g h3];congr 1
  unfold fN Gb;rcases h1 with ⟨e1,e2⟩|⟨e1,e2⟩
  ·have b:Av s=true:=e1;have i:a=[]:=e2;rw[b,i];cases AC ls s<;>rfl
  ·have b:s=⟨#[102]⟩:=e1;have c:Av s=false:=by rw[b]; decide
   rw[c];cases j:AC ls s with
   |none=>rfl
   |some x=>obtain⟨d,hd,e3,_⟩:=Fl j;have:=e d hd;rw[e3,c]at this;cases this
theorem WF {ls:List Bd} (b:∀d∈ls,Av d.nm=true) {t:Tm} (h:AW [t]):fT ls t=Af ls t:=by
 have h1:=WE b [t] h;obtain⟨s,a⟩:=t;rw[fL,An]at h1;exact(List.cons.inj h1).1
def GU:List (ByteArray×Value)->ByteArray->Value->List (ByteArray×Value)
 | [],_,_=>[]
 |p::r,n,v=>if p.1=n then (p.1,v)::r else p::GU r n v
theorem QC (n:ByteArray) (x:Value):∀(l:List MapEntry) (L:List (ByteArray×Value)) (i:Nat) (v:Value),l.map (λe=>(e.key,e.val))=L.map (λp=>(Value.string p.1,p.2))->BG L n=some v->
  ∃j e,Instr.findNow .string (.string n) l i=some (some (i+j,v))/\l[j]? = some e/\e.key=.string n/\(l.modify j λe=>{ e with key:=.string n,val:=x}).map (λe=>(e.key,e.val))=(GU L n x).map (λp=>(Value.string p.1,p.2))
 | [],[],i,v,h,a=>by simp[BG] at a
 | [],p::L,i,v,h,a=>by simp at h
 |e::l,[],i,v,h,a=>by simp at h
 |e::l,p::L,i,v,h,a=>by
  simp only[Cu,FT,Fi] at h;obtain⟨⟨hk,he⟩,ht⟩:=h;by_cases b:p.1=n
  ·have c:Instr.sameNow .string (.string n) e.key=some true:=(by rw[hk,b];show some (n==n)=some true;rw[show(n==n)=true from (KE _ _).2 rfl]);simp only[BG,b,if_true,Il] at a;refine⟨0,e,by simp[Instr.findNow,c,he,a],rfl,by rw[hk,b],?_⟩;simp[GU,b,ht]
  ·have c:Instr.sameNow .string (.string n) e.key=some false:=by
    rw[hk];show some (n==p.1)=some false;have hb:(n==p.1)=false:=by
     cases d:(n==p.1) with
     |false=>rfl
     |true=>exact absurd ((KE _ _).1 d).symm b
    rw[hb]
   rw[BG,Am b]at a;obtain⟨j,e',h1,h2,h3,f⟩:=QC n x l L (i+1) v ht a;refine⟨j+1,e',by simp[Instr.findNow,c,h1]; omega,by simpa using h2,h3,?_⟩;rw[GU,Am b];simp[List.modify_succ_cons,f,hk,he]
theorem WG {P:Program} {w:World} {T a c:TypeId} {r:Nat} {L:List (ByteArray×Value)} {z:Value} (hm:P.underlying T=some (.map a c)) (hk:P.underlying a=some .string) (hz:(zeroValue c).run P w=.ok z w) (h:BC w r L) (n:ByteArray):
  (Instr.lookup T (.map (some r)) (.string n) false).run P w=.ok ((BG L n).getD z) w:=by
 obtain⟨es,ab,hb,he,aa⟩:=h;obtain⟨h1,h2⟩:=Li n es.toList L 0 he;have hc:∀b,(Instr.checkKey b 10000 a (.string n)).run P w=.ok () w:=λb=>JM (k:=.string n) hk (by simp[MapKept.IsKey]) b 9999;cases d:BG L n with
 |none=>simp[Instr.lookup,Fj hm,Gp hb,hc,Ho hk (h1 d),Result.andThen,hz]
 |some v=>obtain⟨j,e⟩:=h2 v d;simp[Instr.lookup,Fj hm,Gp hb,hc,Ho hk e,Result.andThen]
theorem WH {P:Program} {w:World} {T a f:TypeId} {r:Nat} {L:List (ByteArray×Value)} (hm:P.underlying T=some (.map a f)) (hk:P.underlying a=some .string) (h:BC w r L) (n:ByteArray) (v c:Value) (g:BG L n=some c):
  ∃w',(Instr.mapUpdate T (.map (some r)) (.string n) v).run P w=.ok () w'/\BC w' r (GU L n v)/\w'.heap.size=w.heap.size/\w'.os=w.os/\w'.tape=w.tape/\w'.output=w.output/\(∀b,b≠r->w'.heap[b]? = w.heap[b]?):=by
 obtain⟨es,i,hb,he,l⟩:=h;obtain⟨j,m,h1,h2,h3,o⟩:=QC n v es.toList L 0 c he g;have hc:(Instr.checkKey false 10000 a (.string n)).run P w=.ok () w:=JM (k:=.string n) hk (by simp[MapKept.IsKey]) false 9999;have q:es[j]? = some m:=by simpa using h2
 rw[Hq]at h1;have s:(Instr.keyThatStays (.string n) (.string n)).run P w=.ok (.string n) w:=MapKept.run_keyThatStays (d:=.string) (by simp[MapKept.IsKey]);refine⟨{ w with heap:=w.heap.setIfInBounds r (.map (es.modify j λe=>{ e with key:=.string n,val:=v}) i)},?_,⟨_,_,(Hp hb).1,by rw[Array.toList_modify]; exact o,l.modify _ _ _⟩,by simp,rfl,rfl,rfl,λb t=>(Hp hb).2 b t⟩;simp[Instr.mapUpdate,Fj hm,Gp hb,hc,Ho hk h1,q,h3,s,MapKept.run_setObj_map _ hb,Result.andThen]
open Go.ChangeMaps (setBlock)
def DG (w:World) (b r:Nat) (L rem:List (ByteArray×Value)):Prop:=
 ∃es clk since seen c0,w.heap[b]? = some (.map es clk)/\es.toList.map (λe=>(e.key,e.val))=L.map (λp=>(Value.string p.1,p.2))/\FZ es clk/\
  w.heap[r]? = some (.mapIter (some b) since seen c0)/\(∀x∈es.toList,x.born<since)/\since<=c0/\since<=clk/\
  (leftOf es seen).toList.map (λe=>(e.key,e.val))=rem.map (λp=>(Value.string p.1,p.2))
def QE (w:World) (b r:Nat):Nat:=
 match w.heap[b]?,w.heap[r]? with
 |some (.map es _),some (.mapIter _ _ seen _)=>(leftOf es seen).size
 |_,_=>0
theorem DG.left {w:World} {b r:Nat} {L rem:List (ByteArray×Value)} (h:DG w b r L rem):QE w b r=rem.length:=by
 obtain⟨es,aa,since,seen,c0,hb,_,_,a,_,_,_,c⟩:=h;have:=Dl List.length c;simp only[Gs,Array.length_toList] at this;simp only[QE,hb,a];exact this
theorem DG.map {w:World} {b r:Nat} {L rem:List (ByteArray×Value)} (h:DG w b r L rem):BC w b L:=by
 obtain⟨es,a,since,seen,c0,hb,he,c,_⟩:=h;exact⟨es,a,hb,he,c⟩
theorem DG.ne {w:World} {b r:Nat} {L rem:List (ByteArray×Value)} (h:DG w b r L rem):r≠b:=by
 obtain⟨es,aa,since,seen,c0,hb,he,hs,a,_⟩:=h;intro e;rw[e,hb]at a;cases a
theorem DG.lt {w:World} {b r:Nat} {L rem:List (ByteArray×Value)} (h:DG w b r L rem):r<w.heap.size:=by
 obtain⟨es,aa,since,seen,c0,hb,he,hs,a,_⟩:=h;exact(Fh.1 a).1
theorem DG.kept {w w':World} {b r:Nat} {L rem:List (ByteArray×Value)} (h:DG w b r L rem) (a:w'.heap[b]? = w.heap[b]?) (c:w'.heap[r]? = w.heap[r]?):DG w' b r L rem:=by
 obtain⟨es,d,since,seen,c0,hb,he,e,f,rest⟩:=h;exact⟨es,d,since,seen,c0,a.trans hb,he,e,c.trans f,rest⟩
theorem DG.below {w w':World} {b r B:Nat} {L rem:List (ByteArray×Value)} (h:DG w b r L rem) (hb:Below B w w') (h1:b<B) (h2:r<B):DG w' b r L rem:=h.kept (hb.block b h1) (hb.block r h2)
theorem BC.range {P:Program} {w:World} {T c d:TypeId} {b:Nat} {L:List (ByteArray×Value)} (h:BC w b L) (hm:P.underlying T=some (.map c d)):
  ∃o,(Instr.range T (.map (some b))).run P w=.ok (zC w.heap.size) (w.alloc o)/\DG (w.alloc o) b w.heap.size L L:=by
 have f:=h.lt;obtain⟨es,a,hb,he,e⟩:=h;refine⟨_,run_range_map w T c d b es a hm hb,es,a,a,#[],a,(BH _ _ _ f).trans hb,he,e,Ik w _,e.1,Ag _,Ag _,?_⟩;rw[<-he];congr 1
 simp[leftOf]
theorem WI {l:List MapEntry} {L:List (ByteArray×Value)} (h:l.map (λe=>(e.key,e.val))=L.map (λp=>(Value.string p.1,p.2))) {e:MapEntry} (he:e∈l):∃p∈L,e.key=.string p.1/\e.val=p.2:=by
 have:(e.key,e.val)∈L.map (λp=>(Value.string p.1,p.2)):=by rw[<-h]; exact Cv.2 ⟨e,he,rfl⟩
 obtain⟨p,hp,e2⟩:=Cv.1 this;simp only[Fi] at e2;exact⟨p,hp,e2.1.symm,e2.2.symm⟩
theorem ND (seen:Array Nat) (e:MapEntry):∀(l:List MapEntry) (R:List (ByteArray×Value)),(l.map (·.born)).Nodup->e∈l->seen.contains e.born=false->(l.filter λx=>!seen.contains x.born).map (λe=>(e.key,e.val))=R.map (λp=>(Value.string p.1,p.2))->
  ∃p c,e.key=.string p.1/\e.val=p.2/\R.Perm (p::c)/\(l.filter λx=>!(seen.push e.born).contains x.born).map (λe=>(e.key,e.val))=c.map (λp=>(Value.string p.1,p.2))
 | [],R,_,he,_,_=>by cases he
 |a::l,R,k,he,f,b=>by
  simp only[Cu,List.nodup_cons] at k;obtain⟨m,n⟩:=k;by_cases g:a.born=e.born
  ·have r:e=a:=by
    rcases Cn.1 he with h|h
    ·exact h
    ·exact absurd (Cv.2 ⟨e,h,g.symm⟩) m
   subst r;have s:(!seen.contains e.born)=true:=by rw[f]; rfl
   rw[Gt (by simpa using s)]at b;match R,b with
   |p::c,b=>
    simp only[Cu,FT,Fi] at b;refine⟨p,c,b.1.1,b.1.2,List.Perm.refl _,?_⟩;rw[GL (by simp),<-b.2];congr 1
    refine List.filter_congr λx hx=>?_;have t:x.born≠e.born:=λh=>m (Cv.2 ⟨x,hx,h⟩);simp[t]
  ·have o:e∈l:=by
    rcases Cn.1 he with h|h
    ·exact absurd (by rw[h]) g
    ·exact h
   by_cases d:seen.contains a.born=true
   ·rw[GL (by simpa using d)]at b;obtain⟨p,c,h1,h2,h3,i⟩:=ND seen e l R n o f b;refine⟨p,c,h1,h2,h3,?_⟩;rw[GL (by simp at d ⊢; exact λh=>absurd d h),i]
   ·have j:seen.contains a.born=false:=(by simpa using d);rw[Gt (by simpa using j)]at b;match R,b with
    |q::u,b=>simp only[Cu,FT] at b;obtain⟨p,c,h1,h2,h3,i⟩:=ND seen e l u n o f b.2;refine⟨p,q::c,h1,h2,(List.Perm.cons q h3).trans (List.Perm.swap p q c),?_⟩;rw[Gt (by simp at j ⊢; exact⟨j,g⟩),Cu,Cu,i,b.1]
theorem DG.next {P:Program} {w:World} {b r:Nat} {L rem:List (ByteArray×Value)} (h:DG w b r L rem) (ty:TypeId):
  (rem=[]/\(Instr.next (zC r) false ty).run P w=.ok (.tuple #[.bool false]) w)∨
  ∃p d w',rem.Perm (p::d)/\(Instr.next (zC r) false ty).run P w=.ok (.tuple #[.bool true,.string p.1,p.2]) w'/\DG w' b r L d/\
   w'.heap.size=w.heap.size/\w'.os=w.os/\w'.tape=w.tape/\w'.output=w.output/\(∀j,j≠r->w'.heap[j]? = w.heap[j]?)/\(Instr.entry (zC r)).run P w'=.ok (.tuple #[.string p.1,p.2]) w':=by
 have s:=h.ne;obtain⟨es,a,since,seen,c0,hb,he,i,k,hold,t,l,m⟩:=h;rcases run_next_at (P:=P) w ty r b since c0 seen es a k hb hold t with ⟨h0,f⟩|⟨e,u,w1,c,f⟩
 ·refine Ad ⟨?_,f⟩;have:=Dl List.length m;simp only[Gs,Array.length_toList,h0] at this;exact GJ.1 this.symm
 ·obtain⟨n,v⟩:=mem_left u;have y:(es.toList.filter λx=>!seen.contains x.born).map (λe=>(e.key,e.val))=rem.map (λp=>(Value.string p.1,p.2)):=by
   rw[<-m]; unfold leftOf; rw[Array.toList_filter]
  obtain⟨p,d,hk,o,z,A⟩:=ND seen e es.toList rem i.2 n v y;have ar:w1.heap[r]? = some (.mapIter (some b) since seen c0):=by rcases c with rfl|rfl<;>exact k
  have B:w1.heap[b]? = some (.map es a):=by rcases c with rfl|rfl<;>exact hb
  have g:=Hp (o':=.mapIter (some b) since (seen.push e.born) a) ar;have q:(setBlock w1 r (.mapIter (some b) since (seen.push e.born) a)).heap[b]? = some (.map es a):=(g.2 b (λe1=>s e1.symm)).trans B;rw[hk,o]at f;refine Ae ⟨p,d,_,z,f,⟨es,a,since,seen.push e.born,a,q,he,i,g.1,hold,l,l,?_⟩,?_,?_,?_,?_,?_,?_⟩
  ·rw[<-A]; unfold leftOf; rw[Array.toList_filter]
  ·rcases c with rfl|rfl<;>simp[setBlock]
  ·rcases c with rfl|rfl<;>rfl
  ·rcases c with rfl|rfl<;>rfl
  ·rcases c with rfl|rfl<;>rfl
  ·intro j C;have:=g.2 j C;rcases c with rfl|rfl<;>exact this
  ·have:=run_entry_at (P:=P) _ r b since seen es a e g.1 q n i.2;rw[hk,o]at this;exact this
def Iz:List (ByteArray×Value)->ByteArray->List (ByteArray×Value)
 | [],_=>[]
 |p::r,n=>if p.1=n then r else p::Iz r n
theorem QG (n:ByteArray) (q:MapEntry->Bool):∀(l:List MapEntry) (L:List (ByteArray×Value)) (i:Nat),l.map (λe=>(e.key,e.val))=L.map (λp=>(Value.string p.1,p.2))->(∀e∈l,e.key=.string n->q e=false)->
  (BG L n=none->Iz L n=L)/\(∀v,BG L n=some v->∃j,Instr.findNow .string (.string n) l i=some (some (i+j,v))/\j<l.length/\(l.eraseIdx j).map (λe=>(e.key,e.val))=(Iz L n).map (λp=>(Value.string p.1,p.2))/\(l.eraseIdx j).filter q=l.filter q)
 | [],[],i,h,_=>⟨λ_=>rfl,λv b=>by simp[BG] at b⟩
 | [],p::L,i,h,_=>by simp at h
 |e::l,[],i,h,_=>by simp at h
 |e::l,p::L,i,h,hq=>by
  simp only[Cu,FT,Fi] at h;obtain⟨⟨hk,he⟩,ht⟩:=h;obtain⟨g,k⟩:=QG n q l L (i+1) ht λe he=>hq e (by simp[he]);by_cases a:p.1=n
  ·have d:Instr.sameNow .string (.string n) e.key=some true:=(by rw[hk,a];show some (n==n)=some true;rw[show(n==n)=true from (KE _ _).2 rfl]);refine⟨λh=>by simp[BG,a] at h,λv b=>?_⟩;simp only[BG,a,if_true,Il] at b;refine⟨0,by simp[Instr.findNow,d,he,b],by simp,?_,?_⟩
   ·simp[Iz,a,ht]
   ·rw[List.eraseIdx_cons_zero,GL (by rw[hq e (by simp) (by rw[hk,a])]; simp)]
  ·have d:Instr.sameNow .string (.string n) e.key=some false:=by
    rw[hk];show some (n==p.1)=some false;have hb:(n==p.1)=false:=by
     cases m:(n==p.1) with
     |false=>rfl
     |true=>exact absurd ((KE _ _).1 m).symm a
    rw[hb]
   refine⟨λh=>?_,λv b=>?_⟩
   ·rw[BG,Am a]at h;rw[Iz,Am a,g h]
   ·rw[BG,Am a]at b;obtain⟨j,h1,h2,h3,f⟩:=k v b;refine⟨j+1,by simp[Instr.findNow,d,h1]; omega,by simpa using h2,?_,?_⟩
    ·rw[Iz,Am a]; simp[h3,hk,he]
    ·rw[List.eraseIdx_cons_succ];cases c:q e with
     |true=>rw[Gt c,Gt c,f]
     |false=>rw[GL (by simp[c]),GL (by simp[c]),f]
theorem DG.drop {P:Program} {w:World} {T a m ty:TypeId} {b r:Nat} {L rem:List (ByteArray×Value)} (h:DG w b r L rem) (hm:P.underlying T=some (.map a m)) (hk:P.underlying a=some .string) (n:ByteArray) (o:∀p∈rem,p.1≠n) (v:Value) (q:BG L n=some v):
  ∃w',(Builtin.delete_ #[T,a] ty #[.map (some b),.string n]).run P w=.ok (.tuple #[]) w'/\DG w' b r (Iz L n) rem/\w'.heap.size=w.heap.size/\w'.os=w.os/\w'.tape=w.tape/\w'.output=w.output/\(∀j,j≠b->w'.heap[j]? = w.heap[j]?):=by
 have s:=h.ne;obtain⟨es,d,since,seen,c0,hb,he,f,t,hold,u,y,z⟩:=h;have g:(es.toList.filter λx=>!seen.contains x.born).map (λe=>(e.key,e.val))=rem.map (λp=>(Value.string p.1,p.2)):=(by rw[<-z]; unfold leftOf; rw[Array.toList_filter]);have hq:∀e∈es.toList,e.key=.string n->(!seen.contains e.born)=false:=λe A B=>by
  cases hc:seen.contains e.born with
  |true=>rfl
  |false=>obtain⟨p,hp,h1,_⟩:=WI g (List.mem_filter.2 ⟨A,by rw[hc]; rfl⟩);rw[B]at h1;exact absurd (Value.string.inj h1).symm (o p hp)
 obtain⟨j,h1,h2,h3,C⟩:=(QG n (λx=>!seen.contains x.born) es.toList L 0 he hq).2 v q;rw[Hq]at h1;have hc:∀b,(Instr.checkKey b 10000 a (.string n)).run P w=.ok () w:=λb=>JM (k:=.string n) hk (by simp[MapKept.IsKey]) b 9999;have c:(es.eraseIdxIfInBounds j).toList=es.toList.eraseIdx j:=by
  unfold Array.eraseIdxIfInBounds;rw[dif_pos (by simpa using h2)];simp
 have l:∀x∈(es.eraseIdxIfInBounds j).toList,x∈es.toList:=λx hx=>by rw[c] at hx; exact(List.eraseIdx_sublist _ _).subset hx
 refine⟨setBlock w b (.map (es.eraseIdxIfInBounds j) d),?_,⟨es.eraseIdxIfInBounds j,d,since,seen,c0,(Hp hb).1,by rw[c]; exact h3,⟨λx hx=>f.1 x (l x hx),?_⟩,((Hp hb).2 r s).trans t,λx hx=>hold x (l x hx),u,y,?_⟩,by simp[setBlock],rfl,rfl,rfl,λi hi=>(Hp hb).2 i hi⟩
 ·simp[Builtin.delete_,Fj hm,Gp hb,hc,Ho hk h1,MapKept.run_setObj_map _ hb,Result.andThen,setBlock]
 ·rw[c];exact f.2.sublist ((List.eraseIdx_sublist _ _).map _)
 ·unfold leftOf;rw[Array.toList_filter,c,C];exact g
theorem Tryz.infoBind:(prog.info? 93).map (λi=>(i.zero,i.size,i.bytes))=some (some (.agg #[.string ByteArray.empty,.string ByteArray.empty,zB]),3,56):=by kernel_rfl
theorem LW (w:World) (c0 c1 c2:Value) (T:Nat):∀j u,[c0,c1,c2][j]? = some u->(w.alloc (.cells #[c0,c1,c2] T)).cell? (((zD w.heap.size 0):Addr).add j)=some u:=
 World.news_of_block (cs:=#[c0,c1,c2]) (Ik w _)
theorem NE {w w1:World} {N:Nat} {Y:Nat->Prop} {v:Value} {cs:List Bc} (h:Cm w N Y v cs) (c:N<=w.heap.size) (d:∀b,Y b->b<N) (hb:Below w.heap.size w w1) (x:Bc) (ht:Sl w1 (λb=>Y b∨w.heap.size<=b) x.2.1 x.1.t.args) (hn:cs.length<=1000000) (A:Nat) (e:w1.heap.size=A):
  ∃v2 w3,(Builtin.append_ #[63,63] 63 #[v,.slice (some (zD A 0)) 1 1]).run prog (w1.alloc (.cells #[.string x.1.nm,.string x.1.t.name,.slice x.2.1 x.1.t.args.length x.2.2] 93))=.ok v2 w3/\Cm w3 N Y v2 (cs++[x])/\
   (w1.alloc (.cells #[.string x.1.nm,.string x.1.t.name,.slice x.2.1 x.1.t.args.length x.2.2] 93)).grownBy w3 v.ownBlock:=by
 subst e;obtain⟨i0,hi,f,i,j⟩:=Dq Tryz.infoBind;have hs:=hb.size;obtain⟨g,cap,w3,k,ho,a,l,hlt⟩:=run_append_lies (P:=prog) (w:=w1.alloc (.cells #[.string x.1.nm,.string x.1.t.name,.slice x.2.1 x.1.t.args.length x.2.2] 93)) 63 63 N 93 i0 _ 3 56 underlying63 hi f i j rfl (by decide) v cs.length (DA cs) ((h.below hb).own.alloc _)
  (zD w1.heap.size 0) 1 1 (DX x) rfl (LW _ _ _ _ _) (λy hy=>by simp[DX] at hy; rcases hy with rfl|rfl|rfl<;>rfl) (by decide) (by unfold maxLen; omega) (by omega) (by simp; omega) _ rfl
 exact⟨_,w3,k,h.push c d hb ht _ rfl ho a l,a⟩
abbrev Pc:=Pr×(Option Addr×Nat)×(Option Addr×Nat)
instance:Inhabited Pc:=⟨(⟨⟨⟨#[]⟩,[]⟩,⟨⟨#[]⟩,[]⟩⟩,(none,0),(none,0))⟩
def D3 (x:Pc):List Value:=[.string x.1.l.name,.slice x.2.1.1 x.1.l.args.length x.2.1.2,.string x.1.r.name,.slice x.2.2.1 x.1.r.args.length x.2.2.2]
def Da:List Pc->List Value
 | []=>[]
 |x::r=>D3 x++Da r
theorem LX (b:List Pc):∀a,Da (a++b)=Da a++Da b
 | []=>rfl
 |x::r=>by rw[Di,Da,Da,LX b r,IX]
theorem QH:∀a:List Pc,(Da a).length=a.length*4
 | []=>rfl
 |x::r=>by rw[Da,Ed,QH r]; simp[D3]; omega
theorem Jd:∀(a:List Pc) (i:Nat) (h:i<a.length) (j:Nat),j<4->(Da a)[i*4+j]? = (D3 a[i])[j]?
 | [],i,h,j,b=>by simp at h
 |x::r,0,h,j,b=>by
  rw[Da,MO (by simp[D3]; omega)]; simp
 |x::r,i+1,h,j,b=>by
  rw[Da,Oy (by simp[D3]; omega)];have e:(i+1)*4+j-(D3 x).length=i*4+j:=by simp[D3]; omega
  rw[e,Jd r i (by simpa using h) j b];simp
structure Er (w:World) (N:Nat) (Y:Nat->Prop) (v:Value) (cs:List Pc):Prop where
 own:w.ownsRow N 89 4 v cs.length (Da cs)
 row:∀x∈cs,Sl w (λb=>Y b∨(N<=b/\some b≠v.ownBlock)) x.2.1.1 x.1.l.args/\Sl w (λb=>Y b∨(N<=b/\some b≠v.ownBlock)) x.2.2.1 x.1.r.args
theorem Er.start (w:World) (N:Nat) (Y:Nat->Prop):Er w N Y zB []:=⟨Hn w N _ 4,by simp⟩
theorem Er.below {w w':World} {N:Nat} {Y:Nat->Prop} {v:Value} {cs:List Pc} (h:Er w N Y v cs) (hb:Below w.heap.size w w'):Er w' N Y v cs:=
 ⟨h.own.kept (w' := w') (row := none) ⟨hb.os, hb.tape, hb.output, hb.size, λj a _ => hb.block j a⟩ (by rcases IV (Value.ownBlock v) with h | ⟨x, h⟩; exact Ad h; exact Ae (by rw [h]; simp)),
  λx hx=>⟨(h.row x hx).1.later hb,(h.row x hx).2.later hb⟩⟩
theorem Er.ne {w:World} {N:Nat} {Y:Nat->Prop} {v:Value} {cs:List Pc} (h:Er w N Y v cs) {b:Nat} (hb:b<N):some b≠v.ownBlock:=λe=>by
 have:=(h.own.lt b e.symm).1; omega
theorem Er.push {w w1 w2 w3:World} {N:Nat} {Y:Nat->Prop} {v:Value} {cs:List Pc} (h:Er w N Y v cs) (hN:N<=w.heap.size) (i:∀b,Y b->b<N) (hb:Below w.heap.size w w1) {x:Pc}
  (ht:Sl w1 (λb=>Y b∨w.heap.size<=b) x.2.1.1 x.1.l.args/\Sl w1 (λb=>Y b∨w.heap.size<=b) x.2.2.1 x.1.r.args) (o:Obj) (m:w2=w1.alloc o) {g cap:Nat}
  (n:w3.ownsRow N 89 4 (.slice (some (zD g 0)) (cs.length+1) cap) (cs.length+1) (Da cs++D3 x)) (j:w2.grownBy w3 v.ownBlock) (c:v.ownBlock=some g∨g=w2.heap.size):
  Er w3 N Y (.slice (some (zD g 0)) (cs.length+1) cap) (cs++[x]):=by
 subst m;have d:=h.own.lt;have af:w1.heap.size<=(w1.alloc o).heap.size:=by simp
 have ag:=hb.size;have ah:N<=g:=by
  rcases c with e|e
  ·exact(d g e).1
  ·simp at e; omega
 have k:∀(a:Option Addr) (l:List Tm),Sl w (λb=>Y b∨(N<=b/\some b≠v.ownBlock)) a l->Sl w3 (λb=>Y b∨(N<=b/\some b≠(Value.slice (some (zD g 0)) (cs.length+1) cap).ownBlock)) a l:=λa l h0=>by
  have h1:Sl w (λb=>(Y b∨(N<=b/\some b≠v.ownBlock))/\b<w.heap.size) a l:=h0.mono λb h1 h2=>⟨h1,h2⟩;have h2:Sl w3 (λb=>(Y b∨(N<=b/\some b≠v.ownBlock))/\b<w.heap.size) a l:=h1.kept λb hx=>by
   have f:some b≠v.ownBlock:=by
    rcases hx.1 with hy|hy
    ·exact h.ne (i b hy)
    ·exact hy.2
   rw[j.block b (by simp; omega) f,BH _ _ _ (by omega),hb.block b hx.2]
  refine h2.mono λb hx _=>?_;rcases hx.1 with hy|hy
  ·exact Ad hy
  ·refine Ae ⟨hy.1,λe=>?_⟩;simp[Value.ownBlock]at e;rcases c with e'|e'
   ·exact hy.2 (by rw[e',e])
   ·simp at e'; omega
 have new:∀(a:Option Addr) (l:List Tm),Sl w1 (λb=>Y b∨w.heap.size<=b) a l->Sl w3 (λb=>Y b∨(N<=b/\some b≠(Value.slice (some (zD g 0)) (cs.length+1) cap).ownBlock)) a l:=λa l h0=>by
  have h1:Sl w1 (λb=>(Y b∨w.heap.size<=b)/\b<w1.heap.size) a l:=h0.mono λb h1 h2=>⟨h1,h2⟩;have h2:Sl w3 (λb=>(Y b∨w.heap.size<=b)/\b<w1.heap.size) a l:=h1.kept λb hx=>by
   have f:some b≠v.ownBlock:=by
    rcases hx.1 with hy|hy
    ·exact h.ne (i b hy)
    ·intro e; have:=(d b e.symm).2; omega
   rw[j.block b (by simp; omega) f,BH _ _ _ hx.2]
  refine h2.mono λb hx _=>?_;rcases hx.1 with hy|hy
  ·exact Ad hy
  ·refine Ae ⟨by omega,λe=>?_⟩;simp[Value.ownBlock]at e;rcases c with e'|e'
   ·have:=(d g e').2; omega
   ·simp at e'; omega
 refine⟨by rw[LX]; simpa [Da] using n,λy hy=>?_⟩;rcases BJ.1 hy with hy|hy
 ·exact⟨k _ _ (h.row y hy).1,k _ _ (h.row y hy).2⟩
 ·have e:y=x:=by simpa using hy
  subst e;exact⟨new _ _ ht.1,new _ _ ht.2⟩
theorem Er.qv {w:World} {N:Nat} {Y:Nat->Prop} {v:Value} {cs:List Pc} (h:Er w N Y v cs):QV w (λb=>Y b∨N<=b) v (cs.map (·.1)):=by
 have d:cs.length<=9223372036854775807:=by
  rcases h.own.2 with ⟨_,h0⟩|⟨g,cap,cur,_,_,_,h1,h2,_⟩
  ·omega
  ·unfold maxLen at h2; omega
 by_cases h0:0<cs.length
 ·obtain⟨g,cap,rfl,f,hlt,hc⟩:=EU h.own h0;have j:cs.length<=cap:=by
   rcases h.own.2 with ⟨e,_⟩|⟨g',ae,cur,e,_,_,h1,_⟩
   ·cases e
   ·simp at e; omega
  refine⟨_,cap,by simp,⟨by simpa using d,by simpa using j⟩,Ae ⟨g,0,rfl,Ae f,λi hi=>?_⟩⟩;have a:i<cs.length:=by simpa using hi
  have g0:=hc (i*4+0) (.string cs[i].1.l.name) (by rw[Jd cs i a 0 (by decide)]; rfl);have g1:=hc (i*4+1) (.slice cs[i].2.1.1 cs[i].1.l.args.length cs[i].2.1.2) (by rw[Jd cs i a 1 (by decide)]; rfl);have g2:=hc (i*4+2) (.string cs[i].1.r.name) (by rw[Jd cs i a 2 (by decide)]; rfl);have g3:=hc (i*4+3) (.slice cs[i].2.2.1 cs[i].1.r.args.length cs[i].2.2.2) (by rw[Jd cs i a 3 (by decide)]; rfl);simp only[Im,Hq];obtain⟨k,m⟩:=h.row cs[i] (Bu a);exact⟨_,_,_,_,g0,g1,g2,g3,k.mono λb hb _=>hb.imp id (λh=>h.1),m.mono λb hb _=>hb.imp id (λh=>h.1)⟩
 ·have e:cs=[]:=GJ.1 (by omega);subst e;rcases h.own.2 with ⟨c,_⟩|⟨g,cap,cur,c,_⟩
  ·exact⟨none,0,c,by simp,Ad rfl⟩
  ·exact⟨_,_,c,by simp,Ad rfl⟩
theorem Tryz.infoPair:(prog.info? 89).map (λi=>(i.zero,i.size,i.bytes))=some (some (.agg #[.string ByteArray.empty,zB,.string ByteArray.empty,zB]),4,80):=by kernel_rfl
theorem QI (w:World) (c0 c1 c2 c3:Value) (T:Nat):∀j u,[c0,c1,c2,c3][j]? = some u->(w.alloc (.cells #[c0,c1,c2,c3] T)).cell? (((zD w.heap.size 0):Addr).add j)=some u:=
 World.news_of_block (cs:=#[c0,c1,c2,c3]) (Ik w _)
structure Ak (Q:Nat->Prop) (w w':World):Prop where
 os:w'.os=w.os
 tape:w'.tape=w.tape
 output:w'.output=w.output
 size:w.heap.size<=w'.heap.size
 block:∀k,k<w.heap.size->¬Q k->w'.heap[k]? = w.heap[k]?
theorem Ak.refl (Q:Nat->Prop) (w:World):Ak Q w w:=⟨rfl,rfl,rfl,Ag _,λ_ _ _=>rfl⟩
theorem Ak.trans {Q:Nat->Prop} {a b c:World} (h:Ak Q a b) (k:Ak Q b c):Ak Q a c:=
 ⟨k.os.trans h.os,k.tape.trans h.tape,k.output.trans h.output,AN h.size k.size,λi hi d=>(k.block i (BO hi h.size) d).trans (h.block i hi d)⟩
theorem Ak.transN {Q R:Nat->Prop} {a b c:World} (h:Ak Q a b) (k:Ak R b c) (e:∀i,R i->i<a.heap.size->Q i):Ak Q a c:=
 ⟨k.os.trans h.os,k.tape.trans h.tape,k.output.trans h.output,AN h.size k.size,λi hi d=>(k.block i (BO hi h.size) (λf=>d (e i f hi))).trans (h.block i hi d)⟩
theorem Ak.mono {Q R:Nat->Prop} {a b:World} (h:Ak Q a b) (c:∀i,Q i->i<a.heap.size->R i):Ak R a b:=⟨h.os,h.tape,h.output,h.size,λi hi d=>h.block i hi (λhq=>d (c i hq hi))⟩
theorem Ak.drewN {Q:Nat->Prop} {a w:World} (h:Ak Q a w) (n:Nat):Ak Q a (w.drewN n):=⟨h.os,h.tape,h.output,h.size,h.block⟩
theorem Ak.drew {Q:Nat->Prop} {a w:World} (h:Ak Q a w):Ak Q a w.drew:=⟨h.os,h.tape,h.output,h.size,h.block⟩
theorem Ak.set {Q:Nat->Prop} {a w:World} (h:Ak Q a w) {B:Nat} (c:Q B) (i:Nat) (v:Value):Ak Q a (w.setCell (zD B i) v):=
 ⟨h.os,h.tape,h.output,by simpa [World.setCell] using h.size,λk hk b=>(Al _ _ _ _ (by simp; intro e; subst e; exact b c)).trans (h.block k hk b)⟩
theorem Ak.alloc {Q:Nat->Prop} {a w:World} (h:Ak Q a w) (o:Obj):Ak Q a (w.alloc o):=
 ⟨h.os,h.tape,h.output,by have:=h.size; simp; omega,λk hk b=>(BH _ _ _ (BO hk h.size)).trans (h.block k hk b)⟩
theorem Ak.grown {Q:Nat->Prop} {a w w':World} {row:Option Nat} (h:Ak Q a w) (b:w.grownBy w' row) (d:∀k,row=some k->a.heap.size<=k∨Q k):Ak Q a w':=
 ⟨b.os.trans h.os,b.tape.trans h.tape,b.output.trans h.output,AN h.size b.size,λk hk c=>(b.block k (BO hk h.size) (λe=>by rcases d k e.symm with h1|h1; omega; exact c h1)).trans (h.block k hk c)⟩
theorem Ak.setNew {Q:Nat->Prop} {a w:World} (h:Ak Q a w) {b:Nat} (hb:a.heap.size<=b) (i:Nat) (v:Value):Ak Q a (w.setCell (zD b i) v):=
 ⟨h.os,h.tape,h.output,by simpa [World.setCell] using h.size,λk hk c=>(Al _ _ _ _ (by simp; omega)).trans (h.block k hk c)⟩
theorem Ak.ofBelow {Q:Nat->Prop} {w w':World} (h:Below w.heap.size w w'):Ak Q w w':=⟨h.os,h.tape,h.output,h.size,λk hk _=>h.block k hk⟩
theorem Ak.ofEx {Q:Nat->Prop} {B:Nat} {w w':World} (h:Ex B w w') (a:Q B):Ak Q w w':=⟨h.os,h.tape,h.output,h.size,λk hk b=>h.block k hk (λe=>b (by rw[e]; exact a))⟩
theorem Ak.below {Q:Nat->Prop} {w w':World} {B:Nat} (h:Ak Q w w') (hB:B<=w.heap.size) (a:∀b,Q b->B<=b):Below B w w':=
 ⟨h.os,h.tape,h.output,h.size,λk hk=>h.block k (by omega) (λhq=>by have:=a k hq; omega)⟩
theorem Ab.exq {w w':World} {Q:Nat->Prop} {b T:Nat} {cs:Array Value} (h:Ab w b cs T) (he:Ak Q w w') (a:¬Q b):Ab w' b cs T:=by
 unfold Ab at *;rw[he.block b (Ab.lt h) a]; exact h
theorem Sl.exq {w w':World} {Q X:Nat->Prop} {a:Option Addr} {l:List Tm} (h:Sl w X a l) (he:Ak Q w w') (c:∀b,X b->¬Q b):Sl w' X a l:=
 ((h.mono (Y:=λb=>X b/\b<w.heap.size) λb h1 h2=>⟨h1,h2⟩).kept λb hb=>he.block b hb.2 (c b hb.1)).mono λb hb _=>hb.1
theorem Ak.mid {Q:Nat->Prop} {w w1:World} (h:Ak Q w w1):∃a,Below a.heap.size a w1/\a.heap.size=w.heap.size/\Ak Q w a:=by
 have hs:=h.size;have hz:(w1.heap.extract 0 w.heap.size).size=w.heap.size:=by simp; omega
 refine⟨{ w1 with heap:=w1.heap.extract 0 w.heap.size},⟨rfl,rfl,rfl,by simp; omega,λk hk=>?_⟩,hz,⟨h.os,h.tape,h.output,by simp[hz],λk hk b=>?_⟩⟩
 ·have c:k<w.heap.size:=by simp at hk; omega
  simp[Array.getElem?_extract,c];omega
 ·rw[<-h.block k hk b];simp[Array.getElem?_extract,hk];omega
theorem DH {w w':World} {base e size n:Nat} {v:Value} {xs:List Value} (h:w.ownsRow base e size v n xs) (hk:∀g,v.ownBlock=some g->w'.heap[g]? = w.heap[g]?):w'.ownsRow base e size v n xs:=by
 obtain⟨b,h1⟩:=h;refine⟨b,?_⟩;rcases h1 with h1|⟨g,cap,cur,a,c,d,f⟩
 ·exact Ad h1
 ·refine Ae ⟨g,cap,cur,a,c,?_,f⟩;rw[hk g (by rw[a]; rfl)];exact d
theorem Cj.exq {w w':World} {Q:Nat->Prop} {N T:Nat} {Y:Nat->Prop} {v:Value} {l:List Tm} {xs:List Value} (h:Cj w N T Y v l xs) (he:Ak Q w w') (c:∀b,Q b->b<N) (e:∀b,Q b->¬Y b):Cj w' N T Y v l xs:=
 ⟨DH h.own λg d => he.block g (h.own.lt g d).2 (λhq => by have := c g hq; have := (h.own.lt g d).1; omega),
  h.row.imp λa l f=>f.exq he λb hb hq=>by
   rcases hb with h1|h1
   ·exact e b hq h1
   ·have:=c b hq; omega⟩
theorem Cm.exq {w w':World} {Q:Nat->Prop} {N:Nat} {Y:Nat->Prop} {v:Value} {cs:List Bc} (h:Cm w N Y v cs) (he:Ak Q w w') (a:∀b,Q b->b<N) (d:∀b,Q b->¬Y b):Cm w' N Y v cs:=
 ⟨DH h.own λg c => he.block g (h.own.lt g c).2 (λhq => by have := a g hq; have := (h.own.lt g c).1; omega),
  λx hx=>(h.row x hx).exq he λb hb hq=>by
   rcases hb with h1|h1
   ·exact d b hq h1
   ·have:=a b hq; omega⟩
theorem QJ {n:Nat} (h:n<10):Lib.decDigits n=[UInt8.ofNat (48+n)]:=by rw[Lib.decDigits,dif_pos h]
theorem WJ {n:Nat} (h:¬n<10):Lib.decDigits n=Lib.decDigits (n / 10)++Lib.decDigits (n % 10):=by
 conv=>lhs; rw[Lib.decDigits,dif_neg h]
 rw[QJ (n:=n % 10) (by omega)]
theorem QK {a b:ByteArray} (h:a.data.toList=b.data.toList):Ending.returned (.string a)=.returned (.string b):=by
 have:a=b:=by
  obtain⟨⟨x⟩⟩:=a; obtain⟨⟨y⟩⟩:=b; simp at h; rw[h]
 rw[this]
theorem WK (n:Nat):n<=1000000->∀(w:World),Calls prog 64 #[zA n] w λe w'=>e=.returned (.string ⟨(Lib.decDigits n).toArray⟩)/\Below w.heap.size w w':=by
 induction n using Nat.strongRecOn with
 |ind n d=>
  intro hn w;by_cases h:n<10
  ·have a:=Aa (QJ h);generalize Lib.decDigits n=D at a ⊢;have h':(n:Int)<10:=(by omega);have b:48+(n:Int)=((UInt8.ofNat (48+n)).toNat:Int):=by
    have:(UInt8.ofNat (48+n)).toNat=48+n:=by simp; omega
    rw[this]; omega
   have ag:(convert 123 9 (.slice (some (zD w.heap.size 0)) 1 1)).run prog (w.alloc (.cells #[.int .u8 (48+(n:Int))] 5))=.ok (.string ⟨([UInt8.ofNat (48+n)]).toArray⟩) (w.alloc (.cells #[.int .u8 (48+(n:Int))] 5)):=
    run_convert_bytes_back _ 123 9 5 (zD w.heap.size 0) 1 [UInt8.ofNat (48+n)] underlying123 underlying5 underlying9 (λj f=>by
     have k:j=0:=by simp at f; exact f
     subst k;have:=(Ab.new w #[.int .u8 (48+(n:Int))] 5).cell 0;rw[b]at this;rw[b];exact this)
   clear b;go_enter func64,ntmps64;go_wp2_with fail;go_ret;exact⟨QK (by rw[a.o]; simp[UInt8.ofNat_add]),(Ac _ _).alloc (Ag _) _⟩
  ·have g:=Aa d;have a:=Aa (WJ h);clear d;have h':¬(n:Int)<10:=(by omega);have e1:(n:Int) / 10=((n / 10:Nat):Int):=(by omega);have e2:(n:Int) % 10=((n % 10:Nat):Int):=(by omega);have l:=Aa e1;have m:=Aa e2;clear e1 e2;generalize Lib.decDigits n=D at a ⊢;go_enter func64,ntmps64;go_wp2_with fail;rw[l.o];refine(g.o (n / 10) (by omega) (by omega) _).mono ?_;rintro e w1 ⟨rfl,c⟩;go_wp2_with fail;rw[m.o];refine(g.o (n % 10) (by omega) (by omega) _).mono ?_;rintro e w2 ⟨rfl,i⟩;have q:Hid (Below w.heap.size w w2):=c.trans (i.mono c.size);clear c i;have l1:(Lib.decDigits (n / 10)).length<=1000001:=by have:=Lx (n / 10); omega
   have l2:(Lib.decDigits (n % 10)).length<=1000001:=by have:=Lx (n % 10); omega
   go_wp2_with fail;go_ret;exact⟨QK (by rw[a.o]; simp),q.o⟩
def Je (w w':World) (b:Nat) (v v':Value):Prop:=
 w'.os=w.os/\w'.tape=w.tape/\w'.output=w.output/\w.heap.size<=w'.heap.size/\(∀k,k<w.heap.size->k≠b->some k≠v.ownBlock->w'.heap[k]? = w.heap[k]?)/\(∀k,v'.ownBlock=some k->v.ownBlock=some k∨w.heap.size<=k)
theorem Je.refl (w:World) (b:Nat) (v:Value):Je w w b v v:=⟨rfl,rfl,rfl,Ag _,λ_ _ _ _=>rfl,λ_ h=>Ad h⟩
theorem Je.trans {w w1 w2:World} {b:Nat} {v v1 v2:Value} (h:Je w w1 b v v1) (h1:Je w1 w2 b v1 v2):Je w w2 b v v2:=by
 obtain⟨d,a2,a3,a4,a5,a⟩:=h;obtain⟨c1,c2,c3,f,c5,g⟩:=h1;refine⟨c1.trans d,c2.trans a2,c3.trans a3,AN a4 f,λk hk hb c=>?_,λk hk=>?_⟩
 ·refine(c5 k (BO hk a4) hb (λe=>?_)).trans (a5 k hk hb c);rcases a k e.symm with h|h
  ·exact c h.symm
  ·omega
 ·rcases g k hk with h|h
  ·exact a k h
  ·exact Ae (AN a4 h)
